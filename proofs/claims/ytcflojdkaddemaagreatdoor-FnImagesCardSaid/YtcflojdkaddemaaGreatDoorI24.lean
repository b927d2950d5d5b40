/- Parts of the proof. -/
import Derived.Test.YtcflojdkaddemaaGreatDoorI23
namespace Go.Proofs.YtcflojdkaddemaaGreatDoor
open Go.RowKit Go.Lib
set_option maxRecDepth 100000 in
set_option maxHeartbeats 4000000 in
theorem i_progOk (a:Option Addr) (cap:Nat) (X:List LnL) (w:World) (hl:X.length≤1048576) (hcap:X.length≤cap) (hr:ReadL 9 147 w a X) (hz:SzAl X) (hsh:Shapes w) :
  Calls Tryz.prog 57 #[.slice a X.length cap] w (Ans (OkI (plL X)) w):=by
 have C1:=hid (i_linesFit a cap X w (by omega) hr hz hsh);have C2:=hid (fun (W:World) (hb:Below w.heap.size w W)=>i_funFit a cap X W hl (hr.below hb));have C3:=hid (fun (W:World) (hb:Below w.heap.size w W)=>i_funFollow a cap X W hl (hr.below hb));have C4:=hid (fun (W:World) (hb:Below w.heap.size w W)=>i_nesting a cap X W hl (hr.below hb));have C5:=hid (fun (W:World) (hb:Below w.heap.size w W)=>i_elses a cap X W hl (hr.below hb));have C6:=hid (fun (W:World) (hb:Below w.heap.size w W) (he:∀ k ∈ funs (plL X),0≤beZ (plL X) (k:Int))=>i_names a cap X W hl hcap (hr.below hb) hz he);have HL:=hid (linesB_iff (plL X));generalize linesB (plL X)=b1 at *;clear hr hz hsh
 go_enter Tryz.func57,Tryz.ntmps57
 go_wp2_with fail;refine C1.out.mono ?_;rintro e w1 ⟨rfl,q1⟩;have HB1:=hid q1;have z1:=q1.size;clear q1
 cases b1
 ·have HV:Hid (¬ OkI (plL X)):=hid (fun h=>by have:=HL.out.2 h.1;cases this)
  go_wp2;go_ret;exact Ans.of false rfl (by simpa using HV.out) HB1.out
 have H1:=hid (HL.out.1 rfl);go_wp2_with fail;refine (C2.out _ HB1.out).mono ?_;rintro e w2 ⟨b,rfl,hp,q2⟩;have HP:=hid hp;have HB2:Hid (Below w.heap.size w w2):=hid (HB1.out.trans (q2.mono z1));have z2:=HB2.out.size;clear q2 hp
 cases b
 ·have HV:Hid (¬ OkI (plL X)):=hid (fun h=>by have:=HP.out.2 h.2.1;cases this)
  go_wp2;go_ret;exact Ans.of false rfl (by simpa using HV.out) HB2.out
 have H2:=hid (HP.out.1 rfl);clear HP;go_wp2_with fail;refine (C3.out _ HB2.out).mono ?_;rintro e w3 ⟨b,rfl,hp,q3⟩;have HP:=hid hp;have HB3:Hid (Below w.heap.size w w3):=hid (HB2.out.trans (q3.mono z2));have z3:=HB3.out.size;clear q3 hp
 cases b
 ·have HV:Hid (¬ OkI (plL X)):=hid (fun h=>by have:=HP.out.2 h.2.2.1;cases this)
  go_wp2;go_ret;exact Ans.of false rfl (by simpa using HV.out) HB3.out
 have H3:=hid (HP.out.1 rfl);clear HP;go_wp2_with fail;refine (C4.out _ HB3.out).mono ?_;rintro e w4 ⟨b,rfl,hp,q4⟩;have HP:=hid hp;have HB4:Hid (Below w.heap.size w w4):=hid (HB3.out.trans (q4.mono z3));have z4:=HB4.out.size;clear q4 hp
 cases b
 ·have HV:Hid (¬ OkI (plL X)):=hid (fun h=>by have:=HP.out.2 h.2.2.2.1;cases this)
  go_wp2;go_ret;exact Ans.of false rfl (by simpa using HV.out) HB4.out
 have H4:=hid (HP.out.1 rfl);clear HP;go_wp2_with fail;refine (C5.out _ HB4.out).mono ?_;rintro e w5 ⟨b,rfl,hp,q5⟩;have HP:=hid hp;have HB5:Hid (Below w.heap.size w w5):=hid (HB4.out.trans (q5.mono z4));have z5:=HB5.out.size;clear q5 hp
 cases b
 ·have HV:Hid (¬ OkI (plL X)):=hid (fun h=>by have:=HP.out.2 h.2.2.2.2.1;cases this)
  go_wp2;go_ret;exact Ans.of false rfl (by simpa using HV.out) HB5.out
 have H5:=hid (HP.out.1 rfl);clear HP;go_wp2_with fail;refine (C6.out _ HB5.out (follow_ends _ _ _ H3.out)).mono ?_;rintro e w6 ⟨b,rfl,hp,q6⟩;have HP:=hid hp;have HB6:Hid (Below w.heap.size w w6):=hid (HB5.out.trans (q6.mono z5));have z6:=HB6.out.size;clear q6 hp
 cases b
 ·have HV:Hid (¬ OkI (plL X)):=hid (fun h=>by have:=HP.out.2 h.2.2.2.2.2;cases this)
  go_wp2;go_ret;exact Ans.of false rfl (by simpa using HV.out) HB6.out
 have H6:=hid (HP.out.1 rfl);clear HP;have HV:Hid (OkI (plL X)):=hid ⟨H1.out,H2.out,H3.out,H4.out,H5.out,H6.out⟩;go_wp2;go_ret;exact Ans.of true rfl (by simpa using HV.out) HB6.out
end Go.Proofs.YtcflojdkaddemaaGreatDoor
