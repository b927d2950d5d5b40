/- Parts of the proof. -/
import Derived.Test.YtcflojdkaddemaaGreatDoorI02
namespace Go.Proofs.YtcflojdkaddemaaGreatDoor
open Go.RowKit Go.Lib
structure OpL where
 code:Int
 arg:Int
def widN (c:Int):Nat:=if c=0 then 4 else if c=1∨c=2∨c=3∨c=4∨c=10∨c=11∨c=16 then 2 else if c=12∨c=13∨c=14∨c=15 then 1 else 0
def sgnB (c:Int):Bool:=decide (0≤c)&&decide (c≤4) || decide (c=10) || decide (c=11)
def codeB (c:Int):Bool:=decide (0≤c)&&decide (c≤17)
def sizZ (c:Int):Int:=if codeB c=true then 1+(widN c:Int) else 0
def loZ (c:Int):Int:=if sgnB c=true then -((256 ^ widN c:Nat):Int) / 2 else 0
def hiZ (c:Int):Int:=if sgnB c=true then ((256 ^ widN c:Nat):Int) / 2 - 1 else ((256 ^ widN c:Nat):Int) - 1
def insB (x:OpL):Bool:=codeB x.code&&(decide (loZ x.code≤x.arg)&&decide (x.arg≤hiZ x.code))
def bytA (a:Int) (k:Nat):UInt8:=UInt8.ofNat ((a / (256 ^ k:Nat)) % 256).toNat
def argB (a:Int) (w:Nat):List UInt8:=(List.range w).map (bytA a)
def opBytes (x:OpL):List UInt8:=UInt8.ofNat x.code.toNat :: argB x.arg (widN x.code)
def encL (x:OpL):List UInt8:=if insB x=true then opBytes x else []
def valB:List UInt8→Nat
 | []=>0
 | b :: r=>b.toNat+256*valB r
def sgnV (c:Int) (v:Nat):Int:=if sgnB c=true∧256 ^ widN c≤2*v then (v:Int) - ((256 ^ widN c:Nat):Int) else (v:Int)
def dec1:List UInt8→Option (OpL×Nat)
 | []=>none
 | b :: r=>if (b.toNat:Int)≤17∧widN (b.toNat:Int)≤r.length then some (⟨(b.toNat:Int),sgnV (b.toNat:Int) (valB (r.take (widN (b.toNat:Int))))⟩,1+widN (b.toNat:Int)) else none
def decZ (l:List UInt8) (a:Int):Option (OpL×Nat):=if a<0 then none else dec1 (l.drop a.toNat)
theorem widN_le (c:Int):widN c≤4:=by unfold widN;split <;> (try split) <;> (try split) <;> omega
theorem sgn_wid (c:Int) (h:sgnB c=true):widN c=2∨widN c=4:=by
 unfold sgnB at h;simp only [Bool.or_eq_true,Bool.and_eq_true,decide_eq_true_eq] at h;unfold widN
 split
 ·exact .inr rfl
 ·rw [if_pos (by omega)];exact .inl rfl
theorem bytA_zero (a:Int):bytA a 0=UInt8.ofNat (a % 256).toNat:=by
 unfold bytA;rw [Nat.pow_zero]
 simp
theorem bytA_succ (a:Int) (k:Nat):bytA a (k+1)=bytA (a / 256) k:=by
 unfold bytA;have h:a / ((256 ^ (k+1):Nat):Int)=a / 256 / ((256 ^ k:Nat):Int):=by
  rw [Int.ediv_ediv,if_neg (by omega),Int.sub_zero,Nat.pow_succ,Nat.mul_comm,Int.natCast_mul];rfl
 rw [h]
theorem argB_succ (a:Int) (w:Nat):argB a (w+1)=UInt8.ofNat (a % 256).toNat :: argB (a / 256) w:=by
 unfold argB;rw [List.range_succ_eq_map,List.map_cons,List.map_map,bytA_zero]
 congr 1
 exact List.map_congr_left fun k _=>bytA_succ a k
theorem argB_length (a:Int) (w:Nat):(argB a w).length=w:=by simp [argB]
theorem argB_snoc (a:Int) (w:Nat):argB a (w+1)=argB a w++[bytA a w]:=by
 unfold argB;rw [List.range_succ,List.map_append];rfl
theorem byte_of (n:Int) (h0:0≤n) (h1:n<256):((UInt8.ofNat n.toNat).toNat:Int)=n:=by
 have:(UInt8.ofNat n.toNat).toNat=n.toNat % 256:=by simp
 rw [this];omega
theorem valB_arg (w:Nat):∀ a:Int,(valB (argB a w):Int)=a % ((256 ^ w:Nat):Int):=by
 induction w with
 | zero=>intro a;simp [argB,valB,Int.emod_one]
 | succ w ih =>
  intro a;rw [argB_succ,valB];have h1:=byte_of (a % 256) (Int.emod_nonneg _ (by decide)) (Int.emod_lt_of_pos _ (by decide));have h2:=ih (a / 256);have hN:(0:Int)<((256 ^ w:Nat):Int):=by exact Int.natCast_pos.2 (Nat.pow_pos (by decide))
  obtain ⟨N,hNe⟩:∃ N:Int,((256 ^ w:Nat):Int)=N:=⟨_,rfl⟩;have hp:((256 ^ (w+1):Nat):Int)=256*N:=by rw [Nat.pow_succ,Nat.mul_comm,Int.natCast_mul,hNe];rfl
  rw [hNe] at h2 hN;rw [hp];have e1:a=256*(a / 256)+a % 256:=(Int.mul_ediv_add_emod a 256).symm;have e2:a / 256=N*(a / 256 / N)+a / 256 % N:=(Int.mul_ediv_add_emod (a / 256) N).symm;have h3:=Int.emod_nonneg (a / 256) (show N≠0 by omega);have h4:=Int.emod_lt_of_pos (a / 256) hN;have h5:=Int.emod_nonneg a (show (256:Int)≠0 by decide);have h6:=Int.emod_lt_of_pos a (show (0:Int)<256 by decide);have e3:a=(256*(a / 256 % N)+a % 256)+256*N*(a / 256 / N):=by
   have e5:256*N*(a / 256 / N)=256*(N*(a / 256 / N)):=Int.mul_assoc _ _ _;obtain ⟨Y,hY⟩:∃ Y,N*(a / 256 / N)=Y:=⟨_,rfl⟩;rw [e5,hY];rw [hY] at e2;omega
  have e4:a % (256*N)=(256*(a / 256 % N)+a % 256) % (256*N):=by
   conv=>lhs;rw [e3]
   exact Int.add_mul_emod_self_left _ _ _
  have e6:(256*(a / 256 % N)+a % 256) % (256*N)=256*(a / 256 % N)+a % 256:=Int.emod_eq_of_lt (by omega) (by omega);rw [e4,e6,Int.natCast_add,Int.natCast_mul,h1,h2]
  show a % 256+256*_=_
  omega
theorem valB_take (l:List UInt8):∀ (k:Nat) (h:k<l.length),valB (l.take (k+1))=valB (l.take k)+l[k].toNat*256 ^ k:=by
 induction l with
 | nil=>intro k h;simp at h
 | cons b r ih =>
  intro k h
  cases k with
  | zero=>rw [List.take_succ_cons,List.take_zero,List.take_zero,valB];simp [valB]
  | succ k =>
   have h':k<r.length:=by simpa using h
   rw [List.take_succ_cons,List.take_succ_cons,valB,valB,ih k h',List.getElem_cons_succ,Nat.pow_succ];rw [Nat.mul_add]
   have:256*(r[k].toNat*256 ^ k)=r[k].toNat*(256 ^ k*256):=by rw [Nat.mul_comm 256,Nat.mul_assoc]
   omega
theorem valB_lt (l:List UInt8):valB l<256 ^ l.length:=by
 induction l with
 | nil=>simp [valB]
 | cons b r ih =>
  rw [valB,List.length_cons,Nat.pow_succ]
  have:=b.toNat_lt
  omega
theorem insB_parts (x:OpL) (h:insB x=true):(0≤x.code∧x.code≤17)∧loZ x.code≤x.arg∧x.arg≤hiZ x.code:=by
 unfold insB codeB at h;simp only [Bool.and_eq_true,decide_eq_true_eq] at h;exact h
theorem sgnV_arg (x:OpL) (h:insB x=true):sgnV x.code (valB (argB x.arg (widN x.code)))=x.arg:=by
 obtain ⟨_,h1,h2⟩:=insB_parts x h;have hv:=valB_arg (widN x.code) x.arg;obtain ⟨V,hV⟩:∃ V,valB (argB x.arg (widN x.code))=V:=⟨_,rfl⟩;rw [hV] at hv ⊢;unfold sgnV;unfold loZ at h1;unfold hiZ at h2
 cases hs:sgnB x.code with
 | true =>
  rw [hs] at h1 h2;rw [if_pos rfl] at h1 h2
  rcases sgn_wid _ hs with hw|hw
  ·rw [hw] at hv h1 h2 ⊢
   have:((256 ^ 2:Nat):Int)=65536:=by decide
   rw [this] at hv h1 h2
   split
   ·rename_i hc;have:=hc.2;omega
   ·rename_i hc;have:¬ 256 ^ 2≤2*V:=fun h=>hc ⟨rfl,h⟩;omega
  ·rw [hw] at hv h1 h2 ⊢
   have:((256 ^ 4:Nat):Int)=4294967296:=by decide
   rw [this] at hv h1 h2
   split
   ·rename_i hc;have:=hc.2;omega
   ·rename_i hc;have:¬ 256 ^ 4≤2*V:=fun h=>hc ⟨rfl,h⟩;omega
 | false =>
  rw [hs] at h1 h2;rw [if_neg (by decide)] at h1 h2;rw [if_neg (by simp)];rw [hv];exact Int.emod_eq_of_lt h1 (by omega)
theorem opBytes_length (x:OpL):(opBytes x).length=1+widN x.code:=by unfold opBytes;rw [List.length_cons,argB_length];omega
theorem dec1_enc (x:OpL) (h:insB x=true) (tl:List UInt8):dec1 (opBytes x++tl)=some (x,1+widN x.code):=by
 obtain ⟨h0,_,_⟩:=insB_parts x h;have hc:((UInt8.ofNat x.code.toNat).toNat:Int)=x.code:=byte_of x.code h0.1 (by omega);unfold opBytes;rw [List.cons_append,dec1,hc];rw [if_pos ⟨h0.2,by rw [List.length_append,argB_length];omega⟩,List.take_left' (argB_length _ _),sgnV_arg x h]
theorem decZ_at (p:List UInt8) (x:OpL) (h:insB x=true) (tl:List UInt8):decZ (p++(opBytes x++tl)) (p.length:Int)=some (x,1+widN x.code):=by
 unfold decZ;rw [if_neg (by omega),Int.toNat_natCast,List.drop_left' rfl,dec1_enc x h tl]
def disF:Nat→List UInt8→Option (List OpL)
 | _,[]=>some []
 | 0,_ :: _=>none
 | n+1,b :: r=>match dec1 (b :: r) with
  | none=>none
  | some (x,k)=>(disF n ((b :: r).drop k)).map (x :: ·)
def disZ (l:List UInt8):Option (List OpL):=disF l.length l
theorem dec1_size (l:List UInt8) (x:OpL) (k:Nat) (h:dec1 l=some (x,k)):1≤k∧k≤l.length:=by
 cases l with
 | nil=>cases h
 | cons b r =>
  rw [dec1] at h
  split at h
  ·rename_i hc
   injection h with h
   injection h with _ h
   subst h;rw [List.length_cons];omega
  ·cases h
theorem disF_more:∀ (n m:Nat) (l:List UInt8),l.length≤n→l.length≤m→disF n l=disF m l:=by
 intro n
 induction n with
 | zero =>
  intro m l h _
  have:l=[]:=List.length_eq_zero_iff.1 (by omega)
  subst this
  cases m <;> rfl
 | succ n ih =>
  intro m l h1 h2
  cases l with
  | nil=>cases m <;> rfl
  | cons b r =>
   cases m with
   | zero=>simp at h2
   | succ m =>
    rw [disF,disF]
    cases hd:dec1 (b :: r) with
    | none=>rfl
    | some y =>
     obtain ⟨x,k⟩:=y;have hk:=dec1_size _ _ _ hd;simp only;rw [ih m ((b :: r).drop k) (by rw [List.length_drop];omega) (by rw [List.length_drop];omega)]
theorem disZ_nil:disZ []=some []:=rfl
theorem disZ_next (l:List UInt8) (x:OpL) (k:Nat) (h:dec1 l=some (x,k)):disZ l=(disZ (l.drop k)).map (x :: ·):=by
 have hk:=dec1_size l x k h
 cases l with
 | nil=>cases h
 | cons b r =>
  unfold disZ;rw [List.length_cons,disF,h];simp only;rw [disF_more r.length ((b :: r).drop k).length _ (by rw [List.length_drop,List.length_cons];omega) (Nat.le_refl _)]
theorem disZ_bad (l:List UInt8) (hl:l≠[]) (h:dec1 l=none):disZ l=none:=by
 cases l with
 | nil=>exact absurd rfl hl
 | cons b r=>unfold disZ;rw [List.length_cons,disF,h]
theorem disZ_enc (L:List OpL) (h:∀ x ∈ L,insB x=true) (tl:List UInt8):disZ (L.flatMap opBytes++tl)=(disZ tl).map (L++·):=by
 induction L with
 | nil=>simp
 | cons x r ih =>
  have hx:=h x (List.mem_cons_self ..);rw [List.flatMap_cons,List.append_assoc,disZ_next _ x _ (dec1_enc x hx _),List.drop_left' (opBytes_length x),ih (fun y hy=>h y (List.mem_cons_of_mem _ hy)),Option.map_map]
  congr 1
end Go.Proofs.YtcflojdkaddemaaGreatDoor

namespace Go.Proofs.YtcflojdkaddemaaGreatDoor
open Go.RowKit Go.Lib
structure ItL where
 code:Int
 arg:Int
 line:Nat
 start:Bool
 chain:List Nat
 depth:Int
 ent:Bool
structure CmpE where
 p:List PLine
 inl:Nat
 framed:Bool
 words:Int
 args:Nat
structure ScL where
 f:Nat
 chain:List Nat
 locs:List ByteArray
 first:Nat
 outer:Bool
structure CmpS where
 items:List ItL
 depth:Int
 start:Bool
 most:Nat
 leaves:List Nat
inductive CJob where
 | expr (scs:List ScL) (k i:Nat)
 | args (scs:List ScL) (k i m:Nat)
 | lines (scs:List ScL) (k:Nat) (heads:List Int) (exits:List (Int×Nat))
abbrev CmpO:=Option (Nat×CmpS)
def curS (scs:List ScL):ScL:=scs.headD ⟨0,[],[],0,true⟩
def emitI (E:CmpE) (s:CmpS) (code arg:Int) (line:Nat) (chain:List Nat):CmpS :=
 { s with items:=s.items++[⟨code,arg,line,s.start,chain,if E.framed&&!s.items.isEmpty then 0 else s.depth,E.framed&&!s.items.isEmpty⟩],start:=false }
def placeZ (E:CmpE) (d:Int) (sc:ScL) (i:Nat):Int×Int :=
 if sc.outer=true∧i<E.args then (if E.framed=true then (1,1+((E.args - i:Nat):Int)) else (3,d+((E.args - i:Nat):Int)))
 else let above:Nat:=if sc.outer=true then i - E.args else sc.first+i
  if E.framed=true then (1,-1 - (above:Int)) else (3,d - 1 - (above:Int))
def incD (s:CmpS) (d:Int):CmpS:={ s with depth:=s.depth+d }
def loadI (E:CmpE) (s:CmpS) (sc:ScL) (i k:Nat):CmpS:=incD (emitI E s (placeZ E s.depth sc i).1 (placeZ E s.depth sc i).2 k sc.chain) 1
def storeI (E:CmpE) (s:CmpS) (sc:ScL) (i k:Nat) (chain:List Nat):CmpS:=incD (emitI E s ((placeZ E s.depth sc i).1+1) (placeZ E s.depth sc i).2 k chain) (-1)
def numI (E:CmpE) (s:CmpS) (v:Int) (k:Nat) (chain:List Nat):CmpS:=incD (emitI E s 0 v k chain) 1
def replB (E:CmpE) (scs:List ScL) (s:CmpS) (g:Nat):Bool :=
 !(decide (E.inl≤scs.length - 1) || (decide (9<beZ E.p (g:Int) - (g:Int)) || decide (200≤s.items.length)))&&scs.all fun sc=>decide (sc.f≠g)
def setArg (l:List ItL) (j:Nat) (v:Int):List ItL:=l.modify j fun x=>{ x with arg:=v }
def patchL (js:List Nat) (v:Int) (l:List ItL):List ItL:=js.foldl (fun l j=>setArg l j v) l
def patchX (ex:List (Int×Nat)) (to:Int) (l:List ItL):List ItL:=patchL ((ex.filter fun e=>decide (e.1=to)).map (·.2)) (l.length:Int) l
def patchI (s:CmpS) (ex:List (Int×Nat)) (to:Int):CmpS:={ s with items:=patchX ex to s.items }
def newSc (E:CmpE) (sc:ScL) (g k:Nat):ScL:=⟨g,sc.chain++[k],locZ E.p (g:Int),(if sc.outer=true then sc.locs.length - E.args else sc.first+sc.locs.length),false⟩
def storesI (E:CmpE) (x:ScL) (k:Nat) (chain:List Nat):Nat→CmpS→CmpS
 | 0,s=>s
 | i+1,s=>storesI E x k chain i (storeI E s x i k chain)
def zerosI (E:CmpE) (x:ScL) (k:Nat) (chain:List Nat):Nat→Nat→CmpS→CmpS
 | 0,_,s=>s
 | m+1,i,s=>zerosI E x k chain m (i+1) (storeI E (numI E s 0 k chain) x i k chain)
def enterI (E:CmpE) (sc x:ScL) (k:Nat) (s:CmpS):CmpS :=
 let n:=(argsZ E.p (x.f:Int)).length
 let s1:=zerosI E x k sc.chain (x.locs.length - n) n (storesI E x k sc.chain n { s with most:=max s.most (x.first+x.locs.length) })
 if s1.start=true then emitI E s1 15 0 k sc.chain else s1
def exitI (s0:CmpS) (base:Int) (s:CmpS):CmpS:={ s with items:=patchL s.leaves (s.items.length:Int) s.items,depth:=base+1,leaves:=s0.leaves }
def leaveI (E:CmpE) (s:CmpS) (sc:ScL) (k:Nat) (last:Bool):CmpS :=
 if sc.outer=false then (if last=true then incD s (-1) else incD (emitI E { s with leaves:=s.leaves++[s.items.length] } 10 0 k sc.chain) (-1))
 else if E.framed=true then incD (emitI E s 14 (E.args:Int) k sc.chain) (-1)
 else incD (emitI E s 16 ((E.args:Int)+16*E.words) k sc.chain) (-1)
def funNo (p:List PLine) (g:Nat):Int:=(((p.take g).filter fun x=>decide (x.kind=0)).length:Int)
def backsI (E:CmpE) (sc:ScL) (k:Nat) (heads:List Int):List Nat→CmpS→CmpS
 | [],s=>s
 | i :: r,s=>backsI E sc k heads r (emitI E s 10 ((heads[i]?).getD 0) k sc.chain)
def elseEx (p:List PLine) (f k len:Nat):List (Int×Nat):=((List.range' f (k - f)).filter fun (i:Nat)=>decide (elseZ p (i:Int)=(k:Int))).map fun (i:Nat)=>(beZ p (i:Int)+1,len)
def backIx (p:List PLine) (f k:Nat):List Nat:=(List.range' (f+1) (k - (f+1))).filter fun (i:Nat)=>decide (beZ p (i:Int)=(k:Int)∧lkZ p (i:Int)=5)
def cmpF (E:CmpE):Nat→CJob→CmpS→CmpO
 | 0,_,_=>none
 | n+1,.args scs k i 0,s=>some (i,s)
 | n+1,.args scs k i (m+1),s=>(cmpF E n (.expr scs k i) s).bind fun y=>cmpF E n (.args scs k y.1 m) y.2
 | n+1,.expr scs k i,s =>
  let t:=tokAt E.p k i
  let sc:=curS scs
  (cmpF E n (.args scs k (i+1) (arN t)) s).bind fun y =>
   if t.kind=0 then some (y.1,numI E y.2 t.num k sc.chain)
   else if t.kind=1 then some (y.1,loadI E y.2 sc (varIx sc.locs t.name) k)
   else if t.kind=7 then
    let g:=(findZ E.p t.name).toNat
    if replB E scs y.2 g=true then
     let x:=newSc E sc g k
     let s1:=enterI E sc x k y.2
     (cmpF E n (.lines (x :: scs) (g+1) (List.replicate E.p.length 0) []) { s1 with leaves:=[] }).map fun z=>(y.1,exitI y.2 s1.depth z.2)
    else some (y.1,incD (emitI E y.2 12 (funNo E.p g) k sc.chain) (1 - t.num))
   else some (y.1,incD (emitI E y.2 (5+t.kind - 2) 0 k sc.chain) (-1))
 | n+1,.lines scs k heads exits,s =>
  let sc:=curS scs
  let e:=beZ E.p (sc.f:Int)
  if e<(k:Int) then some (0,s)
  else
   let s1:=patchI s exits (k:Int)
   if lkZ E.p (k:Int)=4 then
    let ex:=exits++elseEx E.p sc.f k s1.items.length
    cmpF E n (.lines scs (k+1) heads ex) (patchI (emitI E s1 10 0 k sc.chain) ex (-(k:Int)))
   else if lkZ E.p (k:Int)=7 then
    if (k:Int)=e then cmpF E n (.lines scs (k+1) heads exits) (leaveI E (numI E s1 0 k sc.chain) sc k true)
    else cmpF E n (.lines scs (k+1) heads exits) (backsI E sc k heads (backIx E.p sc.f k) s1)
   else
    let heads1:=heads.set k (s1.items.length:Int)
    (cmpF E n (.expr scs k 0) { s1 with start:=true }).bind fun y =>
     if lkZ E.p (k:Int)=1 then cmpF E n (.lines scs (k+1) heads1 exits) (storeI E y.2 sc (varIx sc.locs (nameAt E.p k)) k sc.chain)
     else if lkZ E.p (k:Int)=2 then cmpF E n (.lines scs (k+1) heads1 exits) (incD (emitI E y.2 17 0 k sc.chain) (-1))
     else if lkZ E.p (k:Int)=6 then cmpF E n (.lines scs (k+1) heads1 exits) (leaveI E y.2 sc k false)
     else
      let to:=if lkZ E.p (k:Int)=3∧0≤elseZ E.p (k:Int) then -(elseZ E.p (k:Int)) else beZ E.p (k:Int)+1
      cmpF E n (.lines scs (k+1) heads1 (exits++[(to,y.2.items.length)])) (incD (emitI E y.2 11 0 k sc.chain) (-1))
theorem cmpF_succ (E:CmpE):∀ (n:Nat) (j:CJob) (s:CmpS) (z:Nat×CmpS),cmpF E n j s=some z→cmpF E (n+1) j s=some z:=by
 intro n
 induction n with
 | zero=>intro j s z h;cases j <;> simp [cmpF] at h
 | succ n ih =>
  have hb:∀ {x x':CmpO} {f f':Nat×CmpS→CmpO} {z:Nat×CmpS},(∀ y,x=some y→x'=some y)→(∀ y z,f y=some z→f' y=some z)→x.bind f=some z→x'.bind f'=some z:=by
   intro x x' f f' z hx hf h
   cases hxx:x with
   | none=>rw [hxx] at h;cases h
   | some y=>rw [hxx] at h;rw [hx y hxx];exact hf y z h
  have hi:∀ {c:Prop} [Decidable c] {a b a' b':CmpO} {z:Nat×CmpS},(a=some z→a'=some z)→(b=some z→b'=some z)→(if c then a else b)=some z→(if c then a' else b')=some z:=by
   intro c _ a b a' b' z ha hb h
   by_cases hc:c
   ·rw [if_pos hc] at h ⊢;exact ha h
   ·rw [if_neg hc] at h ⊢;exact hb h
  have hm:∀ {x x':CmpO} {f:Nat×CmpS→Nat×CmpS} {z:Nat×CmpS},(∀ y,x=some y→x'=some y)→x.map f=some z→x'.map f=some z:=by
   intro x x' f z hx h
   cases hxx:x with
   | none=>rw [hxx] at h;cases h
   | some y=>rw [hxx] at h;rw [hx y hxx];exact h
  intro j s z h
  cases j with
  | args scs k i m =>
   cases m with
   | zero=>simpa [cmpF] using h
   | succ m =>
    rw [cmpF] at h ⊢;exact hb (fun y=>ih _ _ y) (fun y z=>ih _ _ z) h
  | expr scs k i =>
   rw [cmpF] at h ⊢;refine hb (fun y=>ih _ _ y) (fun y z=>?_) h;exact hi id (hi id (hi (hi (hm (fun y=>ih _ _ y)) id) id))
  | lines scs k heads exits =>
   rw [cmpF] at h ⊢;refine hi id (hi (ih _ _ _) (hi (hi (ih _ _ _) (ih _ _ _)) (hb (fun y=>ih _ _ y) (fun y z=>?_)))) h;exact hi (ih _ _ _) (hi (ih _ _ _) (hi (ih _ _ _) (ih _ _ _)))
theorem cmpF_le (E:CmpE) (n m:Nat) (h:n≤m) (j:CJob) (s:CmpS) (z:Nat×CmpS) (hz:cmpF E n j s=some z):cmpF E m j s=some z:=by
 induction h with
 | refl=>exact hz
 | step _ ih=>exact cmpF_succ E _ j s z ih
end Go.Proofs.YtcflojdkaddemaaGreatDoor

namespace Go.Proofs.YtcflojdkaddemaaGreatDoor
open Go.RowKit Go.Lib
def PrC (Q:Nat×CmpS→Prop) (x:CmpO):Prop:=∀ y,x=some y→Q y
theorem prc_none {Q:Nat×CmpS→Prop}:PrC Q none:=fun y h=>by cases h
theorem prc_some {Q:Nat×CmpS→Prop} {y:Nat×CmpS} (h:Q y):PrC Q (some y):=fun y' h'=>by injection h' with h';rw [← h'];exact h
theorem prc_bind {Q1 Q:Nat×CmpS→Prop} {x:CmpO} {f:Nat×CmpS→CmpO} (hx:PrC Q1 x) (hf:∀ y,Q1 y→PrC Q (f y)):PrC Q (x.bind f):=fun z h=>by
 cases hxx:x with
 | none=>rw [hxx] at h;cases h
 | some y=>rw [hxx] at h;exact hf y (hx y hxx) z h
theorem prc_map {Q1 Q:Nat×CmpS→Prop} {x:CmpO} {f:Nat×CmpS→Nat×CmpS} (hx:PrC Q1 x) (hf:∀ y,Q1 y→Q (f y)):PrC Q (x.map f):=fun z h=>by
 cases hxx:x with
 | none=>rw [hxx] at h;cases h
 | some y=>rw [hxx] at h;injection h with h;rw [← h];exact hf y (hx y hxx)
theorem prc_ite {Q:Nat×CmpS→Prop} {c:Prop} [Decidable c] {a b:CmpO} (ha:c→PrC Q a) (hb:¬ c→PrC Q b):PrC Q (if c then a else b):=by
 by_cases h:c
 ·rw [if_pos h];exact ha h
 ·rw [if_neg h];exact hb h
theorem prc_mono {Q1 Q:Nat×CmpS→Prop} {x:CmpO} (h:PrC Q1 x) (hq:∀ y,Q1 y→Q y):PrC Q x:=fun y e=>hq y (h y e)
structure Kept (E:CmpE) (J:List ItL→Prop):Prop where
 emit:∀ l x,J l→x.line<E.p.length→x.chain.length≤E.inl→(x.code=10∨x.code=11→0≤x.arg∧x.arg≤(l.length:Int))→J (l++[x])
 set:∀ l j,J l→J (setArg l j (l.length:Int))
theorem setArg_length (l:List ItL) (j:Nat) (v:Int):(setArg l j v).length=l.length:=by unfold setArg;rw [List.length_modify]
theorem patchL_length (js:List Nat) (v:Int):∀ l:List ItL,(patchL js v l).length=l.length:=by
 unfold patchL
 induction js with
 | nil=>intro l;rfl
 | cons j r ih=>intro l;rw [List.foldl_cons,ih,setArg_length]
theorem patchX_length (ex:List (Int×Nat)) (to:Int) (l:List ItL):(patchX ex to l).length=l.length:=patchL_length _ _ l
section
variable {E:CmpE} {J:List ItL→Prop} (K:Kept E J)
include K
theorem Kept.pL (js:List Nat):∀ (l:List ItL),J l→J (patchL js (l.length:Int) l):=by
 have key:∀ (n:Nat) (l:List ItL),l.length=n→J l→J (patchL js (n:Int) l):=by
  unfold patchL
  induction js with
  | nil=>intro n l _ h;exact h
  | cons j r ih =>
   intro n l hl h;rw [List.foldl_cons];refine ih n _ (by rw [setArg_length,hl]) ?_;rw [← hl];exact K.set l j h
 intro l h;exact key l.length l rfl h
theorem Kept.pX (ex:List (Int×Nat)) (to:Int) (l:List ItL) (h:J l):J (patchX ex to l):=K.pL _ l h
theorem Kept.em (s:CmpS) (code arg:Int) (k:Nat) (chain:List Nat) (hk:k<E.p.length) (hc:chain.length≤E.inl) (ha:code=10∨code=11→0≤arg∧arg≤(s.items.length:Int)) (h:J s.items):J (emitI E s code arg k chain).items∧s.items.length≤(emitI E s code arg k chain).items.length:=by
 unfold emitI;refine ⟨K.emit _ _ h hk hc ha,?_⟩
 simp
end
theorem placeZ_code (E:CmpE) (d:Int) (sc:ScL) (i:Nat):(placeZ E d sc i).1=1∨(placeZ E d sc i).1=3:=by
 unfold placeZ
 split
 ·split
  ·exact .inl rfl
  ·exact .inr rfl
 ·dsimp only
  split
  ·exact .inl rfl
  ·exact .inr rfl
section
variable {E:CmpE} {J:List ItL→Prop} (K:Kept E J) {k:Nat} (hk:k<E.p.length) {chain:List Nat} (hc:chain.length≤E.inl)
include K hk hc
theorem Kept.num (s:CmpS) (v:Int) (h:J s.items):J (numI E s v k chain).items∧s.items.length≤(numI E s v k chain).items.length:=K.em s 0 v k chain hk hc (by omega) h
theorem Kept.sto (s:CmpS) (sc:ScL) (i:Nat) (h:J s.items):J (storeI E s sc i k chain).items∧s.items.length≤(storeI E s sc i k chain).items.length :=
 K.em s _ _ k chain hk hc (fun e=>by have:=placeZ_code E s.depth sc i;omega) h
theorem Kept.stos (x:ScL):∀ (n:Nat) (s:CmpS),J s.items→J (storesI E x k chain n s).items∧s.items.length≤(storesI E x k chain n s).items.length:=by
 intro n
 induction n with
 | zero=>intro s h;exact ⟨h,Nat.le_refl _⟩
 | succ n ih =>
  intro s h;have h1:=K.sto hk hc s x n h;have h2:=ih _ h1.1;exact ⟨h2.1,Nat.le_trans h1.2 h2.2⟩
theorem Kept.zers (x:ScL):∀ (m i:Nat) (s:CmpS),J s.items→J (zerosI E x k chain m i s).items∧s.items.length≤(zerosI E x k chain m i s).items.length:=by
 intro m
 induction m with
 | zero=>intro i s h;exact ⟨h,Nat.le_refl _⟩
 | succ m ih =>
  intro i s h;have h0:=K.num hk hc s 0 h;have h1:=K.sto hk hc _ x i h0.1;have h2:=ih (i+1) _ h1.1;exact ⟨h2.1,Nat.le_trans h0.2 (Nat.le_trans h1.2 h2.2)⟩
end
section
variable {E:CmpE} {J:List ItL→Prop} (K:Kept E J) {k:Nat} (hk:k<E.p.length)
include K hk
theorem Kept.ent (sc x:ScL) (hc:sc.chain.length≤E.inl) (s:CmpS) (h:J s.items):J (enterI E sc x k s).items∧s.items.length≤(enterI E sc x k s).items.length:=by
 unfold enterI;dsimp only;have h1:=K.stos hk hc x (argsZ E.p (x.f:Int)).length { s with most:=max s.most (x.first+x.locs.length) } h;have h2:=K.zers hk hc x (x.locs.length - (argsZ E.p (x.f:Int)).length) (argsZ E.p (x.f:Int)).length _ h1.1
 split
 ·have h3:=K.em _ 15 0 k sc.chain hk hc (by omega) h2.1
  exact ⟨h3.1,Nat.le_trans h1.2 (Nat.le_trans h2.2 h3.2)⟩
 ·exact ⟨h2.1,Nat.le_trans h1.2 h2.2⟩
theorem Kept.lea (s:CmpS) (sc:ScL) (last:Bool) (hc:sc.chain.length≤E.inl) (h:J s.items):J (leaveI E s sc k last).items∧s.items.length≤(leaveI E s sc k last).items.length:=by
 unfold leaveI
 split
 ·split
  ·exact ⟨h,Nat.le_refl _⟩
  ·exact K.em { s with leaves:=s.leaves++[s.items.length] } 10 0 k sc.chain hk hc (fun _=>⟨Int.le_refl _,by omega⟩) h
 ·split
  ·exact K.em s 14 _ k sc.chain hk hc (by omega) h
  ·exact K.em s 16 _ k sc.chain hk hc (by omega) h
theorem Kept.bks (sc:ScL) (heads:List Int) (hc:sc.chain.length≤E.inl):∀ (L:List Nat) (s:CmpS),(∀ v ∈ heads,0≤v∧v≤(s.items.length:Int))→J s.items→J (backsI E sc k heads L s).items∧s.items.length≤(backsI E sc k heads L s).items.length:=by
 intro L
 induction L with
 | nil=>intro s _ h;exact ⟨h,Nat.le_refl _⟩
 | cons i r ih =>
  intro s hh h;have hv:0≤(heads[i]?).getD 0∧(heads[i]?).getD 0≤(s.items.length:Int):=by
   cases hi:heads[i]? with
   | none=>exact ⟨Int.le_refl _,by simp⟩
   | some v=>exact hh v (List.mem_of_getElem? hi)
  have h1:=K.em s 10 ((heads[i]?).getD 0) k sc.chain hk hc (fun _=>hv) h;have h2:=ih _ (fun v hv=>by have:=hh v hv;have:=h1.2;omega) h1.1;exact ⟨h2.1,Nat.le_trans h1.2 h2.2⟩
end
def ScOk (E:CmpE) (scs:List ScL):Prop:=(curS scs).chain.length+1=scs.length∧scs.length≤E.inl+1
def JobOk (E:CmpE):CJob→CmpS→Prop
 | .expr scs k _,_=>ScOk E scs∧k<E.p.length
 | .args scs k _ _,_=>ScOk E scs∧k<E.p.length
 | .lines scs _ heads _,s=>ScOk E scs∧∀ v ∈ heads,0≤v∧v≤(s.items.length:Int)
theorem ScOk.chain {E:CmpE} {scs:List ScL} (h:ScOk E scs):(curS scs).chain.length≤E.inl:=by have:=h.1;have:=h.2;omega
theorem ScOk.new {E:CmpE} {scs:List ScL} (h:ScOk E scs) {s:CmpS} {g k:Nat} (hr:replB E scs s g=true):ScOk E (newSc E (curS scs) g k :: scs):=by
 unfold replB at hr;simp only [Bool.and_eq_true,Bool.not_eq_true',Bool.or_eq_false_iff,decide_eq_false_iff_not] at hr;have h1:=hr.1.1;have h2:=h.1;refine ⟨?_,by rw [List.length_cons];omega⟩
 show ((curS scs).chain++[k]).length+1=scs.length+1
 rw [List.length_append,List.length_singleton];omega
theorem cmp_kept {E:CmpE} {J:List ItL→Prop} (K:Kept E J):∀ (n:Nat) (j:CJob) (s:CmpS),JobOk E j s→J s.items→PrC (fun y=>J y.2.items∧s.items.length≤y.2.items.length) (cmpF E n j s):=by
 intro n
 induction n with
 | zero=>intro j s _ _;cases j <;> exact prc_none
 | succ n ih =>
  intro j s hj h
  cases j with
  | args scs k i m =>
   cases m with
   | zero=>rw [cmpF];exact prc_some ⟨h,Nat.le_refl _⟩
   | succ m =>
    rw [cmpF];exact prc_bind (ih (.expr scs k i) s hj h) fun y hy=>prc_mono (ih (.args scs k y.1 m) y.2 hj hy.1) fun z hz=>⟨hz.1,Nat.le_trans hy.2 hz.2⟩
  | expr scs k i =>
   rw [cmpF];obtain ⟨hs,hk⟩:=hj;refine prc_bind (ih (.args scs k (i+1) _) s ⟨hs,hk⟩ h) fun y hy=>?_
   have up:∀ {l:Nat} {J':Prop},J'∧y.2.items.length≤l→J'∧s.items.length≤l:=fun q=>⟨q.1,Nat.le_trans hy.2 q.2⟩
   refine prc_ite (fun _=>prc_some (up (K.num hk hs.chain y.2 _ hy.1))) fun h0=>prc_ite (fun _=>prc_some (up ?_)) fun h1=>prc_ite (fun _=>prc_ite (fun hr=>?_) fun _=>prc_some (up ?_)) fun h7=>prc_some (up ?_)
   ·exact K.em y.2 _ _ k _ hk hs.chain (fun e=>by have:=placeZ_code E y.2.depth (curS scs) (varIx (curS scs).locs (tokAt E.p k i).name);omega) hy.1
   ·have h1:=K.ent hk (curS scs) (newSc E (curS scs) (findZ E.p (tokAt E.p k i).name).toNat k) hs.chain y.2 hy.1
    refine prc_map (ih (.lines _ _ _ _) _ ⟨hs.new hr,fun v hv=>?_⟩ h1.1) fun z hz=>?_
    ·rw [(List.mem_replicate.1 hv).2]
     exact ⟨Int.le_refl _,by omega⟩
    ·refine ⟨K.pL _ _ hz.1,?_⟩
     show s.items.length≤(patchL z.2.leaves (z.2.items.length:Int) z.2.items).length
     rw [patchL_length];exact Nat.le_trans hy.2 (Nat.le_trans h1.2 hz.2)
   ·exact K.em y.2 12 _ k _ hk hs.chain (by omega) hy.1
   ·exact K.em y.2 _ 0 k _ hk hs.chain (fun _=>⟨Int.le_refl _,by omega⟩) hy.1
  | lines scs k heads exits =>
   rw [cmpF];obtain ⟨hs,hh⟩:=hj;refine prc_ite (fun _=>prc_some ⟨h,Nat.le_refl _⟩) fun he=>?_
   have hk:k<E.p.length:=by have:=(beZ_lt E.p ((curS scs).f:Int)).2;omega
   have p1:J (patchI s exits (k:Int)).items∧(patchI s exits (k:Int)).items.length=s.items.length:=⟨K.pX _ _ _ h,patchX_length _ _ _⟩;have go:∀ (hd:List Int) (ex:List (Int×Nat)) (s':CmpS),(∀ v ∈ hd,0≤v∧v≤(s'.items.length:Int))→J s'.items→s.items.length≤s'.items.length→PrC (fun y=>J y.2.items∧s.items.length≤y.2.items.length) (cmpF E n (.lines scs (k+1) hd ex) s') :=
    fun hd ex s' h1 h2 h3=>prc_mono (ih (.lines scs (k+1) hd ex) s' ⟨hs,h1⟩ h2) fun z hz=>⟨hz.1,Nat.le_trans h3 hz.2⟩
   have hmono:∀ {m:Nat},s.items.length≤m→∀ v ∈ heads,0≤v∧v≤(m:Int):=fun hm v hv=>by have:=hh v hv;omega
   refine prc_ite (fun _=>?_) fun h4=>prc_ite (fun _=>prc_ite (fun _=>?_) fun _=>?_) fun h7=>?_
   ·have q:=K.em (patchI s exits (k:Int)) 10 0 k (curS scs).chain hk hs.chain (fun _=>⟨Int.le_refl _,by omega⟩) p1.1
    have hl:s.items.length≤(patchI (emitI E (patchI s exits (k:Int)) 10 0 k (curS scs).chain) (exits++elseEx E.p (curS scs).f k (patchI s exits (k:Int)).items.length) (-(k:Int))).items.length:=by
     show _≤(patchX _ _ _).length
     rw [patchX_length]
     have:=q.2
     omega
    exact go _ _ _ (hmono hl) (K.pX _ _ _ q.1) hl
   ·have q:=K.num hk hs.chain (patchI s exits (k:Int)) 0 p1.1
    have q2:=K.lea hk (numI E (patchI s exits (k:Int)) 0 k (curS scs).chain) (curS scs) true hs.chain q.1;have hl:=Nat.le_trans (Nat.le_of_eq p1.2.symm) (Nat.le_trans q.2 q2.2);exact go _ _ _ (hmono hl) q2.1 hl
   ·have q:=K.bks hk (curS scs) heads hs.chain (backIx E.p (curS scs).f k) (patchI s exits (k:Int)) (hmono (Nat.le_of_eq p1.2.symm)) p1.1
    have hl:=Nat.le_trans (Nat.le_of_eq p1.2.symm) q.2;exact go _ _ _ (hmono hl) q.1 hl
   ·refine prc_bind (ih (.expr scs k 0) { patchI s exits (k:Int) with start:=true } ⟨hs,hk⟩ p1.1) fun y hy=>?_
    have hy2:s.items.length≤y.2.items.length:=Nat.le_trans (Nat.le_of_eq p1.2.symm) hy.2;have hd1:∀ {m:Nat},y.2.items.length≤m→∀ v ∈ heads.set k ((patchI s exits (k:Int)).items.length:Int),0≤v∧v≤(m:Int):=fun hm v hv=>by
     rcases List.mem_or_eq_of_mem_set hv with h|h
     ·have:=hh v h;omega
     ·rw [h]
      have:=p1.2
      omega
    have st:∀ (s':CmpS),J s'.items∧y.2.items.length≤s'.items.length→∀ ex,PrC (fun y=>J y.2.items∧s.items.length≤y.2.items.length) (cmpF E n (.lines scs (k+1) (heads.set k ((patchI s exits (k:Int)).items.length:Int)) ex) s') :=
     fun s' hs' ex=>go _ ex s' (hd1 hs'.2) hs'.1 (Nat.le_trans hy2 hs'.2)
    refine prc_ite (fun _=>st _ (K.sto hk hs.chain y.2 _ _ hy.1) _) fun _=>prc_ite (fun _=>st _ ?_ _) fun _=>prc_ite (fun _=>st _ (K.lea hk y.2 _ _ hs.chain hy.1) _) fun _=>st _ ?_ _
    ·exact K.em y.2 17 0 k _ hk hs.chain (by omega) hy.1
    ·exact K.em y.2 11 0 k _ hk hs.chain (fun _=>⟨Int.le_refl _,by omega⟩) hy.1
end Go.Proofs.YtcflojdkaddemaaGreatDoor

namespace Go.Proofs.YtcflojdkaddemaaGreatDoor
open Go.RowKit Go.Lib
theorem mem_setArg {l:List ItL} {j:Nat} {v:Int} {x:ItL} (h:x ∈ setArg l j v):x ∈ l∨∃ y ∈ l,x={ y with arg:=v }:=by
 unfold setArg at h;obtain ⟨i,hi,rfl⟩:=List.mem_iff_getElem.1 h;rw [List.length_modify] at hi;rw [List.getElem_modify]
 split
 ·exact .inr ⟨_,List.getElem_mem hi,rfl⟩
 ·exact .inl (List.getElem_mem hi)
def InOk (E:CmpE) (l:List ItL):Prop:=∀ x ∈ l,(x.code=10∨x.code=11→0≤x.arg∧x.arg≤(l.length:Int))∧x.chain.length≤E.inl∧x.line<E.p.length
theorem inOk_kept (E:CmpE):Kept E (InOk E):=⟨fun l x h hk hc ha y hy=>by
  rw [List.length_append,List.length_singleton]
  rcases List.mem_append.1 hy with hy|hy
  ·have h1:=h y hy
   exact ⟨fun e=>by have:=h1.1 e;omega,h1.2⟩
  ·rw [List.mem_singleton] at hy
   rw [hy];exact ⟨fun e=>by have:=ha e;omega,hc,hk⟩,
 fun l j h x hx=>by
  rw [setArg_length]
  rcases mem_setArg hx with hx|⟨y,hy,rfl⟩
  ·exact h x hx
  ·exact ⟨fun _=>⟨by show 0≤(l.length:Int);omega,Int.le_refl _⟩,(h y hy).2⟩⟩
def SameIt (x y:ItL):Prop:=x.code=y.code∧x.line=y.line∧x.start=y.start∧x.chain=y.chain∧x.depth=y.depth∧x.ent=y.ent
def Ext (l0 l:List ItL):Prop:=∀ (j:Nat) (x:ItL),l0[j]?=some x→∃ y,l[j]?=some y∧SameIt x y
theorem Ext.refl (l:List ItL):Ext l l:=fun _ x h=>⟨x,h,rfl,rfl,rfl,rfl,rfl,rfl⟩
theorem SameIt.trans {x y z:ItL} (h:SameIt x y) (h':SameIt y z):SameIt x z:=⟨h.1.trans h'.1,h.2.1.trans h'.2.1,h.2.2.1.trans h'.2.2.1,h.2.2.2.1.trans h'.2.2.2.1,h.2.2.2.2.1.trans h'.2.2.2.2.1,h.2.2.2.2.2.trans h'.2.2.2.2.2⟩
theorem Ext.trans {l0 l1 l2:List ItL} (h:Ext l0 l1) (h':Ext l1 l2):Ext l0 l2:=fun j x hx=>by
 obtain ⟨y,hy,e⟩:=h j x hx;obtain ⟨z,hz,e'⟩:=h' j y hy;exact ⟨z,hz,e.trans e'⟩
theorem Ext.set (l:List ItL) (j:Nat) (v:Int):Ext l (setArg l j v):=fun i x hx=>by
 unfold setArg;rw [List.getElem?_modify]
 split
 ·rw [hx];exact ⟨_,rfl,rfl,rfl,rfl,rfl,rfl,rfl⟩
 ·rw [hx];exact ⟨_,rfl,rfl,rfl,rfl,rfl,rfl,rfl⟩
theorem Ext.app (l:List ItL) (x:ItL):Ext l (l++[x]):=fun i y hy=>⟨y,by
 have:=(List.getElem?_eq_some_iff.1 hy).1
 rw [List.getElem?_append_left this];exact hy,rfl,rfl,rfl,rfl,rfl,rfl⟩
theorem ext_kept (E:CmpE) (l0:List ItL):Kept E (Ext l0):=⟨fun l x h _ _ _=>h.trans (Ext.app l x),fun l j h=>h.trans (Ext.set l j _)⟩
theorem cmp_ext {E:CmpE} (n:Nat) (j:CJob) (s:CmpS) (hj:JobOk E j s):PrC (fun y=>Ext s.items y.2.items∧s.items.length≤y.2.items.length) (cmpF E n j s):=cmp_kept (ext_kept E s.items) n j s hj (Ext.refl _)
def First (k:Nat) (chain:List Nat) (s s':CmpS):Prop:=∃ x,s'.items[s.items.length]?=some x∧x.line=k∧x.start=true∧x.chain=chain
def Soon (k:Nat) (chain:List Nat) (s s':CmpS):Prop:=(s'.items.length=s.items.length∧s'.start=true)∨First k chain s s'
theorem First.ext {k:Nat} {chain:List Nat} {s s1 s2:CmpS} (h:First k chain s s1) (he:Ext s1.items s2.items):First k chain s s2:=by
 obtain ⟨x,h1,h2,h3,h4⟩:=h;obtain ⟨y,g1,g2⟩:=he _ _ h1;exact ⟨y,g1,g2.2.1.symm.trans h2,g2.2.2.1.symm.trans h3,g2.2.2.2.1.symm.trans h4⟩
theorem emit_at (E:CmpE) (s:CmpS) (code arg:Int) (k:Nat) (chain:List Nat):(emitI E s code arg k chain).items[s.items.length]?=some ⟨code,arg,k,s.start,chain,if E.framed&&!s.items.isEmpty then 0 else s.depth,E.framed&&!s.items.isEmpty⟩:=by
 unfold emitI
 simp
theorem Soon.emit {E:CmpE} {k:Nat} {chain:List Nat} {s s1:CmpS} (h:Soon k chain s s1) (code arg:Int):First k chain s (emitI E s1 code arg k chain):=by
 rcases h with ⟨hl,hs⟩|h
 ·exact ⟨_,by rw [← hl];exact emit_at E s1 code arg k chain,rfl,hs,rfl⟩
 ·exact h.ext (Ext.app _ _)
theorem First.emit {E:CmpE} {k k':Nat} {chain chain':List Nat} {s s1:CmpS} (h:First k chain s s1) (code arg:Int):First k chain s (emitI E s1 code arg k' chain'):=h.ext (Ext.app _ _)
theorem Soon.stores {E:CmpE} {k:Nat} {chain:List Nat} {s:CmpS} (x:ScL):∀ (n:Nat) (s1:CmpS),Soon k chain s s1→Soon k chain s (storesI E x k chain n s1):=by
 intro n
 induction n with
 | zero=>intro s1 h;exact h
 | succ n ih =>
  intro s1 h;exact ih _ (.inr (h.emit _ _))
theorem Soon.zeros {E:CmpE} {k:Nat} {chain:List Nat} {s:CmpS} (x:ScL):∀ (m i:Nat) (s1:CmpS),Soon k chain s s1→Soon k chain s (zerosI E x k chain m i s1):=by
 intro m
 induction m with
 | zero=>intro i s1 h;exact h
 | succ m ih =>
  intro i s1 h;have h1:First k chain s (numI E s1 0 k chain):=h.emit (E:=E) 0 0;have h2:First k chain s (storeI E (numI E s1 0 k chain) x i k chain):=First.emit (E:=E) (k':=k) (chain':=chain) h1 ((placeZ E (numI E s1 0 k chain).depth x i).1+1) (placeZ E (numI E s1 0 k chain).depth x i).2;exact ih _ _ (.inr h2)
theorem Soon.enter {E:CmpE} {k:Nat} {s s1:CmpS} (sc x:ScL) (h:Soon k sc.chain s s1):First k sc.chain s (enterI E sc x k s1):=by
 unfold enterI;dsimp only;have h1:=Soon.zeros (E:=E) x (x.locs.length - (argsZ E.p (x.f:Int)).length) (argsZ E.p (x.f:Int)).length _ (Soon.stores (E:=E) x (argsZ E.p (x.f:Int)).length { s1 with most:=max s1.most (x.first+x.locs.length) } h)
 split
 ·exact h1.emit _ _
 ·rename_i hc
  rcases h1 with ⟨_,hs⟩|h1
  ·exact absurd hs hc
  ·exact h1
theorem cmp_first {E:CmpE}:∀ (n:Nat),(∀ scs k i s,ScOk E scs→k<E.p.length→s.start=true→PrC (fun y=>First k (curS scs).chain s y.2) (cmpF E n (.expr scs k i) s)) ∧
  (∀ scs k i m s s0,ScOk E scs→k<E.p.length→Soon k (curS scs).chain s0 s→PrC (fun y=>Soon k (curS scs).chain s0 y.2) (cmpF E n (.args scs k i m) s)):=by
 intro n
 induction n with
 | zero=>exact ⟨fun _ _ _ _ _ _ _=>prc_none,fun _ _ _ _ _ _ _ _ _=>prc_none⟩
 | succ n ih =>
  refine ⟨fun scs k i s hs hk hst=>?_,fun scs k i m s s0 hs hk h=>?_⟩
  ·rw [cmpF]
   refine prc_bind (ih.2 scs k (i+1) _ s s hs hk (.inl ⟨rfl,hst⟩)) fun y hy=>?_
   refine prc_ite (fun _=>prc_some (hy.emit _ _)) fun _=>prc_ite (fun _=>prc_some (hy.emit _ _)) fun _=>prc_ite (fun _=>prc_ite (fun hr=>?_) fun _=>prc_some (hy.emit _ _)) fun _=>prc_some (hy.emit _ _)
   have h1:=Soon.enter (E:=E) (curS scs) (newSc E (curS scs) (findZ E.p (tokAt E.p k i).name).toNat k) hy;refine prc_map (cmp_ext n (.lines _ _ _ _) _ ⟨hs.new hr,fun v hv=>?_⟩) fun z hz=>?_
   ·rw [(List.mem_replicate.1 hv).2]
    exact ⟨Int.le_refl _,by omega⟩
   ·have hp:Ext z.2.items (patchL z.2.leaves (z.2.items.length:Int) z.2.items):=(ext_kept E z.2.items).pL _ _ (Ext.refl _)
    exact (h1.ext hz.1).ext hp
  ·cases m with
   | zero=>rw [cmpF];exact prc_some h
   | succ m =>
    rw [cmpF]
    rcases h with ⟨hl,hst⟩|h
    ·refine prc_bind (ih.1 scs k i s hs hk hst) fun y hy=>ih.2 scs k y.1 m y.2 s0 hs hk (.inr ?_)
     unfold First at hy ⊢;rw [← hl];exact hy
    ·refine prc_bind (cmp_ext n (.expr scs k i) s ⟨hs,hk⟩) fun y hy=>ih.2 scs k y.1 m y.2 s0 hs hk (.inr (h.ext hy.1))
def Has (j:Nat) (chain:List Nat) (l:List ItL):Prop:=∃ x ∈ l,x.line=j∧x.start=true∧x.chain=chain
theorem Has.ext {j:Nat} {chain:List Nat} {l l':List ItL} (h:Has j chain l) (he:Ext l l'):Has j chain l':=by
 obtain ⟨x,hx,h1,h2,h3⟩:=h;obtain ⟨i,hi,rfl⟩:=List.mem_iff_getElem.1 hx;obtain ⟨y,g1,g2⟩:=he i _ (List.getElem?_eq_getElem hi);exact ⟨y,List.mem_of_getElem? g1,g2.2.1.symm.trans h1,g2.2.2.1.symm.trans h2,g2.2.2.2.1.symm.trans h3⟩
theorem First.has {k:Nat} {chain:List Nat} {s s':CmpS} (h:First k chain s s'):Has k chain s'.items:=by
 obtain ⟨x,h1,h2,h3,h4⟩:=h;exact ⟨x,List.mem_of_getElem? h1,h2,h3,h4⟩
theorem cmp_starts {E:CmpE}:∀ (n:Nat) (scs:List ScL) (k:Nat) (heads:List Int) (exits:List (Int×Nat)) (s:CmpS),JobOk E (.lines scs k heads exits) s →
  PrC (fun y=>∀ j:Nat,k≤j→(j:Int)≤beZ E.p ((curS scs).f:Int)→lkZ E.p (j:Int)≠4→lkZ E.p (j:Int)≠7→Has j (curS scs).chain y.2.items) (cmpF E n (.lines scs k heads exits) s):=by
 intro n
 induction n with
 | zero=>intro scs k heads exits s _;exact prc_none
 | succ n ih =>
  intro scs k heads exits s hj0;have hj:=hj0;obtain ⟨hs,hh⟩:=hj;have hall:=cmp_kept (inOk_kept E);rw [cmpF];refine prc_ite (fun he=>prc_some fun j h1 h2=>by omega) fun he=>?_
  have hk:k<E.p.length:=by have:=(beZ_lt E.p ((curS scs).f:Int)).2;omega
  have pl:(patchI s exits (k:Int)).items.length=s.items.length:=patchX_length _ _ _;have hm0:∀ {m:Nat},s.items.length≤m→∀ v ∈ heads,0≤v∧v≤(m:Int):=fun hm v hv=>by have:=hh v hv;omega
  -- a line without an expression
  have no:(lkZ E.p (k:Int)=4∨lkZ E.p (k:Int)=7)→∀ (hd:List Int) (ex:List (Int×Nat)) (s':CmpS),(∀ v ∈ hd,0≤v∧v≤(s'.items.length:Int)) →
    PrC (fun y=>∀ j:Nat,k≤j→(j:Int)≤beZ E.p ((curS scs).f:Int)→lkZ E.p (j:Int)≠4→lkZ E.p (j:Int)≠7→Has j (curS scs).chain y.2.items) (cmpF E n (.lines scs (k+1) hd ex) s') :=
   fun hc hd ex s' h1=>prc_mono (ih scs (k+1) hd ex s' ⟨hs,h1⟩) fun y hy j h1 h2 h3 h4=>by
    rcases Nat.lt_or_ge k j with h|h
    ·exact hy j h h2 h3 h4
    ·obtain rfl:j=k:=by omega
     rcases hc with hc|hc
     ·exact absurd hc h3
     ·exact absurd hc h4
  have K:=ext_kept E [];refine prc_ite (fun h4=>no (.inl h4) _ _ _ (hm0 ?_)) fun h4=>prc_ite (fun h7=>prc_ite (fun _=>no (.inr h7) _ _ _ (hm0 ?_)) fun _=>no (.inr h7) _ _ _ (hm0 ?_)) fun h7=>?_
  ·show _≤(patchX _ _ _).length
   rw [patchX_length]
   have:=(K.em (patchI s exits (k:Int)) 10 0 k (curS scs).chain hk hs.chain (fun _=>⟨Int.le_refl _,by omega⟩) (fun _ _ h=>by simp at h)).2
   omega
  ·have q:=K.num hk hs.chain (patchI s exits (k:Int)) 0 (fun _ _ h=>by simp at h)
   have q2:=K.lea hk (numI E (patchI s exits (k:Int)) 0 k (curS scs).chain) (curS scs) true hs.chain q.1
   have:=q.2
   have:=q2.2
   omega
  ·have q:=K.bks hk (curS scs) heads hs.chain (backIx E.p (curS scs).f k) (patchI s exits (k:Int)) (hm0 (Nat.le_of_eq pl.symm)) (fun _ _ h=>by simp at h)
   have:=q.2
   omega
  ·refine prc_bind (fun y hy=>⟨(cmp_first n).1 scs k 0 { patchI s exits (k:Int) with start:=true } hs hk rfl y hy,cmp_ext n (.expr scs k 0) { patchI s exits (k:Int) with start:=true } ⟨hs,hk⟩ y hy⟩:PrC (fun y=>First k (curS scs).chain { patchI s exits (k:Int) with start:=true } y.2∧(Ext (patchI s exits (k:Int)).items y.2.items∧(patchI s exits (k:Int)).items.length≤y.2.items.length)) _) fun y hy=>?_
   have hy2:s.items.length≤y.2.items.length:=Nat.le_trans (Nat.le_of_eq pl.symm) hy.2.2;have st:∀ (s':CmpS),Ext y.2.items s'.items→y.2.items.length≤s'.items.length→∀ ex,PrC (fun y=>∀ j:Nat,k≤j→(j:Int)≤beZ E.p ((curS scs).f:Int)→lkZ E.p (j:Int)≠4→lkZ E.p (j:Int)≠7→Has j (curS scs).chain y.2.items) (cmpF E n (.lines scs (k+1) (heads.set k ((patchI s exits (k:Int)).items.length:Int)) ex) s'):=by
    intro s' he' hl' ex;have hd:∀ v ∈ heads.set k ((patchI s exits (k:Int)).items.length:Int),0≤v∧v≤(s'.items.length:Int):=fun v hv=>by
     rcases List.mem_or_eq_of_mem_set hv with h|h
     ·have:=hh v h;omega
     ·rw [h];omega
    exact fun z hz j h1 h2 h3 h4=>by
     rcases Nat.lt_or_ge k j with h|h
     ·exact ih scs (k+1) _ ex s' ⟨hs,hd⟩ z hz j h h2 h3 h4
     ·obtain rfl:j=k:=by omega
      exact (hy.1.has.ext he').ext (cmp_ext n (.lines scs (j+1) _ ex) s' ⟨hs,hd⟩ z hz).1
   have KE:=ext_kept E y.2.items;have em:∀ code arg,(code=10∨code=11→0≤arg∧arg≤(y.2.items.length:Int))→Ext y.2.items (emitI E y.2 code arg k (curS scs).chain).items∧y.2.items.length≤(emitI E y.2 code arg k (curS scs).chain).items.length:=fun code arg ha=>KE.em y.2 code arg k _ hk hs.chain ha (Ext.refl _)
   have s1:=KE.sto hk hs.chain y.2 (curS scs) (varIx (curS scs).locs (nameAt E.p k)) (Ext.refl _);have s2:=KE.lea hk y.2 (curS scs) false hs.chain (Ext.refl _);have s3:=em 17 0 (by omega);have s4:=em 11 0 (fun _=>⟨Int.le_refl _,by omega⟩);exact prc_ite (fun _=>st _ s1.1 s1.2 _) fun _=>prc_ite (fun _=>st (incD (emitI E y.2 17 0 k (curS scs).chain) (-1)) s3.1 s3.2 _) fun _=>prc_ite (fun _=>st _ s2.1 s2.2 _) fun _=>st (incD (emitI E y.2 11 0 k (curS scs).chain) (-1)) s4.1 s4.2 _
end Go.Proofs.YtcflojdkaddemaaGreatDoor
