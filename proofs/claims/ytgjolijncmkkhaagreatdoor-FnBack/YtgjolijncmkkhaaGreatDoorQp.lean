/- Own texts joined: BdM, PlM, NameB, KeyS, IdS, OpS, KlM, FoM, StrK, SrA, BdN, BdR, FoN, FoK, OnceF, SzB, SzO, EqI, EqO, Eq, EqZ, EqJ, EqP, ToZ, ToO, PlT, AppZ, Mark, MarkA, MarkM, MarkN, MarkT, OutT, RwT, PlW, FoS, OwO, Via, FoF, FoG, FoW, FoV, IdJ, IdI, OpN, DoM, BdI. -/
import Derived.Test.YtgjolijncmkkhaaGreatDoorQa
import Derived.Test.YtgjolijncmkkhaaGreatDoorQb
import Derived.Test.YtgjolijncmkkhaaGreatDoorQc
import Derived.Test.YtgjolijncmkkhaaGreatDoorQd
import Derived.Test.YtgjolijncmkkhaaGreatDoorQe
import Derived.Test.YtgjolijncmkkhaaGreatDoorQf
import Derived.Test.YtgjolijncmkkhaaGreatDoorQh
import Derived.Test.YtgjolijncmkkhaaGreatDoorChecked
import Derived.Maps.OwnSet
import Derived.DeepKeys4
import Derived.Deep.QuietTactic
import Derived.BigQuiet
import Derived.Deep.AppendLies
import Derived.Deep.RegionHeld3
import Derived.WalkMore
namespace Go.Proofs.YtgjolijncmkkhaaGreatDoor
open Go.RowKit
set_option linter.unusedVariables false
structure Itm where
 deep:Nat
 kind:Int
 name:Xg
 text:Xg
 attrs:List (Xg×Xg)
def Itm.more (i:Itm):Itm:={ i with deep:=i.deep+1 }
abbrev OnD:=Nd (List Itm)
def zav (o:OnD):List Itm:=⟨0,o.kind,o.name,o.text,o.attrs⟩::(o.kids.map fun k=>k.map Itm.more).flatten
def encT:(n:Nat)->Tr n->List Itm
 | 0=>fun t=>t.elim
 | n+1=>fun t=>zav ⟨t.kind,t.name,t.text,t.attrs,t.kids.map (encT n)⟩
theorem zfI:∀(n:Nat) (t:Tr n),encT (n+1) (upT n t)=encT n t
 | 0,t=>t.elim
 | n+1,t=>by
  show zav ⟨t.kind,t.name,t.text,t.attrs,(t.kids.map (upT n)).map (encT (n+1))⟩=zav ⟨t.kind,t.name,t.text,t.attrs,t.kids.map (encT n)⟩
  rw [List.map_map,show encT (n+1) ∘ upT n=encT n from funext fun x=>zfI n x]
def OwX (w:Xk) (C:Xj) (its:List Itm) (F:Xh):Prop:=∃(n:Nat) (t:Tr n),OwNodeM n w C t F∧encT n t=its
def OwE (w:Xk) (C:Xj) (o:OnD) (F:Xh):Prop:=∃a b c d Fc Fd,C=[.int .i64 o.kind,a,b,c,d]∧-9223372036854775808<=o.kind∧o.kind<=9223372036854775807∧RowM w 0 a o.name∧RowM w 0 b o.text∧OwAttrsM w c o.attrs Fc∧OwElems w 29 5 d o.kids (OwX w) Fd∧F=FB a++FB b++Fc++Fd
theorem OwX.frm {w w':Xk} {C:Xj} {its:List Itm} {F S:Xh} (h:OwX w C its F) (f:Frm w w' S) (hd:∀g∈F,g∉S):OwX w' C its F:=by
 obtain⟨n,t,h1,h2⟩:=h
 exact⟨n,t,OwNodeM.frm h1 f hd,h2⟩
theorem OwE.frm {w w':Xk} {C:Xj} {o:OnD} {F S:Xh} (h:OwE w C o F) (f:Frm w w' S) (hd:∀g∈F,g∉S):OwE w' C o F:=by
 obtain⟨a,b,c,d,Fc,Fd,e,k1,k2,h1,h2,h3,h4,rfl⟩:=h
 exact⟨a,b,c,d,Fc,Fd,e,k1,k2,h1.frm f (fun g hg=>hd g (by simp [hg])),h2.frm f (fun g hg=>hd g (by simp [hg])),OwAttrsM.frm h3 f (fun g hg=>hd g (by simp [hg])),OwElems.frm h4 f (fun g hg=>hd g (by simp [hg])) (fun C x G hr hG=>OwX.frm hr f hG),rfl⟩
theorem OwX.open_ {w:Xk} {C:Xj} {its:List Itm} {F:Xh} (h:OwX w C its F):∃o:OnD,OwE w C o F∧zav o=its:=by
 obtain⟨n,t,h1,rfl⟩:=h
 match n,t,h1 with
 | n+1,t,h1=>
  obtain⟨a,b,c,d,Fc,Fd,e,k1,k2,q1,q2,q3,⟨Cs,Fs,l1,l2,l3,l4,l5⟩,hF⟩:=h1
  refine⟨⟨t.kind,t.name,t.text,t.attrs,t.kids.map (encT n)⟩,⟨a,b,c,d,Fc,Fd,e,k1,k2,q1,q2,q3,⟨Cs,Fs,by simpa using l1,by simpa using l2,fun i hi=> ?_,by simpa using l4,l5⟩,hF⟩,rfl⟩
  have Aa:i<t.kids.length:=by simpa using hi
  exact⟨(l3 i Aa).1,n,_,(l3 i Aa).2,by simp⟩
def zbe (x:Int):Bool:=(decide (97<=x) && decide (x<=122)) || (decide (65<=x) && decide (x<=90))
def zeG (x:Int):Bool:=decide (48<=x) && decide (x<=57)
def zbQ (x:Int):Bool:=decide (x=32) || decide (x=9) || decide (x=10) || decide (x=13)
def zcz (x:Int):Bool:=decide (32<=x) && decide (x<=126)
def lowC (x:Int):Int:=if 65<=x∧x<=90 then x+32 else x
def preL (p l:Xg):Bool:=decide (p.length<=l.length∧l.take p.length=p)
def zap (l:Xg):Int×Nat:=
 if preL [38,97,109,112,59] l then (38,5) else if preL [38,108,116,59] l then (60,4) else if preL [38,103,116,59] l then (62,4) else if preL [38,113,117,111,116,59] l then (34,6) else (l.headD 0,1)
theorem zgi (l:Xg):0<(zap l).2:=by
 unfold zap
 repeat' split
 all_goals exact Nat.succ_pos _
def valL:Nat->Nat->Xg->Xg
 | 0,_,_=>[]
 | f+1,k,l=>if l=[]∨k=0 then [] else
  let m:=zap l
  if zcz m.1 then m.1::valL f (k-1) (l.drop m.2) else valL f k (l.drop m.2)
def upL (p:Int->Bool) (l:Xg):Xg×Xg:=(l.takeWhile fun x=> !p x,l.dropWhile fun x=> !p x)
def zaE (l:Xg):Xg×Xg:=((upL (fun x=> !(zbe x || zeG x)) l).1.map lowC,(upL (fun x=> !(zbe x || zeG x)) l).2)
def rawL (l:Xg):Xg×Xg:=match l with
 | q::r=>if q=34∨q=39 then ((upL (fun x=>decide (x=q)) r).1,(upL (fun x=>decide (x=q)) r).2.drop 1) else upL (fun x=>zbQ x || decide (x=62)) l
 | []=>([],[])
structure RdS where
 rest:Xg
 tag:Option (Bool×Xg×List (Xg×Xg))
 top:OnD
 below:List OnD
 parts:Nat
def room (s:RdS):Bool:=decide (s.parts+1<=120) && !decide (s.below.length+1=20)
def zax (k:List Itm):Option (Xg):=match k with
 | [i]=>if i.kind=1∧i.text.length≠30 then some i.text else none
 | _=>none
def txtI (l:Xg):List Itm:=[⟨0,1,[],l,[]⟩]
def putX (s:RdS) (x:Int):Option RdS:=
 if zcz x then match s.top.kids.getLast?.bind zax with
  | some t=>some { s with top:={ s.top with kids:=s.top.kids.dropLast++[txtI (t++[x])] } }
  | none=>if room s then some { s with top:={ s.top with kids:=s.top.kids++[txtI [x]] },parts:=s.parts+1 } else none
 else some s
def putC (s:RdS) (y:Int):Option RdS:=putX s (if zbQ y then 32 else y)
def zaT:Nat->OnD->List OnD->OnD×List OnD
 | k+1,t,b::bs=>zaT k { b with kids:=b.kids++[zav t] } bs
 | _,t,bs=>(t,bs)
def zpg (l:Xg):Bool:=decide (l=[98,114]) || decide (l=[104,114])
def putE (s:RdS) (nm:Xg) (ats:List (Xg×Xg)):Option RdS:=
 if room s then
  let o:OnD:=⟨0,nm,[],ats,[]⟩
  if zpg nm then some { s with top:={ s.top with kids:=s.top.kids++[zav o] },parts:=s.parts+1 }
  else some { s with top:=o,below:=s.top::s.below,parts:=s.parts+1 }
 else none
def zfc (nm:Xg):OnD->List OnD->Option Nat
 | _,[]=>none
 | t,b::bs=>if t.name=nm then some 0 else (zfc nm b bs).map (· + 1)
def endE (s:RdS) (nm:Xg):RdS:=match zfc nm s.top s.below with
 | some k=>{ s with top:=(zaT (k+1) s.top s.below).1,below:=(zaT (k+1) s.top s.below).2 }
 | none=>s
def tagB (l:Xg):Bool:=decide (l.head? = some 60) && (let r:=l.drop 1;let r':=if r.head? = some 47 then r.drop 1 else r;match r' with | c::_=>zbe c | []=>false)
def zed (s:RdS):RdS:=
 let r:=s.rest.drop 1
 let r':=if r.head? = some 47 then r.drop 1 else r
 { s with rest:=(zaE r').2,tag:=some (decide (r.head? = some 47),(zaE r').1,[]) }
section
variable (keep:List (Xg×Xg)->Xg×Xg->List (Xg×Xg)) (nok:Xg->Bool)
def zcK (l:Xg):(Xg×Xg)×Xg:=
 let n:=zaE l
 if n.2.head? = some 61 then ((n.1,valL (rawL (n.2.drop 1)).1.length 30 (rawL (n.2.drop 1)).1),(rawL (n.2.drop 1)).2) else ((n.1,[]),n.2)
def endT (s:RdS) (e:Bool) (nm:Xg) (ats:List (Xg×Xg)):Option RdS:=
 if nok nm then (if e then some (endE s nm) else putE s nm ats) else some s
def zcJ (s:RdS) (e:Bool) (nm:Xg) (ats:List (Xg×Xg)):Option RdS:=match s.rest with
 | []=>endT nok { s with tag:=none } e nm ats
 | x::r=>if x=62 then endT nok { s with tag:=none,rest:=r } e nm ats
  else if zbe x then some { s with rest:=(zcK s.rest).2,tag:=some (e,nm,keep ats (zcK s.rest).1) }
  else some { s with rest:=r }
def zoS (s:RdS):Option RdS:=match s.tag with
 | some (e,nm,ats)=>zcJ keep nok s e nm ats
 | none=>if tagB s.rest then some (zed s) else putC { s with rest:=s.rest.drop (zap s.rest).2 } (zap s.rest).1
def runL:Nat->RdS->Option RdS
 | 0,s=>some s
 | f+1,s=>if s.tag=none∧s.rest=[] then some s else (zoS keep nok s).bind (runL f)
def zaR (l:Xg):RdS:=⟨l,none,⟨0,[98,111,100,121],[],[],[]⟩,[],1⟩
def bldL (l:Xg):Option (List Itm):=if l.length<=1500 then (runL keep nok (2*l.length+2) (zaR l)).map fun s=>zav (zaT s.below.length s.top s.below).1 else none
end
end Go.Proofs.YtgjolijncmkkhaaGreatDoor
namespace Go.Proofs.YtgjolijncmkkhaaGreatDoor
end Go.Proofs.YtgjolijncmkkhaaGreatDoor
namespace Go.Proofs.YtgjolijncmkkhaaGreatDoor
open Go.RowKit
set_option linter.unusedVariables false
end Go.Proofs.YtgjolijncmkkhaaGreatDoor
namespace Go.Proofs.YtgjolijncmkkhaaGreatDoor
set_option linter.unusedVariables false
def klB:Xg->Xg->Bool
 | [],[]=>false
 | [],_::_=>true
 | _::_,[]=>false
 | x::a,y::b=>if x=y then klB a b else decide (x<y)
theorem zAP (a b:Xg):(klB a b || klB b a) = !decide (a=b):=by
 induction a generalizing b with
 | nil=>cases b<;>simp [klB]
 | cons x a ih=>
  cases b with
  | nil=>simp [klB]
  | cons y b=>
   by_cases e:x=y
   ·rw [klB,if_pos e,klB,if_pos e.symm,ih b];simp [e]
   ·rw [klB,if_neg e,klB,if_neg (fun h=>e h.symm)]
    have:x<y∨y<x:=by omega
    simp [e,this]
end Go.Proofs.YtgjolijncmkkhaaGreatDoor
namespace Go.Proofs.YtgjolijncmkkhaaGreatDoor
open Go.RowKit
set_option linter.unusedVariables false
theorem zzq {x y:Int} (hx:0<=x∧x<=255) (hy:0<=y∧y<=255):(UInt8.ofNat x.toNat<UInt8.ofNat y.toNat)↔x<y:=by
 rw [UInt8.lt_iff_toNat_lt]
 simp only [UInt8.toNat_ofNat']
 omega
theorem zok:∀(a b:Xg),okB a->okB b->Op.bytesLess (a.map fun n=>UInt8.ofNat n.toNat) (b.map fun n=>UInt8.ofNat n.toNat)=klB a b
 | [],[],_,_=>rfl
 | [],_::_,_,_=>rfl
 | _::_,[],_,_=>rfl
 | x::a,y::b,ha,hb=>by
  have hx:=ha x (by simp)
  have hy:=hb y (by simp)
  have ih:=zok a b (fun z hz=>ha z (by simp [hz])) (fun z hz=>hb z (by simp [hz]))
  simp only [List.map_cons]
  unfold Op.bytesLess klB
  rw [ih]
  have h1:=zzq hx hy
  have h2:=zzq hy hx
  by_cases e:x=y
  ·subst e;simp
  ·have e2:¬ UInt8.ofNat x.toNat=UInt8.ofNat y.toNat:=fun h=>by
    have h3:¬ UInt8.ofNat x.toNat<UInt8.ofNat y.toNat:=by rw [h];exact UInt8.lt_irrefl _
    have h4:¬ UInt8.ofNat y.toNat<UInt8.ofNat x.toNat:=by rw [h];exact UInt8.lt_irrefl _
    rw [h1]at h3
    rw [h2]at h4
    omega
   by_cases hl:x<y
   ·simp [h1.2 hl,e,hl]
   ·have h5:¬ UInt8.ofNat x.toNat<UInt8.ofNat y.toNat:=fun h=>hl (h1.1 h)
    simp [h5,e,hl,e2]
theorem zku {a b:Xg} (ha:okB a) (hb:okB b):Op.bytesLess (str a).toList (str b).toList=klB a b:=by
 rw [zbJ,zbJ,zcd,zcd]
 exact zok a b ha hb
theorem zgm:∀{a b c:Xg},klB a b=true->klB b c=true->klB a c=true
 | [],_,[],h,k=>by
  rename_i b
  cases b with
  | nil=>cases h
  | cons y b=>cases k
 | [],_,_::_,_,_=>rfl
 | x::a,[],_,h,_=>by cases h
 | x::a,y::b,[],_,k=>by cases k
 | x::a,y::b,z::c,h,k=>by
  unfold klB at h k ⊢
  by_cases e1:x=y
  ·subst e1
   rw [if_pos rfl]at h
   by_cases e2:x=z
   ·rw [if_pos e2]at k ⊢
    exact zgm h k
   ·rw [if_neg e2]at k ⊢
    exact k
  ·rw [if_neg e1]at h
   have h':=of_decide_eq_true h
   by_cases e2:y=z
   ·subst e2
    rw [if_neg e1]
    exact h
   ·rw [if_neg e2]at k
    have k':=of_decide_eq_true k
    rw [if_neg (by omega)]
    exact decide_eq_true (by omega)
theorem zBp {a b:Xg} (ha:okB a) (hb:okB b):decide (cmpB a b<0)=klB a b:=by
 rw [<-zow]
 exact zku ha hb
theorem zio:∀(a b:List UInt8),Lib.compareBytes a b=0↔a=b
 | [],[]=>by simp [Lib.compareBytes]
 | [],_::_=>by simp [Lib.compareBytes]
 | _::_,[]=>by simp [Lib.compareBytes]
 | x::a,y::b=>by
  have ih:=zio a b
  unfold Lib.compareBytes
  by_cases h1:x<y
  ·have Aa:¬ x=y:=fun e=>by subst e;exact absurd h1 (UInt8.lt_irrefl _)
   simp [h1,Aa]
  ·by_cases h2:y<x
   ·have Aa:¬ x=y:=fun e=>by subst e;exact h1 h2
    simp [h1,h2,Aa]
   ·have he:x=y:=UInt8.le_antisymm (UInt8.not_lt.1 h2) (UInt8.not_lt.1 h1)
    subst he
    simp [h1,ih]
theorem zjO:∀{a b:Xg},okB a->okB b->Lib.bytesOf a=Lib.bytesOf b->a=b
 | [],[],_,_,_=>rfl
 | [],_::_,_,_,h=>by cases h
 | _::_,[],_,_,h=>by cases h
 | x::a,y::b,ha,hb,h=>by
  unfold Lib.bytesOf at h
  simp only [List.map_cons,List.cons.injEq]at h
  have hx:=ha x (List.mem_cons_self ..)
  have hy:=hb y (List.mem_cons_self ..)
  have e:x=y:=by
   have h1:=congrArg UInt8.toNat h.1
   simp at h1
   omega
  rw [e,zjO (fun z hz=>ha z (List.mem_cons_of_mem _ hz)) (fun z hz=>hb z (List.mem_cons_of_mem _ hz)) h.2]
theorem zze {a b:Xg} (ha:okB a) (hb:okB b):(cmpB a b == 0)=decide (a=b):=by
 have h:=zio (Lib.bytesOf a) (Lib.bytesOf b)
 by_cases e:a=b
 ·rw [decide_eq_true e]
  have:cmpB a b=0:=h.2 (by rw [e])
  simp [this]
 ·rw [decide_eq_false e]
  have:cmpB a b≠0:=fun h'=>e (zjO ha hb (h.1 h'))
  simpa using this
abbrev AtV:=Xg×Xg
def zbd (n:Xg) (x:AtV):Bool:=klB x.1 n
def posA (l:List AtV) (n:Xg):Nat:=(l.takeWhile (zbd n)).length
def zbl (l:List AtV) (n:Xg):Bool:=if h:posA l n<l.length then decide (l[posA l n].1=n) else false
def SrtA (l:List AtV):Prop:=l.Pairwise (fun a b=>klB a.1 b.1=true)
theorem SrtA.lt {l:List AtV} (h:SrtA l) {i j:Nat} (hij:i<j) (hj:j<l.length):klB l[i].1 l[j].1=true:=List.pairwise_iff_getElem.1 h i j (by omega) hj hij
theorem zkc {l:List AtV} (h:SrtA l) {n:Xg} {i j:Nat} (hij:i<=j) (hj:j<l.length) (ha:zbd n l[j]=true):zbd n l[i]=true:=by
 rcases Nat.lt_or_eq_of_le hij with e | e
 ·exact zgm (h.lt e hj) ha
 ·subst e;exact ha
theorem zAQ {l:List AtV} {n:Xg} {i:Nat} (hi:i<=l.length) (h1:∀k (hk:k<l.length),k<i->zbd n l[k]=true) (h2:∀hk:i<l.length,zbd n l[i]=false):posA l n=i:=by
 unfold posA
 induction l generalizing i with
 | nil=>simp at hi;subst hi;rfl
 | cons p l ih=>
  cases i with
  | zero=>
   have:=h2 (by simp)
   simp only [List.getElem_cons_zero]at this
   rw [List.takeWhile_cons,if_neg (by rw [this];decide)]
   rfl
  | succ i=>
   have h0:=h1 0 (by simp) (by omega)
   simp only [List.getElem_cons_zero]at h0
   rw [List.takeWhile_cons,if_pos h0,List.length_cons]
   rw [ih (i:=i) (by simpa using hi) (fun k hk Aa=>by have:=h1 (k+1) (by simpa using hk) (by omega);simpa using this) (fun hk=>by have:=h2 (by simpa using hk);simpa using this)]
theorem zAo (l:List AtV) (n:Xg):posA l n<=l.length:=(List.takeWhile_prefix _).length_le
theorem znR (a:AtV) (r:List AtV) (n:Xg):posA (a::r) n=if klB a.1 n=true then posA r n+1 else 0:=by
 unfold posA
 rw [List.takeWhile_cons]
 by_cases h:klB a.1 n=true
 ·rw [if_pos (show zbd n a=true from h),if_pos h,List.length_cons]
 ·rw [if_neg (show ¬ zbd n a=true from h),if_neg h];rfl
theorem zsk (a:AtV) (r:List AtV) (n:Xg):zbl (a::r) n=if klB a.1 n=true then zbl r n else decide (a.1=n):=by
 unfold zbl
 have hp:=znR a r n
 by_cases h:klB a.1 n=true
 ·rw [if_pos h]at hp ⊢
  by_cases h2:posA r n<r.length
  ·rw [dif_pos (by rw [hp];simpa using h2),dif_pos h2]
   simp only [hp,List.getElem_cons_succ]
  ·rw [dif_neg (by rw [hp];simpa using h2),dif_neg h2]
 ·rw [if_neg h]at hp ⊢
  rw [dif_pos (by rw [hp];simp)]
  simp only [hp,List.getElem_cons_zero]
def zaS (l:List AtV) (a:AtV):List AtV:=if zbl l a.1=true∨l.length=4∨zaJ a.1=false then l else l.take (posA l a.1)++(a::l.drop (posA l a.1))
abbrev stp (s:RdS):Option RdS:=zoS zaS zaJ s
def iter:Nat->RdS->Option RdS
 | 0,s=>some s
 | f+1,s=>(stp s).bind (iter f)
theorem zmx {s:RdS} (h1:s.tag=none) (h2:s.rest=[]):stp s=some s:=by
 obtain⟨rest,tag,Aa,below,parts⟩:=s
 cases h1
 cases h2
 rfl
theorem zbY {s:RdS} (h1:s.tag=none) (h2:s.rest=[]):∀f,iter f s=some s
 | 0=>rfl
 | f+1=>by unfold iter;rw [zmx h1 h2];exact zbY h1 h2 f
theorem zhL:∀(f:Nat) (s:RdS),runL zaS zaJ f s=iter f s
 | 0,s=>rfl
 | f+1,s=>by
  unfold runL
  by_cases h:s.tag=none∧s.rest=[]
  ·rw [if_pos h,zbY h.1 h.2]
  ·rw [if_neg h]
   show _=(stp s).bind (iter f)
   rw [show runL zaS zaJ f=iter f from funext (zhL f)]
theorem zpM:∀(j k:Nat) (s:RdS),iter (j+k) s=(iter j s).bind (iter k)
 | 0,k,s=>by rw [Nat.zero_add];rfl
 | j+1,k,s=>by
  rw [show j+1+k=(j+k)+1 by omega]
  unfold iter
  cases h:stp s with
  | none=>rfl
  | some t=>exact zpM j k t
def Reads (s t:RdS):Prop:=∃k,iter k s=some t
theorem Reads.trans {a b c:RdS} (h:Reads a b) (k:Reads b c):Reads a c:=by
 obtain⟨i,hi⟩:=h
 obtain⟨j,hj⟩:=k
 exact⟨i+j,by rw [zpM,hi];exact hj⟩
theorem Reads.refl (a:RdS):Reads a a:=⟨0,rfl⟩
theorem Reads.one {a b:RdS} (h:stp a=some b):Reads a b:=⟨1,by unfold iter;rw [h];rfl⟩
def mu (s:RdS):Nat:=2*s.rest.length+(if s.tag=none then 0 else 1)
theorem zrn (p:Int->Bool) (l:Xg):(upL p l).1.length+(upL p l).2.length=l.length:=by
 have:=congrArg List.length (List.takeWhile_append_dropWhile (p:=fun x=> !p x) (l:=l))
 rw [List.length_append]at this
 exact this
theorem zrg (l:Xg):(zaE l).2.length<=l.length:=by
 have:=zrn (fun x=> !(zbe x || zeG x)) l
 show (upL _ l).2.length<=_
 omega
theorem zvO {x:Int} {l:Xg} (h:zbe x=true):(zaE (x::l)).2.length<(x::l).length:=by
 have h2:(zaE (x::l)).2=(zaE l).2:=by
  unfold zaE upL
  simp only [List.dropWhile_cons,h,Bool.true_or,Bool.not_true,Bool.not_false,if_true]
 rw [h2]
 have:=zrg l
 simp;omega
theorem zAd (l:Xg):(rawL l).2.length<=l.length:=by
 unfold rawL
 split
 ·rename_i q r
  split
  ·have:=zrn (fun x=>decide (x=q)) r
   simp;omega
  ·have:=zrn (fun x=>zbQ x || decide (x=62)) (q::r)
   omega
 ·simp
theorem zyJ (l:Xg):(zcK l).2.length<=(zaE l).2.length:=by
 unfold zcK
 simp only
 split
 ·rename_i h
  cases hn:(zaE l).2 with
  | nil=>rw [hn]at h;cases h
  | cons y r=>
   have:=zAd ((y::r).drop 1)
   simp at this ⊢
   omega
 ·exact Nat.le_refl _
theorem zif {s t:RdS} {y:Int} (h:putC s y=some t):t.rest=s.rest∧t.tag=s.tag:=by
 unfold putC at h
 generalize (if zbQ y then (32:Int) else y)=x at h
 unfold putX at h
 split at h
 ·split at h
  ·cases h;exact⟨rfl,rfl⟩
  ·split at h
   ·cases h;exact⟨rfl,rfl⟩
   ·cases h
 ·cases h;exact⟨rfl,rfl⟩
theorem zdD {s t:RdS} {e:Bool} {nm:Xg} {ats:List AtV} (h:endT zaJ s e nm ats=some t):t.rest=s.rest∧t.tag=s.tag:=by
 unfold endT at h
 split at h
 ·split at h
  ·cases h
   unfold endE
   split<;>exact⟨rfl,rfl⟩
  ·unfold putE at h
   simp only at h
   split at h
   ·split at h<;>(cases h;exact⟨rfl,rfl⟩)
   ·cases h
 ·cases h;exact⟨rfl,rfl⟩
theorem zgF {s t:RdS} (h0:¬ (s.tag=none∧s.rest=[])) (h:stp s=some t):mu t<mu s:=by
 obtain⟨rest,tag,Aa,below,parts⟩:=s
 cases tag with
 | some g=>
  obtain⟨e,nm,Ba⟩:=g
  have h:zcJ zaS zaJ ⟨rest,some (e,nm,Ba),Aa,below,parts⟩ e nm Ba=some t:=h
  cases rest with
  | nil=>
   have h:=zdD (s:=⟨[],none,Aa,below,parts⟩) h
   unfold mu
   rw [h.1,h.2]
   simp
  | cons x r=>
   unfold zcJ at h
   simp only at h
   split at h
   ·have h:=zdD (s:=⟨r,none,Aa,below,parts⟩) h
    unfold mu
    rw [h.1,h.2]
    simp;omega
   ·split at h
    ·rename_i hl
     cases h
     have h1:=zyJ (x::r)
     have h2:=zvO (l:=r) hl
     simp [mu]at h1 h2 ⊢
     omega
    ·cases h
     simp [mu]
 | none=>
  have hr:rest≠[]:=fun e=>h0 ⟨rfl,e⟩
  have hp:0<rest.length:=List.length_pos_iff.2 hr
  have h:(if tagB rest=true then some (zed ⟨rest,none,Aa,below,parts⟩) else putC ⟨rest.drop (zap rest).2,none,Aa,below,parts⟩ (zap rest).1)=some t:=h
  split at h
  ·cases h
   have h1:=zrg (if (rest.drop 1).head? = some 47 then (rest.drop 1).drop 1 else rest.drop 1)
   have h2:(if (rest.drop 1).head? = some 47 then (rest.drop 1).drop 1 else rest.drop 1).length<=rest.length-1:=by split<;>simp<;>omega
   simp only [mu,zed,if_true,reduceCtorEq,if_false]
   omega
  ·have h1:=zif h
   have h2:=zgi rest
   unfold mu
   rw [h1.1,h1.2]
   simp
   omega
theorem zAj {l:Xg} {its:List Itm} (h:bldL zaS zaJ l=some its):l.length<=1500∧∃t k,iter k (zaR l)=some t∧its=zav (zaT t.below.length t.top t.below).1:=by
 unfold bldL at h
 split at h
 ·rename_i hl
  rw [zhL]at h
  cases hi:iter (2*l.length+2) (zaR l)with
  | none=>rw [hi]at h;cases h
  | some t=>rw [hi]at h;cases h;exact⟨hl,t,_,hi,rfl⟩
 ·cases h
def zdu (k:List Itm):Bool:=(zax k).isSome
def isTx (k:List Itm):Bool:=match k with
 | i::_=>decide (i.kind=1)
 | []=>false
def AdjX:List (List Itm)->Prop
 | a::b::r=>¬ (zdu a=true∧isTx b=true)∧AdjX (b::r)
 | _=>True
def zdq (l:List AtV):Prop:=l.length<=4∧SrtA l∧∀x∈l,zat x.1∧zar x.2
def zCc {α:Type} (t:Nd α):Prop:=t.kind=1∧t.name=[]∧t.attrs=[]∧t.kids=[]∧zar t.text∧t.text≠[]
def zpi {α:Type} (t:Nd α):Prop:=t.kind=0∧zat t.name∧t.text=[]∧zdq t.attrs
def zaG:(n:Nat)->Tr n->Prop
 | 0=>fun _=>False
 | n+1=>fun t=>zCc t∨(zpi t∧(zba t.name=true->t.kids=[])∧AdjX (t.kids.map (encT n))∧∀k∈t.kids,zaG n k)
theorem zbt (n:Nat) (t:Tr (n+1)):encT (n+1) t=zav ⟨t.kind,t.name,t.text,t.attrs,t.kids.map (encT n)⟩:=rfl
theorem zgA {l:Xg} (h:zar l):∀x∈l,32<=x∧x<=126:=by
 intro x hx
 obtain⟨i,hi,rfl⟩:=List.getElem_of_mem hx
 have:=h.2 i hi
 rw [show l.getD i 0=l[i] by simp [hi]]at this
 exact this
theorem zmB {l:Xg} (h:zat l):∀x∈l,(97<=x∧x<=122)∨(48<=x∧x<=57):=by
 intro x hx
 obtain⟨i,hi,rfl⟩:=List.getElem_of_mem hx
 have:=h.2.2 i hi
 rw [show l.getD i 0=l[i] by simp [hi]]at this
 exact this.elim .inl (fun h=>.inr h.2)
theorem ziC {l:Xg} (h:zat l):∃c r,l=c::r∧97<=c∧c<=122:=by
 cases l with
 | nil=>have:=h.1;simp at this
 | cons c r=>
  have:=h.2.2 0 (by simp)
  simp [zcR]at this
  exact⟨c,r,rfl,this⟩
theorem zzS {x:Int} (hx:32<=x∧x<=126) (r:Xg):tagB (sayB false x++r)=false:=by
 unfold sayB
 by_cases h1:x=38
 ·rw [if_pos h1];rfl
 ·rw [if_neg h1]
  by_cases h2:x=60
  ·rw [if_pos h2];rfl
  ·rw [if_neg h2,if_neg (by simp)]
   unfold tagB
   simp [h2]
theorem zsS (p l:Xg):preL p (p++l)=true:=by
 unfold preL
 simp
theorem zBD {p l:Xg} {y x:Int} {r:Xg} (hp:p.head? = some y) (hl:l=x::r) (h:x≠y):preL p l=false:=by
 unfold preL
 cases p with
 | nil=>cases hp
 | cons z q=>
  simp at hp
  subst hp
  subst hl
  simp
  intro _ e
  exact absurd e h
theorem zoz (q:Bool) {x:Int} (r:Xg):zap (sayB q x++r)=(x,(sayB q x).length):=by
 unfold sayB
 by_cases h1:x=38
 ·subst h1;rw [if_pos rfl];rfl
 ·rw [if_neg h1]
  by_cases h2:x=60
  ·subst h2;rw [if_pos rfl];unfold zap;simp only [zsS,if_true];rw [if_neg (by simp [preL])];rfl
  ·rw [if_neg h2]
   by_cases h3:x=34∧q=true
   ·rw [if_pos h3,h3.1];unfold zap;simp only [zsS,if_true];rw [if_neg (by simp [preL]),if_neg (by simp [preL]),if_neg (by simp [preL])];rfl
   ·rw [if_neg h3]
    unfold zap
    have k:∀p:Xg,p.head? = some 38->preL p ([x]++r)=false:=fun p hp=>zBD hp rfl h1
    simp only [k [38,97,109,112,59] rfl,k [38,108,116,59] rfl,k [38,103,116,59] rfl,k [38,113,117,111,116,59] rfl]
    rfl
theorem zfK (q:Bool) (x:Int) (l:Xg):say q (x::l)=sayB q x++say q l:=rfl
theorem zxw {x:Int} (hx:32<=x∧x<=126):(if zbQ x then (32:Int) else x)=x:=by
 by_cases h:zbQ x=true
 ·rw [if_pos h]
  unfold zbQ at h
  simp at h
  omega
 ·rw [if_neg h]
theorem zhx {x:Int} (hx:32<=x∧x<=126):zcz x=true:=by
 unfold zcz
 simp [hx]
theorem zkm {x:Int} (hx:32<=x∧x<=126) (r:Xg) (top:OnD) (below:List OnD) (p:Nat):stp ⟨sayB false x++r,none,top,below,p⟩=putX ⟨r,none,top,below,p⟩ x:=by
 show (if tagB (sayB false x++r)=true then _ else putC ⟨(sayB false x++r).drop (zap (sayB false x++r)).2,none,top,below,p⟩ (zap (sayB false x++r)).1)=_
 rw [if_neg (by rw [zzS hx];decide),zoz]
 simp only [List.drop_left]
 unfold putC
 rw [zxw hx]
theorem zfS (ks:List (List Itm)) (k:List Itm):(ks++[k]).getLast?.bind zax=zax k:=by simp
theorem zhr {t:Xg} (h:t.length≠30):zax (txtI t)=some t:=by
 unfold zax txtI
 simp [h]
theorem zyH {x:Int} (hx:32<=x∧x<=126) {r t:Xg} {kd:Int} {nm tx:Xg} {ats:List AtV} {ks:List (List Itm)} {below:List OnD} {p:Nat} (ht:t.length≠30) :
  putX ⟨r,none,⟨kd,nm,tx,ats,ks++[txtI t]⟩,below,p⟩ x=some ⟨r,none,⟨kd,nm,tx,ats,ks++[txtI (t++[x])]⟩,below,p⟩:=by
 unfold putX
 rw [if_pos (zhx hx)]
 simp only [zfS,zhr ht,List.dropLast_concat]
theorem zlR:∀(u t r:Xg) (kd:Int) (nm tx:Xg) (ats:List AtV) (ks:List (List Itm)) (below:List OnD) (p:Nat),(∀x∈u,32<=x∧x<=126)->t.length+u.length<=30->
  Reads ⟨say false u++r,none,⟨kd,nm,tx,ats,ks++[txtI t]⟩,below,p⟩ ⟨r,none,⟨kd,nm,tx,ats,ks++[txtI (t++u)]⟩,below,p⟩
 | [],t,r,kd,nm,tx,ats,ks,below,p,_,_=>by rw [List.append_nil];exact Reads.refl _
 | x::u,t,r,kd,nm,tx,ats,ks,below,p,hu,hl=>by
  have h1:=Reads.one (zkm (hu x (by simp)) (say false u++r) ⟨kd,nm,tx,ats,ks++[txtI t]⟩ below p |>.trans (zyH (hu x (by simp)) (by simp at hl;omega)))
  have h2:=zlR u (t++[x]) r kd nm tx ats ks below p (fun y hy=>hu y (by simp [hy])) (by simp at hl ⊢;omega)
  rw [List.append_assoc]at h2
  rw [zfK,List.append_assoc]
  exact h1.trans h2
theorem zxD {x:Int} (h:(97<=x∧x<=122)∨(48<=x∧x<=57)):(zbe x || zeG x)=true∧lowC x=x:=by
 refine⟨?_,?_⟩
 ·unfold zbe zeG
  simp
  omega
 ·unfold lowC
  rw [if_neg (by omega)]
theorem ziM {nm:Xg} {c:Int} {r:Xg} (h:∀x∈nm,(97<=x∧x<=122)∨(48<=x∧x<=57)) (hc:(zbe c || zeG c)=false):zaE (nm++c::r)=(nm,c::r):=by
 induction nm with
 | nil=>
  unfold zaE upL
  simp [hc]
 | cons x nm ih=>
  obtain⟨h1,h2⟩:=zxD (h x (by simp))
  have:=ih (fun y hy=>h y (by simp [hy]))
  unfold zaE upL at this ⊢
  simp only [Bool.not_not,Prod.mk.injEq]at this
  simp only [List.cons_append,List.takeWhile_cons,List.dropWhile_cons,h1,Bool.not_not,if_true,List.map_cons,h2,this.1,this.2]
theorem zsz:∀(f k:Nat) (v:Xg),(∀x∈v,32<=x∧x<=126)->v.length<=k->(say true v).length<=f->valL f k (say true v)=v
 | 0,k,v,hv,hk,hf=>by
  cases v with
  | nil=>rfl
  | cons x v=>
   rw [zfK,List.length_append]at hf
   have:0<(sayB true x).length:=by unfold sayB;split<;>(try split)<;>(try split)<;>simp
   omega
 | f+1,k,[],hv,hk,hf=>by unfold valL;rw [if_pos (.inl rfl)]
 | f+1,k,x::v,hv,hk,hf=>by
  rw [zfK]at hf ⊢
  have h0:0<(sayB true x).length:=by unfold sayB;split<;>(try split)<;>(try split)<;>simp
  unfold valL
  rw [if_neg (by
   rintro (e | e)
   ·have:=congrArg List.length e;rw [List.length_append,List.length_nil]at this;omega
   ·rw [List.length_cons]at hk;omega)]
  simp only [zoz,List.drop_left]
  rw [if_pos (zhx (hv x (by simp))),zsz f (k-1) v (fun y hy=>hv y (by simp [hy])) (by rw [List.length_cons]at hk;omega) (by rw [List.length_append]at hf;omega)]
theorem zvg (v:Xg):∀x∈say true v,x≠34:=by
 intro x hx
 obtain⟨l,hl,Aa⟩:=List.mem_flatten.1 hx
 obtain⟨y,_,rfl⟩:=List.mem_map.1 hl
 unfold sayB at Aa
 by_cases h1:y=38
 ·rw [if_pos h1]at Aa;simp at Aa;omega
 ·rw [if_neg h1]at Aa
  by_cases h2:y=60
  ·rw [if_pos h2]at Aa;simp at Aa;omega
  ·rw [if_neg h2]at Aa
   by_cases h3:y=34∧true=true
   ·rw [if_pos h3]at Aa;simp at Aa;omega
   ·rw [if_neg h3]at Aa
    simp at Aa
    subst Aa
    exact fun e=>h3 ⟨e,rfl⟩
theorem zyo {a r:Xg} (h:∀x∈a,x≠34):upL (fun x=>decide (x=34)) (a++34::r)=(a,34::r):=by
 induction a with
 | nil=>rfl
 | cons x a ih=>
  have hx:=h x (by simp)
  have:=ih (fun y hy=>h y (by simp [hy]))
  unfold upL at this ⊢
  simp only [Prod.mk.injEq]at this
  simp [hx,this.1,this.2]
theorem zwG {x:AtV} {r:Xg} (h1:zat x.1) (h2:zar x.2):zcK (x.1++[61,34]++say true x.2++[34]++r)=(x,r):=by
 have e:x.1++[61,34]++say true x.2++[34]++r=x.1++61::(34::(say true x.2++34::r)):=by simp
 have hn:=ziM (c:=61) (r:=34::(say true x.2++34::r)) (zmB h1) rfl
 unfold zcK
 rw [e,hn]
 have hr:rawL (34::(say true x.2++34::r))=(say true x.2,r):=by
  unfold rawL
  simp only [true_or,if_true]
  rw [zyo (zvg x.2)]
  rfl
 simp only [List.head?_cons,if_true,List.drop_succ_cons,List.drop_zero,hr]
 rw [zsz _ 30 x.2 (zgA h2) h2.1 (Nat.le_refl _)]
theorem zzE {l:List AtV} {n:Xg} (h:∀x∈l,klB x.1 n=true):posA l n=l.length:=by
 induction l with
 | nil=>rfl
 | cons x l ih=>
  have:=ih (fun y hy=>h y (by simp [hy]))
  unfold posA at this ⊢
  rw [List.takeWhile_cons,if_pos (show zbd n x=true from h x (by simp)),List.length_cons,this,List.length_cons]
theorem zyi {l:List AtV} {x:AtV} {m:List AtV} (h:zdq (l++x::m)):zaS l x=l++[x]:=by
 have hp:=zzE (l:=l) (n:=x.1) (fun y hy=>(List.pairwise_append.1 h.2.1).2.2 y hy x (by simp))
 have ht:zbl l x.1=false:=by
  unfold zbl
  rw [dif_neg (by rw [hp];omega)]
 have hl:=h.1
 have hn:=(zby x.1).2 (h.2.2 x (by simp)).1
 unfold zaS
 rw [if_neg (by
  rintro (e | e | e)
  ·rw [ht]at e;cases e
  ·simp at hl;omega
  ·rw [hn]at e;cases e),hp]
 simp
theorem zuO {x:AtV} {r:Xg} {e:Bool} {nm:Xg} {l m:List AtV} {top:OnD} {below:List OnD} {p:Nat} (h:zdq (l++x::m)) :
  Reads ⟨zdf x++r,some (e,nm,l),top,below,p⟩ ⟨r,some (e,nm,l++[x]),top,below,p⟩:=by
 obtain⟨hn,ht⟩:=h.2.2 x (by simp)
 obtain⟨c,q,hq,c1,c2⟩:=ziC hn
 have h1:stp ⟨zdf x++r,some (e,nm,l),top,below,p⟩=some ⟨x.1++[61,34]++say true x.2++[34]++r,some (e,nm,l),top,below,p⟩:=by
  rw [show zdf x++r=32::(x.1++[61,34]++say true x.2++[34]++r) by simp [zdf]]
  rfl
 have hL:zbe c=true:=by unfold zbe;simp [c1,c2]
 have h2:stp ⟨x.1++[61,34]++say true x.2++[34]++r,some (e,nm,l),top,below,p⟩=some ⟨r,some (e,nm,l++[x]),top,below,p⟩:=by
  show zcJ zaS zaJ ⟨x.1++[61,34]++say true x.2++[34]++r,some (e,nm,l),top,below,p⟩ e nm l=_
  have e1:=zwG (r:=r) hn ht
  obtain⟨z,hz⟩:∃z,x.1++[61,34]++say true x.2++[34]++r=c::z:=by rw [hq];exact⟨_,rfl⟩
  rw [hz]at e1 ⊢
  unfold zcJ
  simp only
  rw [if_neg (by omega),if_pos hL,e1,zyi h]
 exact (Reads.one h1).trans (Reads.one h2)
theorem zjJ:∀(m:List AtV) {r:Xg} {e:Bool} {nm:Xg} {l:List AtV} {top:OnD} {below:List OnD} {p:Nat},zdq (l++m)->
  Reads ⟨zaz m++r,some (e,nm,l),top,below,p⟩ ⟨r,some (e,nm,l++m),top,below,p⟩
 | [],r,e,nm,l,top,below,p,h=>by rw [List.append_nil];exact Reads.refl _
 | x::m,r,e,nm,l,top,below,p,h=>by
  have h1:=zuO (r:=zaz m++r) (e:=e) (nm:=nm) (top:=top) (below:=below) (p:=p) h
  have h2:=zjJ m (r:=r) (e:=e) (nm:=nm) (l:=l++[x]) (top:=top) (below:=below) (p:=p) (by rw [List.append_assoc];exact h)
  rw [List.append_assoc]at h2
  rw [show zaz (x::m)++r=zdf x++(zaz m++r) by unfold zaz;simp]
  exact h1.trans h2
theorem zuw {nm:Xg} {m:List AtV} {r:Xg} {top:OnD} {below:List OnD} {p:Nat} (hn:zat nm) (hm:zdq m) :
  Reads ⟨[60]++nm++zaz m++[62]++r,none,top,below,p⟩ ⟨62::r,some (false,nm,m),top,below,p⟩:=by
 obtain⟨c,q,hq,c1,c2⟩:=ziC hn
 have hL:zbe c=true:=by unfold zbe;simp [c1,c2]
 obtain⟨d,z,hz,hd⟩:∃d z,zaz m++(62::r)=d::z∧(zbe d || zeG d)=false:=by
  cases m with
  | nil=>exact⟨62,r,rfl,rfl⟩
  | cons x m=>exact⟨32,_,rfl,rfl⟩
 have e0:[60]++nm++zaz m++[62]++r=60::(nm++(zaz m++(62::r))):=by simp
 have Ba:=ziM (r:=z) (zmB hn) hd
 have Aa:¬ (nm++(zaz m++(62::r))).head? = some 47:=by rw [hq];simp;omega
 have h1:stp ⟨[60]++nm++zaz m++[62]++r,none,top,below,p⟩=some ⟨zaz m++(62::r),some (false,nm,[]),top,below,p⟩:=by
  rw [e0]
  show (if tagB (60::(nm++(zaz m++(62::r))))=true then some (zed ⟨60::(nm++(zaz m++(62::r))),none,top,below,p⟩) else _)=_
  have hb:tagB (60::(nm++(zaz m++(62::r))))=true:=by
   unfold tagB
   simp only [List.head?_cons,decide_true,Bool.true_and,List.drop_succ_cons,List.drop_zero]
   rw [if_neg Aa,hq]
   exact hL
  rw [if_pos hb]
  unfold zed
  simp only [List.drop_succ_cons,List.drop_zero]
  rw [if_neg Aa,decide_eq_false Aa,hz,Ba]
 exact (Reads.one h1).trans (zjJ m (l:=[]) hm)
theorem zrO {nm:Xg} {m:List AtV} {ks:List (List Itm)} {r:Xg} {b:OnD} {below:List OnD} {p:Nat} (hn:zat nm) :
  Reads ⟨[60,47]++nm++[62]++r,none,⟨0,nm,[],m,ks⟩,b::below,p⟩ ⟨r,none,{ b with kids:=b.kids++[zav ⟨0,nm,[],m,ks⟩] },below,p⟩:=by
 obtain⟨c,q,hq,c1,c2⟩:=ziC hn
 have hL:zbe c=true:=by unfold zbe;simp [c1,c2]
 have Aa:=ziM (c:=62) (r:=r) (zmB hn) rfl
 have h1:stp ⟨[60,47]++nm++[62]++r,none,⟨0,nm,[],m,ks⟩,b::below,p⟩=some ⟨62::r,some (true,nm,[]),⟨0,nm,[],m,ks⟩,b::below,p⟩:=by
  rw [show [60,47]++nm++[62]++r=60::47::(nm++62::r) by simp]
  show (if tagB (60::47::(nm++62::r))=true then some (zed ⟨60::47::(nm++62::r),none,⟨0,nm,[],m,ks⟩,b::below,p⟩) else _)=_
  have hb:tagB (60::47::(nm++62::r))=true:=by
   unfold tagB
   simp only [List.head?_cons,decide_true,Bool.true_and,List.drop_succ_cons,List.drop_zero,if_true]
   rw [hq]
   exact hL
  rw [if_pos hb]
  unfold zed
  simp only [List.drop_succ_cons,List.drop_zero,List.head?_cons,if_true,decide_true]
  rw [Aa]
 refine (Reads.one h1).trans (Reads.one ?_)
 show zcJ zaS zaJ ⟨62::r,some (true,nm,[]),⟨0,nm,[],m,ks⟩,b::below,p⟩ true nm []=_
 unfold zcJ
 simp only [if_true]
 unfold endT
 rw [if_pos ((zby nm).2 hn),if_pos rfl]
 unfold endE zfc
 simp only [if_true]
 rfl
theorem zyk {k:List Itm} {ks:List (List Itm)} (h:AdjX (k::ks)):AdjX ks:=by
 cases ks with
 | nil=>trivial
 | cons b r=>exact h.2
theorem znd (o:OnD) (h:o.kind=0):zax (zav o)=none:=by
 unfold zav zax
 split
 ·rename_i i e
  rw [List.cons.injEq]at e
  rw [if_neg (by rw [<-e.1];simp [h])]
 ·rfl
def zzy (ks:List (List Itm)) (ts:List (List Itm)):Prop:=∀t,ts.head? = some t->isTx t=true->ks.getLast?.bind zax=none
theorem zxR {ks:List (List Itm)} {t:List Itm} {ts:List (List Itm)} (h:AdjX (t::ts)):zzy (ks++[t]) ts:=by
 intro u hu hx
 rw [zfS]
 cases ts with
 | nil=>cases hu
 | cons b r=>
  cases hu
  have:=h.1
  cases e:zax t with
  | none=>rfl
  | some x=>exact absurd ⟨by unfold zdu;rw [e];rfl,hx⟩ this
def szE (n:Nat) (ts:List (Tr n)):Nat:=(ts.map fun t=>(encT n t).length).sum
theorem zmA {α β:Type} (f:α->List β):∀l:List α,((l.map f).flatten).length=(l.map fun t=>(f t).length).sum
 | []=>rfl
 | x::l=>by simp [zmA f l]
theorem zel (n:Nat) (t:Tr (n+1)):(encT (n+1) t).length=1+szE n t.kids:=by
 rw [zbt]
 unfold zav szE
 rw [List.length_cons,zmA]
 simp only [List.length_map,List.map_map]
 rw [Nat.add_comm]
 rfl
end Go.Proofs.YtgjolijncmkkhaaGreatDoor
namespace Go.Proofs.YtgjolijncmkkhaaGreatDoor
open Go.RowKit Go.Maps
set_option linter.unusedVariables false
set_option maxRecDepth 100000
end Go.Proofs.YtgjolijncmkkhaaGreatDoor
namespace Go.Proofs.YtgjolijncmkkhaaGreatDoor
open Go.RowKit
set_option linter.unusedVariables false
set_option maxRecDepth 100000
theorem OwAttr.frm {w w':Xk} {C:Xj} {x:Xg×Xg} {G S:Xh} (h:OwAttr w C x G) (f:Frm w w' S) (hd:∀g∈G,g∉S):OwAttr w' C x G:=by
 obtain⟨a,b,e,h1,h2,rfl⟩:=h
 exact⟨a,b,e,h1.frm f (fun g hg=>hd g (by simp [hg])),h2.frm f (fun g hg=>hd g (by simp [hg])),rfl⟩
theorem OwElems.lt {α:Type} {w:Xk} {e:Xm} {size:Nat} {v:Xl} {l:List α} {R:Xj->α->Xh->Prop} {F:Xh} (h:OwElems w e size v l R F) (hR:∀C x G,R C x G->∀g∈G,g<w.heap.size):∀g∈F,g<w.heap.size:=by
 obtain⟨Cs,Fs,h1,h2,h3,h4,rfl⟩:=h
 intro g hg
 rcases List.mem_append.1 hg with h | h
 ·exact (h4.lt g (by simpa [FB]using h)).2
 ·obtain⟨G,hG,Aa⟩:=List.mem_flatten.1 h
  obtain⟨i,hi,rfl⟩:=List.getElem_of_mem hG
  have:=(h3 i (by omega)).2
  rw [show Fs.getD i []=Fs[i] by simp [hi]]at this
  exact hR _ _ _ this g Aa
theorem OwAttr.lt {w:Xk} {C:Xj} {x:Xg×Xg} {G:Xh} (h:OwAttr w C x G):∀g∈G,g<w.heap.size:=by
 obtain⟨a,b,_,h1,h2,rfl⟩:=h
 intro g hg
 rcases List.mem_append.1 hg with h | h
 ·exact (h1.lt g (by simpa [FB]using h)).2
 ·exact (h2.lt g (by simpa [FB]using h)).2
theorem OwAttrs.lt {w:Xk} {v:Xl} {l:List (Xg×Xg)} {F:Xh} (h:OwAttrs w v l F):∀g∈F,g<w.heap.size:=OwElems.lt h (fun _ _ _ hr=>hr.lt)
theorem OwNode.lt:∀{n:Nat} {w:Xk} {C:Xj} {t:Tr n} {F:Xh},OwNode n w C t F->∀g∈F,g<w.heap.size
 | 0,_,_,t,_,_=>t.elim
 | n+1,w,C,t,F,⟨a,b,c,d,Fc,Fd,_,_,_,ha,hb,hc,hd,hF⟩=>by
  subst hF
  intro g hg
  rcases List.mem_append.1 hg with h | h
  ·rcases List.mem_append.1 h with h | h
   ·rcases List.mem_append.1 h with h | h
    ·exact (ha.lt g (by simpa [FB]using h)).2
    ·exact (hb.lt g (by simpa [FB]using h)).2
   ·exact hc.lt g h
  ·exact OwElems.lt hd (fun _ _ _ hr=>OwNode.lt hr) g h
end Go.Proofs.YtgjolijncmkkhaaGreatDoor
namespace Go.Proofs.YtgjolijncmkkhaaGreatDoor
open Go.RowKit
set_option linter.unusedVariables false
theorem OwElems.naught {α:Type} (w:Xk) (e:Xm) (size:Nat) (R:Xj->α->Xh->Prop):OwElems w e size (.slice none 0 0) ([]:List α) R []:=
 ⟨[],[],rfl,rfl,fun i hi=>by simp at hi,World.ownsRow_nil _ _ _ _,rfl⟩
theorem zAu {l:List (Xg×Xg)} {x:Xg×Xg} (h:x∈l):x.1.length+x.2.length<=szA l:=by
 unfold szA
 have:x.1.length+x.2.length∈l.map (fun x=>x.1.length+x.2.length):=List.mem_map.2 ⟨x,h,rfl⟩
 have:=zte this
 omega
structure OutAt (n lo:Nat) (w:Xk) (po:Nat) (kd:Int) (nm tx at' kv:Xl) (ln lt:Xg) (la:List (Xg×Xg)) (A:List (Tr (n+1))) (Fa Fk:Xh):Prop where
 loc:Loc w po #[.int .i64 kd,nm,tx,at',kv] 29
 name:Own w 0 nm ln
 text:Own w 0 tx lt
 attrs:OwAttrs w at' la Fa
 kids:OwKids (n+1) w kv A Fk
 nodup:(FB nm++FB tx++Fa++Fk).Nodup
 rng:∀q∈FB nm++FB tx++Fa++Fk,lo<=q∧q<w.heap.size∧q≠po
section
variable {n lo po:Nat} {w w':Xk} {kd:Int} {nm tx at' kv:Xl} {ln lt:Xg} {la:List (Xg×Xg)} {A:List (Tr (n+1))} {Fa Fk:Xh}
theorem OutAt.frm {S:Xh} (h:OutAt n lo w po kd nm tx at' kv ln lt la A Fa Fk) (f:Frm w w' S) (hp:po∉S) (hd:∀q∈FB nm++FB tx++Fa++Fk,q∉S):OutAt n lo w' po kd nm tx at' kv ln lt la A Fa Fk where
 loc:=h.loc.frm f hp
 name:=h.name.frm f (fun q hq=>hd q (by simp only [List.mem_append];exact .inl (.inl (.inl hq))))
 text:=h.text.frm f (fun q hq=>hd q (by simp only [List.mem_append];exact .inl (.inl (.inr hq))))
 attrs:=h.attrs.frm f (fun q hq=>hd q (by simp only [List.mem_append];exact .inl (.inr hq)))
 kids:=OwKids.frm h.kids f (fun q hq=>hd q (by simp only [List.mem_append];exact .inr hq))
 nodup:=h.nodup
 rng:=fun q hq=>⟨(h.rng q hq).1,Nat.lt_of_lt_of_le (h.rng q hq).2.1 f.size,(h.rng q hq).2.2⟩
theorem OutAt.keep (h:OutAt n lo w po kd nm tx at' kv ln lt la A Fa Fk) (hb:Below w.heap.size w w'):OutAt n lo w' po kd nm tx at' kv ln lt la A Fa Fk:=h.frm (Frm.ofBelow hb []) (by simp) (fun _ _=>by simp)
theorem OutAt.setKids {S:Xh} {kv':Xl} {A':List (Tr (n+1))} {Fk':Xh} (h:OutAt n lo w po kd nm tx at' kv ln lt la A Fa Fk) (f:Frm w w' S) (hp:po∉S) (hd:∀q∈FB nm++FB tx++Fa,q∉S)
  (hk:OwKids (n+1) w' kv' A' Fk') (hN:Fk'.Nodup) (hF:∀q∈Fk',(q∈Fk∨w.heap.size<=q)∧q<w'.heap.size) (hlo:lo<=w.heap.size):OutAt n lo (w'.setCell ⟨po,4,none⟩ kv') po kd nm tx at' kv' ln lt la A' Fa Fk':=by
 have Ca:=h.loc.lt
 have Ba:∀q∈Fk',q≠po:=fun q hq e=>by
  rcases (hF q hq).1 with h' | h'
  ·exact (h.rng q (by simp only [List.mem_append];exact .inr h')).2.2 e
  ·omega
 have fs:=Frm.set w' po 4 kv'
 have hl:=h.loc.frm f hp
 have Aa:∀q∈FB nm++FB tx++Fa,q∉[po]:=fun q hq hm=>(h.rng q (by simp only [List.mem_append]at hq ⊢;exact .inl hq)).2.2 (by simpa using hm)
 refine⟨hl.set 4 kv',(h.name.frm f (fun q hq=>hd q (by simp only [List.mem_append];exact .inl (.inl hq)))).frm fs (fun q hq=>Aa q (by simp only [List.mem_append];exact .inl (.inl hq))),(h.text.frm f (fun q hq=>hd q (by simp only [List.mem_append];exact .inl (.inr hq)))).frm fs (fun q hq=>Aa q (by simp only [List.mem_append];exact .inl (.inr hq))),(h.attrs.frm f (fun q hq=>hd q (by simp only [List.mem_append];exact .inr hq))).frm fs (fun q hq=>Aa q (by simp only [List.mem_append];exact .inr hq)),OwKids.frm hk fs (fun q hq hm=>Ba q hq (by simpa using hm)),?_,?_⟩
 ·obtain⟨n1,n2,n3⟩:=List.nodup_append.1 h.nodup
  refine List.nodup_append.2 ⟨n1,hN,fun a ha b hb e=> ?_⟩
  rcases (hF b hb).1 with h' | h'
  ·exact n3 a ha b h' e
  ·have:=(h.rng a (List.mem_append_left _ ha)).2.1
   omega
 ·intro q hq
  rcases List.mem_append.1 hq with hq | hq
  ·have:=h.rng q (List.mem_append_left _ hq)
   exact⟨this.1,Nat.lt_of_lt_of_le this.2.1 (Nat.le_trans f.size fs.size),this.2.2⟩
  ·refine⟨?_,Nat.lt_of_lt_of_le (hF q hq).2 fs.size,Ba q hq⟩
   rcases (hF q hq).1 with h' | h'
   ·exact (h.rng q (List.mem_append_right _ h')).1
   ·omega
theorem OutAt.node (h:OutAt n lo w po kd nm tx at' kv ln lt la A Fa Fk) (k1 : -9223372036854775808<=kd) (k2:kd<=9223372036854775807):OwNode (n+2) w [.int .i64 kd,nm,tx,at',kv] (⟨kd,ln,lt,la,A⟩:Nd (Tr (n+1))) (FB nm++FB tx++Fa++Fk):=
 ⟨nm,tx,at',kv,Fa,Fk,rfl,k1,k2,h.name,h.text,h.attrs,h.kids,rfl⟩
end
theorem zkQ {w:Xk} {po:Nat} {z0 z1 z2 z3 z4:Xl} {T:Xm} (h:Loc w po #[z0,z1,z2,z3,z4] T) (a b c d e:Xl) :
  Loc (((((w.setCell ⟨po,0,none⟩ a).setCell ⟨po,1,none⟩ b).setCell ⟨po,2,none⟩ c).setCell ⟨po,3,none⟩ d).setCell ⟨po,4,none⟩ e) po #[a,b,c,d,e] T∧Frm w (((((w.setCell ⟨po,0,none⟩ a).setCell ⟨po,1,none⟩ b).setCell ⟨po,2,none⟩ c).setCell ⟨po,3,none⟩ d).setCell ⟨po,4,none⟩ e) [po]:=
 ⟨((((h.set 0 a).set 1 b).set 2 c).set 3 d).set 4 e,((((Frm.set _ _ _ _).trans (Frm.set _ _ _ _)).trans (Frm.set _ _ _ _)).trans (Frm.set _ _ _ _)).trans (Frm.set _ _ _ _)⟩
theorem zhc {w:Xk} {b:Nat} {v:Xl} {l:Xg} {g:Nat} {cs:Array Xl} (ho:Own w b v l) (h:Loc w g cs 29):v.ownBlock≠some g:=by
 intro e
 obtain⟨Aa,hc⟩:=zbA ho.2 e
 unfold Loc at h
 rw [h]at hc
 injection hc with hc
 injection hc with _ hc
 revert hc
 decide
theorem zll {w:Xk} {v:Xl} {l:List (Xg×Xg)} {F:Xh} {g:Nat} {cs:Array Xl} (ho:OwAttrs w v l F) (h:Loc w g cs 29):g∉F:=by
 obtain⟨Cs,Fs,e1,e2,e3,e4,rfl⟩:=ho
 intro hg
 rcases List.mem_append.1 hg with hg | hg
 ·obtain⟨Ca,hc⟩:=zbA e4 (g:=g) (by simpa [FB]using hg)
  unfold Loc at h
  rw [h]at hc
  injection hc with hc
  injection hc with _ hc
  revert hc
  decide
 ·obtain⟨G,hG,Aa⟩:=List.mem_flatten.1 hg
  obtain⟨i,hi,Ba⟩:=List.getElem_of_mem hG
  obtain⟨_,a,b,_,oa,ob,hF⟩:=e3 i (by omega)
  have e:Fs.getD i []=G:=by rw [<-Ba];simp [hi]
  rw [e]at hF
  rw [hF]at Aa
  rcases List.mem_append.1 Aa with h' | h'
  ·exact zhc oa h (by simpa [FB]using h')
  ·exact zhc ob h (by simpa [FB]using h')
theorem Frm.more {a b c:Xk} {S S':Xh} (h:Frm a b S) (k:Frm b c S') (hs:∀q∈S',q∈S∨a.heap.size<=q):Frm a c S:=
 ⟨k.os.trans h.os,k.tape.trans h.tape,k.output.trans h.output,Nat.le_trans h.size k.size,fun i hi hn=>(k.block i (Nat.lt_of_lt_of_le hi h.size) (fun hm=>by
  rcases hs i hm with h' | h'
  ·exact hn h'
  ·omega)).trans (h.block i hi hn)⟩
theorem zwp (w:Xk) (a b c d e:Xl) (T:Xm):∀(j:Nat) (u:Xl),[a,b,c,d,e][j]? = some u->(w.alloc (.cells #[a,b,c,d,e] T)).cell? ((⟨w.heap.size,0,none⟩:Addr).add j)=some u:=by
 intro j u hu
 exact World.news_of_block (heap_alloc_new w (.cells #[a,b,c,d,e] T)) j u (by simpa using hu)
theorem zBS (a:Xi) (m m' c:Nat):FB (.slice a m c)=FB (.slice a m' c):=by cases a<;>rfl
theorem ztk {t:Tr 1}:t.kids=[]:=by
 cases h:t.kids with
 | nil=>rfl
 | cons k l=>exact k.elim
theorem zvl {α β:Type} {w:Xk} {size:Nat} {v:Xl} {R:Xj->α->Prop} {R':Xj->β->Prop} (h:Elems w size v ([]:List α) R):Elems w size v ([]:List β) R':=by
 obtain⟨h1,⟨h2,_⟩ | ⟨x,c,h2,h3,_⟩ | ⟨b,Aa,c,h2,h3,h4,h5,_⟩⟩:=h
 ·exact⟨h1,.inl ⟨h2,rfl⟩⟩
 ·exact⟨h1,.inr (.inl ⟨x,c,h2,h3,rfl⟩)⟩
 ·exact absurd rfl h5
theorem zrW {α β:Type} {w:Xk} {e:Xm} {size:Nat} {v:Xl} {R:Xj->α->Xh->Prop} {R':Xj->β->Xh->Prop} {F:Xh} (h:OwElems w e size v ([]:List α) R F):OwElems w e size v ([]:List β) R' F:=by
 obtain⟨Cs,Fs,h1,h2,_,h4,h5⟩:=h
 exact⟨Cs,Fs,h1,h2,fun i hi=>by simp at hi,h4,h5⟩
def up1 (t:Tr 1):Tr 2:=(⟨t.kind,t.name,t.text,t.attrs,[]⟩:Nd (Tr 1))
end Go.Proofs.YtgjolijncmkkhaaGreatDoor
namespace Go.Proofs.YtgjolijncmkkhaaGreatDoor
open Go.RowKit
set_option linter.unusedVariables false
set_option maxRecDepth 100000
end Go.Proofs.YtgjolijncmkkhaaGreatDoor
namespace Go.Proofs.YtgjolijncmkkhaaGreatDoor
open Go.RowKit Go.Maps
set_option linter.unusedVariables false
set_option maxRecDepth 100000
def CellT (w:Xk) (q:Nat):Prop:=∃cs T fz,w.heap[q]? = some (.cells cs T fz)∧(T=146∨T=3∨T=5∨T=132)
theorem zih {w:Xk} {b s n:Nat} {T:Xm} {v:Xl} {xs:Xj} (h:w.ownsRow b T s v n xs) (hT:T=146∨T=3∨T=5∨T=132):∀q∈FB v,CellT w q:=fun q hq=>by
 obtain⟨cs,e⟩:=zbA h (g:=q) (by simpa [FB]using hq)
 exact⟨cs,T,_,e,hT⟩
theorem zrv {α:Type} {w:Xk} {e:Xm} {size:Nat} {v:Xl} {l:List α} {R:Xj->α->Xh->Prop} {F:Xh} (h:OwElems w e size v l R F) (he:e=146∨e=3∨e=5∨e=132) (hR:∀C x G,R C x G->∀q∈G,CellT w q):∀q∈F,CellT w q:=by
 obtain⟨Cs,Fs,e1,e2,e3,e4,rfl⟩:=h
 intro q hq
 rcases List.mem_append.1 hq with hq | hq
 ·exact zih e4 he q hq
 ·obtain⟨G,hG,Aa⟩:=List.mem_flatten.1 hq
  obtain⟨i,hi,rfl⟩:=List.getElem_of_mem hG
  have:=(e3 i (by omega)).2
  rw [show Fs.getD i []=Fs[i] by simp [hi]]at this
  exact hR _ _ _ this q Aa
theorem OwAttrs.typ {w:Xk} {v:Xl} {l:List (Xg×Xg)} {F:Xh} (h:OwAttrs w v l F):∀q∈F,CellT w q:=
 zrv h (.inr (.inr (.inr rfl))) (fun C x G ⟨a,b,_,h1,h2,e⟩ q hq=>by
  rw [e]at hq
  rcases List.mem_append.1 hq with hq | hq
  ·exact zih h1.2 (.inr (.inr (.inl rfl))) q hq
  ·exact zih h2.2 (.inr (.inr (.inl rfl))) q hq)
def Cells (w:Xk) (q:Nat):Prop:=∃cs T fz,w.heap[q]? = some (.cells cs T fz)
theorem Cells.ofL {w:Xk} {q:Nat} {cs:Array Xl} {T:Xm} (h:Loc w q cs T):Cells w q:=⟨cs,T,_,h⟩
theorem CellT.cells {w:Xk} {q:Nat} (h:CellT w q):Cells w q:=by
 obtain⟨cs,T,fz,e,_⟩:=h
 exact⟨cs,T,fz,e⟩
theorem zro:∃es c,zaK=.map es c:=⟨_,_,rfl⟩
end Go.Proofs.YtgjolijncmkkhaaGreatDoor
namespace Go.Proofs.YtgjolijncmkkhaaGreatDoor
open Go.RowKit
set_option linter.unusedVariables false
set_option maxRecDepth 100000
theorem zaw {P:Program} {f:FuncId} {args:Array Xl} {w:Xk} {R:Ending->Xk->Prop} (h:∀Q:Ending->Xk->Prop,Hid (∀e w',R e w'->Q e w')->Calls P f args w Q):Calls P f args w R:=h R (hide fun _ _ h=>h)
end Go.Proofs.YtgjolijncmkkhaaGreatDoor
namespace Go.Proofs.YtgjolijncmkkhaaGreatDoor
open Go.RowKit Go.Maps
set_option linter.unusedVariables false
set_option maxRecDepth 100000
end Go.Proofs.YtgjolijncmkkhaaGreatDoor
namespace Go.Proofs.YtgjolijncmkkhaaGreatDoor
open Go.RowKit
set_option linter.unusedVariables false
set_option maxRecDepth 100000
end Go.Proofs.YtgjolijncmkkhaaGreatDoor
namespace Go.Proofs.YtgjolijncmkkhaaGreatDoor
set_option linter.unusedVariables false
end Go.Proofs.YtgjolijncmkkhaaGreatDoor
namespace Go.Proofs.YtgjolijncmkkhaaGreatDoor
open Go.RowKit
set_option linter.unusedVariables false
theorem zrI {l:List AtV} {n:Xg} (hs:SrtA l) (ht:zbl l n=false):∀x∈l.drop (posA l n),klB n x.1=true:=by
 induction l with
 | nil=>intro x hx;simp at hx
 | cons a r ih=>
  obtain⟨ha,hr⟩:=List.pairwise_cons.1 hs
  rw [znR]
  rw [zsk]at ht
  by_cases h:klB a.1 n=true
  ·rw [if_pos h]at ht ⊢
   rw [List.drop_succ_cons]
   exact ih hr ht
  ·rw [if_neg h]at ht ⊢
   have Ba:a.1≠n:=of_decide_eq_false ht
   have h1:=zAP a.1 n
   rw [decide_eq_false Ba]at h1
   have h0:klB a.1 n=false:=by simpa using h
   rw [h0]at h1
   have Aa:klB n a.1=true:=by simpa using h1
   intro x hx
   rw [List.drop_zero]at hx
   rcases List.mem_cons.1 hx with rfl | hx
   ·exact Aa
   ·exact zgm Aa (ha x hx)
def zez (its:List Itm):Prop:=∃(n:Nat) (t:Tr n),encT n t=its∧zaG n t
theorem zsC:∀(n:Nat) (t:Tr n),zaG n t->zaG (n+1) (upT n t)
 | 0,t,_=>t.elim
 | n+1,t,h=>by
  have hk:(t.kids.map (upT n)).map (encT (n+1))=t.kids.map (encT n):=by
   rw [List.map_map,show encT (n+1) ∘ upT n=encT n from funext fun x=>zfI n x]
  rcases h with ⟨q1,q2,q3,q4,q5,q6⟩ | ⟨⟨q1,q2,q3,q4⟩,q5,q6,q7⟩
  ·exact .inl ⟨q1,q2,q3,(show t.kids.map (upT n)=[] by rw [q4];rfl),q5,q6⟩
  ·refine .inr ⟨⟨q1,q2,q3,q4⟩,fun e=>(show t.kids.map (upT n)=[] by rw [q5 e];rfl),(show AdjX ((t.kids.map (upT n)).map (encT (n+1))) by rw [hk];exact q6),fun k hk=> ?_⟩
   have hk:k∈t.kids.map (upT n):=hk
   obtain⟨u,hu,rfl⟩:=List.mem_map.1 hk
   exact zsC n u (q7 u hu)
theorem zja {n N:Nat} {t:Tr n} (h:zaG n t) (hN:n<=N):∃t':Tr N,encT N t'=encT n t∧zaG N t':=by
 induction N with
 | zero=>
  have:n=0:=by omega
  subst this
  exact⟨t,rfl,h⟩
 | succ N ih=>
  by_cases e:n=N+1
  ·subst e;exact⟨t,rfl,h⟩
  ·obtain⟨t',h1,h2⟩:=ih (by omega)
   exact⟨upT N t',(zfI N t').trans h1,zsC N t' h2⟩
theorem zpS:∀(ks:List (List Itm)),(∀k∈ks,zez k)->∃(n:Nat) (ts:List (Tr n)),ts.map (encT n)=ks∧∀t∈ts,zaG n t
 | [],_=>⟨0,[],rfl,fun _ h=>by cases h⟩
 | k::ks,h=>by
  obtain⟨n,t,e1,e2⟩:=h k (by simp)
  obtain⟨m,ts,f1,f2⟩:=zpS ks (fun x hx=>h x (by simp [hx]))
  obtain⟨t',g1,g2⟩:=zja (N:=max n m) e2 (Nat.le_max_left _ _)
  have Aa:∀us:List (Tr m),(∀u∈us,zaG m u)->∃vs:List (Tr (max n m)),vs.map (encT (max n m))=us.map (encT m)∧∀v∈vs,zaG (max n m) v:=by
   intro us
   induction us with
   | nil=>intro _;exact⟨[],rfl,fun _ h=>by cases h⟩
   | cons u us ih=>
    intro hu
    obtain⟨vs,k1,k2⟩:=ih (fun x hx=>hu x (by simp [hx]))
    obtain⟨v,k3,k4⟩:=zja (N:=max n m) (hu u (by simp)) (Nat.le_max_right _ _)
    refine⟨v::vs,by rw [List.map_cons,List.map_cons,k1,k3],fun x hx=> ?_⟩
    rcases List.mem_cons.1 hx with rfl | hx
    ·exact k4
    ·exact k2 x hx
  obtain⟨vs,k1,k2⟩:=Aa ts f2
  refine⟨max n m,t'::vs,by rw [List.map_cons,g1,e1,k1,f1],fun x hx=> ?_⟩
  rcases List.mem_cons.1 hx with rfl | hx
  ·exact g2
  ·exact k2 x hx
theorem zmN {o:OnD} (h:zpi o) (hv:zba o.name=true->o.kids=[]) (hk:∀k∈o.kids,zez k) (ha:AdjX o.kids):∃(n:Nat) (t:Tr (n+1)),encT (n+1) t=zav o∧zaG (n+1) t∧t.name=o.name∧t.attrs=o.attrs:=by
 obtain⟨kd,nm,tx,Aa,ks⟩:=o
 obtain⟨n,ts,rfl,e2⟩:=zpS ks hk
 exact⟨n,(⟨kd,nm,tx,Aa,ts⟩:Nd (Tr n)),rfl,.inr ⟨h,fun e=>List.map_eq_nil_iff.1 (hv e),ha,e2⟩,rfl,rfl⟩
theorem zrt {t:Xg} (h:zar t) (h0:t≠[]):zez (txtI t):=⟨1,(⟨1,[],t,[],[]⟩:Nd (Tr 0)),rfl,.inl ⟨rfl,rfl,rfl,rfl,h,h0⟩⟩
theorem zcL:∀(ks:List (List Itm)) (k:List Itm),AdjX (ks++[k])↔AdjX ks∧∀a,ks.getLast? = some a->¬ (zdu a=true∧isTx k=true)
 | [],k=>by simp [AdjX]
 | [a],k=>by simp [AdjX]
 | a::b::r,k=>by
  have ih:=zcL (b::r) k
  show (¬ _∧AdjX (b::r++[k]))↔(¬ _∧AdjX (b::r))∧_
  rw [ih,and_assoc]
  simp
theorem znU {k:List Itm} {t:Xg} (h:zez k) (ht:zax k=some t):k=txtI t∧zar t∧t≠[]∧t.length≠30:=by
 obtain⟨n,u,rfl,hg⟩:=h
 match n,u,hg with
 | n+1,u,hg=>
  rcases hg with ⟨q1,q2,q3,q4,q5,q6⟩ | ⟨⟨q1,q2,q3,q4⟩,q5,q6,q7⟩
  ·have e:encT (n+1) u=txtI u.text:=by rw [zbt,q1,q2,q3,q4];rfl
   rw [e]at ht ⊢
   unfold zax txtI at ht
   simp only [true_and]at ht
   split at ht
   ·cases ht
    rename_i Aa
    exact⟨rfl,q5,q6,Aa⟩
   ·cases ht
  ·rw [zbt,znd _ q1]at ht
   cases ht
theorem ziQ (o:OnD) (h:o.kind=0):isTx (zav o)=false:=by
 unfold zav isTx
 simp [h]
def zuJ (o:OnD):Prop:=zpi o∧zba o.name=false∧(∀k∈o.kids,zez k)∧AdjX o.kids
def lenO (o:OnD):Nat:=(zav o).length
theorem zmZ (o:OnD):lenO o=1+(o.kids.map List.length).sum:=by
 unfold lenO zav
 rw [List.length_cons,zmA,Nat.add_comm]
 simp only [List.length_map]
def Dp:List OnD->Prop
 | []=>True
 | o::os=>(∀k∈o.kids,∀i∈k,os.length+1+i.deep<=19)∧Dp os
structure Stk (os:List OnD) (p:Nat):Prop where
 good:∀o∈os,zuJ o
 dp:Dp os
 sum:p=(os.map lenO).sum
 le:p<=120
 len:os.length<=20
 root:∃z,os.getLast? = some z∧z.name=[98,111,100,121]∧z.attrs=[]
theorem zyM {o:OnD} {k:List Itm} (h:zuJ o) (hk:zez k) (ha:∀a,o.kids.getLast? = some a->¬ (zdu a=true∧isTx k=true)):zuJ { o with kids:=o.kids++[k] }:=by
 obtain⟨h1,h2,h3,h4⟩:=h
 refine⟨h1,h2,fun x hx=> ?_,(zcL _ _).2 ⟨h4,ha⟩⟩
 rcases List.mem_append.1 hx with hx | hx
 ·exact h3 x hx
 ·rw [List.mem_singleton.1 hx];exact hk
theorem zoI {b b':OnD} {bs:List OnD} (hn:b'.name=b.name) (ha:b'.attrs=b.attrs) (h:∃z,(b::bs).getLast? = some z∧z.name=[98,111,100,121]∧z.attrs=[]):∃z,(b'::bs).getLast? = some z∧z.name=[98,111,100,121]∧z.attrs=[]:=by
 cases bs with
 | nil=>
  obtain⟨z,h1,h2,h3⟩:=h
  cases h1
  exact⟨b',rfl,by rw [hn];exact h2,by rw [ha];exact h3⟩
 | cons c cs=>
  obtain⟨z,h1,h2,h3⟩:=h
  exact⟨z,by rw [List.getLast?_cons_cons]at h1 ⊢;exact h1,h2,h3⟩
theorem Stk.kid {o:OnD} {os:List OnD} {p q:Nat} {k:List Itm} (h:Stk (o::os) p) (hk:zez k) (ha:∀a,o.kids.getLast? = some a->¬ (zdu a=true∧isTx k=true)) (hd:∀i∈k,os.length+1+i.deep<=19) (hp:q=p+k.length) (hq:q<=120):Stk ({ o with kids:=o.kids++[k] }::os) q:=by
 obtain⟨h1,h2,h3,h4,h5,h6⟩:=h
 refine⟨fun x hx=> ?_,⟨fun x hx i hi=> ?_,h2.2⟩,?_,hq,h5,zoI (b:=o) rfl rfl h6⟩
 ·rcases List.mem_cons.1 hx with rfl | hx
  ·exact zyM (h1 o (by simp)) hk ha
  ·exact h1 x (by simp [hx])
 ·rcases List.mem_append.1 hx with hx | hx
  ·exact h2.1 x hx i hi
  ·rw [List.mem_singleton.1 hx]at hi;exact hd i hi
 ·rw [hp,h3]
  simp only [List.map_cons,List.sum_cons,zmZ]
  simp
  omega
theorem Stk.close {t b:OnD} {bs:List OnD} {p:Nat} (h:Stk (t::b::bs) p):Stk ({ b with kids:=b.kids++[zav t] }::bs) p:=by
 obtain⟨h1,h2,h3,h4,h5,h6⟩:=h
 have ht:=h1 t (by simp)
 obtain⟨n,u,e1,e2,_⟩:=zmN ht.1 (fun e=>by rw [ht.2.1]at e;cases e) ht.2.2.1 ht.2.2.2
 have hb:Stk (b::bs) (((b::bs).map lenO).sum):=⟨fun x hx=>h1 x (by simp only [List.mem_cons]at hx ⊢;exact .inr hx),h2.2,rfl,by rw [h3]at h4;simp only [List.map_cons,List.sum_cons]at h4 ⊢;omega,by simp at h5 ⊢;omega,by simpa [List.getLast?_cons_cons]using h6⟩
 refine hb.kid ⟨_,u,e1,e2⟩ (fun a _ hc=>by rw [ziQ t ht.1.1]at hc;cases hc.2) (fun i hi=> ?_) ?_ h4
 ·simp at h5
  rcases List.mem_cons.1 hi with rfl | hi
  ·show bs.length+1+0<=19
   omega
  ·obtain⟨l,hl,Aa⟩:=List.mem_flatten.1 hi
   obtain⟨k,hk,rfl⟩:=List.mem_map.1 hl
   obtain⟨j,hj,rfl⟩:=List.mem_map.1 Aa
   have:=h2.1 k hk j hj
   simp [Itm.more]at this ⊢
   omega
 ·rw [h3]
  simp only [List.map_cons,List.sum_cons,lenO]
  omega
theorem Stk.closes:∀(k:Nat) {t:OnD} {bs:List OnD} {p:Nat},Stk (t::bs) p->Stk ((zaT k t bs).1::(zaT k t bs).2) p
 | 0,t,bs,p,h=>by cases bs<;>exact h
 | k+1,t,[],p,h=>h
 | k+1,t,b::bs,p,h=>Stk.closes k h.close
def InvS (s:RdS):Prop:=Stk (s.top::s.below) s.parts∧∀e nm ats,s.tag=some (e,nm,ats)->zdq ats
theorem zsX:zdq []:=⟨by simp,List.Pairwise.nil,fun _ h=>by cases h⟩
theorem zAy {l:List AtV} {a:AtV} (h:zdq l) (ha:zar a.2):zdq (zaS l a):=by
 unfold zaS
 by_cases hc:zbl l a.1=true∨l.length=4∨zaJ a.1=false
 ·rw [if_pos hc];exact h
 ·rw [if_neg hc]
  simp only [not_or,Bool.not_eq_true,Bool.not_eq_false]at hc
  obtain⟨c1,c2,c3⟩:=hc
  have hb:=zrI h.2.1 c1
  have hf:∀x∈l.take (posA l a.1),klB x.1 a.1=true:=by
   intro x hx
   have e:l.take (posA l a.1)=l.takeWhile (zbd a.1):=(List.prefix_iff_eq_take.1 (List.takeWhile_prefix _)).symm
   rw [e]at hx
   have:=List.all_takeWhile (l:=l) (p:=zbd a.1)
   exact List.all_eq_true.1 this x hx
  have hs:=h.2.1
  have Aa:(l.take (posA l a.1)++l.drop (posA l a.1)).Pairwise (fun a b=>klB a.1 b.1=true):=by rw [List.take_append_drop];exact hs
  obtain⟨s1,s2,s3⟩:=List.pairwise_append.1 Aa
  refine⟨by have:=h.1;simp;omega,?_,fun x hx=> ?_⟩
  ·unfold SrtA
   rw [List.pairwise_append]
   refine⟨s1,List.pairwise_cons.2 ⟨fun x hx=>hb x hx,s2⟩,fun x hx y hy=> ?_⟩
   rcases List.mem_cons.1 hy with rfl | hy
   ·exact hf x hx
   ·exact s3 x hx y hy
  ·rcases List.mem_append.1 hx with hx | hx
   ·exact h.2.2 x (List.mem_of_mem_take hx)
   ·rcases List.mem_cons.1 hx with rfl | hx
    ·exact⟨(zby _).1 c3,ha⟩
    ·exact h.2.2 x (List.mem_of_mem_drop hx)
theorem zyf:zar []:=⟨by simp,fun i hi=>by simp at hi⟩
theorem zgC {l:Xg} (h1:l.length<=30) (h2:∀x∈l,32<=x∧x<=126):zar l:=⟨h1,fun i hi=>by rw [show l.getD i 0=l[i] by simp [hi]];exact h2 _ (List.getElem_mem hi)⟩
theorem zsp {x:Int} (h:zcz x=true):32<=x∧x<=126:=by
 unfold zcz at h
 simpa using h
theorem zkY:∀(f k:Nat) (l:Xg),(valL f k l).length<=k∧∀x∈valL f k l,32<=x∧x<=126
 | 0,k,l=>⟨by simp [valL],fun x hx=>by simp [valL]at hx⟩
 | f+1,k,l=>by
  unfold valL
  by_cases h:l=[]∨k=0
  ·rw [if_pos h];exact⟨by simp,fun x hx=>by cases hx⟩
  ·rw [if_neg h]
   simp only
   by_cases hm:zcz (zap l).1=true
   ·rw [if_pos hm]
    obtain⟨h1,h2⟩:=zkY f (k-1) (l.drop (zap l).2)
    refine⟨?_,fun x hx=> ?_⟩
    ·have:k≠0:=fun e=>h (.inr e)
     simp;omega
    ·rcases List.mem_cons.1 hx with rfl | hx
     ·exact zsp hm
     ·exact h2 x hx
   ·rw [if_neg hm];exact zkY f k _
theorem zwz (l:Xg):zar (zcK l).1.2:=by
 unfold zcK
 simp only
 split
 ·exact zgC (zkY _ 30 _).1 (zkY _ 30 _).2
 ·exact zyf
theorem zjc {s:RdS} (h:room s=true):s.parts+1<=120∧s.below.length+1≠20:=by
 unfold room at h
 simpa using h
theorem zxX {s t:RdS} {x:Int} (h:Stk (s.top::s.below) s.parts) (hs:putX s x=some t):Stk (t.top::t.below) t.parts:=by
 obtain⟨Da,Ha,top,below,p⟩:=s
 have h:Stk (top::below) p:=h
 unfold putX at hs
 simp only at hs
 split at hs
 ·rename_i hm
  have hm:=zsp hm
  split at hs
  ·rename_i u hu
   cases hs
   obtain⟨a,ha,Ca⟩:=Option.bind_eq_some_iff.1 hu
   have Ia:top.kids≠[]:=fun e=>by rw [e]at ha;cases ha
   have Aa:top.kids=top.kids.dropLast++[a]:=by
    obtain⟨ys,hy⟩:=List.getLast?_eq_some_iff.1 ha
    rw [hy,List.dropLast_concat]
   have hg:=h.good top (by simp)
   obtain⟨e1,e2,e3,e4⟩:=znU (hg.2.2.1 a (by rw [Aa];simp)) Ca
   subst e1
   obtain⟨kd,nm,tx,Ga,ks⟩:=top
   simp only at Aa
   generalize ks.dropLast=dl at Aa ⊢
   subst Aa
   have ht:zar (u++[x]):=zgC (by have:=e2.1;simp;omega) (fun y hy=>by
    rcases List.mem_append.1 hy with hy | hy
    ·exact zgA e2 y hy
    ·rw [List.mem_singleton.1 hy];exact hm)
   obtain⟨h1,h2,h3,h4,h5,h6⟩:=h
   refine⟨fun o ho=> ?_,⟨fun k hk i hi=> ?_,h2.2⟩,?_,h4,h5,zoI (b:=⟨kd,nm,tx,Ga,dl++[txtI u]⟩) rfl rfl h6⟩
   ·rcases List.mem_cons.1 ho with rfl | ho
    ·refine⟨hg.1,hg.2.1,fun k hk=> ?_,(zcL _ _).2 ⟨((zcL _ _).1 hg.2.2.2).1,fun a' Fa hc=>((zcL _ _).1 hg.2.2.2).2 a' Fa ⟨hc.1,rfl⟩⟩⟩
     rcases List.mem_append.1 hk with hk | hk
     ·exact hg.2.2.1 k (List.mem_append_left _ hk)
     ·rw [List.mem_singleton.1 hk];exact zrt ht (by simp)
    ·exact h1 o (by simp [ho])
   ·rcases List.mem_append.1 hk with hk | hk
    ·exact h2.1 k (List.mem_append_left _ hk) i hi
    ·rw [List.mem_singleton.1 hk]at hi
     have:=h2.1 (txtI u) (by simp) ⟨0,1,[],u,[]⟩ (by simp [txtI])
     have e:=List.mem_singleton.1 hi
     rw [e]
     exact this
   ·rw [h3]
    simp only [List.map_cons,List.sum_cons,zmZ,List.map_append,txtI]
    rfl
  ·rename_i hu
   split at hs
   ·rename_i hr
    cases hs
    obtain⟨r1,r2⟩:=zjc hr
    have Ba:=h.len
    simp at Ba r2
    refine h.kid (k:=txtI [x]) (zrt (zgC (by simp) (fun y hy=>by rw [List.mem_singleton.1 hy];exact hm)) (by simp)) (fun a ha hc=> ?_) (fun i hi=> ?_) rfl r1
    ·rw [ha]at hu
     have hu:zax a=none:=hu
     have:=hc.1
     unfold zdu at this
     rw [hu]at this
     cases this
    ·rw [List.mem_singleton.1 hi]
     show below.length+1+0<=19
     omega
   ·cases hs
 ·cases hs;exact h
theorem zzl {s t:RdS} {nm:Xg} {ats:List AtV} (h:Stk (s.top::s.below) s.parts) (hn:zat nm) (ha:zdq ats) (hs:putE s nm ats=some t):Stk (t.top::t.below) t.parts:=by
 obtain⟨Ba,Ca,top,below,p⟩:=s
 have h:Stk (top::below) p:=h
 unfold putE at hs
 simp only at hs
 split at hs
 ·rename_i hr
  obtain⟨r1,r2⟩:=zjc hr
  have Aa:=h.len
  simp at Aa r2
  have hh:zpi (⟨0,nm,[],ats,[]⟩:OnD):=⟨rfl,hn,rfl,ha⟩
  split at hs
  ·cases hs
   obtain⟨n,u,e1,e2,_⟩:=zmN hh (fun _=>rfl) (fun _ hk=>by cases hk) trivial
   refine h.kid ⟨_,u,e1,e2⟩ (fun a _ hc=>by rw [ziQ _ rfl]at hc;cases hc.2) (fun i hi=> ?_) rfl r1
   have e:i=⟨0,0,nm,[],ats⟩:=List.mem_singleton.1 hi
   rw [e]
   show below.length+1+0<=19
   omega
  ·rename_i hv
   cases hs
   obtain⟨h1,h2,h3,h4,h5,h6⟩:=h
   refine⟨fun o ho=> ?_,⟨fun k hk=>(by cases hk),h2⟩,?_,r1,by simp;omega,by rw [List.getLast?_cons_cons];exact h6⟩
   ·rcases List.mem_cons.1 ho with rfl | ho
    ·exact⟨hh,by simpa [zpg,zba]using hv,fun _ hk=>(by cases hk),trivial⟩
    ·exact h1 o ho
   ·rw [List.map_cons,List.sum_cons,<-h3]
    show p+1=1+p
    omega
 ·cases hs
theorem zyr {s:RdS} {nm:Xg} (h:Stk (s.top::s.below) s.parts):Stk ((endE s nm).top::(endE s nm).below) (endE s nm).parts:=by
 unfold endE
 split
 ·exact Stk.closes _ h
 ·exact h
theorem zqt {s t:RdS} {e:Bool} {nm:Xg} {ats:List AtV} (h:Stk (s.top::s.below) s.parts) (ha:zdq ats) (hs:endT zaJ s e nm ats=some t):Stk (t.top::t.below) t.parts:=by
 unfold endT at hs
 split at hs
 ·rename_i hn
  split at hs
  ·cases hs;exact zyr h
  ·exact zzl h ((zby nm).1 hn) ha hs
 ·cases hs;exact h
theorem zsx {s t:RdS} (h:InvS s) (hs:stp s=some t):InvS t:=by
 obtain⟨Aa,Ga,Ca,below,p⟩:=s
 obtain⟨h1,h2⟩:=h
 cases Ga with
 | some g=>
  obtain⟨e,nm,Fa⟩:=g
  have ha:=h2 e nm Fa rfl
  have hs:zcJ zaS zaJ ⟨Aa,some (e,nm,Fa),Ca,below,p⟩ e nm Fa=some t:=hs
  cases Aa with
  | nil=>
   have q:=zdD (s:=⟨[],none,Ca,below,p⟩) hs
   exact⟨zqt (s:=⟨[],none,Ca,below,p⟩) h1 ha hs,fun e' Da Ba e1=>by rw [q.2]at e1;cases e1⟩
  | cons x r=>
   unfold zcJ at hs
   simp only at hs
   split at hs
   ·have q:=zdD (s:=⟨r,none,Ca,below,p⟩) hs
    exact⟨zqt (s:=⟨r,none,Ca,below,p⟩) h1 ha hs,fun e' Da Ba e1=>by rw [q.2]at e1;cases e1⟩
   ·split at hs
    ·cases hs
     exact⟨h1,fun e' Da Ba e1=>by cases e1;exact zAy ha (zwz _)⟩
    ·cases hs
     exact⟨h1,fun e' Da Ba e1=>by cases e1;exact ha⟩
 | none=>
  have hs:(if tagB Aa=true then some (zed ⟨Aa,none,Ca,below,p⟩) else putC ⟨Aa.drop (zap Aa).2,none,Ca,below,p⟩ (zap Aa).1)=some t:=hs
  split at hs
  ·cases hs
   exact⟨h1,fun e' Da Ba e1=>by cases e1;exact zsX⟩
  ·have q:=zif hs
   exact⟨zxX (s:=⟨Aa.drop (zap Aa).2,none,Ca,below,p⟩) h1 hs,fun e' Da Ba e1=>by rw [q.2]at e1;cases e1⟩
theorem zqg:∀(k:Nat) {s t:RdS},InvS s->iter k s=some t->InvS t
 | 0,s,t,h,hs=>by cases hs;exact h
 | k+1,s,t,h,hs=>by
  unfold iter at hs
  obtain⟨u,h1,h2⟩:=Option.bind_eq_some_iff.1 hs
  exact zqg k (zsx h h1) h2
theorem zoH (l:Xg):InvS (zaR l):=by
 refine⟨⟨fun o ho=> ?_,⟨fun k hk=>(by cases hk),trivial⟩,rfl,by show 1<=120;decide,by simp [zaR],⟨_,rfl,rfl,rfl⟩⟩,fun e nm Aa h=>by cases h⟩
 rw [show o=⟨0,[98,111,100,121],[],[],[]⟩ from List.mem_singleton.1 ho]
 exact⟨⟨rfl,(zby _).1 rfl,rfl,zsX⟩,rfl,fun _ hk=>(by cases hk),trivial⟩
theorem zhX:∀(bs:List OnD) (t:OnD),(zaT bs.length t bs).2=[]
 | [],_=>rfl
 | b::bs,t=>zhX bs _
theorem zxK {l:Xg} {its:List Itm} (h:bldL zaS zaJ l=some its):∃(n:Nat) (t:Tr (n+1)),encT (n+1) t=its∧zaG (n+1) t∧t.name=[98,111,100,121]∧t.attrs=[]∧its.length<=120∧∀i∈its,i.deep<=19:=by
 obtain⟨_,s,k,hk,rfl⟩:=zAj h
 have hI:=zqg k (zoH l) hk
 have hc:=Stk.closes s.below.length hI.1
 rw [zhX]at hc
 generalize (zaT s.below.length s.top s.below).1=o at hc
 have hg:=hc.good o (by simp)
 obtain⟨n,t,e1,e2,e3,e4⟩:=zmN hg.1 (fun e=>by rw [hg.2.1]at e;cases e) hg.2.2.1 hg.2.2.2
 obtain⟨z,z1,z2,z3⟩:=hc.root
 cases z1
 refine⟨n,t,e1,e2,e3.trans z2,e4.trans z3,?_,fun i hi=> ?_⟩
 ·have:=hc.sum
  have h2:=hc.le
  simp [lenO]at this
  omega
 ·rcases List.mem_cons.1 hi with rfl | hi
  ·show 0<=19
   decide
  ·obtain⟨m,hm,Aa⟩:=List.mem_flatten.1 hi
   obtain⟨q,hq,rfl⟩:=List.mem_map.1 hm
   obtain⟨j,hj,rfl⟩:=List.mem_map.1 Aa
   have:=hc.dp.1 q hq j hj
   simp [Itm.more]at this ⊢
   omega
end Go.Proofs.YtgjolijncmkkhaaGreatDoor
