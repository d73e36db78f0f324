/- Own texts joined: StrK, SrA, OwO, Via, FoF, FoG, FoW, FoV, IdJ, IdI, OpN, DoM, SdB, OpsT, OpsM, PutV, L5fd, L5tk, L5ao, L5sa, L5do, L5sd, PlR, L5fo, QGr, OpsS, SFo, L5os, FoldM. -/
import Derived.Test.YtgjolijncmkkhaaGreatDoorJa
import Derived.Test.YtgjolijncmkkhaaGreatDoorJb
import Derived.Test.YtgjolijncmkkhaaGreatDoorJc
import Derived.Test.YtgjolijncmkkhaaGreatDoorJe
import Derived.Test.YtgjolijncmkkhaaGreatDoorJf
import Derived.Test.YtgjolijncmkkhaaGreatDoorJn
import Derived.Test.YtgjolijncmkkhaaGreatDoorJo
import Derived.Test.YtgjolijncmkkhaaGreatDoorJp
import Derived.Deep.RegionHeld3
import Derived.Deep.QuietTactic
import Derived.BigQuiet
import Derived.WalkMore
import Derived.WalkLawsBesides
import Derived.Deep.AppendLies
import Derived.Deep.Cut
import Derived.Deep.CutRange
namespace Go.Proofs.YtgjolijncmkkhaaGreatDoor
open Go.RowKit
set_option linter.unusedVariables false
theorem zxU {x y:Int} (hx:0<=x∧x<=255) (hy:0<=y∧y<=255):(UInt8.ofNat x.toNat<UInt8.ofNat y.toNat)↔x<y:=by
 rw [UInt8.lt_iff_toNat_lt]
 simp only [UInt8.toNat_ofNat']
 omega
theorem zmN:∀(a b:Xg),okB a->okB b->Op.bytesLess (a.map fun n=>UInt8.ofNat n.toNat) (b.map fun n=>UInt8.ofNat n.toNat)=klB a b
 | [],[],_,_=>rfl
 | [],_::_,_,_=>rfl
 | _::_,[],_,_=>rfl
 | x::a,y::b,ha,hb=>by
  have hx:=ha x (by simp)
  have hy:=hb y (by simp)
  have ih:=zmN a b (fun z hz=>ha z (by simp [hz])) (fun z hz=>hb z (by simp [hz]))
  simp only [List.map_cons]
  unfold Op.bytesLess klB
  rw [ih]
  have h1:=zxU hx hy
  have h2:=zxU hy hx
  by_cases e:x=y
  ·subst e;simp
  ·have e2:¬ UInt8.ofNat x.toNat=UInt8.ofNat y.toNat:=fun h=>by
    have h3:¬ UInt8.ofNat x.toNat<UInt8.ofNat y.toNat:=by rw [h];exact UInt8.lt_irrefl _
    have h4:¬ UInt8.ofNat y.toNat<UInt8.ofNat x.toNat:=by rw [h];exact UInt8.lt_irrefl _
    rw [h1]at h3
    rw [h2]at h4
    omega
   by_cases hl:x<y
   ·simp [h1.2 hl,e,hl]
   ·have h5:¬ UInt8.ofNat x.toNat<UInt8.ofNat y.toNat:=fun h=>hl (h1.1 h)
    simp [h5,e,hl,e2]
theorem zwS {a b:Xg} (ha:okB a) (hb:okB b):Op.bytesLess (str a).toList (str b).toList=klB a b:=by
 rw [zbM,zbM,zbZ,zbZ]
 exact zmN a b ha hb
theorem zny:∀{a b c:Xg},klB a b=true->klB b c=true->klB a c=true
 | [],_,[],h,k=>by
  rename_i b
  cases b with
  | nil=>cases h
  | cons y b=>cases k
 | [],_,_::_,_,_=>rfl
 | x::a,[],_,h,_=>by cases h
 | x::a,y::b,[],_,k=>by cases k
 | x::a,y::b,z::c,h,k=>by
  unfold klB at h k ⊢
  by_cases e1:x=y
  ·subst e1
   rw [if_pos rfl]at h
   by_cases e2:x=z
   ·rw [if_pos e2]at k ⊢
    exact zny h k
   ·rw [if_neg e2]at k ⊢
    exact k
  ·rw [if_neg e1]at h
   have h':=of_decide_eq_true h
   by_cases e2:y=z
   ·subst e2
    rw [if_neg e1]
    exact h
   ·rw [if_neg e2]at k
    have k':=of_decide_eq_true k
    rw [if_neg (by omega)]
    exact decide_eq_true (by omega)
abbrev AtV:=Xg×Xg
def SrtA (l:List AtV):Prop:=l.Pairwise (fun a b=>klB a.1 b.1=true)
set_option maxRecDepth 100000
theorem zaF {P:Program} {f:FuncId} {args:Array Xl} {w:Xk} {R:Ending->Xk->Prop} (h:∀Q:Ending->Xk->Prop,Hid (∀e w',R e w'->Q e w')->Calls P f args w Q):Calls P f args w R:=h R (hide fun _ _ h=>h)
end Go.Proofs.YtgjolijncmkkhaaGreatDoor
namespace Go.Proofs.YtgjolijncmkkhaaGreatDoor
open Go.RowKit Go.Maps
set_option linter.unusedVariables false
set_option maxRecDepth 100000
theorem FoS.at {B:Nat} {w:Xk} {g mb:Nat} {a:Xi} {c:Nat} {l:List PlV} {F:Xh} (h:FoS B w g mb a c l F) (hl:0<l.length):∃gr,a=some ⟨gr,0,none⟩∧gr∈F:=by
 obtain⟨Cs,Fs,e1,e2,e3,e4,rfl⟩:=h.row
 obtain⟨gr,Aa,e,_,_⟩:=e4.form hl
 injection e with e _ _
 subst e
 exact⟨gr,rfl,List.mem_append_left _ (by simp [FB,Value.ownBlock])⟩
theorem FoS.own {B:Nat} {w:Xk} {g mb gr:Nat} {c:Nat} {l:List PlV} {F:Xh} (h:FoS B w g mb (some ⟨gr,0,none⟩) c l F) {k:Nat} (hk:k<l.length) :
  ∃(k1:Xi) (ck:Nat) (n1:Xi) (cn:Nat) (t1:Xi) (ct:Nat) (a1:Xi) (ca:Nat) (Fa:Xh),w.cell? ⟨gr,k*9,none⟩=some (.int .i64 l[k].idN)∧w.cell? ⟨gr,k*9+1,none⟩=some (.int .i64 l[k].idR)∧w.cell? ⟨gr,k*9+2,none⟩=some (.int .i64 l[k].parN)∧w.cell? ⟨gr,k*9+3,none⟩=some (.int .i64 l[k].parR)∧w.cell? ⟨gr,k*9+4,none⟩=some (.slice k1 l[k].key.length ck)∧w.cell? ⟨gr,k*9+5,none⟩=some (.int .i64 l[k].kind)∧w.cell? ⟨gr,k*9+6,none⟩=some (.slice n1 l[k].name.length cn)∧w.cell? ⟨gr,k*9+7,none⟩=some (.slice t1 l[k].text.length ct)∧w.cell? ⟨gr,k*9+8,none⟩=some (.slice a1 l[k].attrs.length ca)∧OwnZ w 0 (.slice k1 l[k].key.length ck) l[k].key∧RowM w 0 (.slice n1 l[k].name.length cn) l[k].name∧Own w 0 (.slice t1 l[k].text.length ct) l[k].text∧OwAttrs w (.slice a1 l[k].attrs.length ca) l[k].attrs Fa∧∀q∈FB (.slice k1 l[k].key.length ck)++FB (.slice n1 l[k].name.length cn)++FB (.slice t1 l[k].text.length ct)++Fa,q∈F∧q≠gr:=by
 have Ba:=h.nd
 obtain⟨Cs,Fs,e1,e2,e3,e4,rfl⟩:=h.row
 obtain⟨_,K,N,T,A,Fa,eC,o1,o2,o3,o4,eF⟩:=e3 k hk
 obtain⟨k1,ck,rfl,_⟩:=o1.ints.shape
 obtain⟨n1,cn,rfl,_⟩:=o2.byt.shape
 obtain⟨t1,ct,rfl,_⟩:=o3.byt.shape
 obtain⟨a1,ca,rfl,_⟩:=Elems.shape (OwAttrs.rd o4)
 have Aa:=fun r (hr:r<9)=>zcD e4 (fun i hi=>(e3 i (by omega)).1) e1 k r hk hr
 rw [eC]at Aa
 have d:=fun r hr=>Aa r hr
 have d0:=d 0 (by omega)
 have d1:=d 1 (by omega)
 have d2:=d 2 (by omega)
 have d3:=d 3 (by omega)
 have d4:=d 4 (by omega)
 have d5:=d 5 (by omega)
 have d6:=d 6 (by omega)
 have d7:=d 7 (by omega)
 have d8:=d 8 (by omega)
 refine⟨k1,ck,n1,cn,t1,ct,a1,ca,Fa,d0,d1,d2,d3,d4,d5,d6,d7,d8,o1,o2,o3,o4,fun q hq=> ?_⟩
 rw [<-eF]at hq
 refine⟨List.mem_append_right _ (zaT hq),fun e=> ?_⟩
 exact (List.nodup_append.1 Ba).2.2 gr (by simp [FB,Value.ownBlock]) q (zaT hq) e.symm
theorem zrp {l:List PlV} {i:IdV} {k:Nat} (hp:posP l i=some k) (hk:k<l.length):zaG l i=(decide (l[k].kind=0) && !zaz l[k].name):=by
 unfold zaG
 rw [hp]
 simp only [List.getElem?_eq_getElem hk]
 rfl
theorem zri {l:List PlV} {i:IdV} (hp:posP l i=none):zaG l i=false:=by
 unfold zaG
 rw [hp]
theorem zsS (l:List PlV) (n:Nat) (i:IdV):zaK l (n+1) i i=true:=by unfold zaK;rw [if_pos rfl]
theorem zfn {l:List PlV} {n:Nat} {i o:IdV} (h:i≠o) (k:i=zaH∨i=zaw):zaK l (n+1) i o=false:=by unfold zaK;rw [if_neg h,if_pos k]
theorem zgp {l:List PlV} {n k:Nat} {i o:IdV} (h:i≠o) (h1:¬ (i=zaH∨i=zaw)) (hp:posP l i=some k) (hk:k<l.length):zaK l (n+1) i o=zaK l n l[k].par o:=by
 conv=>lhs;unfold zaK
 rw [if_neg h,if_neg h1,hp]
 simp only [List.getElem?_eq_getElem hk]
end Go.Proofs.YtgjolijncmkkhaaGreatDoor
namespace Go.Proofs.YtgjolijncmkkhaaGreatDoor
open Go.RowKit
set_option linter.unusedVariables false
set_option maxRecDepth 100000
def zcL (n r:Int):Bool:=decide (1<=n) && (decide (n<=1000000) && (decide (0<=r) && decide (r<8)))
theorem zqx (n r:Int) :
  (zcL n r=false∧decide (1<=n)=false)∨
  (zcL n r=false∧decide (1<=n)=true∧decide (n<=1000000)=false)∨
  (zcL n r=false∧decide (1<=n)=true∧decide (n<=1000000)=true∧decide (0<=r)=false)∨
  (zcL n r=true∧decide (1<=n)=true∧decide (n<=1000000)=true∧decide (0<=r)=true∧decide (r<8)=true)∨
  (zcL n r=false∧decide (1<=n)=true∧decide (n<=1000000)=true∧decide (0<=r)=true∧decide (r<8)=false):=by
 unfold zcL
 cases decide (1<=n)<;>cases decide (n<=1000000)<;>cases decide (0<=r)<;>cases decide (r<8)<;>simp
set_option maxHeartbeats 1600000 in
theorem ztc (w:Xk) (n r:Int) :
  Calls Tryz.prog 117 #[.agg #[.int .i64 n,.int .i64 r]] w fun e w'=>e=.returned (.bool (zcL n r))∧w'=w.alloc (.cells #[.int .i64 n,.int .i64 r] 50):=by
 rcases zqx n r with ⟨h,q1⟩ | ⟨h,q1,q2⟩ | ⟨h,q1,q2,q3⟩ | ⟨h,q1,q2,q3,q4⟩ | ⟨h,q1,q2,q3,q4⟩
 all_goals
  have HE:=hide h
  clear h
  go_enter Tryz.func117,Tryz.ntmps117
  go_wp2
  go_ret
  exact⟨by rw [zaa HE];rfl,rfl⟩
theorem zvA (n r:Int) :
  (zcL n r=true∧idB n r=true)∨
  (zcL n r=false∧idB n r=false∧(n == 0)=false)∨
  (zcL n r=false∧idB n r=false∧n=0∧(n == 0)=true∧decide (0<=r)=false)∨
  (zcL n r=false∧idB n r=decide (r<=121)∧n=0∧(n == 0)=true∧decide (0<=r)=true):=by
 unfold zcL idB
 by_cases a:n=0
 ·subst a
  by_cases b:0<=r
  ·right;right;right
   refine⟨by simp,?_,rfl,rfl,by simpa using b⟩
   rw [Bool.eq_iff_iff]
   simp
   omega
  ·right;right;left
   refine⟨by simp,?_,rfl,rfl,by simpa using b⟩
   rw [Bool.eq_false_iff]
   simp only [ne_eq,Bool.and_eq_true,Bool.or_eq_true,decide_eq_true_eq]
   omega
 ·by_cases c:1<=n∧n<=1000000∧0<=r∧r<8
  ·left
   simp only [Bool.and_eq_true,Bool.or_eq_true,decide_eq_true_eq]
   omega
  ·right;left
   refine⟨?_,?_,by simpa using a⟩
   ·rw [Bool.eq_false_iff]
    simp only [ne_eq,Bool.and_eq_true,decide_eq_true_eq]
    omega
   ·rw [Bool.eq_false_iff]
    simp only [ne_eq,Bool.and_eq_true,Bool.or_eq_true,decide_eq_true_eq]
    omega
set_option maxHeartbeats 1600000 in
theorem zzb (w:Xk) (n r:Int) :
  Calls Tryz.prog 84 #[.agg #[.int .i64 n,.int .i64 r]] w fun e w'=>e=.returned (.bool (idB n r))∧w'=(w.alloc (.cells #[.int .i64 n,.int .i64 r] 50)).alloc (.cells #[.int .i64 n,.int .i64 r] 50):=by
 have HS:=hide (ztc (w.alloc (.cells #[.int .i64 n,.int .i64 r] 50)) n r)
 rcases zvA n r with ⟨h,k⟩ | ⟨h,k,q1⟩ | ⟨h,k,rfl,q1,q2⟩ | ⟨h,k,rfl,q1,q2⟩
 all_goals
  rw [h]at HS
  have HE:=hide k
  clear h k
  go_enter Tryz.func84,Tryz.ntmps84
  go_wp2_with fail
  refine (zaa HS).mono ?_
  rintro e w1 ⟨rfl,rfl⟩
  go_wp2
  go_ret
  exact⟨by rw [zaa HE];rfl,rfl⟩
end Go.Proofs.YtgjolijncmkkhaaGreatDoor
namespace Go.Proofs.YtgjolijncmkkhaaGreatDoor
set_option linter.unusedVariables false
end Go.Proofs.YtgjolijncmkkhaaGreatDoor
namespace Go.Proofs.YtgjolijncmkkhaaGreatDoor
open Go.RowKit
set_option linter.unusedVariables false
def AtI (l:List PlV):Prop:=∀p∈l,SrtA p.attrs∧p.attrs.length<=4
def Kd2 (l:List PlV):Prop:=∀(k:Nat) (p:PlV),k<2->l[k]? = some p->p.kind=0
theorem zuq {n r:Int} (h:idB n r=true):okI (n,r):=by
 unfold idB at h
 simp only [Bool.and_eq_true,Bool.or_eq_true,decide_eq_true_eq]at h
 exact⟨WalkArith.wf_i64 (by omega),WalkArith.wf_i64 (by omega)⟩
set_option maxRecDepth 100000
theorem zdM {n:Nat} {deep:Int} {t:Tr (n+1)} {left:Int} (h:(okT (n+1) deep t left).1=true) :
  t.attrs.length<=4∧0<=left-1∧(okK (okT n (deep+1)) t.kids (left-1)).1=true∧(okT (n+1) deep t left).2=(okK (okT n (deep+1)) t.kids (left-1)).2:=by
 rw [zbl]at h ⊢
 by_cases h1:left-1<0∨20<deep
 ·rw [if_pos h1]at h;cases h
 ·rw [if_neg h1]at h ⊢
  by_cases h2:t.kind=1
  ·rw [if_pos h2]at h ⊢
   have h3:zaY t=true:=h
   unfold zaY at h3
   simp only [Bool.and_eq_true,decide_eq_true_eq]at h3
   have hk:t.kids=[]:=List.eq_nil_of_length_eq_zero h3.1.2
   rw [hk]
   exact⟨by omega,by omega,rfl,rfl⟩
  ·rw [if_neg h2]at h ⊢
   by_cases h3:zaM t=true
   ·rw [if_pos h3]at h ⊢
    refine⟨?_,by omega,h,rfl⟩
    unfold zaM at h3
    simp only [Bool.and_eq_true]at h3
    have h4:=h3.1.2
    unfold zlQ at h4
    rw [Bool.and_eq_true,decide_eq_true_eq]at h4
    exact h4.1
   ·rw [if_neg h3]at h;cases h
theorem zmg:∀(n:Nat) (deep:Int) (ks:List (Tr n)) (left:Int) (i:IdV) (acc:List PlV),0<=left->(okK (okT n deep) ks left).1=true->
  ((zau n i ks acc).length:Int)+(okK (okT n deep) ks left).2=acc.length+left∧∀p∈zau n i ks acc,p∈acc∨p.attrs.length<=4
 | 0,deep,ks,left,i,acc,h0,h=>by
  obtain rfl:ks=[]:=by
   cases ks with
   | nil=>rfl
   | cons x r=>exact x.elim
  exact⟨rfl,fun p hp=>.inl hp⟩
 | n+1,deep,ks,left,i,acc,h0,h=>by
  have Ba:∀(f:Nd (Tr n)->Int->Bool×Int),(∀x left,f x left=okT (n+1) deep x left)->∀(ks:List (Nd (Tr n))) (k:Nat) (acc:List PlV) (left:Int),0<=left->(okK f ks left).1=true->
    (((ks.zipIdx k).foldl (zaV n i) acc).length:Int)+(okK f ks left).2=acc.length+left∧∀p∈(ks.zipIdx k).foldl (zaV n i) acc,p∈acc∨p.attrs.length<=4:=by
   intro f hf ks
   induction ks with
   | nil=>intro k acc left _ _;exact⟨rfl,fun p hp=>.inl hp⟩
   | cons x r ih=>
    intro k acc left h0 h
    have Aa:(f x left).1=true:=by
     cases hb:(f x left).1 with
     | true=>rfl
     | false=>simp [okK,hb]at h
    have e1:okK f (x::r) left=okK f r (f x left).2:=by simp [okK,Aa]
    rw [e1]at h ⊢
    have h1:(okT (n+1) deep x left).1=true:=by rw [<-hf];exact Aa
    have e3:=hf x left
    rw [e3]at h ⊢
    have hb:=zfa (n+1) deep x left h0
    obtain⟨p1,p2,p3,p4⟩:=zdM h1
    have hk:=zmg n (deep+1) x.kids (left-1) (0,(acc.length:Int)) (acc++[zaB acc.length i x k]) p2 p3
    have hr:=ih (k+1) (zaV n i acc (x,k)) _ (hb.2.2 h1) h
    rw [List.zipIdx_cons,List.foldl_cons]
    have e2:zaV n i acc (x,k)=zau n (0,(acc.length:Int)) x.kids (acc++[zaB acc.length i x k]):=rfl
    rw [e2]at hr ⊢
    refine⟨?_,fun p hp=> ?_⟩
    ·have h5:=hk.1
     have h6:=hr.1
     rw [<-p4]at h5
     simp only [List.length_append,List.length_cons,List.length_nil]at h5
     omega
    ·rcases hr.2 p hp with h7 | h7
     ·rcases hk.2 p h7 with h8 | h8
      ·rcases List.mem_append.1 h8 with h9 | h9
       ·exact .inl h9
       ·simp at h9
        subst h9
        exact .inr p1
      ·exact .inr h8
     ·exact .inr h7
  exact Ba (okT (n+1) deep) (fun _ _=>rfl) ks 0 acc left h0 h
theorem zyZ {n:Nat} {t:Tr (n+1)} (h:okN n t=true) (acc:List PlV) (hacc:∀p∈acc,p.attrs.length<=4):(zau n (0,0) t.kids acc).length<=acc.length+119∧∀p∈zau n (0,0) t.kids acc,p.attrs.length<=4:=by
 unfold okN at h
 rw [Bool.and_eq_true]at h
 obtain⟨p1,p2,p3,p4⟩:=zdM h.2
 have hk:=zmg n 2 t.kids (120-1) (0,0) acc p2 p3
 have hb:=zfa (n+1) 1 t 120 (by decide)
 have h0:=hb.2.2 h.2
 rw [p4]at h0
 have e:((1:Int)+1)=2:=rfl
 rw [e]at h0
 refine⟨by have:=hk.1;omega,fun p hp=>(hk.2 p hp).elim (hacc p) id⟩
def zxV (w:Xk) (C:Xj) (o:OpV):Prop:=∃k n t,C=[.int .i64 o.kind,.int .i64 o.atN,.int .i64 o.atR,.int .i64 o.nodeN,.int .i64 o.nodeR,.int .i64 o.parN,.int .i64 o.parR,k,.int .i64 o.elem,n,t,.bool o.gone]∧Ints w k o.key∧Byt w n o.name∧Byt w t o.text
def RdOps (w:Xk) (v:Xl) (l:List OpV):Prop:=Elems w 12 v l (zxV w)
theorem RdOps.keep {w w':Xk} {v:Xl} {l:List OpV} (h:RdOps w v l) (hb:Below w.heap.size w w'):RdOps w' v l:=
 Elems.keep h hb (fun C x _ ⟨k,n,t,e,h1,h2,h3⟩=>⟨k,n,t,e,h1.keep hb,h2.keep hb,h3.keep hb⟩)
theorem RdOps.cases {w:Xk} {v:Xl} {l:List OpV} (h:RdOps w v l):(l=[]∧∃a cap,v=.slice a 0 cap)∨(∃b off cap,v=.slice (some ⟨b,off,none⟩) l.length cap∧l≠[]∧b<w.heap.size∧∀i (hi:i<l.length),∃C:Xj,C.length=12∧(∀j,j<12->w.cell? ⟨b,off+i*12+j,none⟩=C[j]?)∧zxV w C l[i]):=by
 obtain⟨_,⟨rfl,rfl⟩ | ⟨x,cap,rfl,hc,rfl⟩ | ⟨b,off,cap,rfl,g1,g2,g3,g4,g5⟩⟩:=h
 ·exact .inl ⟨rfl,_,_,rfl⟩
 ·exact .inl ⟨rfl,_,_,rfl⟩
 ·exact .inr ⟨b,off,cap,rfl,g3,g4,g5⟩
def okAt (l:List OpV) (i:Nat):Bool:=if h:i<l.length then opB l[i] && (decide (i=0) || zbH (l[i-1]'(by omega)).atN (l[i-1]'(by omega)).atR l[i].atN l[i].atR) else true
def opsB (l:List OpV):Bool:=decide (l.length<=150) && (List.range l.length).all (okAt l)
theorem ztK {l:List OpV} (h:opsB l=true):l.length<=150∧∀j,j<l.length->okAt l j=true:=by
 unfold opsB at h
 rw [Bool.and_eq_true,decide_eq_true_eq,List.all_eq_true]at h
 exact⟨h.1,fun j hj=>h.2 j (by simpa using hj)⟩
theorem AttrsF.at {w0 w:Xk} {v:Xl} {l:List (Xg×Xg)} {F:Xh} (h:AttrsF w0 w v l F) (hb:Below w0.heap.size w0 w) {i:Nat} (hi:i<l.length) :
  ∃b off cap y1 d1 y2 d2,v=.slice (some ⟨b,off,none⟩) l.length cap∧b<w.heap.size∧w.cell? ⟨b,off+i*2,none⟩=some (.slice y1 l[i].1.length d1)∧w.cell? ⟨b,off+i*2+1,none⟩=some (.slice y2 l[i].2.length d2)∧Byt w0 (.slice y1 l[i].1.length d1) l[i].1∧Byt w0 (.slice y2 l[i].2.length d2) l[i].2:=by
 rcases h with ⟨h,_⟩ | ⟨Cs,Fs,e1,e2,e3,e4,_⟩
 ·obtain⟨hm,⟨_,e⟩ | ⟨_,_,_,_,e⟩ | ⟨pb,Ba,cap,rfl,_,_,_,Ca,Da⟩⟩:=h
  ·subst e;simp at hi
  ·subst e;simp at hi
  obtain⟨C,hC,Aa,y1,y2,rfl,h1,h2⟩:=Da i hi
  obtain⟨a1,c1,rfl,_,_⟩:=h1.shape
  obtain⟨a2,c2,rfl,_,_⟩:=h2.shape
  have q0:=Aa 0 (by omega)
  have q1:=Aa 1 (by omega)
  exact⟨pb,Ba,cap,a1,c1,a2,c2,rfl,Nat.lt_of_lt_of_le Ca hb.size,(hb.cell (p:=⟨pb,Ba+i*2,none⟩) Ca).trans q0,(hb.cell (p:=⟨pb,Ba+i*2+1,none⟩) Ca).trans q1,h1,h2⟩
 ·rcases e4.2 with ⟨_,e0⟩ | ⟨g,cap,Fa,rfl,_,hg,_⟩
  ·omega
  obtain⟨_,y1,y2,eC,h1,h2,_⟩:=e3 i hi
  have Aa:=fun x (hx:x<2)=>zcD e4 (fun i hi=>(e3 i (by omega)).1) e1 i x hi hx
  rw [eC]at Aa
  obtain⟨a1,c1,rfl,_,_⟩:=h1.shape
  obtain⟨a2,c2,rfl,_,_⟩:=h2.shape
  exact⟨g,0,cap,a1,c1,a2,c2,rfl,(Array.getElem?_eq_some_iff.1 hg).1,by rw [Nat.zero_add];exact Aa 0 (by decide),by rw [Nat.zero_add];exact Aa 1 (by decide),h1,h2⟩
theorem zmG:(Tryz.prog.info? 146).map (fun i=>(i.zero,i.size,i.bytes))=some (some (.agg #[.int .i64 0,.int .i64 0,.int .i64 0,.int .i64 0,.slice none 0 0,.int .i64 0,.slice none 0 0,.slice none 0 0,.slice none 0 0]),9,136):=by kernel_rfl
def DoR (w0 w:Xk) (sb:Nat) (F:Xh) (m:List PlV) (w':Xk):Prop:=∃a' c' F',StB w0 w' sb a' c' m F'∧Frm w w' (sb::F)∧∀q∈F',q∈F∨w.heap.size<=q
theorem DoR.of {w0 w w':Xk} {sb:Nat} {a:Xi} {c:Nat} {l m:List PlV} {F F':Xh} (h:StB w0 w' sb a c l F') (e:m=l) (f:Frm w w' (sb::F)) (hF:∀q∈F',q∈F∨w.heap.size<=q):DoR w0 w sb F m w':=⟨a,c,F',e ▸ h,f,hF⟩
theorem zuo {w:Xk} {g:Nat} {u0 u1 u2 u3 u4 u5 u6 u7 u8:Xl} {T:Xm} (h:Loc w g #[u0,u1,u2,u3,u4,u5,u6,u7,u8] T) (v0 v1 v2 v3 v4 v5 v6 v7 v8:Xl):Loc (((((((((w.setCell ⟨g,0,none⟩ v0).setCell ⟨g,1,none⟩ v1).setCell ⟨g,2,none⟩ v2).setCell ⟨g,3,none⟩ v3).setCell ⟨g,4,none⟩ v4).setCell ⟨g,5,none⟩ v5).setCell ⟨g,6,none⟩ v6).setCell ⟨g,7,none⟩ v7).setCell ⟨g,8,none⟩ v8) g #[v0,v1,v2,v3,v4,v5,v6,v7,v8] T∧Frm w (((((((((w.setCell ⟨g,0,none⟩ v0).setCell ⟨g,1,none⟩ v1).setCell ⟨g,2,none⟩ v2).setCell ⟨g,3,none⟩ v3).setCell ⟨g,4,none⟩ v4).setCell ⟨g,5,none⟩ v5).setCell ⟨g,6,none⟩ v6).setCell ⟨g,7,none⟩ v7).setCell ⟨g,8,none⟩ v8) [g]:=by
 have h0:Loc (w.setCell ⟨g,0,none⟩ v0) g #[v0,u1,u2,u3,u4,u5,u6,u7,u8] T:=h.set 0 v0
 have h1:Loc ((w.setCell ⟨g,0,none⟩ v0).setCell ⟨g,1,none⟩ v1) g #[v0,v1,u2,u3,u4,u5,u6,u7,u8] T:=h0.set 1 v1
 have h2:Loc (((w.setCell ⟨g,0,none⟩ v0).setCell ⟨g,1,none⟩ v1).setCell ⟨g,2,none⟩ v2) g #[v0,v1,v2,u3,u4,u5,u6,u7,u8] T:=h1.set 2 v2
 have h3:Loc ((((w.setCell ⟨g,0,none⟩ v0).setCell ⟨g,1,none⟩ v1).setCell ⟨g,2,none⟩ v2).setCell ⟨g,3,none⟩ v3) g #[v0,v1,v2,v3,u4,u5,u6,u7,u8] T:=h2.set 3 v3
 have h4:Loc (((((w.setCell ⟨g,0,none⟩ v0).setCell ⟨g,1,none⟩ v1).setCell ⟨g,2,none⟩ v2).setCell ⟨g,3,none⟩ v3).setCell ⟨g,4,none⟩ v4) g #[v0,v1,v2,v3,v4,u5,u6,u7,u8] T:=h3.set 4 v4
 have h5:Loc ((((((w.setCell ⟨g,0,none⟩ v0).setCell ⟨g,1,none⟩ v1).setCell ⟨g,2,none⟩ v2).setCell ⟨g,3,none⟩ v3).setCell ⟨g,4,none⟩ v4).setCell ⟨g,5,none⟩ v5) g #[v0,v1,v2,v3,v4,v5,u6,u7,u8] T:=h4.set 5 v5
 have h6:Loc (((((((w.setCell ⟨g,0,none⟩ v0).setCell ⟨g,1,none⟩ v1).setCell ⟨g,2,none⟩ v2).setCell ⟨g,3,none⟩ v3).setCell ⟨g,4,none⟩ v4).setCell ⟨g,5,none⟩ v5).setCell ⟨g,6,none⟩ v6) g #[v0,v1,v2,v3,v4,v5,v6,u7,u8] T:=h5.set 6 v6
 have h7:Loc ((((((((w.setCell ⟨g,0,none⟩ v0).setCell ⟨g,1,none⟩ v1).setCell ⟨g,2,none⟩ v2).setCell ⟨g,3,none⟩ v3).setCell ⟨g,4,none⟩ v4).setCell ⟨g,5,none⟩ v5).setCell ⟨g,6,none⟩ v6).setCell ⟨g,7,none⟩ v7) g #[v0,v1,v2,v3,v4,v5,v6,v7,u8] T:=h6.set 7 v7
 have h8:Loc (((((((((w.setCell ⟨g,0,none⟩ v0).setCell ⟨g,1,none⟩ v1).setCell ⟨g,2,none⟩ v2).setCell ⟨g,3,none⟩ v3).setCell ⟨g,4,none⟩ v4).setCell ⟨g,5,none⟩ v5).setCell ⟨g,6,none⟩ v6).setCell ⟨g,7,none⟩ v7).setCell ⟨g,8,none⟩ v8) g #[v0,v1,v2,v3,v4,v5,v6,v7,v8] T:=h7.set 8 v8
 exact⟨h8,((((((((zal _ _ _ _).trans (zal _ _ _ _)).trans (zal _ _ _ _)).trans (zal _ _ _ _)).trans (zal _ _ _ _)).trans (zal _ _ _ _)).trans (zal _ _ _ _)).trans (zal _ _ _ _)).trans (zal _ _ _ _)⟩
def PlsR (w:Xk) (v:Xl) (l:List PlV) (F:Xh):Prop:=OwElems w 146 9 v l (fun C p G=>RdPlC w C p∧G=[]) F
theorem PlsR.of {w:Xk} {v:Xl} {l:List PlV} {F:Xh} {R:Xj->PlV->Xh->Prop} (h:OwElems w 146 9 v l R F) (hR:∀C x G,R C x G->RdPlC w C x):PlsR w v l (FB v):=by
 obtain⟨Cs,Fs,h1,h2,h3,h4,h5⟩:=h
 refine⟨Cs,List.replicate l.length [],h1,by simp,fun i hi=>⟨(h3 i hi).1,hR _ _ _ (h3 i hi).2,by simp [hi]⟩,h4,?_⟩
 simp
theorem zxu (w:Xk) (p:Nat) (h:Loc w p #[.int .u8 116,.int .u8 114,.int .u8 97,.int .u8 115,.int .u8 104] 5):∃w',(convert 22 22 (.slice (some ⟨p,0,none⟩) 5 5)).run Tryz.prog w=.ok (.slice (some ⟨p,0,none⟩) 5 5) w'∧Frm w w' [p]∧w'.heap.size=w.heap.size∧RowM w' 0 (.slice (some ⟨p,0,none⟩) 5 5) zpd:=by
 have Aa:w.shape? p=some (5,5):=by unfold World.shape?;unfold Loc at h;rw [h];rfl
 refine⟨w.freeze ⟨p,5,none⟩ 1,?_,?_,?_,?_⟩
 ·simp [convert,run_underlying Tryz.underlying22,run_underlying Tryz.underlying5,markStringish,Aa]
 ·unfold World.freeze
  rw [if_neg (by decide)]
  refine⟨rfl,rfl,rfl,by simp,fun k hk hn=> ?_⟩
  simp only [List.mem_singleton]at hn
  show (w.heap.modify p _)[k]? = w.heap[k]?
  rw [Array.getElem?_modify,if_neg (fun e=>hn e.symm)]
 ·unfold World.freeze
  rw [if_neg (by decide)]
  simp
 ·refine⟨fun x hx=>by simp [zpd]at hx;omega,.inr ⟨p,5,#[.int .u8 116,.int .u8 114,.int .u8 97,.int .u8 115,.int .u8 104],(5,6),rfl,Nat.zero_le _,?_,fun j hj=>by simp;omega,by decide,by decide,rfl,rfl⟩⟩
  unfold World.freeze
  rw [if_neg (by decide)]
  show (w.heap.modify p _)[p]? = _
  unfold Loc at h
  rw [Array.getElem?_modify,if_pos rfl,h]
  rfl
def zbG {n:Nat} (t:Nd (Tr n)) (ops:List OpV):List PlV:=ops.foldl doV (zau n (0,0) t.kids [⟨0,0,0,0,[],0,t.name,[],t.attrs⟩,zde])
structure Gr (w:Xk) where
 W:Xk
 h:Below w.heap.size w W
theorem Gr.cell {w:Xk} {a:Addr} {v:Xl} (hb:a.block<w.heap.size) (h:w.cell? a=some v) (p:Gr w):p.W.cell? a=some v:=(p.h.cell hb).trans h
def zeG {n:Nat} (t:Tr (n+1)) (ops:List OpV):Bool:=okN n t && !zaz t.name && opsB ops
def zfi {n:Nat} (t:Tr (n+1)) (ops:List OpV):List PlV:=if zeG t ops=true then zbG t ops else []
def GdA (x:AtV):Prop:=x.1.length<=100∧x.2.length<=100
def Gd (p:PlV):Prop:=p.key.length<=100∧p.name.length<=100∧p.text.length<=100∧SrtA p.attrs∧p.attrs.length<=4∧∀x∈p.attrs,GdA x
theorem zpu {l:Xg} (h:zaD l):okB l:=fun x hx=>by
 obtain⟨i,hi,rfl⟩:=List.getElem_of_mem hx
 have h1:=h.2.2 i hi
 rw [zgM hi]at h1
 unfold zdu at h1
 omega
theorem zzM {l:List AtV} (h:zat l):SrtA l:=by
 have hn:∀i (hi:i<l.length),zaD l[i].1:=fun i hi=>by
  have h1:=(h.2 i hi).1
  rw [List.getD_eq_getElem?_getD,List.getElem?_eq_getElem hi]at h1
  exact h1
 have hs:∀i (hi:i+1<l.length),klB l[i].1 l[i+1].1=true:=fun i hi=>by
  have h1:=(h.2 (i+1) hi).2.2 (by omega)
  rw [show i+1-1=i by omega,List.getD_eq_getElem?_getD,List.getElem?_eq_getElem (show i<l.length by omega),List.getD_eq_getElem?_getD,List.getElem?_eq_getElem hi]at h1
  rw [<-zwS (zpu (hn i (by omega))) (zpu (hn (i+1) hi))]
  exact h1
 refine List.pairwise_iff_getElem.2 (fun i j hi hj Aa=> ?_)
 obtain⟨d,rfl⟩:∃d,j=i+1+d:=⟨j-i-1,by omega⟩
 induction d with
 | zero=>exact hs i hj
 | succ d ih=>exact zny (ih (by omega) (by omega)) (hs (i+1+d) hj)
theorem ztM {l:List AtV} (h:zat l):SrtA l∧l.length<=4∧∀x∈l,GdA x:=by
 refine⟨zzM h,h.1,fun x hx=> ?_⟩
 obtain⟨i,hi,rfl⟩:=List.getElem_of_mem hx
 have h1:=h.2 i hi
 unfold zdb at h1
 rw [List.getD_eq_getElem?_getD,List.getElem?_eq_getElem hi]at h1
 have a1:=h1.1.2.1
 have a2:=h1.2.1.1
 simp only [Option.getD_some]at a1 a2
 exact⟨by omega,by omega⟩
theorem zpi {n:Nat} {deep:Int} {t:Tr (n+1)} {left:Int} (h:(okT (n+1) deep t left).1=true):t.name.length<=100∧t.text.length<=100∧SrtA t.attrs∧t.attrs.length<=4∧∀x∈t.attrs,GdA x:=by
 rw [zbl]at h
 by_cases h1:left-1<0∨20<deep
 ·rw [if_pos h1]at h;cases h
 ·rw [if_neg h1]at h
  by_cases h2:t.kind=1
  ·rw [if_pos h2]at h
   obtain⟨a1,a2,_,a4⟩:=(zaX t).1 h
   have e:t.attrs=[]:=List.eq_nil_of_length_eq_zero a2
   rw [e]
   have:=a4.1
   exact⟨by omega,by omega,List.Pairwise.nil,by simp,fun x hx=>by cases hx⟩
  ·rw [if_neg h2]at h
   by_cases h3:zaM t=true
   ·obtain⟨_,a2,a3,a4,_⟩:=(zba t).1 h3
    have:=a2.2.1
    exact⟨by omega,by omega,ztM a4⟩
   ·rw [if_neg h3]at h;cases h
theorem znb:∀(n:Nat) (deep:Int) (ks:List (Tr n)) (left:Int) (i:IdV) (acc:List PlV),0<=left->(okK (okT n deep) ks left).1=true->∀p∈zau n i ks acc,p∈acc∨Gd p
 | 0,deep,ks,left,i,acc,h0,h=>fun p hp=>.inl hp
 | n+1,deep,ks,left,i,acc,h0,h=>by
  have Ba:∀(f:Nd (Tr n)->Int->Bool×Int),(∀x left,f x left=okT (n+1) deep x left)->∀(ks:List (Nd (Tr n))) (k:Nat) (acc:List PlV) (left:Int),0<=left->(okK f ks left).1=true->
    ∀p∈(ks.zipIdx k).foldl (zaV n i) acc,p∈acc∨Gd p:=by
   intro f hf ks
   induction ks with
   | nil=>intro k acc left _ _ p hp;exact .inl hp
   | cons x r ih=>
    intro k acc left h0 h
    have Aa:(f x left).1=true:=by
     cases hb:(f x left).1 with
     | true=>rfl
     | false=>simp [okK,hb]at h
    have e1:okK f (x::r) left=okK f r (f x left).2:=by simp [okK,Aa]
    rw [e1]at h
    have h1:(okT (n+1) deep x left).1=true:=by rw [<-hf];exact Aa
    have e3:=hf x left
    rw [e3]at h
    have hb:=zfa (n+1) deep x left h0
    obtain⟨p1,p2,p3,p4⟩:=zdM h1
    have hk:=znb n (deep+1) x.kids (left-1) (0,(acc.length:Int)) (acc++[zaB acc.length i x k]) p2 p3
    have hr:=ih (k+1) (zaV n i acc (x,k)) _ (hb.2.2 h1) h
    rw [List.zipIdx_cons,List.foldl_cons]
    intro p hp
    rcases hr p hp with h7 | h7
    ·rcases hk p h7 with h8 | h8
     ·rcases List.mem_append.1 h8 with h9 | h9
      ·exact .inl h9
      ·have e:p=zaB acc.length i x k:=by simpa using h9
       subst e
       obtain⟨g1,g2,g3⟩:=zpi h1
       exact .inr ⟨by simp [zaB],g1,g2,g3⟩
     ·exact .inr h8
    ·exact .inr h7
  exact Ba (okT (n+1) deep) (fun _ _=>rfl) ks 0 acc left h0 h
theorem zrv:∀(n:Nat) (i:IdV) (ks:List (Tr n)) (acc:List PlV),Fr acc->SeedIds acc->(∃j,posP acc i=some j)->Fr (zau n i ks acc)∧(∀id j,posP acc id=some j->posP (zau n i ks acc) id=some j)∧∀k,k<acc.length->(zau n i ks acc)[k]? = acc[k]?
 | 0,i,ks,acc,h,hs,hp=>⟨h,fun _ _ h=>h,fun _ _=>rfl⟩
 | n+1,i,ks,acc,h,hs,hp=>by
  have Da:∀(ks:List (Nd (Tr n))) (k:Nat) (acc:List PlV),Fr acc->SeedIds acc->(∃j,posP acc i=some j)->Fr ((ks.zipIdx k).foldl (zaV n i) acc)∧(∀id j,posP acc id=some j->posP ((ks.zipIdx k).foldl (zaV n i) acc) id=some j)∧∀m,m<acc.length->((ks.zipIdx k).foldl (zaV n i) acc)[m]? = acc[m]? :=by
   intro ks
   induction ks with
   | nil=>intro k acc h _ _;exact⟨h,fun _ _ h=>h,fun _ _=>rfl⟩
   | cons x r ih=>
    intro k acc h hs hp
    obtain⟨j,hj⟩:=hp
    rw [List.zipIdx_cons,List.foldl_cons]
    have hn:posP acc (zaB acc.length i x k).id=none:=hs.new
    have h1:Fr (acc++[zaB acc.length i x k]):=h.add hn (show posP acc (zaB acc.length i x k).par=some j from hj)
    have Aa:SeedIds (acc++[zaB acc.length i x k]):=hs.snoc rfl rfl
    have Ba:posP (acc++[zaB acc.length i x k]) (0,(acc.length:Int))=some acc.length:=by
     have:=ziS (i:=(zaB acc.length i x k).id) hn
     rw [if_pos rfl]at this
     exact this
    obtain⟨a1,a2,a3⟩:=zrv n (0,(acc.length:Int)) x.kids (acc++[zaB acc.length i x k]) h1 Aa ⟨_,Ba⟩
    have Ca:SeedIds (zaV n i acc (x,k)):=SeedIds.K n _ _ _ Aa
    obtain⟨b1,b2,b3⟩:=ih (k+1) (zaV n i acc (x,k)) a1 Ca ⟨j,a2 i j (zer hj)⟩
    have Fa:acc.length+1<=(zaV n i acc (x,k)).length:=zhl n i acc (x,k)
    refine⟨b1,fun id m hm=>b2 id m (a2 id m (zer hm)),fun m hm=> ?_⟩
    rw [b3 m (by omega)]
    have:=a3 m (by simp;omega)
    rw [List.getElem?_append_left hm]at this
    exact this
  exact Da ks 0 acc h hs hp
def zgu {n:Nat} (t:Nd (Tr n)):PlV:=⟨0,0,0,0,[],0,t.name,[],t.attrs⟩
def zaL {n:Nat} (t:Nd (Tr n)):List PlV:=[zgu t,zde]
def zhB {n:Nat} (t:Nd (Tr n)):List PlV:=zau n (0,0) t.kids (zaL t)
theorem zyc {n:Nat} (t:Nd (Tr n)):Fr (zaL t):=by
 refine⟨by simp [zaL],fun p h=> ?_,fun p h=> ?_,?_,fun i p hi h=> ?_,⟨fun _=>0,fun i p hi h=> ?_⟩⟩
 ·simp [zaL]at h;rw [<-h];rfl
 ·simp [zaL]at h;rw [<-h];rfl
 ·simp [zaL,zgu,zde,PlV.id]
 ·have:=(List.getElem?_eq_some_iff.1 h).1
  simp [zaL]at this
  omega
 ·have:=(List.getElem?_eq_some_iff.1 h).1
  simp [zaL]at this
  omega
theorem zhE {n:Nat} (t:Nd (Tr n)):SeedIds (zaL t):=fun p hp=>by
 simp [zaL]at hp
 rcases hp with rfl | rfl
 ·exact⟨rfl,(show (0:Int)<=0 by decide),by simp [zaL,zgu]⟩
 ·exact⟨rfl,(show (0:Int)<=1 by decide),by simp [zaL,zde]⟩
structure Alg (l:List PlV) (done:List OpV):Prop where
 fr:Fr l
 gd:∀p∈l,Gd p
 kd:Kd2 l
 ids:∀p∈l,p.idN=0∨∃o∈done,p.id=o.at'
 len:l.length<=121+done.length
theorem Alg.at {l:List PlV} {done:List OpV} (h:Alg l done):AtI l:=fun p hp=>⟨(h.gd p hp).2.2.2.1,(h.gd p hp).2.2.2.2.1⟩
theorem zqy {n:Nat} {t:Tr (n+1)} (h:okN n t=true):Alg (zhB t) []:=by
 obtain⟨hk,ho⟩:=Bool.and_eq_true_iff.1 (show (decide (t.kind=0) && (okT (n+1) 1 t 120).1)=true from h)
 obtain⟨p1,p2,p3,p4⟩:=zdM ho
 obtain⟨g1,g2,g3⟩:=zpi ho
 have Aa:∀p∈zaL t,Gd p:=fun p hp=>by
  simp [zaL]at hp
  rcases hp with rfl | rfl
  ·exact⟨by simp [zgu],g1,by simp [zgu],g3⟩
  ·exact⟨by simp [zde],by decide,by simp [zde],List.Pairwise.nil,by simp [zde],fun x hx=>by cases hx⟩
 obtain⟨f1,f2,f3⟩:=zrv n (0,0) t.kids (zaL t) (zyc t) (zhE t) ⟨0,posP_some.2 ⟨by simp [zaL],rfl,fun j hj=>by omega⟩⟩
 refine⟨f1,fun p hp=> ?_,fun k p Ba hp=> ?_,fun p hp=>.inl ((zhE t).K n (0,0) t.kids (zaL t) p hp).1,?_⟩
 ·rcases znb n 2 t.kids (120-1) (0,0) (zaL t) p2 p3 p hp with e | e
  ·exact Aa p e
  ·exact e
 ·rw [show zhB t=zau n (0,0) t.kids (zaL t) from rfl,f3 k (by simpa [zaL]using Ba)]at hp
  match k,Ba with
  | 0,_=>simp [zaL]at hp;rw [<-hp];rfl
  | 1,_=>simp [zaL]at hp;rw [<-hp];rfl
 ·have h9:(zhB t).length<=(zaL t).length+119:=(zyZ h (zaL t) (fun p hp=>(Aa p hp).2.2.2.2.1)).1
  have e2:(zaL t).length=2:=rfl
  rw [e2]at h9
  exact h9
def zos {n:Nat} (t:Nd (Tr n)) (ops:List OpV) (j:Nat):List PlV:=(ops.take j).foldl doV (zhB t)
theorem ztQ {n:Nat} (t:Nd (Tr n)) (ops:List OpV):zos t ops ops.length=zbG t ops:=by unfold zos;rw [List.take_length];rfl
end Go.Proofs.YtgjolijncmkkhaaGreatDoor
