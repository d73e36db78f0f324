/- Own texts joined: SameA, SameP, SameL, PartsI, SameT, SameM, SameI. -/
import Derived.Test.YtgjolijncmkkhaaGreatDoorKa
import Derived.Test.YtgjolijncmkkhaaGreatDoorKb
import Derived.Test.YtgjolijncmkkhaaGreatDoorKc
import Derived.Test.YtgjolijncmkkhaaGreatDoorKr
import Derived.Test.YtgjolijncmkkhaaGreatDoorKw
import Derived.Maps.AppendAt
import Derived.Deep.RegionHeld3
import Derived.Deep.RegionWith
namespace Go.Proofs.YtgjolijncmkkhaaGreatDoor
open Go.RowKit
set_option linter.unusedVariables false
set_option maxRecDepth 100000
theorem Loc.pair {w:Xk} {g:Nat} {a b:Xl} {T:Xm} (h:Loc w g #[a,b] T):w.cell? ⟨g,0,none⟩=some a∧w.cell? ⟨g,1,none⟩=some b:=⟨h.cell 0,h.cell 1⟩
set_option maxHeartbeats 1600000 in
theorem zot (w:Xk) (a b a' b':Xl) (x y:Xg×Xg) (ha:Byt w a x.1) (hb:Byt w b x.2) (ha':Byt w a' y.1) (hb':Byt w b' y.2) :
  Calls Tryz.prog 69 #[.agg #[a,b],.agg #[a',b']] w fun e w'=>e=.returned (.bool (decide (x=y)))∧Below w.heap.size w w':=by
 obtain⟨p1,k1,rfl,_⟩:=ha.shape
 obtain⟨p2,k2,rfl,_⟩:=hb.shape
 obtain⟨q1,j1,rfl,_⟩:=ha'.shape
 obtain⟨q2,j2,rfl,_⟩:=hb'.shape
 obtain⟨l1,l2,hB⟩:=two w #[.slice p1 x.1.length k1,.slice p2 x.2.length k2] #[.slice q1 y.1.length j1,.slice q2 y.2.length j2] 132 132
 have HD:Hid ((x.1≠y.1->decide (x=y)=false)∧(x.1=y.1->decide (x=y)=decide (x.2=y.2))):=by
  obtain⟨x1,x2⟩:=x
  obtain⟨y1,y2⟩:=y
  refine⟨fun h=> ?_,fun h=> ?_⟩
  ·simp only [decide_eq_false_iff_not];intro e;exact h (congrArg Prod.fst e)
  ·simp only at h;subst h;simp
 generalize x.1.length=n1 at *
 generalize x.2.length=n2 at *
 generalize y.1.length=m1 at *
 generalize y.2.length=m2 at *
 go_enter Tryz.func69,Tryz.ntmps69
 go_wp2_with fail
 generalize (w.alloc (.cells #[.slice p1 n1 k1,.slice p2 n2 k2] 132)).alloc (.cells #[.slice q1 m1 j1,.slice q2 m2 j2] 132)=w1 at *
 refine (zcW w1 _ _ x.1 y.1 (ha.keep hB) (ha'.keep hB)).mono ?_
 rintro e w1 ⟨rfl,rfl⟩
 obtain⟨c0,c1⟩:=l1.pair
 obtain⟨d0,d1⟩:=l2.pair
 by_cases h1:x.1=y.1
 ·rw [show decide (x.1=y.1)=true by simpa using h1]
  have HE:=hide ((zaa HD).2 h1)
  clear h1
  go_wp2_with fail
  refine (zcW w1 _ _ x.2 y.2 (hb.keep hB) (hb'.keep hB)).mono ?_
  rintro e w1 ⟨rfl,rfl⟩
  go_wp2_with fail
  go_ret
  exact⟨by rw [zaa HE];rfl,hB⟩
 ·rw [show decide (x.1=y.1)=false by simpa using h1]
  have HE:=hide ((zaa HD).1 h1)
  clear h1
  go_wp2_with fail
  go_ret
  exact⟨by rw [zaa HE];rfl,hB⟩
theorem zxG {α:Type} {l m:List α} {k:Nat} (hl:l.length=m.length) (hk:k=l.length) (h:∀i,i<k->l[i]? = m[i]?):l=m:=by
 apply List.ext_getElem?
 intro i
 by_cases hi:i<k
 ·exact h i hi
 ·rw [List.getElem?_eq_none (by omega),List.getElem?_eq_none (by omega)]
set_option maxHeartbeats 3200000 in
theorem zlX (w:Xk) (u v:Xl) (l m:List (Xg×Xg)) (hu:RdAttrs w u l) (hv:RdAttrs w v m) :
  Calls Tryz.prog 68 #[u,v,.func (.func 69) #[] #[]] w fun e w'=>e=.returned (.bool (decide (l=m)))∧Below w.heap.size w w':=by
 have Ya:=hu.1
 unfold maxLen at Ya
 obtain⟨au,cu,rfl,_,_⟩:=Elems.shape hu
 obtain⟨av,cv,rfl,_,_⟩:=Elems.shape hv
 by_cases hlen:l.length=m.length
 ·have d1:((l.length:Int) != (m.length:Int))=false:=by simp [hlen]
  have HL:=hide hlen
  have Xa:(l.length:Int)<=9223372036854775807:=by omega
  generalize hn:l.length=n at *
  have HN:=hide hn
  have HM:Hid (m.length=n):=hide hlen.symm
  rw [<-hlen]at d1 hv
  rw [<-hlen]
  clear hlen hn HL
  go_enter Tryz.func68,Tryz.ntmps68
  go_wp2_with fail
  go_loopw [17] (fun i wr=>∃k:Nat,k<=n∧i=.int .i64 k∧(∀i,i<k->l[i]? = m[i]?)∧Below w.heap.size w wr) (fun i _=>n-(intOf i).toNat)
  case atStart=>exact⟨0,Nat.zero_le _,rfl,fun i hi=>by omega,Below.refl _ _⟩
  case round=>
   obtain⟨k,hk,rfl,ha,hB⟩:=hrel
   have HA:=hide ha
   clear ha
   by_cases hlt:k<n
   ·have Ra:k<l.length:=by rw [zaa HN];exact hlt
    have Qa:k<m.length:=by rw [zaa HM];exact hlt
    obtain⟨b,Ta,rfl,La,Ja,_,C,hC,hc,hr⟩:=hu.at Ra
    clear Ja
    obtain⟨b',Aa,rfl,Ba,Ja,_,C',aa,Ha,Ma⟩:=hv.at Qa
    clear Ja
    obtain⟨x,hx⟩:∃x,x=l[k]:=⟨_,rfl⟩
    obtain⟨y,hy⟩:∃y,y=m[k]:=⟨_,rfl⟩
    rw [<-hx]at hr
    rw [<-hy]at Ma
    obtain⟨v0,v1,rfl,h0,h1⟩:=hr
    obtain⟨ba,Za,rfl,Ga,Ia⟩:=Ma
    have e0:=(hB.cell (p:=⟨b,Ta+k*2,none⟩) La).trans (hc 0 (by omega))
    have e1:=(hB.cell (p:=⟨b,Ta+k*2+1,none⟩) La).trans (hc 1 (by omega))
    have Fa:=(hB.cell (p:=⟨b',Aa + k*2,none⟩) Ba).trans (Ha 0 (by omega))
    have Ka:=(hB.cell (p:=⟨b',Aa + k*2+1,none⟩) Ba).trans (Ha 1 (by omega))
    simp only [List.getElem?_cons_zero,List.getElem?_cons_succ]at e0 e1 Fa Ka
    obtain⟨p0,k0,rfl,_,_⟩:=h0.shape
    obtain⟨p1,k1,rfl,_,_⟩:=h1.shape
    obtain⟨Oa,Ua,rfl,_,_⟩:=Ga.shape
    obtain⟨Pa,Sa,rfl,_,_⟩:=Ia.shape
    have HE:Hid (l[k]? = m[k]?↔x=y):=hide (by rw [List.getElem?_eq_getElem Ra,List.getElem?_eq_getElem Qa,<-hx,<-hy,Option.some.injEq])
    clear hc Ha hx hy
    obtain⟨l1,l2,Da⟩:=two wr #[.slice p0 x.1.length k0,.slice p1 x.2.length k1] #[.slice Oa y.1.length Ua,.slice Pa y.2.length Sa] 132 132
    have hA:=zam hB Da
    have Ca:=zot _ _ _ _ _ x y ((h0.keep hB).keep Da) ((h1.keep hB).keep Da) ((Ga.keep hB).keep Da) ((Ia.keep hB).keep Da)
    have HC:=hide Ca
    have Wa:(k:Int)<(n:Int):=by omega
    generalize x.1.length=n0 at *
    generalize x.2.length=n1 at *
    generalize y.1.length=m0 at *
    generalize y.2.length=m1 at *
    clear Ca h0 h1 Ga Ia hu hv
    have z0:(wr.alloc (.cells #[.slice p0 n0 k0,.slice p1 n1 k1] 132)).cell? ⟨b',Aa + k*2,none⟩=some (.slice Oa m0 Ua):=(((Below.refl wr.heap.size wr).alloc (Nat.le_refl _) _).cell (p:=⟨b',Aa + k*2,none⟩) (Nat.lt_of_lt_of_le Ba hB.size)).trans Fa
    have z1:(wr.alloc (.cells #[.slice p0 n0 k0,.slice p1 n1 k1] 132)).cell? ⟨b',Aa + k*2+1,none⟩=some (.slice Pa m1 Sa):=(((Below.refl wr.heap.size wr).alloc (Nat.le_refl _) _).cell (p:=⟨b',Aa + k*2+1,none⟩) (Nat.lt_of_lt_of_le Ba hB.size)).trans Ka
    clear Fa Ka
    go_wp2_with fail
    refine (zaa HC).mono ?_
    rintro e w2 ⟨rfl,Va⟩
    have Na:=zam hA Va
    by_cases hxy:x=y
    ·rw [show decide (x=y)=true by simpa using hxy]
     have HS:=hide ((zaa HE).2 hxy)
     clear hxy z0 z1 l1 l2
     go_wp2_with fail
     go_roundw
     case rel=>exact⟨k+1,by omega,by go_num,fun i hi=>zgL (p:=fun i=>l[i]? = m[i]?) (zaa HA) (zaa HS) i hi,Na⟩
     case measure=>simp [intOf];omega
    ·rw [show decide (x=y)=false by simpa using hxy]
     have HF:=hide (show decide (l=m)=false by
      simp only [decide_eq_false_iff_not]
      intro e
      exact hxy ((zaa HE).1 (by rw [e])))
     clear hxy z0 z1 l1 l2
     go_wp2_with fail
     go_ret
     exact⟨by rw [zaa HF];rfl,Na⟩
   ·have e:k=n:=by omega
    subst e
    have HF:=hide (show decide (l=m)=true by
     simp only [decide_eq_true_eq]
     exact zxG (by rw [zaa HN,zaa HM]) (zaa HN).symm (zaa HA))
    clear hu hv
    go_wp2_with fail
    go_ret
    exact⟨by rw [zaa HF];rfl,hB⟩
 ·have d1:((l.length:Int) != (m.length:Int))=true:=by rw [bne_iff_ne];omega
  have HE:=hide (show decide (l=m)=false by simp only [decide_eq_false_iff_not];intro e;exact hlen (by rw [e]))
  clear hlen hu hv
  go_enter Tryz.func68,Tryz.ntmps68
  go_wp2_with fail
  go_ret
  exact⟨by rw [zaa HE];rfl,Below.refl _ _⟩
theorem Loc.six {w:Xk} {g:Nat} {a b c d e f:Xl} {T:Xm} (h:Loc w g #[a,b,c,d,e,f] T) :
  w.cell? ⟨g,0,none⟩=some a∧w.cell? ⟨g,1,none⟩=some b∧w.cell? ⟨g,2,none⟩=some c∧w.cell? ⟨g,3,none⟩=some d∧w.cell? ⟨g,4,none⟩=some e∧w.cell? ⟨g,5,none⟩=some f:=
 ⟨h.cell 0,h.cell 1,h.cell 2,h.cell 3,h.cell 4,h.cell 5⟩
set_option maxHeartbeats 3200000 in
theorem zoV (w:Xk) (dp dp' z z':Int) (b c d b' c' d':Xl) (ae ae':Xi) (ne ce ne' ce':Nat) (nm nm' tx tx':Xg) (ats ats':List (Xg×Xg))
  (hb:Byt w b nm) (hc:Byt w c tx) (hd:RdAttrs w d ats) (hb':Byt w b' nm') (hc':Byt w c' tx') (hd':RdAttrs w d' ats') :
  Calls Tryz.prog 34 #[.agg #[.int .i64 dp,.int .i64 z,b,c,d,.slice ae ne ce],.agg #[.int .i64 dp',.int .i64 z',b',c',d',.slice ae' ne' ce']] w fun e w'=>
   e=.returned (.bool (decide ((dp,z,nm,tx,ats)=(dp',z',nm',tx',ats'))))∧Below w.heap.size w w':=by
 have HD:Hid ((dp≠dp'->decide ((dp,z,nm,tx,ats)=(dp',z',nm',tx',ats'))=false)∧(z≠z'->decide ((dp,z,nm,tx,ats)=(dp',z',nm',tx',ats'))=false)∧(nm≠nm'->decide ((dp,z,nm,tx,ats)=(dp',z',nm',tx',ats'))=false)∧(tx≠tx'->decide ((dp,z,nm,tx,ats)=(dp',z',nm',tx',ats'))=false)∧(dp=dp'->z=z'->nm=nm'->tx=tx'->decide ((dp,z,nm,tx,ats)=(dp',z',nm',tx',ats'))=decide (ats=ats'))):=by
  refine hide ⟨fun h=> ?_,fun h=> ?_,fun h=> ?_,fun h=> ?_,fun h1 h2 h3 h4=> ?_⟩
  ·simp [h]
  ·simp [h]
  ·simp [h]
  ·simp [h]
  ·simp [h1,h2,h3,h4]
 obtain⟨ab,cb,rfl,_⟩:=hb.shape
 obtain⟨ac,cc,rfl,_⟩:=hc.shape
 obtain⟨ad,cd,rfl,_⟩:=Elems.shape hd
 obtain⟨Ba,Fa,rfl,_⟩:=hb'.shape
 obtain⟨Da,Ga,rfl,_⟩:=hc'.shape
 obtain⟨Ca,Aa,rfl,_⟩:=Elems.shape hd'
 generalize nm.length=nb at *
 generalize tx.length=nc at *
 generalize ats.length=nd at *
 generalize nm'.length=nb' at *
 generalize tx'.length=nc' at *
 generalize ats'.length=nd' at *
 obtain⟨l1,l2,hB⟩:=two w #[.int .i64 dp,.int .i64 z,.slice ab nb cb,.slice ac nc cc,.slice ad nd cd,.slice ae ne ce] #[.int .i64 dp',.int .i64 z',.slice Ba nb' Fa,.slice Da nc' Ga,.slice Ca nd' Aa,.slice ae' ne' ce'] 96 96
 by_cases h0:dp=dp'
 ·have d0:(dp == dp')=true:=by simpa using h0
  have H0:=hide h0
  clear h0
  by_cases h1:z=z'
  ·have d1:(z == z')=true:=by simpa using h1
   have H1:=hide h1
   clear h1
   go_enter Tryz.func34,Tryz.ntmps34
   go_wp2_with fail
   generalize (w.alloc (.cells #[.int .i64 dp,.int .i64 z,.slice ab nb cb,.slice ac nc cc,.slice ad nd cd,.slice ae ne ce] 96)).alloc (.cells #[.int .i64 dp',.int .i64 z',.slice Ba nb' Fa,.slice Da nc' Ga,.slice Ca nd' Aa,.slice ae' ne' ce'] 96)=w1 at *
   refine (zcW w1 _ _ nm nm' (hb.keep hB) (hb'.keep hB)).mono ?_
   rintro e w1 ⟨rfl,rfl⟩
   obtain⟨x0,x1,x2,x3,x4,x5⟩:=l1.six
   obtain⟨y0,y1,y2,y3,y4,y5⟩:=l2.six
   by_cases h2:nm=nm'
   ·rw [show decide (nm=nm')=true by simpa using h2]
    have H2:=hide h2
    clear h2
    go_wp2_with fail
    refine (zcW w1 _ _ tx tx' (hc.keep hB) (hc'.keep hB)).mono ?_
    rintro e w1 ⟨rfl,rfl⟩
    by_cases h3:tx=tx'
    ·rw [show decide (tx=tx')=true by simpa using h3]
     have HE:=hide ((zaa HD).2.2.2.2 (zaa H0) (zaa H1) (zaa H2) h3)
     clear h3
     go_wp2_with fail
     refine (zlX w1 _ _ ats ats' (hd.keep hB) (hd'.keep hB)).mono ?_
     rintro e w2 ⟨rfl,Ha⟩
     go_wp2_with fail
     go_ret
     exact⟨by rw [zaa HE];rfl,zam hB Ha⟩
    ·rw [show decide (tx=tx')=false by simpa using h3]
     have HE:=hide ((zaa HD).2.2.2.1 h3)
     clear h3
     go_wp2_with fail
     go_ret
     exact⟨by rw [zaa HE];rfl,hB⟩
   ·rw [show decide (nm=nm')=false by simpa using h2]
    have HE:=hide ((zaa HD).2.2.1 h2)
    clear h2
    go_wp2_with fail
    go_ret
    exact⟨by rw [zaa HE];rfl,hB⟩
  ·have d1:(z == z')=false:=by simpa using h1
   have HE:=hide ((zaa HD).2.1 h1)
   clear h1
   go_enter Tryz.func34,Tryz.ntmps34
   go_wp2_with fail
   go_ret
   exact⟨by rw [zaa HE];rfl,hB⟩
 ·have d0:(dp == dp')=false:=by simpa using h0
  have HE:=hide ((zaa HD).1 h0)
  clear h0
  go_enter Tryz.func34,Tryz.ntmps34
  go_wp2_with fail
  go_ret
  exact⟨by rw [zaa HE];rfl,hB⟩
def zpR {w0:Xk} (C:Xj) (x:It w0):Prop:=C=[.int .i64 x.deep,x.a,x.b,x.c,x.d,x.e]
def zfa {w0:Xk} (w:Xk) (v:Xl) (l:List (It w0)):Prop:=Elems w 6 v l zpR
def hdI {w0:Xk} (x:It w0):Int×Int×Xg×Xg×List (Xg×Xg):=(x.deep,x.t.kind,x.t.name,x.t.text,x.t.attrs)
def eqHd (a b:Int×Int×Xg×Xg×List (Xg×Xg)):Bool:=decide (a.1=b.1) && decide (a.2.1=b.2.1) && decide (a.2.2.1=b.2.2.1) && decide (a.2.2.2.1=b.2.2.2.1) && decide (a.2.2.2.2=b.2.2.2.2)
theorem zwn (a b:Int×Int×Xg×Xg×List (Xg×Xg)):eqHd a b=true↔a=b:=by
 obtain⟨a1,a2,a3,a4,a5⟩:=a
 obtain⟨b1,b2,b3,b4,b5⟩:=b
 unfold eqHd
 rw [Bool.and_eq_true,Bool.and_eq_true,Bool.and_eq_true,Bool.and_eq_true,decide_eq_true_eq,decide_eq_true_eq,decide_eq_true_eq,decide_eq_true_eq,decide_eq_true_eq]
 constructor
 ·rintro⟨⟨⟨⟨h1,h2⟩,h3⟩,h4⟩,h5⟩
  simp only at h1 h2 h3 h4 h5
  subst h1 h2 h3 h4 h5
  rfl
 ·intro h
  cases h
  exact⟨⟨⟨⟨rfl,rfl⟩,rfl⟩,rfl⟩,rfl⟩
def zcS:List (Int×Int×Xg×Xg×List (Xg×Xg))->List (Int×Int×Xg×Xg×List (Xg×Xg))->Bool
 | [],[]=>true
 | a::l,b::m=>eqHd a b && zcS l m
 | _,_=>false
theorem zfC:∀l m,zcS l m=true↔l=m
 | [],[]=>by simp [zcS]
 | [],_::_=>by simp [zcS]
 | _::_,[]=>by simp [zcS]
 | a::l,b::m=>by rw [zcS,Bool.and_eq_true,zwn,zfC l m,List.cons.injEq]
theorem zjM {l m:List (Int×Int×Xg×Xg×List (Xg×Xg))} (h:¬ l=m):zcS l m=false:=by rw [<-Bool.not_eq_true,zfC];exact h
theorem zmY {w0:Xk} (x:It w0):∃ab nb cb ac nc cc ad nd cd ae ne ce,x.a=.int .i64 x.t.kind∧x.b=.slice ab nb cb∧x.c=.slice ac nc cc∧x.d=.slice ad nd cd∧x.e=.slice ae ne ce∧Byt w0 (.slice ab nb cb) x.t.name∧Byt w0 (.slice ac nc cc) x.t.text∧RdAttrs w0 (.slice ad nd cd) x.t.attrs:=by
 obtain⟨deep,a,b,c,d,e,m,t,rd⟩:=x
 obtain⟨_,_,_,_,e0,k1,k2,hb,hc,hd,he⟩:=rd
 simp only [List.cons.injEq,and_true]at e0
 obtain⟨rfl,rfl,rfl,rfl,rfl⟩:=e0
 obtain⟨ab,cb,rfl,_,_⟩:=hb.shape
 obtain⟨ac,cc,rfl,_,_⟩:=hc.shape
 obtain⟨ad,cd,rfl,_,_⟩:=Elems.shape hd
 obtain⟨ae,ce,rfl,_,_⟩:=Elems.shape he
 exact⟨_,_,_,_,_,_,_,_,_,_,_,_,rfl,rfl,rfl,rfl,rfl,hb,hc,hd⟩
set_option maxHeartbeats 3200000 in
theorem zlM (w0 w:Xk) (hW:Below w0.heap.size w0 w) (u v:Xl) (l m:List (It w0)) (hu:zfa w u l) (hv:zfa w v m) :
  Calls Tryz.prog 32 #[u,v,.func (.func 34) #[] #[]] w fun e w'=>e=.returned (.bool (zcS (l.map hdI) (m.map hdI)))∧Below w.heap.size w w':=by
 have pa:=hu.1
 unfold maxLen at pa
 obtain⟨au,cu,rfl,_,_⟩:=Elems.shape hu
 obtain⟨av,cv,rfl,_,_⟩:=Elems.shape hv
 by_cases hlen:l.length=m.length
 ·have d1:((l.length:Int) != (m.length:Int))=false:=by simp [hlen]
  have HL:=hide hlen
  have ja:(l.length:Int)<=9223372036854775807:=by omega
  generalize hn:l.length=n at *
  have HN:=hide hn
  have HM:Hid (m.length=n):=hide hlen.symm
  rw [<-hlen]at d1 hv
  rw [<-hlen]
  clear hlen hn HL
  go_enter Tryz.func32,Tryz.ntmps32
  go_wp2_with fail
  go_loopw [17] (fun i wr=>∃k:Nat,k<=n∧i=.int .i64 k∧(∀i,i<k->(l.map hdI)[i]? = (m.map hdI)[i]?)∧Below w.heap.size w wr) (fun i _=>n-(intOf i).toNat)
  case atStart=>exact⟨0,Nat.zero_le _,rfl,fun i hi=>by omega,Below.refl _ _⟩
  case round=>
   obtain⟨k,hk,rfl,ha,hB⟩:=hrel
   have HA:=hide ha
   clear ha
   by_cases hlt:k<n
   ·have Ua:k<l.length:=by rw [zaa HN];exact hlt
    have Ta:k<m.length:=by rw [zaa HM];exact hlt
    obtain⟨b,Ja,rfl,Ha,La,_,C,hC,hc,hr⟩:=hu.at Ua
    clear La
    obtain⟨b',Aa,rfl,Ba,La,_,C',qa,Ga,Ka⟩:=hv.at Ta
    clear La
    obtain⟨x,hx⟩:∃x,x=l[k]:=⟨_,rfl⟩
    obtain⟨y,hy⟩:∃y,y=m[k]:=⟨_,rfl⟩
    rw [<-hx]at hr
    rw [<-hy]at Ka
    obtain⟨ab,nb,cb,ac,nc,cc,ad,nd,cd,ae,ne,ce,ea,eb,ec,ed,ee,h0,h1,h2⟩:=zmY x
    obtain⟨ba,ka,da,ca,ma,fa,na,la,aa,Xa,Za,Wa,Ya,Qa,Ma,Pa,Ra,Sa,Va,Oa⟩:=zmY y
    unfold zpR at hr Ka
    rw [ea,eb,ec,ed,ee]at hr
    rw [Ya,Qa,Ma,Pa,Ra]at Ka
    subst hr Ka
    have HE:Hid ((l.map hdI)[k]? = (m.map hdI)[k]?↔hdI x=hdI y):=hide (by rw [List.getElem?_map,List.getElem?_map,List.getElem?_eq_getElem Ua,List.getElem?_eq_getElem Ta,<-hx,<-hy,Option.map_some,Option.map_some,Option.some.injEq])
    have e0:=(hB.cell (p:=⟨b,Ja+k*6,none⟩) Ha).trans (hc 0 (by omega))
    have e1:=(hB.cell (p:=⟨b,Ja+k*6+1,none⟩) Ha).trans (hc 1 (by omega))
    have e2:=(hB.cell (p:=⟨b,Ja+k*6+2,none⟩) Ha).trans (hc 2 (by omega))
    have e3:=(hB.cell (p:=⟨b,Ja+k*6+3,none⟩) Ha).trans (hc 3 (by omega))
    have e4:=(hB.cell (p:=⟨b,Ja+k*6+4,none⟩) Ha).trans (hc 4 (by omega))
    have e5:=(hB.cell (p:=⟨b,Ja+k*6+5,none⟩) Ha).trans (hc 5 (by omega))
    have Fa:Below wr.heap.size wr (wr.alloc (.cells #[.int .i64 x.deep,.int .i64 x.t.kind,.slice ab nb cb,.slice ac nc cc,.slice ad nd cd,.slice ae ne ce] 96)):=(Below.refl _ _).alloc (Nat.le_refl _) _
    have Ia:b' < wr.heap.size:=Nat.lt_of_lt_of_le Ba hB.size
    have z0:=(Fa.cell (p:=⟨b',Aa + k*6,none⟩) Ia).trans ((hB.cell (p:=⟨b',Aa + k*6,none⟩) Ba).trans (Ga 0 (by omega)))
    have z1:=(Fa.cell (p:=⟨b',Aa + k*6+1,none⟩) Ia).trans ((hB.cell (p:=⟨b',Aa + k*6+1,none⟩) Ba).trans (Ga 1 (by omega)))
    have z2:=(Fa.cell (p:=⟨b',Aa + k*6+2,none⟩) Ia).trans ((hB.cell (p:=⟨b',Aa + k*6+2,none⟩) Ba).trans (Ga 2 (by omega)))
    have z3:=(Fa.cell (p:=⟨b',Aa + k*6+3,none⟩) Ia).trans ((hB.cell (p:=⟨b',Aa + k*6+3,none⟩) Ba).trans (Ga 3 (by omega)))
    have z4:=(Fa.cell (p:=⟨b',Aa + k*6+4,none⟩) Ia).trans ((hB.cell (p:=⟨b',Aa + k*6+4,none⟩) Ba).trans (Ga 4 (by omega)))
    have z5:=(Fa.cell (p:=⟨b',Aa + k*6+5,none⟩) Ia).trans ((hB.cell (p:=⟨b',Aa + k*6+5,none⟩) Ba).trans (Ga 5 (by omega)))
    simp only [List.getElem?_cons_zero,List.getElem?_cons_succ]at e0 e1 e2 e3 e4 e5 z0 z1 z2 z3 z4 z5
    obtain⟨l1,l2,oa⟩:=two wr #[.int .i64 x.deep,.int .i64 x.t.kind,.slice ab nb cb,.slice ac nc cc,.slice ad nd cd,.slice ae ne ce] #[.int .i64 y.deep,.int .i64 y.t.kind,.slice ba ka da,.slice ca ma fa,.slice na la aa,.slice Xa Za Wa] 96 96
    have hA:=zam hB oa
    have Da:Below w0.heap.size w0 _:=hW.trans (hA.mono hW.size)
    have Ca:=zoV _ x.deep y.deep x.t.kind y.t.kind _ _ _ _ _ _ ae Xa ne ce Za Wa x.t.name y.t.name x.t.text y.t.text x.t.attrs y.t.attrs (h0.keep Da) (h1.keep Da) (h2.keep Da) (Sa.keep Da) (Va.keep Da) (Oa.keep Da)
    have HC:=hide Ca
    have ia:(k:Int)<(n:Int):=by omega
    clear Ca h0 h1 h2 Sa Va Oa hu hv hc Ga hx hy ea eb ec ed ee Ya Qa Ma Pa Ra Fa Da
    generalize hxd:x.deep=xd at *
    generalize hxk:x.t.kind=xk at *
    generalize hyd:y.deep=yd at *
    generalize hyk:y.t.kind=yk at *
    have HH:=hide (And.intro hxd (And.intro hxk (And.intro hyd hyk)))
    clear hxd hxk hyd hyk
    go_wp2_with fail
    refine (zaa HC).mono ?_
    rintro e w2 ⟨rfl,ga⟩
    have Na:=zam hA ga
    have HG:Hid (hdI x=(xd,xk,x.t.name,x.t.text,x.t.attrs)∧hdI y=(yd,yk,y.t.name,y.t.text,y.t.attrs)):=by
     obtain⟨q1,q2,q3,q4⟩:=zaa HH
     exact hide ⟨by unfold hdI;rw [q1,q2],by unfold hdI;rw [q3,q4]⟩
    clear e0 e1 e2 e3 e4 e5 z0 z1 z2 z3 z4 z5 l1 l2 HC
    by_cases hxy:(xd,xk,x.t.name,x.t.text,x.t.attrs)=(yd,yk,y.t.name,y.t.text,y.t.attrs)
    ·rw [show decide ((xd,xk,x.t.name,x.t.text,x.t.attrs)=(yd,yk,y.t.name,y.t.text,y.t.attrs))=true by rw [decide_eq_true_eq];exact hxy]
     have HS:=hide ((zaa HE).2 (by rw [(zaa HG).1,(zaa HG).2];exact hxy))
     clear hxy
     go_wp2_with fail
     go_roundw
     case rel=>exact⟨k+1,by omega,by go_num,fun i hi=>zgL (p:=fun i=>(l.map hdI)[i]? = (m.map hdI)[i]?) (zaa HA) (zaa HS) i hi,Na⟩
     case measure=>simp [intOf];omega
    ·rw [show decide ((xd,xk,x.t.name,x.t.text,x.t.attrs)=(yd,yk,y.t.name,y.t.text,y.t.attrs))=false by rw [decide_eq_false_iff_not];exact hxy]
     have HF:=hide (show zcS (l.map hdI) (m.map hdI)=false by
      refine zjM fun e=> ?_
      have:=(zaa HE).1 (by rw [e])
      rw [(zaa HG).1,(zaa HG).2]at this
      exact hxy this)
     clear hxy
     go_wp2_with fail
     go_ret
     exact⟨by rw [zaa HF];rfl,Na⟩
   ·have e:k=n:=by omega
    subst e
    have HF:=hide (show zcS (l.map hdI) (m.map hdI)=true by
     refine (zfC _ _).2 ?_
     exact zxG (by rw [List.length_map,List.length_map,zaa HN,zaa HM]) (by rw [List.length_map];exact (zaa HN).symm) (zaa HA))
    clear hu hv
    go_wp2_with fail
    go_ret
    exact⟨by rw [zaa HF];rfl,hB⟩
 ·have d1:((l.length:Int) != (m.length:Int))=true:=by rw [bne_iff_ne];omega
  have HE:=hide (show zcS (l.map hdI) (m.map hdI)=false by refine zjM fun e=> ?_;exact hlen (by have:=congrArg List.length e;simpa using this))
  clear hlen hu hv
  go_enter Tryz.func32,Tryz.ntmps32
  go_wp2_with fail
  go_ret
  exact⟨by rw [zaa HE];rfl,Below.refl _ _⟩
end Go.Proofs.YtgjolijncmkkhaaGreatDoor
namespace Go.Proofs.YtgjolijncmkkhaaGreatDoor
open Go.RowKit Go.Shelf
set_option linter.unusedVariables false
set_option maxRecDepth 100000
attribute [local go_sem] Oper.semAt_some
theorem zuC {α:Type} {f g:α->Nat}:∀(l:List α),(∀x∈l,f x<=g x+1)->(l.map f).sum<=l.length+(l.map g).sum
 | [],_=>by simp
 | x::l,h=>by
  have h1:=h x (by simp)
  have h2:=zuC l (fun y hy=>h y (by simp [hy]))
  simp only [List.map_cons,List.sum_cons,List.length_cons]
  omega
theorem zsj (w0:Xk):∀(n:Nat) (deep:Int) (C:Xj) (t:Tr n) (xs:List (It w0)),Pre w0 n deep C t xs->xs.length<=szT n t+1
 | 0,_,_,t,_,_=>t.elim
 | n+1,deep,C,t,xs,⟨a,b,c,d,e,rd,ks,_,hxs,hks,hel⟩=>by
  have h3:szT (n+1) t=t.name.length+t.text.length+szA t.attrs+(t.kids.length+(t.kids.map (szT n)).sum):=rfl
  have h4:(ks.map fun k=>k.2.length).sum<=ks.length+(ks.map fun k=>szT n k.1).sum:=zuC ks (fun k hk=>by
   obtain⟨D,hD⟩:=hel.mem k hk
   exact zsj w0 n (deep+1) D k.1 k.2 hD)
  have h5:ks.length=t.kids.length:=by rw [<-hks];simp
  have h6:(ks.map fun k=>szT n k.1).sum=(t.kids.map (szT n)).sum:=by rw [<-hks,List.map_map];rfl
  subst hxs
  simp only [List.length_cons,List.length_flatten,List.map_map]
  have h7:(ks.map (List.length ∘ fun x=>x.2)).sum=(ks.map fun k=>k.2.length).sum:=rfl
  omega
def six {w0:Xk} (x:It w0):Xj:=[.int .i64 x.deep,x.a,x.b,x.c,x.d,x.e]
def zko {w0:Xk} (l:List (It w0)):Xj:=(l.map six).flatten
theorem zsK {w0:Xk} (l:List (It w0)) (x:It w0):zko (l++[x])=zko l++six x:=by simp [zko]
theorem zxo {w0:Xk} {w:Xk} {base:Nat} {v:Xl} {l:List (It w0)} (h:w.ownsRow base 96 6 v l.length (zko l)) (hm:l.length<=maxLen):zfa w v l:=by
 refine OwElems.rd (R:=fun C x _=>zpR C x) (F:=FB v++(l.map fun _=>([]:Xh)).flatten) ⟨l.map six,l.map fun _=>[],by simp,by simp,fun i hi=> ?_,zpv h 0 (Nat.zero_le _),rfl⟩ hm (fun C x G h=>h)
 have e:(l.map six).getD i []=six l[i]:=by simp [hi]
 rw [e]
 exact⟨rfl,rfl⟩
theorem Tryz.info96:(Tryz.prog.info? 96).map (fun i=>(i.zero,i.size,i.bytes))=some (some (.agg #[.int .i64 0,.int .i64 0,.slice none 0 0,.slice none 0 0,.slice none 0 0,.slice none 0 0]),6,112):=by kernel_rfl
theorem zuG (w:Xk) (A1 A2 A3:Array Xl) (T1 T2 T3:Xm) (W:Xk) (hW:W=((w.alloc (.cells A1 T1)).alloc (.cells A2 T2)).alloc (.cells A3 T3)) :
  Loc W (w.heap.size+1) A2 T2∧Loc W (w.heap.size+1+1) A3 T3∧W.heap.size=w.heap.size+1+1+1∧Below w.heap.size w W:=by
 subst hW
 have m2:=Loc.made (w.alloc (.cells A1 T1)) A2 T2
 have m3:=Loc.made ((w.alloc (.cells A1 T1)).alloc (.cells A2 T2)) A3 T3
 simp only [World.size_alloc]at m2 m3
 exact⟨m2.alloc _,m3,by simp,(((Below.refl _ w).alloc (Nat.le_refl _) _).alloc (by simp) _).alloc (by simp;omega) _⟩
theorem zyD (V:Xk) (a b c d e f:Xl) (T:Xm):∀j u,[a,b,c,d,e,f][j]? = some u->(V.alloc (.cells #[a,b,c,d,e,f] T)).cell? ((⟨V.heap.size,0,none⟩:Addr).add j)=some u:=by
 intro j u h
 rw [zbd,Nat.zero_add,(Loc.made V #[a,b,c,d,e,f] T).cell j]
 simpa using h
theorem zlf {w:Xk} {base:Nat} {e:Xm} {size n:Nat} {v:Xl} {xs:Xj} (h:w.ownsRow base e size v n xs) {g:Nat} (hg:g<base):v.ownBlock≠some g:=fun e=>by have:=(h.lt g e).1;omega
theorem Loc.grown {W W':Xk} {g:Nat} {cs:Array Xl} {T:Xm} {row:Option Nat} (h:Loc W g cs T) (hg:W.grownBy W' row) (hn:row≠some g):Loc W' g cs T:=(hg.block g h.lt (fun e=>hn e.symm)).trans h
theorem zuT {w V V1 V2:Xk} {s:Nat} {row:Option Nat} (h:Below s w V) (h1:Below V.heap.size V V1) (hg:V1.grownBy V2 row) (hr:∀g,row=some g->s<=g) (hs:s<=w.heap.size):Below s w V2:=by
 have h2:Below s w V1:=h.trans (h1.mono (Nat.le_trans hs h.size))
 exact h2.grown hg (Nat.le_trans hs h2.size) hr
set_option maxHeartbeats 3200000 in
theorem zlh (k:Nat) (w0 w:Xk) (hW0:Below w0.heap.size w0 w) (a b c d e:Xl) (t:Tr (k+1)) (xs:List (It w0)) (hP:Pre w0 (k+1) 1 [a,b,c,d,e] t xs) (hsz:szT (k+1) t<=2097152) :
  Calls Tryz.prog 33 #[.agg #[a,b,c,d,e]] w fun e w'=>∃v,e=.returned v∧zfa w' v xs∧Below w.heap.size w w':=by
 have ga:=zsj w0 (k+1) 1 _ t xs hP
 have oa:xs.length<=2097153:=by omega
 clear ga
 obtain⟨z,ab,nb,cb,ac,nc,cc,ad,nd,cd,ae,ne,ce,hC⟩:=zcH (zpT hP)
 simp only [List.cons.injEq,and_true]at hC
 obtain⟨rfl,rfl,rfl,rfl,rfl⟩:=hC
 have HP:=hide hP
 clear hP
 obtain⟨i0,ea,ia,ja,aa⟩:=info_parts Tryz.info96
 refine (callsIn_wide (n:=5)).1 ?_
 refine callsIn_of_wp_marks Tryz.func33 rfl trivial ?_ rfl
 simp only [Tryz.ntmps33,List.size_toArray,List.length_cons,List.length_nil,Nat.reduceAdd,Nat.reduceSub,Array.replicate_succ,Array.replicate_zero,List.push_toArray,List.append_toArray,List.nil_append,List.cons_append]
 gi_wp2_with fail
 refine⟨trivial,?_⟩
 refine (callsIn_wide.2 (zjB _ _ _ _ _ _ _ _ _ _ _ _ _ _)).mono ?_
 rintro e W ⟨rfl,hW⟩
 obtain⟨l1,l2,fa,Za⟩:=zuG w _ _ _ _ _ _ W hW
 clear hW
 simp only [World.size_alloc]
 obtain⟨q1,q2,q3⟩:w.heap.size<w.heap.size+1∧w.heap.size+1<w.heap.size+1+1∧w.heap.size+1+1<W.heap.size:=by omega
 clear fa
 generalize w.heap.size+1+1=p2 at *
 generalize w.heap.size+1=p1 at *
 gi_wp2_with fail
 refine zns (gf:=62) (lb:= #[.pointer (some ⟨p2,0,none⟩)]) (Bx:=BxN) (Mt:=fun i o=>i=p1∨i=W.heap.size+1∨(W.heap.size+2<=i∧∃cs,o=.cells cs 96 (0,0))) (xs:=xs) (encs:=zfJ) rfl (enters_of Tryz.func62 (by kernel_rfl) rfl)
  (fun _=>.inr (.inl rfl)) (fun q o hq hb hm=>by
   obtain⟨cs,rfl⟩:=hb
   rcases hm with h | h | ⟨_,cs',h⟩
   ·omega
   ·omega
   ·injection h with _ h2;revert h2;decide)
  (zlI w0 W _ p2 k _ (fun i o hi hm=>by have:=hW0.size;rcases hm with h | h | ⟨h,_⟩<;>omega) _ _ _ _ _ t xs (zaa HP) hsz (hW0.trans (Za.mono hW0.size)) l2) (fun _=>rfl)
  (fun Da V=>∃v,Loc V p1 #[v] 94∧V.ownsRow (W.heap.size+2) 96 6 v Da.length (zko Da)∧Below w.heap.size w V)
  (fun Da V=>False)
  (fun Da A B row hs hg hr=>by
   obtain⟨v,h1,h2,h3⟩:=hs
   refine⟨v,h1.stay hg hr (by omega) (by omega),h2.kept hg ?_,zdd h3 (by omega) hg hr h3.size⟩
   by_cases hv:v.ownBlock=none
   ·exact .inl hv
   ·refine .inr fun e=> ?_
    obtain⟨g,Va⟩:=Option.ne_none_iff_exists'.1 hv
    have:=h2.lt g Va
    rcases hr g (by rw [<-e];exact Va)with h | h<;>omega)
  (fun Da A B row hs hg hr=>hs)
  ⟨_,l1,World.ownsRow_nil _ _ _ _,Za⟩
  (fun x a' V=>∃q,W.heap.size+1<q∧Loc V q #[x.a,x.b,x.c,x.d,x.e] 29∧a'={ tmps:= #[.agg #[.int .i64 z,.slice ab nb cb,.slice ac nc cc,.slice ad nd cd,.slice ae ne ce],.pointer (some ⟨w.heap.size,0,none⟩),.slice none 0 0,.pointer (some ⟨p1,0,none⟩),.int .i64 x.deep,.pointer (some ⟨q,0,none⟩),.agg #[.int .i64 z,.slice ab nb cb,.slice ac nc cc,.slice ad nd cd,.slice ae ne ce],.func (.func 62) #[] #[.pointer (some ⟨p2,0,none⟩)],.int .i64 x.deep,.agg #[x.a,x.b,x.c,x.d,x.e],undef,undef,undef,undef,undef,undef,undef],defers:=[] })
  (fun x a' u A B row hs hg hr=>by obtain⟨q,h1,h2,h3⟩:=hs;exact⟨q,h1,h2.stay hg hr (by omega) (by omega),h3⟩)
  ?assign ?body ?done ?stop
 case assign=>
  intro Da x V K hi ma hK
  obtain⟨deep,a,b,c,d,e,m,u,rd⟩:=x
  obtain⟨z,Ha,Ma,Ja,Ia,Oa,Ka,Qa,Na,Ga,Sa,Ta,Ra,hC⟩:=zcH rd
  simp only [List.cons.injEq,and_true]at hC
  obtain⟨rfl,rfl,rfl,rfl,rfl⟩:=hC
  simp only [zfJ]at hK ⊢
  gi_wp2
  exact hK _ _ ((Below.refl _ _).alloc (Nat.le_refl _) _) ⟨V.heap.size,by omega,Loc.made V _ _,rfl⟩
 case body=>
  rintro Da x a' V ⟨v,i1,iR,iB⟩ ⟨q,hq,lq,rfl⟩ ha la
  obtain⟨deep,a,b,c,d,e,m,u,rd⟩:=x
  obtain⟨z',Ha,Ma,Ja,Ia,Oa,Ka,Qa,Na,Ga,Sa,Ta,Ra,hC⟩:=zcH rd
  simp only [List.cons.injEq,and_true]at hC
  obtain⟨rfl,rfl,rfl,rfl,rfl⟩:=hC
  have pa:Da.length+1<=2097153:=by have:=ha.length_le;simp at this;omega
  have c1:V.cell? ⟨p1,0,none⟩=some v:=i1.cell 0
  simp only at lq
  obtain⟨x0,x1,x2,x3,x4⟩:=lq.five
  have f1:=i1.frozen 0
  gi_wp2_with (gi_at_builtin;refine wpListIn_append_own _ rfl _ _ 94 rfl (W.heap.size+2) 96 i0 (.agg #[.int .i64 0,.int .i64 0,.slice none 0 0,.slice none 0 0,.slice none 0 0,.slice none 0 0]) 6 112 Tryz.underlying94 ea ia ja aa rfl (by decide) _ _ _ rfl (iR.alloc _) ⟨V.heap.size,0,none⟩ 1 1 [.int .i64 deep,.int .i64 z',.slice Ha Ma Ja,.slice Ia Oa Ka,.slice Qa Na Ga,.slice Sa Ta Ra] rfl rfl (zyD V _ _ _ _ _ _ _) (by intro y hy;simp at hy;rcases hy with rfl | rfl | rfl | rfl | rfl | rfl<;>rfl) (by unfold maxLen;omega) (by omega) (by simp;omega) ?_;intro v' w1 Ca Ba ba;have Aa:World.grownBy _ w1 v.ownBlock:=Ba;clear Ba;obtain⟨g',La,rfl⟩:=ownsRow_succ Ca;have i2:=(i1.alloc _).grown Aa (zlf iR (by omega));have c2:w1.cell? ⟨p1,0,none⟩=some v:=i2.cell 0;have f2:=i2.frozen 0)
  have Fa:Below V.heap.size V (V.alloc (.cells #[.int .i64 deep,.int .i64 z',.slice Ha Ma Ja,.slice Ia Oa Ka,.slice Qa Na Ga,.slice Sa Ta Ra] 96)):=(Below.refl _ _).alloc (Nat.le_refl _) _
  have Ya:∀j,j<V.heap.size->j<W.heap.size+2->j≠p1->(w1.setCell ⟨p1,0,none⟩ (.slice (some ⟨g',0,none⟩) (Da.length+1) La)).heap[j]? = V.heap[j]? :=fun j hj da ca=>
   (heap_setCell_other w1 ⟨p1,0,none⟩ j _ ca).trans ((Aa.block j (by simp;omega) (fun e=>zlf iR da e.symm)).trans (Fa.block j hj))
  refine⟨⟨Ya _ (by omega) (by omega) (by omega),Ya _ (by omega) (by omega) (by omega)⟩,?_,_,i2.set 0 _,?_,?_⟩
  ·refine ((Frp.ofBelow Fa _).trans (Frp.ofFrm (Frm.ofGrown Aa) (fun g hg o ho=> ?_))).trans (Frp.ofFrm (Frm.set w1 p1 0 _) (fun g hg o _=>.inl (by simpa using hg)))
   have Xa:v.ownBlock=some g:=by simpa using hg
   obtain⟨Ua,Pa⟩:=zgt iR Xa
   have Wa:=iR.lt g Xa
   rw [Fa.block g Wa.2,Pa]at ho
   cases ho
   exact .inr (.inr ⟨Wa.1,Ua,rfl⟩)
  ·rw [zsK,List.length_append]
   exact Ca.kept (grownBy_setCell' w1 p1 _) (.inr (zlf Ca (by omega)))
  ·exact (zuT iB Fa Aa (fun g hg=>by have:=(iR.lt g hg).1;omega) (Nat.le_refl _)).setCell (p:=⟨p1,0,none⟩) (by show w.heap.size<=p1;omega) _
 case done=>
  rintro V ⟨v,i1,iR,iB⟩ hD
  have c1:V.cell? ⟨p1,0,none⟩=some v:=i1.cell 0
  have hv:∃g n c,v=.slice g n c:=by
   rcases iR.2 with ⟨rfl,_⟩ | ⟨g',na,Ua,rfl,_⟩
   ·exact⟨_,_,_,rfl⟩
   ·exact⟨_,_,_,rfl⟩
  obtain⟨g,n,c,rfl⟩:=hv
  gi_wp2
  refine⟨by simp,.inl ⟨_,_,rfl,run_takeDeferred hD,?_⟩⟩
  refine⟨_,results_tmp rfl _ _ _,_,rfl,zxo (base:=W.heap.size+2) (iR.kept (grownBy_putObj' _ _ _) ?_) (by unfold maxLen;omega),zdd iB (D:=W.heap.size) (by omega) (grownBy_putObj' _ _ _) (fun r e=>by cases e;exact .inl rfl) iB.size⟩
  exact .inr (zlf iR (by omega))
 case stop=>
  rintro Da V ka h hD
  exact h.elim
end Go.Proofs.YtgjolijncmkkhaaGreatDoor
namespace Go.Proofs.YtgjolijncmkkhaaGreatDoor
open Go.RowKit
set_option linter.unusedVariables false
set_option maxRecDepth 100000
def all2 {α β:Type} (f:α->β->Bool):List α->List β->Bool
 | [],[]=>true
 | a::l,b::m=>f a b && all2 f l m
 | _,_=>false
theorem zpZ {α:Type} {f:α->α->Bool} (h:∀a b,f a b=true↔a=b):∀l m:List α,all2 f l m=true↔l=m
 | [],[]=>by simp [all2]
 | [],_::_=>by simp [all2]
 | _::_,[]=>by simp [all2]
 | a::l,b::m=>by rw [all2,Bool.and_eq_true,h,zpZ h l m,List.cons.injEq]
def eqT:(n:Nat)->Tr n->Tr n->Bool
 | 0=>fun t _=>t.elim
 | n+1=>fun t u=>decide (t.kind=u.kind) && decide (t.name=u.name) && decide (t.text=u.text) && decide (t.attrs=u.attrs) && all2 (eqT n) t.kids u.kids
theorem zwR (n:Nat) (t u:Tr (n+1)):eqT (n+1) t u=(decide (t.kind=u.kind) && decide (t.name=u.name) && decide (t.text=u.text) && decide (t.attrs=u.attrs) && all2 (eqT n) t.kids u.kids):=rfl
theorem zuf {α:Type} {t u:Nd α} (h1:t.kind=u.kind) (h2:t.name=u.name) (h3:t.text=u.text) (h4:t.attrs=u.attrs) (h5:t.kids=u.kids):t=u:=by
 cases t;cases u;simp only at h1 h2 h3 h4 h5;subst h1 h2 h3 h4 h5;rfl
theorem zlU:∀(n:Nat) (t u:Tr n),eqT n t u=true↔t=u
 | 0,t,_=>t.elim
 | n+1,t,u=>by
  rw [zwR,Bool.and_eq_true,Bool.and_eq_true,Bool.and_eq_true,Bool.and_eq_true,decide_eq_true_eq,decide_eq_true_eq,decide_eq_true_eq,decide_eq_true_eq,zpZ (zlU n)]
  constructor
  ·rintro⟨⟨⟨⟨h1,h2⟩,h3⟩,h4⟩,h5⟩
   exact zuf h1 h2 h3 h4 h5
  ·intro h;subst h;exact⟨⟨⟨⟨rfl,rfl⟩,rfl⟩,rfl⟩,rfl⟩
theorem zsg {n:Nat} {t u:Tr n} (h:t=u):eqT n t u=true:=(zlU n t u).2 h
theorem zzq {n:Nat} {t u:Tr n} (h:¬ t=u):eqT n t u=false:=by rw [<-Bool.not_eq_true,zlU];exact h
def zen (n:Nat) (t u:Tr (n+1)):Bool:=okN n t && (okN n u && eqT (n+1) t u)
def hp:(n:Nat)->Int->Tr n->List (Int×Int×Xg×Xg×List (Xg×Xg))
 | 0=>fun _ _=>[]
 | n+1=>fun deep t=>(deep,t.kind,t.name,t.text,t.attrs)::(t.kids.map (hp n (deep+1))).flatten
theorem zbK (n:Nat) (deep:Int) (t:Tr (n+1)):hp (n+1) deep t=(deep,t.kind,t.name,t.text,t.attrs)::(t.kids.map (hp n (deep+1))).flatten:=rfl
theorem zoq (w0:Xk):∀(n:Nat) (deep:Int) (C:Xj) (t:Tr n) (xs:List (It w0)),Pre w0 n deep C t xs->xs.map hdI=hp n deep t
 | 0,_,_,t,_,_=>t.elim
 | n+1,deep,C,t,xs,⟨a,b,c,d,e,rd,ks,_,hxs,hks,hel⟩=>by
  subst hxs
  rw [List.map_cons,zbK,<-hks,List.map_flatten,List.map_map,List.map_map]
  congr 2
  apply List.map_congr_left
  intro k hk
  obtain⟨D,hD⟩:=hel.mem k hk
  exact zoq w0 n (deep+1) D k.1 k.2 hD
theorem zro:∀(n:Nat) (d:Int) (t:Tr n),∀y∈hp n d t,d<=y.1
 | 0,_,t,_,_=>t.elim
 | n+1,d,t,y,h=>by
  rw [zbK]at h
  rcases List.mem_cons.1 h with rfl | h'
  ·exact Int.le_refl _
  ·obtain⟨l,hl,hy⟩:=List.mem_flatten.1 h'
   obtain⟨u,_,rfl⟩:=List.mem_map.1 hl
   have:=zro n (d+1) u y hy
   omega
theorem zsb (n:Nat) (d:Int) (ks:List (Tr n)):∀y∈(ks.map (hp n (d+1))).flatten,d<y.1:=by
 intro y h
 obtain⟨l,hl,hy⟩:=List.mem_flatten.1 h
 obtain⟨u,_,rfl⟩:=List.mem_map.1 hl
 have:=zro n (d+1) u y hy
 omega
theorem zmv (n:Nat) (d:Int) (ks:List (Tr (n+1))):((ks.map (hp (n+1) d)).flatten).takeWhile (fun y=>decide (d<y.1))=[]:=by
 cases ks with
 | nil=>rfl
 | cons k ks=>rw [List.map_cons,List.flatten_cons,zbK,List.cons_append,List.takeWhile_cons];simp
theorem zjL {α:Type} {p:α->Bool}:∀(l m:List α),(∀y∈l,p y=true)->m.takeWhile p=[]->(l++m).takeWhile p=l
 | [],m,_,hm=>by simpa using hm
 | a::l,m,hl,hm=>by
  rw [List.cons_append,List.takeWhile_cons,hl a (by simp),if_pos rfl,zjL l m (fun y hy=>hl y (by simp [hy])) hm]
theorem zlo (n:Nat) (d:Int) (hn:∀t u:Tr (n+1),hp (n+1) d t=hp (n+1) d u->t=u):∀ks ls:List (Tr (n+1)),(ks.map (hp (n+1) d)).flatten=(ls.map (hp (n+1) d)).flatten->ks=ls
 | [],[],_=>rfl
 | [],l::ls,h=>by rw [List.map_cons,List.flatten_cons,zbK]at h;simp at h
 | k::ks,[],h=>by rw [List.map_cons,List.flatten_cons,zbK]at h;simp at h
 | k::ks,l::ls,h=>by
  rw [List.map_cons,List.flatten_cons,List.map_cons,List.flatten_cons]at h
  have h':=h
  rw [zbK,zbK,List.cons_append,List.cons_append,List.cons.injEq]at h'
  have e:=congrArg (List.takeWhile (fun y=>decide (d<y.1))) h'.2
  rw [zjL _ _ (fun y hy=>by simpa using zsb n d k.kids y hy) (zmv n d ks),zjL _ _ (fun y hy=>by simpa using zsb n d l.kids y hy) (zmv n d ls)]at e
  have Aa:hp (n+1) d k=hp (n+1) d l:=by rw [zbK,zbK,h'.1,e]
  rw [Aa]at h
  have:=zlo n d hn ks ls (List.append_cancel_left h)
  rw [hn k l Aa,this]
theorem zoG:∀(n:Nat) (d:Int) (t u:Tr n),hp n d t=hp n d u->t=u
 | 0,_,t,_,_=>t.elim
 | n+1,d,t,u,h=>by
  rw [zbK,zbK,List.cons.injEq]at h
  obtain⟨h1,h2⟩:=h
  have hk:t.kids=u.kids:=by
   cases n with
   | zero=>
    cases ht:t.kids with
    | nil=>
     cases hu:u.kids with
     | nil=>rfl
     | cons x _=>exact x.elim
    | cons x _=>exact x.elim
   | succ n=>exact zlo n (d+1) (zoG (n+1) (d+1)) t.kids u.kids h2
  simp only [Prod.mk.injEq]at h1
  exact zuf h1.2.1 h1.2.2.1 h1.2.2.2.1 h1.2.2.2.2 hk
theorem zAg (n:Nat) (d:Int) (t u:Tr n):zcS (hp n d t) (hp n d u)=eqT n t u:=by
 by_cases h:t=u
 ·subst h;rw [zsg rfl,(zfC _ _).2 rfl]
 ·rw [zzq h,zjM (fun e=>h (zoG n d t u e))]
theorem RdNode.shape5 {n:Nat} {w:Xk} {a b c d e:Xl} {t:Tr n} (h:RdNode n w [a,b,c,d,e] t):∃z ab nb cb ac nc cc ad nd cd ae ne ce,a=.int .i64 z∧b=.slice ab nb cb∧c=.slice ac nc cc∧d=.slice ad nd cd∧e=.slice ae ne ce:=by
 obtain⟨z,ab,nb,cb,ac,nc,cc,ad,nd,cd,ae,ne,ce,hC⟩:=zcH h
 simp only [List.cons.injEq,and_true]at hC
 exact⟨z,ab,nb,cb,ac,nc,cc,ad,nd,cd,ae,ne,ce,hC⟩
set_option maxHeartbeats 3200000 in
theorem zur (n:Nat) (w:Xk) (a b c d e a' b' c' d' e':Xl) (t u:Tr (n+1)) (h:RdNode (n+1) w [a,b,c,d,e] t) (h':RdNode (n+1) w [a',b',c',d',e'] u) (hs:szT (n+1) t<=2097152) (hs':szT (n+1) u<=2097152) :
  Calls Tryz.prog 13 #[.agg #[a,b,c,d,e],.agg #[a',b',c',d',e']] w fun e w'=>e=.returned (.bool (zen n t u))∧Below w.heap.size w w':=by
 obtain⟨z,ab,nb,cb,ac,nc,cc,ad,nd,cd,ae,ne,ce,rfl,rfl,rfl,rfl,rfl⟩:=h.shape5
 obtain⟨z',Da,Ia,Ga,Fa,Ka,Ha,La,Ja,Ca,Oa,Pa,Na,rfl,rfl,rfl,rfl,rfl⟩:=h'.shape5
 obtain⟨l1,l2,hB⟩:=two w #[.int .i64 z,.slice ab nb cb,.slice ac nc cc,.slice ad nd cd,.slice ae ne ce] #[.int .i64 z',.slice Da Ia Ga,.slice Fa Ka Ha,.slice La Ja Ca,.slice Oa Pa Na] 29 29
 go_enter Tryz.func13,Tryz.ntmps13
 go_wp2_with fail
 generalize (w.alloc (.cells #[.int .i64 z,.slice ab nb cb,.slice ac nc cc,.slice ad nd cd,.slice ae ne ce] 29)).alloc (.cells #[.int .i64 z',.slice Da Ia Ga,.slice Fa Ka Ha,.slice La Ja Ca,.slice Oa Pa Na] 29)=w1 at *
 have HA:Hid (∀W,Below w1.heap.size w1 W->Calls Tryz.prog 12 #[.agg #[.int .i64 z,.slice ab nb cb,.slice ac nc cc,.slice ad nd cd,.slice ae ne ce]] W fun e w'=>e=.returned (.bool (okN n t))∧Below W.heap.size W w'):=hide fun W hW=>zfE n W _ _ _ _ _ t ((h.keep hB).keep hW) hs
 have HB:Hid (∀W,Below w1.heap.size w1 W->Calls Tryz.prog 12 #[.agg #[.int .i64 z',.slice Da Ia Ga,.slice Fa Ka Ha,.slice La Ja Ca,.slice Oa Pa Na]] W fun e w'=>e=.returned (.bool (okN n u))∧Below W.heap.size W w'):=hide fun W hW=>zfE n W _ _ _ _ _ u ((h'.keep hB).keep hW) hs'
 obtain⟨xs,hP⟩:=zkj w (n+1) 1 _ t h
 obtain⟨ys,hQ⟩:=zkj w (n+1) 1 _ u h'
 have HC:Hid (∀W,Below w1.heap.size w1 W->Calls Tryz.prog 33 #[.agg #[.int .i64 z,.slice ab nb cb,.slice ac nc cc,.slice ad nd cd,.slice ae ne ce]] W fun e w'=>∃v,e=.returned v∧zfa w' v xs∧Below W.heap.size W w'):=hide fun W hW=>zlh n w W (zam hB hW) _ _ _ _ _ t xs hP hs
 have HD:Hid (∀W,Below w1.heap.size w1 W->Calls Tryz.prog 33 #[.agg #[.int .i64 z',.slice Da Ia Ga,.slice Fa Ka Ha,.slice La Ja Ca,.slice Oa Pa Na]] W fun e w'=>∃v,e=.returned v∧zfa w' v ys∧Below W.heap.size W w'):=hide fun W hW=>zlh n w W (zam hB hW) _ _ _ _ _ u ys hQ hs'
 have HQ:Hid (okN n t=true->okN n u=true->zcS (xs.map hdI) (ys.map hdI)=zen n t u):=hide fun h1 h2=>by
  rw [zoq w (n+1) 1 _ t xs hP,zoq w (n+1) 1 _ u ys hQ,zAg]
  unfold zen
  rw [h1,h2];simp
 have Ta:Hid (okN n t=false->zen n t u=false):=hide fun h1=>by unfold zen;rw [h1];rfl
 have Ra:Hid (okN n u=false->zen n t u=false):=hide fun h1=>by unfold zen;rw [h1];simp
 obtain⟨x0,x1,x2,x3,x4⟩:=l1.five
 obtain⟨y0,y1,y2,y3,y4⟩:=l2.five
 clear hP hQ h h' hs hs'
 have HW:=hide hB
 clear hB
 by_cases ht:okN n t=true
 ·by_cases hu:okN n u=true
  ·have HR:=hide (zaa HQ ht hu)
   rw [ht]at HA
   rw [hu]at HB
   clear ht hu HQ Ta Ra
   go_region_held3 (fun w'=>w'.cell? ⟨w.heap.size,0,none⟩=some (.int .i64 z)∧w'.cell? ⟨w.heap.size,1,none⟩=some (.slice ab nb cb)∧w'.cell? ⟨w.heap.size,2,none⟩=some (.slice ac nc cc)∧w'.cell? ⟨w.heap.size,3,none⟩=some (.slice ad nd cd)∧w'.cell? ⟨w.heap.size,4,none⟩=some (.slice ae ne ce)∧w'.cell? ⟨w.heap.size+1,0,none⟩=some (.int .i64 z')∧w'.cell? ⟨w.heap.size+1,1,none⟩=some (.slice Da Ia Ga)∧w'.cell? ⟨w.heap.size+1,2,none⟩=some (.slice Fa Ka Ha)∧w'.cell? ⟨w.heap.size+1,3,none⟩=some (.slice La Ja Ca)∧w'.cell? ⟨w.heap.size+1,4,none⟩=some (.slice Oa Pa Na))
    (first | exact⟨by assumption,by assumption,by assumption,by assumption,by assumption,by assumption,by assumption,by assumption,by assumption,by assumption⟩ | simp [*])
    (first
     | (go_at_call 12;refine (zaa HA _ ((Below.refl _ _).drew)).mono ?_;clear HA;rintro e w2 ⟨rfl,Ma⟩;have Aa:=zam ((Below.refl w1.heap.size w1).drew) Ma;obtain⟨x0,x1,x2,x3,x4⟩:=(l1.all Aa).five;obtain⟨y0,y1,y2,y3,y4⟩:=(l2.all Aa).five)
     | (go_at_call 12;refine (zaa HB _ Aa).mono ?_;clear HB;rintro e w3 ⟨rfl,Va⟩;have Ba:=zam Aa Va;obtain⟨x0,x1,x2,x3,x4⟩:=(l1.all Ba).five;obtain⟨y0,y1,y2,y3,y4⟩:=(l2.all Ba).five)
     | (go_at_call 33;refine (zaa HC _ Ba).mono ?_;clear HC;rintro e w4 ⟨v4,rfl,Za,ba⟩;have Qa:=zam Ba ba;obtain⟨x0,x1,x2,x3,x4⟩:=(l1.all Qa).five;obtain⟨y0,y1,y2,y3,y4⟩:=(l2.all Qa).five)
     | (go_at_call 33;refine (zaa HD _ Qa).mono ?_;clear HD;rintro e w5 ⟨v5,rfl,aa,Ya⟩;have Sa:=zam Qa Ya;obtain⟨x0,x1,x2,x3,x4⟩:=(l1.all Sa).five;obtain⟨y0,y1,y2,y3,y4⟩:=(l2.all Sa).five)
     | (go_at_call 32;refine (zlM w _ (zam (zaa HW) Sa) _ _ xs ys (Elems.keep Za Ya (fun _ _ _ h=>h)) aa).mono ?_;rintro e w6 ⟨rfl,ca⟩;have Wa:=zam Sa ca;obtain⟨x0,x1,x2,x3,x4⟩:=(l1.all Wa).five;obtain⟨y0,y1,y2,y3,y4⟩:=(l2.all Wa).five))
   all_goals
    go_wp2_with fail
    go_ret
    exact⟨by rw [<-zaa HR];rfl,zam (zaa HW) Wa⟩
  ·have Xa:okN n u=false:=by simpa using hu
   have HR:=hide (zaa Ra Xa)
   rw [ht]at HA
   rw [Xa]at HB
   clear ht hu Xa HC HD HQ Ta Ra
   go_region_with (first
    | (go_at_call 12;refine (zaa HA _ ((Below.refl _ _).drew)).mono ?_;clear HA;rintro e w2 ⟨rfl,Ma⟩;have Aa:=zam ((Below.refl w1.heap.size w1).drew) Ma;obtain⟨x0,x1,x2,x3,x4⟩:=(l1.all Aa).five;obtain⟨y0,y1,y2,y3,y4⟩:=(l2.all Aa).five)
    | (go_at_call 12;refine (zaa HB _ Aa).mono ?_;clear HB;rintro e w3 ⟨rfl,Va⟩;have Ba:=zam Aa Va;obtain⟨x0,x1,x2,x3,x4⟩:=(l1.all Ba).five;obtain⟨y0,y1,y2,y3,y4⟩:=(l2.all Ba).five))
   all_goals
    go_wp2_with fail
    go_ret
    exact⟨by rw [zaa HR];rfl,zam (zaa HW) Ba⟩
 ·have Ua:okN n t=false:=by simpa using ht
  have HR:=hide (zaa Ta Ua)
  rw [Ua]at HA
  clear ht Ua HB HC HD HQ Ta Ra
  go_region_with ((go_at_call 12;refine (zaa HA _ ((Below.refl _ _).drew)).mono ?_;rintro e w2 ⟨rfl,Ma⟩;have Aa:=zam ((Below.refl w1.heap.size w1).drew) Ma;obtain⟨x0,x1,x2,x3,x4⟩:=(l1.all Aa).five;obtain⟨y0,y1,y2,y3,y4⟩:=(l2.all Aa).five))
  all_goals
   go_wp2_with fail
   go_ret
   exact⟨by rw [zaa HR];rfl,zam (zaa HW) Aa⟩
end Go.Proofs.YtgjolijncmkkhaaGreatDoor
