/- Own texts joined: PlF, SetP, SetQ, SdM, SdB, SdI, OpsT, LesI, OpsM, PutV, L5fd, L5tk, L5ao, L5sa, L5do, L5sd, PlR, L5fo, QGr, OpsS, SFo, L5os, FoldM, PjM, PjK, PjS, FoY, EqB, SameA, SameP, SameL, HalfT, ToT2, ToT3, ToT4, ToT5, SameT, SameM, EqT, CntT, MkupT, Apart, LMark, BdO, TidyM, TidyF, TidyK, BdT. -/
import Derived.Test.YtgjolijncmkkhaaGreatDoorQa
import Derived.Test.YtgjolijncmkkhaaGreatDoorQb
import Derived.Test.YtgjolijncmkkhaaGreatDoorQc
import Derived.Test.YtgjolijncmkkhaaGreatDoorQe
import Derived.Test.YtgjolijncmkkhaaGreatDoorQf
import Derived.Test.YtgjolijncmkkhaaGreatDoorQp
import Derived.Deep.RegionHeld3
import Derived.WalkLawsBesides
import Derived.Deep.QuietTactic
import Derived.BigQuiet
import Derived.Deep.AppendLies
import Derived.Deep.Cut
import Derived.Deep.CutRange
namespace Go.Proofs.YtgjolijncmkkhaaGreatDoor
open Go.RowKit
set_option linter.unusedVariables false
set_option maxRecDepth 100000
theorem zfu {Fs:List (Xh)} {G:Xh} {i q:Nat} (h:q∈(Fs.set i G).flatten):q∈Fs.flatten∨q∈G:=by
 obtain⟨F,hF,hq⟩:=List.mem_flatten.1 h
 rcases List.mem_or_eq_of_mem_set hF with hF | rfl
 ·exact .inl (List.mem_flatten.2 ⟨F,hF,hq⟩)
 ·exact .inr hq
theorem zgE:∀{Fs:List (Xh)} {G:Xh} {i:Nat},Fs.flatten.Nodup->G.Nodup->(∀q∈G,q∈Fs.getD i []∨q∉Fs.flatten)->(Fs.set i G).flatten.Nodup
 | [],_,_,_,_,_=>by simp
 | F::Fs,G,0,h,hG,hd=>by
  rw [List.flatten_cons]at h
  have h':=List.nodup_append.1 h
  rw [List.set_cons_zero,List.flatten_cons]
  refine List.nodup_append.2 ⟨hG,h'.2.1,fun a ha b hb e=> ?_⟩
  subst e
  rcases hd a ha with h1 | h1
  ·exact h'.2.2 a (by simpa using h1) a hb rfl
  ·exact h1 (by rw [List.flatten_cons];exact List.mem_append_right _ hb)
 | F::Fs,G,i+1,h,hG,hd=>by
  rw [List.flatten_cons]at h
  have h':=List.nodup_append.1 h
  rw [List.set_cons_succ,List.flatten_cons]
  refine List.nodup_append.2 ⟨h'.1,zgE h'.2.1 hG (fun q hq=> ?_),fun a ha b hb e=> ?_⟩
  ·rcases hd q hq with h1 | h1
   ·exact .inl (by simpa using h1)
   ·exact .inr (fun Aa=>h1 (by rw [List.flatten_cons];exact List.mem_append_right _ Aa))
  ·subst e
   rcases zfu hb with hb | hb
   ·exact h'.2.2 a ha a hb rfl
   ·rcases hd a hb with h1 | h1
    ·exact h'.2.2 a ha a (zaH (by simpa using h1)) rfl
    ·exact h1 (by rw [List.flatten_cons];exact List.mem_append_left _ ha)
theorem zhj {l:Xg} (h:zat l):okB l:=fun x hx=>by
 obtain⟨i,hi,rfl⟩:=List.getElem_of_mem hx
 have h1:=h.2.2 i hi
 rw [zdC hi]at h1
 unfold zcR at h1
 omega
theorem zBA {l:List AtV} (h:zaC l):SrtA l:=by
 have hn:∀i (hi:i<l.length),zat l[i].1:=fun i hi=>by
  have h1:=(h.2 i hi).1
  rw [List.getD_eq_getElem?_getD,List.getElem?_eq_getElem hi]at h1
  exact h1
 have hs:∀i (hi:i+1<l.length),klB l[i].1 l[i+1].1=true:=fun i hi=>by
  have h1:=(h.2 (i+1) hi).2.2 (by omega)
  rw [show i+1-1=i by omega,List.getD_eq_getElem?_getD,List.getElem?_eq_getElem (show i<l.length by omega),List.getD_eq_getElem?_getD,List.getElem?_eq_getElem hi]at h1
  rw [<-zku (zhj (hn i (by omega))) (zhj (hn (i+1) hi))]
  exact h1
 refine List.pairwise_iff_getElem.2 (fun i j hi hj Aa=> ?_)
 obtain⟨d,rfl⟩:∃d,j=i+1+d:=⟨j-i-1,by omega⟩
 induction d with
 | zero=>exact hs i hj
 | succ d ih=>exact zgm (ih (by omega) (by omega)) (hs (i+1+d) hj)
end Go.Proofs.YtgjolijncmkkhaaGreatDoor
namespace Go.Proofs.YtgjolijncmkkhaaGreatDoor
set_option linter.unusedVariables false
end Go.Proofs.YtgjolijncmkkhaaGreatDoor
namespace Go.Proofs.YtgjolijncmkkhaaGreatDoor
open Go.RowKit
set_option linter.unusedVariables false
set_option maxRecDepth 100000
theorem zxO {l:List AtV} (hl:l.length<=4) (hg:∀x∈l,zat x.1∧zar x.2) (hs:SrtA l):zaC l:=by
 refine⟨hl,fun i hi=> ?_⟩
 unfold zda
 have e:l.getD i ([],[])=l[i]:=by simp [hi]
 rw [e]
 have h1:=hg l[i] (List.getElem_mem _)
 refine⟨h1.1,h1.2,fun h0=> ?_⟩
 have Aa:i-1<l.length:=by omega
 have e2:l.getD (i-1) ([],[])=l[i-1]:=by simp [Aa]
 rw [e2]
 have h2:=hg l[i-1] (List.getElem_mem _)
 have h3:=(List.pairwise_iff_getElem.1 hs) (i-1) i Aa hi (by omega)
 have h4:zfd l[i-1].1 l[i].1=klB l[i-1].1 l[i].1:=zku (zhj h2.1) (zhj h1.1)
 rw [h4]
 exact h3
theorem zdd (w:Xk) (u v:Xl) (a b:Xg) (hu:Byt w u a) (hv:Byt w v b) :
  Calls Tryz.prog 67 #[u,v] w fun e w'=>e=.returned (.bool (decide (a=b)))∧w'=w:=by
 have d1:=zbf w u a hu
 have d2:=zbf w v b hv
 have HB:=hide (zmX hu.1 hv.1)
 obtain⟨a1,k1,rfl,_⟩:=hu.shape
 obtain⟨a2,k2,rfl,_⟩:=hv.shape
 generalize str a=s at *
 generalize str b=t at *
 go_enter Tryz.func67,Tryz.ntmps67
 go_wp2
 go_ret
 exact⟨by rw [<-zaa HB];rfl,rfl⟩
theorem Loc.pair {w:Xk} {g:Nat} {a b:Xl} {T:Xm} (h:Loc w g #[a,b] T):w.cell? ⟨g,0,none⟩=some a∧w.cell? ⟨g,1,none⟩=some b:=⟨h.cell 0,h.cell 1⟩
set_option maxHeartbeats 1600000 in
theorem zpr (w:Xk) (a b a' b':Xl) (x y:Xg×Xg) (ha:Byt w a x.1) (hb:Byt w b x.2) (ha':Byt w a' y.1) (hb':Byt w b' y.2) :
  Calls Tryz.prog 69 #[.agg #[a,b],.agg #[a',b']] w fun e w'=>e=.returned (.bool (decide (x=y)))∧Below w.heap.size w w':=by
 obtain⟨p1,k1,rfl,_⟩:=ha.shape
 obtain⟨p2,k2,rfl,_⟩:=hb.shape
 obtain⟨q1,j1,rfl,_⟩:=ha'.shape
 obtain⟨q2,j2,rfl,_⟩:=hb'.shape
 obtain⟨l1,l2,hB⟩:=two w #[.slice p1 x.1.length k1,.slice p2 x.2.length k2] #[.slice q1 y.1.length j1,.slice q2 y.2.length j2] 132 132
 have HD:Hid ((x.1≠y.1->decide (x=y)=false)∧(x.1=y.1->decide (x=y)=decide (x.2=y.2))):=by
  obtain⟨x1,x2⟩:=x
  obtain⟨y1,y2⟩:=y
  refine⟨fun h=> ?_,fun h=> ?_⟩
  ·simp only [decide_eq_false_iff_not];intro e;exact h (congrArg Prod.fst e)
  ·simp only at h;subst h;simp
 generalize x.1.length=n1 at *
 generalize x.2.length=n2 at *
 generalize y.1.length=m1 at *
 generalize y.2.length=m2 at *
 go_enter Tryz.func69,Tryz.ntmps69
 go_wp2_with fail
 generalize (w.alloc (.cells #[.slice p1 n1 k1,.slice p2 n2 k2] 132)).alloc (.cells #[.slice q1 m1 j1,.slice q2 m2 j2] 132)=w1 at *
 refine (zdd w1 _ _ x.1 y.1 (ha.keep hB) (ha'.keep hB)).mono ?_
 rintro e w1 ⟨rfl,rfl⟩
 obtain⟨c0,c1⟩:=l1.pair
 obtain⟨d0,d1⟩:=l2.pair
 by_cases h1:x.1=y.1
 ·rw [show decide (x.1=y.1)=true by simpa using h1]
  have HE:=hide ((zaa HD).2 h1)
  clear h1
  go_wp2_with fail
  refine (zdd w1 _ _ x.2 y.2 (hb.keep hB) (hb'.keep hB)).mono ?_
  rintro e w1 ⟨rfl,rfl⟩
  go_wp2_with fail
  go_ret
  exact⟨by rw [zaa HE];rfl,hB⟩
 ·rw [show decide (x.1=y.1)=false by simpa using h1]
  have HE:=hide ((zaa HD).1 h1)
  clear h1
  go_wp2_with fail
  go_ret
  exact⟨by rw [zaa HE];rfl,hB⟩
theorem zzr {α:Type} {l m:List α} {k:Nat} (hl:l.length=m.length) (hk:k=l.length) (h:∀i,i<k->l[i]? = m[i]?):l=m:=by
 apply List.ext_getElem?
 intro i
 by_cases hi:i<k
 ·exact h i hi
 ·rw [List.getElem?_eq_none (by omega),List.getElem?_eq_none (by omega)]
set_option maxHeartbeats 3200000 in
theorem zmH (w:Xk) (u v:Xl) (l m:List (Xg×Xg)) (hu:RdAttrs w u l) (hv:RdAttrs w v m) :
  Calls Tryz.prog 68 #[u,v,.func (.func 69) #[] #[]] w fun e w'=>e=.returned (.bool (decide (l=m)))∧Below w.heap.size w w':=by
 have Ya:=hu.1
 unfold maxLen at Ya
 obtain⟨au,cu,rfl,_,_⟩:=Elems.shape hu
 obtain⟨av,cv,rfl,_,_⟩:=Elems.shape hv
 by_cases hlen:l.length=m.length
 ·have d1:((l.length:Int) != (m.length:Int))=false:=by simp [hlen]
  have HL:=hide hlen
  have Xa:(l.length:Int)<=9223372036854775807:=by omega
  generalize hn:l.length=n at *
  have HN:=hide hn
  have HM:Hid (m.length=n):=hide hlen.symm
  rw [<-hlen]at d1 hv
  rw [<-hlen]
  clear hlen hn HL
  go_enter Tryz.func68,Tryz.ntmps68
  go_wp2_with fail
  go_loopw [17] (fun i wr=>∃k:Nat,k<=n∧i=.int .i64 k∧(∀i,i<k->l[i]? = m[i]?)∧Below w.heap.size w wr) (fun i _=>n-(intOf i).toNat)
  case atStart=>exact⟨0,Nat.zero_le _,rfl,fun i hi=>by omega,Below.refl _ _⟩
  case round=>
   obtain⟨k,hk,rfl,ha,hB⟩:=hrel
   have HA:=hide ha
   clear ha
   by_cases hlt:k<n
   ·have Ra:k<l.length:=by rw [zaa HN];exact hlt
    have Qa:k<m.length:=by rw [zaa HM];exact hlt
    obtain⟨b,Ta,rfl,La,Ja,_,C,hC,hc,hr⟩:=hu.at Ra
    clear Ja
    obtain⟨b',Aa,rfl,Ba,Ja,_,C',aa,Ha,Ma⟩:=hv.at Qa
    clear Ja
    obtain⟨x,hx⟩:∃x,x=l[k]:=⟨_,rfl⟩
    obtain⟨y,hy⟩:∃y,y=m[k]:=⟨_,rfl⟩
    rw [<-hx]at hr
    rw [<-hy]at Ma
    obtain⟨v0,v1,rfl,h0,h1⟩:=hr
    obtain⟨ba,Za,rfl,Ga,Ia⟩:=Ma
    have e0:=(hB.cell (p:=⟨b,Ta+k*2,none⟩) La).trans (hc 0 (by omega))
    have e1:=(hB.cell (p:=⟨b,Ta+k*2+1,none⟩) La).trans (hc 1 (by omega))
    have Fa:=(hB.cell (p:=⟨b',Aa + k*2,none⟩) Ba).trans (Ha 0 (by omega))
    have Ka:=(hB.cell (p:=⟨b',Aa + k*2+1,none⟩) Ba).trans (Ha 1 (by omega))
    simp only [List.getElem?_cons_zero,List.getElem?_cons_succ]at e0 e1 Fa Ka
    obtain⟨p0,k0,rfl,_,_⟩:=h0.shape
    obtain⟨p1,k1,rfl,_,_⟩:=h1.shape
    obtain⟨Oa,Ua,rfl,_,_⟩:=Ga.shape
    obtain⟨Pa,Sa,rfl,_,_⟩:=Ia.shape
    have HE:Hid (l[k]? = m[k]?↔x=y):=hide (by rw [List.getElem?_eq_getElem Ra,List.getElem?_eq_getElem Qa,<-hx,<-hy,Option.some.injEq])
    clear hc Ha hx hy
    obtain⟨l1,l2,Da⟩:=two wr #[.slice p0 x.1.length k0,.slice p1 x.2.length k1] #[.slice Oa y.1.length Ua,.slice Pa y.2.length Sa] 132 132
    have hA:=zal hB Da
    have Ca:=zpr _ _ _ _ _ x y ((h0.keep hB).keep Da) ((h1.keep hB).keep Da) ((Ga.keep hB).keep Da) ((Ia.keep hB).keep Da)
    have HC:=hide Ca
    have Wa:(k:Int)<(n:Int):=by omega
    generalize x.1.length=n0 at *
    generalize x.2.length=n1 at *
    generalize y.1.length=m0 at *
    generalize y.2.length=m1 at *
    clear Ca h0 h1 Ga Ia hu hv
    have z0:(wr.alloc (.cells #[.slice p0 n0 k0,.slice p1 n1 k1] 132)).cell? ⟨b',Aa + k*2,none⟩=some (.slice Oa m0 Ua):=(((Below.refl wr.heap.size wr).alloc (Nat.le_refl _) _).cell (p:=⟨b',Aa + k*2,none⟩) (Nat.lt_of_lt_of_le Ba hB.size)).trans Fa
    have z1:(wr.alloc (.cells #[.slice p0 n0 k0,.slice p1 n1 k1] 132)).cell? ⟨b',Aa + k*2+1,none⟩=some (.slice Pa m1 Sa):=(((Below.refl wr.heap.size wr).alloc (Nat.le_refl _) _).cell (p:=⟨b',Aa + k*2+1,none⟩) (Nat.lt_of_lt_of_le Ba hB.size)).trans Ka
    clear Fa Ka
    go_wp2_with fail
    refine (zaa HC).mono ?_
    rintro e w2 ⟨rfl,Va⟩
    have Na:=zal hA Va
    by_cases hxy:x=y
    ·rw [show decide (x=y)=true by simpa using hxy]
     have HS:=hide ((zaa HE).2 hxy)
     clear hxy z0 z1 l1 l2
     go_wp2_with fail
     go_roundw
     case rel=>exact⟨k+1,by omega,by go_num,fun i hi=>zhg (p:=fun i=>l[i]? = m[i]?) (zaa HA) (zaa HS) i hi,Na⟩
     case measure=>simp [intOf];omega
    ·rw [show decide (x=y)=false by simpa using hxy]
     have HF:=hide (show decide (l=m)=false by
      simp only [decide_eq_false_iff_not]
      intro e
      exact hxy ((zaa HE).1 (by rw [e])))
     clear hxy z0 z1 l1 l2
     go_wp2_with fail
     go_ret
     exact⟨by rw [zaa HF];rfl,Na⟩
   ·have e:k=n:=by omega
    subst e
    have HF:=hide (show decide (l=m)=true by
     simp only [decide_eq_true_eq]
     exact zzr (by rw [zaa HN,zaa HM]) (zaa HN).symm (zaa HA))
    clear hu hv
    go_wp2_with fail
    go_ret
    exact⟨by rw [zaa HF];rfl,hB⟩
 ·have d1:((l.length:Int) != (m.length:Int))=true:=by rw [bne_iff_ne];omega
  have HE:=hide (show decide (l=m)=false by simp only [decide_eq_false_iff_not];intro e;exact hlen (by rw [e]))
  clear hlen hu hv
  go_enter Tryz.func68,Tryz.ntmps68
  go_wp2_with fail
  go_ret
  exact⟨by rw [zaa HE];rfl,Below.refl _ _⟩
theorem Loc.six {w:Xk} {g:Nat} {a b c d e f:Xl} {T:Xm} (h:Loc w g #[a,b,c,d,e,f] T) :
  w.cell? ⟨g,0,none⟩=some a∧w.cell? ⟨g,1,none⟩=some b∧w.cell? ⟨g,2,none⟩=some c∧w.cell? ⟨g,3,none⟩=some d∧w.cell? ⟨g,4,none⟩=some e∧w.cell? ⟨g,5,none⟩=some f:=
 ⟨h.cell 0,h.cell 1,h.cell 2,h.cell 3,h.cell 4,h.cell 5⟩
set_option maxHeartbeats 3200000 in
theorem zpZ (w:Xk) (dp dp' z z':Int) (b c d b' c' d':Xl) (ae ae':Xi) (ne ce ne' ce':Nat) (nm nm' tx tx':Xg) (ats ats':List (Xg×Xg))
  (hb:Byt w b nm) (hc:Byt w c tx) (hd:RdAttrs w d ats) (hb':Byt w b' nm') (hc':Byt w c' tx') (hd':RdAttrs w d' ats') :
  Calls Tryz.prog 34 #[.agg #[.int .i64 dp,.int .i64 z,b,c,d,.slice ae ne ce],.agg #[.int .i64 dp',.int .i64 z',b',c',d',.slice ae' ne' ce']] w fun e w'=>
   e=.returned (.bool (decide ((dp,z,nm,tx,ats)=(dp',z',nm',tx',ats'))))∧Below w.heap.size w w':=by
 have HD:Hid ((dp≠dp'->decide ((dp,z,nm,tx,ats)=(dp',z',nm',tx',ats'))=false)∧(z≠z'->decide ((dp,z,nm,tx,ats)=(dp',z',nm',tx',ats'))=false)∧(nm≠nm'->decide ((dp,z,nm,tx,ats)=(dp',z',nm',tx',ats'))=false)∧(tx≠tx'->decide ((dp,z,nm,tx,ats)=(dp',z',nm',tx',ats'))=false)∧(dp=dp'->z=z'->nm=nm'->tx=tx'->decide ((dp,z,nm,tx,ats)=(dp',z',nm',tx',ats'))=decide (ats=ats'))):=by
  refine hide ⟨fun h=> ?_,fun h=> ?_,fun h=> ?_,fun h=> ?_,fun h1 h2 h3 h4=> ?_⟩
  ·simp [h]
  ·simp [h]
  ·simp [h]
  ·simp [h]
  ·simp [h1,h2,h3,h4]
 obtain⟨ab,cb,rfl,_⟩:=hb.shape
 obtain⟨ac,cc,rfl,_⟩:=hc.shape
 obtain⟨ad,cd,rfl,_⟩:=Elems.shape hd
 obtain⟨Ba,Fa,rfl,_⟩:=hb'.shape
 obtain⟨Da,Ga,rfl,_⟩:=hc'.shape
 obtain⟨Ca,Aa,rfl,_⟩:=Elems.shape hd'
 generalize nm.length=nb at *
 generalize tx.length=nc at *
 generalize ats.length=nd at *
 generalize nm'.length=nb' at *
 generalize tx'.length=nc' at *
 generalize ats'.length=nd' at *
 obtain⟨l1,l2,hB⟩:=two w #[.int .i64 dp,.int .i64 z,.slice ab nb cb,.slice ac nc cc,.slice ad nd cd,.slice ae ne ce] #[.int .i64 dp',.int .i64 z',.slice Ba nb' Fa,.slice Da nc' Ga,.slice Ca nd' Aa,.slice ae' ne' ce'] 96 96
 by_cases h0:dp=dp'
 ·have d0:(dp == dp')=true:=by simpa using h0
  have H0:=hide h0
  clear h0
  by_cases h1:z=z'
  ·have d1:(z == z')=true:=by simpa using h1
   have H1:=hide h1
   clear h1
   go_enter Tryz.func34,Tryz.ntmps34
   go_wp2_with fail
   generalize (w.alloc (.cells #[.int .i64 dp,.int .i64 z,.slice ab nb cb,.slice ac nc cc,.slice ad nd cd,.slice ae ne ce] 96)).alloc (.cells #[.int .i64 dp',.int .i64 z',.slice Ba nb' Fa,.slice Da nc' Ga,.slice Ca nd' Aa,.slice ae' ne' ce'] 96)=w1 at *
   refine (zdd w1 _ _ nm nm' (hb.keep hB) (hb'.keep hB)).mono ?_
   rintro e w1 ⟨rfl,rfl⟩
   obtain⟨x0,x1,x2,x3,x4,x5⟩:=l1.six
   obtain⟨y0,y1,y2,y3,y4,y5⟩:=l2.six
   by_cases h2:nm=nm'
   ·rw [show decide (nm=nm')=true by simpa using h2]
    have H2:=hide h2
    clear h2
    go_wp2_with fail
    refine (zdd w1 _ _ tx tx' (hc.keep hB) (hc'.keep hB)).mono ?_
    rintro e w1 ⟨rfl,rfl⟩
    by_cases h3:tx=tx'
    ·rw [show decide (tx=tx')=true by simpa using h3]
     have HE:=hide ((zaa HD).2.2.2.2 (zaa H0) (zaa H1) (zaa H2) h3)
     clear h3
     go_wp2_with fail
     refine (zmH w1 _ _ ats ats' (hd.keep hB) (hd'.keep hB)).mono ?_
     rintro e w2 ⟨rfl,Ha⟩
     go_wp2_with fail
     go_ret
     exact⟨by rw [zaa HE];rfl,zal hB Ha⟩
    ·rw [show decide (tx=tx')=false by simpa using h3]
     have HE:=hide ((zaa HD).2.2.2.1 h3)
     clear h3
     go_wp2_with fail
     go_ret
     exact⟨by rw [zaa HE];rfl,hB⟩
   ·rw [show decide (nm=nm')=false by simpa using h2]
    have HE:=hide ((zaa HD).2.2.1 h2)
    clear h2
    go_wp2_with fail
    go_ret
    exact⟨by rw [zaa HE];rfl,hB⟩
  ·have d1:(z == z')=false:=by simpa using h1
   have HE:=hide ((zaa HD).2.1 h1)
   clear h1
   go_enter Tryz.func34,Tryz.ntmps34
   go_wp2_with fail
   go_ret
   exact⟨by rw [zaa HE];rfl,hB⟩
 ·have d0:(dp == dp')=false:=by simpa using h0
  have HE:=hide ((zaa HD).1 h0)
  clear h0
  go_enter Tryz.func34,Tryz.ntmps34
  go_wp2_with fail
  go_ret
  exact⟨by rw [zaa HE];rfl,hB⟩
def zqS {w0:Xk} (C:Xj) (x:It w0):Prop:=C=[.int .i64 x.deep,x.a,x.b,x.c,x.d,x.e]
def zfo {w0:Xk} (w:Xk) (v:Xl) (l:List (It w0)):Prop:=Elems w 6 v l zqS
def hdI {w0:Xk} (x:It w0):Int×Int×Xg×Xg×List (Xg×Xg):=(x.deep,x.t.kind,x.t.name,x.t.text,x.t.attrs)
def eqHd (a b:Int×Int×Xg×Xg×List (Xg×Xg)):Bool:=decide (a.1=b.1) && decide (a.2.1=b.2.1) && decide (a.2.2.1=b.2.2.1) && decide (a.2.2.2.1=b.2.2.2.1) && decide (a.2.2.2.2=b.2.2.2.2)
theorem zxL (a b:Int×Int×Xg×Xg×List (Xg×Xg)):eqHd a b=true↔a=b:=by
 obtain⟨a1,a2,a3,a4,a5⟩:=a
 obtain⟨b1,b2,b3,b4,b5⟩:=b
 unfold eqHd
 rw [Bool.and_eq_true,Bool.and_eq_true,Bool.and_eq_true,Bool.and_eq_true,decide_eq_true_eq,decide_eq_true_eq,decide_eq_true_eq,decide_eq_true_eq,decide_eq_true_eq]
 constructor
 ·rintro⟨⟨⟨⟨h1,h2⟩,h3⟩,h4⟩,h5⟩
  simp only at h1 h2 h3 h4 h5
  subst h1 h2 h3 h4 h5
  rfl
 ·intro h
  cases h
  exact⟨⟨⟨⟨rfl,rfl⟩,rfl⟩,rfl⟩,rfl⟩
def zdb:List (Int×Int×Xg×Xg×List (Xg×Xg))->List (Int×Int×Xg×Xg×List (Xg×Xg))->Bool
 | [],[]=>true
 | a::l,b::m=>eqHd a b && zdb l m
 | _,_=>false
theorem zfW:∀l m,zdb l m=true↔l=m
 | [],[]=>by simp [zdb]
 | [],_::_=>by simp [zdb]
 | _::_,[]=>by simp [zdb]
 | a::l,b::m=>by rw [zdb,Bool.and_eq_true,zxL,zfW l m,List.cons.injEq]
theorem zkk {l m:List (Int×Int×Xg×Xg×List (Xg×Xg))} (h:¬ l=m):zdb l m=false:=by rw [<-Bool.not_eq_true,zfW];exact h
theorem znM {w0:Xk} (x:It w0):∃ab nb cb ac nc cc ad nd cd ae ne ce,x.a=.int .i64 x.t.kind∧x.b=.slice ab nb cb∧x.c=.slice ac nc cc∧x.d=.slice ad nd cd∧x.e=.slice ae ne ce∧Byt w0 (.slice ab nb cb) x.t.name∧Byt w0 (.slice ac nc cc) x.t.text∧RdAttrs w0 (.slice ad nd cd) x.t.attrs:=by
 obtain⟨deep,a,b,c,d,e,m,t,rd⟩:=x
 obtain⟨_,_,_,_,e0,k1,k2,hb,hc,hd,he⟩:=rd
 simp only [List.cons.injEq,and_true]at e0
 obtain⟨rfl,rfl,rfl,rfl,rfl⟩:=e0
 obtain⟨ab,cb,rfl,_,_⟩:=hb.shape
 obtain⟨ac,cc,rfl,_,_⟩:=hc.shape
 obtain⟨ad,cd,rfl,_,_⟩:=Elems.shape hd
 obtain⟨ae,ce,rfl,_,_⟩:=Elems.shape he
 exact⟨_,_,_,_,_,_,_,_,_,_,_,_,rfl,rfl,rfl,rfl,rfl,hb,hc,hd⟩
set_option maxHeartbeats 3200000 in
theorem zmu (w0 w:Xk) (hW:Below w0.heap.size w0 w) (u v:Xl) (l m:List (It w0)) (hu:zfo w u l) (hv:zfo w v m) :
  Calls Tryz.prog 32 #[u,v,.func (.func 34) #[] #[]] w fun e w'=>e=.returned (.bool (zdb (l.map hdI) (m.map hdI)))∧Below w.heap.size w w':=by
 have pa:=hu.1
 unfold maxLen at pa
 obtain⟨au,cu,rfl,_,_⟩:=Elems.shape hu
 obtain⟨av,cv,rfl,_,_⟩:=Elems.shape hv
 by_cases hlen:l.length=m.length
 ·have d1:((l.length:Int) != (m.length:Int))=false:=by simp [hlen]
  have HL:=hide hlen
  have ja:(l.length:Int)<=9223372036854775807:=by omega
  generalize hn:l.length=n at *
  have HN:=hide hn
  have HM:Hid (m.length=n):=hide hlen.symm
  rw [<-hlen]at d1 hv
  rw [<-hlen]
  clear hlen hn HL
  go_enter Tryz.func32,Tryz.ntmps32
  go_wp2_with fail
  go_loopw [17] (fun i wr=>∃k:Nat,k<=n∧i=.int .i64 k∧(∀i,i<k->(l.map hdI)[i]? = (m.map hdI)[i]?)∧Below w.heap.size w wr) (fun i _=>n-(intOf i).toNat)
  case atStart=>exact⟨0,Nat.zero_le _,rfl,fun i hi=>by omega,Below.refl _ _⟩
  case round=>
   obtain⟨k,hk,rfl,ha,hB⟩:=hrel
   have HA:=hide ha
   clear ha
   by_cases hlt:k<n
   ·have Ua:k<l.length:=by rw [zaa HN];exact hlt
    have Ta:k<m.length:=by rw [zaa HM];exact hlt
    obtain⟨b,Ja,rfl,Ha,La,_,C,hC,hc,hr⟩:=hu.at Ua
    clear La
    obtain⟨b',Aa,rfl,Ba,La,_,C',qa,Ga,Ka⟩:=hv.at Ta
    clear La
    obtain⟨x,hx⟩:∃x,x=l[k]:=⟨_,rfl⟩
    obtain⟨y,hy⟩:∃y,y=m[k]:=⟨_,rfl⟩
    rw [<-hx]at hr
    rw [<-hy]at Ka
    obtain⟨ab,nb,cb,ac,nc,cc,ad,nd,cd,ae,ne,ce,ea,eb,ec,ed,ee,h0,h1,h2⟩:=znM x
    obtain⟨ba,ka,da,ca,ma,fa,na,la,aa,Xa,Za,Wa,Ya,Qa,Ma,Pa,Ra,Sa,Va,Oa⟩:=znM y
    unfold zqS at hr Ka
    rw [ea,eb,ec,ed,ee]at hr
    rw [Ya,Qa,Ma,Pa,Ra]at Ka
    subst hr Ka
    have HE:Hid ((l.map hdI)[k]? = (m.map hdI)[k]?↔hdI x=hdI y):=hide (by rw [List.getElem?_map,List.getElem?_map,List.getElem?_eq_getElem Ua,List.getElem?_eq_getElem Ta,<-hx,<-hy,Option.map_some,Option.map_some,Option.some.injEq])
    have e0:=(hB.cell (p:=⟨b,Ja+k*6,none⟩) Ha).trans (hc 0 (by omega))
    have e1:=(hB.cell (p:=⟨b,Ja+k*6+1,none⟩) Ha).trans (hc 1 (by omega))
    have e2:=(hB.cell (p:=⟨b,Ja+k*6+2,none⟩) Ha).trans (hc 2 (by omega))
    have e3:=(hB.cell (p:=⟨b,Ja+k*6+3,none⟩) Ha).trans (hc 3 (by omega))
    have e4:=(hB.cell (p:=⟨b,Ja+k*6+4,none⟩) Ha).trans (hc 4 (by omega))
    have e5:=(hB.cell (p:=⟨b,Ja+k*6+5,none⟩) Ha).trans (hc 5 (by omega))
    have Fa:Below wr.heap.size wr (wr.alloc (.cells #[.int .i64 x.deep,.int .i64 x.t.kind,.slice ab nb cb,.slice ac nc cc,.slice ad nd cd,.slice ae ne ce] 96)):=(Below.refl _ _).alloc (Nat.le_refl _) _
    have Ia:b' < wr.heap.size:=Nat.lt_of_lt_of_le Ba hB.size
    have z0:=(Fa.cell (p:=⟨b',Aa + k*6,none⟩) Ia).trans ((hB.cell (p:=⟨b',Aa + k*6,none⟩) Ba).trans (Ga 0 (by omega)))
    have z1:=(Fa.cell (p:=⟨b',Aa + k*6+1,none⟩) Ia).trans ((hB.cell (p:=⟨b',Aa + k*6+1,none⟩) Ba).trans (Ga 1 (by omega)))
    have z2:=(Fa.cell (p:=⟨b',Aa + k*6+2,none⟩) Ia).trans ((hB.cell (p:=⟨b',Aa + k*6+2,none⟩) Ba).trans (Ga 2 (by omega)))
    have z3:=(Fa.cell (p:=⟨b',Aa + k*6+3,none⟩) Ia).trans ((hB.cell (p:=⟨b',Aa + k*6+3,none⟩) Ba).trans (Ga 3 (by omega)))
    have z4:=(Fa.cell (p:=⟨b',Aa + k*6+4,none⟩) Ia).trans ((hB.cell (p:=⟨b',Aa + k*6+4,none⟩) Ba).trans (Ga 4 (by omega)))
    have z5:=(Fa.cell (p:=⟨b',Aa + k*6+5,none⟩) Ia).trans ((hB.cell (p:=⟨b',Aa + k*6+5,none⟩) Ba).trans (Ga 5 (by omega)))
    simp only [List.getElem?_cons_zero,List.getElem?_cons_succ]at e0 e1 e2 e3 e4 e5 z0 z1 z2 z3 z4 z5
    obtain⟨l1,l2,oa⟩:=two wr #[.int .i64 x.deep,.int .i64 x.t.kind,.slice ab nb cb,.slice ac nc cc,.slice ad nd cd,.slice ae ne ce] #[.int .i64 y.deep,.int .i64 y.t.kind,.slice ba ka da,.slice ca ma fa,.slice na la aa,.slice Xa Za Wa] 96 96
    have hA:=zal hB oa
    have Da:Below w0.heap.size w0 _:=hW.trans (hA.mono hW.size)
    have Ca:=zpZ _ x.deep y.deep x.t.kind y.t.kind _ _ _ _ _ _ ae Xa ne ce Za Wa x.t.name y.t.name x.t.text y.t.text x.t.attrs y.t.attrs (h0.keep Da) (h1.keep Da) (h2.keep Da) (Sa.keep Da) (Va.keep Da) (Oa.keep Da)
    have HC:=hide Ca
    have ia:(k:Int)<(n:Int):=by omega
    clear Ca h0 h1 h2 Sa Va Oa hu hv hc Ga hx hy ea eb ec ed ee Ya Qa Ma Pa Ra Fa Da
    generalize hxd:x.deep=xd at *
    generalize hxk:x.t.kind=xk at *
    generalize hyd:y.deep=yd at *
    generalize hyk:y.t.kind=yk at *
    have HH:=hide (And.intro hxd (And.intro hxk (And.intro hyd hyk)))
    clear hxd hxk hyd hyk
    go_wp2_with fail
    refine (zaa HC).mono ?_
    rintro e w2 ⟨rfl,ga⟩
    have Na:=zal hA ga
    have HG:Hid (hdI x=(xd,xk,x.t.name,x.t.text,x.t.attrs)∧hdI y=(yd,yk,y.t.name,y.t.text,y.t.attrs)):=by
     obtain⟨q1,q2,q3,q4⟩:=zaa HH
     exact hide ⟨by unfold hdI;rw [q1,q2],by unfold hdI;rw [q3,q4]⟩
    clear e0 e1 e2 e3 e4 e5 z0 z1 z2 z3 z4 z5 l1 l2 HC
    by_cases hxy:(xd,xk,x.t.name,x.t.text,x.t.attrs)=(yd,yk,y.t.name,y.t.text,y.t.attrs)
    ·rw [show decide ((xd,xk,x.t.name,x.t.text,x.t.attrs)=(yd,yk,y.t.name,y.t.text,y.t.attrs))=true by rw [decide_eq_true_eq];exact hxy]
     have HS:=hide ((zaa HE).2 (by rw [(zaa HG).1,(zaa HG).2];exact hxy))
     clear hxy
     go_wp2_with fail
     go_roundw
     case rel=>exact⟨k+1,by omega,by go_num,fun i hi=>zhg (p:=fun i=>(l.map hdI)[i]? = (m.map hdI)[i]?) (zaa HA) (zaa HS) i hi,Na⟩
     case measure=>simp [intOf];omega
    ·rw [show decide ((xd,xk,x.t.name,x.t.text,x.t.attrs)=(yd,yk,y.t.name,y.t.text,y.t.attrs))=false by rw [decide_eq_false_iff_not];exact hxy]
     have HF:=hide (show zdb (l.map hdI) (m.map hdI)=false by
      refine zkk fun e=> ?_
      have:=(zaa HE).1 (by rw [e])
      rw [(zaa HG).1,(zaa HG).2]at this
      exact hxy this)
     clear hxy
     go_wp2_with fail
     go_ret
     exact⟨by rw [zaa HF];rfl,Na⟩
   ·have e:k=n:=by omega
    subst e
    have HF:=hide (show zdb (l.map hdI) (m.map hdI)=true by
     refine (zfW _ _).2 ?_
     exact zzr (by rw [List.length_map,List.length_map,zaa HN,zaa HM]) (by rw [List.length_map];exact (zaa HN).symm) (zaa HA))
    clear hu hv
    go_wp2_with fail
    go_ret
    exact⟨by rw [zaa HF];rfl,hB⟩
 ·have d1:((l.length:Int) != (m.length:Int))=true:=by rw [bne_iff_ne];omega
  have HE:=hide (show zdb (l.map hdI) (m.map hdI)=false by refine zkk fun e=> ?_;exact hlen (by have:=congrArg List.length e;simpa using this))
  clear hlen hu hv
  go_enter Tryz.func32,Tryz.ntmps32
  go_wp2_with fail
  go_ret
  exact⟨by rw [zaa HE];rfl,Below.refl _ _⟩
theorem Tryz.info132:(Tryz.prog.info? 132).map (fun i=>(i.zero,i.size,i.bytes))=some (some (.agg #[.slice none 0 0,.slice none 0 0]),2,48):=by kernel_rfl
theorem Tryz.info29:(Tryz.prog.info? 29).map (fun i=>(i.zero,i.size,i.bytes))=some (some (.agg #[.int .i64 0,.slice none 0 0,.slice none 0 0,.slice none 0 0,.slice none 0 0]),5,104):=by kernel_rfl
def all2 {α β:Type} (f:α->β->Bool):List α->List β->Bool
 | [],[]=>true
 | a::l,b::m=>f a b && all2 f l m
 | _,_=>false
theorem zra {α:Type} {f:α->α->Bool} (h:∀a b,f a b=true↔a=b):∀l m:List α,all2 f l m=true↔l=m
 | [],[]=>by simp [all2]
 | [],_::_=>by simp [all2]
 | _::_,[]=>by simp [all2]
 | a::l,b::m=>by rw [all2,Bool.and_eq_true,h,zra h l m,List.cons.injEq]
def eqT:(n:Nat)->Tr n->Tr n->Bool
 | 0=>fun t _=>t.elim
 | n+1=>fun t u=>decide (t.kind=u.kind) && decide (t.name=u.name) && decide (t.text=u.text) && decide (t.attrs=u.attrs) && all2 (eqT n) t.kids u.kids
theorem zyv (n:Nat) (t u:Tr (n+1)):eqT (n+1) t u=(decide (t.kind=u.kind) && decide (t.name=u.name) && decide (t.text=u.text) && decide (t.attrs=u.attrs) && all2 (eqT n) t.kids u.kids):=rfl
theorem zvA {α:Type} {t u:Nd α} (h1:t.kind=u.kind) (h2:t.name=u.name) (h3:t.text=u.text) (h4:t.attrs=u.attrs) (h5:t.kids=u.kids):t=u:=by
 cases t;cases u;simp only at h1 h2 h3 h4 h5;subst h1 h2 h3 h4 h5;rfl
theorem zmD:∀(n:Nat) (t u:Tr n),eqT n t u=true↔t=u
 | 0,t,_=>t.elim
 | n+1,t,u=>by
  rw [zyv,Bool.and_eq_true,Bool.and_eq_true,Bool.and_eq_true,Bool.and_eq_true,decide_eq_true_eq,decide_eq_true_eq,decide_eq_true_eq,decide_eq_true_eq,zra (zmD n)]
  constructor
  ·rintro⟨⟨⟨⟨h1,h2⟩,h3⟩,h4⟩,h5⟩
   exact zvA h1 h2 h3 h4 h5
  ·intro h;subst h;exact⟨⟨⟨⟨rfl,rfl⟩,rfl⟩,rfl⟩,rfl⟩
theorem ztq {n:Nat} {t u:Tr n} (h:t=u):eqT n t u=true:=(zmD n t u).2 h
theorem zBk {n:Nat} {t u:Tr n} (h:¬ t=u):eqT n t u=false:=by rw [<-Bool.not_eq_true,zmD];exact h
def zey (n:Nat) (t u:Tr (n+1)):Bool:=okN n t && (okN n u && eqT (n+1) t u)
def hp:(n:Nat)->Int->Tr n->List (Int×Int×Xg×Xg×List (Xg×Xg))
 | 0=>fun _ _=>[]
 | n+1=>fun deep t=>(deep,t.kind,t.name,t.text,t.attrs)::(t.kids.map (hp n (deep+1))).flatten
theorem zbT (n:Nat) (deep:Int) (t:Tr (n+1)):hp (n+1) deep t=(deep,t.kind,t.name,t.text,t.attrs)::(t.kids.map (hp n (deep+1))).flatten:=rfl
theorem zpo (w0:Xk):∀(n:Nat) (deep:Int) (C:Xj) (t:Tr n) (xs:List (It w0)),Pre w0 n deep C t xs->xs.map hdI=hp n deep t
 | 0,_,_,t,_,_=>t.elim
 | n+1,deep,C,t,xs,⟨a,b,c,d,e,rd,ks,_,hxs,hks,hel⟩=>by
  subst hxs
  rw [List.map_cons,zbT,<-hks,List.map_flatten,List.map_map,List.map_map]
  congr 2
  apply List.map_congr_left
  intro k hk
  obtain⟨D,hD⟩:=hel.mem k hk
  exact zpo w0 n (deep+1) D k.1 k.2 hD
theorem zss:∀(n:Nat) (d:Int) (t:Tr n),∀y∈hp n d t,d<=y.1
 | 0,_,t,_,_=>t.elim
 | n+1,d,t,y,h=>by
  rw [zbT]at h
  rcases List.mem_cons.1 h with rfl | h'
  ·exact Int.le_refl _
  ·obtain⟨l,hl,hy⟩:=List.mem_flatten.1 h'
   obtain⟨u,_,rfl⟩:=List.mem_map.1 hl
   have:=zss n (d+1) u y hy
   omega
theorem ztl (n:Nat) (d:Int) (ks:List (Tr n)):∀y∈(ks.map (hp n (d+1))).flatten,d<y.1:=by
 intro y h
 obtain⟨l,hl,hy⟩:=List.mem_flatten.1 h
 obtain⟨u,_,rfl⟩:=List.mem_map.1 hl
 have:=zss n (d+1) u y hy
 omega
theorem znf (n:Nat) (d:Int) (ks:List (Tr (n+1))):((ks.map (hp (n+1) d)).flatten).takeWhile (fun y=>decide (d<y.1))=[]:=by
 cases ks with
 | nil=>rfl
 | cons k ks=>rw [List.map_cons,List.flatten_cons,zbT,List.cons_append,List.takeWhile_cons];simp
theorem zkj {α:Type} {p:α->Bool}:∀(l m:List α),(∀y∈l,p y=true)->m.takeWhile p=[]->(l++m).takeWhile p=l
 | [],m,_,hm=>by simpa using hm
 | a::l,m,hl,hm=>by
  rw [List.cons_append,List.takeWhile_cons,hl a (by simp),if_pos rfl,zkj l m (fun y hy=>hl y (by simp [hy])) hm]
theorem zlT (n:Nat) (d:Int) (hn:∀t u:Tr (n+1),hp (n+1) d t=hp (n+1) d u->t=u):∀ks ls:List (Tr (n+1)),(ks.map (hp (n+1) d)).flatten=(ls.map (hp (n+1) d)).flatten->ks=ls
 | [],[],_=>rfl
 | [],l::ls,h=>by rw [List.map_cons,List.flatten_cons,zbT]at h;simp at h
 | k::ks,[],h=>by rw [List.map_cons,List.flatten_cons,zbT]at h;simp at h
 | k::ks,l::ls,h=>by
  rw [List.map_cons,List.flatten_cons,List.map_cons,List.flatten_cons]at h
  have h':=h
  rw [zbT,zbT,List.cons_append,List.cons_append,List.cons.injEq]at h'
  have e:=congrArg (List.takeWhile (fun y=>decide (d<y.1))) h'.2
  rw [zkj _ _ (fun y hy=>by simpa using ztl n d k.kids y hy) (znf n d ks),zkj _ _ (fun y hy=>by simpa using ztl n d l.kids y hy) (znf n d ls)]at e
  have Aa:hp (n+1) d k=hp (n+1) d l:=by rw [zbT,zbT,h'.1,e]
  rw [Aa]at h
  have:=zlT n d hn ks ls (List.append_cancel_left h)
  rw [hn k l Aa,this]
theorem zpI:∀(n:Nat) (d:Int) (t u:Tr n),hp n d t=hp n d u->t=u
 | 0,_,t,_,_=>t.elim
 | n+1,d,t,u,h=>by
  rw [zbT,zbT,List.cons.injEq]at h
  obtain⟨h1,h2⟩:=h
  have hk:t.kids=u.kids:=by
   cases n with
   | zero=>
    cases ht:t.kids with
    | nil=>
     cases hu:u.kids with
     | nil=>rfl
     | cons x _=>exact x.elim
    | cons x _=>exact x.elim
   | succ n=>exact zlT n (d+1) (zpI (n+1) (d+1)) t.kids u.kids h2
  simp only [Prod.mk.injEq]at h1
  exact zvA h1.2.1 h1.2.2.1 h1.2.2.2.1 h1.2.2.2.2 hk
theorem zCf (n:Nat) (d:Int) (t u:Tr n):zdb (hp n d t) (hp n d u)=eqT n t u:=by
 by_cases h:t=u
 ·subst h;rw [ztq rfl,(zfW _ _).2 rfl]
 ·rw [zBk h,zkk (fun e=>h (zpI n d t u e))]
theorem zhE {α β:Type} (f:α->List β) (g:α->Nat) (H:∀x,(f x).length<=6*g x+6):∀l:List α,(l.map f).flatten.length<=6*(l.length+(l.map g).sum)
 | []=>by simp
 | x::l=>by
  have h1:=zhE f g H l
  have h2:=H x
  simp only [List.map_cons,List.flatten_cons,List.length_append,List.length_cons,List.sum_cons]
  omega
theorem ztQ (l:List (Xg×Xg)):(zaz l).length<=6*szA l:=by
 unfold zaz szA
 refine zhE zdf (fun x=>x.1.length+x.2.length) (fun x=> ?_) l
 have:=zmC true x.2
 unfold zdf
 simp only [List.length_append,List.length_cons,List.length_nil]
 omega
theorem zpO:∀(n:Nat) (t:Tr n),(mkup n t).length<=6*szT n t+5
 | 0,t=>by show ([]:Xg).length<=_;simp
 | n+1,t=>by
  have h1:=zmC false t.text
  have h2:=ztQ t.attrs
  have h3:=zhE (mkup n) (szT n) (fun x=>by have:=zpO n x;omega) t.kids
  have h4:szT (n+1) t=t.name.length+t.text.length+szA t.attrs+(t.kids.length+(t.kids.map (szT n)).sum):=rfl
  rw [zhR,h4]
  split
  ·omega
  ·split
   ·simp only [List.length_append,List.length_cons,List.length_nil]
    omega
   ·simp only [List.length_append,List.length_cons,List.length_nil]
    omega
def zkf (n:Nat) (t:Tr (n+1)):Xg:=if okN n t=true then mkup (n+1) t else []
theorem zuK {n:Nat} {t:Tr (n+1)} (h:zaG (n+1) t):(t.kind=1∧zbk t=true∧t.kids=[])∨(t.kind=0∧zbq t=true):=by
 rcases h with ⟨q1,q2,q3,q4,q5,q6⟩ | ⟨⟨q1,q2,q3,q4⟩,q5,q6,q7⟩
 ·exact .inl ⟨q1,(zbK t).2 ⟨by rw [q2];rfl,by rw [q3];rfl,by rw [q4];rfl,q5⟩,q4⟩
 ·refine .inr ⟨q1,(zbH t).2 ⟨q1,q2,by rw [q3];rfl,zxO q4.1 q4.2.2 q4.2.1,fun hc=> ?_⟩⟩
  have:=q5 ((zdF _).2 hc.1)
  have h2:=hc.2
  rw [this]at h2
  simp at h2
theorem zpu:∀(n:Nat) (deep:Int) (t:Tr n) (left:Int),zaG n t->(∀i∈encT n t,deep+i.deep<=20)->((encT n t).length:Int)<=left->okT n deep t left=(true,left-(encT n t).length)
 | 0,_,t,_,_,_,_=>t.elim
 | n+1,deep,t,left,h,hd,hl=>by
  have h0:=hd ⟨0,t.kind,t.name,t.text,t.attrs⟩ (by rw [zbt];unfold zav;simp)
  rw [zel]at hl
  simp only [Int.natCast_add,Int.cast_ofNat_Int]at hl h0
  rw [zdy,if_neg (by omega),zel]
  rcases zuK h with ⟨q1,q2,q3⟩ | ⟨q1,q2⟩
  ·rw [if_pos q1,q2,q3]
   simp [szE]
  ·rw [if_neg (by rw [q1];decide),if_pos q2]
   have hg:∀k∈t.kids,zaG n k:=by
    rcases h with ⟨q,_⟩ | ⟨_,_,_,q7⟩
    ·rw [q1]at q;cases q
    ·exact q7
   have Aa:∀(ks:List (Tr n)) (l:Int),(∀k∈ks,k∈t.kids)->(szE n ks:Int)<=l->okK (okT n (deep+1)) ks l=(true,l-szE n ks):=by
    intro ks
    induction ks with
    | nil=>intro l _ _;simp [okK,szE]
    | cons k ks ih=>
     intro l hk hs
     have e:szE n (k::ks)=(encT n k).length+szE n ks:=rfl
     rw [e]at hs
     have Ba:=zpu n (deep+1) k l (hg k (hk k (by simp))) (fun i hi=>by
      have:=hd i.more (by
       rw [zbt]
       unfold zav
       exact List.mem_cons_of_mem _ (List.mem_flatten.2 ⟨(encT n k).map Itm.more,List.mem_map.2 ⟨encT n k,List.mem_map.2 ⟨k,hk k (by simp),rfl⟩,rfl⟩,List.mem_map.2 ⟨i,hi,rfl⟩⟩))
      simp [Itm.more]at this
      omega) (by omega)
     rw [okK,Ba,if_pos rfl,ih _ (fun x hx=>hk x (by simp [hx])) (by simp;omega),e]
     simp
     omega
   rw [Aa t.kids (left-1) (fun _ h=>h) (by omega)]
   simp
   omega
theorem zkh {n:Nat} {t:Tr (n+1)} (h:zaG (n+1) t) (h0:t.kind=0) (hs:(encT (n+1) t).length<=120) (hd:∀i∈encT (n+1) t,i.deep<=19):okN n t=true:=by
 unfold okN
 rw [decide_eq_true h0,zpu (n+1) 1 t 120 h (fun i hi=>by have:=hd i hi;omega) (by omega)]
 rfl
theorem zpp:∀(n:Nat) (d:Int) (t:Tr n),hp n d t=(encT n t).map fun i=>(d+i.deep,i.kind,i.name,i.text,i.attrs)
 | 0,_,t=>t.elim
 | n+1,d,t=>by
  rw [zbT,zbt]
  unfold zav
  rw [List.map_cons,List.map_flatten,List.map_map,List.map_map]
  simp only [Int.cast_ofNat_Int,Int.add_zero]
  congr 2
  refine List.map_congr_left fun k hk=> ?_
  rw [zpp n (d+1) k]
  simp only [Function.comp_def,List.map_map,Itm.more]
  refine List.map_congr_left fun i hi=> ?_
  simp
  omega
theorem zjq {n:Nat} {t u:Tr n} (h:encT n t=encT n u):t=u:=zpI n 0 t u (by rw [zpp,zpp,h])
theorem zoV {n N:Nat} {w:Xk} {C:Xj} {t:Tr n} (h:RdNode n w C t) (hN:n<=N):∃t':Tr N,RdNode N w C t'∧encT N t'=encT n t:=by
 induction N with
 | zero=>
  have:n=0:=by omega
  subst this
  exact⟨t,h,rfl⟩
 | succ N ih=>
  by_cases e:n=N+1
  ·subst e;exact⟨t,h,rfl⟩
  ·obtain⟨t',h1,h2⟩:=ih (by omega)
   exact⟨upT N t',zum h1,(zfI N t').trans h2⟩
theorem zjn:∀(n:Nat) (t:Tr n),zaG n t->szT n t+1<=300*(encT n t).length
 | 0,t,_=>t.elim
 | n+1,t,h=>by
  rw [zel]
  have Ba:(∀k∈t.kids,zaG n k)->t.kids.length+(t.kids.map (szT n)).sum<=300*szE n t.kids:=by
   intro hg
   generalize t.kids=ks at hg
   induction ks with
   | nil=>simp [szE]
   | cons k ks ih=>
    have h1:=zjn n k (hg k (by simp))
    have h2:=ih (fun x hx=>hg x (by simp [hx]))
    have e:szE n (k::ks)=(encT n k).length+szE n ks:=rfl
    rw [e]
    simp
    omega
  show t.name.length+t.text.length+szA t.attrs+(t.kids.length+(t.kids.map (szT n)).sum)+1<=_
  rcases h with ⟨q1,q2,q3,q4,q5,q6⟩ | ⟨⟨q1,q2,q3,q4⟩,q5,q6,q7⟩
  ·rw [q2,q3,q4]
   have:=q5.1
   simp [szA]
   omega
  ·have h1:=Ba q7
   have h2:=q2.2.1
   have h3:szA t.attrs<=4+4*38:=by
    have Aa:∀l:List AtV,(∀x∈l,zat x.1∧zar x.2)->szA l<=39*l.length:=by
     intro l
     induction l with
     | nil=>intro _;simp [szA]
     | cons x l ih=>
      intro hx
      have a1:=ih (fun y hy=>hx y (by simp [hy]))
      have a2:=hx x (by simp)
      have a3:=a2.1.2.1
      have a4:=a2.2.1
      unfold szA at a1 ⊢
      simp
      omega
    have:=Aa t.attrs q4.2.2
    have:=q4.1
    omega
   rw [q3]
   simp
   omega
theorem zCi {n m:Nat} {w:Xk} {C:Xj} {t:Tr n} {u:Tr (m+1)} (h:RdNode n w C t) (he:encT n t=encT (m+1) u) (hg:zaG (m+1) u):∃(N:Nat) (v:Tr (N+1)),RdNode (N+1) w C v∧zaG (N+1) v∧encT (N+1) v=encT n t:=by
 obtain⟨t',h1,h2⟩:=zoV (N:=max n m+1) h (by omega)
 obtain⟨u',g1,g2⟩:=zja (N:=max n m+1) hg (by omega)
 have e:t'=u':=zjq (by rw [h2,g1,he])
 exact⟨max n m,t',h1,by rw [e];exact g2,h2⟩
abbrev Mb (α:Type):Type:=α ⊕ Xg
def zch {α:Type} (ks:List (Mb α)) (x:Int):List (Mb α):=
 match ks.getLast? with
 | some (.inr l)=>if l.length<30 then ks.dropLast++[.inr (l++[x])] else ks++[.inr [x]]
 | _=>ks++[.inr [x]]
def zew {α:Type} (ks:List (Mb α)) (l:Xg):List (Mb α):=l.foldl zch ks
def zfa {α:Type}:List (Mb α)->List (Mb α)->List (Mb α)
 | acc,[]=>acc
 | acc,.inr l::r=>zfa (zew acc l) r
 | acc,.inl a::r=>zfa (acc++[.inl a]) r
def cut:Nat->Xg->List (Xg)
 | 0,_=>[]
 | f+1,l=>if l=[] then [] else l.take 30::cut f (l.drop 30)
def cutL (l:Xg):List (Xg):=cut l.length l
def zbn {α:Type}:List (Mb α)->Xg->List (Mb α)->List (Mb α)
 | acc,row,[]=>acc++(cutL row).map .inr
 | acc,row,.inr l::r=>zbn acc (row++l) r
 | acc,row,.inl a::r=>zbn (acc++(cutL row).map .inr++[.inl a]) [] r
theorem zqK:∀(f g:Nat) (l:Xg),l.length<=f->l.length<=g->cut f l=cut g l
 | 0,g,l,hf,_=>by
  have:l=[]:=List.eq_nil_of_length_eq_zero (by omega)
  subst this
  cases g<;>simp [cut]
 | f+1,0,l,_,hg=>by
  have:l=[]:=List.eq_nil_of_length_eq_zero (by omega)
  subst this
  simp [cut]
 | f+1,g+1,l,hf,hg=>by
  unfold cut
  by_cases h:l=[]
  ·simp [h]
  ·rw [if_neg h,if_neg h]
   have hl:0<l.length:=List.length_pos_iff.2 h
   rw [zqK f g (l.drop 30) (by rw [List.length_drop];omega) (by rw [List.length_drop];omega)]
theorem zcX (l:Xg) (h:l≠[]):cutL l=l.take 30::cutL (l.drop 30):=by
 have hl:0<l.length:=List.length_pos_iff.2 h
 obtain⟨n,hn⟩:∃n,l.length=n+1:=⟨l.length-1,by omega⟩
 unfold cutL
 rw [hn,cut,if_neg h]
 congr 1
 exact zqK _ _ _ (by rw [List.length_drop];omega) (Nat.le_refl _)
theorem zfM:cutL []=[]:=rfl
theorem zlU (l:Xg) (h:l≠[]) (h30:l.length<=30):cutL l=[l]:=by
 rw [zcX l h,List.take_of_length_le h30,List.drop_of_length_le h30];rfl
def addP:List (Xg)->Int->List (Xg)
 | [],x=>[[x]]
 | [p],x=>if p.length<30 then [p++[x]] else [p,[x]]
 | p::q::r,x=>p::addP (q::r) x
theorem zAF {l:Xg} (h:l≠[]):cutL l≠[]:=by rw [zcX l h];simp
theorem znA:∀(n:Nat) (l:Xg) (x:Int),l.length<=n->cutL (l++[x])=addP (cutL l) x
 | 0,l,x,h=>by
  have:l=[]:=List.eq_nil_of_length_eq_zero (by omega)
  subst this
  rfl
 | n+1,l,x,h=>by
  by_cases h0:l=[]
  ·subst h0;rfl
  by_cases h30:l.length<30
  ·rw [zlU l h0 (by omega),zlU (l++[x]) (by simp) (by simp;omega),addP,if_pos h30]
  ·have hd:l.drop 30++[x]=(l++[x]).drop 30:=by rw [List.drop_append_of_le_length (by omega)]
   have ht:(l++[x]).take 30=l.take 30:=by rw [List.take_append_of_le_length (by omega)]
   rw [zcX (l++[x]) (by simp),ht,<-hd,znA n (l.drop 30) x (by rw [List.length_drop];omega),zcX l h0]
   by_cases hz:l.drop 30=[]
   ·rw [hz,zfM,addP,addP,if_neg (by rw [List.length_take];omega)]
   ·have Aa:=zAF hz
    cases hc:cutL (l.drop 30)with
    | nil=>exact absurd hc Aa
    | cons q r=>rfl
def ztL {α:Type} (ks:List (Mb α)):Prop:=∀l,ks.getLast?≠some (.inr l)
theorem zoo {α:Type}:∀(ps:List (Xg)) (A:List (Mb α)) (x:Int),ztL A->zch (A++ps.map .inr) x=A++(addP ps x).map .inr
 | [],A,x,hA=>by
  unfold zch
  simp only [List.map_nil,List.append_nil,addP,List.map_cons]
  split
  ·rename_i l hl;exact absurd hl (hA l)
  ·rfl
 | [p],A,x,hA=>by
  unfold zch
  simp only [List.map_cons,List.map_nil,List.getLast?_append,List.getLast?_singleton,Option.some_or,List.dropLast_concat]
  by_cases h:p.length<30
  ·rw [if_pos h,addP,if_pos h];rfl
  ·rw [if_neg h,addP,if_neg h,List.append_assoc];rfl
 | p::q::r,A,x,hA=>by
  have ih:=zoo (α:=α) (q::r) [] x (fun l h=>by simp at h)
  simp only [List.nil_append]at ih
  have e:A++(p::q::r).map (Sum.inr:Xg->Mb α)=(A++[.inr p])++(q::r).map .inr:=by simp
  have Ba:(A++(p::q::r).map (Sum.inr:Xg->Mb α)).getLast? = ((q::r).map (Sum.inr:Xg->Mb α)).getLast? :=by
   rw [e,List.getLast?_append]
   cases hq:((q::r).map (Sum.inr:Xg->Mb α)).getLast? with
   | none=>simp at hq
   | some y=>rfl
  have Aa:(A++(p::q::r).map (Sum.inr:Xg->Mb α)).dropLast=(A++[.inr p])++((q::r).map (Sum.inr:Xg->Mb α)).dropLast:=by
   rw [e,List.dropLast_append_of_ne_nil (by simp)]
  have f:zch (A++(p::q::r).map (Sum.inr:Xg->Mb α)) x=(A++[.inr p])++zch ((q::r).map .inr) x:=by
   unfold zch
   rw [Ba,Aa,e]
   cases hg:((q::r).map (Sum.inr:Xg->Mb α)).getLast? with
   | none=>exact List.append_assoc _ _ _
   | some y=>
    cases y with
    | inl a=>exact List.append_assoc _ _ _
    | inr l=>
     by_cases h:l.length<30
     ·simp only [h,if_true];exact List.append_assoc _ _ _
     ·simp only [h,if_false];exact List.append_assoc _ _ _
  rw [f,ih,addP]
  simp
theorem znj {α:Type} (A:List (Mb α)) (hA:ztL A):∀(l row:Xg),zew (A++(cutL row).map .inr) l=A++(cutL (row++l)).map .inr
 | [],row=>by simp [zew]
 | x::l,row=>by
  have e:row++x::l=(row++[x])++l:=by simp
  rw [e,<-znj A hA l (row++[x])]
  unfold zew
  rw [List.foldl_cons,zoo _ _ _ hA,znA row.length row x (Nat.le_refl _)]
theorem ziu {α:Type}:∀(ks A:List (Mb α)) (row:Xg),ztL A->zfa (A++(cutL row).map .inr) ks=zbn A row ks
 | [],A,row,_=>rfl
 | .inr l::r,A,row,hA=>by rw [zfa,zbn,znj A hA,ziu r A (row++l) hA]
 | .inl a::r,A,row,hA=>by
  rw [zfa,zbn]
  have:=ziu r (A++(cutL row).map .inr++[.inl a]) [] (fun l h=>by simp at h)
  rw [zfM]at this
  simpa using this
theorem zqq {α:Type} (ks:List (Mb α)):zfa [] ks=zbn [] [] ks:=by
 have:=ziu ks [] [] (fun l h=>by simp at h)
 simpa [zfM]using this
def txtN (n:Nat) (l:Xg):Tr (n+1):=(⟨1,[],l,[],[]⟩:Nd (Tr n))
def unMb (n:Nat):Mb (Tr (n+1))->Tr (n+1)
 | .inl k=>k
 | .inr l=>txtN n l
def zaB:(n:Nat)->Tr n->Tr n
 | 0=>fun t=>t
 | 1=>fun t=>t
 | n+2=>fun t=>(⟨t.kind,t.name,t.text,t.attrs,(zbn [] [] (t.kids.map fun k=>if k.kind=1 then (.inr k.text:Mb (Tr (n+1))) else .inl (zaB (n+1) k))).map (unMb n)⟩:Nd (Tr (n+1)))
def wtM {α:Type} (sz:α->Nat):Mb α->Nat
 | .inl k=>1+sz k
 | .inr l=>1+l.length
def wtK {α:Type} (sz:α->Nat):Mb α->Nat
 | .inl k=>1+sz k
 | .inr l=>2*l.length
theorem zms {α:Type} (sz:α->Nat):∀(n:Nat) (l:Xg),l.length<=n->(((cutL l).map (.inr:Xg->Mb α)).map (wtM sz)).sum<=2*l.length
 | 0,l,h=>by
  have e:l=[]:=List.eq_nil_of_length_eq_zero (by omega)
  subst e
  rw [zfM];simp
 | n+1,l,h=>by
  by_cases hl:l=[]
  ·subst hl;rw [zfM];simp
  ·have hp:0<l.length:=List.length_pos_iff.2 hl
   rw [zcX l hl]
   have:=zms sz n (l.drop 30) (by rw [List.length_drop];omega)
   simp only [List.map_cons,List.sum_cons,wtM,List.length_take]
   rw [List.length_drop]at this
   omega
theorem zkp {α:Type} (sz:α->Nat):∀(ks A:List (Mb α)) (row:Xg),((zbn A row ks).map (wtM sz)).sum<=(A.map (wtM sz)).sum+2*row.length+(ks.map (wtK sz)).sum
 | [],A,row=>by
  have:=zms sz row.length row (Nat.le_refl _)
  simp only [zbn,List.map_append,List.sum_append,List.map_nil,List.sum_nil]
  omega
 | .inr l::ks,A,row=>by
  have:=zkp sz ks A (row++l)
  simp only [zbn,List.map_cons,List.sum_cons,wtK]
  rw [List.length_append]at this
  omega
 | .inl k::ks,A,row=>by
  have h1:=zkp sz ks (A++(cutL row).map .inr++[.inl k]) []
  have h2:=zms sz row.length row (Nat.le_refl _)
  simp only [zbn,List.map_cons,List.sum_cons,wtK]
  simp only [List.map_append,List.sum_append,List.map_cons,List.map_nil,List.sum_cons,List.sum_nil,List.length_nil,wtM]at h1
  omega
theorem zzG (n:Nat) (l:Xg):szT (n+1) (txtN n l)=l.length:=by
 show ([]:Xg).length+l.length+szA []+(([]:List (Tr n)).length+(([]:List (Tr n)).map (szT n)).sum)=l.length
 simp [szA]
theorem ztz (n:Nat):∀ms:List (Mb (Tr (n+1))),(ms.map (unMb n)).length+((ms.map (unMb n)).map (szT (n+1))).sum=(ms.map (wtM (szT (n+1)))).sum
 | []=>by simp
 | m::ms=>by
  have h:=ztz n ms
  have e:1+szT (n+1) (unMb n m)=wtM (szT (n+1)) m:=by
   cases m with
   | inl k=>rfl
   | inr l=>show 1+szT (n+1) (txtN n l)=1+l.length;rw [zzG]
  simp only [List.map_cons,List.length_cons,List.sum_cons]
  omega
theorem zmJ (n:Nat) (t:Tr (n+1)):t.text.length<=szT (n+1) t:=by
 have h4:szT (n+1) t=t.name.length+t.text.length+szA t.attrs+(t.kids.length+(t.kids.map (szT n)).sum):=rfl
 omega
theorem zpN:∀(n:Nat) (t:Tr n),szT n (zaB n t)<=2*szT n t
 | 0,t=>by show szT 0 t<=_;omega
 | 1,t=>by show szT 1 t<=_;omega
 | n+2,t=>by
  have h4:szT (n+2) t=t.name.length+t.text.length+szA t.attrs+(t.kids.length+(t.kids.map (szT (n+1))).sum):=rfl
  have hk:∀l:List (Tr (n+1)),((l.map fun k=>if k.kind=1 then (.inr k.text:Mb (Tr (n+1))) else .inl (zaB (n+1) k)).map (wtK (szT (n+1)))).sum<=2*(l.length+(l.map (szT (n+1))).sum):=by
   intro l
   induction l with
   | nil=>simp
   | cons k l ih=>
    have h1:=zpN (n+1) k
    have h2:=zmJ n k
    have h3:wtK (szT (n+1)) (if k.kind=1 then (.inr k.text:Mb (Tr (n+1))) else .inl (zaB (n+1) k))<=2*(1+szT (n+1) k):=by
     split
     ·show 2*k.text.length<=_;omega
     ·show 1+szT (n+1) (zaB (n+1) k)<=_;omega
    simp only [List.map_cons,List.sum_cons,List.length_cons]
    omega
  have h5:szT (n+2) (zaB (n+2) t)=t.name.length+t.text.length+szA t.attrs+(((zbn [] [] (t.kids.map fun k=>if k.kind=1 then (.inr k.text:Mb (Tr (n+1))) else .inl (zaB (n+1) k))).map (unMb n)).length+(((zbn [] [] (t.kids.map fun k=>if k.kind=1 then (.inr k.text:Mb (Tr (n+1))) else .inl (zaB (n+1) k))).map (unMb n)).map (szT (n+1))).sum):=rfl
  have h6:=zkp (szT (n+1)) (t.kids.map fun k=>if k.kind=1 then (.inr k.text:Mb (Tr (n+1))) else .inl (zaB (n+1) k)) [] []
  have h7:=hk t.kids
  rw [h5,ztz,h4]
  simp only [List.map_nil,List.sum_nil,List.length_nil]at h6
  omega
def zbc (n:Nat) (t:Tr (n+1)):Tr (n+1):=if okN n t=true then zaB (n+1) t else (⟨0,[],[],[],[]⟩:Nd (Tr n))
def NoT:(n:Nat)->Tr n->Prop
 | 0=>fun _=>True
 | 1=>fun t=>t.text=[]
 | n+2=>fun t=>t.text=[]∧∀k∈t.kids,k.kind≠1->NoT (n+1) k
theorem zsL {α:Type} {f:α->Int->Bool×Int}:∀(l:List α) (left:Int),(okK f l left).1=true->∀k∈l,∃left',(f k left').1=true
 | [],_,_,k,hk=>by cases hk
 | x::l,left,h,k,hk=>by
  rw [okK]at h
  by_cases hb:(f x left).1=true
  ·rw [if_pos hb]at h
   rcases List.mem_cons.1 hk with rfl | hk
   ·exact⟨left,hb⟩
   ·exact zsL l _ h k hk
  ·rw [if_neg hb]at h
   cases h
theorem zpT {n:Nat} {deep:Int} {t:Tr (n+1)} {left:Int} (h:(okT (n+1) deep t left).1=true) (hk:t.kind≠1):t.text=[]∧(okK (okT n (deep+1)) t.kids (left-1)).1=true:=by
 rw [zdy]at h
 by_cases h1:left-1<0∨20<deep
 ·rw [if_pos h1]at h;cases h
 ·rw [if_neg h1,if_neg hk]at h
  by_cases h3:zbq t=true
  ·rw [if_pos h3]at h
   exact⟨List.eq_nil_of_length_eq_zero ((zbH t).1 h3).2.2.1,h⟩
  ·rw [if_neg h3]at h;cases h
theorem zwo:∀(n:Nat) (deep:Int) (t:Tr (n+1)) (left:Int),(okT (n+1) deep t left).1=true->t.kind≠1->NoT (n+1) t
 | 0,deep,t,left,h,hk=>(zpT h hk).1
 | n+1,deep,t,left,h,hk=>by
  obtain⟨h1,h2⟩:=zpT h hk
  refine⟨h1,fun k hm Ba=> ?_⟩
  obtain⟨Aa,hl⟩:=zsL _ _ h2 k hm
  exact zwo n (deep+1) k Aa hl Ba
theorem zBM {n:Nat} {t:Tr (n+1)} (h:okN n t=true):NoT (n+1) t:=by
 unfold okN at h
 rw [Bool.and_eq_true,decide_eq_true_eq]at h
 exact zwo n 1 t 120 h.2 (by rw [h.1];decide)
theorem Own.cut0 {w:Xk} {base:Nat} {a:Xi} {m cap:Nat} {l:Xg} (h:Own w base (.slice a m cap) l):Own w base (.slice a 0 cap) []:=by
 refine⟨zaI,rfl,?_⟩
 rcases h.2.2 with ⟨e,_⟩ | ⟨g,c,Aa,e,h1,h2,h3,h4,h5,h6⟩
 ·injection e with e1 e2 e3
  subst e1 e3
  exact .inl ⟨rfl,rfl⟩
 ·injection e with e1 e2 e3
  subst e1 e3
  exact .inr ⟨g,cap,Aa,rfl,h1,h2,Nat.zero_le _,h4,h5,by simp [vals]⟩
theorem zsF {α:Type} (sz:α->Nat):∀l:List (Mb α),l.length<=(l.map (wtM sz)).sum
 | []=>by simp
 | x::l=>by
  have h1:=zsF sz l
  have h2:1<=wtM sz x:=by
   cases x with
   | inl k=>exact Nat.le_add_right 1 _
   | inr l=>exact Nat.le_add_right 1 _
  simp only [List.map_cons,List.length_cons,List.sum_cons]
  omega
def encM (n:Nat) (m:Mb (Tr (n+1))):List Itm:=encT (n+1) (unMb n m)
theorem zpD (n:Nat) (l:Xg):encM n (.inr l)=txtI l:=rfl
theorem znW {n:Nat} {l:Xg} (h:zar l) (h0:l≠[]):zaG (n+1) (txtN n l):=.inl ⟨rfl,rfl,rfl,rfl,h,h0⟩
theorem zog {n:Nat} {l:Xg} (h:zaG (n+1) (txtN n l)):zar l∧l≠[]:=by
 rcases h with ⟨_,_,_,_,q5,q6⟩ | ⟨⟨q1,_⟩,_⟩
 ·exact⟨q5,q6⟩
 ·cases q1
structure GdM (n:Nat) (Q:Tr (n+1)->Prop) (q:Prop) (ms:List (Mb (Tr (n+1)))):Prop where
 good:∀m∈ms,zaG (n+1) (unMb n m)
 elem:∀a,.inl a∈ms->a.kind=0∧Q a
 text:∀l,.inr l∈ms->q
 adj:AdjX (ms.map (encM n))
theorem zww {n:Nat} {a:Tr (n+1)} (h:a.kind=0):zdu (encM n (.inl a))=false:=by
 unfold zdu
 rw [show encM n (.inl a)=zav ⟨a.kind,a.name,a.text,a.attrs,a.kids.map (encT n)⟩ from rfl,znd _ h]
 rfl
theorem GdM.snoc {n:Nat} {Q:Tr (n+1)->Prop} {q:Prop} {ms:List (Mb (Tr (n+1)))} {m:Mb (Tr (n+1))} (h:GdM n Q q ms) (h1:zaG (n+1) (unMb n m)) (h2:∀a,m=.inl a->a.kind=0∧Q a) (h3:∀l,m=.inr l->q) (h4:∀a,ms.getLast? = some a->¬ (zdu (encM n a)=true∧isTx (encM n m)=true)):GdM n Q q (ms++[m]):=by
 refine⟨fun x hx=> ?_,fun a ha=> ?_,fun l hl=> ?_,?_⟩
 ·rcases List.mem_append.1 hx with hx | hx
  ·exact h.good x hx
  ·rw [List.mem_singleton.1 hx];exact h1
 ·rcases List.mem_append.1 ha with hx | hx
  ·exact h.elem a hx
  ·exact h2 a (List.mem_singleton.1 hx).symm
 ·rcases List.mem_append.1 hl with hx | hx
  ·exact h.text l hx
  ·exact h3 l (List.mem_singleton.1 hx).symm
 ·rw [List.map_append]
  refine (zcL _ _).2 ⟨h.adj,fun a ha=> ?_⟩
  rw [List.getLast?_map]at ha
  obtain⟨b,hb,rfl⟩:=Option.map_eq_some_iff.1 ha
  exact h4 b hb
theorem GdM.init {n:Nat} {Q:Tr (n+1)->Prop} {q:Prop} {ms:List (Mb (Tr (n+1)))} {m:Mb (Tr (n+1))} (h:GdM n Q q (ms++[m])):GdM n Q q ms∧∀a,ms.getLast? = some a->¬ (zdu (encM n a)=true∧isTx (encM n m)=true):=by
 have ha:=h.adj
 rw [List.map_append]at ha
 obtain⟨a1,a2⟩:=(zcL _ _).1 ha
 refine⟨⟨fun x hx=>h.good x (List.mem_append_left _ hx),fun a ha=>h.elem a (List.mem_append_left _ ha),fun l hl=>h.text l (List.mem_append_left _ hl),a1⟩,fun a ha=>a2 _ ?_⟩
 rw [List.getLast?_map,ha]
 rfl
theorem zwM {n:Nat} {Q:Tr (n+1)->Prop} {q:Prop} {ms:List (Mb (Tr (n+1)))} {x:Int} (h:GdM n Q q ms) (hx:32<=x∧x<=126) (hq:q):GdM n Q q (zch ms x):=by
 have Aa:zaG (n+1) (unMb n (.inr [x])):=znW (zgC (by simp) (fun y hy=>by rw [List.mem_singleton.1 hy];exact hx)) (by simp)
 unfold zch
 split
 ·rename_i l hl
  obtain⟨dl,rfl⟩:=List.getLast?_eq_some_iff.1 hl
  obtain⟨t1,t2⟩:=zog (h.good (.inr l) (by simp))
  split
  ·rename_i Ca
   rw [List.dropLast_concat]
   obtain⟨i1,i2⟩:=h.init
   refine i1.snoc (znW (zgC (by simp;omega) (fun y hy=> ?_)) (by simp)) (fun a ha=>by cases ha) (fun _ _=>hq) (fun a ha hc=>i2 a ha ⟨hc.1,rfl⟩)
   rcases List.mem_append.1 hy with hy | hy
   ·exact zgA t1 y hy
   ·rw [List.mem_singleton.1 hy];exact hx
  ·rename_i Ca
   refine h.snoc Aa (fun a ha=>by cases ha) (fun _ _=>hq) (fun a ha hc=> ?_)
   rw [hl]at ha
   cases ha
   have:=hc.1
   rw [zpD]at this
   unfold zdu zax txtI at this
   have h1:=t1.1
   simp at this
   omega
 ·rename_i Ba
  refine h.snoc Aa (fun a ha=>by cases ha) (fun _ _=>hq) (fun a ha hc=> ?_)
  cases a with
  | inl a=>
   obtain⟨dl,rfl⟩:=List.getLast?_eq_some_iff.1 ha
   rw [zww (h.elem a (by simp)).1]at hc
   cases hc.1
  | inr l=>exact Ba l ha
theorem zkG {n:Nat} {Q:Tr (n+1)->Prop} {q:Prop} (hq:q):∀(l:Xg) (ms:List (Mb (Tr (n+1)))),GdM n Q q ms->(∀x∈l,32<=x∧x<=126)->GdM n Q q (zew ms l)
 | [],ms,h,_=>h
 | x::l,ms,h,hl=>zkG hq l (zch ms x) (zwM h (hl x (by simp)) hq) (fun y hy=>hl y (by simp [hy]))
theorem zhk {n:Nat} {Q:Tr (n+1)->Prop} {q:Prop}:∀(ks acc:List (Mb (Tr (n+1)))),GdM n Q q acc->(∀a,.inl a∈ks->zaG (n+1) a∧a.kind=0∧Q a)->(∀l,.inr l∈ks->zar l∧q)->GdM n Q q (zfa acc ks)
 | [],acc,h,_,_=>h
 | .inr l::ks,acc,h,h1,h2=>zhk ks (zew acc l) (zkG (h2 l (by simp)).2 l acc h (zgA (h2 l (by simp)).1)) (fun a ha=>h1 a (by simp [ha])) (fun a ha=>h2 a (by simp [ha]))
 | .inl a::ks,acc,h,h1,h2=>by
  obtain⟨q1,q2,q3⟩:=h1 a (by simp)
  exact zhk ks (acc++[.inl a]) (h.snoc (m:=.inl a) q1 (fun b hb=>by cases hb;exact⟨q2,q3⟩) (fun l hl=>by cases hl) (fun b _ hc=>by
   have:=hc.2
   rw [show encM n (.inl a)=zav ⟨a.kind,a.name,a.text,a.attrs,a.kids.map (encT n)⟩ from rfl,ziQ _ q2]at this
   cases this)) (fun b hb=>h1 b (by simp [hb])) (fun b hb=>h2 b (by simp [hb]))
def wt1 {α:Type} (sz:α->Nat):Mb α->Nat
 | .inl a=>sz a
 | .inr _=>1
theorem zmF:∀(m:Nat) (l:Xg),l.length<=30*m->(cutL l).length<=m
 | 0,l,h=>by
  have e:l=[]:=List.eq_nil_of_length_eq_zero (by omega)
  subst e
  exact Nat.le_refl _
 | m+1,l,h=>by
  by_cases e:l=[]
  ·subst e;exact Nat.zero_le _
  ·rw [zcX l e,List.length_cons]
   have:=zmF m (l.drop 30) (by rw [List.length_drop];omega)
   omega
theorem ztr {α:Type} (sz:α->Nat) (ps:List (Xg)):((ps.map (.inr:Xg->Mb α)).map (wt1 sz)).sum=ps.length:=by
 induction ps with
 | nil=>rfl
 | cons p ps ih=>simp only [List.map_cons,List.sum_cons,List.length_cons,ih,wt1];omega
theorem ziT {α:Type} (sz:α->Nat):∀(ks A:List (Mb α)) (row:Xg) (m:Nat),row.length<=30*m->(∀l,.inr l∈ks->l.length<=30)->((zbn A row ks).map (wt1 sz)).sum<=(A.map (wt1 sz)).sum+m+(ks.map (wt1 sz)).sum
 | [],A,row,m,h,_=>by
  have:=zmF m row h
  simp only [zbn,List.map_append,List.sum_append,List.map_nil,List.sum_nil,ztr]
  omega
 | .inr l::ks,A,row,m,h,hk=>by
  have h1:=hk l (by simp)
  have:=ziT sz ks A (row++l) (m+1) (by rw [List.length_append];omega) (fun x hx=>hk x (by simp [hx]))
  simp only [zbn,List.map_cons,List.sum_cons,wt1]
  omega
 | .inl a::ks,A,row,m,h,hk=>by
  have h2:=zmF m row h
  have:=ziT sz ks (A++(cutL row).map .inr++[.inl a]) [] 0 (Nat.zero_le _) (fun x hx=>hk x (by simp [hx]))
  simp only [zbn,List.map_cons,List.sum_cons,wt1]
  simp only [List.map_append,List.sum_append,List.map_cons,List.map_nil,List.sum_cons,List.sum_nil,wt1,ztr]at this
  omega
def kidM (n:Nat) (k:Tr (n+1)):Mb (Tr (n+1)):=if k.kind=1 then .inr k.text else .inl (zaB (n+1) k)
theorem zmp (n:Nat) (t:Tr (n+2)):zaB (n+2) t=(⟨t.kind,t.name,t.text,t.attrs,(zbn [] [] (t.kids.map (kidM n))).map (unMb n)⟩:Nd (Tr (n+1))):=rfl
def Tdy (n:Nat) (deep:Int) (t:Tr (n+1)) (k:Int):Prop:=zaG (n+1) (zaB (n+1) t)∧(zaB (n+1) t).kind=0∧((encT (n+1) (zaB (n+1) t)).length:Int)<=k∧∀i∈encT (n+1) (zaB (n+1) t),deep+i.deep<=20
theorem zBL {l:List AtV} (h:zaC l):zdq l:=⟨h.1,zBA h,fun x hx=>by
 obtain⟨i,hi,rfl⟩:=List.getElem_of_mem hx
 have:=h.2 i hi
 unfold zda at this
 rw [show l.getD i ([],[])=l[i] by simp [hi]]at this
 exact⟨this.1,this.2.1⟩⟩
theorem znF {n:Nat} {t:Tr (n+1)} (h:zbq t=true) {ks:List (Tr n)} (hv:t.kids=[]->ks=[]) (ha:AdjX (ks.map (encT n))) (hk:∀k∈ks,zaG n k):zaG (n+1) (⟨t.kind,t.name,t.text,t.attrs,ks⟩:Nd (Tr n)):=by
 obtain⟨e1,e2,e3,e4,e5⟩:=(zbH t).1 h
 refine .inr ⟨⟨e1,e2,List.eq_nil_of_length_eq_zero e3,?_⟩,fun Aa=>hv ?_,ha,hk⟩
 ·exact zBL e4
 ·exact Classical.byContradiction fun hc=>e5 ⟨(zdF _).1 Aa,List.length_pos_iff.2 hc⟩
theorem ztb (n:Nat):∀ms:List (Mb (Tr (n+1))),szE (n+1) (ms.map (unMb n))=(ms.map (wt1 fun a=>(encT (n+1) a).length)).sum
 | []=>rfl
 | m::ms=>by
  have h:=ztb n ms
  have e:(encT (n+1) (unMb n m)).length=wt1 (fun a=>(encT (n+1) a).length) m:=by
   cases m<;>rfl
  show (encT (n+1) (unMb n m)).length+szE (n+1) (ms.map (unMb n))=_
  rw [e,h,List.map_cons,List.sum_cons]
theorem znO:∀(n:Nat) (deep:Int) (t:Tr (n+1)) (left:Int),(okT (n+1) deep t left).1=true->t.kind≠1->Tdy n deep t (left-(okT (n+1) deep t left).2)
 | 0,deep,t,left,h,hk=>by
  have hn:t.kids=[]:=ztk
  rw [zdy]at h ⊢
  by_cases h1:left-1<0∨20<deep
  ·rw [if_pos h1]at h;cases h
  rw [if_neg h1,if_neg hk]at h ⊢
  by_cases h2:zbq t=true
  ·rw [if_pos h2,hn]
   have hg:=znF h2 (ks:=[]) (fun _=>rfl) trivial (fun _ h=>by cases h)
   have e:(⟨t.kind,t.name,t.text,t.attrs,t.kids⟩:Nd (Tr 0))=t:=rfl
   rw [hn]at e
   refine⟨by show zaG 1 t;rw [<-e];exact hg,((zbH t).1 h2).1,?_,fun i hi=> ?_⟩
   ·show ((encT 1 t).length:Int)<=_
    rw [zel,hn]
    simp [szE,okK]
    omega
   ·have hi:i∈encT 1 t:=hi
    rw [zbt,hn]at hi
    unfold zav at hi
    rw [show i=_ from List.mem_singleton.1 hi]
    simp
    omega
  ·rw [if_neg h2]at h;cases h
 | n+1,deep,t,left,h,hk=>by
  rw [zdy]at h ⊢
  by_cases h1:left-1<0∨20<deep
  ·rw [if_pos h1]at h;cases h
  rw [if_neg h1,if_neg hk]at h ⊢
  by_cases h2:zbq t=true
  ·rw [if_pos h2]at h ⊢
   have Da:∀(ks:List (Tr (n+1))) (l:Int),(okK (okT (n+1) (deep+1)) ks l).1=true->
     (∀k∈ks,(k.kind=1->zar k.text∧deep+1<=20)∧(k.kind≠1->zaG (n+1) (zaB (n+1) k)∧(zaB (n+1) k).kind=0∧∀i∈encT (n+1) (zaB (n+1) k),deep+1+i.deep<=20))∧(((ks.map (kidM n)).map (wt1 fun a=>(encT (n+1) a).length)).sum:Int)<=l-(okK (okT (n+1) (deep+1)) ks l).2:=by
    intro ks
    induction ks with
    | nil=>intro l _;exact⟨fun _ h=>(by cases h),by simp [okK]⟩
    | cons k ks ih=>
     intro l hl
     rw [okK]at hl ⊢
     by_cases hf:(okT (n+1) (deep+1) k l).1=true
     ·rw [if_pos hf]at hl ⊢
      obtain⟨i1,i2⟩:=ih _ hl
      by_cases hk1:k.kind=1
      ·have hT:zar k.text∧deep+1<=20∧(okT (n+1) (deep+1) k l).2=l-1:=by
        rw [zdy]at hf ⊢
        by_cases h1:l-1<0∨20<deep+1
        ·rw [if_pos h1]at hf;cases hf
        rw [if_neg h1,if_pos hk1]at hf ⊢
        exact⟨((zbK k).1 hf).2.2.2,by omega,rfl⟩
       obtain⟨t1,t2,t3⟩:=hT
       refine⟨fun x hx=> ?_,?_⟩
       ·rcases List.mem_cons.1 hx with rfl | hx
        ·exact⟨fun _=>⟨t1,t2⟩,fun hc=>absurd hk1 hc⟩
        ·exact i1 x hx
       ·rw [t3]at i2 ⊢
        rw [List.map_cons,List.map_cons,List.sum_cons,show kidM n k=.inr k.text from if_pos hk1]
        simp only [wt1]
        omega
      ·obtain⟨q1,q2,q3,q4⟩:=znO n (deep+1) k l hf hk1
       refine⟨fun x hx=> ?_,?_⟩
       ·rcases List.mem_cons.1 hx with rfl | hx
        ·exact⟨fun hc=>absurd hc hk1,fun _=>⟨q1,q2,q4⟩⟩
        ·exact i1 x hx
       ·rw [List.map_cons,List.map_cons,List.sum_cons,show kidM n k=.inl (zaB (n+1) k) from if_neg hk1]
        simp only [wt1]
        omega
     ·rw [if_neg hf]at hl;cases hl
   obtain⟨k1,k2⟩:=Da t.kids (left-1) h
   have Aa:∀m,m∈t.kids.map (kidM n)->∃k∈t.kids,kidM n k=m:=fun m hm=>List.mem_map.1 hm
   have hL:∀a,.inl a∈t.kids.map (kidM n)->zaG (n+1) a∧a.kind=0∧∀i∈encT (n+1) a,deep+1+i.deep<=20:=by
    intro a ha
    obtain⟨k,hk,e⟩:=Aa _ ha
    unfold kidM at e
    split at e
    ·cases e
    ·rename_i Ba
     cases e
     exact (k1 k hk).2 Ba
   have hR:∀l,.inr l∈t.kids.map (kidM n)->zar l∧deep+1<=20:=by
    intro l hl
    obtain⟨k,hk,e⟩:=Aa _ hl
    unfold kidM at e
    split at e
    ·rename_i Ca
     cases e
     exact (k1 k hk).1 Ca
    ·cases e
   have hG:=zhk (n:=n) (Q:=fun a=>∀i∈encT (n+1) a,deep+1+i.deep<=20) (q:=deep+1<=20) (t.kids.map (kidM n)) [] ⟨fun _ h=>(by cases h),fun _ h=>(by cases h),fun _ h=>(by cases h),trivial⟩ hL hR
   have hW:=ziT (fun a=>(encT (n+1) a).length) (t.kids.map (kidM n)) [] [] 0 (Nat.zero_le _) (fun l hl=>(hR l hl).1.1)
   rw [zqq]at hG
   rw [List.map_nil,List.sum_nil,<-ztb]at hW
   unfold Tdy
   rw [zmp]
   generalize hms:zbn [] [] (t.kids.map (kidM n))=ms at *
   refine⟨znF h2 (fun hn=> ?_) ?_ (fun k hk=> ?_),((zbH t).1 h2).1,?_,fun i hi=> ?_⟩
   ·rw [hn]at hms
    rw [<-hms]
    rfl
   ·rw [List.map_map]
    exact hG.adj
   ·obtain⟨m,hm,rfl⟩:=List.mem_map.1 hk
    exact hG.good m hm
   ·refine Int.le_trans (Int.le_of_eq (congrArg Nat.cast (zel (n+1) _))) ?_
    show ((1+szE (n+1) (ms.map (unMb n)):Nat):Int)<=_
    omega
   ·have hi:i∈zav ⟨t.kind,t.name,t.text,t.attrs,(ms.map (unMb n)).map (encT (n+1))⟩:=hi
    rcases List.mem_cons.1 hi with rfl | hi
    ·simp
     omega
    ·obtain⟨l,hl,Fa⟩:=List.mem_flatten.1 hi
     obtain⟨x,hx,rfl⟩:=List.mem_map.1 hl
     obtain⟨j,hj,rfl⟩:=List.mem_map.1 Fa
     obtain⟨k,hk,rfl⟩:=List.mem_map.1 hx
     obtain⟨m,hm,rfl⟩:=List.mem_map.1 hk
     show deep+((j.deep+1:Nat):Int)<=20
     cases m with
     | inl a=>
      have:=(hG.elem a hm).2 j hj
      omega
     | inr l=>
      have Ga:=hG.text l hm
      have hj:j∈txtI l:=hj
      rw [show j=_ from List.mem_singleton.1 hj]
      simp
      omega
  ·rw [if_neg h2]at h;cases h
theorem zAI {n:Nat} {t:Tr (n+1)} (h:okN n t=true):zaG (n+1) (zaB (n+1) t)∧(zaB (n+1) t).kind=0∧okN n (zaB (n+1) t)=true∧szT (n+1) (zaB (n+1) t)<=36000∧(encT (n+1) (zaB (n+1) t)).length<=120∧∀i∈encT (n+1) (zaB (n+1) t),i.deep<=19:=by
 unfold okN at h
 simp only [Bool.and_eq_true,decide_eq_true_eq]at h
 obtain⟨q1,q2,q3,q4⟩:=znO n 1 t 120 h.2 (by rw [h.1];decide)
 have hb:=znY (n+1) 1 t 120 (by omega)
 have h0:=hb.2.2 h.2
 have Aa:(encT (n+1) (zaB (n+1) t)).length<=120:=by omega
 have Ba:=zjn (n+1) _ q1
 have hd:∀i∈encT (n+1) (zaB (n+1) t),i.deep<=19:=fun i hi=>by have:=q4 i hi;omega
 exact⟨q1,q2,zkh q1 q2 Aa hd,by omega,Aa,hd⟩
theorem zlu {α:Type}:∀(l u:Xg) (A:List (Mb α)),u.length+l.length<=30->zew (A++[.inr u]) l=A++[.inr (u++l)]
 | [],u,A,_=>by rw [List.append_nil];rfl
 | x::l,u,A,h=>by
  rw [List.length_cons]at h
  have e:zch (A++[.inr u]) x=A++[.inr (u++[x])]:=by
   unfold zch
   simp only [List.getLast?_append,List.getLast?_singleton,Option.some_or,List.dropLast_concat]
   rw [if_pos (by omega)]
  show zew (zch (A++[.inr u]) x) l=_
  rw [e,zlu l (u++[x]) A (by simp;omega)]
  simp
theorem zsN:∀(L M:List (List Itm)),AdjX (L++M)->AdjX L
 | [],_,_=>trivial
 | [a],_,_=>trivial
 | a::b::r,M,h=>⟨h.1,zsN (b::r) M h.2⟩
theorem zha {n:Nat} {Q:Tr (n+1)->Prop} {q:Prop}:∀(ks acc:List (Mb (Tr (n+1)))),GdM n Q q (acc++ks)->zfa acc ks=acc++ks
 | [],acc,_=>by rw [List.append_nil];rfl
 | .inl a::ks,acc,h=>by
  have e:acc ++ .inl a::ks=(acc++[.inl a])++ks:=by simp
  exact (zha ks (acc++[.inl a]) (by rw [<-e];exact h)).trans e.symm
 | .inr l::ks,acc,h=>by
  have e:acc ++ .inr l::ks=(acc++[.inr l])++ks:=by simp
  obtain⟨t1,t2⟩:=zog (h.good (.inr l) (by simp))
  have hj:zew acc l=acc++[.inr l]:=by
   cases l with
   | nil=>exact absurd rfl t2
   | cons x l=>
    have hb:zch acc x=acc++[.inr [x]]:=by
     unfold zch
     split
     ·rename_i u hu
      obtain⟨dl,rfl⟩:=List.getLast?_eq_some_iff.1 hu
      rw [if_neg]
      intro Aa
      have ha:=h.adj
      rw [e,List.map_append,List.map_append]at ha
      have h2:=((zcL _ _).1 (zsN _ _ ha)).2 (txtI u) (by simp [zpD])
      refine h2 ⟨?_,rfl⟩
      unfold zdu
      rw [zhr (by omega)]
      rfl
     ·rfl
    show zew (zch acc x) l=_
    rw [hb,zlu l [x] acc (by have:=t1.1;simp at this ⊢;omega)]
    rfl
  rw [zfa,hj]
  exact (zha ks (acc++[.inr l]) (by rw [<-e];exact h)).trans e.symm
theorem zlQ:∀(n:Nat) (t:Tr (n+1)),zaG (n+1) t->zaB (n+1) t=t
 | 0,t,_=>rfl
 | n+1,t,h=>by
  have Ba:(t.kids.map (kidM n)).map (unMb n)=t.kids∧GdM n (fun _=>True) True (t.kids.map (kidM n)):=by
   rcases h with ⟨q1,q2,q3,q4,q5,q6⟩ | ⟨⟨q1,q2,q3,q4⟩,q5,q6,q7⟩
   ·rw [q4]
    exact⟨rfl,⟨fun _ h=>(by cases h),fun _ h=>(by cases h),fun _ h=>(by cases h),trivial⟩⟩
   ·have hk:∀k∈t.kids,unMb n (kidM n k)=k∧∀a,kidM n k=.inl a->a.kind=0:=by
     intro k hk
     have hg:=q7 k hk
     unfold kidM
     by_cases h1:k.kind=1
     ·rw [if_pos h1]
      refine⟨?_,fun a ha=>by cases ha⟩
      rcases hg with ⟨p1,p2,p3,p4,p5,p6⟩ | ⟨⟨p1,_⟩,_⟩
      ·show (⟨1,[],k.text,[],[]⟩:Nd (Tr n))=k
       cases k
       simp at p1 p2 p3 p4
       subst p1 p2 p3 p4
       rfl
      ·rw [p1]at h1;cases h1
     ·rw [if_neg h1,zlQ n k hg]
      refine⟨rfl,fun a ha=> ?_⟩
      cases ha
      rcases hg with ⟨p1,_⟩ | ⟨⟨p1,_⟩,_⟩
      ·exact absurd p1 h1
      ·exact p1
    have e:(t.kids.map (kidM n)).map (unMb n)=t.kids:=by
     rw [List.map_map]
     conv=>rhs;rw [<-List.map_id t.kids]
     exact List.map_congr_left fun k Aa=>(hk k Aa).1
    refine⟨e,⟨fun m hm=> ?_,fun a ha=> ?_,fun _ _=>trivial,?_⟩⟩
    ·obtain⟨k,Aa,rfl⟩:=List.mem_map.1 hm
     rw [(hk k Aa).1]
     exact q7 k Aa
    ·obtain⟨k,Aa,e2⟩:=List.mem_map.1 ha
     exact⟨(hk k Aa).2 a e2,trivial⟩
    ·have:(t.kids.map (kidM n)).map (encM n)=t.kids.map (encT (n+1)):=by
      rw [List.map_map]
      refine List.map_congr_left fun k Aa=> ?_
      show encT (n+1) (unMb n (kidM n k))=_
      rw [(hk k Aa).1]
     rw [this]
     exact q6
  obtain⟨e,hG⟩:=Ba
  have hb:=zha (t.kids.map (kidM n)) [] (by rw [List.nil_append];exact hG)
  rw [zqq,List.nil_append]at hb
  rw [zmp,hb,e]
  rfl
end Go.Proofs.YtgjolijncmkkhaaGreatDoor
