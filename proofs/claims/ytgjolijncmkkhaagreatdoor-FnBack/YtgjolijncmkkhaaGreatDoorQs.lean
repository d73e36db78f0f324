/- Own texts joined: InAO, DlA, OwOne, BsA, WtA, RdR, RdS, RdT. -/
import Derived.Test.YtgjolijncmkkhaaGreatDoorQa
import Derived.Test.YtgjolijncmkkhaaGreatDoorQb
import Derived.Test.YtgjolijncmkkhaaGreatDoorQc
import Derived.Test.YtgjolijncmkkhaaGreatDoorQe
import Derived.Test.YtgjolijncmkkhaaGreatDoorQf
import Derived.Test.YtgjolijncmkkhaaGreatDoorQp
import Derived.Test.YtgjolijncmkkhaaGreatDoorQq
import Derived.Test.YtgjolijncmkkhaaGreatDoorQr
import Derived.Deep.RegionLaw
import Derived.Deep.CutBlock
import Derived.Deep.Cut
import Derived.StillTailTactics
namespace Go.Proofs.YtgjolijncmkkhaaGreatDoor
open Go.RowKit
set_option linter.unusedVariables false
set_option maxRecDepth 100000
theorem zjI (size:Nat):∀(Cs:List (Xj)) (i:Nat),(∀k,k<Cs.length->(Cs.getD k []).length=size)->i<=Cs.length->(Cs.take i).flatten=Cs.flatten.take (i*size)∧(Cs.drop i).flatten=Cs.flatten.drop (i*size)
 | Cs,0,_,_=>by simp
 | [],i+1,_,h=>by simp at h
 | C::Cs,i+1,hl,h=>by
  have h0:C.length=size:=by simpa using hl 0 (by simp)
  obtain⟨a,b⟩:=zjI size Cs i (fun k hk=>by simpa using hl (k+1) (by simpa using hk)) (by simpa using h)
  have e:(i+1)*size=C.length+i*size:=by rw [h0,Nat.succ_mul];omega
  constructor
  ·rw [List.take_succ_cons,List.flatten_cons,List.flatten_cons,e,List.take_length_add_append,a]
  ·rw [List.drop_succ_cons,List.flatten_cons,e,List.drop_length_add_append,b]
theorem zov {α:Type} (l:List (List α)) (x:List α) (i k:Nat) (hi:i<=l.length):(l.take i++(x::l.drop i)).getD k []=if k<i then l.getD k [] else if k=i then x else l.getD (k-1) []:=by
 have hl:(l.take i).length=i:=by simp;omega
 rw [List.getD_eq_getElem?_getD,List.getElem?_append,hl]
 by_cases h1:k<i
 ·rw [if_pos h1,if_pos h1,List.getElem?_take,if_pos h1,List.getD_eq_getElem?_getD]
 ·rw [if_neg h1,if_neg h1]
  by_cases h2:k=i
  ·subst h2;simp
  ·rw [if_neg h2,show k-i=(k-i-1)+1 by omega,List.getElem?_cons_succ,List.getElem?_drop,List.getD_eq_getElem?_getD]
   congr 2
   omega
theorem zxH {α:Type} (l:List α) (x:α) (i k:Nat) (hi:i<=l.length) (hk:k<(l.take i++(x::l.drop i)).length):(∃h:k<l.length,k<i∧(l.take i++(x::l.drop i))[k]=l[k])∨(k=i∧(l.take i++(x::l.drop i))[k]=x)∨(∃h:k-1<l.length,i<k∧(l.take i++(x::l.drop i))[k]=l[k-1]):=by
 have hl:(l.take i).length=i:=by simp;omega
 have Aa:k<l.length+1:=by simp at hk;omega
 by_cases h1:k<i
 ·refine .inl ⟨by omega,h1,?_⟩
  rw [List.getElem_append_left (by omega),List.getElem_take]
 ·by_cases h2:k=i
  ·subst h2
   refine .inr (.inl ⟨rfl,?_⟩)
   rw [List.getElem_append_right (by omega)]
   simp [hl]
  ·refine .inr (.inr ⟨by omega,by omega,?_⟩)
   have:(l.take i++(x::l.drop i))[k]? = l[k-1]? :=by
    rw [List.getElem?_append_right (by omega),hl,show k-i=(k-i-1)+1 by omega,List.getElem?_cons_succ,List.getElem?_drop]
    congr 1
    omega
   rw [List.getElem?_eq_getElem hk,List.getElem?_eq_getElem (by omega)]at this
   exact Option.some.inj this
theorem flat_ins_memA {Fs:List (Xh)} {G:Xh} {i q:Nat}:q∈(Fs.take i++(G::Fs.drop i)).flatten↔q∈Fs.flatten∨q∈G:=by
 have e:Fs.flatten=(Fs.take i).flatten++(Fs.drop i).flatten:=by rw [<-List.flatten_append,List.take_append_drop]
 rw [List.flatten_append,List.flatten_cons,e]
 simp only [List.mem_append]
 constructor
 ·rintro (h | h | h)
  ·exact .inl (.inl h)
  ·exact .inr h
  ·exact .inl (.inr h)
 ·rintro ((h | h) | h)
  ·exact .inl h
  ·exact .inr (.inr h)
  ·exact .inr (.inl h)
theorem zkF {Fs:List (Xh)} {G:Xh} {i:Nat} (h:Fs.flatten.Nodup) (hG:G.Nodup) (hd:∀q∈Fs.flatten,q∉G):(Fs.take i++(G::Fs.drop i)).flatten.Nodup:=by
 have e:Fs.flatten=(Fs.take i).flatten++(Fs.drop i).flatten:=by rw [<-List.flatten_append,List.take_append_drop]
 rw [e]at h hd
 have h':=List.nodup_append.1 h
 rw [List.flatten_append,List.flatten_cons]
 refine List.nodup_append.2 ⟨h'.1,List.nodup_append.2 ⟨hG,h'.2.1,fun a ha b hb e=>hd b (List.mem_append_right _ hb) (e ▸ ha)⟩,fun a ha b hb e=> ?_⟩
 rcases List.mem_append.1 hb with hb | hb
 ·exact hd a (List.mem_append_left _ ha) (e ▸ hb)
 ·exact h'.2.2 a ha b hb e
theorem zgW {w:Xk} {C:Xj} {o:Xg×Xg} {F:Xh} (h:OwAttr w C o F):∀u∈C,u.oneCell'=true:=by
 obtain⟨a,b,rfl,h1,h2,_⟩:=h
 obtain⟨p4,k4,rfl,_,_⟩:=h1.byt.shape
 obtain⟨p5,k5,rfl,_,_⟩:=h2.byt.shape
 intro u hu
 simp at hu
 rcases hu with rfl | rfl<;>rfl
theorem zgS {w:Xk} {C:Xj} {o:Xg×Xg} {F:Xh} (h:OwAttr w C o F):C.length=2:=by
 obtain⟨a,b,rfl,_⟩:=h;rfl
theorem zys (w:Xk) (v:Xl) (l:List (Xg×Xg)) (F:Xh) (i vb:Nat) (C:Xj) (o:Xg×Xg) (G:Xh) (h:OwAttrs w v l F) (hN:F.Nodup) (hi:i<=l.length) (hn:l.length<=100000)
  (hl:Loc w vb C.toArray 132) (ho:OwAttr w C o G) (hG:G.Nodup) (hFG:∀q∈F,q∉G) (hvF:vb∉F) :
  Calls Tryz.prog 199 #[v,.int .i64 i,.slice (some ⟨vb,0,none⟩) 1 1] w fun e w'=>∃u F',e=.returned u∧OwAttrs w' u (l.take i++(o::l.drop i)) F'∧F'.Nodup∧(∀q∈F',q∈F∨q∈G∨(w.heap.size<=q∧q<w'.heap.size))∧Frm w w' (FB v):=by
 have Ha:=h.lt
 have hR:=h.rd
 obtain⟨Cs,Fs,e1,e2,e3,e4,rfl⟩:=h
 have hC:∀k,k<Cs.length->(Cs.getD k []).length=2:=fun k hk=>(e3 k (by omega)).1
 have Ga:∀u∈Cs.flatten,u.oneCell'=true:=by
  intro u hu
  obtain⟨D,hD,hu⟩:=List.mem_flatten.1 hu
  obtain⟨k,hk,rfl⟩:=List.getElem_of_mem hD
  have e':Cs.getD k []=Cs[k]:=by simp [List.getD_eq_getElem?_getD,hk]
  have:=(e3 k (by omega)).2
  rw [e']at this
  exact zgW this u hu
 have Ba:Calls Tryz.prog 199 #[v,.int .i64 i,.slice (some ⟨vb,0,none⟩) 1 1] w (zjA w v l.length (Cs.flatten.take (i*2)++(C++Cs.flatten.drop (i*2)))):=by
  by_cases hin:i=l.length
  ·have e:i*2=Cs.flatten.length:=by rw [e4.1,hin]
   rw [e,List.take_length,List.drop_length,List.append_nil,hin]
   exact zxE w v l.length vb _ C e4 (zgS ho) hl (zgW ho) hn
  ·rcases e4.2 with ⟨rfl,h0⟩ | ⟨g,Ca,Ia,rfl,_,hg,Ja,_⟩
   ·omega
   ·by_cases hroom:Ca<l.length+1
    ·exact zvS w g l.length Ca i vb _ C e4 (zgS ho) hl (zgW ho) Ga hn (by omega) hroom
    ·exact ztC w g l.length Ca i vb _ C e4 (zgS ho) hl (zgW ho) Ga hn (by omega) (by omega) (fun e=>hvF (List.mem_append_left _ (by simp [FB,Value.ownBlock,e])))
 refine Ba.mono ?_
 rintro e w' ⟨g,Ca,rfl,k1,k2,k3,k4⟩
 have Da:∀q∈Fs.flatten,q∉FB v:=fun q hq hv=>(List.nodup_append.1 hN).2.2 q hv q hq rfl
 have Fa:∀q∈G,q∉FB v:=fun q hq hv=>hFG q (List.mem_append_left _ hv) hq
 obtain⟨t1,t2⟩:=zjI 2 Cs i hC (by omega)
 refine⟨_,FB (.slice (some ⟨g,0,none⟩) (l.length+1) Ca)++(Fs.take i++(G::Fs.drop i)).flatten,rfl,⟨Cs.take i++(C::Cs.drop i),Fs.take i++(G::Fs.drop i),by simp;omega,by simp;omega,fun k hk=> ?_,?_,?_⟩,?_,?_,k2⟩
 ·rw [zov Cs C i k (by omega),zov Fs G i k (by omega)]
  rcases zxH l o i k hi hk with ⟨h,Aa,e⟩ | ⟨rfl,e⟩ | ⟨h,Aa,e⟩
  ·rw [e,if_pos Aa,if_pos Aa]
   exact⟨(e3 k h).1,(e3 k h).2.frm k2 (fun q hq=>Da q (zaH hq))⟩
  ·rw [e,if_neg (Nat.lt_irrefl _),if_pos rfl,if_neg (Nat.lt_irrefl _),if_pos rfl]
   exact⟨zgS ho,ho.frm k2 Fa⟩
  ·rw [e,if_neg (by omega),if_neg (by omega),if_neg (by omega),if_neg (by omega)]
   exact⟨(e3 _ h).1,(e3 _ h).2.frm k2 (fun q hq=>Da q (zaH hq))⟩
 ·have e:(l.take i++(o::l.drop i)).length=l.length+1:=by simp;omega
  rw [e,List.flatten_append,List.flatten_cons,t1,t2]
  exact k1
 ·have e:(l.take i++(o::l.drop i)).length=l.length+1:=by simp;omega
  rfl
 ·refine List.nodup_append.2 ⟨zaU _,zkF (List.nodup_append.1 hN).2.1 hG (fun q hq=>hFG q (List.mem_append_right _ hq)),fun a ha b hb e=> ?_⟩
  have ea:a=g:=by simpa [FB,Value.ownBlock]using ha
  subst e
  subst ea
  rcases flat_ins_memA.1 hb with hb | hb
  ·rcases k3 with k3 | k3
   ·exact Da a hb (by simp [FB,k3])
   ·have:=Ha a (List.mem_append_right _ hb);omega
  ·rcases k3 with k3 | k3
   ·exact Fa a hb (by simp [FB,k3])
   ·obtain⟨kk,nn,_,a1,a2,rfl⟩:=ho
    have:a<w.heap.size:=by
     rcases List.mem_append.1 hb with hb | hb
     ·exact (a1.rng a hb).2
     ·exact (a2.rng a hb).2
    omega
 ·intro q hq
  rcases List.mem_append.1 hq with hq | hq
  ·have eq:q=g:=by simpa [FB,Value.ownBlock]using hq
   subst eq
   rcases k3 with k3 | k3
   ·exact .inl (List.mem_append_left _ (by simp [FB,k3]))
   ·exact .inr (.inr ⟨k3,k4⟩)
  ·rcases flat_ins_memA.1 hq with hq | hq
   ·exact .inl (List.mem_append_right _ hq)
   ·exact .inr (.inl hq)
theorem OwElems.one {α:Type} {R:Xk->Xj->α->Xh->Prop} (hRf:∀{w w':Xk} {S:Xh} {C:Xj} {x:α} {G:Xh},R w C x G->Frm w w' S->(∀g∈G,g∉S)->R w' C x G)
  {w:Xk} {T:Xm} {size g cap:Nat} {l:List α} {F:Xh} (h:OwElems w T size (.slice (some ⟨g,0,none⟩) l.length cap) l (R w) F) (hN:F.Nodup) (k:Nat) (hk:k<l.length) :
  ∃Cs C G,RowJ w T size g l.length cap Cs k C∧R w C l[k] G∧G.Nodup∧(∀q∈G,q∈F)∧g∈F∧g∉G∧
   ∀(w':Xk) (S:Xh) (D:Xj) (p':α) (G':Xh),RowJ w' T size g l.length cap Cs k D->Frm w w' S->(∀q∈F,q∉G->q≠g->q∉S)->R w' D p' G'->G'.Nodup->(∀q∈G',q∈G∨q∉F)->
    ∃F',OwElems w' T size (.slice (some ⟨g,0,none⟩) (l.set k p').length cap) (l.set k p') (R w') F'∧F'.Nodup∧∀q∈F',q∈F∨q∈G':=by
 obtain⟨Cs,Fs,e1,e2,e3,e4,rfl⟩:=h
 have hC:∀i,i<Cs.length->(Cs.getD i []).length=size:=fun i hi=>(e3 i (by omega)).1
 have Aa:g∉Fs.flatten:=fun hq=>(List.nodup_append.1 hN).2.2 g (by simp [FB,Value.ownBlock]) g hq rfl
 have Ba:=(List.nodup_append.1 hN).2.1
 refine⟨Cs,Cs.getD k [],Fs.getD k [],RowJ.start e1 hC k hk e4,(e3 k hk).2,zhH Ba,fun q hq=>List.mem_append_right _ (zaH hq),by simp [FB,Value.ownBlock],fun hq=>Aa (zaH hq),?_⟩
 intro w' S D p' G' hR f hS hp Ga Da
 have Fa:g∉G':=fun hq=>by
  rcases Da g hq with h1 | h1
  ·exact Aa (zaH h1)
  ·exact h1 (by simp [FB,Value.ownBlock])
 refine⟨FB (.slice (some ⟨g,0,none⟩) l.length cap)++(Fs.set k G').flatten,⟨Cs.set k D,Fs.set k G',by simp [e1],by simp [e2],fun i hi=> ?_,?_,?_⟩,?_,?_⟩
 ·have Ca:i<l.length:=by simpa using hi
  by_cases e:i=k
  ·subst e
   rw [zeA _ _ _ (by omega),zeA _ _ _ (by omega),List.getElem_set_self]
   exact⟨hR.lenD,hp⟩
  ·rw [zgq _ _ _ _ e,zgq _ _ _ _ e,List.getElem_set_ne (Ne.symm e)]
   exact⟨(e3 i Ca).1,hRf (e3 i Ca).2 f (fun q hq=>hS q (List.mem_append_right _ (zaH hq)) (zhb Ba e q hq) (fun e9=>Aa (by rw [<-e9];exact zaH hq)))⟩
 ·rw [List.length_set]
  exact hR.row
 ·rw [List.length_set]
 ·refine List.nodup_append.2 ⟨zaU _,zgE Ba Ga (fun q hq=>(Da q hq).imp id (fun h1 h2=>h1 (List.mem_append_right _ h2))),fun a ha b hb e=> ?_⟩
  have ea:a=g:=by simpa [FB,Value.ownBlock]using ha
  subst e
  subst ea
  rcases zfu hb with hb | hb
  ·exact Aa hb
  ·exact Fa hb
 ·intro q hq
  rcases List.mem_append.1 hq with hq | hq
  ·exact .inl (List.mem_append_left _ hq)
  ·rcases zfu hq with hq | hq
   ·exact .inl (List.mem_append_right _ hq)
   ·exact .inr hq
theorem zlA (w:Xk) (x:AtV) (a1 a2 a3:Xi) (c1 c2 c3:Nat) (n:Xg) (h1:Byt w (.slice a1 x.1.length c1) x.1) (h2:Byt w (.slice a3 n.length c3) n) :
  Calls Tryz.prog 182 #[.agg #[.slice a1 x.1.length c1,.slice a2 x.2.length c2],.slice a3 n.length c3] w fun e w'=>e=.returned (.int .i64 (cmpB x.1 n))∧Below w.heap.size w w':=by
 have hA:=(Below.refl w.heap.size w).alloc (Nat.le_refl _) (.cells #[.slice a1 x.1.length c1,.slice a2 x.2.length c2] 132)
 have lb:=Loc.made w #[.slice a1 x.1.length c1,.slice a2 x.2.length c2] 132
 have b0:=lb.cell 0
 have HC:=hide (zqw (w.alloc (.cells #[.slice a1 x.1.length c1,.slice a2 x.2.length c2] 132)) _ _ x.1 n (h1.keep hA) (h2.keep hA))
 have HB:=hide hA
 clear hA lb h1 h2
 generalize cmpB x.1 n=z at *
 go_enter Tryz.func182,Tryz.ntmps182
 go_wp2_with fail
 refine (zaa HC).mono ?_
 rintro e w1 ⟨rfl,Aa⟩
 subst w1
 go_wp2_with fail
 go_ret
 exact⟨rfl,zaa HB⟩
set_option maxHeartbeats 6400000 in
theorem zjV (w:Xk) (v:Xl) (l:List AtV) (n:Xg) (a3:Xi) (c3:Nat) (h:RdAttrs w v l) (hn:Byt w (.slice a3 n.length c3) n) (hs:SrtA l) (hl:l.length<=100000) :
  Calls Tryz.prog 181 #[v,.slice a3 n.length c3,.func (.func 182) #[] #[]] w fun e w'=>e=.returned (.tuple #[.int .i64 (posA l n:Int),.bool (zbl l n)])∧Below w.heap.size w w':=by
 refine zaw ?_
 intro Q HQ
 have HS:=hide hs
 have HR:=hide h
 have HN:=hide hn
 obtain⟨av,cv,rfl,_,_⟩:=Elems.shape h
 clear h hs hn
 go_enter Tryz.func181,Tryz.ntmps181
 go_wp2_with fail
 go_loopw [9,10,11] (fun i j _ wr=>∃a b:Nat,a<=b∧b<=l.length∧i=.int .i64 a∧j=.int .i64 b∧Hid ((∀k (hk:k<l.length),k<a->zbd n l[k]=true)∧(∀k (hk:k<l.length),b<=k->zbd n l[k]=false))∧Below w.heap.size w wr) (fun i j _ _=>(intOf j).toNat-(intOf i).toNat)
 case atStart=>exact⟨0,l.length,Nat.zero_le _,Nat.le_refl _,rfl,rfl,hide ⟨fun k _ hk=>by omega,fun k hk hb=>by omega⟩,Below.refl _ _⟩
 case round=>
  obtain⟨a,b,fa,Ta,rfl,rfl,HI,hB⟩:=hrel
  by_cases hlt:a<b
  ·have Za:(a:Int)<(b:Int):=by omega
   obtain⟨m,hm⟩:∃m:Nat,m=(a+b) / 2:=⟨_,rfl⟩
   have Ga:m<l.length:=by omega
   have Ma:a<=m:=by omega
   have Qa:m<b:=by omega
   have Ka:((a:Int)+(b:Int)) / 2=(m:Int):=by omega
   have Ya:=hide (And.intro Ka (And.intro Ga (And.intro Ma Qa)))
   have Fa:=hide hB
   clear Ka Ga Ma Qa hm hB
   go_upto_region 5 with fail
   obtain⟨Ka,Ga,Ma,Qa⟩:=zaa Ya
   clear Ya
   rw [Ka]
   clear Ka
   have ba:(0:Int)<=(m:Int):=by omega
   have Pa:(m:Int)<(l.length:Int):=by omega
   obtain⟨pb,Ba,Oa,Ia,_,_,C,da,Aa,Ra⟩:=Elems.at (zaa HR) Ga
   obtain⟨y0,y1,eC,Da,Ha⟩:=Ra
   obtain⟨a1,c1,rfl,_⟩:=Da.shape
   obtain⟨a2,c2,rfl,_⟩:=Ha.shape
   subst Oa
   have hB:=zaa Fa
   have u0:wr.cell? ⟨pb,Ba+m*2,none⟩=some (.slice a1 l[m].1.length c1):=by have h7:=Aa 0 (by decide);rw [eC]at h7;simp only [List.getElem?_cons_zero,Nat.add_zero]at h7;exact (hB.cell (p:=⟨pb,Ba+m*2,none⟩) Ia).trans h7
   have u1:wr.cell? ⟨pb,Ba+m*2+1,none⟩=some (.slice a2 l[m].2.length c2):=by have h7:=Aa 1 (by decide);rw [eC]at h7;simp only [List.getElem?_cons_succ,List.getElem?_cons_zero]at h7;exact (hB.cell (p:=⟨pb,Ba+m*2+1,none⟩) Ia).trans h7
   have hn:=zaa HN
   have HC:=hide (zlA wr l[m] a1 a2 a3 c1 c2 c3 n (Da.keep hB) (hn.keep hB))
   clear Aa eC hB
   have Wa:=zBp Da.1 hn.1
   have HD:=hide (And.intro (fun (ha:zbd n l[m]=true)=>(show ((∀k (hk:k<l.length),k<m+1->zbd n l[k]=true)∧(∀k (hk:k<l.length),b<=k->zbd n l[k]=false)) from ⟨fun k hk Ua=>zkc (zaa HS) (by omega) Ga ha,(zaa HI).2⟩)) (fun (ha:zbd n l[m]=false)=>(show ((∀k (hk:k<l.length),k<a->zbd n l[k]=true)∧(∀k (hk:k<l.length),m<=k->zbd n l[k]=false)) from ⟨(zaa HI).1,fun k hk Ua=>by
    cases hak:zbd n l[k]with
    | false=>rfl
    | true=>have:=zkc (zaa HS) Ua hk hak;rw [ha]at this;cases this⟩)))
   have Na:decide (cmpB l[m].1 n<0)=zbd n l[m]:=Wa
   clear Wa Da Ha hn
   generalize zbd n l[m]=am at *
   generalize cmpB l[m].1 n=z at *
   generalize l[m]=o at *
   go_wp2_with fail
   refine (zaa HC).mono ?_
   rintro e w2 ⟨rfl,La⟩
   have Xa:=zal (zaa Fa) La
   clear u0 u1 HC La
   cases am with
   | true=>
    have aa:z<0:=by simpa using Na
    clear Na
    have Sa:=hide ((zaa HD).1 rfl)
    clear HD HI
    go_wp2_with fail
    go_roundw
    case rel=>exact⟨m+1,b,by omega,Ta,by go_num,rfl,Sa,Xa⟩
    case measure=>simp [intOf];omega
   | false=>
    have aa:¬ z<0:=by simpa using Na
    clear Na
    have Sa:=hide ((zaa HD).2 rfl)
    clear HD HI
    go_wp2_with fail
    go_roundw
    case rel=>exact⟨a,m,Ma,by omega,rfl,rfl,Sa,Xa⟩
    case measure=>simp [intOf];omega
  ·have e:b=a:=by omega
   subst e
   have Ca:posA l n=b:=zAQ Ta (zaa HI).1 (fun hk=>(zaa HI).2 b hk (Nat.le_refl _))
   have Fa:=hide hB
   clear HI hB
   by_cases hbn:b<l.length
   ·have Ja:zbl l n=decide (l[b].1=n):=by unfold zbl;simp only [Ca,hbn,dite_true]
    have ba:(0:Int)<=(b:Int):=by omega
    have Pa:(b:Int)<(l.length:Int):=by omega
    have ca:¬ (b:Int)<(b:Int):=by omega
    have Ga:=hbn
    obtain⟨pb,Ba,Oa,Ia,_,_,C,da,Aa,Ra⟩:=Elems.at (zaa HR) Ga
    obtain⟨y0,y1,eC,Da,Ha⟩:=Ra
    obtain⟨a1,c1,rfl,_⟩:=Da.shape
    obtain⟨a2,c2,rfl,_⟩:=Ha.shape
    subst Oa
    have hB:=zaa Fa
    have u0:wr.cell? ⟨pb,Ba+b*2,none⟩=some (.slice a1 l[b].1.length c1):=by have h7:=Aa 0 (by decide);rw [eC]at h7;simp only [List.getElem?_cons_zero,Nat.add_zero]at h7;exact (hB.cell (p:=⟨pb,Ba+b*2,none⟩) Ia).trans h7
    have u1:wr.cell? ⟨pb,Ba+b*2+1,none⟩=some (.slice a2 l[b].2.length c2):=by have h7:=Aa 1 (by decide);rw [eC]at h7;simp only [List.getElem?_cons_succ,List.getElem?_cons_zero]at h7;exact (hB.cell (p:=⟨pb,Ba+b*2+1,none⟩) Ia).trans h7
    have hn:=zaa HN
    have HC:=hide (zlA wr l[b] a1 a2 a3 c1 c2 c3 n (Da.keep hB) (hn.keep hB))
    clear Aa eC hB
    have Va:=zze Da.1 hn.1
    have HT:=hide (And.intro Ca (Ja.trans Va.symm))
    clear Ja Va Ca Da Ha hn
    generalize cmpB l[b].1 n=z at *
    generalize l[b]=o at *
    go_wp2_with fail
    refine (zaa HC).mono ?_
    rintro e w2 ⟨rfl,La⟩
    have HE:=hide (zaa HQ (.returned (.tuple #[.int .i64 (posA l n:Int),.bool (zbl l n)])) w2 ⟨rfl,zal (zaa Fa) La⟩)
    rw [(zaa HT).1,(zaa HT).2]at HE
    clear HQ HT Fa HC La u0 u1
    go_wp2_with fail
    exact zaa HE
   ·have Ja:zbl l n=false:=by unfold zbl;simp only [Ca,hbn,dite_false]
    have ea:b=l.length:=by omega
    subst ea
    have HE:=hide (zaa HQ (.returned (.tuple #[.int .i64 (posA l n:Int),.bool (zbl l n)])) wr ⟨rfl,zaa Fa⟩)
    rw [Ca,Ja]at HE
    clear Ca Ja hbn HQ Fa
    have ca:¬ (l.length:Int)<(l.length:Int):=by omega
    go_wp2_with fail
    exact zaa HE
set_option maxHeartbeats 6400000 in
theorem zqN (w:Xk) (av:Xi) (cv:Nat) (l:List AtV) (F:Xh) (n t:Xg) (a1 a2:Xi) (c1 c2:Nat) (G:Xh) (h:OwAttrs w (.slice av l.length cv) l F) (hN:F.Nodup) (hs:SrtA l) (hl:l.length<=4)
  (hG:OwAttr w [.slice a1 n.length c1,.slice a2 t.length c2] (n,t) G) (hGN:G.Nodup) (hFG:∀q∈F,q∉G) (ht:zbl l n=false) (hnm:zat n) :
  Calls Tryz.prog 176 #[.slice av l.length cv,.agg #[.slice a1 n.length c1,.slice a2 t.length c2]] w fun e w'=>∃u F',e=.returned u∧OwAttrs w' u (if l.length=4 then l else l.take (posA l n)++((n,t)::l.drop (posA l n))) F'∧F'.Nodup∧(∀q∈F',q∈F∨q∈G∨w.heap.size<=q)∧Frm w w' F:=by
 refine zaw ?_
 intro Q HQ
 have hA:Below w.heap.size w (w.alloc (.cells #[.slice a1 n.length c1,.slice a2 t.length c2] 132)):=(Below.refl _ _).alloc (Nat.le_refl _) _
 have lb:=Loc.made w #[.slice a1 n.length c1,.slice a2 t.length c2] 132
 have b0:=lb.cell 0
 have b1:=lb.cell 1
 have h1:OwAttrs (w.alloc (.cells #[.slice a1 n.length c1,.slice a2 t.length c2] 132)) _ l F:=OwAttrs.frm h (Frm.ofBelow hA []) (fun _ _=>by simp)
 have Fa:OwAttr (w.alloc (.cells #[.slice a1 n.length c1,.slice a2 t.length c2] 132)) _ (n,t) G:=OwAttr.frm hG (Frm.ofBelow hA []) (fun _ _=>by simp)
 have Da:Byt (w.alloc (.cells #[.slice a1 n.length c1,.slice a2 t.length c2] 132)) (.slice a1 n.length c1) n:=by obtain⟨x,y,e,q1,_⟩:=Fa;cases e;exact q1.byt
 have Ba:∀q∈FB (.slice av l.length cv),q∈F:=fun q hq=>by
  obtain⟨_,_,_,_,_,_,e⟩:=h
  rw [e]
  exact List.mem_append_left _ hq
 have HS:=hide (zjV _ _ l n a1 c1 (OwAttrs.rd h1) Da hs (by omega))
 rw [ht]at HS
 have Ia:=OwAttrs.lt h
 have Na:=zAo l n
 have HX:=hide (And.intro hA (And.intro lb (And.intro h1 (And.intro Fa (And.intro Da (And.intro Ba Ia))))))
 clear hA lb h1 Fa Da h hG ht hs Ba Ia
 go_enter Tryz.func176,Tryz.ntmps176
 go_wp2_with fail
 refine (zaa HS).mono ?_
 rintro e w2 ⟨rfl,Ca⟩
 obtain⟨hA,lb,h1,Fa,Da,Ba,Ia⟩:=zaa HX
 have h2:OwAttrs w2 _ l F:=OwAttrs.frm h1 (Frm.ofBelow Ca []) (fun _ _=>by simp)
 have La:OwAttr w2 _ (n,t) G:=OwAttr.frm Fa (Frm.ofBelow Ca []) (fun _ _=>by simp)
 have Ja:=lb.all Ca
 have Aa:=Da.keep Ca
 have Ha:=zal hA Ca
 clear HS HX hA lb h1 Fa Da Ca b0 b1
 have b0:=Ja.cell 0
 have b1:=Ja.cell 1
 by_cases h4:l.length=4
 ·have HE:=hide (zaa HQ (.returned (.slice av l.length cv)) w2 ⟨_,F,rfl,by rw [if_pos h4];exact h2,hN,fun q hq=>.inl hq,Frm.ofBelow Ha _⟩)
  rw [h4]at HE
  have Ta:(l.length:Int)=4:=by omega
  clear h2 La Ja Aa Ha HQ Na
  go_wp2_with fail
  exact zaa HE
 ·have Ta:¬ (l.length:Int)=4:=by omega
  have Ga:Below w2.heap.size w2 (w2.alloc (.cells #[.slice a1 n.length c1,.slice a2 t.length c2] 132)):=(Below.refl _ _).alloc (Nat.le_refl _) _
  have lv:=Loc.made w2 #[.slice a1 n.length c1,.slice a2 t.length c2] 132
  have h3:OwAttrs (w2.alloc (.cells #[.slice a1 n.length c1,.slice a2 t.length c2] 132)) _ l F:=OwAttrs.frm h2 (Frm.ofBelow Ga []) (fun _ _=>by simp)
  have Ma:OwAttr (w2.alloc (.cells #[.slice a1 n.length c1,.slice a2 t.length c2] 132)) _ (n,t) G:=OwAttr.frm La (Frm.ofBelow Ga []) (fun _ _=>by simp)
  have Pa:=OwAttrs.lt h2
  have HI:=hide (zys _ _ l F (posA l n) w2.heap.size [.slice a1 n.length c1,.slice a2 t.length c2] (n,t) G h3 hN Na (by omega) lv Ma hGN hFG (fun e=>by have:=Pa _ e;omega))
  have HY:=hide (And.intro (zal Ha Ga) (And.intro Aa (And.intro Ba (show w.heap.size<=(w2.alloc (.cells #[.slice a1 n.length c1,.slice a2 t.length c2] 132)).heap.size from (zal Ha Ga).size))))
  clear h2 La Ja Ha Ga lv h3 Ma Pa Ba Ia Aa
  generalize hpp:posA l n=pp at *
  go_wp2_with (go_at_call 64;refine (zoq w2 _ n (zaa HY).2.1 hnm).mono ?_;rintro e w9 ⟨rfl,rfl⟩)
  refine (zaa HI).mono ?_
  rintro e w4 ⟨u,F4,rfl,Ka,Ra,Oa,Qa⟩
  obtain⟨Sa,_,Ba,Ua⟩:=zaa HY
  obtain⟨au,cu,rfl,_⟩:=Elems.shape (OwAttrs.rd Ka)
  have HE:=hide (zaa HQ (.returned (.slice au _ cu)) w4 ⟨_,F4,rfl,by rw [if_neg h4];exact Ka,Ra,fun q hq=>by rcases Oa q hq with e | e | e;(exact .inl e);(exact .inr (.inl e));(exact .inr (.inr (by omega))),(Frm.ofBelow Sa F).trans (Qa.mono Ba)⟩)
  clear Ka Ra Oa Qa Sa HI HY HQ
  generalize (l.take pp++((n,t)::l.drop pp)).length=len4 at HE ⊢
  go_wp2_with fail
  exact zaa HE
theorem zxa (w:Xk) (v:Xl) (l:Xg) (h:Byt w v l):Calls Tryz.prog 64 #[v] w fun e w'=>e=.returned (.bool (zaJ l))∧w'=w:=by
 by_cases hn:zat l
 ·rw [(zby l).2 hn];exact zoq w v l h hn
 ·rw [Bool.eq_false_iff.2 (fun k=>hn ((zby l).1 k))];exact zxv w v l h hn
set_option maxHeartbeats 6400000 in
theorem zuZ (w:Xk) (av:Xi) (cv:Nat) (l:List AtV) (n:Xg) (a1 a2:Xi) (c1 n2 c2:Nat) (h:RdAttrs w (.slice av l.length cv) l) (hs:SrtA l) (hl:l.length<=4) (hn:Byt w (.slice a1 n.length c1) n) (hc:zbl l n=true∨l.length=4∨zaJ n=false) :
  Calls Tryz.prog 176 #[.slice av l.length cv,.agg #[.slice a1 n.length c1,.slice a2 n2 c2]] w fun e w'=>e=.returned (.slice av l.length cv)∧Below w.heap.size w w':=by
 refine zaw ?_
 intro Q HQ
 have hA:Below w.heap.size w (w.alloc (.cells #[.slice a1 n.length c1,.slice a2 n2 c2] 132)):=(Below.refl _ _).alloc (Nat.le_refl _) _
 have lb:=Loc.made w #[.slice a1 n.length c1,.slice a2 n2 c2] 132
 have b0:=lb.cell 0
 have HS:=hide (zjV _ _ l n a1 c1 (h.keep hA) (hn.keep hA) hs (by omega))
 have HX:=hide (And.intro hA (And.intro lb (hn.keep hA)))
 clear hA lb h hn hs
 generalize posA l n=pp at *
 go_enter Tryz.func176,Tryz.ntmps176
 go_wp2_with fail
 refine (zaa HS).mono ?_
 rintro e w2 ⟨rfl,Ba⟩
 obtain⟨hA,lb,Aa⟩:=zaa HX
 have Ca:=lb.all Ba
 have b0:=Ca.cell 0
 have HN:=hide (zxa w2 _ n (Aa.keep Ba))
 have HE:=hide (zaa HQ (.returned (.slice av l.length cv)) w2 ⟨rfl,zal hA Ba⟩)
 clear HX hA lb Ba Aa Ca HQ HS
 cases ht:zbl l n with
 | true=>
  clear hc
  go_wp2_with fail
  exact zaa HE
 | false=>
  rw [ht]at hc
  by_cases h4:l.length=4
  ·have Da:(l.length:Int)=4:=by omega
   rw [h4]at HE
   clear hc
   go_wp2_with fail
   exact zaa HE
  ·have Da:¬ (l.length:Int)=4:=by omega
   have Aa:zaJ n=false:=by rcases hc with e | e | e;cases e;exact absurd e h4;exact e
   rw [Aa]at HN
   clear hc Aa
   go_wp2_with (go_at_call 64;refine (zaa HN).mono ?_;rintro e w9 ⟨rfl,rfl⟩)
   exact zaa HE
theorem znP (w:Xk) (av:Xi) (cv:Nat) (l:List AtV) (F:Xh) (n t:Xg) (a1 a2:Xi) (c1 c2:Nat) (G:Xh) (h:OwAttrs w (.slice av l.length cv) l F) (hN:F.Nodup) (hs:SrtA l) (hl:l.length<=4)
  (hG:OwAttr w [.slice a1 n.length c1,.slice a2 t.length c2] (n,t) G) (hGN:G.Nodup) (hFG:∀q∈F,q∉G) :
  Calls Tryz.prog 176 #[.slice av l.length cv,.agg #[.slice a1 n.length c1,.slice a2 t.length c2]] w fun e w'=>∃u c F',e=.returned (.slice u (zaS l (n,t)).length c)∧OwAttrs w' (.slice u (zaS l (n,t)).length c) (zaS l (n,t)) F'∧F'.Nodup∧(∀q∈F',q∈F∨q∈G∨w.heap.size<=q)∧Frm w w' F:=by
 by_cases hc:zbl l n=true∨l.length=4∨zaJ n=false
 ·have Aa:Byt w (.slice a1 n.length c1) n:=by obtain⟨x,y,e,q1,_⟩:=hG;cases e;exact q1.byt
  have ek:zaS l (n,t)=l:=by unfold zaS;rw [if_pos hc]
  rw [ek]
  refine (zuZ w av cv l n a1 a2 c1 _ c2 (OwAttrs.rd h) hs hl Aa hc).mono ?_
  rintro e w' ⟨rfl,hB⟩
  exact⟨av,cv,F,rfl,OwAttrs.frm h (Frm.ofBelow hB []) (fun _ _=>by simp),hN,fun q hq=>.inl hq,Frm.ofBelow hB _⟩
 ·have ek:zaS l (n,t)=if l.length=4 then l else l.take (posA l n)++((n,t)::l.drop (posA l n)):=by
   unfold zaS
   rw [if_neg hc,if_neg (fun e=>hc (.inr (.inl e)))]
  simp only [not_or,Bool.not_eq_true,Bool.not_eq_false]at hc
  rw [ek]
  refine (zqN w av cv l F n t a1 a2 c1 c2 G h hN hs hl hG hGN hFG hc.1 ((zby n).1 hc.2.2)).mono ?_
  rintro e w' ⟨u,F',rfl,h1,h2,h3,h4⟩
  obtain⟨au,cu,rfl,_⟩:=Elems.shape (OwAttrs.rd h1)
  exact⟨au,cu,F',rfl,h1,h2,h3,h4⟩
theorem Rd.name {B:Nat} {a:Xi} {cap:Nat} {l:Xg} {o3 o4 o5 o6 o7 o8:Xl} {w0 W:Xk} {g k:Nat} (h:Rd B a cap l o3 o4 o5 o6 o7 o8 w0 g k W) (hag:∀x,a=some x->l≠[]->x.block≠g) (hn:l.length<=1500) :
  Calls Tryz.prog 142 #[.pointer (some ⟨g,0,none⟩)] W fun e w'=>∃a' c',e=.returned (.slice a' (zaE (l.drop k)).1.length c')∧Own w' W.heap.size (.slice a' (zaE (l.drop k)).1.length c') (zaE (l.drop k)).1∧Rd B a cap l o3 o4 o5 o6 o7 o8 w0 g (l.length-(zaE (l.drop k)).2.length) w'∧Frm W w' [g]:=by
 refine (zvo h.1 h.2.1 hag h.2.2.2 hn).mono ?_
 rintro e w' ⟨a',c',rfl,ho,hR,hf⟩
 have Aa:=zfX endN (l.drop k)
 have hk:=h.2.2.2
 have e:k+(upL endN (l.drop k)).1.length=l.length-(zaE (l.drop k)).2.length:=by
  rw [ztt,zmU]
  simp at Aa ⊢
  omega
 rw [e]at hR
 exact⟨a',c',rfl,ho,⟨hR,h.2.1.frmA hf (fun y hy h0=>by simpa using hag y hy h0),h.2.2.1.trans hf,by omega⟩,hf⟩
theorem Rd.at1 {B:Nat} {a:Xi} {cap:Nat} {l:Xg} {o3 o4 o5 o6 o7 o8:Xl} {w0 W:Xk} {g k:Nat} (h:Rd B a cap l o3 o4 o5 o6 o7 o8 w0 g k W) (hag:∀x,a=some x->l≠[]->x.block≠g) (k':Nat) (hk:k'<=l.length):Rd B a cap l o3 o4 o5 o6 o7 o8 w0 g k' (W.setCell ⟨g,1,none⟩ (.int .i64 (k':Int))):=
 ⟨(h.1.put _).1,h.2.1.frmA (Frm.set W g 1 _) (fun y hy h0=>by simpa using hag y hy h0),h.2.2.1.trans (Frm.set W g 1 _),hk⟩
def tagR (l:Xg):Xg:=if (l.drop 1).head? = some 47 then (l.drop 1).drop 1 else l.drop 1
theorem zwf (l:Xg) (k:Nat):l.drop (toK (k+1) (decide ((l.drop (k+1)).head? = some 47)))=tagR (l.drop k):=by
 unfold tagR toK
 rw [List.drop_drop]
 by_cases h:(l.drop (k+1)).head? = some 47
 ·rw [decide_eq_true h,if_pos rfl,if_pos h,List.drop_drop]
 ·rw [decide_eq_false h,if_neg (by decide),if_neg h]
set_option maxHeartbeats 3200000 in
theorem Rd.begin {B:Nat} {a:Xi} {cap:Nat} {l:Xg} {o3 o4 o5 o6 o7 o8:Xl} {w0 W:Xk} {g k:Nat} (h:Rd B a cap l o3 o4 o5 o6 o7 o8 w0 g k W) (hag:∀x,a=some x->l≠[]->x.block≠g) (hn:l.length<=1500) (hk:k<l.length) :
  Calls Tryz.prog 102 #[.pointer (some ⟨g,0,none⟩)] W fun e w'=>∃a' c',e=.returned (.tuple #[])∧Own w' W.heap.size (.slice a' (zaE (tagR (l.drop k))).1.length c') (zaE (tagR (l.drop k))).1∧Rd B a cap l o3 (.bool (decide ((l.drop (k+1)).head? = some 47))) (.slice a' (zaE (tagR (l.drop k))).1.length c') (.slice none 0 0) o7 o8 w0 g (l.length-(zaE (tagR (l.drop k))).2.length) w'∧Frm W w' [g]:=by
 refine zaw ?_
 intro Q HQ
 obtain⟨c0,c1,_,_,_,_,_,_,fz⟩:=h.1.cells
 have f1:=fz 1
 have Da:g<W.heap.size:=zaP c0
 have h1:=h.at1 hag (k+1) hk
 rw [show ((k+1:Nat):Int)=(k:Int)+1 from rfl]at h1
 have HP:=hide (h1.pass hag hn 47 _ rfl)
 rw [<-zwf]at HQ
 generalize decide ((l.drop (k+1)).head? = some 47)=s at *
 have HF:=hide (Frm.set W g 1 (.int .i64 ((k:Int)+1)))
 have k1:(k:Int)<=1500:=by omega
 clear h h1 fz hk
 go_enter Tryz.func102,Tryz.ntmps102
 go_wp2_with fail
 refine (zaa HP).mono ?_
 rintro e w1 ⟨rfl,hR,hf⟩
 have Ba:=(zaa HF).trans hf
 generalize toK (k+1) s=k2 at *
 have HN:=hide (hR.name hag hn)
 have Ca:W.heap.size<=w1.heap.size:=Ba.size
 have HX:=hide Ba
 clear HP HF hR hf Ba c0 c1 f1 k1
 go_wp2_with fail
 refine (zaa HN).mono ?_
 rintro e w2 ⟨a',c',rfl,ho,hR,hf⟩
 obtain⟨_,_,_,d3,d4,d5,_,_,fz⟩:=hR.1.cells
 have g3:=fz 3
 have g4:=fz 4
 have g5:=fz 5
 generalize (zaE (l.drop k2)).1=nm at *
 generalize l.length-(zaE (l.drop k2)).2.length=k3 at *
 have hS:=(((((hR.1.put (.bool s)).2.2.1.put (.slice a' nm.length c')).2.2.2.1).put (.slice none 0 0)).2.2.2.2.1)
 have Aa:=((Frm.set w2 g 3 (.bool s)).trans (Frm.set _ g 4 (.slice a' nm.length c'))).trans (Frm.set _ g 5 (.slice none 0 0))
 have HE:=hide (zaa HQ (.returned (.tuple #[])) _ ⟨a',c',rfl,(ho.frm Aa (fun x hx e=>by
   have h1:=(ho.lt x (by simpa [FB]using hx)).1
   have h2:x=g:=by simpa using e
   omega)).mono Ca,⟨hS,hR.2.1.frmA Aa (fun y hy h0=>by simpa using hag y hy h0),hR.2.2.1.trans Aa,hR.2.2.2⟩,((zaa HX).trans hf).trans Aa⟩)
 clear HQ HX HN hR hf ho hS Aa fz
 go_wp2_with fail
 go_end0
 exact zaa HE
theorem zcH {q g:Nat} {F:Xh} (hg:g∉F) (hq:q∈F):q∉[g]:=fun e=>hg (by rw [<-List.mem_singleton.1 e];exact hq)
theorem zxS (l:Xg):(rawL l).1.length<=l.length:=by
 unfold rawL
 split
 ·rename_i q r
  split
  ·have:=zfX (fun x=>decide (x=q)) r
   simp;omega
  ·exact zfX _ _
 ·simp
def ztK (B:Nat) (a:Xi) (cap:Nat) (l:Xg) (o3 o4 o5 o7 o8:Xl) (w0 W:Xk) (g k':Nat) (ats:List AtV) (F:Xh) (w':Xk):Prop:=∃(av:Xi) (cv:Nat) (F':Xh),RSet B (.slice a l.length cap) (.int .i64 (k':Int)) o3 o4 o5 (.slice av ats.length cv) o7 o8 w' g∧OwAttrs w' (.slice av ats.length cv) ats F'∧F'.Nodup∧(∀q∈F',q∈F∨W.heap.size<=q)∧Frm W w' (g::F)
theorem zpP {B:Nat} {a:Xi} {cap:Nat} {l:Xg} {o3 o4 o5 o7 o8:Xl} {w0 W W5 w6:Xk} {g k':Nat} {av u:Xi} {cv c:Nat} {ats ats':List AtV} {F G F6:Xh} (hR:RSet B (.slice a l.length cap) (.int .i64 (k':Int)) o3 o4 o5 (.slice av ats.length cv) o7 o8 W5 g) (hf:Frm W W5 [g]) (ho:OwAttrs W (.slice av ats.length cv) ats F) (hgl:g<W.heap.size) (hgF:g∉F)
  (h6:OwAttrs w6 (.slice u ats'.length c) ats' F6) (hN:F6.Nodup) (hM:∀q∈F6,q∈F∨q∈G∨W5.heap.size<=q) (hf6:Frm W5 w6 F) (hG:∀q∈G,W.heap.size<=q):ztK B a cap l o3 o4 o5 o7 o8 w0 W g k' ats' F (w6.setCell ⟨g,5,none⟩ (.slice u ats'.length c)):=by
 have Ca:OwAttrs W5 (.slice av ats.length cv) ats F:=OwAttrs.frm ho hf (fun q hq=>zcH hgF hq)
 have Da:=hR.frm hf6 hgF (fun q hq=>.inr (OwAttrs.typ Ca q hq).cells)
 have hs:=hf.size
 have Aa:∀q∈F6,q∈F∨W.heap.size<=q:=fun q hq=>by
  rcases hM q hq with e | e | e
  ·exact .inl e
  ·exact .inr (hG q e)
  ·exact .inr (by omega)
 have Ba:g∉F6:=fun e=>by
  rcases Aa g e with e | e
  ·exact hgF e
  ·omega
 have fs:=Frm.set w6 g 5 (.slice u ats'.length c)
 refine⟨u,c,F6,(Da.put _).2.2.2.2.1,OwAttrs.frm h6 fs (fun q hq=>zcH Ba hq),hN,Aa,((hf.mono (by simp)).trans (hf6.mono (fun q hq=>List.mem_cons_of_mem _ hq))).trans (fs.mono (by simp))⟩
set_option maxHeartbeats 6400000 in
theorem Rd.attr {B:Nat} {a:Xi} {cap:Nat} {l:Xg} {o3 o4 o5 o7 o8:Xl} {w0 W:Xk} {g k:Nat} {av:Xi} {cv:Nat} {ats:List AtV} {F:Xh} (h:Rd B a cap l o3 o4 o5 (.slice av ats.length cv) o7 o8 w0 g k W) (hag:∀x,a=some x->l≠[]->x.block≠g) (hn:l.length<=1500)
  (ho:OwAttrs W (.slice av ats.length cv) ats F) (hN:F.Nodup) (hgF:g∉F) (hs:SrtA ats) (h4:ats.length<=4) :
  Calls Tryz.prog 144 #[.pointer (some ⟨g,0,none⟩)] W fun e w'=>e=.returned (.tuple #[])∧ztK B a cap l o3 o4 o5 o7 o8 w0 W g (l.length-(zcK (l.drop k)).2.length) (zaS ats (zcK (l.drop k)).1) F w':=by
 refine zaw ?_
 intro Q HQ
 have ha:g<W.heap.size:=zaP h.1.cells.1
 have ga:=OwAttrs.lt ho
 have HN:=hide (h.name hag hn)
 have HO:=hide ho
 have la:∀args w,(callFunc 176 args).run Tryz.prog w=.ok (.enter 176 args) w:=enters_of Tryz.func176 (by kernel_rfl) rfl
 clear h ho
 go_enter Tryz.func144,Tryz.ntmps144
 go_wp2_with fail
 refine (zaa HN).mono ?_
 rintro e w1 ⟨a1,c1,rfl,Ca,hR,hf⟩
 have ea:W.heap.size<=w1.heap.size:=hf.size
 have Za:l.drop (l.length-(zaE (l.drop k)).2.length)=(zaE (l.drop k)).2:=by
  have:(zaE (l.drop k)).2 <:+ l:=(List.dropWhile_suffix _).trans (List.drop_suffix _ _)
  exact (List.suffix_iff_eq_drop.1 this).symm
 have hA:Below w1.heap.size w1 (w1.alloc (.cells #[.slice a1 (zaE (l.drop k)).1.length c1,.slice none 0 0] 132)):=(Below.refl _ _).alloc (Nat.le_refl _) _
 have lb:=Loc.made w1 #[.slice a1 (zaE (l.drop k)).1.length c1,.slice none 0 0] 132
 have ba:=hR.keep hA
 have HP:=hide (ba.pass hag hn 61 _ rfl)
 rw [Za]at HP
 have Ha:=hf.trans (Frm.ofBelow hA [g])
 unfold zcK at HQ
 simp only at HQ
 generalize (zaE (l.drop k)).1=nm at *
 generalize (zaE (l.drop k)).2=r1 at *
 cases hb:decide (r1.head? = some 61)with
 | false=>
  rw [hb]at HP
  rw [if_neg (of_decide_eq_false hb)]at HQ
  have HX:=hide (And.intro Ca (And.intro lb (And.intro Ha hA)))
  clear HN hR hf ba hA lb Ha hb Ca
  go_wp2_with fail
  refine (zaa HP).mono ?_
  rintro e w2 ⟨rfl,hR,hf⟩
  obtain⟨Ca,lb,Ha,hA⟩:=zaa HX
  have hR:Rd B a cap l o3 o4 o5 (.slice av ats.length cv) o7 o8 w0 g (l.length-r1.length) w2:=hR
  have fa:w1.heap.size+1<=w2.heap.size:=by have:=hf.size;simpa using this
  have Ja:=lb.frm hf (by simp;omega)
  have Aa:=(Ca.keep hA).frm hf (fun q hq e=>by have:=(Ca.lt q (by simpa [FB]using hq)).1;have e':=List.mem_singleton.1 e;omega)
  have Ka:=Ha.trans hf
  have hd:Below w2.heap.size w2 w2.drew:=(Below.refl w2.heap.size w2).drew
  have Ma:=hide (OwAttrs.frm (zaa HO) (Ka.trans (Frm.ofBelow hd [g])) (fun q hq=>zcH hgF hq))
  have HW:=hide (znP w2.drew av cv ats F nm [] a1 none c1 0 (FB (.slice a1 nm.length c1)++FB (.slice none 0 0)) (zaa Ma) hN hs h4 ⟨_,_,rfl,(Aa.keep hd).mono (Nat.zero_le _),⟨zaI,rfl,.inl ⟨rfl,rfl⟩⟩,rfl⟩ (by simp [FB,Value.ownBlock];exact zaU _) (fun q hq e=>by
    have h1:=ga q hq
    have h2:=(Ca.lt q (by simpa [FB,Value.ownBlock]using e)).1
    omega))
  have HY:=hide (And.intro (hR.1.keep hd) (Ka.trans (Frm.ofBelow hd [g])))
  have HG:=hide (show ∀q∈FB (.slice a1 nm.length c1)++FB (.slice none 0 0),W.heap.size<=q from fun q hq=>(Ca.lt q (by simpa [FB,Value.ownBlock]using hq)).1)
  have b0:=(Ja.all hd).cell 0
  have b1:=(Ja.all hd).cell 1
  obtain⟨_,_,_,_,_,c5,_,_,_⟩:=(hR.1.keep hd).cells
  clear HP HX Ca lb Ha hA hR hf Ja Aa Ka hd
  go_wp2_with fail
  go_region_law (refine zbW (by rfl) 176 [.tmp 17,.tmp 18] #[26,132] (by rfl) la [.slice av ats.length cv,.agg #[.slice a1 nm.length c1,.slice none 0 0]] (by rfl) (zaa HW) ?_;clear HW;rintro e w6 ⟨u,c6,F6,rfl,h6,Ta,Wa,Na⟩;obtain⟨_,_,_,_,_,d5,_,_,fz⟩:=((zaa HY).1.frm Na hgF (fun q hq=>.inr (OwAttrs.typ (zaa Ma) q hq).cells)).cells;have g5:=fz 5;refine⟨_,rfl,?_⟩)
  all_goals
   have HE:=hide (zaa HQ (.returned (.tuple #[])) _ ⟨rfl,zpP (w0:=w0) (zaa HY).1 (zaa HY).2 (zaa HO) ha hgF h6 Ta Wa Na (zaa HG)⟩)
   clear HQ HY HG HO Ma h6 Ta Wa Na fz
   go_wp2_with fail
   go_end0
   exact zaa HE
 | true=>
  rw [hb]at HP
  rw [if_pos (of_decide_eq_true hb)]at HQ
  have HX:=hide (And.intro Ca (And.intro lb (And.intro Ha hA)))
  clear HN hR hf ba hA lb Ha hb Ca
  go_wp2_with fail
  refine (zaa HP).mono ?_
  rintro e w2 ⟨rfl,hR,hf⟩
  obtain⟨Ca,lb,Ha,hA⟩:=zaa HX
  have hR:Rd B a cap l o3 o4 o5 (.slice av ats.length cv) o7 o8 w0 g (l.length-r1.length+1) w2:=hR
  have fa:w1.heap.size+1<=w2.heap.size:=by have:=hf.size;simpa using this
  have Ja:=lb.frm hf (by simp;omega)
  have Aa:=(Ca.keep hA).frm hf (fun q hq e=>by have:=(Ca.lt q (by simpa [FB]using hq)).1;have e':=List.mem_singleton.1 e;omega)
  have Ka:=Ha.trans hf
  have Va:=hR.raw hag hn
  rw [show l.drop (l.length-r1.length+1)=r1.drop 1 by rw [<-List.drop_drop,Za]]at Va
  have Va:=hide Va
  have ka:=zxS (r1.drop 1)
  have qa:r1.length<=l.length:=by have:=congrArg List.length Za;simp at this;omega
  have Xa:(rawL (r1.drop 1)).1.length<=1500:=by rw [List.length_drop]at ka;omega
  generalize rawL (r1.drop 1)=rw2 at *
  have ia:=hide (And.intro Ja (And.intro Aa (And.intro Ka (Ca.lt))))
  clear HP HX Ca lb Ha hA hR hf Ja Aa Ka ka qa
  go_wp2_with fail
  refine (zaa Va).mono ?_
  rintro e w3 ⟨a3,c3,rfl,hv,hR,hf⟩
  have HV:=hide (zvY w3 a3 c3 rw2.1 hv Xa)
  obtain⟨Ja,Aa,Ka,Ia⟩:=zaa ia
  have oa:=hf.size
  have Sa:=Ja.frm hf (by simp;omega)
  have Da:=Aa.frm hf (fun q hq e=>by have:=(Ia q (by simpa [FB]using hq)).1;have e':=List.mem_singleton.1 e;omega)
  have ca:=hide (And.intro hR (And.intro Sa (And.intro Da (And.intro (Ka.trans hf) Ia))))
  clear Va ia hv hR hf Ja Aa Ka Ia Sa Da
  go_wp2_with fail
  refine (zaa HV).mono ?_
  rintro e w4 ⟨a4,c4,rfl,hval,Ra⟩
  obtain⟨hR,Sa,Da,da,Ia⟩:=zaa ca
  generalize valL rw2.1.length 30 rw2.1=val at *
  have Ua:=Sa.all Ra
  have ja:=hR.1.keep Ra
  have ra:=Ra.size
  have f1:=Ua.frozen 1
  have Ga:=Frm.set w4 w1.heap.size 1 (.slice a4 val.length c4)
  have Pa:=Ua.set 1 (.slice a4 val.length c4)
  have Qa:=ja.frm Ga (by simp;omega) (fun q hq=>.inr (by rw [List.mem_singleton.1 hq];exact Cells.ofL Ua))
  have Fa:=(Da.keep Ra).frm Ga (fun q hq e=>by have:=(Ia q (by simpa [FB]using hq)).2;have e':=List.mem_singleton.1 e;omega)
  have Ba:=hval.frm Ga (fun q hq e=>by have:=(hval.lt q (by simpa [FB]using hq)).1;have e':=List.mem_singleton.1 e;omega)
  have Oa:Frm W (w4.setCell ⟨w1.heap.size,1,none⟩ (.slice a4 val.length c4)) [g]:=(da.trans (Frm.ofBelow Ra [g])).new Ga (fun q hq=>by rw [List.mem_singleton.1 hq];exact ea)
  have ma:=hide (And.intro Qa (And.intro Pa (And.intro Fa (And.intro Ba (And.intro Oa (And.intro Ia (And.intro (Da.rng) (And.intro (hval.rng) (And.intro ea (And.intro fa oa))))))))))
  clear HV ca hR Sa Da da ja Pa Qa Fa Ba Oa Ga hval Ra
  have pa:=Ua.cell 1
  clear Ua
  go_wp2_with fail
  generalize w4.setCell ⟨w1.heap.size,1,none⟩ (.slice a4 val.length c4)=w5 at *
  obtain⟨Qa,Pa,Fa,Ba,Oa,Ia,na,aa,-⟩:=zaa ma
  have hd:Below w5.heap.size w5 w5.drew:=(Below.refl w5.heap.size w5).drew
  have Ma:=hide (OwAttrs.frm (zaa HO) (Oa.trans (Frm.ofBelow hd [g])) (fun q hq=>zcH hgF hq))
  have La:(FB (.slice a1 nm.length c1)++FB (.slice a4 val.length c4)).Nodup:=List.nodup_append.2 ⟨zaU _,zaU _,fun x hx y hy e=>by
    have h1:=(Ia x (by simpa [FB]using hx)).2
    have h2:=(aa y hy).1
    omega⟩
  have Ya:∀q∈FB (.slice a1 nm.length c1)++FB (.slice a4 val.length c4),W.heap.size<=q:=fun q hq=>by
    rcases List.mem_append.1 hq with hq | hq
    ·exact (Ia q (by simpa [FB]using hq)).1
    ·have:=(aa q hq).1
     omega
  have HW:=hide (znP w5.drew av cv ats F nm val a1 a4 c1 c4 (FB (.slice a1 nm.length c1)++FB (.slice a4 val.length c4)) (zaa Ma) hN hs h4 ⟨_,_,rfl,(Fa.keep hd).mono (Nat.zero_le _),(Ba.keep hd).mono (Nat.zero_le _),rfl⟩ La (fun q hq e=>by
    have h1:=ga q hq
    have h2:=Ya q e
    omega))
  have HY:=hide (And.intro (Qa.keep hd) (Oa.trans (Frm.ofBelow hd [g])))
  have HG:=hide Ya
  have b0:=(Pa.all hd).cell 0
  have b1:=(Pa.all hd).cell 1
  simp at b0 b1
  obtain⟨_,_,_,_,_,c5,_,_,_⟩:=(Qa.keep hd).cells
  clear ma Qa Pa Fa Ba Oa Ia na aa hd La Ya pa f1
  go_region_law (refine zbW (by rfl) 176 [.tmp 17,.tmp 18] #[26,132] (by rfl) la [.slice av ats.length cv,.agg #[.slice a1 nm.length c1,.slice a4 val.length c4]] (by rfl) (zaa HW) ?_;clear HW;rintro e w6 ⟨u,c6,F6,rfl,h6,Ta,Wa,Na⟩;obtain⟨_,_,_,_,_,d5,_,_,fz⟩:=((zaa HY).1.frm Na hgF (fun q hq=>.inr (OwAttrs.typ (zaa Ma) q hq).cells)).cells;have g5:=fz 5;refine⟨_,rfl,?_⟩)
  all_goals
   have HE:=hide (zaa HQ (.returned (.tuple #[])) _ ⟨rfl,zpP (w0:=w0) (zaa HY).1 (zaa HY).2 (zaa HO) ha hgF h6 Ta Wa Na (zaa HG)⟩)
   clear HQ HY HG HO Ma h6 Ta Wa Na fz
   go_wp2_with fail
   go_end0
   exact zaa HE
end Go.Proofs.YtgjolijncmkkhaaGreatDoor
