/- Own texts joined: CopyN. -/
import Derived.Test.YtgjolijncmkkhaaGreatDoorJa
import Derived.Test.YtgjolijncmkkhaaGreatDoorJe
import Derived.Test.YtgjolijncmkkhaaGreatDoorJr
import Derived.Deep.RegionLaw
namespace Go.Proofs.YtgjolijncmkkhaaGreatDoor
open Go.RowKit Go.Shelf
set_option linter.unusedVariables false
set_option maxRecDepth 100000
def CnAt (n:Nat) (t:Tr n):Prop:=∀(w:Xk) (a b c d e:Xl),RdNode n w [a,b,c,d,e] t->szT n t<=2097152->
  Calls Tryz.prog 41 #[.agg #[a,b,c,d,e]] w fun e w'=>∃(kd:Int) (a1:Xi) (n1 c1:Nat) (a2:Xi) (n2 c2:Nat) (a3:Xi) (n3 c3:Nat) (a4:Xi) (n4 c4:Nat),e=.returned (.agg #[.int .i64 kd,.slice a1 n1 c1,.slice a2 n2 c2,.slice a3 n3 c3,.slice a4 n4 c4])∧∃F,OwNode n w' [.int .i64 kd,.slice a1 n1 c1,.slice a2 n2 c2,.slice a3 n3 c3,.slice a4 n4 c4] t F∧F.Nodup∧Rng F w.heap.size w'.heap.size∧Below w.heap.size w w'
set_option maxHeartbeats 12800000 in
theorem zhU (n:Nat) (t:Tr (n+2)) (H:∀k∈t.kids,CnAt (n+1) k):CnAt (n+2) t:=by
 intro w0 a b c d e Cb nb
 have Za:szT (n+2) t=t.name.length+t.text.length+szA t.attrs+(t.kids.length+(t.kids.map (szT (n+1))).sum):=rfl
 have xa:=hide Cb
 obtain⟨_,_,_,_,e0,k1,k2,hb,hc,hd,he⟩:=Cb
 simp only [List.cons.injEq,and_true]at e0
 obtain⟨rfl,rfl,rfl,rfl,rfl⟩:=e0
 obtain⟨ab,cb,rfl,_,_⟩:=hb.shape
 obtain⟨ac,cc,rfl,_,_⟩:=hc.shape
 obtain⟨ad,cd,rfl,_,_⟩:=Elems.shape hd
 obtain⟨ae,ce,rfl,_,_⟩:=Elems.shape he
 obtain⟨l0,l1,ha⟩:=two w0 #[.int .i64 t.kind,.slice ab t.name.length cb,.slice ac t.text.length cc,.slice ad t.attrs.length cd,.slice ae t.kids.length ce] #[.int .i64 0,.slice none 0 0,.slice none 0 0,.slice none 0 0,.slice none 0 0] 29 29
 have Oc:((w0.alloc (.cells #[.int .i64 t.kind,.slice ab t.name.length cb,.slice ac t.text.length cc,.slice ad t.attrs.length cd,.slice ae t.kids.length ce] 29)).alloc (.cells #[.int .i64 0,.slice none 0 0,.slice none 0 0,.slice none 0 0,.slice none 0 0] 29)).heap.size=w0.heap.size+2:=by simp
 have Jc:t.kids.length<=2097152:=by omega
 have Dc:(t.kids.length:Int)<=9223372036854775807:=by omega
 have HL:=hide (fun W (hW:Below w0.heap.size w0 W)=>zeh (n+1) W _ _ _ _ _ t ((zaa xa).keep hW) nb)
 have mb:=hide Za
 clear Za hb hc hd xa
 go_enter Tryz.func41,Tryz.ntmps41
 go_wp2_with fail
 generalize ((w0.alloc (.cells #[.int .i64 t.kind,.slice ab t.name.length cb,.slice ac t.text.length cc,.slice ad t.attrs.length cd,.slice ae t.kids.length ce] 29)).alloc (.cells #[.int .i64 0,.slice none 0 0,.slice none 0 0,.slice none 0 0,.slice none 0 0] 29))=wq at *
 refine (zaa HL wq ha).mono ?_
 rintro e w1 ⟨p2,Aa,p3,Ba,p4,Da,rfl,hh⟩
 obtain⟨Fa,o1,o2,o3,nd,rg,hB⟩:∃Fa,Own w1 0 (.slice p2 t.name.length Aa) t.name∧Own w1 0 (.slice p3 t.text.length Ba) t.text∧OwAttrs w1 (.slice p4 t.attrs.length Da) t.attrs Fa∧(FB (.slice p2 t.name.length Aa)++FB (.slice p3 t.text.length Ba)++Fa).Nodup∧Rng (FB (.slice p2 t.name.length Aa)++FB (.slice p3 t.text.length Ba)++Fa) (wq.heap.size+2) w1.heap.size∧Below wq.heap.size wq w1:=by
  first
  | exact hh
  | (obtain⟨q1,q2,Fa,q3,q4,q5,q6⟩:=hh;exact⟨Fa,q1,q2,q3,by rw [List.append_assoc];exact q4,by rw [List.append_assoc];exact q5,q6⟩)
 clear hh HL
 have Ya:=zam ha hB
 have ra:=l0.all hB
 have Ab:=l1.all hB
 have Sc:=hB.size
 have Ka:Below w1.heap.size w1 (w1.alloc (.cells #[.int .i64 t.kind,.slice p2 t.name.length Aa,.slice p3 t.text.length Ba,.slice p4 t.attrs.length Da,.slice none 0 0] 29)):=(Below.refl _ _).alloc (Nat.le_refl _) _
 have lo:=Loc.made w1 #[.int .i64 t.kind,.slice p2 t.name.length Aa,.slice p3 t.text.length Ba,.slice p4 t.attrs.length Da,.slice none 0 0] 29
 have hO:OutAt n (w0.heap.size+2) (w1.alloc (.cells #[.int .i64 t.kind,.slice p2 t.name.length Aa,.slice p3 t.text.length Ba,.slice p4 t.attrs.length Da,.slice none 0 0] 29)) w1.heap.size t.kind (.slice p2 t.name.length Aa) (.slice p3 t.text.length Ba) (.slice p4 t.attrs.length Da) (.slice none 0 0) t.name t.text t.attrs (t.kids.take 0) Fa []:=by
  refine⟨lo,o1.keep Ka,o2.keep Ka,OwAttrs.frm o3 (Frm.ofBelow Ka []) (fun _ _=>by simp),OwElems.naught _ _ _ _,by rw [List.append_nil];exact nd,fun q hq=> ?_⟩
  rw [List.append_nil]at hq
  have:=rg q hq
  have:=Ka.size
  exact⟨by omega,by omega,by omega⟩
 have LL:=hide (And.intro hO (And.intro (zam Ya Ka) (And.intro (ra.all Ka) (Ab.all Ka))))
 have jb:w0.heap.size+2<=w1.heap.size:=by omega
 obtain⟨x0,x1,x2,x3,x4⟩:=(ra.alloc (.cells #[.int .i64 t.kind,.slice p2 t.name.length Aa,.slice p3 t.text.length Ba,.slice p4 t.attrs.length Da,.slice none 0 0] 29)).five
 clear hO hB ha Ya Ka lo l0 l1 ra Ab o1 o2 o3 nd rg
 go_wp2_with fail
 clear x0 x1 x2 x3 x4
 obtain⟨hO,Ya,ya,Eb⟩:=zaa LL
 clear LL
 generalize (w1.alloc (.cells #[.int .i64 t.kind,.slice p2 t.name.length Aa,.slice p3 t.text.length Ba,.slice p4 t.attrs.length Da,.slice none 0 0] 29))=w2 at *
 generalize w1.heap.size=po at *
 have Xb:¬ w0.heap.size=po:=by omega
 have Db:¬ w0.heap.size+1=po:=by omega
 obtain⟨i0,Hb,Jb,Kb,db⟩:=info_parts Tryz.info29
 go_loopw [5,11] (fun _ i wr=>∃j:Nat,j<=t.kids.length∧i=.int .i64 j∧∃ka km kc Fk,OutAt n (w0.heap.size+2) wr po t.kind (.slice p2 t.name.length Aa) (.slice p3 t.text.length Ba) (.slice p4 t.attrs.length Da) (.slice ka km kc) t.name t.text t.attrs (t.kids.take j) Fa Fk∧Below w0.heap.size w0 wr∧Loc wr w0.heap.size #[.int .i64 t.kind,.slice ab t.name.length cb,.slice ac t.text.length cc,.slice ad t.attrs.length cd,.slice ae t.kids.length ce] 29∧Loc wr (w0.heap.size+1) #[.int .i64 0,.slice none 0 0,.slice none 0 0,.slice none 0 0,.slice none 0 0] 29) (fun _ i _=>t.kids.length-(intOf i).toNat)
 case atStart=>exact⟨0,Nat.zero_le _,rfl,none,0,0,[],hO,Ya,ya,Eb⟩
 case round=>
  clear hO Ya ya Eb
  obtain⟨j,hj,rfl,ka,km,kc,Fk,hO,La,lb,lr⟩:=hrel
  have pa:Fk.Nodup:=(List.nodup_append.1 hO.nodup).2.1
  have kb:∀q∈Fk,q<wr.heap.size:=fun q hq=>(hO.rng q (List.mem_append_right _ hq)).2.1
  have Ma:∀q∈Fk,w0.heap.size+2<=q:=fun q hq=>(hO.rng q (List.mem_append_right _ hq)).1
  have ia:po∉Fk:=fun h=>(hO.rng po (List.mem_append_right _ h)).2.2 rfl
  have Wb:∀q∈FB (.slice p2 t.name.length Aa)++FB (.slice p3 t.text.length Ba)++Fa,q∉Fk:=fun q hq oa=>(List.nodup_append.1 hO.nodup).2.2 q hq q oa rfl
  have ja:∀q∈FB (.slice ka km kc),q∈Fk:=fun q hq=>by
   obtain⟨_,_,_,_,_,_,rfl⟩:=hO.kids
   exact List.mem_append_left _ hq
  have Yb:w0.heap.size∉Fk:=fun h=>by have:=Ma _ h;omega
  have eb:w0.heap.size+1∉Fk:=fun h=>by have:=Ma _ h;omega
  have Nc:=hO.loc.lt
  by_cases hjl:j<t.kids.length
  ·obtain⟨pb,Ha,Ob,ba,Pb,_,hC⟩:=he.at hjl
   clear Pb
   subst Ob
   obtain⟨kid,Ja⟩:∃kid,kid=t.kids[j]:=⟨_,rfl⟩
   have Na:kid∈t.kids:=by rw [Ja];exact List.getElem_mem hjl
   have Ib:=hide (show t.kids.take (j+1)=t.kids.take j++[kid] by rw [List.take_succ_eq_append_getElem hjl,<-Ja])
   have Fb:(t.kids.take j).length=j:=by rw [List.length_take];omega
   obtain⟨d0,d1,d2,d3,d4,e0,e1,e2,e3,e4,hx⟩:=zjd hC
   rw [<-Ja]at hx
   replace e0:=(La.cell (p:=⟨pb,Ha+j*5,none⟩) ba).trans e0
   replace e1:=(La.cell (p:=⟨pb,Ha+j*5+1,none⟩) ba).trans e1
   replace e2:=(La.cell (p:=⟨pb,Ha+j*5+2,none⟩) ba).trans e2
   replace e3:=(La.cell (p:=⟨pb,Ha+j*5+3,none⟩) ba).trans e3
   replace e4:=(La.cell (p:=⟨pb,Ha+j*5+4,none⟩) ba).trans e4
   obtain⟨_,_,_,_,ee,vb,Ic,za,ua,Bb,ea⟩:=id hx
   simp only [List.cons.injEq,and_true]at ee
   obtain⟨rfl,rfl,rfl,rfl,rfl⟩:=ee
   obtain⟨Ua,Ta,rfl,_,_⟩:=za.shape
   obtain⟨Oa,Qa,rfl,_,_⟩:=ua.shape
   obtain⟨Pa,Va,rfl,_,_⟩:=Elems.shape Bb
   obtain⟨Sa,Wa,rfl,_,_⟩:=Elems.shape ea
   have qa:szT (n+1) kid<=2097152:=by
    have h1:szT (n+1) kid<=(t.kids.map (szT (n+1))).sum:=zml (List.mem_map.2 ⟨kid,Na,rfl⟩)
    have h2:=zaa mb
    omega
   have sa:(j:Int)<(t.kids.length:Int):=by omega
   have Cc:(0:Int)<=(j:Int):=by omega
   have Xa:Below wr.heap.size wr (wr.alloc (.cells #[.int .i64 kid.kind,.slice Ua kid.name.length Ta,.slice Oa kid.text.length Qa,.slice Pa kid.attrs.length Va,.slice Sa kid.kids.length Wa] 29)):=(Below.refl _ _).alloc (Nat.le_refl _) _
   have lk:=Loc.made wr #[.int .i64 kid.kind,.slice Ua kid.name.length Ta,.slice Oa kid.text.length Qa,.slice Pa kid.attrs.length Va,.slice Sa kid.kids.length Wa] 29
   have va:=hO.keep Xa
   have Qb:=zam La Xa
   have Vb:=lr.all Xa
   have Zb:=lb.all Xa
   have HX:=hide hx
   have HK:=hide (H kid Na)
   have Rb:=hide qa
   have ma:w0.heap.size+2<=(wr.alloc (.cells #[.int .i64 kid.kind,.slice Ua kid.name.length Ta,.slice Oa kid.text.length Qa,.slice Pa kid.attrs.length Va,.slice Sa kid.kids.length Wa] 29)).heap.size:=by have:=Xa.size;omega
   clear hC hx Na Ja he H za ua Bb ea hO lr lb
   go_wp2_with fail
   generalize (wr.alloc (.cells #[.int .i64 kid.kind,.slice Ua kid.name.length Ta,.slice Oa kid.text.length Qa,.slice Pa kid.attrs.length Va,.slice Sa kid.kids.length Wa] 29))=wa at *
   have fa:Below wa.heap.size wa wa.drew:=(Below.refl _ _).drew
   have Ia:=va.keep fa
   have aa:=lk.all fa
   have la:=Qb.drew
   have ub:wa.drew.cell? ⟨po,4,none⟩=some (.slice ka km kc):=Ia.loc.cell 4
   have k0:wa.drew.cell? ⟨wr.heap.size,0,none⟩=some (.int .i64 kid.kind):=aa.cell 0
   have rb:wa.drew.cell? ⟨wr.heap.size,1,none⟩=some (.slice Ua kid.name.length Ta):=aa.cell 1
   have Pc:wa.drew.cell? ⟨wr.heap.size,2,none⟩=some (.slice Oa kid.text.length Qa):=aa.cell 2
   have yb:wa.drew.cell? ⟨wr.heap.size,3,none⟩=some (.slice Pa kid.attrs.length Va):=aa.cell 3
   have wb:wa.drew.cell? ⟨wr.heap.size,4,none⟩=some (.slice Sa kid.kids.length Wa):=aa.cell 4
   have Tb:∀args w,(callFunc 41 args).run Tryz.prog w=.ok (.enter 41 args) w:=enters_of Tryz.func41 (by kernel_rfl) rfl
   clear e0 e1 e2 e3 e4
   go_region_law
    (first
     | (refine zdN (by rfl) 41 [.tmp 17] #[29] (by rfl) Tb [.agg #[.int .i64 kid.kind,.slice Ua kid.name.length Ta,.slice Oa kid.text.length Qa,.slice Pa kid.attrs.length Va,.slice Sa kid.kids.length Wa]] (by rfl) (zaa HK wa.drew _ _ _ _ _ ((zaa HX).keep la) (zaa Rb)) ?_;clear HK;rintro e w7 ⟨kd,a1,n1,c1,a2,n2,c2,a3,n3,c3,a4,n4,cz,rfl,G,hG,ob,rG,Ra⟩;have Fc:w7.cell? ⟨po,4,none⟩=some (.slice ka km kc):=(Ia.loc.all Ra).cell 4;have ca:Below w7.heap.size w7 (w7.alloc (.cells #[.int .i64 kd,.slice a1 n1 c1,.slice a2 n2 c2,.slice a3 n3 c3,.slice a4 n4 cz] 29)):=(Below.refl _ _).alloc (Nat.le_refl _) _;have tb:(w7.alloc (.cells #[.int .i64 kd,.slice a1 n1 c1,.slice a2 n2 c2,.slice a3 n3 c3,.slice a4 n4 cz] 29)).cell? ⟨po,4,none⟩=some (.slice ka km kc):=((Ia.loc.all Ra).all ca).cell 4;refine⟨_,rfl,?_⟩)
     | (refine zcr (R:=OwNode (n+1)) (fun h f d=>OwNode.frm h f d) (by rfl) (.tmp 16) (.tmp 19) 27 (by rfl) 29 i0 (.agg #[.int .i64 0,.slice none 0 0,.slice none 0 0,.slice none 0 0,.slice none 0 0]) 5 104 Tryz.underlying27 Hb Jb Kb db rfl (by decide) _ (t.kids.take j) Fk (by rfl) (((Ia.keep Ra).keep ca).kids) pa ⟨w7.heap.size,0,none⟩ 1 [.int .i64 kd,.slice a1 n1 c1,.slice a2 n2 c2,.slice a3 n3 c3,.slice a4 n4 cz] kid G (by rfl) rfl (zmV w7 _ _ _ _ _ _) (by intro y hy;simp at hy;rcases hy with rfl | rfl | rfl | rfl | rfl<;>rfl) (hG.keep ca) ob (fun g hg fb=>by have h1:=(Ia.rng g (List.mem_append_right _ hg)).2.1;have:=(rG g fb).1;omega) (fun q hq=>by have h1:=Ra.size;have h2:=ca.size;rcases hq with hq | hq;(have:=(Ia.rng q (List.mem_append_right _ hq)).2.1;omega);(have:=(rG q hq).2;omega)) (by rw [Fb];unfold maxLen;omega) (by rw [Fb];omega) ?_;intro g9 Ga w9 F9 na gb Lb Ub Hc;generalize ((t.kids.take j).length+1)=n9 at na ⊢;have Ca:Frm wa.drew w9 Fk:=((Frm.ofBelow (zam Ra ca) Fk)).more Ub (fun q hq=>.inl (ja q hq));have Rc:w9.cell? ⟨po,4,none⟩=some (.slice ka km kc):=(Ia.loc.frm Ca ia).cell 4;have Qc:=(Ia.loc.frm Ca ia).frozen 4))
   all_goals
    have Mb:∀q∈F9,(q∈Fk∨wa.drew.heap.size<=q)∧q<w9.heap.size:=fun q hq=>by
     refine⟨?_,OwElems.lt na (fun C x G h=>OwNode.lt h) q hq⟩
     have s7:=Ra.size
     rcases Lb q hq with h | h | h
     ·exact .inl h
     ·have:=(rG q h).1;right;omega
     ·right;simp only [World.size_alloc]at h;omega
    have ta:=Ia.setKids Ca ia Wb na gb Mb ma
    have ib:Below w0.heap.size w0 w9:=la.trans (Ca.below la.size (fun q hq=>by have:=Ma q hq;omega))
    have ga:=ib.setCell (p:=⟨po,4,none⟩) (by show w0.heap.size<=po;omega) (.slice (some ⟨g9,0,none⟩) n9 Ga)
    have Nb:=((Zb.all fa).frm Ca Yb).other po 4 (.slice (some ⟨g9,0,none⟩) n9 Ga) Xb
    have Sb:=((Vb.all fa).frm Ca eb).other po 4 (.slice (some ⟨g9,0,none⟩) n9 Ga) Db
    have Gb:=hide (show OutAt n (w0.heap.size+2) (w9.setCell ⟨po,4,none⟩ (.slice (some ⟨g9,0,none⟩) n9 Ga)) po t.kind (.slice p2 t.name.length Aa) (.slice p3 t.text.length Ba) (.slice p4 t.attrs.length Da) (.slice (some ⟨g9,0,none⟩) n9 Ga) t.name t.text t.attrs (t.kids.take (j+1)) Fa F9 by
     rw [zaa Ib]
     exact ta)
    clear ta Ia va
    go_wp2_with fail
    go_roundw
    case rel=>exact⟨j+1,by omega,by go_num,_,_,_,F9,zaa Gb,ga,Nb,Sb⟩
    case measure=>simp [intOf];omega
  ·have ea:t.kids.take j=t.kids:=List.take_of_length_le (by omega)
   rw [ea]at hO
   have sa:¬ (j:Int)<(t.kids.length:Int):=by omega
   obtain⟨Mc,xb,zb,Kc,sb⟩:=hO.loc.five
   obtain⟨g0,g1,g2,g3,g4⟩:=lr.five
   have qb:=lr.frozen 0
   have Lc:=lr.frozen 1
   have Gc:=lr.frozen 2
   have Bc:=lr.frozen 3
   have Ec:=lr.frozen 4
   obtain⟨lX,fX⟩:=zcj lr (.int .i64 t.kind) (.slice p2 t.name.length Aa) (.slice p3 t.text.length Ba) (.slice p4 t.attrs.length Da) (.slice ka km kc)
   have da:=hO.frm fX (by simpa using fun e=>Db e.symm) (fun q hq oa=>by
    have:=(hO.rng q hq).1
    have e:q=w0.heap.size+1:=by simpa using oa
    omega)
   have ga:=La.trans (fX.below La.size (fun q hq=>by have e:q=w0.heap.size+1:=(by simpa using hq);omega))
   have fin:=da.node k1 k2
   have HF:=hide (And.intro fin (And.intro da.nodup (And.intro da.rng ga)))
   clear fin da ga fX hO he H
   go_wp2_with fail
   obtain⟨fin,nd,rg,bb⟩:=zaa HF
   exact bodyPost_ret (v:=.agg #[.int .i64 t.kind,.slice p2 t.name.length Aa,.slice p3 t.text.length Ba,.slice p4 t.attrs.length Da,.slice ka km kc]) (by simp [results,Tryz.results41,go_sem,g0,g1,g2,g3,g4]) rfl ⟨t.kind,p2,_,Aa,p3,_,Ba,p4,_,Da,ka,km,kc,rfl,_,fin,nd,fun q hq=>⟨by have:=(rg q hq).1;omega,(rg q hq).2.1⟩,bb⟩
theorem zve:∀(n:Nat) (t:Tr n),CnAt n t
 | 0,t=>t.elim
 | 1,t=>by
  intro w a b c d e Ca Da
  have hk:=zyV (t:=t)
  have Aa:RdNode 2 w [a,b,c,d,e] (up1 t):=by
   obtain⟨a1,b1,c1,d1,e0,k1,k2,hb,hc,hd,he⟩:=Ca
   rw [hk]at he
   exact⟨a1,b1,c1,d1,e0,k1,k2,hb,hc,hd,zux he⟩
  have Ba:szT 2 (up1 t)<=2097152:=by
   have h1:szT 2 (up1 t)=t.name.length+t.text.length+szA t.attrs+(([]:List (Tr 1)).length+(([]:List (Tr 1)).map (szT 1)).sum):=rfl
   have h2:szT 1 t=t.name.length+t.text.length+szA t.attrs+(t.kids.length+(t.kids.map (szT 0)).sum):=rfl
   rw [h1]
   simp only [List.length_nil,List.map_nil,List.sum_nil]
   omega
  refine (zhU 0 (up1 t) (fun k hm=>by cases hm) w a b c d e Aa Ba).mono ?_
  rintro e' w' ⟨kd,a1,n1,c1,a2,n2,c2,a3,n3,c3,a4,n4,c4,rfl,F,hO,nd,rg,hB⟩
  refine⟨kd,a1,n1,c1,a2,n2,c2,a3,n3,c3,a4,n4,c4,rfl,F,?_,nd,rg,hB⟩
  obtain⟨a',b',c',d',Fc,Fd,e1,k1,k2,o1,o2,o3,o4,o5⟩:=hO
  refine⟨a',b',c',d',Fc,Fd,e1,k1,k2,o1,o2,o3,?_,o5⟩
  show OwElems w' 29 5 d' t.kids (OwNode 0 w') Fd
  rw [hk]
  exact zqR (show OwElems w' 29 5 d' ([]:List (Tr 1)) (OwNode 1 w') Fd from o4)
 | n+2,t=>zhU n t (fun k hm=>zve (n+1) k)
end Go.Proofs.YtgjolijncmkkhaaGreatDoor
