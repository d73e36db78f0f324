/- Own texts joined: PartsI, SameI. -/
import Derived.Test.YtgjolijncmkkhaaGreatDoorQa
import Derived.Test.YtgjolijncmkkhaaGreatDoorQc
import Derived.Test.YtgjolijncmkkhaaGreatDoorQq
import Derived.Maps.AppendAt
import Derived.Deep.RegionHeld3
import Derived.Deep.RegionWith
namespace Go.Proofs.YtgjolijncmkkhaaGreatDoor
open Go.RowKit Go.Shelf
set_option linter.unusedVariables false
set_option maxRecDepth 100000
attribute [local go_sem] Oper.semAt_some
theorem zvW {α:Type} {f g:α->Nat}:∀(l:List α),(∀x∈l,f x<=g x+1)->(l.map f).sum<=l.length+(l.map g).sum
 | [],_=>by simp
 | x::l,h=>by
  have h1:=h x (by simp)
  have h2:=zvW l (fun y hy=>h y (by simp [hy]))
  simp only [List.map_cons,List.sum_cons,List.length_cons]
  omega
theorem ztu (w0:Xk):∀(n:Nat) (deep:Int) (C:Xj) (t:Tr n) (xs:List (It w0)),Pre w0 n deep C t xs->xs.length<=szT n t+1
 | 0,_,_,t,_,_=>t.elim
 | n+1,deep,C,t,xs,⟨a,b,c,d,e,rd,ks,_,hxs,hks,hel⟩=>by
  have h3:szT (n+1) t=t.name.length+t.text.length+szA t.attrs+(t.kids.length+(t.kids.map (szT n)).sum):=rfl
  have h4:(ks.map fun k=>k.2.length).sum<=ks.length+(ks.map fun k=>szT n k.1).sum:=zvW ks (fun k hk=>by
   obtain⟨D,hD⟩:=hel.mem k hk
   exact ztu w0 n (deep+1) D k.1 k.2 hD)
  have h5:ks.length=t.kids.length:=by rw [<-hks];simp
  have h6:(ks.map fun k=>szT n k.1).sum=(t.kids.map (szT n)).sum:=by rw [<-hks,List.map_map];rfl
  subst hxs
  simp only [List.length_cons,List.length_flatten,List.map_map]
  have h7:(ks.map (List.length ∘ fun x=>x.2)).sum=(ks.map fun k=>k.2.length).sum:=rfl
  omega
def six {w0:Xk} (x:It w0):Xj:=[.int .i64 x.deep,x.a,x.b,x.c,x.d,x.e]
def zkO {w0:Xk} (l:List (It w0)):Xj:=(l.map six).flatten
theorem ztZ {w0:Xk} (l:List (It w0)) (x:It w0):zkO (l++[x])=zkO l++six x:=by simp [zkO]
theorem zyW {w0:Xk} {w:Xk} {base:Nat} {v:Xl} {l:List (It w0)} (h:w.ownsRow base 96 6 v l.length (zkO l)) (hm:l.length<=maxLen):zfo w v l:=by
 refine OwElems.rd (R:=fun C x _=>zqS C x) (F:=FB v++(l.map fun _=>([]:Xh)).flatten) ⟨l.map six,l.map fun _=>[],by simp,by simp,fun i hi=> ?_,zqx h 0 (Nat.zero_le _),rfl⟩ hm (fun C x G h=>h)
 have e:(l.map six).getD i []=six l[i]:=by simp [hi]
 rw [e]
 exact⟨rfl,rfl⟩
theorem Tryz.info96:(Tryz.prog.info? 96).map (fun i=>(i.zero,i.size,i.bytes))=some (some (.agg #[.int .i64 0,.int .i64 0,.slice none 0 0,.slice none 0 0,.slice none 0 0,.slice none 0 0]),6,112):=by kernel_rfl
theorem znV (w:Xk) (A1 A2 A3:Array Xl) (T1 T2 T3:Xm) (W:Xk) (hW:W=((w.alloc (.cells A1 T1)).alloc (.cells A2 T2)).alloc (.cells A3 T3)) :
  Loc W (w.heap.size+1) A2 T2∧Loc W (w.heap.size+1+1) A3 T3∧W.heap.size=w.heap.size+1+1+1∧Below w.heap.size w W:=by
 subst hW
 have m2:=Loc.made (w.alloc (.cells A1 T1)) A2 T2
 have m3:=Loc.made ((w.alloc (.cells A1 T1)).alloc (.cells A2 T2)) A3 T3
 simp only [World.size_alloc]at m2 m3
 exact⟨m2.alloc _,m3,by simp,(((Below.refl _ w).alloc (Nat.le_refl _) _).alloc (by simp) _).alloc (by simp;omega) _⟩
theorem zAs (V:Xk) (a b c d e f:Xl) (T:Xm):∀j u,[a,b,c,d,e,f][j]? = some u->(V.alloc (.cells #[a,b,c,d,e,f] T)).cell? ((⟨V.heap.size,0,none⟩:Addr).add j)=some u:=by
 intro j u h
 rw [zbp,Nat.zero_add,(Loc.made V #[a,b,c,d,e,f] T).cell j]
 simpa using h
theorem zlJ {w:Xk} {base:Nat} {e:Xm} {size n:Nat} {v:Xl} {xs:Xj} (h:w.ownsRow base e size v n xs) {g:Nat} (hg:g<base):v.ownBlock≠some g:=fun e=>by have:=(h.lt g e).1;omega
theorem Loc.grown {W W':Xk} {g:Nat} {cs:Array Xl} {T:Xm} {row:Option Nat} (h:Loc W g cs T) (hg:W.grownBy W' row) (hn:row≠some g):Loc W' g cs T:=(hg.block g h.lt (fun e=>hn e.symm)).trans h
theorem zwm {w V V1 V2:Xk} {s:Nat} {row:Option Nat} (h:Below s w V) (h1:Below V.heap.size V V1) (hg:V1.grownBy V2 row) (hr:∀g,row=some g->s<=g) (hs:s<=w.heap.size):Below s w V2:=by
 have h2:Below s w V1:=h.trans (h1.mono (Nat.le_trans hs h.size))
 exact h2.grown hg (Nat.le_trans hs h2.size) hr
set_option maxHeartbeats 3200000 in
theorem zlL (k:Nat) (w0 w:Xk) (hW0:Below w0.heap.size w0 w) (a b c d e:Xl) (t:Tr (k+1)) (xs:List (It w0)) (hP:Pre w0 (k+1) 1 [a,b,c,d,e] t xs) (hsz:szT (k+1) t<=2097152) :
  Calls Tryz.prog 33 #[.agg #[a,b,c,d,e]] w fun e w'=>∃v,e=.returned v∧zfo w' v xs∧Below w.heap.size w w':=by
 have ga:=ztu w0 (k+1) 1 _ t xs hP
 have oa:xs.length<=2097153:=by omega
 clear ga
 obtain⟨z,ab,nb,cb,ac,nc,cc,ad,nd,cd,ae,ne,ce,hC⟩:=zcN (zqU hP)
 simp only [List.cons.injEq,and_true]at hC
 obtain⟨rfl,rfl,rfl,rfl,rfl⟩:=hC
 have HP:=hide hP
 clear hP
 obtain⟨i0,ea,ia,ja,aa⟩:=info_parts Tryz.info96
 refine (callsIn_wide (n:=5)).1 ?_
 refine callsIn_of_wp_marks Tryz.func33 rfl trivial ?_ rfl
 simp only [Tryz.ntmps33,List.size_toArray,List.length_cons,List.length_nil,Nat.reduceAdd,Nat.reduceSub,Array.replicate_succ,Array.replicate_zero,List.push_toArray,List.append_toArray,List.nil_append,List.cons_append]
 gi_wp2_with fail
 refine⟨trivial,?_⟩
 refine (callsIn_wide.2 (zka _ _ _ _ _ _ _ _ _ _ _ _ _ _)).mono ?_
 rintro e W ⟨rfl,hW⟩
 obtain⟨l1,l2,fa,Za⟩:=znV w _ _ _ _ _ _ W hW
 clear hW
 simp only [World.size_alloc]
 obtain⟨q1,q2,q3⟩:w.heap.size<w.heap.size+1∧w.heap.size+1<w.heap.size+1+1∧w.heap.size+1+1<W.heap.size:=by omega
 clear fa
 generalize w.heap.size+1+1=p2 at *
 generalize w.heap.size+1=p1 at *
 gi_wp2_with fail
 refine ziI (gf:=62) (lb:= #[.pointer (some ⟨p2,0,none⟩)]) (Bx:=BxN) (Mt:=fun i o=>i=p1∨i=W.heap.size+1∨(W.heap.size+2<=i∧∃cs,o=.cells cs 96 (0,0))) (xs:=xs) (encs:=zgc) rfl (enters_of Tryz.func62 (by kernel_rfl) rfl)
  (fun _=>.inr (.inl rfl)) (fun q o hq hb hm=>by
   obtain⟨cs,rfl⟩:=hb
   rcases hm with h | h | ⟨_,cs',h⟩
   ·omega
   ·omega
   ·injection h with _ h2;revert h2;decide)
  (zmq w0 W _ p2 k _ (fun i o hi hm=>by have:=hW0.size;rcases hm with h | h | ⟨h,_⟩<;>omega) _ _ _ _ _ t xs (zaa HP) hsz (hW0.trans (Za.mono hW0.size)) l2) (fun _=>rfl)
  (fun Da V=>∃v,Loc V p1 #[v] 94∧V.ownsRow (W.heap.size+2) 96 6 v Da.length (zkO Da)∧Below w.heap.size w V)
  (fun Da V=>False)
  (fun Da A B row hs hg hr=>by
   obtain⟨v,h1,h2,h3⟩:=hs
   refine⟨v,h1.stay hg hr (by omega) (by omega),h2.kept hg ?_,zdj h3 (by omega) hg hr h3.size⟩
   by_cases hv:v.ownBlock=none
   ·exact .inl hv
   ·refine .inr fun e=> ?_
    obtain⟨g,Va⟩:=Option.ne_none_iff_exists'.1 hv
    have:=h2.lt g Va
    rcases hr g (by rw [<-e];exact Va)with h | h<;>omega)
  (fun Da A B row hs hg hr=>hs)
  ⟨_,l1,World.ownsRow_nil _ _ _ _,Za⟩
  (fun x a' V=>∃q,W.heap.size+1<q∧Loc V q #[x.a,x.b,x.c,x.d,x.e] 29∧a'={ tmps:= #[.agg #[.int .i64 z,.slice ab nb cb,.slice ac nc cc,.slice ad nd cd,.slice ae ne ce],.pointer (some ⟨w.heap.size,0,none⟩),.slice none 0 0,.pointer (some ⟨p1,0,none⟩),.int .i64 x.deep,.pointer (some ⟨q,0,none⟩),.agg #[.int .i64 z,.slice ab nb cb,.slice ac nc cc,.slice ad nd cd,.slice ae ne ce],.func (.func 62) #[] #[.pointer (some ⟨p2,0,none⟩)],.int .i64 x.deep,.agg #[x.a,x.b,x.c,x.d,x.e],undef,undef,undef,undef,undef,undef,undef],defers:=[] })
  (fun x a' u A B row hs hg hr=>by obtain⟨q,h1,h2,h3⟩:=hs;exact⟨q,h1,h2.stay hg hr (by omega) (by omega),h3⟩)
  ?assign ?body ?done ?stop
 case assign=>
  intro Da x V K hi ma hK
  obtain⟨deep,a,b,c,d,e,m,u,rd⟩:=x
  obtain⟨z,Ha,Ma,Ja,Ia,Oa,Ka,Qa,Na,Ga,Sa,Ta,Ra,hC⟩:=zcN rd
  simp only [List.cons.injEq,and_true]at hC
  obtain⟨rfl,rfl,rfl,rfl,rfl⟩:=hC
  simp only [zgc]at hK ⊢
  gi_wp2
  exact hK _ _ ((Below.refl _ _).alloc (Nat.le_refl _) _) ⟨V.heap.size,by omega,Loc.made V _ _,rfl⟩
 case body=>
  rintro Da x a' V ⟨v,i1,iR,iB⟩ ⟨q,hq,lq,rfl⟩ ha la
  obtain⟨deep,a,b,c,d,e,m,u,rd⟩:=x
  obtain⟨z',Ha,Ma,Ja,Ia,Oa,Ka,Qa,Na,Ga,Sa,Ta,Ra,hC⟩:=zcN rd
  simp only [List.cons.injEq,and_true]at hC
  obtain⟨rfl,rfl,rfl,rfl,rfl⟩:=hC
  have pa:Da.length+1<=2097153:=by have:=ha.length_le;simp at this;omega
  have c1:V.cell? ⟨p1,0,none⟩=some v:=i1.cell 0
  simp only at lq
  obtain⟨x0,x1,x2,x3,x4⟩:=lq.five
  have f1:=i1.frozen 0
  gi_wp2_with (gi_at_builtin;refine wpListIn_append_own _ rfl _ _ 94 rfl (W.heap.size+2) 96 i0 (.agg #[.int .i64 0,.int .i64 0,.slice none 0 0,.slice none 0 0,.slice none 0 0,.slice none 0 0]) 6 112 Tryz.underlying94 ea ia ja aa rfl (by decide) _ _ _ rfl (iR.alloc _) ⟨V.heap.size,0,none⟩ 1 1 [.int .i64 deep,.int .i64 z',.slice Ha Ma Ja,.slice Ia Oa Ka,.slice Qa Na Ga,.slice Sa Ta Ra] rfl rfl (zAs V _ _ _ _ _ _ _) (by intro y hy;simp at hy;rcases hy with rfl | rfl | rfl | rfl | rfl | rfl<;>rfl) (by unfold maxLen;omega) (by omega) (by simp;omega) ?_;intro v' w1 Ca Ba ba;have Aa:World.grownBy _ w1 v.ownBlock:=Ba;clear Ba;obtain⟨g',La,rfl⟩:=ownsRow_succ Ca;have i2:=(i1.alloc _).grown Aa (zlJ iR (by omega));have c2:w1.cell? ⟨p1,0,none⟩=some v:=i2.cell 0;have f2:=i2.frozen 0)
  have Fa:Below V.heap.size V (V.alloc (.cells #[.int .i64 deep,.int .i64 z',.slice Ha Ma Ja,.slice Ia Oa Ka,.slice Qa Na Ga,.slice Sa Ta Ra] 96)):=(Below.refl _ _).alloc (Nat.le_refl _) _
  have Ya:∀j,j<V.heap.size->j<W.heap.size+2->j≠p1->(w1.setCell ⟨p1,0,none⟩ (.slice (some ⟨g',0,none⟩) (Da.length+1) La)).heap[j]? = V.heap[j]? :=fun j hj da ca=>
   (heap_setCell_other w1 ⟨p1,0,none⟩ j _ ca).trans ((Aa.block j (by simp;omega) (fun e=>zlJ iR da e.symm)).trans (Fa.block j hj))
  refine⟨⟨Ya _ (by omega) (by omega) (by omega),Ya _ (by omega) (by omega) (by omega)⟩,?_,_,i2.set 0 _,?_,?_⟩
  ·refine ((Frp.ofBelow Fa _).trans (Frp.ofFrm (Frm.ofGrown Aa) (fun g hg o ho=> ?_))).trans (Frp.ofFrm (Frm.set w1 p1 0 _) (fun g hg o _=>.inl (by simpa using hg)))
   have Xa:v.ownBlock=some g:=by simpa using hg
   obtain⟨Ua,Pa⟩:=zbA iR Xa
   have Wa:=iR.lt g Xa
   rw [Fa.block g Wa.2,Pa]at ho
   cases ho
   exact .inr (.inr ⟨Wa.1,Ua,rfl⟩)
  ·rw [ztZ,List.length_append]
   exact Ca.kept (grownBy_setCell' w1 p1 _) (.inr (zlJ Ca (by omega)))
  ·exact (zwm iB Fa Aa (fun g hg=>by have:=(iR.lt g hg).1;omega) (Nat.le_refl _)).setCell (p:=⟨p1,0,none⟩) (by show w.heap.size<=p1;omega) _
 case done=>
  rintro V ⟨v,i1,iR,iB⟩ hD
  have c1:V.cell? ⟨p1,0,none⟩=some v:=i1.cell 0
  have hv:∃g n c,v=.slice g n c:=by
   rcases iR.2 with ⟨rfl,_⟩ | ⟨g',na,Ua,rfl,_⟩
   ·exact⟨_,_,_,rfl⟩
   ·exact⟨_,_,_,rfl⟩
  obtain⟨g,n,c,rfl⟩:=hv
  gi_wp2
  refine⟨by simp,.inl ⟨_,_,rfl,run_takeDeferred hD,?_⟩⟩
  refine⟨_,results_tmp rfl _ _ _,_,rfl,zyW (base:=W.heap.size+2) (iR.kept (grownBy_putObj' _ _ _) ?_) (by unfold maxLen;omega),zdj iB (D:=W.heap.size) (by omega) (grownBy_putObj' _ _ _) (fun r e=>by cases e;exact .inl rfl) iB.size⟩
  exact .inr (zlJ iR (by omega))
 case stop=>
  rintro Da V ka h hD
  exact h.elim
end Go.Proofs.YtgjolijncmkkhaaGreatDoor
namespace Go.Proofs.YtgjolijncmkkhaaGreatDoor
open Go.RowKit
set_option linter.unusedVariables false
set_option maxRecDepth 100000
theorem RdNode.shape5 {n:Nat} {w:Xk} {a b c d e:Xl} {t:Tr n} (h:RdNode n w [a,b,c,d,e] t):∃z ab nb cb ac nc cc ad nd cd ae ne ce,a=.int .i64 z∧b=.slice ab nb cb∧c=.slice ac nc cc∧d=.slice ad nd cd∧e=.slice ae ne ce:=by
 obtain⟨z,ab,nb,cb,ac,nc,cc,ad,nd,cd,ae,ne,ce,hC⟩:=zcN h
 simp only [List.cons.injEq,and_true]at hC
 exact⟨z,ab,nb,cb,ac,nc,cc,ad,nd,cd,ae,ne,ce,hC⟩
set_option maxHeartbeats 3200000 in
theorem znQ (n:Nat) (w:Xk) (a b c d e a' b' c' d' e':Xl) (t u:Tr (n+1)) (h:RdNode (n+1) w [a,b,c,d,e] t) (h':RdNode (n+1) w [a',b',c',d',e'] u) (hs:szT (n+1) t<=2097152) (hs':szT (n+1) u<=2097152) :
  Calls Tryz.prog 13 #[.agg #[a,b,c,d,e],.agg #[a',b',c',d',e']] w fun e w'=>e=.returned (.bool (zey n t u))∧Below w.heap.size w w':=by
 obtain⟨z,ab,nb,cb,ac,nc,cc,ad,nd,cd,ae,ne,ce,rfl,rfl,rfl,rfl,rfl⟩:=h.shape5
 obtain⟨z',Da,Ia,Ga,Fa,Ka,Ha,La,Ja,Ca,Oa,Pa,Na,rfl,rfl,rfl,rfl,rfl⟩:=h'.shape5
 obtain⟨l1,l2,hB⟩:=two w #[.int .i64 z,.slice ab nb cb,.slice ac nc cc,.slice ad nd cd,.slice ae ne ce] #[.int .i64 z',.slice Da Ia Ga,.slice Fa Ka Ha,.slice La Ja Ca,.slice Oa Pa Na] 29 29
 go_enter Tryz.func13,Tryz.ntmps13
 go_wp2_with fail
 generalize (w.alloc (.cells #[.int .i64 z,.slice ab nb cb,.slice ac nc cc,.slice ad nd cd,.slice ae ne ce] 29)).alloc (.cells #[.int .i64 z',.slice Da Ia Ga,.slice Fa Ka Ha,.slice La Ja Ca,.slice Oa Pa Na] 29)=w1 at *
 have HA:Hid (∀W,Below w1.heap.size w1 W->Calls Tryz.prog 12 #[.agg #[.int .i64 z,.slice ab nb cb,.slice ac nc cc,.slice ad nd cd,.slice ae ne ce]] W fun e w'=>e=.returned (.bool (okN n t))∧Below W.heap.size W w'):=hide fun W hW=>zcO n W _ _ _ _ _ t ((h.keep hB).keep hW) hs
 have HB:Hid (∀W,Below w1.heap.size w1 W->Calls Tryz.prog 12 #[.agg #[.int .i64 z',.slice Da Ia Ga,.slice Fa Ka Ha,.slice La Ja Ca,.slice Oa Pa Na]] W fun e w'=>e=.returned (.bool (okN n u))∧Below W.heap.size W w'):=hide fun W hW=>zcO n W _ _ _ _ _ u ((h'.keep hB).keep hW) hs'
 obtain⟨xs,hP⟩:=zkK w (n+1) 1 _ t h
 obtain⟨ys,hQ⟩:=zkK w (n+1) 1 _ u h'
 have HC:Hid (∀W,Below w1.heap.size w1 W->Calls Tryz.prog 33 #[.agg #[.int .i64 z,.slice ab nb cb,.slice ac nc cc,.slice ad nd cd,.slice ae ne ce]] W fun e w'=>∃v,e=.returned v∧zfo w' v xs∧Below W.heap.size W w'):=hide fun W hW=>zlL n w W (zal hB hW) _ _ _ _ _ t xs hP hs
 have HD:Hid (∀W,Below w1.heap.size w1 W->Calls Tryz.prog 33 #[.agg #[.int .i64 z',.slice Da Ia Ga,.slice Fa Ka Ha,.slice La Ja Ca,.slice Oa Pa Na]] W fun e w'=>∃v,e=.returned v∧zfo w' v ys∧Below W.heap.size W w'):=hide fun W hW=>zlL n w W (zal hB hW) _ _ _ _ _ u ys hQ hs'
 have HQ:Hid (okN n t=true->okN n u=true->zdb (xs.map hdI) (ys.map hdI)=zey n t u):=hide fun h1 h2=>by
  rw [zpo w (n+1) 1 _ t xs hP,zpo w (n+1) 1 _ u ys hQ,zCf]
  unfold zey
  rw [h1,h2];simp
 have Ta:Hid (okN n t=false->zey n t u=false):=hide fun h1=>by unfold zey;rw [h1];rfl
 have Ra:Hid (okN n u=false->zey n t u=false):=hide fun h1=>by unfold zey;rw [h1];simp
 obtain⟨x0,x1,x2,x3,x4⟩:=l1.five
 obtain⟨y0,y1,y2,y3,y4⟩:=l2.five
 clear hP hQ h h' hs hs'
 have HW:=hide hB
 clear hB
 by_cases ht:okN n t=true
 ·by_cases hu:okN n u=true
  ·have HR:=hide (zaa HQ ht hu)
   rw [ht]at HA
   rw [hu]at HB
   clear ht hu HQ Ta Ra
   go_region_held3 (fun w'=>w'.cell? ⟨w.heap.size,0,none⟩=some (.int .i64 z)∧w'.cell? ⟨w.heap.size,1,none⟩=some (.slice ab nb cb)∧w'.cell? ⟨w.heap.size,2,none⟩=some (.slice ac nc cc)∧w'.cell? ⟨w.heap.size,3,none⟩=some (.slice ad nd cd)∧w'.cell? ⟨w.heap.size,4,none⟩=some (.slice ae ne ce)∧w'.cell? ⟨w.heap.size+1,0,none⟩=some (.int .i64 z')∧w'.cell? ⟨w.heap.size+1,1,none⟩=some (.slice Da Ia Ga)∧w'.cell? ⟨w.heap.size+1,2,none⟩=some (.slice Fa Ka Ha)∧w'.cell? ⟨w.heap.size+1,3,none⟩=some (.slice La Ja Ca)∧w'.cell? ⟨w.heap.size+1,4,none⟩=some (.slice Oa Pa Na))
    (first | exact⟨by assumption,by assumption,by assumption,by assumption,by assumption,by assumption,by assumption,by assumption,by assumption,by assumption⟩ | simp [*])
    (first
     | (go_at_call 12;refine (zaa HA _ ((Below.refl _ _).drew)).mono ?_;clear HA;rintro e w2 ⟨rfl,Ma⟩;have Aa:=zal ((Below.refl w1.heap.size w1).drew) Ma;obtain⟨x0,x1,x2,x3,x4⟩:=(l1.all Aa).five;obtain⟨y0,y1,y2,y3,y4⟩:=(l2.all Aa).five)
     | (go_at_call 12;refine (zaa HB _ Aa).mono ?_;clear HB;rintro e w3 ⟨rfl,Va⟩;have Ba:=zal Aa Va;obtain⟨x0,x1,x2,x3,x4⟩:=(l1.all Ba).five;obtain⟨y0,y1,y2,y3,y4⟩:=(l2.all Ba).five)
     | (go_at_call 33;refine (zaa HC _ Ba).mono ?_;clear HC;rintro e w4 ⟨v4,rfl,Za,ba⟩;have Qa:=zal Ba ba;obtain⟨x0,x1,x2,x3,x4⟩:=(l1.all Qa).five;obtain⟨y0,y1,y2,y3,y4⟩:=(l2.all Qa).five)
     | (go_at_call 33;refine (zaa HD _ Qa).mono ?_;clear HD;rintro e w5 ⟨v5,rfl,aa,Ya⟩;have Sa:=zal Qa Ya;obtain⟨x0,x1,x2,x3,x4⟩:=(l1.all Sa).five;obtain⟨y0,y1,y2,y3,y4⟩:=(l2.all Sa).five)
     | (go_at_call 32;refine (zmu w _ (zal (zaa HW) Sa) _ _ xs ys (Elems.keep Za Ya (fun _ _ _ h=>h)) aa).mono ?_;rintro e w6 ⟨rfl,ca⟩;have Wa:=zal Sa ca;obtain⟨x0,x1,x2,x3,x4⟩:=(l1.all Wa).five;obtain⟨y0,y1,y2,y3,y4⟩:=(l2.all Wa).five))
   all_goals
    go_wp2_with fail
    go_ret
    exact⟨by rw [<-zaa HR];rfl,zal (zaa HW) Wa⟩
  ·have Xa:okN n u=false:=by simpa using hu
   have HR:=hide (zaa Ra Xa)
   rw [ht]at HA
   rw [Xa]at HB
   clear ht hu Xa HC HD HQ Ta Ra
   go_region_with (first
    | (go_at_call 12;refine (zaa HA _ ((Below.refl _ _).drew)).mono ?_;clear HA;rintro e w2 ⟨rfl,Ma⟩;have Aa:=zal ((Below.refl w1.heap.size w1).drew) Ma;obtain⟨x0,x1,x2,x3,x4⟩:=(l1.all Aa).five;obtain⟨y0,y1,y2,y3,y4⟩:=(l2.all Aa).five)
    | (go_at_call 12;refine (zaa HB _ Aa).mono ?_;clear HB;rintro e w3 ⟨rfl,Va⟩;have Ba:=zal Aa Va;obtain⟨x0,x1,x2,x3,x4⟩:=(l1.all Ba).five;obtain⟨y0,y1,y2,y3,y4⟩:=(l2.all Ba).five))
   all_goals
    go_wp2_with fail
    go_ret
    exact⟨by rw [zaa HR];rfl,zal (zaa HW) Ba⟩
 ·have Ua:okN n t=false:=by simpa using ht
  have HR:=hide (zaa Ta Ua)
  rw [Ua]at HA
  clear ht Ua HB HC HD HQ Ta Ra
  go_region_with ((go_at_call 12;refine (zaa HA _ ((Below.refl _ _).drew)).mono ?_;rintro e w2 ⟨rfl,Ma⟩;have Aa:=zal ((Below.refl w1.heap.size w1).drew) Ma;obtain⟨x0,x1,x2,x3,x4⟩:=(l1.all Aa).five;obtain⟨y0,y1,y2,y3,y4⟩:=(l2.all Aa).five))
  all_goals
   go_wp2_with fail
   go_ret
   exact⟨by rw [zaa HR];rfl,zal (zaa HW) Aa⟩
end Go.Proofs.YtgjolijncmkkhaaGreatDoor
