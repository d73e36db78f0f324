/- Own texts joined: TagW, NodeW. -/
import Derived.Test.YtgjolijncmkkhaaGreatDoorJa
namespace Go.Proofs.YtgjolijncmkkhaaGreatDoor
open Go.RowKit
set_option linter.unusedVariables false
set_option maxRecDepth 100000
theorem zyo:zaJ (⟨#[60]⟩,[60]):=⟨rfl,zzy⟩
theorem zxW:zaJ (⟨#[32]⟩,[32]):=⟨rfl,fun x hx=>by simp at hx;omega⟩
theorem zym:zaJ (⟨#[34]⟩,[34]):=⟨rfl,fun x hx=>by simp at hx;omega⟩
theorem zrL:zaJ (⟨#[62]⟩,[62]):=⟨rfl,fun x hx=>by simp at hx;omega⟩
theorem zya:zaJ (⟨#[61,34]⟩,[61,34]):=⟨rfl,zvf⟩
theorem zwy:zaJ (⟨#[60,47]⟩,[60,47]):=⟨rfl,zmk⟩
theorem zxX (B g cap:Nat) (w:Xg) (L:Xc) (s1 s2:ByteArray) (m1 m2:Xc) (hw:Wr B w g L) (hB:B<=w.heap.size) (h1:zaJ (s1,m1)) (h2:zaJ (s2,m2)) (hlen:L.length+m1.length+m2.length<=100000000) :
  Calls Tryz.prog 61 #[.pointer (some ⟨g,0,none⟩),.slice (some ⟨w.heap.size,0,none⟩) 2 cap] (w.alloc (.cells #[.string s1,.string s2] 9)) fun e w'=>e=.returned (.tuple #[])∧Wr B w' g (L++m1++m2)∧Frp (MtW B g) w w':=by
 have hb:Below w.heap.size w (w.alloc (.cells #[.string s1,.string s2] 9)):=(Below.refl _ _).alloc (Nat.le_refl _) _
 have h:=zmo B g w.heap.size cap _ L [(s1,m1),(s2,m2)] (hw.keep hb) (Nat.le_trans hB hb.size) (Loc.made w #[.string s1,.string s2] 9) (zzG h1 h2) (by simp) (by simp;omega)
 refine h.mono ?_
 rintro e w' ⟨rfl,h1,h2⟩
 exact⟨rfl,by simpa using h1,(Frp.ofBelow hb _).trans h2⟩
theorem znm (B g cap:Nat) (w:Xg) (L:Xc) (s1 s2 s3:ByteArray) (m1 m2 m3:Xc) (hw:Wr B w g L) (hB:B<=w.heap.size) (h1:zaJ (s1,m1)) (h2:zaJ (s2,m2)) (h3:zaJ (s3,m3)) (hlen:L.length+m1.length+m2.length+m3.length<=100000000) :
  Calls Tryz.prog 61 #[.pointer (some ⟨g,0,none⟩),.slice (some ⟨w.heap.size,0,none⟩) 3 cap] (w.alloc (.cells #[.string s1,.string s2,.string s3] 9)) fun e w'=>e=.returned (.tuple #[])∧Wr B w' g (L++m1++m2++m3)∧Frp (MtW B g) w w':=by
 have hb:Below w.heap.size w (w.alloc (.cells #[.string s1,.string s2,.string s3] 9)):=(Below.refl _ _).alloc (Nat.le_refl _) _
 have h:=zmo B g w.heap.size cap _ L [(s1,m1),(s2,m2),(s3,m3)] (hw.keep hb) (Nat.le_trans hB hb.size) (Loc.made w #[.string s1,.string s2,.string s3] 9) (zzh h1 h2 h3) (by simp) (by simp;omega)
 refine h.mono ?_
 rintro e w' ⟨rfl,h1,h2⟩
 exact⟨rfl,by simpa using h1,(Frp.ofBelow hb _).trans h2⟩
theorem zdo (B g i:Nat) (cs:Array Xh):¬ MtW B g i (.cells cs 29 (0,0)):=zmn (by decide) (by decide)
theorem zvM (B g i:Nat) (cs:Array Xh):¬ MtW B g i (.cells cs 132 (0,0)):=zmn (by decide) (by decide)
set_option maxHeartbeats 6400000 in
theorem zyh (w0 w:Xg) (B g:Nat) (L:Xc) (kd:Int) (b c d e:Xh) (name text:Xc) (attrs:List (Xc×Xc)) (a5:Xe) (n5 c5:Nat) (hw:Wr B w g L) (hB:B<=w.heap.size) (hb:Byt w0 b name) (hc:Byt w0 c text) (hd:RdAttrs w0 d attrs) (he:e=.slice a5 n5 c5)
  (hW:Below w0.heap.size w0 w) (h0:w0.heap.size<=B) (hg0:w0.heap.size<=g) (hlen:L.length+1+name.length+(zal attrs).length+1<=100000000) :
  Calls Tryz.prog 59 #[.pointer (some ⟨g,0,none⟩),.agg #[.int .i64 kd,b,c,d,e]] w fun e w'=>e=.returned (.tuple #[])∧Wr B w' g (L++[60]++name++zal attrs++[62])∧Frp (MtW B g) w w':=by
 subst he
 obtain⟨ab,cb,rfl,_,_⟩:=hb.shape
 obtain⟨ac,cc,rfl,_,_⟩:=hc.shape
 obtain⟨ad,cd,rfl,_,_⟩:=Elems.shape hd
 have Ga:Below w.heap.size w (w.alloc (.cells #[.int .i64 kd,.slice ab name.length cb,.slice ac text.length cc,.slice ad attrs.length cd,.slice a5 n5 c5] 29)):=(Below.refl _ _).alloc (Nat.le_refl _) _
 have l1:=Loc.made w #[.int .i64 kd,.slice ab name.length cb,.slice ac text.length cc,.slice ad attrs.length cd,.slice a5 n5 c5] 29
 have F1:Frp (MtW B g) w _:=Frp.ofBelow Ga (MtW B g)
 have Xa:=hide (hw.keep Ga)
 have ca:=hW.trans (Ga.mono hW.size)
 have Qa:=Nat.le_trans hB Ga.size
 have v1:=zbn _ _ name (hb.keep ca)
 obtain⟨x0,x1,x2,x3,x4⟩:=l1.five
 have ma:(attrs.length:Int)<=9223372036854775807:=by have:=hd.1;unfold maxLen at this;omega
 have hp:=zxX B g 2 _ L ⟨#[60]⟩ (str name) [60] name (zaa Xa) Qa zyo (zjE hb.1) (by simp;omega)
 simp only [World.size_alloc]at hp
 have HP:=hide hp
 clear hp
 clear hw Xa
 generalize str name=sn at *
 go_enter Tryz.func59,Tryz.ntmps59
 go_wp2_with fail
 refine (zaa HP).mono ?_
 clear HP
 rintro e w2 ⟨rfl,Ia,F2⟩
 have Wa:=F1.trans F2
 have l2:=l1.frp F2 (zdo _ _ _ _)
 clear x0 x1 x2 x3 x4 v1
 have c3:w2.cell? ⟨w.heap.size,3,none⟩=some (.slice ad attrs.length cd):=l2.cell 3
 have oa:B<=w2.heap.size:=Nat.le_trans hB Wa.size
 obtain⟨A0,Ka⟩:∃A0,A0=L++[60]++name:=⟨_,rfl⟩
 rw [<-Ka]at Ia
 have ha:=hide Ka
 have na:A0.length+(zal attrs).length+1<=100000000:=by
  rw [Ka];simp only [List.length_append,List.length_cons,List.length_nil];omega
 have HW:=hide (fun (W:Xg) (F:Frp (MtW B g) w W)=>hW.trans (FrpW.toBelow F hW.size h0 hg0))
 clear Ka l1 l2 F1 F2
 go_wp2_with fail
 go_loopw [15] (fun i wr=>∃j:Nat,j<=attrs.length∧i=.int .i64 j∧Wr B wr g (A0++zal (attrs.take j))∧Frp (MtW B g) w wr) (fun i _=>attrs.length-(intOf i).toNat)
 case atStart=>exact⟨0,Nat.zero_le _,rfl,by simpa [zal]using Ia,Wa⟩
 case round=>
  obtain⟨j,hj,rfl,hr,hf⟩:=hrel
  have Ya:B<=wr.heap.size:=Nat.le_trans hB hf.size
  by_cases hjl:j<attrs.length
  ·have Ja:zal (attrs.take (j+1))=zal (attrs.take j)++zbA attrs[j]:=zeP zbA attrs j hjl
   have Sa:(zal (attrs.take (j+1))).length<=(zal attrs).length:=zgI zbA attrs (j+1)
   obtain⟨pb,Ba,rfl,Ta,la,_,C,hC,Aa,Va⟩:=hd.at hjl
   clear la
   obtain⟨x,hx⟩:∃x,x=attrs[j]:=⟨_,rfl⟩
   rw [<-hx]at Va Ja
   obtain⟨y0,y1,rfl,Oa,Ua⟩:=Va
   have q0:=Aa 0 (by omega)
   have q1:=Aa 1 (by omega)
   simp only [List.getElem?_cons_zero,List.getElem?_cons_succ,Nat.add_zero]at q0 q1
   obtain⟨s0,g0,rfl,_,_⟩:=Oa.shape
   obtain⟨s1,g1,rfl,_,_⟩:=Ua.shape
   obtain⟨M,hM⟩:∃M,M=A0++zal (attrs.take j):=⟨_,rfl⟩
   have HL:=hide (show A0++zal (attrs.take (j+1))=M++[32]++x.1++[61,34]++say true x.2++[34] by rw [Ja,hM];simp [zbA])
   have ja:M.length+4+x.1.length+(say true x.2).length<=100000000:=by
    rw [Ja]at Sa
    rw [hM]
    simp only [List.length_append,zbA,List.length_cons,List.length_nil]at Sa ⊢
    omega
   rw [<-hM]at hr
   have fa:(j:Int)<(attrs.length:Int):=by omega
   have Za:=zaa HW wr hf
   have u0:wr.cell? ⟨pb,Ba+j*2,none⟩=some (.slice s0 x.1.length g0):=(Za.cell (p:=⟨pb,Ba+j*2,none⟩) Ta).trans q0
   have u1:wr.cell? ⟨pb,Ba+j*2+1,none⟩=some (.slice s1 x.2.length g1):=(Za.cell (p:=⟨pb,Ba+j*2+1,none⟩) Ta).trans q1
   have Ha:Below wr.heap.size wr (wr.alloc (.cells #[.slice s0 x.1.length g0,.slice s1 x.2.length g1] 132)):=(Below.refl _ _).alloc (Nat.le_refl _) _
   have a1:=Loc.made wr #[.slice s0 x.1.length g0,.slice s1 x.2.length g1] 132
   have Fa:=hf.trans (Frp.ofBelow Ha (MtW B g))
   have vx:=zbn _ _ x.1 (Oa.keep (zaa HW _ Fa))
   have b0:(wr.alloc (.cells #[.slice s0 x.1.length g0,.slice s1 x.2.length g1] 132)).cell? ⟨wr.heap.size,0,none⟩=some (.slice s0 x.1.length g0):=a1.cell 0
   have hp:=znm B g 3 _ M ⟨#[32]⟩ (str x.1) ⟨#[61,34]⟩ [32] x.1 [61,34] (hr.keep Ha) (Nat.le_trans Ya Ha.size) zxW (zjE Oa.1) zya (by simp;omega)
   simp only [World.size_alloc]at hp
   have HP:=hide hp
   clear hp
   generalize str x.1=sx at *
   clear hr Ja Sa hx hM Aa Ia hd Ha q0 q1 c3
   go_wp2_with fail
   refine (zaa HP).mono ?_
   clear HP
   rintro e w3 ⟨rfl,Ma,F3⟩
   have Ra:=Fa.trans F3
   have a3:=a1.frp F3 (zvM _ _ _ _)
   have b1:w3.cell? ⟨wr.heap.size,1,none⟩=some (.slice s1 x.2.length g1):=a3.cell 1
   obtain⟨M3,Pa⟩:∃M3,M3=M++[32]++x.1++[61,34]:=⟨_,rfl⟩
   have pa:M3.length+(say true x.2).length+1<=100000000:=by rw [Pa];simp only [List.length_append,List.length_cons,List.length_nil];omega
   rw [<-Pa]at Ma HL
   clear b0 vx Pa ja u0 u1
   go_wp2_with fail
   refine (zpa w0 w3 B g _ M3 x.2 true Ma (Nat.le_trans hB Ra.size) Ua (zaa HW _ Ra) h0 hg0 (by omega)).mono ?_
   rintro e w4 ⟨rfl,La,F4⟩
   have aa:=Ra.trans F4
   obtain⟨M4,Na⟩:∃M4,M4=M3++say true x.2:=⟨_,rfl⟩
   have ea:M4.length+1<=100000000:=by rw [Na,List.length_append];omega
   rw [<-Na]at La HL
   have ba:=hide (zgt B g 1 w4 M4 ⟨#[34]⟩ [34] La (Nat.le_trans hB aa.size) zym (by simpa using ea))
   clear Ma La b1 Na
   go_wp2_with fail
   refine (zaa ba).mono ?_
   clear ba
   rintro e w5 ⟨rfl,Ca,F5⟩
   rw [<-zaa HL]at Ca
   have ka:=hide Ca
   clear Ca
   go_wp2_with fail
   go_roundw
   case rel=>exact⟨j+1,by omega,by go_num,zaa ka,aa.trans F5⟩
   case measure=>simp [intOf];omega
  ·have ga:j=attrs.length:=by omega
   subst ga
   rw [List.take_length]at hr
   obtain⟨A1,Da⟩:∃A1,A1=A0++zal attrs:=⟨_,rfl⟩
   have ia:A1.length+1<=100000000:=by rw [Da,List.length_append];omega
   rw [<-Da]at hr
   have da:=hide Da
   have HP:=hide (zgt B g 1 wr A1 ⟨#[62]⟩ [62] hr Ya zrL (by simpa using ia))
   clear hr hd Da Ia c3
   go_wp2_with fail
   refine (zaa HP).mono ?_
   clear HP
   rintro e w5 ⟨rfl,Ca,F5⟩
   go_wp2_with fail
   go_end0
   exact⟨rfl,by rw [<-zaa ha,<-zaa da];exact Ca,hf.trans F5⟩
open Classical in
theorem zyf (B g:Nat) (w:Xg) (v:Xh) (l L:Xc) (h:Wr B w g L) (hB:B<=w.heap.size) (hv:∀w',Frm w w' [g]->Byt w' v l) :
  Calls Tryz.prog 60 #[.pointer (some ⟨g,1,none⟩),v] w fun e w'=>e=.returned (.bool (zaL l))∧Wr B w' g L∧Frp (MtW B g) w w':=by
 obtain⟨o,ho,hs⟩:=h
 obtain⟨cs,hl,_,_,_⟩:=hs.loc
 refine (zxD B o g w v l hs hB hv).mono ?_
 rintro e w' ⟨rfl,hm,hf⟩
 have hd:decide (Void l)=zaL l:=by
  rw [Bool.eq_iff_iff,zcF]
  simp
 refine⟨by rw [<-hd],⟨o,ho.frm hf (fun i hi Aa=> ?_),.inr hm⟩,FrpW.ofFrm hl hf⟩
 have e1:i=g:=by simpa using Aa
 have e2:o.ownBlock=some i:=by simpa [FB]using hi
 exact zha (B:=B) ho hl (by rw [e2,e1])
def zpZ (n:Nat):Prop:=∀(w0 w:Xg) (B g:Nat) (L:Xc) (a b c d e:Xh) (t:Tr n),RdNode n w0 [a,b,c,d,e] t->Below w0.heap.size w0 w->w0.heap.size<=B->w0.heap.size<=g->B<=w.heap.size->Wr B w g L->L.length+(mkup n t).length<=100000000->
  Calls Tryz.prog 29 #[.pointer (some ⟨g,0,none⟩),.agg #[a,b,c,d,e]] w fun e w'=>e=.returned (.tuple #[])∧Wr B w' g (L++mkup n t)∧Frp (MtW B g) w w'
theorem ziG {n:Nat} {w:Xg} {a b c d e:Xh} {t:Tr n} (h:RdNode n w [a,b,c,d,e] t):∃z ab nb cb ac nc cc ad nd cd ae ne ce,a=.int .i64 z∧b=.slice ab nb cb∧c=.slice ac nc cc∧d=.slice ad nd cd∧e=.slice ae ne ce:=by
 cases n with
 | zero=>exact absurd h (by unfold RdNode;exact id)
 | succ n=>
  obtain⟨_,_,_,_,e0,k1,k2,hb,hc,hd,he⟩:=h
  simp only [List.cons.injEq,and_true]at e0
  obtain⟨rfl,rfl,rfl,rfl,rfl⟩:=e0
  obtain⟨ab,cb,rfl,_,_⟩:=hb.shape
  obtain⟨ac,cc,rfl,_,_⟩:=hc.shape
  obtain⟨ad,cd,rfl,_,_⟩:=Elems.shape hd
  obtain⟨ae,ce,rfl,_,_⟩:=Elems.shape he
  exact⟨_,_,_,_,_,_,_,_,_,_,_,_,_,rfl,rfl,rfl,rfl,rfl⟩
set_option maxHeartbeats 6400000 in
theorem zvI (n:Nat) (H:zpZ n):zpZ (n+1):=by
 intro w0 w B g L a b c d e t ka hW h0 Ka hB hw Aa
 obtain⟨_,_,_,_,e0,k1,k2,hb,hc,hd,he⟩:=ka
 simp only [List.cons.injEq,and_true]at e0
 obtain⟨rfl,rfl,rfl,rfl,rfl⟩:=e0
 obtain⟨ab,cb,rfl,_,_⟩:=hb.shape
 obtain⟨ac,cc,rfl,_,_⟩:=hc.shape
 obtain⟨ad,cd,rfl,_,_⟩:=Elems.shape hd
 obtain⟨ae,ce,rfl,_,_⟩:=Elems.shape he
 have Na:Below w.heap.size w (w.alloc (.cells #[.int .i64 t.kind,.slice ab t.name.length cb,.slice ac t.text.length cc,.slice ad t.attrs.length cd,.slice ae t.kids.length ce] 29)):=(Below.refl _ _).alloc (Nat.le_refl _) _
 have l1:=Loc.made w #[.int .i64 t.kind,.slice ab t.name.length cb,.slice ac t.text.length cc,.slice ad t.attrs.length cd,.slice ae t.kids.length ce] 29
 have F1:Frp (MtW B g) w _:=Frp.ofBelow Na (MtW B g)
 have Qa:=hide (hw.keep Na)
 have Xa:=hW.trans (Na.mono hW.size)
 have Ma:=Nat.le_trans hB Na.size
 have Ga:=zdn n t
 obtain⟨x0,x1,x2,x3,x4⟩:=l1.five
 by_cases hz:t.kind=1
 ·have dz:(t.kind == 1)=true:=by simpa using hz
  rw [if_pos hz]at Ga
  rw [Ga]at Aa ⊢
  have HP:=hide (zpa w0 _ B g _ L t.text false (zaa Qa) Ma hc Xa h0 Ka Aa)
  clear hz Ga hw Qa
  go_enter Tryz.func29,Tryz.ntmps29
  go_wp2_with fail
  refine (zaa HP).mono ?_
  rintro e w2 ⟨rfl,Ca,F2⟩
  go_wp2_with fail
  (first | go_end0 | (simp only [Exit.inBlock,Exit.then];refine bodyPost_ret (results_none rfl _ _ _) rfl ?_) | refine bodyPost_ret (results_none rfl _ _ _) rfl ?_)
  exact⟨rfl,Ca,F1.trans F2⟩
 ·have dz:(t.kind == 1)=false:=by simpa using hz
  rw [if_neg hz]at Ga
  rw [Ga]at Aa ⊢
  obtain⟨G,hG⟩:∃G,G=L++([60]++t.name++zal t.attrs++[62]++(if zaL t.name=true then [] else (t.kids.map (mkup n)).flatten++[60,47]++t.name++[62])):=⟨_,rfl⟩
  rw [<-hG]
  have Sa:L.length+1+t.name.length+(zal t.attrs).length+1<=100000000:=by
   simp only [List.length_append,List.length_cons,List.length_nil]at Aa
   omega
  have HP:=hide (zyh w0 _ B g L t.kind _ _ _ _ t.name t.text t.attrs ae t.kids.length ce (zaa Qa) Ma hb hc hd rfl Xa h0 Ka Sa)
  have HG:=hide hG
  have wa:(t.kids.length:Int)<=9223372036854775807:=by have:=he.1;unfold maxLen at this;omega
  clear hz Ga hG hw Qa
  go_enter Tryz.func29,Tryz.ntmps29
  go_wp2_with fail
  refine (zaa HP).mono ?_
  clear HP
  rintro e w2 ⟨rfl,Ca,F2⟩
  have Pa:=F1.trans F2
  have l2:=l1.frp F2 (zdo _ _ _ _)
  have HW:=hide (fun (W:Xg) (F:Frp (MtW B g) w W)=>hW.trans (FrpW.toBelow F hW.size h0 Ka))
  clear x0 x1 x2 x3 x4
  obtain⟨x0,x1,x2,x3,x4⟩:=l2.five
  obtain⟨A2,Da⟩:∃A2,A2=L++[60]++t.name++zal t.attrs++[62]:=⟨_,rfl⟩
  rw [<-Da]at Ca
  have Ra:Below w2.heap.size w2 w2.drew:=(Below.refl _ _).drew
  have Fd:Frp (MtW B g) w2 w2.drew:=Frp.ofBelow Ra _
  have Va:=zaa HW _ (Pa.trans Fd)
  have ca:∀w',Frm w2.drew w' [g]->Byt w' (.slice ab t.name.length cb) t.name:=fun w' hf=>hb.keep (Va.trans (hf.below Va.size (fun q hq=>by
   have e:q=g:=by simpa using hq
   rw [e];exact Ka)))
  have HH:=hide (zyf B g w2.drew _ t.name A2 (Ca.keep Ra) (Nat.le_trans hB Pa.size) ca)
  clear ca Va
  go_wp2_with fail
  by_cases hv:zaL t.name=true
  ·have HE:=hide (show L++([60]++t.name++zal t.attrs++[62]++(if zaL t.name=true then [] else (t.kids.map (mkup n)).flatten++[60,47]++t.name++[62]))=A2 by rw [if_pos hv,Da];simp)
   have Ua:=hide ((zaa HG).trans (zaa HE))
   rw [hv]at HH
   clear hv Da HE HG Aa Sa Ca l1 F2
   go_region_held3 (fun w'=>w'.cell? ⟨w.heap.size,1,none⟩=some (.slice ab t.name.length cb))
    (first | assumption | simp [*])
    ((go_at_call 60;refine (zaa HH).mono ?_;rintro e w3 ⟨rfl,Ia,F3⟩;have x1:w3.cell? ⟨w.heap.size,1,none⟩=some (.slice ab t.name.length cb):=(l2.frp (Fd.trans F3) (zdo _ _ _ _)).cell 1))
   all_goals
    go_wp2_with fail
    (first | go_end0 | (simp only [Exit.inBlock,Exit.then];refine bodyPost_ret (results_none rfl _ _ _) rfl ?_) | refine bodyPost_ret (results_none rfl _ _ _) rfl ?_)
    exact⟨rfl,by rw [zaa Ua];exact Ia,Pa.trans (Fd.trans F3)⟩
  ·have ba:zaL t.name=false:=by simpa using hv
   have HE:=hide (show L++([60]++t.name++zal t.attrs++[62]++(if zaL t.name=true then [] else (t.kids.map (mkup n)).flatten++[60,47]++t.name++[62]))=A2++(t.kids.map (mkup n)).flatten++[60,47]++t.name++[62] by rw [if_neg hv,Da];simp)
   have Ua:=hide ((zaa HG).trans (zaa HE))
   have xa:A2.length+(t.kids.map (mkup n)).flatten.length+3+t.name.length<=100000000:=by
    rw [if_neg hv]at Aa
    rw [Da]
    simp only [List.length_append,List.length_cons,List.length_nil]at Aa ⊢
    omega
   rw [ba]at HH
   clear hv ba Da HE HG Aa Sa Ca l1 F2
   go_region_held3 (fun w'=>w'.cell? ⟨w.heap.size,1,none⟩=some (.slice ab t.name.length cb))
    (first | assumption | simp [*])
    ((go_at_call 60;refine (zaa HH).mono ?_;rintro e w3 ⟨rfl,Ia,F3⟩;have x1:w3.cell? ⟨w.heap.size,1,none⟩=some (.slice ab t.name.length cb):=(l2.frp (Fd.trans F3) (zdo _ _ _ _)).cell 1))
   have l3:=l2.frp (Fd.trans F3) (zdo _ _ _ _)
   have qa:=Pa.trans (Fd.trans F3)
   have c4:w3.cell? ⟨w.heap.size,4,none⟩=some (.slice ae t.kids.length ce):=l3.cell 4
   clear x0 x2 x3 x4 x1 Fd F3 Ra HH
   go_wp2_with fail
   go_loopw [25] (fun i wr=>∃j:Nat,j<=t.kids.length∧i=.int .i64 j∧Wr B wr g (A2++((t.kids.take j).map (mkup n)).flatten)∧Frp (MtW B g) w3 wr) (fun i _=>t.kids.length-(intOf i).toNat)
   case atStart=>exact⟨0,Nat.zero_le _,rfl,by simpa using Ia,Frp.refl _ _⟩
   case round=>
    obtain⟨j,hj,rfl,hr,hf⟩:=hrel
    have Ja:=qa.trans hf
    have aa:B<=wr.heap.size:=Nat.le_trans hB Ja.size
    by_cases hjl:j<t.kids.length
    ·have Ta:=zeP (mkup n) t.kids j hjl
     have Wa:=zgI (mkup n) t.kids (j+1)
     obtain⟨pb,Ba,rfl,Ha,pa,_,hC⟩:=he.at hjl
     clear pa
     obtain⟨c0,c1,c2,c3,ya,e0,e1,e2,e3,e4,hx⟩:=zre hC
     have La:=zaa HW wr Ja
     replace e0:=(La.cell (p:=⟨pb,Ba+j*5,none⟩) Ha).trans e0
     replace e1:=(La.cell (p:=⟨pb,Ba+j*5+1,none⟩) Ha).trans e1
     replace e2:=(La.cell (p:=⟨pb,Ba+j*5+2,none⟩) Ha).trans e2
     replace e3:=(La.cell (p:=⟨pb,Ba+j*5+3,none⟩) Ha).trans e3
     replace e4:=(La.cell (p:=⟨pb,Ba+j*5+4,none⟩) Ha).trans e4
     obtain⟨z,ea,la,ia,ga,na,ja,oa,ma,da,sa,ua,ra,rfl,rfl,rfl,rfl,rfl⟩:=ziG hx
     have Oa:Below wr.heap.size wr (wr.alloc (.cells #[.int .i64 z,.slice ea la ia,.slice ga na ja,.slice oa ma da,.slice sa ua ra] 29)):=(Below.refl _ _).alloc (Nat.le_refl _) _
     have Fa:Frp (MtW B g) wr _:=Frp.ofBelow Oa (MtW B g)
     have fa:(j:Int)<(t.kids.length:Int):=by omega
     have Za:(A2++((t.kids.take j).map (mkup n)).flatten).length+(mkup n t.kids[j]).length<=100000000:=by
      rw [Ta]at Wa
      simp only [List.length_append]at Wa ⊢
      omega
     have va:=hide (show A2++((t.kids.take (j+1)).map (mkup n)).flatten=A2++((t.kids.take j).map (mkup n)).flatten++mkup n t.kids[j] by rw [Ta,List.append_assoc])
     have HC:=hide (H w0 _ B g _ _ _ _ _ _ t.kids[j] hx (zaa HW _ (Ja.trans Fa)) h0 Ka (Nat.le_trans aa Oa.size) (hr.keep Oa) Za)
     clear hr Ta Wa hC Za hx Oa c4 Ia he
     go_wp2_with fail
     refine (zaa HC).mono ?_
     clear HC
     rintro e w9 ⟨rfl,Ya,F9⟩
     have HO:=hide (show Wr B w9 g (A2++((t.kids.take (j+1)).map (mkup n)).flatten) by rw [zaa va];exact Ya)
     clear Ya e0 e1 e2 e3 e4
     go_wp2_with fail
     go_roundw
     case rel=>exact⟨j+1,by omega,by go_num,zaa HO,hf.trans (Fa.trans F9)⟩
     case measure=>simp [intOf];omega
    ·have ha:j=t.kids.length:=by omega
     subst ha
     rw [List.take_length]at hr
     have x1:wr.cell? ⟨w.heap.size,1,none⟩=some (.slice ab t.name.length cb):=(l3.frp hf (zdo _ _ _ _)).cell 1
     have vx:=zbn wr _ t.name (hb.keep (zaa HW _ Ja))
     have HP:=hide (znm B g 3 wr _ ⟨#[60,47]⟩ (str t.name) ⟨#[62]⟩ [60,47] t.name [62] hr aa zwy (zjE hb.1) zrL (by simp only [List.length_append,List.length_cons,List.length_nil];omega))
     generalize str t.name=sn at *
     clear hr he Ia c4 l3
     go_wp2_with fail
     refine (zaa HP).mono ?_
     clear HP
     rintro e w5 ⟨rfl,ta,F5⟩
     go_wp2_with fail
     go_end0
     exact⟨rfl,by rw [zaa Ua];exact ta,Ja.trans F5⟩
theorem zpF:∀n,zpZ n
 | 0=>fun w0 w B g L a b c d e t Aa=>absurd Aa (by unfold RdNode;exact id)
 | n+1=>zvI n (zpF n)
end Go.Proofs.YtgjolijncmkkhaaGreatDoor
