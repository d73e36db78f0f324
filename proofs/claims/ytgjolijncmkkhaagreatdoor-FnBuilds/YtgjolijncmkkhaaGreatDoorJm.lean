/- Own texts joined: GrowT, Blk, MkD, StepC, L2dr, SpoilX, L3draw, DrBd. -/
import Derived.Test.YtgjolijncmkkhaaGreatDoorJa
import Derived.Test.YtgjolijncmkkhaaGreatDoorJl
import Derived.Deep.Cut
import Derived.Deep.RegionLaw
import Derived.Shelf.Abstract
import Derived.Deep.RegionHeld3
import Derived.Deep.CutRange
import Derived.Deep.CutBlock
namespace Go.Proofs.YtgjolijncmkkhaaGreatDoor
open Go.RowKit
set_option linter.unusedVariables false
set_option maxRecDepth 100000
def SmT:(n:Nat)->Tr n->Prop
 | 0=>fun _=>True
 | n+1=>fun t=>t.name.length<=8∧t.text.length<=8∧t.attrs.length<=3∧SmA t.attrs∧t.kids.length<=3∧∀k∈t.kids,SmT n k
def zpg (d B:Nat) (w:Xg) (C:Xf):Prop:=∃(t:Tr d) (F:Xd),OwNodeM d w C t F∧F.Nodup∧Rng F B w.heap.size∧SmT d t
def zkB (d:Nat):Prop:=∀(w0 w:Xg) (g:Nat) (code:Xh) (l:Xc),Cur w0 w g code l->Calls Tryz.prog 53 #[.pointer (some ⟨g,0,none⟩),.int .i64 d] w fun e w'=>∃k p1 n1 c1 p2 n2 c2 p3 n3 c3 p4 n4 c4,e=.returned (.agg #[.int .i64 k,.slice p1 n1 c1,.slice p2 n2 c2,.slice p3 n3 c3,.slice p4 n4 c4])∧zpg (d+1) w.heap.size w' [.int .i64 k,.slice p1 n1 c1,.slice p2 n2 c2,.slice p3 n3 c3,.slice p4 n4 c4]∧Cur w0 w' g code l∧w.grownBy w' (some g)
def Grow (d g B b4 b5:Nat) (w0 w wr:Xg) (code:Xh) (l:Xc) (pn:Xe) (cn:Nat) (nm:Xc) (pa:Xe) (ca:Nat) (at_:List (Xc×Xc)) (j:Nat) (ka:Xe) (kc:Nat) (kids:List (Tr d)):Prop:=
 ∃Fa Fk,Loc wr b4 #[.int .i64 0,.slice none 0 0,.slice none 0 0,.slice none 0 0,.slice none 0 0] 29∧Loc wr b5 #[.int .i64 0,.slice pn nm.length cn,.slice none 0 0,.slice pa at_.length ca,.slice ka kids.length kc] 29∧RowM wr 0 (.slice pn nm.length cn) nm∧OwAttrsM wr (.slice pa at_.length ca) at_ Fa∧OwKidsM d wr (.slice ka kids.length kc) kids Fk∧(FB (.slice pn nm.length cn)++Fa++Fk).Nodup∧(∀q∈FB (.slice pn nm.length cn)++Fa++Fk,B<=q∧q<wr.heap.size∧q≠b4∧q≠b5)∧nm.length<=8∧at_.length<=3∧SmA at_∧kids.length<=j∧(∀k∈kids,SmT d k)∧Cur w0 wr g code l∧w.grownBy wr (some g)
theorem zcB {w:Xg} {g:Nat} {a b c d e:Xh} {T:Xi} (h:Loc w g #[a,b,c,d,e] T) :
  w.cell? ⟨g,0,none⟩=some a∧w.cell? ⟨g,1,none⟩=some b∧w.cell? ⟨g,2,none⟩=some c∧w.cell? ⟨g,3,none⟩=some d∧w.cell? ⟨g,4,none⟩=some e:=
 ⟨h.cell 0,h.cell 1,h.cell 2,h.cell 3,h.cell 4⟩
theorem Grow.by {d g B b4 b5:Nat} {w0 w wr w':Xg} {code:Xh} {l:Xc} {pn:Xe} {cn:Nat} {nm:Xc} {pa:Xe} {ca:Nat} {at_:List (Xc×Xc)} {j:Nat} {ka:Xe} {kc:Nat} {kids:List (Tr d)}
  (h:Grow d g B b4 b5 w0 w wr code l pn cn nm pa ca at_ j ka kc kids) (hgB:g<B∧g≠b4∧g≠b5) (hC:Cur w0 w' g code l) (hG:wr.grownBy w' (some g)):Grow d g B b4 b5 w0 w w' code l pn cn nm pa ca at_ j ka kc kids:=by
 obtain⟨Fa,Fk,h1,h2,h3,h4,h5,h6,h7,h8,h9,Ba,Da,Ca,Ga,Aa⟩:=h
 have hf:=Frm.ofGrown hG
 have hn:∀q∈FB (.slice pn nm.length cn)++Fa++Fk,q∉(some g).toList:=fun q hq e=>by have:=(h7 q hq).1;simp at e;omega
 exact⟨Fa,Fk,h1.frm hf (by simp;omega),h2.frm hf (by simp;omega),h3.frm hf (fun q hq=>hn q (by simp [hq])),OwAttrsM.frm h4 hf (fun q hq=>hn q (by simp [hq])),OwKidsM.frm h5 hf (fun q hq=>hn q (by simp [hq])),h6,fun q hq=>⟨(h7 q hq).1,Nat.lt_of_lt_of_le (h7 q hq).2.1 hG.size,(h7 q hq).2.2⟩,h8,h9,Ba,Da,Ca,hC,zam Aa hG⟩
theorem Frm.toGrown' {w w':Xg} {b:Nat} (f:Frm w w' [b]):w.grownBy w' (some b):=⟨f.os,f.tape,f.output,f.size,fun k hk hn=>f.block k hk (fun e=>hn (by simp at e;rw [e]))⟩
theorem Cur.set' {w0 w w':Xg} {g S:Nat} {code:Xh} {l:Xc} (h:Cur w0 w g code l) (hs:w.grownBy w' (some S)) (hne:g≠S) (hn:w0.heap.size<=S):Cur w0 w' g code l:=h.keep hs (by simp;exact hne) (fun k hk=>by cases hk;exact hn)
theorem box5 {w:Xg} {po:Nat} {z0 z1 z2 z3 z4:Xh} {T:Xi} (h:Loc w po #[z0,z1,z2,z3,z4] T) (a b c d e:Xh) :
  Loc (((((w.setCell ⟨po,0,none⟩ a).setCell ⟨po,1,none⟩ b).setCell ⟨po,2,none⟩ c).setCell ⟨po,3,none⟩ d).setCell ⟨po,4,none⟩ e) po #[a,b,c,d,e] T∧Frm w (((((w.setCell ⟨po,0,none⟩ a).setCell ⟨po,1,none⟩ b).setCell ⟨po,2,none⟩ c).setCell ⟨po,3,none⟩ d).setCell ⟨po,4,none⟩ e) [po]:=
 ⟨((((h.set 0 a).set 1 b).set 2 c).set 3 d).set 4 e,((((zdZ _ _ _ _).trans (zdZ _ _ _ _)).trans (zdZ _ _ _ _)).trans (zdZ _ _ _ _)).trans (zdZ _ _ _ _)⟩
theorem Grow.fin {d g B b4 b5:Nat} {w0 w wr:Xg} {code:Xh} {l:Xc} {pn:Xe} {cn:Nat} {nm:Xc} {pa:Xe} {ca:Nat} {at_:List (Xc×Xc)} {j:Nat} {ka:Xe} {kc:Nat} {kids:List (Tr d)}
  (h:Grow d g B b4 b5 w0 w wr code l pn cn nm pa ca at_ j ka kc kids) (hB:w.heap.size<=B) (hb4:b4=w.heap.size) (hg4:g≠b4) (hn4:w0.heap.size<=b4) (hj:j<=3):zpg (d+1) w.heap.size (((((wr.setCell ⟨b4,0,none⟩ (.int .i64 0)).setCell ⟨b4,1,none⟩ (.slice pn nm.length cn)).setCell ⟨b4,2,none⟩ (.slice none 0 0)).setCell ⟨b4,3,none⟩ (.slice pa at_.length ca)).setCell ⟨b4,4,none⟩ (.slice ka kids.length kc)) [.int .i64 0,.slice pn nm.length cn,.slice none 0 0,.slice pa at_.length ca,.slice ka kids.length kc]∧Cur w0 (((((wr.setCell ⟨b4,0,none⟩ (.int .i64 0)).setCell ⟨b4,1,none⟩ (.slice pn nm.length cn)).setCell ⟨b4,2,none⟩ (.slice none 0 0)).setCell ⟨b4,3,none⟩ (.slice pa at_.length ca)).setCell ⟨b4,4,none⟩ (.slice ka kids.length kc)) g code l∧w.grownBy (((((wr.setCell ⟨b4,0,none⟩ (.int .i64 0)).setCell ⟨b4,1,none⟩ (.slice pn nm.length cn)).setCell ⟨b4,2,none⟩ (.slice none 0 0)).setCell ⟨b4,3,none⟩ (.slice pa at_.length ca)).setCell ⟨b4,4,none⟩ (.slice ka kids.length kc)) (some g)∧Loc (((((wr.setCell ⟨b4,0,none⟩ (.int .i64 0)).setCell ⟨b4,1,none⟩ (.slice pn nm.length cn)).setCell ⟨b4,2,none⟩ (.slice none 0 0)).setCell ⟨b4,3,none⟩ (.slice pa at_.length ca)).setCell ⟨b4,4,none⟩ (.slice ka kids.length kc)) b4 #[.int .i64 0,.slice pn nm.length cn,.slice none 0 0,.slice pa at_.length ca,.slice ka kids.length kc] 29:=by
 obtain⟨Fa,Fk,h1,h2,h3,h4,h5,h6,h7,h8,h9,Ca,Ga,Da,Aa,Ba⟩:=h
 obtain⟨s1,s2⟩:=box5 h1 (.int .i64 0) (.slice pn nm.length cn) (.slice none 0 0) (.slice pa at_.length ca) (.slice ka kids.length kc)
 have hn:∀q∈FB (.slice pn nm.length cn)++Fa++Fk,q∉[b4]:=fun q hq e=>by have:=(h7 q hq).2.2.1;simp at e;omega
 refine⟨⟨(⟨0,nm,[],at_,kids⟩:Nd (Tr d)),FB (.slice pn nm.length cn)++FB (.slice none 0 0)++Fa++Fk,⟨_,_,_,_,Fa,Fk,rfl,(by show (-9223372036854775808:Int)<=0;decide),(by show (0:Int)<=9223372036854775807;decide),h3.frm s2 (fun q hq=>hn q (by simp [hq])),zdY _ _,OwAttrsM.frm h4 s2 (fun q hq=>hn q (by simp [hq])),OwKidsM.frm h5 s2 (fun q hq=>hn q (by simp [hq])),rfl⟩,?_,?_,⟨h8,by simp,h9,Ca,by show kids.length<=3;omega,Da⟩⟩,Aa.set' (Frm.toGrown' s2) hg4 hn4,zbe Ba (Frm.toGrown' s2) (fun q hq=>by cases hq;omega),s1⟩
 ·simpa [FB,Value.ownBlock]using h6
 ·intro q hq
  have:=s2.size
  have:=h7 q (by simpa [FB,Value.ownBlock]using hq)
  omega
theorem OwNodeM.text {d:Nat} {w:Xg} {v:Xh} {l:Xc} (k:Int) (hk0 : -9223372036854775808<=k) (hk1:k<=9223372036854775807) (h:RowM w 0 v l):OwNodeM (d+1) w [.int .i64 k,.slice none 0 0,v,.slice none 0 0,.slice none 0 0] (⟨k,[],l,[],[]⟩:Nd (Tr d)) (FB v):=
 ⟨_,_,_,_,[],[],rfl,hk0,hk1,zdY _ _,h,OwAttrsM.nil _,OwKidsM.nil _ _,by simp [FB,Value.ownBlock]⟩
theorem OwNodeM.lt {n:Nat} {w:Xg} {C:Xf} {t:Tr n} {F:Xd} (h:OwNodeM n w C t F):∀g∈F,g<w.heap.size:=by
 induction n generalizing C F with
 | zero=>exact h.elim
 | succ n ih=>
  obtain⟨a,b,c,d,Fc,Fd,e,k1,k2,h1,h2,h3,h4,rfl⟩:=h
  intro g hg
  simp only [List.mem_append]at hg
  rcases hg with ((h | h) | h) | h
  ·exact (h1.lt g (by simpa [FB]using h)).2
  ·exact (h2.lt g (by simpa [FB]using h)).2
  ·exact OwElems.ltM h3 (fun _ _ _ hr=>hr.lt) g h
  ·exact OwElems.ltM h4 (fun _ _ _ hr=>ih hr) g h
theorem zqn:(Tryz.prog.info? 29).map (fun i=>(i.zero,i.size,i.bytes))=some (some (.agg #[.int .i64 0,.slice none 0 0,.slice none 0 0,.slice none 0 0,.slice none 0 0]),5,104):=by kernel_rfl
theorem zyI (d:Nat) (h0:0<d) {w:Xg} {v:Xh} {l:Xc} (h:RowM w 0 v l) (h8:l.length<=8):∃t:Tr d,OwNodeM d w [.int .i64 1,.slice none 0 0,v,.slice none 0 0,.slice none 0 0] t (FB v)∧SmT d t:=by
 cases d with
 | zero=>omega
 | succ d=>exact⟨(⟨1,[],l,[],[]⟩:Nd (Tr d)),OwNodeM.text 1 (by decide) (by decide) h,by simp,h8,by simp,(fun x hx=>by simp at hx),by simp,(fun k hk=>by simp at hk)⟩
theorem zzd (d:Nat) (hd:d<=4) (h0:0<d) (IH:∀d',d=d' + 1->zkB d') (w0 w:Xg) (g:Nat) (code:Xh) (l:Xc) (h:Cur w0 w g code l):Calls Tryz.prog 53 #[.pointer (some ⟨g,0,none⟩),.int .i64 (IntKind.i64.wrap ((d:Int)-1))] w fun e w'=>∃k p1 n1 c1 p2 n2 c2 p3 n3 c3 p4 n4 c4,e=.returned (.agg #[.int .i64 k,.slice p1 n1 c1,.slice p2 n2 c2,.slice p3 n3 c3,.slice p4 n4 c4])∧zpg d w.heap.size w' [.int .i64 k,.slice p1 n1 c1,.slice p2 n2 c2,.slice p3 n3 c3,.slice p4 n4 c4]∧Cur w0 w' g code l∧w.grownBy w' (some g):=by
 cases d with
 | zero=>omega
 | succ d=>
  have e:IntKind.i64.wrap (((d+1:Nat):Int)-1)=(d:Int):=by rw [IntKind.wrap_i64];omega
  rw [e]
  exact IH d rfl w0 w g code l h
theorem Grow.push {d g B b4 b5:Nat} {w0 w wr:Xg} {code:Xh} {l:Xc} {pn:Xe} {cn:Nat} {nm:Xc} {pa:Xe} {ca:Nat} {at_:List (Xc×Xc)} {j:Nat} {ka:Xe} {kc:Nat} {kids:List (Tr d)}
  (h:Grow d g B b4 b5 w0 w wr code l pn cn nm pa ca at_ j ka kc kids) (hgB:g<B∧g≠b4∧g≠b5) (hwB:w.heap.size<=B) (hb45:b4≠b5) (hn5:w0.heap.size<=b5) (hw5:w.heap.size<=b5) (hBr:B<=wr.heap.size) :
  ∃Fk,OwKidsM d wr (.slice ka kids.length kc) kids Fk∧Fk.Nodup∧(∀q∈Fk,B<=q∧q<wr.heap.size∧q≠b4∧q≠b5)∧Loc wr b5 #[.int .i64 0,.slice pn nm.length cn,.slice none 0 0,.slice pa at_.length ca,.slice ka kids.length kc] 29∧(∀q∈FB (.slice ka kids.length kc),q∈Fk)∧
   ∀(x:Tr d) (w9:Xg) (g9 cap9 n9:Nat) (F9:Xd),SmT d x->n9=kids.length+1->Frm wr w9 (g::FB (.slice ka kids.length kc))->Cur w0 w9 g code l->OwKidsM d w9 (.slice (some ⟨g9,0,none⟩) n9 cap9) (kids++[x]) F9->F9.Nodup->(∀q∈F9,(q∈Fk∨wr.heap.size<=q)∧q<w9.heap.size)->
    Grow d g B b4 b5 w0 w (w9.setCell ⟨b5,4,none⟩ (.slice (some ⟨g9,0,none⟩) n9 cap9)) code l pn cn nm pa ca at_ (j+1) (some ⟨g9,0,none⟩) cap9 (kids++[x]):=by
 obtain⟨Fa,Fk,h1,h2,h3,h4,h5,h6,h7,h8,h9,La,Pa,Ma,Oa,Aa⟩:=h
 obtain⟨Ka,Na,Da⟩:=List.nodup_append.1 h6
 have Ba:∀q∈FB (.slice ka kids.length kc),q∈Fk:=fun q hq=>by obtain⟨_,_,_,_,_,_,rfl⟩:=h5;exact List.mem_append_left _ hq
 refine⟨Fk,h5,Na,fun q hq=>h7 q (List.mem_append_right _ hq),h2,Ba,?_⟩
 intro x w9 g9 cap9 n9 F9 hx Ja f hC hK hN hF
 have f2:=zdZ w9 b5 4 (.slice (some ⟨g9,0,none⟩) n9 cap9)
 have l4:=h1.lt
 have l5:=h2.lt
 have Ha:∀q∈FB (.slice pn nm.length cn)++Fa,q∉g::FB (.slice ka kids.length kc):=fun q hq e=>by
  rcases List.mem_cons.1 e with rfl | e
  ·have:=(h7 q (List.mem_append_left _ hq)).1;omega
  ·exact Da q hq q (Ba q e) rfl
 have Ia:∀q∈FB (.slice pn nm.length cn)++Fa,q∉[b5]:=fun q hq e=>by have:=(h7 q (List.mem_append_left _ hq)).2.2.2;simp at e;exact this e
 have Ga:∀b,b≠g->(b=b4∨b=b5)->b∉g::FB (.slice ka kids.length kc):=fun b hb Qa e=>by
  rcases List.mem_cons.1 e with e | e
  ·exact hb e
  ·have:=(h7 b (List.mem_append_right _ (Ba b e))).2.2;omega
 have f9:∀q∈F9,q∉[b5]:=fun q hq e=>by
  simp at e
  subst e
  rcases (hF q hq).1 with h | h
  ·exact (h7 q (List.mem_append_right _ h)).2.2.2 rfl
  ·omega
 refine⟨Fa,F9,(h1.frm f (Ga b4 (by omega) (.inl rfl))).other b5 4 _ hb45,?_,(h3.frm f (fun q hq=>Ha q (by simp [hq]))).frm f2 (fun q hq=>Ia q (by simp [hq])),OwAttrsM.frm (OwAttrsM.frm h4 f (fun q hq=>Ha q (by simp [hq]))) f2 (fun q hq=>Ia q (by simp [hq])),?_,?_,?_,h8,h9,La,by simp;omega,?_,hC.set' (Frm.toGrown' f2) (by omega) hn5,?_⟩
 ·have:=(h2.frm f (Ga b5 (by omega) (.inr rfl))).set 4 (.slice (some ⟨g9,0,none⟩) n9 cap9)
  subst Ja
  simpa using this
 ·have:=OwKidsM.frm hK f2 f9
  subst Ja
  simpa using this
 ·refine List.nodup_append.2 ⟨Ka,hN,fun a ha b hb e=> ?_⟩
  subst e
  rcases (hF a hb).1 with h | h
  ·exact Da a ha a h rfl
  ·have:=(h7 a (List.mem_append_left _ ha)).2.1;omega
 ·intro q hq
  have s2:=f2.size
  have s1:=f.size
  rcases List.mem_append.1 hq with h | h
  ·have:=h7 q (List.mem_append_left _ h);exact⟨this.1,by omega,this.2.2⟩
  ·have h':=hF q h
   refine⟨?_,by omega,?_,fun e=>f9 q h (by simp [e])⟩
   ·rcases h'.1 with hh | hh
    ·exact (h7 q (List.mem_append_right _ hh)).1
    ·omega
   ·intro e
    rcases h'.1 with hh | hh
    ·exact (h7 q (List.mem_append_right _ hh)).2.2.1 e
    ·omega
 ·intro k hk
  rcases List.mem_append.1 hk with h | h
  ·exact Ma k h
  ·simp at h;subst h;exact hx
 ·refine zbe (row':=some b5) ?_ (Frm.toGrown' f2) (fun q hq=>by cases hq;exact hw5)
  refine⟨f.os.trans Aa.os,f.tape.trans Aa.tape,f.output.trans Aa.output,Nat.le_trans Aa.size f.size,fun k hk Ca=>(f.block k (Nat.lt_of_lt_of_le hk Aa.size) (fun e=> ?_)).trans (Aa.block k hk Ca)⟩
  rcases List.mem_cons.1 e with e | e
  ·exact Ca (by rw [e])
  ·have:=(h7 k (List.mem_append_right _ (Ba k e))).1;omega
def zcx (w:Xg) (S:Xd):Xg:={ w with heap:=w.heap.mapIdx (fun i o=>if i∈S then .cells #[] 5 (0,0) else o) }
theorem zdF (w:Xg) (S:Xd):(zcx w S).heap.size=w.heap.size:=by simp [zcx]
theorem zhL (w:Xg) (S:Xd):Frm w (zcx w S) S:=by
 refine⟨rfl,rfl,rfl,Nat.le_of_eq (zdF w S).symm,fun k hk hn=> ?_⟩
 simp [zcx,hn]
theorem zsi (w:Xg) (S:Xd) (p:Addr) (hp:p.block∈S):(zcx w S).cell? p=none:=by
 unfold World.cell?
 have:(zcx w S).heap[p.block]? = (w.heap[p.block]?).map (fun _=>(.cells #[] 5 (0,0):Obj)):=by
  simp only [zcx,Array.getElem?_mapIdx,hp,if_true]
 rw [this]
 cases w.heap[p.block]? with
 | none=>rfl
 | some o=>simp
theorem znd:∀(l:List (Xc×Xc)),SmA l->(zal l).length<=60*l.length
 | [],_=>by simp [zal]
 | x::l,h=>by
  have h1:=znd l (fun y hy=>h y (List.mem_cons_of_mem _ hy))
  obtain⟨h2,h3⟩:=h x (List.mem_cons_self ..)
  have h4:=zgn true x.2
  unfold zal at h1 ⊢
  simp only [List.map_cons,List.flatten_cons,List.length_append,List.length_cons,zbA,List.length_nil]at h1 ⊢
  omega
def capM:Nat->Nat
 | 0=>0
 | n+1=>250+3*capM n
theorem zoE {α:Type} (f:α->Xc) (L:Nat):∀(l:List α),(∀x∈l,(f x).length<=L)->((l.map f).flatten).length<=L*l.length
 | [],_=>by simp
 | x::l,h=>by
  have h1:=zoE f L l (fun y hy=>h y (List.mem_cons_of_mem _ hy))
  have h2:=h x (List.mem_cons_self ..)
  simp only [List.map_cons,List.flatten_cons,List.length_append,List.length_cons,Nat.mul_succ]
  omega
theorem zng:∀(n:Nat) (t:Tr n),SmT n t->(mkup n t).length<=capM n
 | 0,t,_=>by simp [mkup]
 | n+1,t,h=>by
  obtain⟨h1,h2,h3,h4,h5,h6⟩:=h
  rw [zdn]
  have e1:=zgn false t.text
  have e2:=znd t.attrs h4
  have e3:=zoE (mkup n) (capM n) t.kids (fun k hk=>zng n k (h6 k hk))
  have e4:capM n*t.kids.length<=capM n*3:=Nat.mul_le_mul_left _ h5
  have e5:capM (n+1)=250+3*capM n:=rfl
  have e6:60*t.attrs.length<=180:=by omega
  split
  ·omega
  ·by_cases hv:zaL t.name=true
   ·simp only [hv,if_true,List.length_append,List.length_cons,List.length_nil]
    omega
   ·rw [if_neg hv]
    simp only [List.length_append,List.length_cons,List.length_nil]
    omega
theorem Own.up {w:Xg} {base:Nat} {v:Xh} {l:Xc} (h:Own w 0 v l) (hb:∀k,v.ownBlock=some k->base<=k):Own w base v l:=by
 refine⟨h.1,h.2.1,?_⟩
 rcases h.2.2 with h' | ⟨g,cap,cur,e1,h1,h2⟩
 ·exact .inl h'
 ·exact .inr ⟨g,cap,cur,e1,hb g (by rw [e1];rfl),h2⟩
theorem zqr (w:Xg) (base:Nat) (v:Xh) (l:Xc) (n:Nat) (a b c d e:Xh) (t:Tr n) (F:Xd) (ht:OwNodeM n w [a,b,c,d,e] t F) (ho:Own w base v l) (hF:∀q∈FB v,q∉F) (hb:base<=w.heap.size) (hlen:l.length+(mkup n t).length<=100000000) :
  Calls Tryz.prog 38 #[v,.agg #[a,b,c,d,e]] w fun e w'=>∃v',e=.returned v'∧Own w' base v' (l++mkup n t)∧w.grownBy w' v.ownBlock:=by
 have Ba:∀k,v.ownBlock=some k->k∈FB v:=fun k hk=>by simp [FB,hk]
 have hx:OwnX w ⟨FB v,w.heap.size⟩ v l:=⟨⟨ho.1,zfq ho.2 0 (Nat.zero_le _)⟩,fun k hk=>.inl (Ba k hk)⟩
 have Fa:=(ht.frm (zhL w (FB v)) (fun q hq e=>hF q e hq)).rd
 have Da:Lk ⟨FB v,w.heap.size⟩ (zcx w (FB v)) w:=⟨Nat.le_of_eq (zdF w _),fun k hk p hp=>zsi w _ p (by rw [hp];exact hk),Nat.le_of_eq (zdF w _),fun k hk hn=>((zhL w (FB v)).block k (by rw [zdF]at hk;exact hk) hn).symm⟩
 refine (zri n (zcx w (FB v)) w ⟨FB v,w.heap.size⟩ v l a b c d e t Fa Da (Nat.le_of_eq (zdF w _)) (Nat.le_refl _) hx hlen).mono ?_
 rintro e w' ⟨v',rfl,⟨Ca,Aa⟩,hf⟩
 refine⟨v',rfl,Ca.up (fun k hk=> ?_),hf.os,hf.tape,hf.output,hf.size,fun k hk hn=> ?_⟩
 ·rcases Aa k hk with h | h
  ·have:v.ownBlock=some k:=by simpa [FB]using h
   exact ho.base_le k this
  ·exact Nat.le_trans hb h
 ·have:=hf.block k _ (Array.getElem?_eq_getElem hk) (fun hm=>by
   rcases hm.1 with h | h
   ·have:v.ownBlock=some k:=by simpa [FB]using h
    exact hn this.symm
   ·have:w.heap.size<=k:=h
    omega)
  rw [this,Array.getElem?_eq_getElem hk]
theorem zeD {P:Program} {ops:Array Oper} {o:Oper} {a:Act} {w:Xg} {K:Act->Xg->Prop} {Q:Exit->Act->Xg->Prop} {E:Prop} (hgd:o.guard=none) (f:FuncId) (xs:List Operand) (tys:Array Xi)
  (ho:o.op=.call { callee:=.value (.func f),args:=xs.toArray,argTypes:=tys }) (he:∀args w,(callFunc f args).run P w=.ok (.enter f args) w) (args:Xf) (hx:xs.map a.eval=args) {R:Ending->Xg->Prop} (hc:Calls P f args.toArray w R)
  (h:∀e w',R e w'->∃v,e=.returned v∧K (a.put o.dst v) w'):if Region.wanted o (yielded ops a.tmps)=true then Oper.wp P o a w K Q else E:=by
 have hw:Region.wanted o (yielded ops a.tmps)=true:=by simp [Region.wanted,hgd]
 rw [if_pos hw]
 subst hx
 unfold Oper.wp execOp
 simp [ho,resolve,invoke,go_sem,he]
 refine hc.mono ?_
 intro e w' hR
 obtain⟨v,rfl,hk⟩:=h e w' hR
 exact hk
end Go.Proofs.YtgjolijncmkkhaaGreatDoor
namespace Go.Proofs.YtgjolijncmkkhaaGreatDoor
open Go.RowKit Go.Shelf
set_option linter.unusedVariables false
set_option maxRecDepth 100000
set_option maxHeartbeats 12800000 in
theorem zjw (d:Nat) (hd:d<=4) (IH:∀d',d=d' + 1->zkB d'):zkB d:=by
 intro w0 w g Ba l h
 have kb:=h.lt
 have eb:=h.new
 have hA:=(Below.refl w.heap.size w).alloc (Nat.le_refl _) (.cells #[.int .i64 0,.slice none 0 0,.slice none 0 0,.slice none 0 0,.slice none 0 0] 29)
 have l4:=Loc.made w #[.int .i64 0,.slice none 0 0,.slice none 0 0,.slice none 0 0,.slice none 0 0] 29
 have ga:=h.keepAll hA
 have ba:w.grownBy (w.alloc (.cells #[.int .i64 0,.slice none 0 0,.slice none 0 0,.slice none 0 0,.slice none 0 0] 29)) (some g):=Below.toGrown hA _
 have ia:w.heap.size<(w.alloc (.cells #[.int .i64 0,.slice none 0 0,.slice none 0 0,.slice none 0 0,.slice none 0 0] 29)).heap.size:=by simp
 have LL:=hide (And.intro hA (And.intro l4 (And.intro ga (And.intro ba ia))))
 clear hA l4 ga ba ia h
 go_enter Tryz.func53,Tryz.ntmps53
 go_wp2_with fail
 obtain⟨hA,l4,ga,ba,ia⟩:=zaa LL
 clear LL
 generalize (w.alloc (.cells #[.int .i64 0,.slice none 0 0,.slice none 0 0,.slice none 0 0,.slice none 0 0] 29))=w1 at *
 refine (zsJ w0 w1 g Ba l ga).mono ?_
 rintro e w2 ⟨pn,cn,nm,rfl,ja,Yb,Fb,ma⟩
 have Mb:=l4.frm (Frm.ofGrown ma) (by simp;omega)
 have Wa:=zam ba ma
 go_wp2_with fail
 refine (zqH w0 w2 g Ba l Fb).mono ?_
 rintro e w3 ⟨pa,ca,Ga,rfl,db,Ub,Nb,Xa⟩
 have jb:=ma.size
 have Tb:∀q,(Value.slice pn nm.length cn).ownBlock=some q->some g≠some q:=fun q hq e=>by have:=(ja.lt q hq).1;cases e;omega
 have Ka:=ja.keepBy Xa Tb
 have Kb:=Mb.frm (Frm.ofGrown Xa) (by simp;omega)
 have fa:=zam Wa Xa
 have la:Below w3.heap.size w3 (w3.alloc (.cells #[.int .i64 0,.slice pn nm.length cn,.slice none 0 0,.slice pa Ga.length ca,.slice none 0 0] 29)):=(Below.refl _ _).alloc (Nat.le_refl _) _
 have s1:=Loc.made w3 #[.int .i64 0,.slice pn nm.length cn,.slice none 0 0,.slice pa Ga.length ca,.slice none 0 0] 29
 have Eb:=Xa.size
 have fW:Frm w3 (w3.alloc (.cells #[.int .i64 0,.slice pn nm.length cn,.slice none 0 0,.slice pa Ga.length ca,.slice none 0 0] 29)) [w3.heap.size]:=Frm.ofBelow la _
 have Vb:w3.heap.size<((w3.alloc (.cells #[.int .i64 0,.slice pn nm.length cn,.slice none 0 0,.slice pa Ga.length ca,.slice none 0 0] 29))).heap.size:=by simp
 have Oa:∀q,q<w3.heap.size->q∉[w3.heap.size]:=fun q hq e=>by simp at e;omega
 obtain⟨Fa,r1,r2,r3,r4⟩:=db
 have Ca:Grow d g w1.heap.size w.heap.size w3.heap.size w0 w (w3.alloc (.cells #[.int .i64 0,.slice pn nm.length cn,.slice none 0 0,.slice pa Ga.length ca,.slice none 0 0] 29)) Ba l pn cn nm pa ca Ga 0 none 0 []:=by
  refine⟨Fa,[],Kb.frm fW (Oa _ (by omega)),s1,(Ka.mono (Nat.zero_le _)).frm fW (fun q hq=>Oa q (Ka.lt q (by simpa [FB]using hq)).2),OwAttrsM.frm r1 fW (fun q hq=>Oa q (r3 q hq).2),OwKidsM.nil _ _,?_,?_,Yb,Ub,r4,Nat.le_refl _,(fun k hk=>by simp at hk),?_,?_⟩
  ·rw [List.append_nil]
   exact List.nodup_append.2 ⟨zbm _,r2,fun a ha b hb e=>by have:=(ja.lt a (by simpa [FB]using ha)).2;have:=(r3 b hb).1;omega⟩
  ·intro q hq
   rw [List.append_nil]at hq
   have:=fW.size
   rcases List.mem_append.1 hq with h | h
   ·have:=Ka.lt q (by simpa [FB]using h);omega
   ·have:=r3 q h;omega
  ·exact Nb.keepAll la
  ·exact zaK fa la
 have HG:=hide Ca
 have Gb:Byt (w3.alloc (.cells #[.int .i64 0,.slice pn nm.length cn,.slice none 0 0,.slice pa Ga.length ca,.slice none 0 0] 29)) (.slice pn nm.length cn) nm:=(Ka.frm fW (fun q hq=>Oa q (Ka.lt q (by simpa [FB]using hq)).2)).byt
 have HV:=hide (zqV _ _ _ Gb)
 have LL:=hide (And.intro s1 Eb)
 clear ja Nb Xa fa Kb Mb l4 Ka Ca Gb fW s1 la Vb r1 r2 r3 r4 ga Fb ba ma Wa hA
 go_upto_region 2 with fail
 generalize (w3.alloc (.cells #[.int .i64 0,.slice pn nm.length cn,.slice none 0 0,.slice pa Ga.length ca,.slice none 0 0] 29))=w4 at *
 obtain⟨s1,Eb⟩:=zaa LL
 have mb:=ia
 clear LL
 generalize w3.heap.size=b5 at *
 have y1:=s1.cell 1
 simp at y1
 go_wp2_with fail
 refine (zaa HV).mono ?_
 rintro e w5 ⟨hv,rfl⟩
 clear HV y1 s1
 have Zb:True:=trivial
 rcases hv with rfl | rfl
 ·
  have HE:=hide (Grow.fin (zaa HG) (by omega) rfl (by omega) (by omega) (by omega))
  obtain⟨_,_,q4,q5,_⟩:=(zaa HG)
  obtain⟨y0,y1,y2,y3,y4⟩:=zcB q5
  obtain⟨z0,z1,z2,z3,z4⟩:=zcB q4
  have u0:=q4.frozen 0
  have u1:=q4.frozen 1
  have u2:=q4.frozen 2
  have u3:=q4.frozen 3
  have u4:=q4.frozen 4
  clear q4 q5
  go_wp2_with fail
  obtain⟨e1,e2,e3,e4⟩:=zaa HE
  clear HE y0 y1 y2 y3 y4 z0 z1 z2 z3 z4 u0 u1 u2 u3 u4
  obtain⟨k0,k1,k2,k3,k4⟩:=zcB e4
  clear e4
  simp only [List.length_nil]at k0 k1 k2 k3 k4 e1 e2 e3
  generalize (((((w5.setCell ⟨w.heap.size,0,none⟩ (.int .i64 0)).setCell ⟨w.heap.size,1,none⟩ (.slice pn nm.length cn)).setCell ⟨w.heap.size,2,none⟩ (.slice none 0 0)).setCell ⟨w.heap.size,3,none⟩ (.slice pa Ga.length ca)).setCell ⟨w.heap.size,4,none⟩ (.slice none 0 0))=wz at *
  exact bodyPost_ret (v:=.agg #[.int .i64 0,.slice pn nm.length cn,.slice none 0 0,.slice pa Ga.length ca,.slice none 0 0]) (by simp [results,Tryz.results53,go_sem,k0,k1,k2,k3,k4]) rfl ⟨0,pn,nm.length,cn,none,0,0,pa,Ga.length,ca,none,0,0,rfl,e1,e2,e3⟩
 go_wp2_with fail
 refine (zaY w0 _ g Ba l 4 (by obtain⟨_,_,_,_,_,_,_,_,_,_,_,_,_,_,hC,_⟩:=zaa HG;exact hC) (by omega) (by omega)).mono ?_
 rintro e w6 ⟨n,Ib,Qb,rfl,Jb,Ob⟩
 have Ca:=Grow.by (zaa HG) ⟨by omega,by omega,by omega⟩ Jb Ob
 clear HG
 obtain⟨n,rfl⟩:=Int.eq_ofNat_of_zero_le Ib
 go_wp2_with fail
 have nb:n<4:=by omega
 clear Ib Qb Jb Ob
 go_loopw [7] (fun i wr=>∃(j:Nat) (ka:Xe) (kc:Nat) (Aa:List (Tr d)),j<=n∧i=.int .i64 j∧Grow d g w1.heap.size w.heap.size b5 w0 w wr Ba l pn cn nm pa ca Ga j ka kc Aa) (fun i _=>n-(intOf i).toNat)
 case atStart=>exact⟨0,none,0,[],Nat.zero_le _,rfl,Ca⟩
 case round=>
  clear Ca
  obtain⟨j,ka,kc,Aa,hj,rfl,Ca⟩:=hrel
  by_cases hlt:j<n
  ·have za:(j:Int)<(n:Int):=by omega
   by_cases hd0:0<d
   ·have ua:(0:Int)<(d:Int):=by omega
    have HG:=hide Ca
    have HC:Cur w0 wr g Ba l:=by obtain⟨_,_,_,_,_,_,_,_,_,_,_,_,_,_,hC,_⟩:=Ca;exact hC
    clear Ca
    go_wp2_with fail
    refine (zdS w0 wr g Ba l 2 HC (by omega) (by omega)).mono ?_
    rintro e w7 ⟨bb,rfl,wa,Lb⟩
    have Ca:=Grow.by (zaa HG) ⟨by omega,by omega,by omega⟩ wa Lb
    have Hb:=hide Ca
    have lb:w1.heap.size<=w7.heap.size:=by obtain⟨_,_,q4,q5,_⟩:=Ca;have:=q5.lt;omega
    clear HG Lb
    cases bb with
    | true=>
     go_wp2_with fail
     obtain⟨Fk,o1,o2,o3,o4,o5,Ha⟩:=Grow.push Ca ⟨by omega,by omega,by omega⟩ (by omega) (by omega) (by omega) (by omega) (by omega)
     have HP:=hide Ha
     clear Ha Ca
     have Ja:Below w7.heap.size w7 w7.drew:=(Below.refl _ _).drew
     have ta:=o4.lt
     have Za:=o4.all Ja
     have Bb:g∉FB (.slice ka Aa.length kc):=fun h=>by have:=(o3 g (o5 g h)).1;omega
     have Sb:w7.drew.cell? ⟨b5,4,none⟩=some (.slice ka Aa.length kc):=Za.cell 4
     have aa:=hide (zkN w0 w7.drew g Ba l (wa.keepAll Ja))
     obtain⟨i0,xa,ra,Ab,va⟩:=info_parts zqn
     have Cb:∀args w,(callFunc 100 args).run Tryz.prog w=.ok (.enter 100 args) w:=enters_of Tryz.func100 (by kernel_rfl) rfl
     have cb:Aa.length<=3:=by obtain⟨_,_,_,_,_,_,_,_,_,_,_,_,hk,_⟩:=zaa Hb;omega
     go_region_law
      (first
       | (refine zeD (by rfl) 100 [.tmp 32] #[63] (by rfl) Cb [.pointer (some ⟨g,0,none⟩)] (by rfl) (zaa aa) ?_;clear aa;rintro e w8 ⟨pw,cw,wd,rfl,Qa,Wb,oa,Ma⟩;obtain⟨tx,Rb,gb⟩:=zyI d hd0 (Qa.mono (Nat.zero_le _)) Wb;have Ta:=Za.frm (Frm.ofGrown Ma) (by simp;omega);have ab:w8.cell? ⟨b5,4,none⟩=some (.slice ka Aa.length kc):=Ta.cell 4;have Ia:Below w8.heap.size w8 (w8.alloc (.cells #[.int .i64 1,.slice none 0 0,.slice pw wd.length cw,.slice none 0 0,.slice none 0 0] 29)):=(Below.refl _ _).alloc (Nat.le_refl _) _;have Xb:(w8.alloc (.cells #[.int .i64 1,.slice none 0 0,.slice pw wd.length cw,.slice none 0 0,.slice none 0 0] 29)).cell? ⟨b5,4,none⟩=some (.slice ka Aa.length kc):=(Ta.all Ia).cell 4;refine⟨_,rfl,?_⟩)
       | (refine zhD (R:=OwNodeM d) (fun h f d=>OwNodeM.frm h f d) (by rfl) (.tmp 31) (.tmp 35) 27 (by rfl) 29 i0 (.agg #[.int .i64 0,.slice none 0 0,.slice none 0 0,.slice none 0 0,.slice none 0 0]) 5 104 Tryz.underlying27 xa ra Ab va rfl (by decide) _ Aa Fk (by rfl) (OwKidsM.frm (OwKidsM.frm (OwKidsM.frm o1 (Frm.ofBelow Ja []) (fun _ _=>by simp)) (Frm.ofGrown Ma) (fun q hq=>by have:=(o3 q hq).1;simp;omega)) (Frm.ofBelow Ia []) (fun _ _=>by simp)) o2 ⟨w8.heap.size,0,none⟩ 1 [.int .i64 1,.slice none 0 0,.slice pw wd.length cw,.slice none 0 0,.slice none 0 0] tx (FB (.slice pw wd.length cw)) (by rfl) rfl (fun i u hu=>World.news_of_block (heap_alloc_new w8 (.cells #[.int .i64 1,.slice none 0 0,.slice pw wd.length cw,.slice none 0 0,.slice none 0 0] 29)) i u (by simpa using hu)) (by intro y hy;simp at hy;rcases hy with rfl | rfl | rfl | rfl | rfl<;>rfl) (Rb.keep Ia) (zbm _) (fun q hq Da=>by have h1:=(o3 q hq).2.1;have h3:=Ja.size;have:=Qa.lt q (by simpa [FB]using Da);omega) (fun q Da=>by have h1:=Ma.size;have h2:=Ia.size;have h3:=Ja.size;rcases Da with Da | Da;(have:=(o3 q Da).2.1;omega);(have:=Qa.lt q (by simpa [FB]using Da);omega)) (by unfold maxLen;omega) (by omega) ?_;intro g9 Ua w9 F9 Pa ea Ya Sa fb;obtain⟨n9,Ra⟩:∃n9,n9=Aa.length+1:=⟨_,rfl⟩;rw [<-Ra]at Pa ⊢;have da:=(Ta.all Ia).frm Sa (fun h=>(o3 b5 (o5 b5 h)).2.2.2 rfl);have Pb:w9.cell? ⟨b5,4,none⟩=some (.slice ka Aa.length kc):=da.cell 4;have ib:=da.frozen 4))
     all_goals
      have La:∀q∈F9,(q∈Fk∨w7.heap.size<=q)∧q<w9.heap.size:=fun q hq=>by
       refine⟨?_,OwElems.ltM Pa (fun C x G h=>OwNodeM.lt h) q hq⟩
       have s8:w7.heap.size<=w8.heap.size:=Ma.size
       rcases Ya q hq with h | Da | h
       ·exact .inl h
       ·have h3:=Ja.size;have:=Qa.lt q (by simpa [FB]using Da);right;omega
       ·right;simp only [World.size_alloc]at h;omega
      have Na:Frm w7 w9 (g::FB (.slice ka Aa.length kc)):=((Frm.ofBelow Ja _).trans ((Frm.ofGrown Ma).mono (fun q hq=>by simp at hq;simp [hq]))).trans ((Frm.ofBelow Ia _).trans (Sa.mono (fun q hq=>List.mem_cons_of_mem _ hq)))
      have Va:Cur w0 w9 g Ba l:=(oa.keepAll Ia).keepF Sa Bb (fun q hq=>by have:=(o3 q (o5 q hq)).1;omega)
      have qa:=hide (zaa HP tx w9 g9 Ua n9 F9 gb Ra Na Va Pa ea La)
      clear HP Va Na La Ya Pa ea o1 o2 o3 o5
      go_wp2_with fail
      go_roundw
      case rel=>exact⟨j+1,_,_,_,by omega,by go_num,by have h:=zaa qa;rw [Ra]at h;exact h⟩
      case measure=>simp [intOf];omega
    | false=>
     go_wp2_with fail
     obtain⟨Fk,o1,o2,o3,o4,o5,Ha⟩:=Grow.push Ca ⟨by omega,by omega,by omega⟩ (by omega) (by omega) (by omega) (by omega) (by omega)
     have HP:=hide Ha
     clear Ha Ca
     have Ja:Below w7.heap.size w7 w7.drew:=(Below.refl _ _).drew
     have ta:=o4.lt
     have Za:=o4.all Ja
     have Bb:g∉FB (.slice ka Aa.length kc):=fun h=>by have:=(o3 g (o5 g h)).1;omega
     have Sb:w7.drew.cell? ⟨b5,4,none⟩=some (.slice ka Aa.length kc):=Za.cell 4
     have aa:=hide zzd d hd hd0 IH w0 w7.drew g Ba l (wa.keepAll Ja)
     obtain⟨i0,xa,ra,Ab,va⟩:=info_parts zqn
     have Cb:∀args w,(callFunc 53 args).run Tryz.prog w=.ok (.enter 53 args) w:=enters_of Tryz.func53 (by kernel_rfl) rfl
     have cb:Aa.length<=3:=by obtain⟨_,_,_,_,_,_,_,_,_,_,_,_,hk,_⟩:=zaa Hb;omega
     go_region_law
      (first
       | (refine zeD (by rfl) 53 [.tmp 40,.tmp 42] #[63,3] (by rfl) Cb [.pointer (some ⟨g,0,none⟩),.int .i64 (IntKind.i64.wrap ((d:Int)-1))] (by rfl) (zaa aa) ?_;clear aa;rintro e w8 ⟨k1,p1,n1,c1,p2,n2,c2,p3,n3,c3,p4,n4,c4,rfl,⟨tk,Gk,ya,Db,na,sa⟩,oa,Ma⟩;have Ta:=Za.frm (Frm.ofGrown Ma) (by simp;omega);have ab:w8.cell? ⟨b5,4,none⟩=some (.slice ka Aa.length kc):=Ta.cell 4;have Ia:Below w8.heap.size w8 (w8.alloc (.cells #[.int .i64 k1,.slice p1 n1 c1,.slice p2 n2 c2,.slice p3 n3 c3,.slice p4 n4 c4] 29)):=(Below.refl _ _).alloc (Nat.le_refl _) _;have Xb:(w8.alloc (.cells #[.int .i64 k1,.slice p1 n1 c1,.slice p2 n2 c2,.slice p3 n3 c3,.slice p4 n4 c4] 29)).cell? ⟨b5,4,none⟩=some (.slice ka Aa.length kc):=(Ta.all Ia).cell 4;refine⟨_,rfl,?_⟩)
       | (refine zhD (R:=OwNodeM d) (fun h f d=>OwNodeM.frm h f d) (by rfl) (.tmp 39) (.tmp 44) 27 (by rfl) 29 i0 (.agg #[.int .i64 0,.slice none 0 0,.slice none 0 0,.slice none 0 0,.slice none 0 0]) 5 104 Tryz.underlying27 xa ra Ab va rfl (by decide) _ Aa Fk (by rfl) (OwKidsM.frm (OwKidsM.frm (OwKidsM.frm o1 (Frm.ofBelow Ja []) (fun _ _=>by simp)) (Frm.ofGrown Ma) (fun q hq=>by have:=(o3 q hq).1;simp;omega)) (Frm.ofBelow Ia []) (fun _ _=>by simp)) o2 ⟨w8.heap.size,0,none⟩ 1 [.int .i64 k1,.slice p1 n1 c1,.slice p2 n2 c2,.slice p3 n3 c3,.slice p4 n4 c4] tk Gk (by rfl) rfl (fun i u hu=>World.news_of_block (heap_alloc_new w8 (.cells #[.int .i64 k1,.slice p1 n1 c1,.slice p2 n2 c2,.slice p3 n3 c3,.slice p4 n4 c4] 29)) i u (by simpa using hu)) (by intro y hy;simp at hy;rcases hy with rfl | rfl | rfl | rfl | rfl<;>rfl) (ya.keep Ia) (Db) (fun q hq Da=>by have h1:=(o3 q hq).2.1;have h3:=Ja.size;have:=na q Da;omega) (fun q Da=>by have h1:=Ma.size;have h2:=Ia.size;have h3:=Ja.size;rcases Da with Da | Da;(have:=(o3 q Da).2.1;omega);(have:=na q Da;omega)) (by unfold maxLen;omega) (by omega) ?_;intro g9 Ua w9 F9 Pa ea Ya Sa fb;obtain⟨n9,Ra⟩:∃n9,n9=Aa.length+1:=⟨_,rfl⟩;rw [<-Ra]at Pa ⊢;have da:=(Ta.all Ia).frm Sa (fun h=>(o3 b5 (o5 b5 h)).2.2.2 rfl);have Pb:w9.cell? ⟨b5,4,none⟩=some (.slice ka Aa.length kc):=da.cell 4;have ib:=da.frozen 4))
     all_goals
      have La:∀q∈F9,(q∈Fk∨w7.heap.size<=q)∧q<w9.heap.size:=fun q hq=>by
       refine⟨?_,OwElems.ltM Pa (fun C x G h=>OwNodeM.lt h) q hq⟩
       have s8:w7.heap.size<=w8.heap.size:=Ma.size
       rcases Ya q hq with h | Da | h
       ·exact .inl h
       ·have h3:=Ja.size;have:=na q Da;right;omega
       ·right;simp only [World.size_alloc]at h;omega
      have Na:Frm w7 w9 (g::FB (.slice ka Aa.length kc)):=((Frm.ofBelow Ja _).trans ((Frm.ofGrown Ma).mono (fun q hq=>by simp at hq;simp [hq]))).trans ((Frm.ofBelow Ia _).trans (Sa.mono (fun q hq=>List.mem_cons_of_mem _ hq)))
      have Va:Cur w0 w9 g Ba l:=(oa.keepAll Ia).keepF Sa Bb (fun q hq=>by have:=(o3 q (o5 q hq)).1;omega)
      have qa:=hide (zaa HP tk w9 g9 Ua n9 F9 sa Ra Na Va Pa ea La)
      clear HP Va Na La Ya Pa ea o1 o2 o3 o5
      go_wp2_with fail
      go_roundw
      case rel=>exact⟨j+1,_,_,_,by omega,by go_num,by have h:=zaa qa;rw [Ra]at h;exact h⟩
      case measure=>simp [intOf];omega
   ·have ua:¬ (0:Int)<(d:Int):=by omega
    have HE:=hide (Grow.fin Ca (by omega) rfl (by omega) (by omega) (by omega))
    obtain⟨_,_,q4,q5,_⟩:=Ca
    obtain⟨y0,y1,y2,y3,y4⟩:=zcB q5
    obtain⟨z0,z1,z2,z3,z4⟩:=zcB q4
    have u0:=q4.frozen 0
    have u1:=q4.frozen 1
    have u2:=q4.frozen 2
    have u3:=q4.frozen 3
    have u4:=q4.frozen 4
    clear q4 q5
    go_wp2_with fail
    obtain⟨e1,e2,e3,e4⟩:=zaa HE
    clear HE y0 y1 y2 y3 y4 z0 z1 z2 z3 z4 u0 u1 u2 u3 u4
    obtain⟨k0,k1,k2,k3,k4⟩:=zcB e4
    clear e4
    generalize (((((wr.setCell ⟨w.heap.size,0,none⟩ (.int .i64 0)).setCell ⟨w.heap.size,1,none⟩ (.slice pn nm.length cn)).setCell ⟨w.heap.size,2,none⟩ (.slice none 0 0)).setCell ⟨w.heap.size,3,none⟩ (.slice pa Ga.length ca)).setCell ⟨w.heap.size,4,none⟩ (.slice ka Aa.length kc))=wz at *
    exact bodyPost_ret (v:=.agg #[.int .i64 0,.slice pn nm.length cn,.slice none 0 0,.slice pa Ga.length ca,.slice ka Aa.length kc]) (by simp [results,Tryz.results53,go_sem,k0,k1,k2,k3,k4]) rfl ⟨0,pn,nm.length,cn,none,0,0,pa,Ga.length,ca,ka,Aa.length,kc,rfl,e1,e2,e3⟩
  ·have za:¬ (j:Int)<(n:Int):=by omega
   have HE:=hide (Grow.fin Ca (by omega) rfl (by omega) (by omega) (by omega))
   obtain⟨_,_,q4,q5,_⟩:=Ca
   obtain⟨y0,y1,y2,y3,y4⟩:=zcB q5
   obtain⟨z0,z1,z2,z3,z4⟩:=zcB q4
   have u0:=q4.frozen 0
   have u1:=q4.frozen 1
   have u2:=q4.frozen 2
   have u3:=q4.frozen 3
   have u4:=q4.frozen 4
   clear q4 q5
   go_wp2_with fail
   obtain⟨e1,e2,e3,e4⟩:=zaa HE
   clear HE y0 y1 y2 y3 y4 z0 z1 z2 z3 z4 u0 u1 u2 u3 u4
   obtain⟨k0,k1,k2,k3,k4⟩:=zcB e4
   clear e4
   generalize (((((wr.setCell ⟨w.heap.size,0,none⟩ (.int .i64 0)).setCell ⟨w.heap.size,1,none⟩ (.slice pn nm.length cn)).setCell ⟨w.heap.size,2,none⟩ (.slice none 0 0)).setCell ⟨w.heap.size,3,none⟩ (.slice pa Ga.length ca)).setCell ⟨w.heap.size,4,none⟩ (.slice ka Aa.length kc))=wz at *
   exact bodyPost_ret (v:=.agg #[.int .i64 0,.slice pn nm.length cn,.slice none 0 0,.slice pa Ga.length ca,.slice ka Aa.length kc]) (by simp [results,Tryz.results53,go_sem,k0,k1,k2,k3,k4]) rfl ⟨0,pn,nm.length,cn,none,0,0,pa,Ga.length,ca,ka,Aa.length,kc,rfl,e1,e2,e3⟩
theorem zln:∀d,d<=4->zkB d
 | 0,h=>zjw 0 h (fun d' e=>by omega)
 | d+1,h=>zjw (d+1) h (fun d' e=>by
   obtain rfl:d=d':=by omega
   exact zln d (by omega))
end Go.Proofs.YtgjolijncmkkhaaGreatDoor
namespace Go.Proofs.YtgjolijncmkkhaaGreatDoor
open Go.RowKit
set_option linter.unusedVariables false
theorem Byt.cut {w:Xg} {b off cap p:Nat} {l:Xc} (hok:okB l) (hm:l.length<=maxLen) (hp:p<=l.length) (hlc:l.length<=cap) (hcm:cap<=maxLen) (hb:b<w.heap.size)
  (hc:∀i,i<l.length->w.cell? ⟨b,off+i,none⟩=some (.int .u8 (l.getD i 0))):Byt w (.slice (some ⟨b,off+p,none⟩) (l.length-p) (cap-p)) (l.drop p):=by
 have hl:(l.drop p).length=l.length-p:=by simp
 refine⟨hok.drop p,by omega,.inr ?_⟩
 by_cases h0:l.drop p=[]
 ·refine .inl ⟨⟨b,off+p,none⟩,cap-p,?_,by omega,h0⟩
  rw [h0]at hl
  rw [<-hl];rfl
 ·refine .inr ⟨b,off+p,cap-p,by rw [hl],by omega,by omega,h0,hb,fun i hi=> ?_⟩
  rw [Nat.add_assoc,hc (p+i) (by omega)]
  simp
theorem Own.form {w:Xg} {base:Nat} {v:Xh} {l:Xc} (h:Own w base v l) (h0:l≠[]):∃g cap,v=.slice (some ⟨g,0,none⟩) l.length cap∧base<=g∧g<w.heap.size∧l.length<=cap∧cap<=maxLen∧
  (∀i,i<l.length->w.cell? ⟨g,i,none⟩=some (.int .u8 (l.getD i 0)))∧(∀i,w.frozen? ⟨g,i,none⟩=false):=by
 obtain⟨Ha,Ba,⟨rfl,hz⟩ | ⟨g,cap,Fa,rfl,hb,hg,Da,Ca,Ga,Aa⟩⟩:=h
 ·exact absurd (List.eq_nil_of_length_eq_zero hz) h0
 ·have hr:w.ownsRow base 5 1 (.slice (some ⟨g,0,none⟩) l.length cap) l.length (vals l):=⟨Ba,.inr ⟨g,cap,Fa,rfl,hb,hg,Da,Ca,Ga,Aa⟩⟩
  refine⟨g,cap,rfl,hb,(hr.lt g rfl).2,Da,Ca,fun i hi=> ?_,fun i=>hr.frozenAt i⟩
  rw [hr.cellAt i (by omega),zdz hi]
theorem Own.store {w:Xg} {base g cap:Nat} {l:Xc} (h:Own w base (.slice (some ⟨g,0,none⟩) l.length cap) l) (i:Nat) (x:Int) (h0:0<=x) (h1:x<=255) :
  Own (w.setCell ⟨g,i,none⟩ (.int .u8 x)) base (.slice (some ⟨g,0,none⟩) l.length cap) (l.set i x):=by
 refine⟨fun y hy=> ?_,?_⟩
 ·rcases List.mem_or_eq_of_mem_set hy with h' | rfl
  ·exact h.1 y h'
  ·exact⟨h0,h1⟩
 ·have hs:=(h.2.stored i (.int .u8 x)).1
  rw [List.length_set]
  unfold vals at hs ⊢
  rw [List.map_set]
  exact hs
theorem Own.take {w:Xg} {base g cap:Nat} {l:Xc} (h:Own w base (.slice (some ⟨g,0,none⟩) l.length cap) l) (j:Nat) (hj:j<=l.length) (c:Nat) (hc:j<=c) (hcm:c<=maxLen):Byt w (.slice (some ⟨g,0,none⟩) j c) (l.take j):=by
 have hl:(l.take j).length=j:=by simp;omega
 by_cases h0:j=0
 ·subst h0
  exact⟨by simpa using zaE,by simp [maxLen],.inr (.inl ⟨_,c,rfl,hcm,by simp⟩)⟩
 ·obtain⟨g',Ca,e,_,Ba,_,_,Aa,_⟩:=h.form (by intro e;subst e;simp at hj;omega)
  simp only [Value.slice.injEq,Option.some.injEq,Addr.mk.injEq,true_and,and_true]at e
  obtain⟨rfl,rfl⟩:=e
  refine⟨h.1.take j,by omega,.inr (.inr ⟨g,0,c,by rw [hl],by omega,hcm,fun e=>by rw [e]at hl;simp at hl;omega,Ba,fun i hi=> ?_⟩)⟩
  rw [Nat.zero_add,Aa i (by omega),List.getD_eq_getElem?_getD,List.getD_eq_getElem?_getD,List.getElem?_take,if_pos (by omega)]
theorem Own.takeO {w:Xg} {base g cap:Nat} {l:Xc} (h:Own w base (.slice (some ⟨g,0,none⟩) l.length cap) l) (j:Nat) (hj:j<=l.length):Own w base (.slice (some ⟨g,0,none⟩) j cap) (l.take j):=by
 have hl:(l.take j).length=j:=by simp;omega
 obtain⟨Ca,Ha,⟨e,_⟩ | ⟨g',Fa,Ba,e,hb,hg,Ia,Da,Ga,Aa⟩⟩:=h
 ·cases e
 ·cases e
  refine⟨Ca.take j,by rw [zaP];omega,.inr ⟨g,cap,Ba,by rw [hl],hb,hg,by omega,Da,Ga,?_⟩⟩
  rw [hl]
  have:vals (l.take j)=(vals l).take j:=by unfold vals;rw [List.map_take]
  rw [this,<-Aa,List.take_take]
  congr 1
  omega
theorem Own.down {w:Xg} {base base':Nat} {v:Xh} {l:Xc} (h:Own w base v l) (hb:base'<=base):Own w base' v l:=⟨h.1,zfq h.2 _ hb⟩
set_option maxHeartbeats 3200000 in
theorem zqK (w0 w:Xg) (g:Nat) (code:Xh) (l:Xc) (v:Xh) (m:Xc) (h:Cur w0 w g code l) (hv:Byt w v m) (hm:m.length<=1000000) :
  Calls Tryz.prog 55 #[.pointer (some ⟨g,0,none⟩),v] w fun e w'=>∃v',e=.returned v'∧∃l',Own w' w.heap.size v' l'∧l'.length<=1000001∧Cur w0 w' g code l∧w.grownBy w' (some g):=by
 have Wa:=h.lt
 have Hb:=h.below.size
 go_enter Tryz.func55,Tryz.ntmps55
 go_wp2_with (at_builtin;refine zbP rfl _ _ rfl w.heap.size _ [] rfl (zdl w) v m rfl (hv.alloc _) ?c1 ?c2 ?_)
 case c1=>first | omega | (simp;omega)
 case c2=>simp
 intro v1 w1 aa la
 have ga:w.grownBy w1 (some g):=zbe (zaK (World.grownBy.refl w (some g)) ((Below.refl _ _).alloc (Nat.le_refl _) _)) la (fun q hq=>by simp [Value.ownBlock]at hq;omega)
 have pa:Cur w0 w1 g code l:=(h.keepAll ((Below.refl _ _).alloc (Nat.le_refl _) _)).keep la (fun e=>by simp [Value.ownBlock]at e;omega) (fun q hq=>by simp [Value.ownBlock]at hq;omega)
 clear la
 have Bb:=ga.size
 by_cases h0:m=[]
 ·subst h0
  obtain⟨a1,k1,rfl,_⟩:=aa.byt.shape
  go_wp2_with fail
  refine (zbN w0 w1 g code l pa).mono ?_
  rintro e w2 ⟨y,Va,Ua,rfl,da,Ma⟩
  have Na:=aa.past Ma Wa
  have Cb:=Ma.size
  go_wp2_with (at_builtin;refine zbP rfl _ _ rfl w.heap.size _ [] rfl (Na.alloc _) _ [y] rfl (zbv w2 y Va Ua) ?c1 ?c2 ?_)
  case c1=>simp
  case c2=>first | omega | (simp;omega)
  intro v3 w3 Ga ka
  have Ha:Cur w0 w3 g code l:=(da.keepAll ((Below.refl _ _).alloc (Nat.le_refl _) _)).keep ka (fun e=>by have:=Na.base_le g e.symm;omega) (fun q hq=>by have:=Na.base_le q hq;omega)
  have Za:w.grownBy w3 (some g):=zbe (zaK (zam ga Ma) ((Below.refl _ _).alloc (Nat.le_refl _) _)) ka Na.base_le
  have HO:=hide (show Own w3 w.heap.size v3 ([]++[y]) from Ga)
  clear Ga ka Ma Na da
  go_wp2
  go_ret
  exact⟨_,rfl,_,zaa HO,by simp,Ha,Za⟩
 obtain⟨q,Xa,rfl,hq,Ob,ra,ha,Aa,Sa⟩:=aa.form h0
 have Kb:0<m.length:=by cases m with
  | nil=>exact absurd rfl h0
  | cons x m=>simp
 have wa:((m.length:Int) == 0)=false:=by simp;omega
 clear Aa Sa
 go_wp2_with fail
 refine (zaY w0 w1 g code l m.length pa (by omega) (by omega)).mono ?_
 rintro e w2 ⟨x,ta,Jb,rfl,da,Ma⟩
 obtain⟨j,rfl⟩:=Int.eq_ofNat_of_zero_le ta
 have hj:j<m.length:=by omega
 have Na:=aa.past Ma Wa
 have ea:=zam ga Ma
 clear ga Ma pa aa
 go_wp2_with fail
 refine (zaY w0 w2 g code l 5 da (by omega) (by omega)).mono ?_
 rintro e w3 ⟨k,Ib,Fb,rfl,Ha,Za⟩
 have Ga:=Na.past Za Wa
 have Ba:=zam ea Za
 have qa:=Ba.size
 clear ea Za da Na
 have ma:=ha
 unfold maxLen at ma
 have Db:¬ Xa=0:=by omega
 by_cases k0:k=0
 ·subst k0
  have hr:=Ga.takeO j (by omega)
  have HR:=hide hr
  clear hr
  go_wp2
  go_ret
  exact⟨_,rfl,_,zaa HR,by simp;omega,Ha,Ba⟩
 by_cases k1:k=1
 ·subst k1
  clear k0
  go_wp2_with fail
  refine (zbN w0 w3 g code l Ha).mono ?_
  rintro e w4 ⟨y,Va,Ua,rfl,Oa,Ca⟩
  have Ja:=Ga.past Ca Wa
  have za:=Ca.size
  go_wp2_with (at_builtin;refine zbP rfl _ _ rfl w.heap.size _ m rfl (Ja.alloc _) _ [y] rfl (zbv w4 y Va Ua) ?c1 ?c2 ?_)
  case c1=>simp;omega
  case c2=>first | omega | (simp;omega)
  intro v5 w5 Da Ka
  have Ra:Cur w0 w5 g code l:=(Oa.keepAll ((Below.refl _ _).alloc (Nat.le_refl _) _)).keep Ka (fun e=>by have:=Ja.base_le g e.symm;omega) (fun q hq=>by have:=Ja.base_le q hq;omega)
  have Pa:w.grownBy w5 (some g):=zbe (zaK (zam Ba Ca) ((Below.refl _ _).alloc (Nat.le_refl _) _)) Ka Ja.base_le
  have HO:=hide (show Own w5 w.heap.size v5 (m++[y]) from Da)
  clear Da Ka Ca Ja Oa Ba
  go_wp2
  go_ret
  exact⟨_,rfl,_,zaa HO,by simp;omega,Ra,Pa⟩
 by_cases k2:k=2
 ·subst k2
  clear k0 k1
  go_wp2_with fail
  refine (zbN w0 w3 g code l Ha).mono ?_
  rintro e w4 ⟨y,Va,Ua,rfl,Oa,Ca⟩
  have Ja:=Ga.past Ca Wa
  have Fa:=zam Ba Ca
  clear Ba Ca
  obtain⟨q',ba,e,_,_,_,_,Aa,Sa⟩:=Ja.form h0
  simp only [Value.slice.injEq,Option.some.injEq,Addr.mk.injEq,true_and,and_true]at e
  obtain⟨rfl,rfl⟩:=e
  have c1:=Aa j hj
  have f1:=Sa j
  have ca:=Ja.store j y Va Ua
  have Ta:=zdq w4 q j (.int .u8 y)
  have Ra:=Oa.keep Ta (by simp;omega) (fun r hr=>by simp at hr;omega)
  have Pa:=zbe Fa Ta (fun r hr=>by simp at hr;omega)
  have HO:=hide ca
  have HC:=hide Ra
  have HG:=hide Pa
  clear Aa Sa ca Ta Ra Pa Fa Oa
  have va:(j:Int)<(m.length:Int):=by omega
  go_wp2
  go_ret
  exact⟨_,rfl,_,zaa HO,by simp;omega,zaa HC,zaa HG⟩
 by_cases k3:k=3
 ·subst k3
  clear k0 k1 k2
  have sa:(0:Int)<=(j:Int):=by omega
  have Gb:(j:Int)<=(Xa:Int):=by omega
  have Lb:(j:Int)+1<=(m.length:Int):=by omega
  have Mb:(j:Int)+1<=(Xa:Int):=by omega
  have fa:=Ga.take j (by omega) Xa (by omega) ha
  have hcut:Byt w3 (.slice (some ⟨q,0+(j+1),none⟩) (m.length-(j+1)) (Xa-(j+1))) (m.drop (j+1)):=by
   obtain⟨q',ba,e,_,ja,_,_,Aa,_⟩:=Ga.form h0
   simp only [Value.slice.injEq,Option.some.injEq,Addr.mk.injEq,true_and,and_true]at e
   obtain⟨rfl,rfl⟩:=e
   exact Byt.cut (off:=0) (p:=j+1) Ga.1 (by unfold maxLen;omega) (by omega) ra ha ja (fun i hi=>by rw [Nat.zero_add];exact Aa i hi)
  rw [Nat.zero_add]at hcut
  have Nb:IntKind.i64.wrap ((j:Int)+1)=(j:Int)+1:=by rw [IntKind.wrap_i64];omega
  have ya:((j:Int)+1).toNat=j+1:=by omega
  have Eb:(0:Int)<=(j:Int)+1:=by omega
  have Ab:(j:Int)<=(j:Int)+1:=by omega
  have ua:=Ha.lt
  by_cases hcj:Xa=j+1
  ·subst hcj
   have La:Byt w3 (.slice (some ⟨q,0,none⟩) 0 0) []:=⟨zaE,by simp [maxLen],.inr (.inl ⟨_,0,rfl,by simp [maxLen],rfl⟩)⟩
   go_wp2
   go_region_law (first | (refine zbZ rfl (.tmp 59) (.tmp 62) rfl w3.heap.size _ [] (by rfl) (zdl _) _ (m.take j) (by rfl) (fa.alloc _) (by simp;omega) (by simp) ?_;intro v5 w5 Da Ka;have Ia:Below w3.heap.size w3 w5:=zbo (((Below.refl _ _).alloc (Nat.le_refl _) _).drew) Ka (fun r hr=>by simp [Value.ownBlock]at hr;omega)) | (refine zbZ rfl (.tmp 63) (.tmp 67) rfl w3.heap.size _ (m.take j) (by rfl) Da _ [] (by rfl) (La.keep Ia) (by simp;omega) Ia.size ?_;intro v6 w6 Ya Qa))
   have na:Cur w0 w6 g code l:=(Ha.keepAll Ia).keep Qa (fun e=>by have:=Da.base_le g e.symm;omega) (fun r hr=>by have:=Da.base_le r hr;omega)
   have oa:w.grownBy w6 (some g):=zbe (zaK Ba Ia) Qa (fun r hr=>by have:=Da.base_le r hr;omega)
   have HO:=hide (Ya.down qa)
   have ia:(m.take j++[]).length<=1000001:=by simp;omega
   clear Ya Qa Ka Da Ia Ha Ba fa hcut La
   go_wp2
   go_ret
   exact⟨_,rfl,_,zaa HO,ia,na,oa⟩
  ·go_wp2
   go_region_law (first | (refine zbZ rfl (.tmp 59) (.tmp 62) rfl w3.heap.size _ [] (by rfl) (zdl _) _ (m.take j) (by rfl) (fa.alloc _) (by simp;omega) (by simp) ?_;intro v5 w5 Da Ka;have Ia:Below w3.heap.size w3 w5:=zbo (((Below.refl _ _).alloc (Nat.le_refl _) _).drew) Ka (fun r hr=>by simp [Value.ownBlock]at hr;omega)) | (refine zbZ rfl (.tmp 63) (.tmp 67) rfl w3.heap.size _ (m.take j) (by rfl) Da _ (m.drop (j+1)) (by rfl) (hcut.keep Ia) (by simp;omega) Ia.size ?_;intro v6 w6 Ya Qa))
   have na:Cur w0 w6 g code l:=(Ha.keepAll Ia).keep Qa (fun e=>by have:=Da.base_le g e.symm;omega) (fun r hr=>by have:=Da.base_le r hr;omega)
   have oa:w.grownBy w6 (some g):=zbe (zaK Ba Ia) Qa (fun r hr=>by have:=Da.base_le r hr;omega)
   have HO:=hide (Ya.down qa)
   have ia:(m.take j++m.drop (j+1)).length<=1000001:=by simp;omega
   clear Ya Qa Ka Da Ia Ha Ba fa hcut
   go_wp2
   go_ret
   exact⟨_,rfl,_,zaa HO,ia,na,oa⟩
 ·obtain rfl:k=4:=by omega
  clear k0 k1 k2 k3
  obtain⟨q',ba,e,_,ja,_,_,Aa,Sa⟩:=Ga.form h0
  simp only [Value.slice.injEq,Option.some.injEq,Addr.mk.injEq,true_and,and_true]at e
  obtain⟨rfl,rfl⟩:=e
  obtain⟨z,hz⟩:∃z,z=m.getD j 0:=⟨_,rfl⟩
  have c1:w3.cell? ⟨q,j,none⟩=some (.int .u8 z):=by rw [hz];exact Aa j hj
  have f1:=Sa j
  have va:(j:Int)<(m.length:Int):=by omega
  have sa:(0:Int)<=(j:Int):=by omega
  have xa:q≠g:=by omega
  clear Aa Sa hz
  go_wp2
  go_region_with ((go_at_call 52;refine (zaY w0 _ g code l 8 (Ha.keepAll ((Below.refl _ _).drew)) (by omega) (by omega)).mono ?_;rintro e w4 ⟨y,Va,Ua,rfl,Oa,Ca⟩;have c4:w4.cell? ⟨q,j,none⟩=some (.int .u8 z):=Ca.cell (a:=⟨q,j,none⟩) c1 (by simp;omega);have f4:w4.frozen? ⟨q,j,none⟩=false:=(World.frozen?_of_block (w:=w3) (Ca.block q ja (by simp;omega))).trans f1))
  all_goals
   have hb:=bounds_u8 (wf_bits (k:=.u8) .xor z (IntKind.u8.wrap (2 ^ y.toNat)))
   generalize bits BinOp.xor IntKind.u8 z (IntKind.u8.wrap (2 ^ y.toNat))=x at *
   have Fa:w3.grownBy w4 (some g):=⟨Ca.os,Ca.tape,Ca.output,Ca.size,Ca.block⟩
   have Ja:=Ga.past Fa Wa
   have ca:=Ja.store j x hb.1 hb.2
   have Ta:=zdq w4 q j (.int .u8 x)
   have Ra:=Oa.keep Ta (by simp;omega) (fun r hr=>by simp at hr;omega)
   have Pa:w.grownBy (w4.setCell ⟨q,j,none⟩ (.int .u8 x)) (some g):=zbe (zam Ba Fa) Ta (fun r hr=>by simp at hr;omega)
   have HO:=hide ca
   have HC:=hide Ra
   have HG:=hide Pa
   clear ca Ta Ra Pa Ba Oa Ca Fa c1 c4 f1 f4 Ga Ja Ha
   go_wp2
   go_ret
   exact⟨_,rfl,_,zaa HO,by simp;omega,zaa HC,zaa HG⟩
set_option maxRecDepth 100000
theorem zgV (s:ByteArray):Lib.strCells s=vals (strL s):=by
 unfold Lib.strCells vals strL
 rw [List.map_map]
 rfl
theorem zAp (i:Nat) (h:i<17):∃s:ByteArray,(#[.string ⟨#[60]⟩,.string ⟨#[62]⟩,.string ⟨#[60,47,112,62]⟩,.string ⟨#[60,66,62]⟩,.string ⟨#[60,98,114,47,62]⟩,.string ⟨#[38,108,116]⟩,.string ⟨#[60,112,32,99,108,97,115,115,61,120,32,107,61,39,121,39,32,75,61,34,122,34]⟩,.string ⟨#[38,103,116,59]⟩,.string ⟨#[10]⟩,.string ⟨#[60,47]⟩,.string ⟨#[60,49,62]⟩,.string ⟨#[0,255]⟩,.string ⟨#[60,108,105,62,60,108,105,62]⟩,.string ⟨#[61]⟩,.string ⟨#[34]⟩,.string ⟨#[60,47,100,105,118,32]⟩,.string ⟨#[60,105,32,97,32,98,61,62]⟩]:Array Xh)[i]? = some (.string s)∧s.size<=30:=by
 match i,h with
 | 0,_=>exact⟨_,rfl,by decide⟩
 | 1,_=>exact⟨_,rfl,by decide⟩
 | 2,_=>exact⟨_,rfl,by decide⟩
 | 3,_=>exact⟨_,rfl,by decide⟩
 | 4,_=>exact⟨_,rfl,by decide⟩
 | 5,_=>exact⟨_,rfl,by decide⟩
 | 6,_=>exact⟨_,rfl,by decide⟩
 | 7,_=>exact⟨_,rfl,by decide⟩
 | 8,_=>exact⟨_,rfl,by decide⟩
 | 9,_=>exact⟨_,rfl,by decide⟩
 | 10,_=>exact⟨_,rfl,by decide⟩
 | 11,_=>exact⟨_,rfl,by decide⟩
 | 12,_=>exact⟨_,rfl,by decide⟩
 | 13,_=>exact⟨_,rfl,by decide⟩
 | 14,_=>exact⟨_,rfl,by decide⟩
 | 15,_=>exact⟨_,rfl,by decide⟩
 | 16,_=>exact⟨_,rfl,by decide⟩
 | n+17,h=>omega
theorem zxc (w:Xg) (base:Nat):Own w base (.slice none 0 0) []:=⟨zaE,rfl,.inl ⟨rfl,rfl⟩⟩
theorem Own.cutO {w:Xg} {base q cap p:Nat} {m:Xc} (h:Own w base (.slice (some ⟨q,0,none⟩) m.length cap) m) (hp:p<=m.length) (hm:m.length<=maxLen) (hc:cap<=maxLen):Byt w (.slice (some ⟨q,p,none⟩) (m.length-p) (cap-p)) (m.drop p):=by
 by_cases h0:m=[]
 ·subst h0
  simp at hp
  subst hp
  exact⟨by simpa using zaE,by simp [maxLen],.inr (.inl ⟨_,cap-0,rfl,by omega,by simp⟩)⟩
 ·obtain⟨q',Fa,e,_,Da,Ba,Ca,Aa,_⟩:=h.form h0
  simp only [Value.slice.injEq,Option.some.injEq,Addr.mk.injEq,true_and,and_true]at e
  obtain⟨rfl,rfl⟩:=e
  have:=Byt.cut (off:=0) (p:=p) h.1 hm hp Ba Ca Da (fun i hi=>by rw [Nat.zero_add];exact Aa i hi)
  rw [Nat.zero_add]at this
  exact this
def lenV:Xh->Nat
 | .slice _ n _=>n
 | _=>0
def L3k (w0 w:Xg) (g:Nat) (code:Xh) (l:Xc) (n:Nat) (b:Xh) (wr:Xg):Prop:=∃m,Own wr w.heap.size b m∧m.length<=n∧Cur w0 wr g code l∧w.grownBy wr (some g)
def L3r (w0 w:Xg) (g:Nat) (code:Xh) (l:Xc) (v:Xh) (w':Xg):Prop:=∃m,Byt w' v m∧Cur w0 w' g code l∧w.grownBy w' (some g)
set_option maxHeartbeats 25600000 in
theorem zsY (w0 w:Xg) (g:Nat) (code:Xh) (l:Xc) (h:Cur w0 w g code l) :
  Calls Tryz.prog 25 #[.pointer (some ⟨g,0,none⟩)] w fun e w'=>∃v,e=.returned v∧L3r w0 w g code l v w':=by
 have Ua:=h.lt
 have Mb:=h.below.size
 go_enter Tryz.func25,Tryz.ntmps25
 go_wp2_with fail
 refine (zaY w0 w g code l 4 h (by decide) (by decide)).mono ?_
 rintro e w1 ⟨n,za,Kb,rfl,sa,qa⟩
 obtain⟨n,rfl⟩:=Int.eq_ofNat_of_zero_le za
 have Tb:n<=3:=by omega
 go_wp2_with fail
 go_loopw [3,5] (fun b i wr=>∃j:Nat,j<=n∧i=.int .i64 j∧L3k w0 w g code l (10000*j) b wr) (fun _ i _=>n-(intOf i).toNat)
 case atStart=>exact⟨0,Nat.zero_le _,rfl,[],zxc _ _,Nat.zero_le _,sa,qa⟩
 case round=>
  clear sa qa h
  obtain⟨j,hj,rfl,m,ho,hm,hC,hG⟩:=hrel
  by_cases hjn:j<n
  ·have Xa:(j:Int)<(n:Int):=by omega
   obtain⟨a0,c0,hv,_,_⟩:=ho.byt.shape
   subst hv
   have HD:=hide (zln 3 (by decide) w0 wr g code l hC)
   have HO:=hide ho
   clear ho
   go_wp2_with fail
   refine (zaa HD).mono ?_
   rintro e w2 ⟨k,p1,n1,c1,p2,n2,c2,p3,n3,c3,p4,n4,c4,rfl,⟨t,F,hN,Hb,ra,na⟩,Ya,Va⟩
   have ho:=zaa HO
   have hF:∀q∈FB (.slice a0 m.length c0),q∉F:=fun q hq e=>by
    have h1:=(ho.lt q (by simpa [FB]using hq)).2
    have h2:=(ra q e).1
    omega
   have ja:=ho.past Va Ua
   have Cb:=zng 4 t na
   have e4:capM 4=10000:=rfl
   have ka:=zam hG Va
   have HM:=hide (zqr w2 w.heap.size _ m 4 _ _ _ _ _ t F hN ja hF ka.size (by omega))
   have Qa:=ja.base_le
   clear HD HO hN ra Hb na ho hF hC Va
   go_wp2_with fail
   refine (zaa HM).mono ?_
   rintro e w3 ⟨v3,rfl,Za,ha⟩
   have HE:=hide (show L3k w0 w g code l (10000*(j+1)) v3 w3 from ⟨_,Za,by rw [List.length_append];omega,Ya.keep ha (fun e=>by have:=Qa g e.symm;omega) (fun q hq=>by have:=Qa q hq;omega),zbe ka ha Qa⟩)
   clear HM Za ha ja Ya ka Cb e4 Qa
   go_wp2_with fail
   go_roundw
   case rel=>exact⟨j+1,by omega,by go_num,zaa HE⟩
   case measure=>simp [intOf];omega
  ·have Xa:¬ (j:Int)<(n:Int):=by omega
   have HE:=hide (show L3k w0 w g code l 30000 _ wr from ⟨m,ho,by omega,hC,hG⟩)
   have HO:=hide (zdS w0 wr g code l 2 hC (by decide) (by decide))
   clear ho hC hG hm
   go_wp2_with fail
   refine (zaa HO).mono ?_
   rintro e w2 ⟨bb,rfl,Ya,Va⟩
   obtain⟨m,ho,hm,_,hG⟩:=zaa HE
   have ba:=hide (show L3k w0 w g code l 30000 _ w2 from ⟨m,ho.past Va Ua,hm,Ya,zam hG Va⟩)
   clear HO HE ho hm Ya hG Va
   go_upto_if 22 with fail
   go_cut [3] from 6 to 50 (fun b wx=>L3k w0 w g code l 31000 b wx)
   case first=>
    cases bb with
    | false=>
     go_wp2_with fail
     go_meet
     obtain⟨m,ho,hm,hC,hG⟩:=zaa ba
     exact⟨m,ho,by omega,hC,hG⟩
    | true=>
     obtain⟨m,ho,hm,hC,hG⟩:=zaa ba
     have HO:=hide (zaY w0 w2 g code l 5 hC (by decide) (by decide))
     clear ho hm hC hG
     go_wp2_with fail
     refine (zaa HO).mono ?_
     rintro e w3 ⟨k,xa,Qb,rfl,aa,Ma⟩
     obtain⟨m,ho,hm,_,hG⟩:=zaa ba
     have Za:=ho.past Ma Ua
     have Ma:=zam hG Ma
     clear HO ba ho hG
     obtain⟨k,rfl⟩:=Int.eq_ofNat_of_zero_le xa
     go_wp2_with fail
     go_loopw [3,7] (fun b i wr=>∃j:Nat,j<=k∧i=.int .i64 j∧L3k w0 w g code l (30000+30*j) b wr) (fun _ i _=>k-(intOf i).toNat)
     case atStart=>exact⟨0,Nat.zero_le _,rfl,m,Za,by omega,aa,Ma⟩
     case round=>
      clear Za aa Ma hm
      obtain⟨j,hj,rfl,m,ho,hm,hC,hG⟩:=hrel
      by_cases hjn:j<k
      ·have Xa:(j:Int)<(k:Int):=by omega
       obtain⟨a0,c0,hv,_,_⟩:=ho.byt.shape
       subst hv
       have HO:=hide (zaY w0 wr g code l ((m.length:Int)+1) hC (by omega) (by omega))
       have HW:=hide (And.intro ho hG)
       clear ho hC hG
       go_wp2_with fail
       refine (zaa HO).mono ?_
       rintro e w4 ⟨p,Ib,Pb,rfl,Na,Ca⟩
       obtain⟨ho,hG⟩:=zaa HW
       have Ka:=ho.past Ca Ua
       have Ha:=zam hG Ca
       clear HO HW ho hG Ca
       obtain⟨p,rfl⟩:=Int.eq_ofNat_of_zero_le Ib
       have hA:=(Below.refl w4.heap.size w4).alloc (Nat.le_refl _) (.cells #[.string ⟨#[60]⟩,.string ⟨#[62]⟩,.string ⟨#[60,47,112,62]⟩,.string ⟨#[60,66,62]⟩,.string ⟨#[60,98,114,47,62]⟩,.string ⟨#[38,108,116]⟩,.string ⟨#[60,112,32,99,108,97,115,115,61,120,32,107,61,39,121,39,32,75,61,34,122,34]⟩,.string ⟨#[38,103,116,59]⟩,.string ⟨#[10]⟩,.string ⟨#[60,47]⟩,.string ⟨#[60,49,62]⟩,.string ⟨#[0,255]⟩,.string ⟨#[60,108,105,62,60,108,105,62]⟩,.string ⟨#[61]⟩,.string ⟨#[34]⟩,.string ⟨#[60,47,100,105,118,32]⟩,.string ⟨#[60,105,32,97,32,98,61,62]⟩] 9)
       have lt:=Loc.made w4 #[.string ⟨#[60]⟩,.string ⟨#[62]⟩,.string ⟨#[60,47,112,62]⟩,.string ⟨#[60,66,62]⟩,.string ⟨#[60,98,114,47,62]⟩,.string ⟨#[38,108,116]⟩,.string ⟨#[60,112,32,99,108,97,115,115,61,120,32,107,61,39,121,39,32,75,61,34,122,34]⟩,.string ⟨#[38,103,116,59]⟩,.string ⟨#[10]⟩,.string ⟨#[60,47]⟩,.string ⟨#[60,49,62]⟩,.string ⟨#[0,255]⟩,.string ⟨#[60,108,105,62,60,108,105,62]⟩,.string ⟨#[61]⟩,.string ⟨#[34]⟩,.string ⟨#[60,47,100,105,118,32]⟩,.string ⟨#[60,105,32,97,32,98,61,62]⟩] 9
       have HC:=hide (zaY w0 _ g code l 17 (Na.keepAll hA) (by omega) (by omega))
       have LL:=hide (And.intro hA (And.intro lt (And.intro Ka Ha)))
       have Rb:=Na.lt
       clear hA lt Na Ka Ha
       go_wp2_with fail
       refine (zaa HC).mono ?_
       rintro e w5 ⟨x,wa,Gb,rfl,Wa,ca⟩
       obtain⟨hA,lt,Ka,Ca⟩:=zaa LL
       clear LL HC
       have oa:=lt.frm (Frm.ofGrown ca) (by simp;omega)
       have La:=(Ka.keep hA).past ca Ua
       have Aa:=zam (zaK Ca hA) ca
       obtain⟨x,rfl⟩:=Int.eq_ofNat_of_zero_le wa
       obtain⟨s,hs,Jb⟩:=zAp x (by omega)
       have ua:w5.cell? ⟨w4.heap.size,x,none⟩=some (.string s):=(oa.cell x).trans hs
       have ta:(x:Int)<17:=Gb
       clear hA lt oa Ka Ca ca hs
       go_upto_region 14 with fail
       clear ua
       generalize w4.heap.size=tb at *
       have ga:=Aa.size
       have Db:=Wa.lt
       have fa:p<=m.length:=by omega
       have Bb:(0:Int)<=(p:Int):=by omega
       have Fb:(p:Int)<=(m.length:Int):=by omega
       rcases La.2.2 with ⟨e0,e1⟩ | ⟨q,Ja,Lb,e0,hq,_,Nb,pa,_,_⟩
       ·injection e0 with x1 _ x3
        subst x1 x3
        obtain rfl:m=[]:=List.eq_nil_of_length_eq_zero e1
        simp only [List.length_nil]at fa
        obtain rfl:p=0:=by omega
        have Pa:Byt w5 (.slice none 0 0) (([]:Xc).take 0):=⟨by simpa using zaE,by simp [maxLen],.inl ⟨rfl,rfl⟩⟩
        have hcut:Byt w5 (.slice none 0 0) (([]:Xc).drop 0):=Pa
        go_wp2_with fail
        go_region_law (first | (refine zbZ rfl (.tmp 40) (.tmp 43) rfl w5.heap.size _ [] (by rfl) (zdl _) _ (([]:Xc).take 0) (by rfl) (Pa.alloc _) (by first | (simp;done) | (simp;omega)) (by simp) ?_;intro v6 w6 Ga Sa;have Fa:Below w5.heap.size w5 w6:=zbo (((Below.refl _ _).alloc (Nat.le_refl _) _).drew) Sa (fun r hr=>by simp [Value.ownBlock]at hr;omega)) | (refine zhS rfl (.tmp 44) (.tmp 45) rfl w5.heap.size _ ([]++([]:Xc).take 0) (by rfl) Ga s (strL s) (by rfl) (zgV s) (ziA s) (by first | (simp [zax];done) | (simp [zax];omega)) Fa.size ?_;intro v7 w7 Da Ra;have Ba:Below w5.heap.size w5 w7:=zbo Fa Ra Ga.base_le) | (refine zbZ rfl (.tmp 46) (.tmp 49) rfl w5.heap.size _ ([]++([]:Xc).take 0++strL s) (by rfl) Da _ (([]:Xc).drop 0) (by rfl) (hcut.keep Ba) (by first | (simp [zax];done) | (simp [zax];omega)) Ba.size ?_;intro v8 w8 Oa Ta))
        have Ia:Below w5.heap.size w5 w8:=zbo Ba Ta Da.base_le
        have HE:=hide (show L3k w0 w g code l (30000+30*(j+1)) v8 w8 from ⟨_,Oa.down ga,by simp only [List.length_append,List.length_take,List.length_drop,zax,List.length_nil];omega,Wa.keepAll Ia,zaK Aa Ia⟩)
        clear Ia Ba Fa Oa Da Ga Ta Ra Sa Pa hcut La Wa Aa
        go_wp2_with fail
        go_roundw
        case rel=>exact⟨j+1,by omega,by go_num,zaa HE⟩
        case measure=>simp [intOf];omega
       ·injection e0 with x1 _ x3
        have x4:=x3.symm
        subst x1 x4
        have Pa:=La.take p fa Ja (by omega) pa
        have hcut:=La.cutO fa (by omega) pa
        have Ob:(p:Int)<=(Ja:Int):=by omega
        have va:(m.length:Int)<=(Ja:Int):=by omega
        by_cases hcj:Ja=p
        ·subst hcj
         obtain hcc:m.length=Ja:=by omega
         have hcut:Byt w5 (.slice (some ⟨q,0,none⟩) 0 0) (m.drop Ja):=by
          have Eb:m.drop Ja=[]:=List.drop_eq_nil_of_le (by omega)
          rw [Eb]
          exact⟨zaE,by simp [maxLen],.inr (.inl ⟨_,0,rfl,by simp [maxLen],rfl⟩)⟩
         have Ab:=hide hcc
         clear hcc
         go_wp2_with fail
         go_region_law (first | (refine zbZ rfl (.tmp 40) (.tmp 43) rfl w5.heap.size _ [] (by rfl) (zdl _) _ (m.take Ja) (by rfl) (Pa.alloc _) (by first | (simp;done) | (simp;omega)) (by simp) ?_;intro v6 w6 Ga Sa;have Fa:Below w5.heap.size w5 w6:=zbo (((Below.refl _ _).alloc (Nat.le_refl _) _).drew) Sa (fun r hr=>by simp [Value.ownBlock]at hr;omega)) | (refine zhS rfl (.tmp 44) (.tmp 45) rfl w5.heap.size _ ([]++m.take Ja) (by rfl) Ga s (strL s) (by rfl) (zgV s) (ziA s) (by first | (simp [zax];done) | (simp [zax];omega)) Fa.size ?_;intro v7 w7 Da Ra;have Ba:Below w5.heap.size w5 w7:=zbo Fa Ra Ga.base_le) | (refine zbZ rfl (.tmp 46) (.tmp 49) rfl w5.heap.size _ ([]++m.take Ja++strL s) (by rfl) Da _ (m.drop Ja) (by rfl) (hcut.keep Ba) (by first | (simp [zax];done) | (simp [zax];omega)) Ba.size ?_;intro v8 w8 Oa Ta))
         have Ia:Below w5.heap.size w5 w8:=zbo Ba Ta Da.base_le
         have HE:=hide (show L3k w0 w g code l (30000+30*(j+1)) v8 w8 from ⟨_,Oa.down ga,by simp only [List.length_append,List.length_take,List.length_drop,zax,List.length_nil];have:=zaa Ab;omega,Wa.keepAll Ia,zaK Aa Ia⟩)
         clear Ia Ba Fa Oa Da Ga Ta Ra Sa Pa hcut La Wa Aa
         go_wp2_with fail
         go_roundw
         case rel=>exact⟨j+1,by omega,by go_num,zaa HE⟩
         case measure=>simp [intOf];omega
        ·go_wp2_with fail
         go_region_law (first | (refine zbZ rfl (.tmp 40) (.tmp 43) rfl w5.heap.size _ [] (by rfl) (zdl _) _ (m.take p) (by rfl) (Pa.alloc _) (by first | (simp;done) | (simp;omega)) (by simp) ?_;intro v6 w6 Ga Sa;have Fa:Below w5.heap.size w5 w6:=zbo (((Below.refl _ _).alloc (Nat.le_refl _) _).drew) Sa (fun r hr=>by simp [Value.ownBlock]at hr;omega)) | (refine zhS rfl (.tmp 44) (.tmp 45) rfl w5.heap.size _ ([]++m.take p) (by rfl) Ga s (strL s) (by rfl) (zgV s) (ziA s) (by first | (simp [zax];done) | (simp [zax];omega)) Fa.size ?_;intro v7 w7 Da Ra;have Ba:Below w5.heap.size w5 w7:=zbo Fa Ra Ga.base_le) | (refine zbZ rfl (.tmp 46) (.tmp 49) rfl w5.heap.size _ ([]++m.take p++strL s) (by rfl) Da _ (m.drop p) (by rfl) (hcut.keep Ba) (by first | (simp [zax];done) | (simp [zax];omega)) Ba.size ?_;intro v8 w8 Oa Ta))
         have Ia:Below w5.heap.size w5 w8:=zbo Ba Ta Da.base_le
         have HE:=hide (show L3k w0 w g code l (30000+30*(j+1)) v8 w8 from ⟨_,Oa.down ga,by simp only [List.length_append,List.length_take,List.length_drop,zax,List.length_nil];omega,Wa.keepAll Ia,zaK Aa Ia⟩)
         clear Ia Ba Fa Oa Da Ga Ta Ra Sa Pa hcut La Wa Aa
         go_wp2_with fail
         go_roundw
         case rel=>exact⟨j+1,by omega,by go_num,zaa HE⟩
         case measure=>simp [intOf];omega
      ·have Xa:¬ (j:Int)<(k:Int):=by omega
       have HE:=hide (show L3k w0 w g code l 31000 _ wr from ⟨m,ho,by omega,hC,hG⟩)
       clear ho hC hG
       go_wp2_with fail
       go_meet
       exact zaa HE
   case rest=>
   obtain⟨m,ho,hm,hC,hG⟩:=hcut
   obtain⟨a0,c0,hv,_,_⟩:=ho.byt.shape
   subst hv
   have HO:=hide (zdS w0 wc g code l 8 hC (by decide) (by decide))
   have HW:=hide (And.intro ho hG)
   clear ho hC hG ba
   go_wp2_with fail
   refine (zaa HO).mono ?_
   rintro e w3 ⟨b8,rfl,aa,Ma⟩
   obtain⟨ho,hG⟩:=zaa HW
   have da:=hide (And.intro (ho.past Ma Ua) (And.intro aa (zam hG Ma)))
   clear HO HW ho aa hG Ma
   go_upto_if 52 with fail
   go_cut [3] from 53 to 55 (fun b wx=>L3k w0 w g code l 1000001 b wx)
   case first=>
    obtain⟨ho,hC,hG⟩:=zaa da
    cases b8 with
    | false=>
     have HE:=hide (show L3k w0 w g code l 1000001 _ w3 from ⟨m,ho,by omega,hC,hG⟩)
     clear ho hC hG da
     go_wp2_with fail
     go_meet
     exact zaa HE
    | true=>
     have HS:=hide (zqK w0 w3 g code l _ m hC ho.byt (by omega))
     have ea:=hG.size
     clear ho hC da
     go_wp2_with fail
     refine (zaa HS).mono ?_
     rintro e w4 ⟨v4,rfl,m4,Ka,ma,Na,Ca⟩
     have HE:=hide (show L3k w0 w g code l 1000001 v4 w4 from ⟨m4,Ka.down ea,ma,Na,zam hG Ca⟩)
     clear Ka ma Na Ca hG HS
     go_wp2_with fail
     go_meet
     exact zaa HE
   case rest=>
   obtain⟨m,ho,hm,hC,hG⟩:=hcut
   obtain⟨a0,c0,hv,_,_⟩:=ho.byt.shape
   subst hv
   have HO:=hide (zdS w0 wc g code l 40 hC (by decide) (by decide))
   have HW:=hide (And.intro ho hG)
   clear ho hC hG da
   go_wp2_with fail
   refine (zaa HO).mono ?_
   rintro e w4 ⟨b9,rfl,Na,Ca⟩
   obtain⟨ho,hG⟩:=zaa HW
   have Ka:=ho.past Ca Ua
   have Ha:=zam hG Ca
   have HE:=hide (And.intro Ka (And.intro Na Ha))
   clear HO HW ho Na hG Ca Ka Ha
   cases b9 with
   | false=>
    go_wp2_with fail
    go_ret
    exact⟨_,rfl,m,(zaa HE).1.byt,(zaa HE).2.1,(zaa HE).2.2⟩
   | true=>
    go_wp2_with fail
    go_loopw [3] (fun b wr=>L3k w0 w g code l 1000001 b wr) (fun b _=>1501-lenV b)
    case atStart=>exact⟨m,(zaa HE).1,hm,(zaa HE).2.1,(zaa HE).2.2⟩
    case round=>
     clear HE hm
     obtain⟨m,ho,hm,hC,hG⟩:=hrel
     obtain⟨a0,c0,hv,_,_⟩:=ho.byt.shape
     subst hv
     by_cases hlm:m.length<=1500
     ·have ia:(m.length:Int)<=1500:=by omega
      have Qa:=ho.base_le
      have HO:=hide ho
      have ea:=hG.size
      clear ho
      go_wp2_with (at_builtin;refine zji rfl _ _ rfl w.heap.size _ m rfl (zaa HO) _ [60,112,62,120] rfl rfl (fun x hx=>by simp at hx;omega) (by simp;omega) ea ?_)
      intro v5 w5 La la
      obtain⟨a5,c5,ya,_,_⟩:=La.byt.shape
      subst ya
      have HE:=hide (show L3k w0 w g code l 1000001 _ w5 from ⟨_,La,by simp;omega,hC.keep la (fun e=>by have:=Qa g e.symm;omega) (fun q hq=>by have:=Qa q hq;omega),zbe hG la Qa⟩)
      have Sb:(m++[60,112,62,120]).length=m.length+4:=by simp
      generalize (m++[60,112,62,120]).length=n5 at *
      clear La la hC hG HO
      go_wp2_with fail
      go_roundw
      case rel=>exact zaa HE
      case measure=>simp [lenV];omega
     ·have ia:¬ (m.length:Int)<=1500:=by omega
      have HE:=hide (And.intro ho.byt (And.intro hC hG))
      clear ho hC hG
      go_wp2_with fail
      go_ret
      exact⟨_,rfl,m,(zaa HE).1,(zaa HE).2.1,(zaa HE).2.2⟩
set_option maxHeartbeats 6400000 in
theorem znU (w:Xg) (code:Xh) (l:Xc) (h:Byt w code l) :
  Calls Tryz.prog 9 #[code] w fun e w'=>∃v m,e=.returned v∧Byt w' v m∧Below w.heap.size w w':=by
 have HN:=hide (zui w code l h)
 obtain⟨a0,c0,rfl,_,_⟩:=h.shape
 clear h
 go_enter Tryz.func9,Tryz.ntmps9
 go_wp2_with fail
 refine (zaa HN).mono ?_
 rintro e w1 ⟨rfl,Aa,Ca⟩
 have Ga:=Aa.lt
 have HD:=hide (zsY _ w1 _ _ l Aa)
 have HB:=hide Ca
 clear HN Aa Ca
 go_wp2_with fail
 refine (zaa HD).mono ?_
 rintro e w2 ⟨v,rfl,m,hm,Fa,Da⟩
 have Ba:=zbo (zaa HB) Da (fun q hq=>by simp at hq;omega)
 obtain⟨a,c,rfl,_,_⟩:=hm.shape
 have HR:=hide (And.intro hm Ba)
 clear HD HB Fa Da hm Ba
 go_wp2_with fail
 go_ret
 exact⟨_,m,rfl,(zaa HR).1,(zaa HR).2⟩
end Go.Proofs.YtgjolijncmkkhaaGreatDoor
