/- Own texts joined: L5ao, L5sa, RegI, L5do. -/
import Derived.Test.YtlpnibbdmkeklaaGreatDoorJa
import Derived.Test.YtlpnibbdmkeklaaGreatDoorJb
import Derived.Test.YtlpnibbdmkeklaaGreatDoorJc
import Derived.Test.YtlpnibbdmkeklaaGreatDoorJd
import Derived.Test.YtlpnibbdmkeklaaGreatDoorJe
import Derived.Deep.AppendLies
import Derived.Deep.Cut
import Derived.Deep.CutRange
import Derived.OrdersIn
import Derived.OwnWalkIn
namespace Go.Proofs.YtlpnibbdmkeklaaGreatDoor
open Go.RowKit
set_option linter.unusedVariables false
set_option maxRecDepth 100000
def OwAO (w0 w:Xe) (B:Nat) (v:Xf) (m:List (Xa×Xa)):Prop:=OwElems w 144 2 v m (zjB w0) (FB v)∧∀q∈FB v,B<=q∧q<w.heap.size
theorem zrn {w0 w:Xe} {v:Xf} {m:List (Xa×Xa)} {F:Xb} (h:OwElems w 144 2 v m (zjB w0) F):F=FB v:=by
 obtain⟨Cs,Fs,e1,e2,e3,e4,rfl⟩:=h
 have:Fs.flatten=[]:=List.flatten_eq_nil_iff.2 (fun G hG=>by
  obtain⟨i,hi,rfl⟩:=List.getElem_of_mem hG
  obtain⟨_,a,b,_,_,_,e⟩:=e3 i (by omega)
  rw [List.getD_eq_getElem?_getD,List.getElem?_eq_getElem hi]at e
  exact e)
 rw [this,List.append_nil]
theorem OwAO.frm {w0 w w':Xe} {B:Nat} {v:Xf} {m:List (Xa×Xa)} {S:Xb} (h:OwAO w0 w B v m) (f:Frm w w' S) (hd:∀q∈FB v,q∉S):OwAO w0 w' B v m:=
 ⟨OwElems.frm h.1 f hd (fun C x G hr hG=>hr),fun q hq=>⟨(h.2 q hq).1,Nat.lt_of_lt_of_le (h.2 q hq).2 f.size⟩⟩
theorem OwAO.keep {w0 w w':Xe} {B:Nat} {v:Xf} {m:List (Xa×Xa)} (h:OwAO w0 w B v m) (hb:Below w.heap.size w w'):OwAO w0 w' B v m:=h.frm (Frm.ofBelow hb []) (fun _ _=>by simp)
theorem OwAO.nil (w0 w:Xe) (B:Nat):OwAO w0 w B (.slice none 0 0) []:=⟨⟨[],[],rfl,rfl,fun i hi=>by simp at hi,⟨by simp,.inl ⟨rfl,rfl⟩⟩,rfl⟩,fun q hq=>by simp [FB,Value.ownBlock]at hq⟩
theorem OwAO.shape {w0 w:Xe} {B:Nat} {v:Xf} {m:List (Xa×Xa)} (h:OwAO w0 w B v m):∃a c,v=.slice a m.length c:=by
 obtain⟨⟨_,_,_,_,_,hr,_⟩,_⟩:=h
 exact zbA hr
theorem zqN:(Tryz.prog.info? 144).map (fun i=>(i.zero,i.size,i.bytes))=some (some (.agg #[.slice none 0 0,.slice none 0 0]),2,48):=by kernel_rfl
theorem zdK {w0 w:Xe} {B:Nat} {ops:Array Oper} {rest:List Oper} {o:Oper} {a:Act} {Q:Exit->Act->Xe->Prop} (hgd:o.guard=none) (s x:Operand)
  (ho:o.op=.call { callee:=.builtin .append,args:= #[s,x],argTypes:= #[34,34] })
  (v:Xf) (m:List (Xa×Xa)) (hs:a.eval s=v) (h:OwAO w0 w B v m) (u1 u2:Xf) (y:Xa×Xa) (c:Nat)
  (hx:a.eval x=.slice (some ⟨w.heap.size,0,none⟩) 1 c) (h1:Byt w0 u1 y.1) (h2:Byt w0 u2 y.2) (hB:B<=w.heap.size) (hl:m.length<=1000)
  (hK:∀g cap w',OwAO w0 w' B (.slice (some ⟨g,0,none⟩) (m.length+1) cap) (m++[y])->Frm w w' (FB v)->(g∈FB v∨w.heap.size<=g)->wpList Tryz.prog ops Q rest (a.put o.dst (.slice (some ⟨g,0,none⟩) (m.length+1) cap)) w'):wpList Tryz.prog ops Q (o::rest) a (w.alloc (.cells #[u1,u2] 144)):=by
 obtain⟨i0,hi0,hz0,hz1,hz2⟩:=info_parts zqN
 have hb:Below w.heap.size w (w.alloc (.cells #[u1,u2] 144)):=(Below.refl _ _).alloc (Nat.le_refl _) _
 have h':=h.keep hb
 have hone:∀{u:Xf} {l:Xa},Byt w0 u l->u.oneCell'=true:=fun hu=>by obtain⟨_,_,rfl,_⟩:=hu.shape;rfl
 refine zgP (R:=fun _=>zjB w0) (fun h _ _=>h) hgd s x 34 ho 144 i0 (.agg #[.slice none 0 0,.slice none 0 0]) 2 48 Tryz.underlying34 hi0 hz0 hz1 hz2 rfl (by decide) v m (FB v) hs h'.1 (zaF _) ⟨w.heap.size,0,none⟩ c [u1,u2] y [] hx rfl (fun j u hu=>World.news_of_block (heap_alloc_new w (.cells #[u1,u2] 144)) j u (by simpa using hu)) (by intro u hu;simp at hu;rcases hu with rfl | rfl;exact hone h1;exact hone h2) ⟨u1,u2,rfl,h1,h2,rfl⟩ List.nodup_nil (fun _ _ h=>by cases h) (fun q hq=>by rcases hq with hq | hq;exact (h'.2 q hq).2;cases hq) (by unfold maxLen;omega) (by omega) ?_
 intro g cap w' F' k1 k2 k3 k4 k5
 have hF:=zrn k1
 subst hF
 have hg:g∈FB (.slice (some ⟨g,0,none⟩) (m.length+1) cap):=by simp [FB,Value.ownBlock]
 have hgw:g∈FB v∨w.heap.size<=g:=by
  rcases k3 g hg with h3 | h3 | h3
  ·exact .inl h3
  ·cases h3
  ·right;rw [h3];simp
 refine hK g cap w' ⟨k1,fun q hq=> ?_⟩ ((Frm.ofBelow hb _).trans k4) hgw
 have eq:q=g:=by simpa [FB,Value.ownBlock,eq_comm]using hq
 subst eq
 refine⟨?_,k5⟩
 rcases hgw with h3 | h3
 ·exact (h.2 q h3).1
 ·omega
theorem AttrsF.at {w0 w:Xe} {v:Xf} {l:List (Xa×Xa)} {F:Xb} (h:AttrsF w0 w v l F) (hb:Below w0.heap.size w0 w) {i:Nat} (hi:i<l.length) :
  ∃b off cap y1 d1 y2 d2,v=.slice (some ⟨b,off,none⟩) l.length cap∧b<w.heap.size∧w.cell? ⟨b,off+i*2,none⟩=some (.slice y1 l[i].1.length d1)∧w.cell? ⟨b,off+i*2+1,none⟩=some (.slice y2 l[i].2.length d2)∧Byt w0 (.slice y1 l[i].1.length d1) l[i].1∧Byt w0 (.slice y2 l[i].2.length d2) l[i].2:=by
 rcases h with ⟨h,_⟩ | ⟨Cs,Fs,e1,e2,e3,e4,_⟩
 ·obtain⟨hm,⟨_,e⟩ | ⟨_,_,_,_,e⟩ | ⟨pb,poff,cap,rfl,_,_,_,hpl,hel⟩⟩:=h
  ·subst e;simp at hi
  ·subst e;simp at hi
  obtain⟨C,hC,hcell,y1,y2,rfl,h1,h2⟩:=hel i hi
  obtain⟨a1,c1,rfl,_,_⟩:=h1.shape
  obtain⟨a2,c2,rfl,_,_⟩:=h2.shape
  have q0:=hcell 0 (by omega)
  have q1:=hcell 1 (by omega)
  exact⟨pb,poff,cap,a1,c1,a2,c2,rfl,Nat.lt_of_lt_of_le hpl hb.size,(hb.cell (p:=⟨pb,poff+i*2,none⟩) hpl).trans q0,(hb.cell (p:=⟨pb,poff+i*2+1,none⟩) hpl).trans q1,h1,h2⟩
 ·rcases e4.2 with ⟨_,e0⟩ | ⟨g,cap,cur,rfl,_,hg,_⟩
  ·omega
  obtain⟨_,y1,y2,eC,h1,h2,_⟩:=e3 i hi
  have hcell:=fun x (hx:x<2)=>zaU e4 (fun i hi=>(e3 i (by omega)).1) e1 i x hi hx
  rw [eC]at hcell
  obtain⟨a1,c1,rfl,_,_⟩:=h1.shape
  obtain⟨a2,c2,rfl,_,_⟩:=h2.shape
  exact⟨g,0,cap,a1,c1,a2,c2,rfl,(Array.getElem?_eq_some_iff.1 hg).1,by rw [Nat.zero_add];exact hcell 0 (by decide),by rw [Nat.zero_add];exact hcell 1 (by decide),h1,h2⟩
theorem StB.same {w0 w w':Xe} {sb b c:Nat} {l:List PlV} {F:Xb} (h:StB w0 w sb (some ⟨b,0,none⟩) c l F) {k:Nat} {p:PlV} (hk:l[k]? = some p) (hb:Below w.heap.size w w'):StB w0 w' sb (some ⟨b,0,none⟩) c (l.set k p) F:=by
 have e:l.set k p=l:=by
  obtain⟨hlt,rfl⟩:=List.getElem?_eq_some_iff.1 hk
  simp
 rw [e]
 exact h.keep hb
theorem StB.attrs {w0 w w':Xe} {sb b c:Nat} {l:List PlV} {F:Xb} (h:StB w0 w sb (some ⟨b,0,none⟩) c l F) {k:Nat} {p:PlV} (hk:l[k]? = some p) (hb:Below w.heap.size w w') {v:Xf} {m:List (Xa×Xa)} (hv:OwAO w0 w' (w.heap.size+1) v m) :
  ∃F',StB w0 (w'.setCell ⟨b,k*9+8,none⟩ v) sb (some ⟨b,0,none⟩) c (l.set k { p with attrs:=m }) F'∧Frm w (w'.setCell ⟨b,k*9+8,none⟩ v) [b]∧∀q∈F',q∈F∨w.heap.size<=q:=by
 obtain⟨h1,h2,h3,h4,h5,h6⟩:=h
 obtain⟨hlt,rfl⟩:=List.getElem?_eq_some_iff.1 hk
 obtain⟨Cs,C,G,hR,hP,hGN,hGF,hbF,hbG,hcl⟩:=h2.one h3 k hlt
 have hbl:=(h4 b hbF).2.1
 have hbs:=(h4 b hbF).2.2
 have f1:Frm w w' []:=Frm.ofBelow hb []
 have f2:=zab w' b (k*9+8) v
 have f:Frm w (w'.setCell ⟨b,k*9+8,none⟩ v) [b]:=(f1.mono (fun q hq=>by cases hq)).trans f2
 have hR9:=(hR.frm f1 (by simp)).put 8 (by decide) v
 obtain⟨kv,n,t,a,F1,F2,F3,eC,q1,q2,q3,q4,eG⟩:=hP
 have hvb:∀q∈FB v,q∉[b]:=fun q hq e=>by have:=(hv.2 q hq).1;simp at e;omega
 have hv9:=OwElems.frm hv.1 f2 hvb (fun C x G hr hG=>hr)
 have hG1:∀q∈F1++F2,q∈G:=fun q hq=>by rw [eG];exact List.mem_append_left _ hq
 have hGb:∀q∈F1++F2,q∉[b]:=fun q hq e=>by simp at e;subst e;exact hbG (hG1 q hq)
 have hP9:PlF w0 (w'.setCell ⟨b,k*9+8,none⟩ v) (C.set 8 v) { l[k]with attrs:=m } (F1++F2++FB v):=by
  subst eC
  exact⟨kv,n,t,v,F1,F2,FB v,rfl,q1.frm f (fun q hq=>hGb q (by simp [hq])),q2.frm f (fun q hq=>hGb q (by simp [hq])),q3,.inr hv9,rfl⟩
 have hN9:(F1++F2++FB v).Nodup:=by
  rw [eG]at hGN
  refine List.nodup_append.2 ⟨(List.nodup_append.1 hGN).1,zaF _,fun x hx y hy e=> ?_⟩
  subst e
  have h7:=(h4 x (hGF x (hG1 x hx))).2.1
  have h8:=(hv.2 x hy).1
  omega
 obtain⟨F',g1,g2,g3⟩:=hcl _ _ { l[k]with attrs:=m } (F1++F2++FB v) hR9 f hP9 hN9 (fun q hq=>by
  rcases List.mem_append.1 hq with hq | hq
  ·exact .inl (hG1 q hq)
  ·right;intro e;have h7:=(h4 q e).2.1;have h8:=(hv.2 q hq).1;omega)
 have hs9:=f.size
 refine⟨F',⟨?_,g1,g2,fun q hq=> ?_,h5,h6.trans (f.below h6.size (fun q hq=>by simp at hq;subst hq;exact (h4 q hbF).1))⟩,f,fun q hq=>(g3 q hq).elim .inl (fun h7=>(List.mem_append.1 h7).elim (fun h8=>.inl (hGF q (hG1 q h8))) (fun h8=>.inr (by have:=(hv.2 q h8).1;omega)))⟩
 ·rw [List.length_set]
  exact h1.frm f (by simp;omega)
 ·have hsl:=h1.lt
  rcases g3 q hq with h7 | h7
  ·have:=h4 q h7;exact⟨this.1,by omega,this.2.2⟩
  ·rcases List.mem_append.1 h7 with h7 | h7
   ·have:=h4 q (hGF q (hG1 q h7));exact⟨this.1,by omega,this.2.2⟩
   ·have h8:=hv.2 q h7
    have h9:=f2.size
    exact⟨by have:=h6.size;omega,by omega,by omega⟩
theorem zpk (n t:Xa) (pt:Bool) (l:List (Xa×Xa)) (j:Nat) (hj:j<l.length):setA n t pt (l.drop j)=(if !pt && !klB l[j].1 n then [(n,t)] else [])++(if l[j].1=n then [] else [l[j]])++setA n t (pt || !klB l[j].1 n) (l.drop (j+1)):=by
 rw [List.drop_eq_getElem_cons hj]
 rfl
theorem zte (a b:Xa):(klB a b || decide (a=b)) = !klB b a:=by
 have h1:=zed a b
 have h2:=zjZ a b
 generalize klB a b=x at *
 generalize klB b a=y at *
 generalize decide (a=b)=z at *
 cases x<;>cases y<;>cases z<;>simp_all
set_option maxHeartbeats 12800000 in
theorem zjx (w0 w:Xe) (sb b c:Nat) (l:List PlV) (F:Xb) (h:StB w0 w sb (some ⟨b,0,none⟩) c l F) (k:Nat) (p:PlV) (hk:l[k]? = some p) (hal:p.attrs.length<=100) (o:OpV) (k1 k2 k3:Xc) (d1 d2 d3:Nat) (h2:Byt w0 (.slice k2 o.name.length d2) o.name) (h3:Byt w0 (.slice k3 o.text.length d3) o.text) :
  Calls Tryz.prog 111 #[.pointer (some ⟨b,k*9,none⟩),.agg #[.int .i64 o.kind,.int .i64 o.atN,.int .i64 o.atR,.int .i64 o.nodeN,.int .i64 o.nodeR,.int .i64 o.parN,.int .i64 o.parR,.slice k1 o.key.length d1,.int .i64 o.elem,.slice k2 o.name.length d2,.slice k3 o.text.length d3,.bool o.gone]] w fun e w'=>(∃v,e=.returned v)∧(∃F',StB w0 w' sb (some ⟨b,0,none⟩) c (l.set k (zbs o p)) F'∧∀q∈F',q∈F∨w.heap.size<=q)∧Frm w w' [b]:=by
 obtain⟨b',kk,ck,n,cn,t,ct,qa,qc,eb,hbF,_,_,_,_,_,_,_,_,z8,_,_,_⟩:=h.cells hk
 obtain rfl:b=b':=by injection eb with eb;injection eb
 have hbl:=(h.2.2.2.1 b hbF).2.1
 have h06:=h.2.2.2.2.2
 have HAT:Hid (∀j (hj:j<p.attrs.length),∃b9 off cap y1 e1 y2 e2,(Value.slice qa p.attrs.length qc)=.slice (some ⟨b9,off,none⟩) p.attrs.length cap∧b9<w.heap.size∧w.cell? ⟨b9,off+j*2,none⟩=some (.slice y1 p.attrs[j].1.length e1)∧w.cell? ⟨b9,off+j*2+1,none⟩=some (.slice y2 p.attrs[j].2.length e2)∧Byt w0 (.slice y1 p.attrs[j].1.length e1) p.attrs[j].1∧Byt w0 (.slice y2 p.attrs[j].2.length e2) p.attrs[j].2):=hide (fun j hj=>by
  obtain⟨hlt,rfl⟩:=List.getElem?_eq_some_iff.1 hk
  obtain⟨Cs,C,G,hR,⟨_,_,_,a9,_,_,_,eC,_,_,_,q4,_⟩,_⟩:=h.2.1.one h.2.2.1 k hlt
  have hc:=hR.cell 8 (by decide)
  rw [z8,eC]at hc
  simp at hc
  subst hc
  exact q4.at h06 hj)
 have hA:Below w.heap.size w (w.alloc (.cells #[.int .i64 o.kind,.int .i64 o.atN,.int .i64 o.atR,.int .i64 o.nodeN,.int .i64 o.nodeR,.int .i64 o.parN,.int .i64 o.parR,.slice k1 o.key.length d1,.int .i64 o.elem,.slice k2 o.name.length d2,.slice k3 o.text.length d3,.bool o.gone] 83)):=(Below.refl _ _).alloc (Nat.le_refl _) _
 have lo:=Loc.made w #[.int .i64 o.kind,.int .i64 o.atN,.int .i64 o.atR,.int .i64 o.nodeN,.int .i64 o.nodeR,.int .i64 o.parN,.int .i64 o.parR,.slice k1 o.key.length d1,.int .i64 o.elem,.slice k2 o.name.length d2,.slice k3 o.text.length d3,.bool o.gone] 83
 have LL:=hide (And.intro hA lo)
 have HST:=hide h
 clear hA lo h eb
 go_enter Tryz.func111,Tryz.ntmps111
 go_wp2_with fail
 obtain⟨hA,lo⟩:=zaa LL
 clear LL
 generalize (w.alloc (.cells #[.int .i64 o.kind,.int .i64 o.atN,.int .i64 o.atR,.int .i64 o.nodeN,.int .i64 o.nodeR,.int .i64 o.parN,.int .i64 o.parR,.slice k1 o.key.length d1,.int .i64 o.elem,.slice k2 o.name.length d2,.slice k3 o.text.length d3,.bool o.gone] 83))=w1 at *
 go_loopw [4,5,6] (fun ov pv x wr=>∃(j:Nat) (pt:Bool) (m:List (Xa×Xa)),j<=p.attrs.length∧x=.int .i64 (j:Int)∧pv=.bool pt∧OwAO w0 wr (w.heap.size+1) ov m∧m.length<=2*j∧setA o.name o.text o.gone p.attrs=m++setA o.name o.text pt (p.attrs.drop j)∧Loc wr w.heap.size #[.int .i64 o.kind,.int .i64 o.atN,.int .i64 o.atR,.int .i64 o.nodeN,.int .i64 o.nodeR,.int .i64 o.parN,.int .i64 o.parR,.slice k1 o.key.length d1,.int .i64 o.elem,.slice k2 o.name.length d2,.slice k3 o.text.length d3,.bool o.gone] 83∧Below w.heap.size w wr) (fun _ _ x _=>p.attrs.length-(intOf x).toNat)
 case atStart=>exact⟨0,o.gone,[],Nat.zero_le _,rfl,rfl,OwAO.nil _ _ _,Nat.zero_le _,by simp,lo,hA⟩
 case round=>
  clear lo hA
  obtain⟨j,pt,m,hj,rfl,rfl,hov,hml,hset,lo,hb⟩:=hrel
  obtain⟨ov,cv,rfl⟩:=hov.shape
  have y8:wr.cell? ⟨b,k*9+8,none⟩=some (.slice qa p.attrs.length qc):=(hb.cell (p:=⟨b,k*9+8,none⟩) hbl).trans z8
  have hlo:=lo.lt
  by_cases hlt:j<p.attrs.length
  ·have hlt':(j:Int)<(p.attrs.length:Int):=by omega
   have hj0:(0:Int)<=(j:Int):=by omega
   obtain⟨b9,off,cap,y1,e1,y2,e2,hq,hb9,c0,c1,g1,g2⟩:=zaa HAT j hlt
   injection hq with hq1 _ hq3
   subst hq1 hq3
   have hstep:=zpk o.name o.text pt p.attrs j hlt
   obtain⟨x,hx⟩:∃x,x=p.attrs[j]:=⟨_,rfl⟩
   rw [<-hx]at c0 c1 g1 g2 hstep
   clear hx
   have c0r:=(hb.cell (p:=⟨b9,off+j*2,none⟩) hb9).trans c0
   have c1r:=(hb.cell (p:=⟨b9,off+j*2+1,none⟩) hb9).trans c1
   have hAa:Below wr.heap.size wr (wr.alloc (.cells #[.slice y1 x.1.length e1,.slice y2 x.2.length e2] 144)):=(Below.refl _ _).alloc (Nat.le_refl _) _
   have LL:=hide (And.intro (Loc.made wr #[.slice y1 x.1.length e1,.slice y2 x.2.length e2] 144) (And.intro (hov.keep hAa) (And.intro (lo.all hAa) (And.intro (zad hb hAa) (show wr.heap.size<(wr.alloc (.cells #[.slice y1 x.1.length e1,.slice y2 x.2.length e2] 144)).heap.size by simp)))))
   have hovl:=fun q hq=>(hov.2 q hq).2
   have HS:=hide (And.intro hset hstep)
   clear hov lo hb hAa c0 c1 hset hstep
   go_upto_region 7 with fail
   obtain⟨la,hov,lo,hb,hwl⟩:=zaa LL
   clear LL y8 c0r c1r
   generalize (wr.alloc (.cells #[.slice y1 x.1.length e1,.slice y2 x.2.length e2] 144))=wa at *
   have habo:wr.heap.size≠w.heap.size:=by omega
   generalize wr.heap.size=ab at *
   have o9:wa.cell? ⟨w.heap.size,9,none⟩=some (.slice k2 o.name.length d2):=lo.cell 9
   have o10:wa.cell? ⟨w.heap.size,10,none⟩=some (.slice k3 o.text.length d3):=lo.cell 10
   have a0:wa.cell? ⟨ab,0,none⟩=some (.slice y1 x.1.length e1):=la.cell 0
   have a1:wa.cell? ⟨ab,1,none⟩=some (.slice y2 x.2.length e2):=la.cell 1
   have s1:=zbf wa _ o.name (h2.keep (zad h06 hb))
   have s2:=zbf wa _ x.1 (g1.keep (zad h06 hb))
   have hA:=zff h2.1 g1.1
   have hB:=zgp h2.1 g1.1
   have hC:=zgp g1.1 h2.1
   have HX:=hide (And.intro la (And.intro hov (And.intro lo hb)))
   clear la hov lo hb
   obtain⟨q1,hq1⟩:∃q1,q1=(!pt && !klB x.1 o.name):=⟨_,rfl⟩
   go_cut [36] from 26 to 36 (fun t wx=>t=.bool q1∧wx=wa)
   case first=>
    generalize str x.1=t2 at *
    generalize str o.name=t1 at *
    cases pt with
    | true=>
     clear hA hB hC s1 s2
     go_wp2_with fail
     go_meet
     exact⟨by rw [hq1];rfl,rfl⟩
    | false=>
     have ht:=zte o.name x.1
     cases h7:klB o.name x.1 with
     | true=>
      rw [h7]at hA ht
      have ht':klB x.1 o.name=false:=by simpa using ht.symm
      rw [ht']at hq1
      clear hB hC h7 ht ht'
      go_wp2_with fail
      go_meet
      exact⟨by rw [hq1];rfl,rfl⟩
     | false=>
      rw [h7]at hA ht
      by_cases h8:o.name=x.1
      ·have hB':(t1.toList == t2.toList)=true:=by rw [hB];simp [h8]
       have ht':klB x.1 o.name=false:=by simpa [h8]using ht.symm
       rw [ht']at hq1
       clear hB hC h7 h8 ht ht'
       go_wp2_with fail
       go_meet
       exact⟨by rw [hq1];rfl,rfl⟩
      ·have hB':(t1.toList == t2.toList)=false:=by rw [hB];simp [h8]
       have ht':klB x.1 o.name=true:=by simpa [h8]using ht.symm
       rw [ht']at hq1
       clear hB hC h7 h8 ht ht'
       go_wp2_with fail
       go_meet
       exact⟨by rw [hq1];rfl,rfl⟩
   case rest=>
   obtain⟨rfl,hw⟩:=hcut
   subst wc
   have HQ1:=hide hq1
   clear hq1
   go_upto_if 36 with fail
   go_cut [4,5] from 37 to 44 (fun ov' pv' wx=>∃a' c' m',ov'=.slice a' m'.length c'∧m'=m++(if q1=true then [(o.name,o.text)] else [])∧pv'=.bool (pt || q1)∧OwAO w0 wx (w.heap.size+1) (.slice a' m'.length c') m'∧Loc wx w.heap.size #[.int .i64 o.kind,.int .i64 o.atN,.int .i64 o.atR,.int .i64 o.nodeN,.int .i64 o.nodeR,.int .i64 o.parN,.int .i64 o.parR,.slice k1 o.key.length d1,.int .i64 o.elem,.slice k2 o.name.length d2,.slice k3 o.text.length d3,.bool o.gone] 83∧Loc wx ab #[.slice y1 x.1.length e1,.slice y2 x.2.length e2] 144∧ab∉FB (.slice a' m'.length c')∧Below w.heap.size w wx)
   case first=>
    have hab:ab∉FB (.slice ov m.length cv):=fun hq=>by have:=hovl ab hq;omega
    cases q1 with
    | false=>
     go_wp2_with fail
     go_meet
     obtain⟨la,hov,lo,hb⟩:=zaa HX
     exact⟨ov,cv,m,rfl,by simp,by simp,hov,lo,la,hab,hb⟩
    | true=>
     have hsz:w.heap.size+1<=wa.heap.size:=by obtain⟨_,_,lo,_⟩:=zaa HX;have:=lo.lt;omega
     go_wp2_with (at_builtin;refine zdK rfl _ _ rfl _ m rfl (zaa HX).2.1 (.slice k2 o.name.length d2) (.slice k3 o.text.length d3) (o.name,o.text) 1 rfl h2 h3 hsz (by omega) ?_)
     intro g9 cap9 w9 hov9 hf9 hg9
     obtain⟨la,hov,lo,hb⟩:=zaa HX
     have lo9:=lo.frm hf9 (fun hq=>by have:=(hov.2 _ hq).1;omega)
     have la9:=la.frm hf9 hab
     have hb9:=hb.trans (hf9.below hb.size (fun q hq=>by have:=(hov.2 q hq).1;omega))
     have hal9:=la.lt
     have HE:=hide (And.intro hov9 (And.intro lo9 (And.intro la9 (And.intro hb9 (show ab∉FB (.slice (some ⟨g9,0,none⟩) (m.length+1) cap9) from fun hq=>by
      have e9:ab=g9:=by simpa [FB,Value.ownBlock,eq_comm]using hq
      rcases hg9 with h9 | h9
      ·rw [<-e9]at h9;exact hab h9
      ·omega)))))
     clear la hov lo hb lo9 la9 hb9 hov9 hf9 hg9
     go_wp2_with fail
     go_meet
     have hlen:(m++[(o.name,o.text)]).length=m.length+1:=by simp
     exact⟨_,_,m++[(o.name,o.text)],by rw [hlen],by simp,by simp,by rw [hlen];exact (zaa HE).1,(zaa HE).2.1,(zaa HE).2.2.1,by rw [hlen];exact (zaa HE).2.2.2.2,(zaa HE).2.2.2.1⟩
   case rest=>
   obtain⟨ov2,cv2,m2,rfl,hm2,rfl,hov2,lo2,la2,hab2,hb2⟩:=hcut
   have hml2:m2.length<=2*j+1:=by rw [hm2,List.length_append];split<;>simp<;>omega
   have HM2:=hide hm2
   clear o9 o10 a0 a1 s1 s2 HX hm2
   have o9:wc.cell? ⟨w.heap.size,9,none⟩=some (.slice k2 o.name.length d2):=lo2.cell 9
   have a0:wc.cell? ⟨ab,0,none⟩=some (.slice y1 x.1.length e1):=la2.cell 0
   have a1:wc.cell? ⟨ab,1,none⟩=some (.slice y2 x.2.length e2):=la2.cell 1
   have s1:=zbf wc _ o.name (h2.keep (zad h06 hb2))
   have s2:=zbf wc _ x.1 (g1.keep (zad h06 hb2))
   have hwl2:=la2.lt
   obtain⟨q2,hq2⟩:∃q2,q2=decide (x.1=o.name):=⟨_,rfl⟩
   rw [<-hq2]at hC
   have HX:=hide (And.intro la2 (And.intro hov2 (And.intro lo2 hb2)))
   have hsz:w.heap.size+1<=wc.heap.size:=by have:=lo2.lt;omega
   clear la2 hov2 lo2 hb2 hA hB
   have HQ:=hide (And.intro (zaa HQ1) hq2)
   clear HQ1 hq2
   generalize str x.1=t2 at *
   generalize str o.name=t1 at *
   have HS2:=hide (show ∀M,M=m2++(if q2=true then [] else [x])->setA o.name o.text o.gone p.attrs=M++setA o.name o.text (pt || q1) (p.attrs.drop (j+1)) from fun M hM=>by
    obtain⟨hq1,hq2⟩:=zaa HQ
    obtain⟨z1,z2⟩:=zaa HS
    rw [z1,z2,hM,zaa HM2,hq1,hq2]
    have e1:(pt || !klB x.1 o.name)=(pt || (!pt && !klB x.1 o.name)):=by cases pt<;>simp
    rw [e1]
    by_cases e2:x.1=o.name<;>simp [e2])
   cases q2 with
   | true=>
    go_wp2_with fail
    go_roundw
    case rel=>exact⟨j+1,pt || q1,m2,by omega,by go_num,rfl,(zaa HX).2.1,by omega,zaa HS2 m2 (by simp),(zaa HX).2.2.1,(zaa HX).2.2.2⟩
    case measure=>simp [intOf];omega
   | false=>
    go_wp2_with (at_builtin;refine zdK rfl _ _ rfl _ m2 rfl (zaa HX).2.1 (.slice y1 x.1.length e1) (.slice y2 x.2.length e2) x 1 rfl g1 g2 hsz (by omega) ?_)
    intro g9 cap9 w9 hov9 hf9 hg9
    obtain⟨la,hov,lo,hb⟩:=zaa HX
    have lo9:=lo.frm hf9 (fun hq=>by have:=(hov.2 _ hq).1;omega)
    have hb9:=hb.trans (hf9.below hb.size (fun q hq=>by have:=(hov.2 q hq).1;omega))
    have hlen:(m2++[x]).length=m2.length+1:=by simp
    rw [<-hlen]at hov9
    have HE:=hide (And.intro hov9 (And.intro lo9 hb9))
    have HS3:=hide (zaa HS2 (m2++[x]) (by simp))
    have hml3:(m2++[x]).length<=2*(j+1):=by rw [hlen];omega
    rw [<-hlen]
    generalize m2++[x]=m3 at *
    clear la hov lo hb lo9 hb9 hov9 hf9 hg9 HX hlen
    go_wp2_with fail
    go_roundw
    case rel=>exact⟨j+1,pt || q1,m3,by omega,by go_num,rfl,(zaa HE).1,hml3,zaa HS3,(zaa HE).2.1,(zaa HE).2.2⟩
    case measure=>simp [intOf];omega
  ·have hlt':¬ (j:Int)<(p.attrs.length:Int):=by omega
   have hje:p.attrs.drop j=[]:=List.drop_eq_nil_of_le (by omega)
   rw [hje]at hset
   have o9:wr.cell? ⟨w.heap.size,9,none⟩=some (.slice k2 o.name.length d2):=lo.cell 9
   have o10:wr.cell? ⟨w.heap.size,10,none⟩=some (.slice k3 o.text.length d3):=lo.cell 10
   have hsz:w.heap.size+1<=wr.heap.size:=by omega
   cases pt with
   | true=>
    replace hset:m=setA o.name o.text o.gone p.attrs:=by rw [hset];simp [setA]
    have yW:wr.cell? ⟨b,k*9+8,none⟩=some (.slice qa p.attrs.length qc):=(hb.cell (p:=⟨b,k*9+8,none⟩) hbl).trans z8
    obtain⟨_,_,_,_,_,_,_,_,_,eb9,_,_,_,_,_,_,_,_,_,_,_,_,hfz⟩:=((zaa HST).keep hb).cells hk
    injection eb9 with eb9
    injection eb9 with eb9 _ _
    subst eb9
    have fW:=hfz (k*9+8)
    by_cases h4:m.length<=4
    ·have h4':(m.length:Int)<=4:=by omega
     obtain⟨F',hst,hf,hFq⟩:=(zaa HST).attrs hk hb hov
     have hP:zbs o p={ p with attrs:=m }:=by unfold zbs zbg;rw [<-hset,if_pos h4]
     have HE:=hide (show (∃F',StB w0 _ sb (some ⟨b,0,none⟩) c (l.set k (zbs o p)) F'∧∀q∈F',q∈F∨w.heap.size<=q)∧Frm w _ [b] from ⟨⟨F',by rw [hP];exact hst,hFq⟩,hf⟩)
     clear hFq
     clear hst hf hP hov hb lo hset HST hfz hk
     go_wp2_with fail
     go_end0
     exact⟨⟨_,rfl⟩,zaa HE⟩
    ·have h4':¬ (m.length:Int)<=4:=by omega
     have hP:zbs o p=p:=by unfold zbs zbg;rw [<-hset,if_neg h4]
     have HE:=hide (show (∃F',StB w0 wr sb (some ⟨b,0,none⟩) c (l.set k (zbs o p)) F'∧∀q∈F',q∈F∨w.heap.size<=q)∧Frm w wr [b] from ⟨⟨F,by rw [hP];exact (zaa HST).same hk hb,fun q hq=>.inl hq⟩,Frm.ofBelow hb _⟩)
     clear hP hov hb lo hset HST hfz hk
     go_wp2_with fail
     go_end0
     exact⟨⟨_,rfl⟩,zaa HE⟩
   | false=>
    replace hset:m++[(o.name,o.text)]=setA o.name o.text o.gone p.attrs:=by rw [hset];simp [setA]
    have HX:=hide (And.intro hov (And.intro lo (And.intro hb hset)))
    clear hov lo hb hset
    go_wp2_with (at_builtin;refine zdK rfl _ _ rfl _ m rfl (zaa HX).1 (.slice k2 o.name.length d2) (.slice k3 o.text.length d3) (o.name,o.text) 1 rfl h2 h3 hsz (by omega) ?_)
    intro g9 cap9 w9 hov9 hf9 hg9
    obtain⟨hov,lo,hb0,hset⟩:=zaa HX
    have hb:=hb0.trans (hf9.below hb0.size (fun q hq=>by have:=(hov.2 q hq).1;omega))
    have hlen:(m++[(o.name,o.text)]).length=m.length+1:=by simp
    rw [<-hlen]at hov9 ⊢
    generalize m++[(o.name,o.text)]=m3 at *
    clear hlen hf9 hg9 HX hov hb0 y8 o9 o10
    have hov:=hov9
    clear hov9
    have yW:w9.cell? ⟨b,k*9+8,none⟩=some (.slice qa p.attrs.length qc):=(hb.cell (p:=⟨b,k*9+8,none⟩) hbl).trans z8
    obtain⟨_,_,_,_,_,_,_,_,_,eb9,_,_,_,_,_,_,_,_,_,_,_,_,hfz⟩:=((zaa HST).keep hb).cells hk
    injection eb9 with eb9
    injection eb9 with eb9 _ _
    subst eb9
    have fW:=hfz (k*9+8)
    by_cases h4:m3.length<=4
    ·have h4':(m3.length:Int)<=4:=by omega
     obtain⟨F',hst,hf,hFq⟩:=(zaa HST).attrs hk hb hov
     have hP:zbs o p={ p with attrs:=m3 }:=by unfold zbs zbg;rw [<-hset,if_pos h4]
     have HE:=hide (show (∃F',StB w0 _ sb (some ⟨b,0,none⟩) c (l.set k (zbs o p)) F'∧∀q∈F',q∈F∨w.heap.size<=q)∧Frm w _ [b] from ⟨⟨F',by rw [hP];exact hst,hFq⟩,hf⟩)
     clear hFq
     clear hst hf hP hov hb lo hset HST hfz hk
     go_wp2_with fail
     go_end0
     exact⟨⟨_,rfl⟩,zaa HE⟩
    ·have h4':¬ (m3.length:Int)<=4:=by omega
     have hP:zbs o p=p:=by unfold zbs zbg;rw [<-hset,if_neg h4]
     have HE:=hide (show (∃F',StB w0 w9 sb (some ⟨b,0,none⟩) c (l.set k (zbs o p)) F'∧∀q∈F',q∈F∨w.heap.size<=q)∧Frm w w9 [b] from ⟨⟨F,by rw [hP];exact (zaa HST).same hk hb,fun q hq=>.inl hq⟩,Frm.ofBelow hb _⟩)
     clear hP hov hb lo hset HST hfz hk
     go_wp2_with fail
     go_end0
     exact⟨⟨_,rfl⟩,zaa HE⟩
end Go.Proofs.YtlpnibbdmkeklaaGreatDoor
namespace Go.Proofs.YtlpnibbdmkeklaaGreatDoor
open Go.RowKit
set_option linter.unusedVariables false
def todo:List Bool->Nat
 | []=>0
 | b::l=>(if b then 0 else 1)+todo l
theorem zkF:∀(l:List Bool) (i:Nat),l[i]? = some false->todo (l.set i true)+1=todo l
 | [],i,h=>by simp at h
 | b::l,0,h=>by
  have e:b=false:=by simpa using h
  subst e
  simp only [List.set_cons_zero,todo,if_true,Bool.false_eq_true,if_false]
  omega
 | b::l,i+1,h=>by
  have ih:=zkF l i (by simpa using h)
  simp only [List.set_cons_succ,todo]
  omega
theorem zjc:∀(l:List Bool),todo l=0->∀(i:Nat) (b:Bool),l[i]? = some b->b=true
 | [],_,i,b,h=>by simp at h
 | c::l,h0,0,b,h=>by
  have e:c=b:=by simpa using h
  subst e
  cases c with
  | true=>rfl
  | false=>simp [todo]at h0
 | c::l,h0,i+1,b,h=>zjc l (by simp only [todo]at h0;omega) i b (by simpa using h)
theorem zqZ (n:Nat):todo (List.replicate n false)=n:=by
 induction n with
 | zero=>rfl
 | succ n ih=>rw [List.replicate_succ];simp only [todo,Bool.false_eq_true,if_false];omega
theorem zai {md:Region.Mode} {ops:Array Oper} {L:Array Bool} {i:Nat} (hs:L.size=ops.size) (h:i∈Region.ready md ops L):L.toList[i]? = some false:=by
 unfold Region.ready at h
 rw [List.mem_filter,List.mem_range,Bool.and_eq_true]at h
 obtain⟨h1,h2,_⟩:=h
 have hi:i<L.size:=by omega
 rw [Array.getD_eq_getD_getElem?,Array.getElem?_eq_getElem hi]at h2
 rw [Array.getElem?_toList,Array.getElem?_eq_getElem hi]
 simpa using h2
theorem znv {md:Region.Mode} {ops:Array Oper} {L:Array Bool} (hs:L.size=ops.size) (h:todo L.toList=0):Region.ready md ops L=[]:=by
 rw [List.eq_nil_iff_forall_not_mem]
 intro i hi
 have:=zjc _ h i false (zai hs hi)
 cases this
theorem zac {md:Region.Mode} {ops:Array Oper} {L:Array Bool} {i:Nat} {o:Oper} (h:i∈Region.ready md ops L) (ho:ops[i]? = some o) (j:Nat) (he:o.after.any (fun e=>Region.binds md e && e.on == j)=true):L.getD j false=true:=by
 unfold Region.ready at h
 rw [List.mem_filter,Bool.and_eq_true,ho]at h
 obtain⟨_,_,h3⟩:=h
 simp only [Option.map_some,Option.getD_some]at h3
 rw [Array.any_eq_true]at he
 obtain⟨k,hk,hb⟩:=he
 rw [Bool.and_eq_true,beq_iff_eq]at hb
 rw [Array.all_eq_true]at h3
 have:=h3 k hk
 rw [Bool.or_eq_true,hb.1,hb.2]at this
 simpa using this
theorem zcs {md:Region.Mode} {ops:Array Oper} {L:Array Bool} {i:Nat} (h:i∈Region.ready md ops L):i<ops.size:=by
 unfold Region.ready at h
 rw [List.mem_filter,List.mem_range]at h
 exact h.1
theorem zbF {md:Region.Mode} {ops:Array Oper} {L:Array Bool} (hs:L.size=ops.size) (hb:(List.range ops.size).all (fun i=>((ops[i]?).map fun o=>o.after.all fun e=> !Region.binds md e || decide (e.on<i)).getD true)=true)
  (h:Region.ready md ops L=[]):∀(n i:Nat),i<n->i<ops.size->L.getD i false=true
 | 0,i,hn,_=>by omega
 | n+1,i,hn,hi=>by
  by_cases hlt:i<n
  ·exact zbF hs hb h n i hlt hi
  have e:i=n:=by omega
  subst e
  have hL:i<L.size:=by omega
  by_cases hf:L.getD i false=true
  ·exact hf
  exfalso
  have hmem:i∈Region.ready md ops L:=by
   unfold Region.ready
   rw [List.mem_filter,List.mem_range,Bool.and_eq_true]
   refine⟨hi,?_,?_⟩
   ·rw [Array.getD_eq_getD_getElem?,Array.getElem?_eq_getElem hL]at hf ⊢
    simpa using hf
   ·have hbi:=List.all_eq_true.1 hb i (List.mem_range.2 hi)
    rw [Array.getElem?_eq_getElem hi]at hbi ⊢
    simp only [Option.map_some,Option.getD_some]at hbi ⊢
    rw [Array.all_eq_true]at hbi ⊢
    intro k hk
    have hk':=hbi k hk
    rw [Bool.or_eq_true]at hk' ⊢
    rcases hk' with hk' | hk'
    ·exact .inl hk'
    ·right
     have hlt':(ops[i].after[k]).on<i:=by simpa using hk'
     exact zbF hs hb h i _ hlt' (by omega)
  rw [h]at hmem
  cases hmem
variable {P:Program} {ops:Array Oper} {Q:Exit->Act->Xe->Prop}
theorem zmf {md:Region.Mode} (I:Array Bool->Act->Xe->Prop) (hsz:∀L a w,I L a w->L.size=ops.size)
  (hstep:∀L a w i o,I L a w->i∈Region.ready md ops L->ops[i]? = some o->if Region.wanted o (yielded ops a.tmps)=true then Oper.wp P o a w (I (L.setIfInBounds i true)) Q else I (L.setIfInBounds i true) (a.put o.dst undef) w)
  (hdone:∀L a w,I L a w->Region.ready md ops L=[]->Q .normal a w) :
  ∀(fuel:Nat) (L:Array Bool) (a:Act) (w:Xe),todo L.toList<=fuel->I L a w->wpAny P md ops Q fuel L a w
 | 0,L,a,w,hf,hI=>by
  have hr:=znv (md:=md) (hsz L a w hI) (by omega)
  exact⟨hr,hdone L a w hI hr⟩
 | fuel+1,L,a,w,hf,hI=>by
  refine⟨fun hr=>hdone L a w hI hr,fun i hi=> ?_⟩
  have ho:=zkF _ _ (zai (hsz L a w hI) hi)
  have key:∀a' w',I (L.setIfInBounds i true) a' w'->wpAny P md ops Q fuel (L.setIfInBounds i true) a' w':=fun a' w' h'=>
   zmf I hsz hstep hdone fuel _ a' w' (by rw [Array.toList_setIfInBounds];omega) h'
  unfold wpOp
  cases hoi:ops[i]? with
  | none=>
   unfold Region.ready at hi
   rw [List.mem_filter,List.mem_range]at hi
   rw [Array.getElem?_eq_getElem hi.1]at hoi
   cases hoi
  | some o=>
   have hs:=hstep L a w i o hI hi hoi
   simp only []
   split
   ·rename_i hw
    rw [if_pos hw]at hs
    exact .inl (Oper.wp_mono key hs)
   ·rename_i hw
    rw [if_neg hw]at hs
    exact key _ _ hs
theorem zbT {id:Nat} {a:Act} {w:Xe} (hm:P.follows .mixedOrders=true) (I:Array Bool->Act->Xe->Prop) (hsz:∀L a w,I L a w->L.size=ops.size)
  (h0:I (Array.replicate ops.size false) a w.drew)
  (hstep:∀L a w i o,I L a w->i∈Region.ready .any ops L->ops[i]? = some o->if Region.wanted o (yielded ops a.tmps)=true then Oper.wp P o a w (I (L.setIfInBounds i true)) Q else I (L.setIfInBounds i true) (a.put o.dst undef) w)
  (hdone:∀L a w,I L a w->Region.ready .any ops L=[]->Q .normal a w):(Code.region id ops true).wp P Q a w:=
 wp_region_any hm (zmf I hsz hstep hdone _ _ _ _ (by rw [Array.toList_replicate,zqZ];exact Nat.le_refl _) h0)
end Go.Proofs.YtlpnibbdmkeklaaGreatDoor
namespace Go.Proofs.YtlpnibbdmkeklaaGreatDoor
open Go.RowKit
set_option linter.unusedVariables false
set_option maxRecDepth 100000
theorem zeg:(Tryz.prog.info? 117).map (fun i=>(i.zero,i.size,i.bytes))=some (some (.agg #[.int .i64 0,.int .i64 0,.int .i64 0,.int .i64 0,.slice none 0 0,.int .i64 0,.slice none 0 0,.slice none 0 0,.slice none 0 0]),9,136):=by kernel_rfl
theorem zsG {w0 w:Xe} {o:OpV} {k1 k2 k3:Xc} {d1 d2 d3:Nat} (h1:Ints w0 (.slice k1 o.key.length d1) o.key) (h2:Byt w0 (.slice k2 o.name.length d2) o.name) (h3:Byt w0 (.slice k3 o.text.length d3) o.text):PlF w0 w [.int .i64 o.atN,.int .i64 o.atR,.int .i64 o.parN,.int .i64 o.parR,.slice k1 o.key.length d1,.int .i64 o.elem,.slice k2 o.name.length d2,.slice k3 o.text.length d3,.slice none 0 0] (newP o) []:=
 ⟨_,_,_,_,[],[],[],rfl,.inl ⟨h1,rfl⟩,.inl ⟨h2,rfl⟩,h3,.inl ⟨⟨by simp [newP,maxLen],.inl ⟨rfl,rfl⟩⟩,rfl⟩,rfl⟩
theorem zsu {l:List PlV} {o:OpV} (e0:o.kind≠0) (e1:o.kind≠1) (e2:o.kind=2):(posP l o.node=none->doV l o=l)∧∀k p,posP l o.node=some k->l[k]? = some p->doV l o=if 2<=k∧p.kind=1 then l.set k (zfp o p) else l:=by
 refine⟨fun h=> ?_,fun k p h hk=> ?_⟩
 ·unfold doV;rw [if_neg e0,h]
 ·unfold doV;rw [if_neg e0,h];simp only [hk];rw [if_neg e1,if_pos e2]
theorem zrq {l:List PlV} {o:OpV} (e0:o.kind≠0) (e1:o.kind≠1) (e2:o.kind≠2):(posP l o.node=none->doV l o=l)∧∀k p,posP l o.node=some k->l[k]? = some p->doV l o=if k≠1∧p.kind=0 then l.set k (zbs o p) else l:=by
 refine⟨fun h=> ?_,fun k p h hk=> ?_⟩
 ·unfold doV;rw [if_neg e0,h]
 ·unfold doV;rw [if_neg e0,h];simp only [hk];rw [if_neg e1,if_neg e2]
theorem zrw {l:List PlV} {o:OpV} (e0:o.kind≠0) (e1:o.kind=1):(posP l o.node=none->doV l o=l)∧∀k p,posP l o.node=some k->l[k]? = some p->doV l o=if zcb l o k then l.set k (zdz o p) else l:=by
 refine⟨fun h=> ?_,fun k p h hk=> ?_⟩
 ·unfold doV;rw [if_neg e0,h]
 ·unfold doV;rw [if_neg e0,h];simp only [hk];rw [if_pos e1]
def DoR (w0 w:Xe) (sb:Nat) (F:Xb) (m:List PlV) (w':Xe):Prop:=∃a' c' F',StB w0 w' sb a' c' m F'∧Frm w w' (sb::F)∧∀q∈F',q∈F∨w.heap.size<=q
theorem DoR.of {w0 w w':Xe} {sb:Nat} {a:Xc} {c:Nat} {l m:List PlV} {F F':Xb} (h:StB w0 w' sb a c l F') (e:m=l) (f:Frm w w' (sb::F)) (hF:∀q∈F',q∈F∨w.heap.size<=q):DoR w0 w sb F m w':=⟨a,c,F',e ▸ h,f,hF⟩
theorem Frm.more9 {a b c:Xe} {S S':Xb} (h:Frm a b S) (k:Frm b c S') (hs:∀q∈S',q∈S∨a.heap.size<=q):Frm a c S:=
 ⟨k.os.trans h.os,k.tape.trans h.tape,k.output.trans h.output,Nat.le_trans h.size k.size,fun i hi hn=>(k.block i (Nat.lt_of_lt_of_le hi h.size) (fun e=>(hs i e).elim hn (fun h'=>by omega))).trans (h.block i hi hn)⟩
def AfR (w0 w3 w:Xe) (sb:Nat) (a:Xc) (c:Nat) (l:List PlV) (F:Xb) (o:OpV) (gq cq:Nat):Prop:=∃F',Loc w sb #[.slice a l.length c] 58∧PlsF w0 w (.slice (some ⟨gq,0,none⟩) (l.length+1) cq) (l++[newP o]) F'∧F'.Nodup∧(∀q∈F',w0.heap.size<=q∧q<w.heap.size∧q≠sb)∧w0.heap.size<=sb∧Below w0.heap.size w0 w∧(∀q∈F',q∈F∨w3.heap.size<=q)∧Frm w3 w (sb::F)
theorem AfR.done {w0 w3 w:Xe} {sb:Nat} {a:Xc} {c:Nat} {l:List PlV} {F:Xb} {o:OpV} {gq cq:Nat} (h:AfR w0 w3 w sb a c l F o gq cq):DoR w0 w3 sb F (l++[newP o]) (w.setCell ⟨sb,0,none⟩ (.slice (some ⟨gq,0,none⟩) (l.length+1) cq)):=by
 obtain⟨F',h1,h2,h3,h4,h5,h6,h7,h8⟩:=h
 have f:=zab w sb 0 (.slice (some ⟨gq,0,none⟩) (l.length+1) cq)
 have hlen:(l++[newP o]).length=l.length+1:=by simp
 refine⟨some ⟨gq,0,none⟩,cq,F',⟨?_,?_,h3,fun q hq=>⟨(h4 q hq).1,Nat.lt_of_lt_of_le (h4 q hq).2.1 f.size,(h4 q hq).2.2⟩,h5,h6.trans (f.below h6.size (fun q hq=>by simp at hq;omega))⟩,h8.more9 f (fun q hq=>by simp at hq;left;simp [hq]),h7⟩
 ·rw [hlen];exact h1.set 0 _
 ·rw [hlen];exact h2.frm f (fun q hq e=>(h4 q hq).2.2 (by simpa using e))
def Dn7 (w0 w3:Xe) (sb ob:Nat) (ap:Xc) (c:Nat) (l:List PlV) (F:Xb) (o:OpV) (k1 k2 k3:Xc) (d1 d2 d3:Nat) (s1 s2 s4 s5 s6 s7 s8 s9 s10 s11 s12 s13 s14 s15 s16 s17 s18 s19 s20 s21 s22 s23 s24 s25 s26 s27 s28 s29 s30 s31 s32 s33 s34 s35 s36 s37 s38 s39 s40 s41 s42 s43 s66 s67 s68 s69 s70 s71 s72 s73 s74 s75 s76 s77 s78 s79 s80 s81 s82 s83 s84 s85 s86 s87 s88 s89 s90 s91 s92 s93 s94 s95 s96 s97 s98 s99 s100 s101 s102 s103 s104 s105 s106 s107 s108 s109 s110 s111 s112 s113 s114 s115 s116 s117 s118 s119 s120 s121 s122 s123 s124 s125 s126 s127 s128:Xf) (L:Array Bool) (a:Act) (w:Xe):Prop:=
 ∀C:Prop,(∀(b0 b1 b2 b3 b4 b5 b6 b7 b8 b9 b10 b11 b12 b13 b14 b15 b16 b17 b18 b19 b20 b21 b22:Bool) (x44 x45 x46 x47 x48 x49 x50 x51 x52 x53 x54 x55 x56 x57 x58 x59 x60 x61 x62 x63 x64 x65:Xf),L = #[b0,b1,b2,b3,b4,b5,b6,b7,b8,b9,b10,b11,b12,b13,b14,b15,b16,b17,b18,b19,b20,b21,b22]->a={ tmps:= #[.pointer (some ⟨sb,0,none⟩),s1,s2,.pointer (some ⟨ob,0,none⟩),s4,s5,s6,s7,s8,s9,s10,s11,s12,s13,s14,s15,s16,s17,s18,s19,s20,s21,s22,s23,s24,s25,s26,s27,s28,s29,s30,s31,s32,s33,s34,s35,s36,s37,s38,s39,s40,s41,s42,s43,x44,x45,x46,x47,x48,x49,x50,x51,x52,x53,x54,x55,x56,x57,x58,x59,x60,x61,x62,x63,x64,x65,s66,s67,s68,s69,s70,s71,s72,s73,s74,s75,s76,s77,s78,s79,s80,s81,s82,s83,s84,s85,s86,s87,s88,s89,s90,s91,s92,s93,s94,s95,s96,s97,s98,s99,s100,s101,s102,s103,s104,s105,s106,s107,s108,s109,s110,s111,s112,s113,s114,s115,s116,s117,s118,s119,s120,s121,s122,s123,s124,s125,s126,s127,s128],defers:=[] }->Loc w ob #[.int .i64 o.kind,.int .i64 o.atN,.int .i64 o.atR,.int .i64 o.nodeN,.int .i64 o.nodeR,.int .i64 o.parN,.int .i64 o.parR,.slice k1 o.key.length d1,.int .i64 o.elem,.slice k2 o.name.length d2,.slice k3 o.text.length d3,.bool o.gone] 83->w3.heap.size<=w.heap.size->(b19=false->StB w0 w sb ap c l F)->Frm w3 w (sb::F)->(b0=true->x44=.pointer (some ⟨sb,0,none⟩))->(b1=true->x45=.pointer (some ⟨sb,0,none⟩))->(b2=true->x46=.pointer (some ⟨sb,0,none⟩))->(b3=true->x47=.pointer (some ⟨sb,0,none⟩))->(b4=true->x48=.slice ap l.length c)->(b5=true->x49=.pointer (some ⟨ob,1,none⟩))->(b6=true->x50=.agg #[.int .i64 o.atN,.int .i64 o.atR])->(b7=true->x51=.pointer (some ⟨ob,5,none⟩))->(b8=true->x52=.agg #[.int .i64 o.parN,.int .i64 o.parR])->(b9=true->x53=.pointer (some ⟨ob,7,none⟩))->(b10=true->x54=.slice k1 o.key.length d1)->(b11=true->x55=.pointer (some ⟨ob,8,none⟩))->(b12=true->x56=.int .i64 o.elem)->(b13=true->x57=.pointer (some ⟨ob,9,none⟩))->(b14=true->x58=.slice k2 o.name.length d2)->(b15=true->x59=.pointer (some ⟨ob,10,none⟩))->(b16=true->x60=.slice k3 o.text.length d3)->(b17=true->x61=.agg #[.int .i64 o.atN,.int .i64 o.atR,.int .i64 o.parN,.int .i64 o.parR,.slice k1 o.key.length d1,.int .i64 o.elem,.slice k2 o.name.length d2,.slice k3 o.text.length d3,.slice none 0 0])->(b18=true->∃z,x62=.slice (some ⟨z,0,none⟩) 1 1∧w3.heap.size<=z∧(b19=false->Loc w z #[.int .i64 o.atN,.int .i64 o.atR,.int .i64 o.parN,.int .i64 o.parR,.slice k1 o.key.length d1,.int .i64 o.elem,.slice k2 o.name.length d2,.slice k3 o.text.length d3,.slice none 0 0] 117))->(b19=true->b4=true∧b18=true∧∃gq cq,x63=.slice (some ⟨gq,0,none⟩) (l.length+1) cq∧(b22=false->AfR w0 w3 w sb ap c l F o gq cq))->(b20=true->x64=.pointer (some ⟨sb,0,none⟩))->(b21=true->x65=.pointer (some ⟨sb,0,none⟩))->(b22=true->b19=true∧DoR w0 w3 sb F (l++[newP o]) w)->C)->C
theorem zoV {i:Nat} (h:i<23):i=0∨i=1∨i=2∨i=3∨i=4∨i=5∨i=6∨i=7∨i=8∨i=9∨i=10∨i=11∨i=12∨i=13∨i=14∨i=15∨i=16∨i=17∨i=18∨i=19∨i=20∨i=21∨i=22:=by omega
set_option maxHeartbeats 12800000 in
theorem zpN (w0 w:Xe) (sb:Nat) (a:Xc) (c:Nat) (l:List PlV) (F:Xb) (h:StB w0 w sb a c l F) (hl:l.length<=99999) (hal:∀p∈l,p.attrs.length<=100) (o:OpV) (k1 k2 k3:Xc) (d1 d2 d3:Nat) (h1:Ints w0 (.slice k1 o.key.length d1) o.key) (h2:Byt w0 (.slice k2 o.name.length d2) o.name) (h3:Byt w0 (.slice k3 o.text.length d3) o.text) :
  Calls Tryz.prog 78 #[.pointer (some ⟨sb,0,none⟩),.agg #[.int .i64 o.kind,.int .i64 o.atN,.int .i64 o.atR,.int .i64 o.nodeN,.int .i64 o.nodeR,.int .i64 o.parN,.int .i64 o.parR,.slice k1 o.key.length d1,.int .i64 o.elem,.slice k2 o.name.length d2,.slice k3 o.text.length d3,.bool o.gone]] w fun e w'=>(∃v,e=.returned v)∧DoR w0 w sb F (doV l o) w':=by
 have hA:Below w.heap.size w (w.alloc (.cells #[.int .i64 o.kind,.int .i64 o.atN,.int .i64 o.atR,.int .i64 o.nodeN,.int .i64 o.nodeR,.int .i64 o.parN,.int .i64 o.parR,.slice k1 o.key.length d1,.int .i64 o.elem,.slice k2 o.name.length d2,.slice k3 o.text.length d3,.bool o.gone] 83)):=(Below.refl _ _).alloc (Nat.le_refl _) _
 have lo:=Loc.made w #[.int .i64 o.kind,.int .i64 o.atN,.int .i64 o.atR,.int .i64 o.nodeN,.int .i64 o.nodeR,.int .i64 o.parN,.int .i64 o.parR,.slice k1 o.key.length d1,.int .i64 o.elem,.slice k2 o.name.length d2,.slice k3 o.text.length d3,.bool o.gone] 83
 have LL:=hide (And.intro hA lo)
 have HST:=hide h
 obtain⟨M,hM⟩:∃M,M=doV l o:=⟨_,rfl⟩
 rw [<-hM]
 have HM:=hide hM
 clear hA lo h hM
 go_enter Tryz.func78,Tryz.ntmps78
 go_wp2_with fail
 obtain⟨hA,lo⟩:=zaa LL
 clear LL
 have hob:∀q∈F,q≠w.heap.size:=fun q hq=>by have:=((zaa HST).2.2.2.1 q hq).2.1;omega
 have hos:sb≠w.heap.size:=by have:=(zaa HST).1.lt;omega
 generalize (w.alloc (.cells #[.int .i64 o.kind,.int .i64 o.atN,.int .i64 o.atR,.int .i64 o.nodeN,.int .i64 o.nodeR,.int .i64 o.parN,.int .i64 o.parR,.slice k1 o.key.length d1,.int .i64 o.elem,.slice k2 o.name.length d2,.slice k3 o.text.length d3,.bool o.gone] 83))=w1 at *
 refine (zdP w0 w1 sb a c l F (o.nodeN,o.nodeR) ((zaa HST).keep hA) (by omega)).mono ?_
 rintro e w2 ⟨rfl,hb2⟩
 have hs:=(zaa HST).keep (zad hA hb2)
 have HBW:=hide (Frm.ofBelow (zad hA hb2) (sb::F))
 replace lo:=lo.all hb2
 clear HST hA hb2
 obtain⟨ob,hob'⟩:∃ob,ob=w.heap.size:=⟨_,rfl⟩
 rw [<-hob']at hob hos lo ⊢
 clear hob'
 have HX:=hide (And.intro hs lo)
 have y0:w2.cell? ⟨sb,0,none⟩=some (.slice a l.length c):=hs.1.cell 0
 have o0:w2.cell? ⟨ob,0,none⟩=some (.int .i64 o.kind):=lo.cell 0
 have o1:w2.cell? ⟨ob,1,none⟩=some (.int .i64 o.atN):=lo.cell 1
 have o2:w2.cell? ⟨ob,2,none⟩=some (.int .i64 o.atR):=lo.cell 2
 have o3:w2.cell? ⟨ob,3,none⟩=some (.int .i64 o.nodeN):=lo.cell 3
 have o4:w2.cell? ⟨ob,4,none⟩=some (.int .i64 o.nodeR):=lo.cell 4
 have o5:w2.cell? ⟨ob,5,none⟩=some (.int .i64 o.parN):=lo.cell 5
 have o6:w2.cell? ⟨ob,6,none⟩=some (.int .i64 o.parR):=lo.cell 6
 have o7:w2.cell? ⟨ob,7,none⟩=some (.slice k1 o.key.length d1):=lo.cell 7
 have o8:w2.cell? ⟨ob,8,none⟩=some (.int .i64 o.elem):=lo.cell 8
 have o9:w2.cell? ⟨ob,9,none⟩=some (.slice k2 o.name.length d2):=lo.cell 9
 have o10:w2.cell? ⟨ob,10,none⟩=some (.slice k3 o.text.length d3):=lo.cell 10
 have o11:w2.cell? ⟨ob,11,none⟩=some (.bool o.gone):=lo.cell 11
 clear hs lo
 by_cases e0:o.kind=0
 ·have d0:(o.kind == 0)=true:=by simpa using e0
  replace hM:M=if zae l o.par then l++[newP o] else l:=by rw [zaa HM];unfold doV;rw [if_pos e0]
  clear HM e0
  have HM:=hide hM
  clear hM
  go_wp2_with fail
  refine (zdP w0 w2 sb a c l F (o.parN,o.parR) (zaa HX).1 (by omega)).mono ?_
  rintro e w3 ⟨rfl,hb3⟩
  obtain⟨hs,lo⟩:=zaa HX
  replace HBW:=hide ((zaa HBW).more9 (Frm.ofBelow hb3 []) (fun q hq=>by cases hq))
  replace hs:=hs.keep hb3
  replace lo:=lo.all hb3
  clear HX hb3 y0 o0 o1 o2 o3 o4 o5 o6 o7 o8 o9 o10 o11
  generalize hfi:zaW l (o.parN,o.parR)=fi
  have HX:=hide (And.intro hs (And.intro lo hfi.symm))
  clear hs lo hfi
  go_wp2_with fail
  refine (zgJ w0 w3 sb a c l F (o.parN,o.parR) (zaa HX).1 (by omega) fi (zaa HX).2.2).mono ?_
  rintro e w4 ⟨rfl,hw4⟩
  subst w4
  cases ht:zae l (o.parN,o.parR)with
  | false=>
   have HE:=hide (show DoR w0 w sb F M w3 from DoR.of (F':=F) (f:=zaa HBW) (hF:=fun q hq=>.inl hq) (zaa HX).1 (by rw [zaa HM,if_neg (by show ¬ zae l (o.parN,o.parR)=true;rw [ht];simp)]))
   clear ht HM
   go_wp2_with fail
   go_end0
   exact⟨⟨_,rfl⟩,zaa HE⟩
  | true=>
   replace HM:=hide (show M=l++[newP o] by rw [zaa HM,if_pos (show zae l o.par=true from ht)])
   clear ht
   go_upto_region 7 with fail
   obtain⟨hs,lo,_⟩:=zaa HX
   have hdr:Below w3.heap.size w3 w3.drew:=(Below.refl _ _).drew
   replace hs:=hs.keep hdr
   replace lo:=lo.all hdr
   clear HX
   obtain⟨i0,hi0,hz0,hz1,hz2⟩:=info_parts zeg
   have h1_:=h1
   have h2_:=h2
   have h3_:=h3
   clear h1 h2 h3
   refine zbT (by kernel_rfl) (Dn7 w0 w3 sb ob a c l F o k1 k2 k3 d1 d2 d3 (.agg #[.int .i64 o.kind,.int .i64 o.atN,.int .i64 o.atR,.int .i64 o.nodeN,.int .i64 o.nodeR,.int .i64 o.parN,.int .i64 o.parR,.slice k1 o.key.length d1,.int .i64 o.elem,.slice k2 o.name.length d2,.slice k3 o.text.length d3,.bool o.gone]) (undef) (.int .i64 (zaW l (o.nodeN,o.nodeR))) (.pointer (some ⟨sb,0,none⟩)) (.pointer (some ⟨ob,3,none⟩)) (.agg #[.int .i64 o.nodeN,.int .i64 o.nodeR]) (.int .i64 (zaW l (o.nodeN,o.nodeR))) (.pointer (some ⟨ob,0,none⟩)) (.int .i64 o.kind) (undef) (undef) (undef) (undef) (undef) (undef) (undef) (undef) (undef) (undef) (undef) (undef) (undef) (undef) (undef) (undef) (undef) (undef) (undef) (undef) (undef) (undef) (undef) (undef) (undef) (.bool true) (.bool true) (.pointer (some ⟨sb,0,none⟩)) (.pointer (some ⟨sb,0,none⟩)) (.pointer (some ⟨ob,5,none⟩)) (.agg #[.int .i64 o.parN,.int .i64 o.parR]) (.int .i64 fi) (.bool true) (undef) (undef) (undef) (undef) (undef) (undef) (undef) (undef) (undef) (undef) (undef) (undef) (undef) (undef) (undef) (undef) (undef) (undef) (undef) (undef) (undef) (undef) (undef) (undef) (undef) (undef) (undef) (undef) (undef) (undef) (undef) (undef) (undef) (undef) (undef) (undef) (undef) (undef) (undef) (undef) (undef) (undef) (undef) (undef) (undef) (undef) (undef) (undef) (undef) (undef) (undef) (undef) (undef) (undef) (undef) (undef) (undef) (undef) (undef) (undef) (undef) (undef) (undef)) ?sz ?h0 ?step ?dn
   case sz=>
    intro L a w hI
    refine hI _ ?_
    intro b0 b1 b2 b3 b4 b5 b6 b7 b8 b9 b10 b11 b12 b13 b14 b15 b16 b17 b18 b19 b20 b21 b22 x44 x45 x46 x47 x48 x49 x50 x51 x52 x53 x54 x55 x56 x57 x58 x59 x60 x61 x62 x63 x64 x65 eL eA h0 h1 h2 h3 f0 f1 f2 f3 f4 f5 f6 f7 f8 f9 f10 f11 f12 f13 f14 f15 f16 f17 f18 f19 f20 f21 f22
    subst eL
    rfl
   case h0=>
    exact fun _ k_=>k_ false false false false false false false false false false false false false false false false false false false false false false false _ _ _ _ _ _ _ _ _ _ _ _ _ _ _ _ _ _ _ _ _ _ rfl rfl lo (Nat.le_refl _) (fun _=>hs) (Frm.ofBelow hdr _) (fun h=>by cases h) (fun h=>by cases h) (fun h=>by cases h) (fun h=>by cases h) (fun h=>by cases h) (fun h=>by cases h) (fun h=>by cases h) (fun h=>by cases h) (fun h=>by cases h) (fun h=>by cases h) (fun h=>by cases h) (fun h=>by cases h) (fun h=>by cases h) (fun h=>by cases h) (fun h=>by cases h) (fun h=>by cases h) (fun h=>by cases h) (fun h=>by cases h) (fun h=>by cases h) (fun h=>by cases h) (fun h=>by cases h) (fun h=>by cases h) (fun h=>by cases h)
   case step=>
    clear hs lo
    intro L a_ w i o_ hI hi ho
    refine hI _ ?_
    clear hI
    intro b0 b1 b2 b3 b4 b5 b6 b7 b8 b9 b10 b11 b12 b13 b14 b15 b16 b17 b18 b19 b20 b21 b22 x44 x45 x46 x47 x48 x49 x50 x51 x52 x53 x54 x55 x56 x57 x58 x59 x60 x61 x62 x63 x64 x65 eL eA h0 h1 h2 h3 f0 f1 f2 f3 f4 f5 f6 f7 f8 f9 f10 f11 f12 f13 f14 f15 f16 f17 f18 f19 f20 f21 f22
    subst eL eA
    rcases zoV (zcs hi)with rfl | rfl | rfl | rfl | rfl | rfl | rfl | rfl | rfl | rfl | rfl | rfl | rfl | rfl | rfl | rfl | rfl | rfl | rfl | rfl | rfl | rfl | rfl
    ·obtain rfl:=Option.some.inj ho
     go_simp
     exact fun _ k_=>k_ true b1 b2 b3 b4 b5 b6 b7 b8 b9 b10 b11 b12 b13 b14 b15 b16 b17 b18 b19 b20 b21 b22 _ x45 x46 x47 x48 x49 x50 x51 x52 x53 x54 x55 x56 x57 x58 x59 x60 x61 x62 x63 x64 x65 rfl rfl h0 h1 h2 h3 (fun _=>rfl) f1 f2 f3 f4 f5 f6 f7 f8 f9 f10 f11 f12 f13 f14 f15 f16 f17 f18 f19 f20 f21 f22
    ·obtain rfl:=Option.some.inj ho
     go_simp
     exact fun _ k_=>k_ b0 true b2 b3 b4 b5 b6 b7 b8 b9 b10 b11 b12 b13 b14 b15 b16 b17 b18 b19 b20 b21 b22 x44 _ x46 x47 x48 x49 x50 x51 x52 x53 x54 x55 x56 x57 x58 x59 x60 x61 x62 x63 x64 x65 rfl rfl h0 h1 h2 h3 f0 (fun _=>rfl) f2 f3 f4 f5 f6 f7 f8 f9 f10 f11 f12 f13 f14 f15 f16 f17 f18 f19 f20 f21 f22
    ·have g1:=zac hi ho 1
     obtain rfl:=Option.some.inj ho
     have e1:=f1 (g1 (by kernel_rfl))
     subst e1
     go_simp
     exact fun _ k_=>k_ b0 b1 true b3 b4 b5 b6 b7 b8 b9 b10 b11 b12 b13 b14 b15 b16 b17 b18 b19 b20 b21 b22 x44 _ _ x47 x48 x49 x50 x51 x52 x53 x54 x55 x56 x57 x58 x59 x60 x61 x62 x63 x64 x65 rfl rfl h0 h1 h2 h3 f0 f1 (fun _=>rfl) f3 f4 f5 f6 f7 f8 f9 f10 f11 f12 f13 f14 f15 f16 f17 f18 f19 f20 f21 f22
    ·have g2:=zac hi ho 2
     obtain rfl:=Option.some.inj ho
     have e2:=f2 (g2 (by kernel_rfl))
     subst e2
     go_simp
     exact fun _ k_=>k_ b0 b1 b2 true b4 b5 b6 b7 b8 b9 b10 b11 b12 b13 b14 b15 b16 b17 b18 b19 b20 b21 b22 x44 x45 _ _ x48 x49 x50 x51 x52 x53 x54 x55 x56 x57 x58 x59 x60 x61 x62 x63 x64 x65 rfl rfl h0 h1 h2 h3 f0 f1 f2 (fun _=>rfl) f4 f5 f6 f7 f8 f9 f10 f11 f12 f13 f14 f15 f16 f17 f18 f19 f20 f21 f22
    ·have g3:=zac hi ho 3
     obtain rfl:=Option.some.inj ho
     have e3:=f3 (g3 (by kernel_rfl))
     subst e3
     have hbz:b4=false:=by simpa using zai rfl hi
     have cs:=(h2 (by cases hb:b19 with
      | false=>rfl
      | true=>have:=(f19 hb).1;rw [hbz]at this;cases this)).1.cell 0
     clear hbz
     go_simp
     exact fun _ k_=>k_ b0 b1 b2 b3 true b5 b6 b7 b8 b9 b10 b11 b12 b13 b14 b15 b16 b17 b18 b19 b20 b21 b22 x44 x45 x46 _ _ x49 x50 x51 x52 x53 x54 x55 x56 x57 x58 x59 x60 x61 x62 x63 x64 x65 rfl rfl h0 h1 h2 h3 f0 f1 f2 f3 (fun _=>rfl) f5 f6 f7 f8 f9 f10 f11 f12 f13 f14 f15 f16 f17 f18 (fun h=>⟨rfl,(f19 h).2⟩) f20 f21 f22
    ·obtain rfl:=Option.some.inj ho
     go_simp
     exact fun _ k_=>k_ b0 b1 b2 b3 b4 true b6 b7 b8 b9 b10 b11 b12 b13 b14 b15 b16 b17 b18 b19 b20 b21 b22 x44 x45 x46 x47 x48 _ x50 x51 x52 x53 x54 x55 x56 x57 x58 x59 x60 x61 x62 x63 x64 x65 rfl rfl h0 h1 h2 h3 f0 f1 f2 f3 f4 (fun _=>rfl) f6 f7 f8 f9 f10 f11 f12 f13 f14 f15 f16 f17 f18 f19 f20 f21 f22
    ·have g5:=zac hi ho 5
     obtain rfl:=Option.some.inj ho
     have e5:=f5 (g5 (by kernel_rfl))
     subst e5
     have c1:=h0.cell 1
     have c2:=h0.cell 2
     go_simp
     exact fun _ k_=>k_ b0 b1 b2 b3 b4 b5 true b7 b8 b9 b10 b11 b12 b13 b14 b15 b16 b17 b18 b19 b20 b21 b22 x44 x45 x46 x47 x48 _ _ x51 x52 x53 x54 x55 x56 x57 x58 x59 x60 x61 x62 x63 x64 x65 rfl rfl h0 h1 h2 h3 f0 f1 f2 f3 f4 f5 (fun _=>rfl) f7 f8 f9 f10 f11 f12 f13 f14 f15 f16 f17 f18 f19 f20 f21 f22
    ·obtain rfl:=Option.some.inj ho
     go_simp
     exact fun _ k_=>k_ b0 b1 b2 b3 b4 b5 b6 true b8 b9 b10 b11 b12 b13 b14 b15 b16 b17 b18 b19 b20 b21 b22 x44 x45 x46 x47 x48 x49 x50 _ x52 x53 x54 x55 x56 x57 x58 x59 x60 x61 x62 x63 x64 x65 rfl rfl h0 h1 h2 h3 f0 f1 f2 f3 f4 f5 f6 (fun _=>rfl) f8 f9 f10 f11 f12 f13 f14 f15 f16 f17 f18 f19 f20 f21 f22
    ·have g7:=zac hi ho 7
     obtain rfl:=Option.some.inj ho
     have e7:=f7 (g7 (by kernel_rfl))
     subst e7
     have c5:=h0.cell 5
     have c6:=h0.cell 6
     go_simp
     exact fun _ k_=>k_ b0 b1 b2 b3 b4 b5 b6 b7 true b9 b10 b11 b12 b13 b14 b15 b16 b17 b18 b19 b20 b21 b22 x44 x45 x46 x47 x48 x49 x50 _ _ x53 x54 x55 x56 x57 x58 x59 x60 x61 x62 x63 x64 x65 rfl rfl h0 h1 h2 h3 f0 f1 f2 f3 f4 f5 f6 f7 (fun _=>rfl) f9 f10 f11 f12 f13 f14 f15 f16 f17 f18 f19 f20 f21 f22
    ·obtain rfl:=Option.some.inj ho
     go_simp
     exact fun _ k_=>k_ b0 b1 b2 b3 b4 b5 b6 b7 b8 true b10 b11 b12 b13 b14 b15 b16 b17 b18 b19 b20 b21 b22 x44 x45 x46 x47 x48 x49 x50 x51 x52 _ x54 x55 x56 x57 x58 x59 x60 x61 x62 x63 x64 x65 rfl rfl h0 h1 h2 h3 f0 f1 f2 f3 f4 f5 f6 f7 f8 (fun _=>rfl) f10 f11 f12 f13 f14 f15 f16 f17 f18 f19 f20 f21 f22
    ·have g9:=zac hi ho 9
     obtain rfl:=Option.some.inj ho
     have e9:=f9 (g9 (by kernel_rfl))
     subst e9
     have c7:=h0.cell 7
     go_simp
     exact fun _ k_=>k_ b0 b1 b2 b3 b4 b5 b6 b7 b8 b9 true b11 b12 b13 b14 b15 b16 b17 b18 b19 b20 b21 b22 x44 x45 x46 x47 x48 x49 x50 x51 x52 _ _ x55 x56 x57 x58 x59 x60 x61 x62 x63 x64 x65 rfl rfl h0 h1 h2 h3 f0 f1 f2 f3 f4 f5 f6 f7 f8 f9 (fun _=>rfl) f11 f12 f13 f14 f15 f16 f17 f18 f19 f20 f21 f22
    ·obtain rfl:=Option.some.inj ho
     go_simp
     exact fun _ k_=>k_ b0 b1 b2 b3 b4 b5 b6 b7 b8 b9 b10 true b12 b13 b14 b15 b16 b17 b18 b19 b20 b21 b22 x44 x45 x46 x47 x48 x49 x50 x51 x52 x53 x54 _ x56 x57 x58 x59 x60 x61 x62 x63 x64 x65 rfl rfl h0 h1 h2 h3 f0 f1 f2 f3 f4 f5 f6 f7 f8 f9 f10 (fun _=>rfl) f12 f13 f14 f15 f16 f17 f18 f19 f20 f21 f22
    ·have g11:=zac hi ho 11
     obtain rfl:=Option.some.inj ho
     have e11:=f11 (g11 (by kernel_rfl))
     subst e11
     have c8:=h0.cell 8
     go_simp
     exact fun _ k_=>k_ b0 b1 b2 b3 b4 b5 b6 b7 b8 b9 b10 b11 true b13 b14 b15 b16 b17 b18 b19 b20 b21 b22 x44 x45 x46 x47 x48 x49 x50 x51 x52 x53 x54 _ _ x57 x58 x59 x60 x61 x62 x63 x64 x65 rfl rfl h0 h1 h2 h3 f0 f1 f2 f3 f4 f5 f6 f7 f8 f9 f10 f11 (fun _=>rfl) f13 f14 f15 f16 f17 f18 f19 f20 f21 f22
    ·obtain rfl:=Option.some.inj ho
     go_simp
     exact fun _ k_=>k_ b0 b1 b2 b3 b4 b5 b6 b7 b8 b9 b10 b11 b12 true b14 b15 b16 b17 b18 b19 b20 b21 b22 x44 x45 x46 x47 x48 x49 x50 x51 x52 x53 x54 x55 x56 _ x58 x59 x60 x61 x62 x63 x64 x65 rfl rfl h0 h1 h2 h3 f0 f1 f2 f3 f4 f5 f6 f7 f8 f9 f10 f11 f12 (fun _=>rfl) f14 f15 f16 f17 f18 f19 f20 f21 f22
    ·have g13:=zac hi ho 13
     obtain rfl:=Option.some.inj ho
     have e13:=f13 (g13 (by kernel_rfl))
     subst e13
     have c9:=h0.cell 9
     go_simp
     exact fun _ k_=>k_ b0 b1 b2 b3 b4 b5 b6 b7 b8 b9 b10 b11 b12 b13 true b15 b16 b17 b18 b19 b20 b21 b22 x44 x45 x46 x47 x48 x49 x50 x51 x52 x53 x54 x55 x56 _ _ x59 x60 x61 x62 x63 x64 x65 rfl rfl h0 h1 h2 h3 f0 f1 f2 f3 f4 f5 f6 f7 f8 f9 f10 f11 f12 f13 (fun _=>rfl) f15 f16 f17 f18 f19 f20 f21 f22
    ·obtain rfl:=Option.some.inj ho
     go_simp
     exact fun _ k_=>k_ b0 b1 b2 b3 b4 b5 b6 b7 b8 b9 b10 b11 b12 b13 b14 true b16 b17 b18 b19 b20 b21 b22 x44 x45 x46 x47 x48 x49 x50 x51 x52 x53 x54 x55 x56 x57 x58 _ x60 x61 x62 x63 x64 x65 rfl rfl h0 h1 h2 h3 f0 f1 f2 f3 f4 f5 f6 f7 f8 f9 f10 f11 f12 f13 f14 (fun _=>rfl) f16 f17 f18 f19 f20 f21 f22
    ·have g15:=zac hi ho 15
     obtain rfl:=Option.some.inj ho
     have e15:=f15 (g15 (by kernel_rfl))
     subst e15
     have c10:=h0.cell 10
     go_simp
     exact fun _ k_=>k_ b0 b1 b2 b3 b4 b5 b6 b7 b8 b9 b10 b11 b12 b13 b14 b15 true b17 b18 b19 b20 b21 b22 x44 x45 x46 x47 x48 x49 x50 x51 x52 x53 x54 x55 x56 x57 x58 _ _ x61 x62 x63 x64 x65 rfl rfl h0 h1 h2 h3 f0 f1 f2 f3 f4 f5 f6 f7 f8 f9 f10 f11 f12 f13 f14 f15 (fun _=>rfl) f17 f18 f19 f20 f21 f22
    ·have g6:=zac hi ho 6
     have g8:=zac hi ho 8
     have g10:=zac hi ho 10
     have g12:=zac hi ho 12
     have g14:=zac hi ho 14
     have g16:=zac hi ho 16
     obtain rfl:=Option.some.inj ho
     have e6:=f6 (g6 (by kernel_rfl))
     subst e6
     have e8:=f8 (g8 (by kernel_rfl))
     subst e8
     have e10:=f10 (g10 (by kernel_rfl))
     subst e10
     have e12:=f12 (g12 (by kernel_rfl))
     subst e12
     have e14:=f14 (g14 (by kernel_rfl))
     subst e14
     have e16:=f16 (g16 (by kernel_rfl))
     subst e16
     go_simp
     exact fun _ k_=>k_ b0 b1 b2 b3 b4 b5 b6 b7 b8 b9 b10 b11 b12 b13 b14 b15 b16 true b18 b19 b20 b21 b22 x44 x45 x46 x47 x48 x49 _ x51 _ x53 _ x55 _ x57 _ x59 _ _ x62 x63 x64 x65 rfl rfl h0 h1 h2 h3 f0 f1 f2 f3 f4 f5 f6 f7 f8 f9 f10 f11 f12 f13 f14 f15 f16 (fun _=>rfl) f18 f19 f20 f21 f22
    ·have g17:=zac hi ho 17
     have hbz:b18=false:=by simpa using zai rfl hi
     obtain rfl:=Option.some.inj ho
     have e17:=f17 (g17 (by kernel_rfl))
     subst e17
     have h19:b19=false:=by
      cases hb:b19 with
      | false=>rfl
      | true=>have:=(f19 hb).2.1;rw [hbz]at this;cases this
     have hb9:Below w.heap.size w (w.alloc (.cells #[.int .i64 o.atN,.int .i64 o.atR,.int .i64 o.parN,.int .i64 o.parR,.slice k1 o.key.length d1,.int .i64 o.elem,.slice k2 o.name.length d2,.slice k3 o.text.length d3,.slice none 0 0] 117)):=(Below.refl _ _).alloc (Nat.le_refl _) _
     have lm9:=Loc.made w #[.int .i64 o.atN,.int .i64 o.atR,.int .i64 o.parN,.int .i64 o.parR,.slice k1 o.key.length d1,.int .i64 o.elem,.slice k2 o.name.length d2,.slice k3 o.text.length d3,.slice none 0 0] 117
     have H19:=hide h19
     clear h19 hbz
     go_simp
     exact fun _ k_=>k_ b0 b1 b2 b3 b4 b5 b6 b7 b8 b9 b10 b11 b12 b13 b14 b15 b16 b17 true b19 b20 b21 b22 x44 x45 x46 x47 x48 x49 x50 x51 x52 x53 x54 x55 x56 x57 x58 x59 x60 _ _ x63 x64 x65 rfl rfl (h0.all hb9) (Nat.le_trans h1 hb9.size) (fun h=>(h2 h).keep hb9) (h3.more9 (Frm.ofBelow hb9 []) (fun q hq=>by cases hq)) f0 f1 f2 f3 f4 f5 f6 f7 f8 f9 f10 f11 f12 f13 f14 f15 f16 (fun _=>rfl) (fun _=>⟨w.heap.size,rfl,h1,fun _=>lm9⟩) (fun h=>by rw [zaa H19]at h;cases h) f20 f21 (fun h=>by have:=(f22 h).1;rw [zaa H19]at this;cases this)
    ·have g4:=zac hi ho 4
     have g18:=zac hi ho 18
     have hbz:b19=false:=by simpa using zai rfl hi
     obtain rfl:=Option.some.inj ho
     have t4:b4=true:=g4 (by kernel_rfl)
     have t18:b18=true:=g18 (by kernel_rfl)
     have e4:=f4 t4
     obtain⟨z,ez,hz,lz0⟩:=f18 t18
     have lz:=lz0 hbz
     have hs:=h2 hbz
     subst e4 ez
     refine zbQ (R:=PlF w0) (fun h f d=>PlF.frm h f d) (by rfl) (.tmp 48) (.tmp 62) 56 (by rfl) 117 i0 (.agg #[.int .i64 0,.int .i64 0,.int .i64 0,.int .i64 0,.slice none 0 0,.int .i64 0,.slice none 0 0,.slice none 0 0,.slice none 0 0]) 9 136 Tryz.underlying56 hi0 hz0 hz1 hz2 rfl (by decide) _ l F (by rfl) hs.2.1 hs.2.2.1 ⟨z,0,none⟩ 1 [.int .i64 o.atN,.int .i64 o.atR,.int .i64 o.parN,.int .i64 o.parR,.slice k1 o.key.length d1,.int .i64 o.elem,.slice k2 o.name.length d2,.slice k3 o.text.length d3,.slice none 0 0] (newP o) [] (by rfl) rfl (fun i u hu=>World.news_of_block lz i u (by simpa using hu)) (by intro y hy;simp at hy;rcases hy with rfl | rfl | rfl | rfl | rfl | rfl | rfl | rfl | rfl<;>rfl) (zsG h1_ h2_ h3_) List.nodup_nil (fun g hg hg'=>by cases hg') (fun q hq=>by rcases hq with hq | hq;exact (hs.2.2.2.1 q hq).2.1;cases hq) (by unfold maxLen;omega) (by omega) ?_
     intro g9 cap9 w9 F9 hF9 hN9 hM9 hf9 hg9
     have hvF:∀q∈FB (.slice a l.length c),q∈F:=fun q hq=>PlsF.head hs.2.1 q hq
     have hF9l:=OwElems.lt hF9 (fun C x G h=>PlF.lt h)
     have hAf:AfR w0 w3 w9 sb a c l F o g9 cap9:=⟨F9,hs.1.frm hf9 (fun e=>(hs.2.2.2.1 sb (hvF sb e)).2.2 rfl),hF9,hN9,fun q hq=>⟨by
       rcases hM9 q hq with h | h | h
       ·exact (hs.2.2.2.1 q h).1
       ·cases h
       ·have:=hs.2.2.2.2.2.size;omega,hF9l q hq,by
       rcases hM9 q hq with h | h | h
       ·exact (hs.2.2.2.1 q h).2.2
       ·cases h
       ·have:=hs.1.lt;omega⟩,hs.2.2.2.2.1,hs.2.2.2.2.2.trans (hf9.below hs.2.2.2.2.2.size (fun q hq=>(hs.2.2.2.1 q (hvF q hq)).1)),fun q hq=>by
       rcases hM9 q hq with h | h | h
       ·exact .inl h
       ·cases h
       ·right;have:=h1;omega,h3.more9 hf9 (fun q hq=>.inl (List.mem_cons_of_mem _ (hvF q hq)))⟩
     exact fun _ k_=>k_ b0 b1 b2 b3 b4 b5 b6 b7 b8 b9 b10 b11 b12 b13 b14 b15 b16 b17 b18 true b20 b21 b22 x44 x45 x46 x47 _ x49 x50 x51 x52 x53 x54 x55 x56 x57 x58 x59 x60 x61 _ _ x64 x65 rfl rfl (h0.frm hf9 (fun e=>hob _ (hvF _ e) rfl)) (Nat.le_trans h1 hf9.size) (fun h=>by cases h) (h3.more9 hf9 (fun q hq=>.inl (List.mem_cons_of_mem _ (hvF q hq)))) f0 f1 f2 f3 (fun _=>rfl) f5 f6 f7 f8 f9 f10 f11 f12 f13 f14 f15 f16 f17 (fun _=>⟨z,rfl,hz,fun h=>by cases h⟩) (fun _=>⟨t4,t18,g9,cap9,rfl,fun _=>hAf⟩) f20 f21 (fun h=>by have:=(f22 h).1;rw [hbz]at this;cases this)
    ·have g0:=zac hi ho 0
     obtain rfl:=Option.some.inj ho
     have e0:=f0 (g0 (by kernel_rfl))
     subst e0
     go_simp
     exact fun _ k_=>k_ b0 b1 b2 b3 b4 b5 b6 b7 b8 b9 b10 b11 b12 b13 b14 b15 b16 b17 b18 b19 true b21 b22 _ x45 x46 x47 x48 x49 x50 x51 x52 x53 x54 x55 x56 x57 x58 x59 x60 x61 x62 x63 _ x65 rfl rfl h0 h1 h2 h3 f0 f1 f2 f3 f4 f5 f6 f7 f8 f9 f10 f11 f12 f13 f14 f15 f16 f17 f18 f19 (fun _=>rfl) f21 f22
    ·have g20:=zac hi ho 20
     obtain rfl:=Option.some.inj ho
     have e20:=f20 (g20 (by kernel_rfl))
     subst e20
     go_simp
     exact fun _ k_=>k_ b0 b1 b2 b3 b4 b5 b6 b7 b8 b9 b10 b11 b12 b13 b14 b15 b16 b17 b18 b19 b20 true b22 x44 x45 x46 x47 x48 x49 x50 x51 x52 x53 x54 x55 x56 x57 x58 x59 x60 x61 x62 x63 _ _ rfl rfl h0 h1 h2 h3 f0 f1 f2 f3 f4 f5 f6 f7 f8 f9 f10 f11 f12 f13 f14 f15 f16 f17 f18 f19 f20 (fun _=>rfl) f22
    ·have g19:=zac hi ho 19
     have g21:=zac hi ho 21
     have hbz:b22=false:=by simpa using zai rfl hi
     obtain rfl:=Option.some.inj ho
     have t19:b19=true:=g19 (by kernel_rfl)
     have e21:=f21 (g21 (by kernel_rfl))
     obtain⟨t4,t18,gq,cq,ex,hAf0⟩:=f19 t19
     have hAf:=hAf0 hbz
     subst e21 ex
     have cs:=hAf.choose_spec.1.cell 0
     have fz:=hAf.choose_spec.1.frozen 0
     have hD:=hAf.done
     have hf:=zab w sb 0 (.slice (some ⟨gq,0,none⟩) (l.length+1) cq)
     have hl9:=h0.frm hf (by simp;omega)
     have hs9:=Nat.le_trans h1 hf.size
     have hf39:=h3.more9 hf (fun q hq=>by simp at hq;left;simp [hq])
     have EB:=hide (And.intro t19 (And.intro t4 (And.intro t18 (And.intro hD (And.intro hl9 (And.intro hs9 hf39))))))
     clear t19 t4 t18 hD hl9 hs9 hf39 hbz hAf hAf0 f19
     go_simp
     exact fun _ k_=>k_ b0 b1 b2 b3 b4 b5 b6 b7 b8 b9 b10 b11 b12 b13 b14 b15 b16 b17 b18 b19 b20 b21 true x44 x45 x46 x47 x48 x49 x50 x51 x52 x53 x54 x55 x56 x57 x58 x59 x60 x61 x62 _ x64 _ rfl rfl ((zaa EB).2.2.2.2.1) ((zaa EB).2.2.2.2.2.1) (fun h=>by rw [(zaa EB).1]at h;cases h) ((zaa EB).2.2.2.2.2.2) f0 f1 f2 f3 f4 f5 f6 f7 f8 f9 f10 f11 f12 f13 f14 f15 f16 f17 (fun h=>by obtain⟨z,e,hz,_⟩:=f18 h;exact⟨z,e,hz,fun ha=>by rw [(zaa EB).1]at ha;cases ha⟩) (fun _=>⟨(zaa EB).2.1,(zaa EB).2.2.1,gq,cq,rfl,fun h=>by cases h⟩) f20 (fun _=>rfl) (fun _=>⟨(zaa EB).1,(zaa EB).2.2.2.1⟩)
   case dn=>
    intro L a_ w4 hI hre
    have hall:=zbF (L:=L) (by refine hI _ ?_;intro b0 b1 b2 b3 b4 b5 b6 b7 b8 b9 b10 b11 b12 b13 b14 b15 b16 b17 b18 b19 b20 b21 b22 x44 x45 x46 x47 x48 x49 x50 x51 x52 x53 x54 x55 x56 x57 x58 x59 x60 x61 x62 x63 x64 x65 eL eA h0 h1 h2 h3 f0 f1 f2 f3 f4 f5 f6 f7 f8 f9 f10 f11 f12 f13 f14 f15 f16 f17 f18 f19 f20 f21 f22;subst eL;rfl) (by kernel_rfl) hre 23
    refine hI _ ?_
    clear hI hs lo
    intro b0 b1 b2 b3 b4 b5 b6 b7 b8 b9 b10 b11 b12 b13 b14 b15 b16 b17 b18 b19 b20 b21 b22 x44 x45 x46 x47 x48 x49 x50 x51 x52 x53 x54 x55 x56 x57 x58 x59 x60 x61 x62 x63 x64 x65 eL eA h0 h1 h2 h3 f0 f1 f2 f3 f4 f5 f6 f7 f8 f9 f10 f11 f12 f13 f14 f15 f16 f17 f18 f19 f20 f21 f22
    subst eL eA
    have hD:=(f22 (hall 22 (by omega) (by decide))).2
    have HE:=hide (show DoR w0 w sb F M w4 from by
     obtain⟨a9,c9,F9,q1,q2,q3⟩:=hD
     exact⟨a9,c9,F9,by rw [zaa HM];exact q1,(zaa HBW).more9 q2 (fun q hq=>.inl hq),fun q hq=>(q3 q hq).imp id (fun h=>Nat.le_trans (zaa HBW).size h)⟩)
    clear f0 f1 f2 f3 f4 f5 f6 f7 f8 f9 f10 f11 f12 f13 f14 f15 f16 f17 f18 f19 f20 f21 f22 h0 h1 h2 h3 hD hall hre
    go_wp2_with fail
    go_end0
    exact⟨⟨_,rfl⟩,zaa HE⟩
 ·have d0:(o.kind == 0)=false:=by simpa using e0
  by_cases e1:o.kind=1
  ·have d1':(o.kind == 1)=true:=by simpa using e1
   have HD:=zrw (l:=l) e0 e1
   have hM:=zaa HM
   clear HM e0 e1
   cases hp:posP l (o.nodeN,o.nodeR)with
   | none=>
    rw [HD.1 hp]at hM
    clear HD
    have hfi:zaW l (o.nodeN,o.nodeR) = -1:=by simp [zaW,hp]
    rw [hfi]
    have HE:=hide (show DoR w0 w sb F M w2 from DoR.of (zaa HX).1 hM (zaa HBW) (fun q hq=>.inl hq))
    clear hM hfi hp HX
    go_wp2_with fail
    go_end0
    exact⟨⟨_,rfl⟩,zaa HE⟩
   | some k=>
    have hfi:zaW l (o.nodeN,o.nodeR)=(k:Int):=by simp [zaW,hp]
    rw [hfi]
    obtain⟨p,hk,_⟩:=zbp hp
    have hkl:k<l.length:=(List.getElem?_eq_some_iff.1 hk).1
    have hkl':(k:Int)<(l.length:Int):=by omega
    have hk0:(0:Int)<=(k:Int):=by omega
    rw [HD.2 k p hp hk]at hM
    clear HD
    obtain⟨b,kk,ck,n,cn,t,ct,qa,qc,rfl,hbF,_,_,_,_,_,z5,_,z7,_,_,_,hfz⟩:=(zaa HX).1.cells hk
    have hfl:¬ (-1:Int)=0:=by decide
    by_cases hk2:2<=k
    ·have hk2':(2:Int)<=(k:Int):=by omega
     have HM:=hide (show M=if (zae l (o.parN,o.parR) && !zaz l (l.length+1) (o.parN,o.parR) (o.nodeN,o.nodeR))=true then l.set k (zdz o p) else l by
      rw [hM];unfold zcb;rw [decide_eq_true hk2,Bool.true_and];rfl)
     have HK:=hide (And.intro hk hbF)
     clear hM hfi hp hk hk2 hfz z5 z7
     go_wp2_with fail
     refine (zdP w0 w2 sb _ c l F (o.parN,o.parR) (zaa HX).1 (by omega)).mono ?_
     rintro e w3 ⟨rfl,hb3⟩
     obtain⟨hs,lo⟩:=zaa HX
     replace HBW:=hide ((zaa HBW).more9 (Frm.ofBelow hb3 []) (fun q hq=>by cases hq))
     replace hs:=hs.keep hb3
     replace lo:=lo.all hb3
     have v2:w3.cell? ⟨ob,5,none⟩=some (.int .i64 o.parN):=lo.cell 5
     have v3:w3.cell? ⟨ob,6,none⟩=some (.int .i64 o.parR):=lo.cell 6
     have v4:w3.cell? ⟨ob,3,none⟩=some (.int .i64 o.nodeN):=lo.cell 3
     have v5:w3.cell? ⟨ob,4,none⟩=some (.int .i64 o.nodeR):=lo.cell 4
     clear HX hb3 y0 o0 o1 o2 o3 o4 o5 o6 o7 o8 o9 o10 o11
     generalize hfi:zaW l (o.parN,o.parR)=fi
     have HX:=hide (And.intro hs (And.intro lo hfi.symm))
     clear hs lo hfi
     go_wp2_with fail
     refine (zgJ w0 w3 sb _ c l F (o.parN,o.parR) (zaa HX).1 (by omega) fi (zaa HX).2.2).mono ?_
     rintro e w4 ⟨rfl,hw4⟩
     subst w4
     cases ht:zae l (o.parN,o.parR)with
     | false=>
      have HE:=hide (show DoR w0 w sb F M w3 from DoR.of (F':=F) (f:=zaa HBW) (hF:=fun q hq=>.inl hq) (zaa HX).1 (by rw [zaa HM,ht];rfl))
      clear ht HM
      go_wp2_with fail
      go_end0
      exact⟨⟨_,rfl⟩,zaa HE⟩
     | true=>
      replace HM:=hide (show M=if (!zaz l (l.length+1) (o.parN,o.parR) (o.nodeN,o.nodeR))=true then l.set k (zdz o p) else l by rw [zaa HM,ht,Bool.true_and])
      clear ht
      go_wp2_with fail
      refine (zli w0 w3 sb _ c l F (o.parN,o.parR) (o.nodeN,o.nodeR) (zaa HX).1 (by omega)).mono ?_
      rintro e w4 ⟨rfl,hb4⟩
      obtain⟨hs,lo,_⟩:=zaa HX
      replace HBW:=hide ((zaa HBW).more9 (Frm.ofBelow hb4 []) (fun q hq=>by cases hq))
      replace hs:=hs.keep hb4
      replace lo:=lo.all hb4
      clear HX hb4 v2 v3 v4 v5
      cases hu:zaz l (l.length+1) (o.parN,o.parR) (o.nodeN,o.nodeR)with
      | true=>
       have HE:=hide (show DoR w0 w sb F M w4 from DoR.of (F':=F) (f:=zaa HBW) (hF:=fun q hq=>.inl hq) hs (by rw [zaa HM,hu];rfl))
       clear hu HM hs lo
       go_wp2_with fail
       go_end0
       exact⟨⟨_,rfl⟩,zaa HE⟩
      | false=>
       replace HM:=hide (show M=l.set k (zdz o p) by rw [zaa HM,hu];rfl)
       have o5:w4.cell? ⟨ob,5,none⟩=some (.int .i64 o.parN):=lo.cell 5
       have o6:w4.cell? ⟨ob,6,none⟩=some (.int .i64 o.parR):=lo.cell 6
       have y0:w4.cell? ⟨sb,0,none⟩=some (.slice (some ⟨b,0,none⟩) l.length c):=hs.1.cell 0
       obtain⟨b',_,_,_,_,_,_,_,_,eb,_,_,_,z2,z3,_,_,_,_,_,_,_,hfz⟩:=hs.cells (zaa HK).1
       injection eb with eb
       injection eb with eb _ _
       subst eb
       have f2:=hfz (k*9+2)
       have f3:=hfz (k*9+3)
       have hbo:b≠ob:=hob b (zaa HK).2
       have HX:=hide (And.intro hs lo)
       clear hu hs lo hfz
       go_wp2_with fail
       go_region
       obtain⟨hs,lo⟩:=zaa HX
       obtain⟨⟨F',hst,hF'⟩,hf⟩:=hs.par (zaa HK).1 o.parN o.parR
       replace hst:=hst.keep ((Below.refl _ _).drew)
       replace HBW:=hide (((zaa HBW).more9 hf (fun q hq=>by simp at hq;subst hq;exact .inl (List.mem_cons_of_mem _ (zaa HK).2))).more9 (Frm.ofBelow ((Below.refl _ _).drew) []) (fun q hq=>by cases hq))
       replace lo:=(lo.frm hf (by simp;omega)).all ((Below.refl _ _).drew)
       clear HX hs hf y0 z2 z3 f2 f3 o5 o6
       generalize (((w4.setCell ⟨b,k*9+2,none⟩ (.int .i64 o.parN)).setCell ⟨b,k*9+3,none⟩ (.int .i64 o.parR)).drew)=w5 at *
       have y0:w5.cell? ⟨sb,0,none⟩=some (.slice (some ⟨b,0,none⟩) l.length c):=by have:=hst.1.cell 0;rw [List.length_set]at this;exact this
       have o7:w5.cell? ⟨ob,7,none⟩=some (.slice k1 o.key.length d1):=lo.cell 7
       have hk5:(l.set k { p with parN:=o.parN,parR:=o.parR })[k]? = some { p with parN:=o.parN,parR:=o.parR }:=by simp [hkl]
       obtain⟨b',_,_,_,_,_,_,_,_,eb,_,_,_,_,_,z4,_,_,_,_,_,_,hfz⟩:=hst.cells hk5
       injection eb with eb
       injection eb with eb _ _
       subst eb
       have f4:=hfz (k*9+4)
       obtain⟨⟨F2,hst2,hF2⟩,hf2⟩:=hst.key hk5 h1
       have hfw:=((zaa HBW).more9 hf2 (fun q hq=>by simp at hq;subst hq;exact .inl (List.mem_cons_of_mem _ (zaa HK).2))).more9 (Frm.ofBelow ((Below.refl _ _).drew) []) (fun q hq=>by cases hq)
       replace hst2:=hst2.keep ((Below.refl _ _).drew)
       have HE:=hide (show DoR w0 w sb F M _ from DoR.of hst2 (by rw [zaa HM,List.set_set];rfl) hfw (fun q hq=>.inl (hF' q (hF2 q hq))))
       clear hfw hf2 hF2 hst2 hst lo hfz hk5 HM HK hF'
       go_wp2_with fail
       go_region
       go_wp2_with fail
       go_end0
       exact⟨⟨_,rfl⟩,zaa HE⟩
    ·have hk2':¬ (2:Int)<=(k:Int):=by omega
     have hM':M=l:=by rw [hM];unfold zcb;rw [decide_eq_false hk2];rfl
     have HE:=hide (show DoR w0 w sb F M w2 from DoR.of (zaa HX).1 hM' (zaa HBW) (fun q hq=>.inl hq))
     clear hM hM' hfi hp HX hk hk2 hfz
     go_wp2_with fail
     go_end0
     exact⟨⟨_,rfl⟩,zaa HE⟩
  ·have d1':(o.kind == 1)=false:=by simpa using e1
   by_cases e2:o.kind=2
   ·have d2':(o.kind == 2)=true:=by simpa using e2
    have HD:=zsu (l:=l) e0 e1 e2
    have hM:=zaa HM
    clear HM e0 e1 e2
    cases hp:posP l (o.nodeN,o.nodeR)with
    | none=>
     rw [HD.1 hp]at hM
     clear HD
     have hfi:zaW l (o.nodeN,o.nodeR) = -1:=by simp [zaW,hp]
     rw [hfi]
     have HE:=hide (show DoR w0 w sb F M w2 from DoR.of (zaa HX).1 hM (zaa HBW) (fun q hq=>.inl hq))
     clear hM hfi hp HX
     go_wp2_with fail
     go_end0
     exact⟨⟨_,rfl⟩,zaa HE⟩
    | some k=>
     have hfi:zaW l (o.nodeN,o.nodeR)=(k:Int):=by simp [zaW,hp]
     rw [hfi]
     obtain⟨p,hk,_⟩:=zbp hp
     have hkl:k<l.length:=(List.getElem?_eq_some_iff.1 hk).1
     have hkl':(k:Int)<(l.length:Int):=by omega
     have hk0:(0:Int)<=(k:Int):=by omega
     rw [HD.2 k p hp hk]at hM
     clear HD
     obtain⟨b,kk,ck,n,cn,t,ct,qa,qc,rfl,hbF,_,_,_,_,_,z5,_,z7,_,_,_,hfz⟩:=(zaa HX).1.cells hk
     have f7:=hfz (k*9+7)
     by_cases hk2:2<=k
     ·have hk2':(2:Int)<=(k:Int):=by omega
      by_cases e5:p.kind=1
      ·have d5:(p.kind == 1)=true:=by simpa using e5
       rw [if_pos ⟨hk2,e5⟩]at hM
       obtain⟨⟨F',hst,hFt⟩,hft⟩:=(zaa HX).1.text hk h3
       have hfw:=((zaa HBW).more9 hft (fun q hq=>by simp at hq;subst hq;exact .inl (List.mem_cons_of_mem _ hbF))).more9 (Frm.ofBelow ((Below.refl _ _).drew) []) (fun q hq=>by cases hq)
       replace hst:=hst.keep ((Below.refl _ _).drew)
       have HE:=hide (show DoR w0 w sb F M _ from DoR.of hst hM hfw (fun q hq=>.inl (hFt q hq)))
       clear hM hfi hp HX hst hk hk2 e5 hfz hfw hft hFt
       have dk:=decide_eq_true hkl'
       have dk0:=decide_eq_true hk0
       go_wp2_with fail
       go_region
       go_wp2_with fail
       go_end0
       exact⟨⟨_,rfl⟩,zaa HE⟩
      ·have d5:(p.kind == 1)=false:=by simpa using e5
       rw [if_neg (fun h=>e5 h.2)]at hM
       have HE:=hide (show DoR w0 w sb F M w2 from DoR.of (zaa HX).1 hM (zaa HBW) (fun q hq=>.inl hq))
       clear hM hfi hp HX hk hk2 e5 hfz
       go_wp2_with fail
       go_end0
       exact⟨⟨_,rfl⟩,zaa HE⟩
     ·have hk2':¬ (2:Int)<=(k:Int):=by omega
      rw [if_neg (fun h=>hk2 h.1)]at hM
      have HE:=hide (show DoR w0 w sb F M w2 from DoR.of (zaa HX).1 hM (zaa HBW) (fun q hq=>.inl hq))
      clear hM hfi hp HX hk hk2 hfz
      go_wp2_with fail
      go_end0
      exact⟨⟨_,rfl⟩,zaa HE⟩
   ·have d2':(o.kind == 2)=false:=by simpa using e2
    have HD:=zrq (l:=l) e0 e1 e2
    have hM:=zaa HM
    clear HM e0 e1 e2
    cases hp:posP l (o.nodeN,o.nodeR)with
    | none=>
     rw [HD.1 hp]at hM
     clear HD
     have hfi:zaW l (o.nodeN,o.nodeR) = -1:=by simp [zaW,hp]
     rw [hfi]
     have HE:=hide (show DoR w0 w sb F M w2 from DoR.of (zaa HX).1 hM (zaa HBW) (fun q hq=>.inl hq))
     clear hM hfi hp HX
     go_wp2_with fail
     go_end0
     exact⟨⟨_,rfl⟩,zaa HE⟩
    | some k=>
     have hfi:zaW l (o.nodeN,o.nodeR)=(k:Int):=by simp [zaW,hp]
     rw [hfi]
     obtain⟨p,hk,_⟩:=zbp hp
     have hkl:k<l.length:=(List.getElem?_eq_some_iff.1 hk).1
     have hkl':(k:Int)<(l.length:Int):=by omega
     have hk0:(0:Int)<=(k:Int):=by omega
     rw [HD.2 k p hp hk]at hM
     clear HD
     obtain⟨b,kk,ck,n,cn,t,ct,qa,qc,rfl,hbF,_,_,_,_,_,z5,_,z7,_,_,_,hfz⟩:=(zaa HX).1.cells hk
     have hfl:¬ (-1:Int)=0:=by decide
     by_cases hk1:k=1
     ·subst hk1
      rw [if_neg (fun h=>h.1 rfl)]at hM
      have HE:=hide (show DoR w0 w sb F M w2 from DoR.of (zaa HX).1 hM (zaa HBW) (fun q hq=>.inl hq))
      clear hM hfi hp HX hk hfz
      go_wp2_with fail
      go_end0
      exact⟨⟨_,rfl⟩,zaa HE⟩
     ·have hk1':¬ (k:Int)=1:=by omega
      have hk1b:((k:Int) == 1)=false:=by simpa using hk1'
      have hk1c:((k:Int) != 1)=true:=by simpa using hk1'
      by_cases e5:p.kind=0
      ·have d5:(p.kind == 0)=true:=by simpa using e5
       rw [if_pos ⟨hk1,e5⟩]at hM
       have hpa:=hal p (List.mem_of_getElem? hk)
       have HC:=hide (zjx w0 w2.drew sb b c l F ((zaa HX).1.keep ((Below.refl _ _).drew)) k p hk hpa o k1 k2 k3 d1 d2 d3 h2 h3)
       have HM:=hide hM
       clear hM hfi hp HX hk hk1 e5 hfz
       go_wp2_with fail
       go_region_with (go_at_call 111;refine (zaa HC).mono ?_;rintro e w7 ⟨⟨v,rfl⟩,⟨F',hst,hFt⟩,hft⟩)
       all_goals
        have hsw:=(zaa HBW).size
        have HE:=hide (show DoR w0 w sb F M w7 from DoR.of hst (zaa HM) (((zaa HBW).more9 (Frm.ofBelow ((Below.refl _ _).drew) []) (fun q hq=>by cases hq)).more9 hft (fun q hq=>by simp at hq;subst hq;exact .inl (List.mem_cons_of_mem _ hbF))) (fun q hq=>(hFt q hq).imp id (fun h=>Nat.le_trans hsw h)))
        clear hst HM HC hFt hft hsw
        go_wp2_with fail
        go_end0
        exact⟨⟨_,rfl⟩,zaa HE⟩
      ·have d5:(p.kind == 0)=false:=by simpa using e5
       rw [if_neg (fun h=>e5 h.2)]at hM
       have HE:=hide (show DoR w0 w sb F M w2 from DoR.of (zaa HX).1 hM (zaa HBW) (fun q hq=>.inl hq))
       clear hM hfi hp HX hk hk1 e5 hfz
       go_wp2_with fail
       go_end0
       exact⟨⟨_,rfl⟩,zaa HE⟩
end Go.Proofs.YtlpnibbdmkeklaaGreatDoor
