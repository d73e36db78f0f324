/- Own texts joined: RdF, RdG, RdU, RdV, RdH0, RdW, RdX1, RdY1, RdY2, RdZ1. -/
import Derived.Test.YtgjolijncmkkhaaGreatDoorQa
import Derived.Test.YtgjolijncmkkhaaGreatDoorQe
import Derived.Test.YtgjolijncmkkhaaGreatDoorQf
import Derived.Test.YtgjolijncmkkhaaGreatDoorQp
import Derived.Test.YtgjolijncmkkhaaGreatDoorQr
import Derived.Test.YtgjolijncmkkhaaGreatDoorQs
import Derived.Deep.CutBlock
namespace Go.Proofs.YtgjolijncmkkhaaGreatDoor
open Go.RowKit
set_option linter.unusedVariables false
set_option maxRecDepth 100000
theorem zkg:(Tryz.prog.info? 29).map (fun i=>(i.zero,i.size,i.bytes))=some (some (.agg #[.int .i64 0,.slice none 0 0,.slice none 0 0,.slice none 0 0,.slice none 0 0]),5,104):=by kernel_rfl
abbrev nz:Array Xl:= #[.int .i64 0,.slice none 0 0,.slice none 0 0,.slice none 0 0,.slice none 0 0]
theorem zye (A:Xj) (z0 z1 z2 z3 z4 a b c d e:Xl):(((((A++[z0,z1,z2,z3,z4]).set A.length a).set (A.length+1) b).set (A.length+2) c).set (A.length+3) d).set (A.length+4) e=A++[a,b,c,d,e]:=by
 simp
theorem zwr {w:Xk} {base g n cap k:Nat} {e:Xm} {size:Nat} {A:Xj} {z0 z1 z2 z3 z4:Xl} (h:w.ownsRow base e size (.slice (some ⟨g,0,none⟩) n cap) n (A++[z0,z1,z2,z3,z4])) (hk:k=A.length) (y0 y1 y2 y3 y4:Xl) :
  (((((w.setCell ⟨g,k,none⟩ y0).setCell ⟨g,k+1,none⟩ y1).setCell ⟨g,k+2,none⟩ y2).setCell ⟨g,k+3,none⟩ y3).setCell ⟨g,k+4,none⟩ y4).ownsRow base e size (.slice (some ⟨g,0,none⟩) n cap) n (A++[y0,y1,y2,y3,y4])∧
  w.grownBy (((((w.setCell ⟨g,k,none⟩ y0).setCell ⟨g,k+1,none⟩ y1).setCell ⟨g,k+2,none⟩ y2).setCell ⟨g,k+3,none⟩ y3).setCell ⟨g,k+4,none⟩ y4) (some g):=by
 subst hk
 obtain⟨r0,g0⟩:=h.stored A.length y0
 obtain⟨r1,g1⟩:=r0.stored (A.length+1) y1
 obtain⟨r2,g2⟩:=r1.stored (A.length+2) y2
 obtain⟨r3,g3⟩:=r2.stored (A.length+3) y3
 obtain⟨r4,g4⟩:=r3.stored (A.length+4) y4
 rw [zye]at r4
 exact⟨r4,zaA (zaA (zaA (zaA g0 g1) g2) g3) g4⟩
theorem zir (w:Xk) (g k:Nat) (y0 y1 y2 y3 y4:Xl):Frm w (((((w.setCell ⟨g,k,none⟩ y0).setCell ⟨g,k+1,none⟩ y1).setCell ⟨g,k+2,none⟩ y2).setCell ⟨g,k+3,none⟩ y3).setCell ⟨g,k+4,none⟩ y4) [g]:=((((Frm.set _ g k y0).trans (Frm.set _ g (k+1) y1)).trans (Frm.set _ g (k+2) y2)).trans (Frm.set _ g (k+3) y3)).trans (Frm.set _ g (k+4) y4)
theorem zin {w:Xk} {base e size g n cap m:Nat} {xs:Xj} (h:w.ownsRow base e size (.slice (some ⟨g,0,none⟩) n cap) m xs):Cells w g:=by
 rcases h.2 with ⟨q,_⟩ | ⟨g',Aa,Ba,q,_,hg,_⟩
 ·cases q
 ·cases q
  exact⟨_,_,_,hg⟩
def Much (e:Ending):Prop:=∃v,e=.panicked [{ v:=.iface 9 v,recovered:=false }]
theorem znJ {B:Nat} {o1 o2 o3 o4 o5 o6:Xl} {a:Xi} {n c p:Nat} {w:Xk} {g:Nat} (h:RSet B o1 o2 o3 o4 o5 o6 (.slice a n c) (.int .i64 p) w g) (hp:p+1<=120) (hn:n<20) :
  Calls Tryz.prog 147 #[.pointer (some ⟨g,0,none⟩)] w fun e w'=>e=.returned (.tuple #[])∧RSet B o1 o2 o3 o4 o5 o6 (.slice a n c) (.int .i64 ((p+1:Nat):Int)) w' g∧Frm w w' [g]:=by
 refine zaw ?_
 intro Q HQ
 obtain⟨_,_,_,_,_,_,c6,c7,fz⟩:=h.cells
 have f7:=fz 7
 have HE:=hide (zaa HQ (.returned (.tuple #[])) (w.setCell ⟨g,7,none⟩ (.int .i64 ((p:Int)+1))) ⟨rfl,(h.put (.int .i64 ((p:Int)+1))).2.2.2.2.2.2,Frm.set w g 7 _⟩)
 have q1:¬ (120:Int)<(p:Int)+1:=by omega
 have q2:((n:Int) == 20)=false:=by simp;omega
 have q3:(p:Int)<=120:=by omega
 clear HQ h fz
 go_enter Tryz.func147,Tryz.ntmps147
 go_wp2_with fail
 go_end0
 exact zaa HE
theorem zrs {B:Nat} {o1 o2 o3 o4 o5 o6:Xl} {a:Xi} {n c p:Nat} {w:Xk} {g:Nat} (h:RSet B o1 o2 o3 o4 o5 o6 (.slice a n c) (.int .i64 p) w g) (hp:p<=120) (hc:p=120∨n=20) :
  Calls Tryz.prog 147 #[.pointer (some ⟨g,0,none⟩)] w fun e w'=>Much e∧Frm w w' [g]:=by
 refine zaw ?_
 intro Q HQ
 obtain⟨_,_,_,_,_,_,c6,c7,fz⟩:=h.cells
 have f7:=fz 7
 have HE:=hide (fun v=>zaa HQ (.panicked [{ v:=.iface 9 v,recovered:=false }]) (w.setCell ⟨g,7,none⟩ (.int .i64 ((p:Int)+1))) ⟨⟨v,rfl⟩,Frm.set w g 7 _⟩)
 have q3:(p:Int)<=120:=by omega
 clear HQ h fz
 by_cases h1:p=120
 ·subst h1
  clear hc
  go_enter Tryz.func147,Tryz.ntmps147
  go_wp2_with fail
  exact⟨rfl,zaa HE _⟩
 ·have q1:¬ (120:Int)<(p:Int)+1:=by omega
  have hn:n=20:=hc.resolve_left h1
  subst hn
  clear hc h1
  go_enter Tryz.func147,Tryz.ntmps147
  go_wp2_with fail
  exact⟨rfl,zaa HE _⟩
theorem ziP {B:Nat} {o1 o2 o3 o4 o5 o6 o8:Xl} {q m c:Nat} {w:Xk} {g:Nat} (h:RSet B o1 o2 o3 o4 o5 o6 (.slice (some ⟨q,0,none⟩) (m+1) c) o8 w g) (hn:m<20) :
  Calls Tryz.prog 106 #[.pointer (some ⟨g,0,none⟩)] w fun e w'=>e=.returned (.pointer (some ⟨q,m*5,none⟩))∧Below w.heap.size w w':=by
 refine zaw ?_
 intro Q HQ
 have hd:=fun n_=>below_drewN (Below.refl w.heap.size w) n_
 obtain⟨_,_,_,_,_,_,c6,_,fz⟩:=h.cells
 have HE:=hide (fun n_=>zaa HQ (.returned (.pointer (some ⟨q,m*5,none⟩))) (w.drewN n_) ⟨rfl,hd n_⟩)
 have q1:(0:Int)<=(m:Int):=by omega
 have q2:(m:Int)<20:=by omega
 clear HQ h fz hd
 go_enter Tryz.func106,Tryz.ntmps106
 go_upto_region 1 with fail
 go_quiet (fail)
 go_wp2_with fail
 exact zaa HE _
theorem zdc {w:Xk} {b:Nat} {v:Xl} {l:Xg} (h:RowM w b v l):∀q∈FB v,Cells w q:=by
 intro q hq
 rcases h.2 with ⟨rfl,_⟩ | ⟨g,Ba,Aa,fz,rfl,_,hg,_⟩
 ·simp [FB,Value.ownBlock]at hq
 ·simp [FB,Value.ownBlock]at hq
  subst hq
  exact⟨_,_,_,hg⟩
theorem zfY {w:Xk} {b e s n:Nat} {v:Xl} {xs:Xj} (h:w.ownsRow b e s v n xs):∀q∈FB v,Cells w q:=by
 intro q hq
 rcases h.2 with ⟨rfl,_⟩ | ⟨g,Ba,Aa,rfl,_,hg,_⟩
 ·simp [FB,Value.ownBlock]at hq
 ·simp [FB,Value.ownBlock]at hq
  subst hq
  exact⟨_,_,_,hg⟩
theorem zdl {α:Type} {w:Xk} {e size:Nat} {v:Xl} {l:List α} {R:Xj->α->Xh->Prop} {F:Xh} (h:OwElems w e size v l R F) (hR:∀C x G,R C x G->∀q∈G,Cells w q):∀q∈F,Cells w q:=by
 obtain⟨Cs,Fs,e1,e2,e3,e4,rfl⟩:=h
 intro q hq
 rcases List.mem_append.1 hq with hq | hq
 ·exact zfY e4 q hq
 ·obtain⟨G,hG,Aa⟩:=List.mem_flatten.1 hq
  obtain⟨i,hi,rfl⟩:=List.getElem_of_mem hG
  have:=(e3 i (by omega)).2
  rw [show Fs.getD i []=Fs[i] by simp [hi]]at this
  exact hR _ _ _ this q Aa
theorem OwAttrsM.cells {w:Xk} {v:Xl} {l:List (Xg×Xg)} {F:Xh} (h:OwAttrsM w v l F):∀q∈F,Cells w q:=
 zdl h (fun C x G ⟨a,b,_,h1,h2,e⟩ q hq=>by
  rw [e]at hq
  rcases List.mem_append.1 hq with hq | hq
  ·exact zdc h1 q hq
  ·exact zdc h2 q hq)
theorem OwNodeM.cellsN:∀{n:Nat} {w:Xk} {C:Xj} {t:Tr n} {F:Xh},OwNodeM n w C t F->∀q∈F,Cells w q
 | 0,_,_,_,_,h=>h.elim
 | n+1,w,C,t,F,h=>by
  obtain⟨a,b,c,d,Fc,Fd,e,k1,k2,h1,h2,h3,h4,rfl⟩:=h
  intro q hq
  rcases List.mem_append.1 hq with hq | hq
  ·rcases List.mem_append.1 hq with hq | hq
   ·rcases List.mem_append.1 hq with hq | hq
    ·exact zdc h1 q hq
    ·exact zdc h2 q hq
   ·exact h3.cells q hq
  ·exact zdl h4 (fun C x G hr=>OwNodeM.cellsN hr) q hq
theorem OwX.cellsN {w:Xk} {C:Xj} {its:List Itm} {F:Xh} (h:OwX w C its F):∀q∈F,Cells w q:=by
 obtain⟨n,t,h1,_⟩:=h
 exact OwNodeM.cellsN h1
theorem OwE.cellsN {w:Xk} {C:Xj} {o:OnD} {F:Xh} (h:OwE w C o F):∀q∈F,Cells w q:=by
 obtain⟨a,b,c,d,Fc,Fd,e,k1,k2,h1,h2,h3,h4,rfl⟩:=h
 intro q hq
 rcases List.mem_append.1 hq with hq | hq
 ·rcases List.mem_append.1 hq with hq | hq
  ·rcases List.mem_append.1 hq with hq | hq
   ·exact zdc h1 q hq
   ·exact zdc h2 q hq
  ·exact h3.cells q hq
 ·exact zdl h4 (fun C x G hr=>hr.cellsN) q hq
structure RdSt (w0:Xk) (a:Xi) (cap:Nat) (l:Xg) (g k:Nat) (o3 o4 o5 o6 ov:Xl) (os:List OnD) (p:Nat) (F:Xh) (W:Xk):Prop where
 set:RSet w0.heap.size (.slice a l.length cap) (.int .i64 k) o3 o4 o5 o6 ov (.int .i64 p) W g
 row:OwElems W 29 5 ov os (OwE W) F
 nd:F.Nodup
 bel:Below w0.heap.size w0 W
 byt:Byt w0 (.slice a l.length cap) l
 geF:∀q∈F,w0.heap.size<=q
 geg:w0.heap.size<=g
 kl:k<=l.length
 ll:l.length<=1500
 gF:g∉F
theorem RdSt.cells {w0:Xk} {a:Xi} {cap:Nat} {l:Xg} {g k:Nat} {o3 o4 o5 o6 ov:Xl} {os:List OnD} {p:Nat} {F:Xh} {W:Xk} (h:RdSt w0 a cap l g k o3 o4 o5 o6 ov os p F W):∀q∈F,Cells W q:=zdl h.row (fun C x G hr=>hr.cellsN)
theorem RdSt.rd {w0:Xk} {a:Xi} {cap:Nat} {l:Xg} {g k:Nat} {o3 o4 o5 o6 ov:Xl} {os:List OnD} {p:Nat} {F:Xh} {W:Xk} (h:RdSt w0 a cap l g k o3 o4 o5 o6 ov os p F W):Rd w0.heap.size a cap l o3 o4 o5 o6 ov (.int .i64 p) W g k W:=⟨h.set,h.byt.keep h.bel,Frm.refl _ _,h.kl⟩
theorem RdSt.ag {w0:Xk} {a:Xi} {cap:Nat} {l:Xg} {g k:Nat} {o3 o4 o5 o6 ov:Xl} {os:List OnD} {p:Nat} {F:Xh} {W:Xk} (h:RdSt w0 a cap l g k o3 o4 o5 o6 ov os p F W):∀x,a=some x->l≠[]->x.block≠g:=by
 intro x hx h0
 subst hx
 obtain⟨b,Aa,e⟩:=h.byt.some' h0
 cases e
 have:=(h.byt.row h0).2.2.1
 have:=h.geg
 simp only
 omega
theorem zfq (w:Xk) {g h:Nat} (i j:Nat) (u v:Xl) (hne:g≠h):(w.setCell ⟨g,i,none⟩ u).setCell ⟨h,j,none⟩ v=(w.setCell ⟨h,j,none⟩ v).setCell ⟨g,i,none⟩ u:=by
 unfold World.setCell
 congr 1
 apply Array.ext_getElem?
 intro k
 simp only [Array.getElem?_modify]
 by_cases h1:g=k
 ·subst h1
  rw [if_neg (fun e=>hne e.symm),if_pos rfl,if_pos rfl,if_neg (fun e=>hne e.symm)]
 ·by_cases h2:h=k
  ·rw [if_pos h2,if_neg h1,if_neg h1,if_pos h2]
  ·rw [if_neg h2,if_neg h1,if_neg h1,if_neg h2]
def set5 (w:Xk) (g k:Nat) (y0 y1 y2 y3 y4:Xl):Xk:=((((w.setCell ⟨g,k,none⟩ y0).setCell ⟨g,k+1,none⟩ y1).setCell ⟨g,k+2,none⟩ y2).setCell ⟨g,k+3,none⟩ y3).setCell ⟨g,k+4,none⟩ y4
theorem ziU (w:Xk) {g h:Nat} (k j:Nat) (y0 y1 y2 y3 y4 v:Xl) (hne:g≠h):((((((w.setCell ⟨h,j,none⟩ v).setCell ⟨g,k,none⟩ y0).setCell ⟨g,k+1,none⟩ y1).setCell ⟨g,k+2,none⟩ y2).setCell ⟨g,k+3,none⟩ y3).setCell ⟨g,k+4,none⟩ y4)=(set5 w g k y0 y1 y2 y3 y4).setCell ⟨h,j,none⟩ v:=by
 unfold set5
 rw [zfq w j k v y0 (Ne.symm hne),zfq _ j (k+1) v y1 (Ne.symm hne),zfq _ j (k+2) v y2 (Ne.symm hne),zfq _ j (k+3) v y3 (Ne.symm hne),zfq _ j (k+4) v y4 (Ne.symm hne)]
theorem zkB (w:Xk) (g k:Nat) (y0 y1 y2 y3 y4:Xl):Frm w (set5 w g k y0 y1 y2 y3 y4) [g]:=zir w g k y0 y1 y2 y3 y4
theorem ziS {w:Xk} {g cap m k:Nat} {xs:Xj} {z0 z1 z2 z3 z4:Xl} (h:w.ownsRow 0 29 5 (.slice (some ⟨g,0,none⟩) (m+1) cap) (m+1) (xs++[z0,z1,z2,z3,z4])) (hx:xs.length=k) (hk:k=m*5) :
  w.cell? ⟨g,k,none⟩=some z0∧w.cell? ⟨g,k+1,none⟩=some z1∧w.cell? ⟨g,k+2,none⟩=some z2∧w.cell? ⟨g,k+3,none⟩=some z3∧w.cell? ⟨g,k+4,none⟩=some z4∧∀j,w.frozen? ⟨g,j,none⟩=false:=by
 subst hk
 rcases h.2 with ⟨e,_⟩ | ⟨g',Da,Ca,e,_,hg,h1,h2,h3,h4⟩
 ·cases e
 simp only [Value.slice.injEq,Option.some.injEq,Addr.mk.injEq,true_and,and_true]at e
 obtain⟨rfl,rfl⟩:=e
 have Aa:∀j (u:Xl),j<(m+1)*5->(xs++[z0,z1,z2,z3,z4])[j]? = some u->w.cell? ⟨g,j,none⟩=some u:=fun j u hj hu=>by
  rw [cell_of_row w g _ Ca _ _ hg]
  rw [<-h4,List.getElem?_take,if_pos (by omega)]at hu
  simpa using hu
 have Ba:∀i (u:Xl),[z0,z1,z2,z3,z4][i]? = some u->(xs++[z0,z1,z2,z3,z4])[m*5+i]? = some u:=fun i u hu=>by
  rw [List.getElem?_append_right (by omega),hx,Nat.add_sub_cancel_left]
  exact hu
 exact⟨Aa _ _ (by omega) (Ba 0 _ rfl),Aa _ _ (by omega) (Ba 1 _ rfl),Aa _ _ (by omega) (Ba 2 _ rfl),Aa _ _ (by omega) (Ba 3 _ rfl),Aa _ _ (by omega) (Ba 4 _ rfl),fun j=>frozen_of_row w g _ Ca _ hg⟩
theorem zxe {w:Xk} {base g n cap k:Nat} {e:Xm} {size:Nat} {A:Xj} {z0 z1 z2 z3 z4:Xl} (h:w.ownsRow base e size (.slice (some ⟨g,0,none⟩) n cap) n (A++[z0,z1,z2,z3,z4])) (hk:k=A.length) (y0 y1 y2 y3 y4:Xl) :
  (set5 w g k y0 y1 y2 y3 y4).ownsRow base e size (.slice (some ⟨g,0,none⟩) n cap) n (A++[y0,y1,y2,y3,y4]):=(zwr h hk y0 y1 y2 y3 y4).1
theorem OwElems.pushG {α:Type} {R:Xk->Xj->α->Xh->Prop} (hRf:∀{w w':Xk} {S:Xh} {C:Xj} {x:α} {G:Xh},R w C x G->Frm w w' S->(∀g∈G,g∉S)->R w' C x G)
  {w w':Xk} {e:Xm} {size:Nat} {v:Xl} {l:List α} {Cs:List (Xj)} {Fs:List (Xh)} {C:Xj} {y:α} {G S:Xh} {g cap m:Nat}
  (h1:Cs.length=l.length) (h2:Fs.length=l.length) (h3:∀i (hi:i<l.length),(Cs.getD i []).length=size∧R w (Cs.getD i []) l[i] (Fs.getD i []))
  (hN:(FB v++Fs.flatten).Nodup) (hC:C.length=size) (hy:R w' C y G) (hGN:G.Nodup) (hgG:g∉G) (hFG:∀q∈Fs.flatten,q∉G) (hlt:∀q∈FB v++Fs.flatten,q<w.heap.size) (hm:m=l.length)
  (k1:w'.ownsRow 0 e size (.slice (some ⟨g,0,none⟩) (m+1) cap) (m+1) (Cs.flatten++C)) (hf:Frm w w' S) (hS:∀q∈Fs.flatten,q∉S) (k3:v.ownBlock=some g∨w.heap.size<=g) :
  OwElems w' e size (.slice (some ⟨g,0,none⟩) (m+1) cap) (l++[y]) (R w') (g::(Fs.flatten++G))∧(g::(Fs.flatten++G)).Nodup:=by
 subst hm
 have Ba:∀q∈Fs.flatten,q∉FB v:=fun q hq hv=>(List.nodup_append.1 hN).2.2 q hv q hq rfl
 refine⟨⟨Cs++[C],Fs++[G],by simp [h1],by simp [h2],fun i hi=> ?_,?_,?_⟩,?_⟩
 ·by_cases hil:i<l.length
  ·have a:=h3 i hil
   have e1:(Cs++[C]).getD i []=Cs.getD i []:=by rw [List.getD_eq_getElem?_getD,List.getD_eq_getElem?_getD,List.getElem?_append_left (by omega)]
   have e2:(Fs++[G]).getD i []=Fs.getD i []:=by rw [List.getD_eq_getElem?_getD,List.getD_eq_getElem?_getD,List.getElem?_append_left (by omega)]
   rw [e1,e2,List.getElem_append_left hil]
   exact⟨a.1,hRf a.2 hf (fun q hq=>hS q (zaH hq))⟩
  ·have e0:i=l.length:=by simp at hi;omega
   subst e0
   have e1:(Cs++[C]).getD l.length []=C:=by rw [<-h1];simp
   have e2:(Fs++[G]).getD l.length []=G:=by rw [<-h2];simp
   rw [e1,e2]
   simp only [List.getElem_concat_length]
   exact⟨hC,hy⟩
 ·simp only [List.length_append,List.length_cons,List.length_nil,List.flatten_append,List.flatten_cons,List.flatten_nil,List.append_nil]
  exact k1
 ·simp [FB,Value.ownBlock]
 ·rw [List.nodup_cons]
  refine⟨fun hq=> ?_,List.nodup_append.2 ⟨(List.nodup_append.1 hN).2.1,hGN,fun a ha b hb Aa=>hFG a ha (Aa ▸ hb)⟩⟩
  rcases List.mem_append.1 hq with hq | hq
  ·rcases k3 with k3 | k3
   ·exact Ba g hq (by simp [FB,k3])
   ·have:=hlt g (List.mem_append_right _ hq);omega
  ·exact hgG hq
theorem OwElems.pop {α:Type} {w:Xk} {e:Xm} {size g cap:Nat} {l:List α} {y:α} {R:Xj->α->Xh->Prop} {F:Xh} (h:OwElems w e size (.slice (some ⟨g,0,none⟩) (l++[y]).length cap) (l++[y]) R F) (hN:F.Nodup) :
  ∃C F1 G,C.length=size∧(∀j,j<size->w.cell? ⟨g,l.length*size+j,none⟩=C[j]?)∧R C y G∧OwElems w e size (.slice (some ⟨g,0,none⟩) l.length cap) l R F1∧F1.Nodup∧G.Nodup∧(∀q∈F1,q∈F)∧(∀q∈G,q∈F)∧(∀q∈F1,q∉G):=by
 obtain⟨Cs,Fs,e1,e2,e3,e4,rfl⟩:=h
 have hl:(l++[y]).length=l.length+1:=by simp
 rw [hl]at e1 e2
 rw [hl]at e4
 obtain⟨Cs,C,rfl⟩:∃a b,Cs=a++[b]:=⟨Cs.dropLast,Cs.getLast (by intro e;rw [e]at e1;simp at e1),(List.dropLast_concat_getLast _).symm⟩
 obtain⟨Fs,G,rfl⟩:∃a b,Fs=a++[b]:=⟨Fs.dropLast,Fs.getLast (by intro e;rw [e]at e2;simp at e2),(List.dropLast_concat_getLast _).symm⟩
 have c1:Cs.length=l.length:=by simpa using e1
 have c2:Fs.length=l.length:=by simpa using e2
 obtain⟨Ga,Ba⟩:=e3 l.length (by rw [hl];omega)
 have g1:(Cs++[C]).getD l.length []=C:=by rw [<-c1];simp
 have g2:(Fs++[G]).getD l.length []=G:=by rw [<-c2];simp
 rw [g1]at Ga Ba
 rw [g2]at Ba
 simp only [List.getElem_concat_length]at Ba
 have Aa:∀i,i<(Cs++[C]).length->((Cs++[C]).getD i []).length=size:=fun i hi=>(e3 i (by rw [hl];simp at hi;omega)).1
 have Ca:=List.nodup_append.1 hN
 simp only [List.flatten_append,List.flatten_cons,List.flatten_nil,List.append_nil]at Ca ⊢
 have Da:=List.nodup_append.1 Ca.2.1
 have Ma:FB (.slice (some ⟨g,0,none⟩) (l++[y]).length cap)=FB (.slice (some ⟨g,0,none⟩) l.length cap):=rfl
 refine⟨C,FB (.slice (some ⟨g,0,none⟩) l.length cap)++Fs.flatten,G,Ga,fun j hj=> ?_,Ba,⟨Cs,Fs,c1,c2,fun i hi=> ?_,?_,rfl⟩,?_,Da.2.1,?_,?_,?_⟩
 ·have Ha:l.length*size+j<(l.length+1)*size:=by rw [Nat.succ_mul];omega
  rw [e4.cellAt (l.length*size+j) Ha,zmE (Cs++[C]) size Aa l.length j (by simp;omega) hj,g1]
 ·have:=e3 i (by rw [hl];omega)
  have q1:(Cs++[C]).getD i []=Cs.getD i []:=by rw [List.getD_eq_getElem?_getD,List.getD_eq_getElem?_getD,List.getElem?_append_left (by omega)]
  have q2:(Fs++[G]).getD i []=Fs.getD i []:=by rw [List.getD_eq_getElem?_getD,List.getD_eq_getElem?_getD,List.getElem?_append_left (by omega)]
  rw [q1,q2,List.getElem_append_left hi]at this
  exact this
 ·have Fa:Cs.flatten.length=l.length*size:=by
   have:∀(Ds:List (Xj)),(∀D∈Ds,D.length=size)->Ds.flatten.length=Ds.length*size:=by
    intro Ds
    induction Ds with
    | nil=>intro _;simp
    | cons D Ds ih=>
     intro hD
     rw [List.flatten_cons,List.length_append,hD D (by simp),ih (fun x hx=>hD x (by simp [hx])),List.length_cons,Nat.succ_mul,Nat.add_comm]
   rw [this Cs (fun D hD=>by
    obtain⟨i,hi,rfl⟩:=List.getElem_of_mem hD
    have:=Aa i (by simp;omega)
    rw [List.getD_eq_getElem?_getD,List.getElem?_append_left hi,List.getElem?_eq_getElem hi]at this
    exact this),c1]
  refine⟨Fa,?_⟩
  rcases e4.2 with ⟨q,_⟩ | ⟨g',Ja,La,q,hb,hg,Oa,Ia,Na,Ka⟩
  ·cases q
  ·simp only [Value.slice.injEq,Option.some.injEq,Addr.mk.injEq,true_and,and_true]at q
   obtain⟨rfl,rfl⟩:=q
   refine .inr ⟨g,cap,La,rfl,hb,hg,by omega,Ia,Na,?_⟩
   have h1:=congrArg (List.take (l.length*size)) Ka
   rw [List.take_take,Nat.min_eq_left (by rw [Nat.succ_mul];omega),List.flatten_append]at h1
   rw [h1]
   rw [<-Fa,List.take_left]
 ·exact List.nodup_append.2 ⟨zaU _,Da.1,fun a ha b hb=>Ca.2.2 a ha b (List.mem_append_left _ hb)⟩
 ·intro q hq
  rcases List.mem_append.1 hq with hq | hq
  ·exact List.mem_append_left _ hq
  ·exact List.mem_append_right _ (List.mem_append_left _ hq)
 ·intro q hq
  exact List.mem_append_right _ (List.mem_append_right _ hq)
 ·intro q hq hG
  rcases List.mem_append.1 hq with hq | hq
  ·exact Ca.2.2 q hq q (List.mem_append_right _ hG) rfl
  ·exact Da.2.2 q hq q hG rfl
theorem zvH {n N:Nat} {w:Xk} {C:Xj} {t:Tr n} {F:Xh} (h:OwNodeM n w C t F) (hN:n<=N):∃t':Tr N,OwNodeM N w C t' F∧encT N t'=encT n t:=by
 induction N with
 | zero=>
  have:n=0:=by omega
  subst this
  exact⟨t,h,rfl⟩
 | succ N ih=>
  by_cases e:n=N+1
  ·subst e;exact⟨t,h,rfl⟩
  ·obtain⟨t',h1,h2⟩:=ih (by omega)
   exact⟨upT N t',zls h1,(zfI N t').trans h2⟩
theorem zni {α:Type} {Q:Nat->α->Prop}:∀m,(∀i,i<m->∃x,Q i x)->∃l:List α,l.length=m∧∀i (hi:i<l.length),Q i l[i]
 | 0,_=>⟨[],rfl,fun i hi=>by simp at hi⟩
 | m+1,h=>by
  obtain⟨l,h1,h2⟩:=zni m (fun i hi=>h i (by omega))
  obtain⟨x,hx⟩:=h m (by omega)
  refine⟨l++[x],by simp [h1],fun i hi=> ?_⟩
  by_cases e:i<l.length
  ·rw [List.getElem_append_left e];exact h2 i e
  ·have:i=l.length:=by simp at hi;omega
   subst this
   simp only [List.getElem_concat_length]
   rw [h1]
   exact hx
theorem znq {w:Xk} {Cs:List (Xj)} {Fs:List (Xh)} {l:List (List Itm)}:∀m,(∀i,i<m->OwX w (Cs.getD i []) (l.getD i []) (Fs.getD i []))->∃N,∀i,i<m->∃t:Tr N,OwNodeM N w (Cs.getD i []) t (Fs.getD i [])∧encT N t=l.getD i []
 | 0,_=>⟨0,fun i hi=>by omega⟩
 | m+1,h=>by
  obtain⟨N,hN⟩:=znq m (fun i hi=>h i (by omega))
  obtain⟨n,t,h1,h2⟩:=h m (by omega)
  refine⟨max n N,fun i hi=> ?_⟩
  by_cases e:i<m
  ·obtain⟨u,g1,g2⟩:=hN i e
   obtain⟨u',k1,k2⟩:=zvH g1 (Nat.le_max_right n N)
   exact⟨u',k1,k2.trans g2⟩
  ·have:i=m:=by omega
   subst this
   obtain⟨u',k1,k2⟩:=zvH h1 (Nat.le_max_left n N)
   exact⟨u',k1,k2.trans h2⟩
theorem OwE.close {w:Xk} {C:Xj} {o:OnD} {F:Xh} (h:OwE w C o F):OwX w C (zav o) F:=by
 obtain⟨a,b,c,d,Fc,Fd,e,k1,k2,h1,h2,h3,⟨Cs,Fs,q1,q2,q3,q4,q5⟩,hF⟩:=h
 obtain⟨N,hN⟩:=znq (w:=w) (Cs:=Cs) (Fs:=Fs) (l:=o.kids) o.kids.length (fun i hi=>by
  have:=(q3 i hi).2
  rw [show o.kids.getD i []=o.kids[i] by simp [hi]]
  exact this)
 obtain⟨ts,t1,t2⟩:=zni (Q:=fun i (t:Tr N)=>OwNodeM N w (Cs.getD i []) t (Fs.getD i [])∧encT N t=o.kids.getD i []) o.kids.length hN
 have he:ts.map (encT N)=o.kids:=by
  apply List.ext_getElem (by simp [t1])
  intro i h1 h2
  rw [List.getElem_map,(t2 i (by simpa using h1)).2]
  simp [h2]
 refine⟨N+1,(⟨o.kind,o.name,o.text,o.attrs,ts⟩:Nd (Tr N)),⟨a,b,c,d,Fc,Fd,e,k1,k2,h1,h2,h3,(show OwElems w 29 5 d ts (OwNodeM N w) Fd from ⟨Cs,Fs,by rw [t1];exact q1,by rw [t1];exact q2,fun i hi=>⟨(q3 i (by omega)).1,(t2 i hi).1⟩,by rw [t1];exact q4,q5⟩),hF⟩,?_⟩
 show zav ⟨o.kind,o.name,o.text,o.attrs,ts.map (encT N)⟩=zav o
 rw [he]
theorem Frm.newer {a b c:Xk} {S T:Xh} (h:Frm a b S) (k:Frm b c T) (hT:∀x∈T,x∈S∨a.heap.size<=x):Frm a c S:=
 ⟨k.os.trans h.os,k.tape.trans h.tape,k.output.trans h.output,Nat.le_trans h.size k.size,fun g hg hn=>(k.block g (Nat.lt_of_lt_of_le hg h.size) (fun e=>(hT g e).elim hn (fun e=>by omega))).trans (h.block g hg hn)⟩
theorem znE {α:Type} {R:Xk->Xj->α->Xh->Prop} (hRf:∀{w w':Xk} {S:Xh} {C:Xj} {x:α} {G:Xh},R w C x G->Frm w w' S->(∀g∈G,g∉S)->R w' C x G)
  {wa w9:Xk} {v:Xl} {l:List α} {Cs:List (Xj)} {Fs:List (Xh)} {m k cap9 g9 fb fo:Nat} {z0 z1 z2 z3 z4 y0 y1 y2 y3 y4:Xl} {y:α} {G:Xh}
  (h1:Cs.length=l.length) (h2:Fs.length=l.length) (h3:∀i (hi:i<l.length),(Cs.getD i []).length=5∧R wa (Cs.getD i []) l[i] (Fs.getD i []))
  (hN:(FB v++Fs.flatten).Nodup) (hlt:∀q∈FB v++Fs.flatten,q<wa.heap.size) (hm:m=l.length) (hk:k=Cs.flatten.length)
  (hF9:w9.ownsRow 0 29 5 (.slice (some ⟨g9,0,none⟩) (m+1) cap9) (m+1) (Cs.flatten++[z0,z1,z2,z3,z4])) (hg9:wa.grownBy w9 v.ownBlock) (hM9:v.ownBlock=some g9∨g9=wa.heap.size)
  (hfb:fb∉FB v++Fs.flatten) (hfg:fb≠g9) (hfG:fb∉G) (hy:R wa [y0,y1,y2,y3,y4] y G) (hGN:G.Nodup) (hgG:∀q∈FB v++Fs.flatten,q∉G) (hGlt:∀q∈G,q<wa.heap.size)
  (W:Xk) (hW:W=(set5 w9 g9 k y0 y1 y2 y3 y4).setCell ⟨fb,fo,none⟩ (.slice (some ⟨g9,0,none⟩) (m+1) cap9)) :
  OwElems W 29 5 (.slice (some ⟨g9,0,none⟩) (m+1) cap9) (l++[y]) (R W) (g9::(Fs.flatten++G))∧(g9::(Fs.flatten++G)).Nodup∧Frm wa W (fb::FB v):=by
 have e9:g9∉Fs.flatten∧g9∉G:=by
  rcases hM9 with e | e
  ·have hv:g9∈FB v:=by simp [FB,e]
   exact⟨fun hq=>(List.nodup_append.1 hN).2.2 g9 hv g9 hq rfl,hgG g9 (List.mem_append_left _ hv)⟩
  ·exact⟨fun hq=>by have:=hlt g9 (List.mem_append_right _ hq);omega,fun hq=>by have:=hGlt g9 hq;omega⟩
 have f9:Frm wa w9 (FB v):=by have:=Frm.ofGrown hg9;simpa [FB]using this
 have f5:=zkB w9 g9 k y0 y1 y2 y3 y4
 have ff:=Frm.set (set5 w9 g9 k y0 y1 y2 y3 y4) fb fo (.slice (some ⟨g9,0,none⟩) (m+1) cap9)
 rw [<-hW]at ff
 have Aa:Frm wa W (fb::FB v):=by
  refine Frm.newer (Frm.newer (f9.mono (fun q hq=>List.mem_cons_of_mem _ hq)) f5 (fun q hq=> ?_)) ff (fun q hq=> ?_)
  ·rw [List.mem_singleton.1 hq]
   rcases hM9 with e | e
   ·exact .inl (List.mem_cons_of_mem _ (by simp [FB,e]))
   ·exact .inr (by omega)
  ·rw [List.mem_singleton.1 hq]
   exact .inl (List.mem_cons_self ..)
 have Ca:∀q∈Fs.flatten,q∉fb::FB v:=fun q hq e=>by
  rcases List.mem_cons.1 e with e | e
  ·exact hfb (by rw [<-e];exact List.mem_append_right _ hq)
  ·exact (List.nodup_append.1 hN).2.2 q e q hq rfl
 have r5:=zxe hF9 hk y0 y1 y2 y3 y4
 have r6:W.ownsRow 0 29 5 (.slice (some ⟨g9,0,none⟩) (m+1) cap9) (m+1) (Cs.flatten++[y0,y1,y2,y3,y4]):=zbG r5 ff (fun q hq=>by
  have:q=g9:=by simpa [FB,Value.ownBlock]using hq
  simp [this]
  exact Ne.symm hfg)
 have Ba:R W [y0,y1,y2,y3,y4] y G:=hRf hy Aa (fun q hq e=>by
  rcases List.mem_cons.1 e with e | e
  ·exact hfG (by rw [<-e];exact hq)
  ·exact hgG q (List.mem_append_left _ e) hq)
 obtain⟨q1,q2⟩:=OwElems.pushG (R:=R) hRf h1 h2 h3 hN rfl Ba hGN e9.2 (fun q hq=>hgG q (List.mem_append_right _ hq)) hlt hm r6 Aa Ca (hM9.imp id (fun e=>by omega))
 exact⟨q1,q2,Aa⟩
structure Inn (w:Xk) (q m c:Nat) (os:List OnD) (b0:OnD) (F:Xh) (Cs:List (Xj)) (a1 a2 a3:Xl) (ad:Xi) (cd:Nat) (Fc:Xh) (Cs2:List (Xj)) (Fs2:List (Xh)):Prop where
 rj:RowJ w 29 5 q (m+1) c Cs m [.int .i64 b0.kind,a1,a2,a3,.slice ad b0.kids.length cd]
 k1 : -9223372036854775808<=b0.kind
 k2:b0.kind<=9223372036854775807
 e1:RowM w 0 a1 b0.name
 e2:RowM w 0 a2 b0.text
 e3:OwAttrsM w a3 b0.attrs Fc
 f1:Cs2.length=b0.kids.length
 f2:Fs2.length=b0.kids.length
 f3:∀i (hi:i<b0.kids.length),(Cs2.getD i []).length=5∧OwX w (Cs2.getD i []) b0.kids[i] (Fs2.getD i [])
 f4:w.ownsRow 0 29 5 (.slice ad b0.kids.length cd) b0.kids.length Cs2.flatten
 nd:(FB a1++FB a2++Fc++(FB (.slice ad b0.kids.length cd)++Fs2.flatten)).Nodup
 sub:∀x∈FB a1++FB a2++Fc++(FB (.slice ad b0.kids.length cd)++Fs2.flatten),x∈F
 qF:q∈F
 qG:q∉FB a1++FB a2++Fc++(FB (.slice ad b0.kids.length cd)++Fs2.flatten)
 lt:∀x∈F,x<w.heap.size
 close:∀(w':Xk) (S:Xh) (D:Xj) (p':OnD) (G':Xh),RowJ w' 29 5 q (m+1) c Cs m D->Frm w w' S->(∀x∈F,x∉FB a1++FB a2++Fc++(FB (.slice ad b0.kids.length cd)++Fs2.flatten)->x≠q->x∉S)->OwE w' D p' G'->G'.Nodup->
  (∀x∈G',x∈FB a1++FB a2++Fc++(FB (.slice ad b0.kids.length cd)++Fs2.flatten)∨x∉F)->
  ∃F',OwElems w' 29 5 (.slice (some ⟨q,0,none⟩) (m+1) c) (os.set m p') (OwE w') F'∧F'.Nodup∧∀x∈F',x∈F∨x∈G'
theorem zeI {w:Xk} {b e s n:Nat} {v:Xl} {xs:Xj} (h:w.ownsRow b e s v n xs):∃a c,v=.slice a n c:=by
 rcases h.2 with ⟨rfl,rfl⟩ | ⟨g,Ba,Aa,rfl,_⟩
 ·exact⟨none,0,rfl⟩
 ·exact⟨_,_,rfl⟩
theorem zlv {w:Xk} {q m c:Nat} {os:List OnD} {b0:OnD} {F:Xh} (h:OwElems w 29 5 (.slice (some ⟨q,0,none⟩) (m+1) c) os (OwE w) F) (hN:F.Nodup) (hl:os.length=m+1) (hb:os[m]? = some b0):∃Cs a1 a2 a3 ad cd Fc Cs2 Fs2,Inn w q m c os b0 F Cs a1 a2 a3 ad cd Fc Cs2 Fs2:=by
 have Da:∀x∈F,x<w.heap.size:=fun x hx=>by
  obtain⟨cs,T,fz,e⟩:=zdl h (fun C x G hr=>hr.cellsN) x hx
  exact (Array.getElem?_eq_some_iff.1 e).1
 rw [<-hl]at h
 obtain⟨Cs,C1,G1,Ia,hE,Ca,Ba,Fa,Ga,Aa⟩:=OwElems.one (R:=OwE) (fun h f d=>OwE.frm h f d) h hN m (by omega)
 have Ha:os[m]'(by omega)=b0:=by
  rw [List.getElem?_eq_getElem (by omega)]at hb
  exact Option.some.inj hb
 rw [Ha]at hE
 obtain⟨a1,a2,a3,d,Fc,Fd,rfl,k1,k2,e1,e2,e3,⟨Cs2,Fs2,f1,f2,f3,f4,rfl⟩,rfl⟩:=hE
 obtain⟨ad,cd,rfl⟩:=zeI f4
 refine⟨Cs,a1,a2,a3,ad,cd,Fc,Cs2,Fs2,by rw [<-hl];exact Ia,k1,k2,e1,e2,e3,f1,f2,f3,f4,Ca,Ba,Fa,Ga,Da,fun w' S D p' G' h1 h2 h3 h4 h5 h6=> ?_⟩
 obtain⟨F',g1,g2,g3⟩:=Aa w' S D p' G' (by rw [hl];exact h1) h2 h3 h4 h5 h6
 refine⟨F',?_,g2,g3⟩
 rw [List.length_set,hl]at g1
 exact g1
theorem zts {B:Nat} {o1 o2 o3 o4 o5 o6 o8:Xl} {w4 wa w9:Xk} {g q m c:Nat} {os:List OnD} {b0:OnD} {F:Xh} {Cs:List (Xj)} {a1 a2 a3:Xl} {ad:Xi} {cd:Nat} {Fc:Xh} {Cs2:List (Xj)} {Fs2:List (Xh)}
  (I:Inn w4 q m c os b0 F Cs a1 a2 a3 ad cd Fc Cs2 Fs2) (hset:RSet B o1 o2 o3 o4 o5 o6 (.slice (some ⟨q,0,none⟩) (m+1) c) o8 w4 g) (hgF:g∉F) (hba:Below w4.heap.size w4 wa)
  {cap9 g9:Nat} {z0 z1 z2 z3 z4 y0 y1 y2 y3 y4:Xl} {its:List Itm} {G:Xh} (hF9:w9.ownsRow 0 29 5 (.slice (some ⟨g9,0,none⟩) (b0.kids.length+1) cap9) (b0.kids.length+1) (Cs2.flatten++[z0,z1,z2,z3,z4])) (hg9:wa.grownBy w9 (Value.slice ad b0.kids.length cd).ownBlock) (hM9:(Value.slice ad b0.kids.length cd).ownBlock=some g9∨g9=wa.heap.size)
  (hy:OwX w4 [y0,y1,y2,y3,y4] its G) (hGN:G.Nodup) (hFG:∀x∈F,x∉G) (hGlt:∀x∈G,x<w4.heap.size)
  (W:Xk) (hW:W=(set5 w9 g9 (b0.kids.length*5) y0 y1 y2 y3 y4).setCell ⟨q,m*5+4,none⟩ (.slice (some ⟨g9,0,none⟩) (b0.kids.length+1) cap9)) :
  ∃F',RSet B o1 o2 o3 o4 o5 o6 (.slice (some ⟨q,0,none⟩) (m+1) c) o8 W g∧OwElems W 29 5 (.slice (some ⟨q,0,none⟩) (m+1) c) (os.set m { b0 with kids:=b0.kids++[its] }) (OwE W) F'∧F'.Nodup∧(∀x∈F',x∈F∨x∈G∨w4.heap.size<=x)∧Frm w4 W F:=by
 have Na:=hba.size
 have Oa:g<w4.heap.size:=zaP hset.cells.1
 have Ga:q∉FB (.slice ad b0.kids.length cd)++Fs2.flatten:=fun e=>I.qG (List.mem_append_right _ e)
 have Aa:∀x∈FB (.slice ad b0.kids.length cd)++Fs2.flatten,x∈F:=fun x hx=>I.sub x (List.mem_append_right _ hx)
 have Ca:=List.nodup_append.1 I.nd
 have h9:g9∈FB (.slice ad b0.kids.length cd)∨g9=wa.heap.size:=hM9.imp (fun e=>by simp [FB,e]) id
 have Ja:q≠g9:=by
  rcases h9 with e | e
  ·exact fun e'=>Ga (by rw [e'];exact List.mem_append_left _ e)
  ·have:=I.lt q I.qF;omega
 have Fa:g≠g9:=by
  rcases h9 with e | e
  ·exact fun e'=>hgF (by rw [e'];exact Aa _ (List.mem_append_left _ e))
  ·omega
 have La:Cs2.flatten.length=b0.kids.length*5:=I.f4.1
 obtain⟨p1,p2,p3⟩:=znE (R:=OwX) (fun h f d=>OwX.frm h f d) (v:=.slice ad b0.kids.length cd) (m:=b0.kids.length) (k:=b0.kids.length*5) (fb:=q) (fo:=m*5+4) I.f1 I.f2 (fun i hi=>⟨(I.f3 i hi).1,OwX.frm (I.f3 i hi).2 (Frm.ofBelow hba []) (fun _ _=>by simp)⟩) Ca.2.1 (fun x hx=>by have:=I.lt x (Aa x hx);omega) rfl La.symm hF9 hg9 hM9 Ga Ja (fun e=>hFG q I.qF e) (OwX.frm hy (Frm.ofBelow hba []) (fun _ _=>by simp)) hGN (fun x hx=>hFG x (Aa x hx)) (fun x hx=>by have:=hGlt x hx;omega) W hW
 have f0:Frm w4 W (q::FB (.slice ad b0.kids.length cd)):=(Frm.ofBelow hba _).trans p3
 have Ka:Frm w4 w9 (FB (.slice ad b0.kids.length cd)):=(Frm.ofBelow hba _).trans (by have:=Frm.ofGrown hg9;simpa [FB]using this)
 have f5:=zkB w9 g9 (b0.kids.length*5) y0 y1 y2 y3 y4
 have Ha:RowJ (set5 w9 g9 (b0.kids.length*5) y0 y1 y2 y3 y4) 29 5 q (m+1) c Cs m [.int .i64 b0.kind,a1,a2,a3,.slice ad b0.kids.length cd]:=(I.rj.frm Ka (fun e=>Ga (List.mem_append_left _ e))).frm f5 (by simpa using Ja)
 have Ia:=Ha.put 4 (by decide) (.slice (some ⟨g9,0,none⟩) (b0.kids.length+1) cap9)
 rw [<-hW]at Ia
 have Ma:RSet B o1 o2 o3 o4 o5 o6 (.slice (some ⟨q,0,none⟩) (m+1) c) o8 W g:=by
  have s9:=hset.frm Ka (fun e=>hgF (Aa _ (List.mem_append_left _ e))) (fun x hx=>.inr (zfY I.f4 x hx))
  have s5:=s9.frm f5 (by simpa using Fa) (fun x hx=>.inr (by rw [List.mem_singleton.1 hx];exact zin hF9))
  have s6:=s5.frm (Frm.set _ q (m*5+4) (.slice (some ⟨g9,0,none⟩) (b0.kids.length+1) cap9)) (by simp;exact fun e=>hgF (by rw [e];exact I.qF)) (fun x hx=>.inr (by rw [List.mem_singleton.1 hx];exact zin Ha.row))
  rw [<-hW]at s6
  exact s6
 have Ba:∀x∈FB a1++FB a2++Fc,x∉q::FB (.slice ad b0.kids.length cd):=fun x hx e=>by
  rcases List.mem_cons.1 e with e | e
  ·exact I.qG (by rw [<-e];exact List.mem_append_left _ hx)
  ·exact Ca.2.2 x hx x (List.mem_append_left _ e) rfl
 have hE:OwE W [.int .i64 b0.kind,a1,a2,a3,.slice (some ⟨g9,0,none⟩) (b0.kids.length+1) cap9] { b0 with kids:=b0.kids++[its] } (FB a1++FB a2++Fc++(g9::(Fs2.flatten++G))):=
  ⟨a1,a2,a3,_,Fc,_,rfl,I.k1,I.k2,I.e1.frm f0 (fun x hx=>Ba x (by simp [hx])),I.e2.frm f0 (fun x hx=>Ba x (by simp [hx])),OwAttrsM.frm I.e3 f0 (fun x hx=>Ba x (by simp [hx])),p1,rfl⟩
 have Da:(FB a1++FB a2++Fc++(g9::(Fs2.flatten++G))).Nodup:=List.nodup_append.2 ⟨Ca.1,p2,fun x hx y hy e=>by
  subst e
  rcases List.mem_cons.1 hy with e | e
  ·subst e
   rcases h9 with e | e
   ·exact Ca.2.2 x hx x (List.mem_append_left _ e) rfl
   ·have:=I.lt x (I.sub x (List.mem_append_left _ hx));omega
  ·rcases List.mem_append.1 e with e | e
   ·exact Ca.2.2 x hx x (List.mem_append_right _ e) rfl
   ·exact hFG x (I.sub x (List.mem_append_left _ hx)) e⟩
 obtain⟨F',c1,c2,c3⟩:=I.close W _ _ _ _ Ia f0 (fun x hx h1 h2 e=>by
  rcases List.mem_cons.1 e with e | e
  ·exact h2 e
  ·exact h1 (List.mem_append_right _ (List.mem_append_left _ e))) hE Da (fun x hx=>by
  rcases List.mem_append.1 hx with hx | hx
  ·exact .inl (List.mem_append_left _ hx)
  ·rcases List.mem_cons.1 hx with e | e
   ·subst e
    rcases h9 with e | e
    ·exact .inl (List.mem_append_right _ (List.mem_append_left _ e))
    ·exact .inr (fun e'=>by have:=I.lt x e';omega)
   ·rcases List.mem_append.1 e with e | e
    ·exact .inl (List.mem_append_right _ (List.mem_append_right _ e))
    ·exact .inr (fun e'=>hFG x e' e))
 refine⟨F',Ma,c1,c2,fun x hx=> ?_,f0.mono (fun x hx=>by
  rcases List.mem_cons.1 hx with e | e
  ·rw [e];exact I.qF
  ·exact Aa x (List.mem_append_left _ e))⟩
 rcases c3 x hx with e | e
 ·exact .inl e
 ·rcases List.mem_append.1 e with e | e
  ·exact .inl (I.sub x (List.mem_append_left _ e))
  ·rcases List.mem_cons.1 e with e | e
   ·subst e
    rcases h9 with e | e
    ·exact .inl (Aa x (List.mem_append_left _ e))
    ·exact .inr (.inr (by omega))
   ·rcases List.mem_append.1 e with e | e
    ·exact .inl (Aa x (List.mem_append_right _ e))
    ·exact .inr (.inl e)
theorem OwElems.row1 {α:Type} {w:Xk} {e size n:Nat} {v:Xl} {l:List α} {R:Xj->α->Xh->Prop} {F:Xh} (h:OwElems w e size v l R F) (h0:l.length=n+1):∃q c,v=.slice (some ⟨q,0,none⟩) (n+1) c∧n+1<=c:=by
 obtain⟨Cs,Fs,e1,e2,e3,e4,rfl⟩:=h
 rw [h0]at e4
 rcases e4.2 with ⟨_,q⟩ | ⟨g,Ba,Ca,q,hb,hg,Aa,Da,Ga,Fa⟩
 ·omega
 ·exact⟨g,Ba,q,Aa⟩
theorem OwE.shape5 {w:Xk} {C:Xj} {o:OnD} {F:Xh} (h:OwE w C o F):∃a1 c1 a2 c2 a3 c3 a4 c4,C=[.int .i64 o.kind,.slice a1 o.name.length c1,.slice a2 o.text.length c2,.slice a3 o.attrs.length c3,.slice a4 o.kids.length c4]:=by
 obtain⟨a,b,c,d,Fc,Fd,rfl,_,_,h1,h2,⟨_,_,_,_,_,h3,_⟩,⟨_,_,_,_,_,h4,_⟩,_⟩:=h
 obtain⟨a1,c1,rfl⟩:=h1.shape
 obtain⟨a2,c2,rfl⟩:=h2.shape
 obtain⟨a3,c3,rfl⟩:=zeI h3
 obtain⟨a4,c4,rfl⟩:=zeI h4
 exact⟨_,_,_,_,_,_,_,_,rfl⟩
theorem zkA (w:Xk):∀(i:Nat) (u:Xl),(nz.toList)[i]? = some u->(w.alloc (.cells nz 29)).drew.cell? ((⟨w.heap.size,0,none⟩:Addr).add i)=some u:=by
 have ln:=(Loc.made w nz 29).all ((Below.refl _ _).drew)
 intro i u hu
 rw [show ((⟨w.heap.size,0,none⟩:Addr).add i)=⟨w.heap.size,i,none⟩ by simp [Addr.add];exact fun e=>e.symm]
 rw [<-hu]
 unfold Loc at ln
 rw [cell_of_row _ _ _ _ _ _ ln]
 simp
theorem Inn.q9 {w wa:Xk} {q m c:Nat} {os:List OnD} {b0:OnD} {F:Xh} {Cs:List (Xj)} {a1 a2 a3:Xl} {ad:Xi} {cd:Nat} {Fc:Xh} {Cs2:List (Xj)} {Fs2:List (Xh)} (I:Inn w q m c os b0 F Cs a1 a2 a3 ad cd Fc Cs2 Fs2) (hba:Below w.heap.size w wa) {g9:Nat} (hM9:(Value.slice ad b0.kids.length cd).ownBlock=some g9∨g9=wa.heap.size):g9≠q:=by
 have:=hba.size
 have hq:=I.lt q I.qF
 rcases hM9 with e | e
 ·exact fun e'=>I.qG (List.mem_append_right _ (List.mem_append_left _ (by simp [FB,e,e'])))
 ·omega
theorem Inn.rj9 {w wa w9:Xk} {q m c:Nat} {os:List OnD} {b0:OnD} {F:Xh} {Cs:List (Xj)} {a1 a2 a3:Xl} {ad:Xi} {cd:Nat} {Fc:Xh} {Cs2:List (Xj)} {Fs2:List (Xh)} (I:Inn w q m c os b0 F Cs a1 a2 a3 ad cd Fc Cs2 Fs2) (hba:Below w.heap.size w wa) (hg9:wa.grownBy w9 (Value.slice ad b0.kids.length cd).ownBlock):RowJ w9 29 5 q (m+1) c Cs m [.int .i64 b0.kind,a1,a2,a3,.slice ad b0.kids.length cd]:=
 I.rj.frm ((Frm.ofBelow hba (FB (.slice ad b0.kids.length cd))).trans (by have:=Frm.ofGrown hg9;simpa [FB]using this)) (fun e=>I.qG (List.mem_append_right _ (List.mem_append_left _ e)))
def zgM (g:Nat) (w:Xk):Nat:=slen ((w.cell? ⟨g,6,none⟩).getD (.int .i64 0))
set_option maxHeartbeats 12800000 in
theorem zeS {w0:Xk} {a:Xi} {cap:Nat} {l:Xg} {g k:Nat} {o3 o4 o5 o6 ov:Xl} {p:Nat} {F:Xh} {W:Xk} {top:OnD} {below:List OnD} (h:RdSt w0 a cap l g k o3 o4 o5 o6 ov (top::below).reverse p F W) (fr:Nat) (hfr:1<=fr) (hlen:below.length<=19) (hkid:∀o∈top::below,o.kids.length<=900) :
  Calls Tryz.prog 57 #[.pointer (some ⟨g,0,none⟩),.int .i64 fr] W fun e w'=>e=.returned (.tuple #[])∧∃ov' F',RdSt w0 a cap l g k o3 o4 o5 o6 ov' ((zaT (below.length+1-fr) top below).1::(zaT (below.length+1-fr) top below).2).reverse p F' w':=by
 refine zaw ?_
 intro Q HQ
 have HH:=hide h
 have HK:=hide (show ∀o∈top::below,o.kids.length+below.length<=1000 from fun o ho=>by have:=hkid o ho;omega)
 clear h hkid
 obtain⟨Z,hZ⟩:∃Z,Z=zaT (below.length+1-fr) top below:=⟨_,rfl⟩
 rw [<-hZ]at HQ
 have HZ:=hide hZ
 clear hZ
 go_enter Tryz.func57,Tryz.ntmps57
 go_wp2_with fail
 go_loopw [4,5] (fun _ _ wr=>∃(t:OnD) (b:List OnD) (ov':Xl) (F':Xh),Hid (RdSt w0 a cap l g k o3 o4 o5 o6 ov' (t::b).reverse p F' wr)∧b.length<=19∧Hid (Z=zaT (b.length+1-fr) t b)∧Hid (∀o∈t::b,o.kids.length+b.length<=1000)) (fun _ _ wr=>zgM g wr)
 case atStart=>exact⟨top,below,ov,F,HH,hlen,HZ,HK⟩
 case round=>
  clear HH HZ HK hlen
  obtain⟨t,b,ov',F',HS,Pa,HZ,HK⟩:=hrel
  by_cases hlt:fr<b.length+1
  ·obtain⟨b0,bs,rfl⟩:∃b0 bs,b=b0::bs:=by
    cases b with
    | nil=>simp at hlt;omega
    | cons x y=>exact⟨x,y,rfl⟩
   have hS:=zaa HS
   have fb:b0.kids.length<=1000:=by have:=zaa HK b0 (by simp);omega
   obtain⟨q,c,rfl,ta⟩:=hS.row.row1 (n:=bs.length+1) (by simp)
   obtain⟨m,em⟩:∃m,m=bs.length:=⟨_,rfl⟩
   simp only [List.length_cons]at hlt Pa HZ
   have Ya:=hS.row
   have Bb:(t::b0::bs).reverse=(bs.reverse++[b0])++[t]:=by simp
   have aa:(bs.reverse++[b0]).length=bs.length+1:=by simp
   have xa:((bs.reverse++[b0])++[t]).length=bs.length+1+1:=by simp
   rw [Bb,<-xa]at Ya
   obtain⟨C,F1,G,Yb,Ua,Qa,Aa,Oa,Ia,Ga,Ha,Ja⟩:=Ya.pop hS.nd
   rw [aa]at Aa Ua
   obtain⟨p1,d1,p2,d2,p3,d3,p4,d4,rfl⟩:=Qa.shape5
   have Fa:=hS.set
   rw [<-em]at Fa Aa Ua aa ta
   have HM:=hide em
   have Ob:m<=18:=by omega
   have Ub:fr<m+1+1:=by omega
   have HI:=hide (ziP Fa (m:=m+1) (by omega))
   obtain⟨_,_,_,_,_,_,s6,_,sz⟩:=Fa.cells
   have eb:g<wr.heap.size:=zaP s6
   have x0:=Ua 0 (by decide)
   have x1:=Ua 1 (by decide)
   have x2:=Ua 2 (by decide)
   have x3:=Ua 3 (by decide)
   have x4:=Ua 4 (by decide)
   simp only [Nat.add_zero,List.getElem?_cons_zero,List.getElem?_cons_succ]at x0 x1 x2 x3 x4
   obtain⟨K1,Cb⟩:∃K1,K1=(m+1)*5:=⟨_,rfl⟩
   rw [<-Cb]at HI x0 x1 x2 x3 x4
   have da:q<wr.heap.size:=zaP x0
   have q1:(fr:Int)<(m:Int)+1+1:=by omega
   have HX:=hide (And.intro hS (And.intro Fa (And.intro (And.intro x0 (And.intro x1 (And.intro x2 (And.intro x3 x4)))) (And.intro Qa (And.intro Aa (And.intro Oa (And.intro Ia (And.intro Ga (And.intro Ha Ja)))))))))
   clear em hlt Pa
   clear hS Ya Fa Ua Qa Aa Oa Ia Ga Ha Ja x0 x1 x2 x3 x4 aa xa Bb HS Yb Cb
   go_wp2_with fail
   refine (zaa HI).mono ?_
   rintro e w1 ⟨rfl,Wa⟩
   obtain⟨hS,Fa,⟨x0,x1,x2,x3,x4⟩,Qa,Aa,Oa,Ia,Ga,Ha,Ja⟩:=zaa HX
   have x0:=(Wa.cell (p:=⟨q,K1,none⟩) da).trans x0
   have x1:=(Wa.cell (p:=⟨q,K1+1,none⟩) da).trans x1
   have x2:=(Wa.cell (p:=⟨q,K1+2,none⟩) da).trans x2
   have x3:=(Wa.cell (p:=⟨q,K1+3,none⟩) da).trans x3
   have x4:=(Wa.cell (p:=⟨q,K1+4,none⟩) da).trans x4
   have qa:Below w1.heap.size w1 (w1.alloc (.cells #[.int .i64 t.kind,.slice p1 t.name.length d1,.slice p2 t.text.length d2,.slice p3 t.attrs.length d3,.slice p4 t.kids.length d4] 29)):=(Below.refl _ _).alloc (Nat.le_refl _) _
   have lb:=Loc.made w1 #[.int .i64 t.kind,.slice p1 t.name.length d1,.slice p2 t.text.length d2,.slice p3 t.attrs.length d3,.slice p4 t.kids.length d4] 29
   have ha:=zal Wa qa
   have Ma:=Fa.keep ha
   have jb:=Wa.size
   obtain⟨_,_,_,_,_,_,s6,_,sz⟩:=Ma.cells
   have z6:=sz 6
   have fa:∀W:Xk,Below W.heap.size W W.drew:=fun W=>(Below.refl _ _).drew
   have Ba:=((Ma.put (.slice (some ⟨q,0,none⟩) (m+1) c)).2.2.2.2.2.1).keep (fa _)
   have F3:=((Frm.ofBelow ha [g]).trans (Frm.set _ g 6 (.slice (some ⟨q,0,none⟩) (m+1) c))).trans (Frm.ofBelow (fa _) [g])
   have Sa:=(lb.frm (Frm.set _ g 6 (.slice (some ⟨q,0,none⟩) (m+1) c)) (by simp;omega)).all (fa _)
   have q2:(0:Int)<=(m:Int):=by omega
   have q3:(m:Int)+1<=(c:Int):=by omega
   have va:=hide (And.intro hS (And.intro Ba (And.intro Sa (And.intro F3 (And.intro Qa (And.intro Aa (And.intro Oa (And.intro Ia (And.intro Ga (And.intro Ha Ja))))))))))
   clear HX HI hS Fa Qa Aa Oa Ia Ga Ha Ja qa lb Wa ha Ma Ba F3 Sa sz fa
   go_wp2_with fail
   go_region
   go_wp2_with fail
   generalize ((w1.alloc (.cells #[.int .i64 t.kind,.slice p1 t.name.length d1,.slice p2 t.text.length d2,.slice p3 t.attrs.length d3,.slice p4 t.kids.length d4] 29)).setCell ⟨g,6,none⟩ (.slice (some ⟨q,0,none⟩) (m+1) c)).drew=w3 at *
   obtain⟨hS,Ba,Sa,F3,Qa,Aa,Oa,Ia,Ga,Ha,Ja⟩:=zaa va
   have sa:=hide (ziP Ba (m:=m) (by omega))
   have la:=hS.gF
   have Ca:=OwElems.frm Aa F3 (fun q hq=>zcH la (Ga q hq)) (fun C x G' hr Db=>OwE.frm hr F3 Db)
   have La:=OwE.frm Qa F3 (fun q hq=>zcH la (Ha q hq))
   have cb:=F3.size
   have za:=hide (And.intro hS (And.intro Ba (And.intro Sa (And.intro F3 (And.intro La (And.intro Ca (And.intro Oa (And.intro Ia (And.intro Ga (And.intro Ha Ja))))))))))
   clear va hS Ba Sa F3 Qa Aa Oa Ia Ga Ha Ja Ca La x0 x1 x2 x3 x4 s6 z6
   refine (zaa sa).mono ?_
   rintro e w4 ⟨rfl,Va⟩
   obtain⟨hS,Ba,Sa,F3,La,Ca,Oa,Ia,Ga,Ha,Ja⟩:=zaa za
   have Da:=Ba.keep Va
   have Na:=Sa.all Va
   have Ta:=OwElems.frm Ca (Frm.ofBelow Va []) (fun _ _=>by simp) (fun C x G' hr Db=>OwE.frm hr (Frm.ofBelow Va []) (fun _ _=>by simp))
   have Ka:=OwE.frm La (Frm.ofBelow Va []) (fun _ _=>by simp)
   have F4:=F3.trans (Frm.ofBelow Va [g])
   have ib:=Va.size
   clear za sa Ba Sa F3 La Ca Va
   have aa:(bs.reverse++[b0]).length=m+1:=by rw [zaa HM];simp
   have Fb:(bs.reverse++[b0])[m]? = some b0:=by
    rw [List.getElem?_append_right (by rw [zaa HM];simp)]
    simp [zaa HM]
   obtain⟨Cs,a1,a2,a3,ad,cd,Fc,Sb,hb,I⟩:=zlv Ta Oa aa Fb
   have ba:g∉F1:=fun e=>hS.gF (Ga g e)
   have ga:=hide (hS.bel.trans ((F4.below hS.bel.size (fun x hx=>by rw [List.mem_singleton.1 hx];exact hS.geg))))
   have ca:=hide (And.intro hS (And.intro Da (And.intro I (And.intro Ka (And.intro Ia (And.intro Ga (And.intro Ha Ja)))))))
   have u4:=I.rj.cell 4 (by decide)
   have ab:=I.rj.frozen (m*5+4)
   have ra:q<w4.heap.size:=I.lt q I.qF
   have Za:Below w4.heap.size w4 w4.drew:=(Below.refl _ _).drew
   have Ra:Below w4.heap.size w4 (w4.alloc (.cells nz 29)).drew:=((Below.refl _ _).alloc (Nat.le_refl _) _).drew
   have ua:w4.drew.cell? ⟨q,m*5+4,none⟩=some (.slice ad b0.kids.length cd):=(Za.cell (p:=⟨q,m*5+4,none⟩) ra).trans u4
   have ub:(w4.alloc (.cells nz 29)).drew.cell? ⟨q,m*5+4,none⟩=some (.slice ad b0.kids.length cd):=(Ra.cell (p:=⟨q,m*5+4,none⟩) ra).trans u4
   have v0:=(Na.all Za).cell 0
   have v1:=(Na.all Za).cell 1
   have v2:=(Na.all Za).cell 2
   have v3:=(Na.all Za).cell 3
   have v4:=(Na.all Za).cell 4
   have y0:=(Na.all Ra).cell 0
   have y1:=(Na.all Ra).cell 1
   have y2:=(Na.all Ra).cell 2
   have y3:=(Na.all Ra).cell 3
   have y4:=(Na.all Ra).cell 4
   simp at v0 v1 v2 v3 v4 y0 y1 y2 y3 y4
   have HR:=hide (zbG I.f4 (Frm.ofBelow Ra []) (by simp))
   have HC:=hide (zkA w4)
   have ea:=hide Ra
   have gb:(0:Int)<=(b0.kids.length:Int):=by omega
   have db:(b0.kids.length:Int)<(b0.kids.length:Int)+1:=by omega
   obtain⟨i0,Tb,Kb,Vb,ja⟩:=info_parts zkg
   clear hS Da I Ka Ia Ga Ha Ja Oa Ta Na F4 aa Fb u4 ab Za Ra la
   go_wp2_with fail
   go_region_law (refine step_append_lies _ (by rfl) (.tmp 36) (.tmp 39) 27 (by rfl) 0 29 i0 (.agg #[.int .i64 0,.slice none 0 0,.slice none 0 0,.slice none 0 0,.slice none 0 0]) 5 104 Tryz.underlying27 Tb Kb Vb ja rfl (by decide) _ b0.kids.length Sb.flatten (by rfl) (zaa HR) ⟨w4.heap.size,0,none⟩ 1 1 nz.toList (by rfl) rfl (zaa HC) (by intro y hy;simp at hy;rcases hy with rfl | rfl<;>rfl) (by decide) (by unfold maxLen;omega) (by omega) (Nat.zero_le _) _ rfl ?_;intro g9 Xa w9 ka na ia kb;obtain⟨n0,n1,n2,n3,n4,nf⟩:=ziS ka (zaa ca).2.2.1.f4.1 rfl;have Pb:=nf (b0.kids.length*5);have Ib:=nf (b0.kids.length*5+1);have Gb:=nf (b0.kids.length*5+2);have Rb:=nf (b0.kids.length*5+3);have Hb:=nf (b0.kids.length*5+4);have Jb:=(zaa ca).2.2.1.q9 (zaa ea) ia;have r9:=(zaa ca).2.2.1.rj9 (zaa ea) na;have m4:=r9.cell 4 (by decide);have Zb:=r9.frozen (m*5+4))
   all_goals
    first
    |rw [ziU w9 (b0.kids.length*5) (m*5+4) _ _ _ _ _ _ Jb]
     generalize hW:World.setCell (set5 w9 g9 (b0.kids.length*5) (.int .i64 t.kind) (.slice p1 t.name.length d1) (.slice p2 t.text.length d2) (.slice p3 t.attrs.length d3) (.slice p4 t.kids.length d4)) ⟨q,m*5+4,none⟩ (.slice (some ⟨g9,0,none⟩) (b0.kids.length+1) Xa)=W9
    | generalize hW:World.setCell (World.setCell (World.setCell (World.setCell (World.setCell (World.setCell w9 ⟨g9,b0.kids.length*5,none⟩ (.int .i64 t.kind)) ⟨g9,b0.kids.length*5+1,none⟩ (.slice p1 t.name.length d1)) ⟨g9,b0.kids.length*5+2,none⟩ (.slice p2 t.text.length d2)) ⟨g9,b0.kids.length*5+3,none⟩ (.slice p3 t.attrs.length d3)) ⟨g9,b0.kids.length*5+4,none⟩ (.slice p4 t.kids.length d4)) ⟨q,m*5+4,none⟩ (.slice (some ⟨g9,0,none⟩) (b0.kids.length+1) Xa)=W9
    have ya:W9=(set5 w9 g9 (b0.kids.length*5) (.int .i64 t.kind) (.slice p1 t.name.length d1) (.slice p2 t.text.length d2) (.slice p3 t.attrs.length d3) (.slice p4 t.kids.length d4)).setCell ⟨q,m*5+4,none⟩ (.slice (some ⟨g9,0,none⟩) (b0.kids.length+1) Xa):=by
     exact hW.symm
    obtain⟨hS,Da,I,Ka,Ia,Ga,Ha,Ja⟩:=zaa ca
    obtain⟨F9,Eb,Ab,wa,ma,pa⟩:=zts I Da ba (zaa ea) ka na ia Ka.close Ia Ja (fun x hx=>by
     obtain⟨cs,T,fz,e⟩:=Ka.cellsN x hx
     exact (Array.getElem?_eq_some_iff.1 e).1) W9 ya
    have Xb:wr.heap.size<=w4.heap.size:=by omega
    have oa:RdSt w0 a cap l g k o3 o4 o5 o6 (.slice (some ⟨q,0,none⟩) (m+1) c) ({ b0 with kids:=b0.kids++[zav t] }::bs).reverse p F9 W9:=⟨Eb,by
      have e:(bs.reverse++[b0]).set m { b0 with kids:=b0.kids++[zav t] }=({ b0 with kids:=b0.kids++[zav t] }::bs).reverse:=by
       rw [List.set_append_right _ _ (by rw [zaa HM];simp)]
       simp [zaa HM]
      rw [<-e]
      exact Ab,wa,(zaa ga).trans (pa.below (zaa ga).size (fun x hx=>hS.geF x (Ga x hx))),hS.byt,fun x hx=>by
       rcases ma x hx with h | h | h
       ·exact hS.geF x (Ga x h)
       ·exact hS.geF x (Ha x h)
       ·have:=(zaa ga).size
        omega,hS.geg,hS.kl,hS.ll,fun hx=>by
       rcases ma g hx with h | h | h
       ·exact ba h
       ·exact hS.gF (Ha g h)
       ·omega⟩
    have Lb:=hide (show Z=zaT (bs.length+1-fr) { b0 with kids:=b0.kids++[zav t] } bs by
     have hz:=zaa HZ
     rw [show bs.length+1+1-fr=(bs.length+1-fr)+1 by have:=zaa HM;omega]at hz
     exact hz)
    have Qb:=hide (show ∀o∈{ b0 with kids:=b0.kids++[zav t] }::bs,o.kids.length+bs.length<=1000 from fun o ho=>by
     rcases List.mem_cons.1 ho with rfl | ho
     ·have:=zaa HK b0 (by simp)
      simp at this ⊢
      omega
     ·have:=zaa HK o (by simp [ho])
      simp at this
      omega)
    have Wb:zgM g W9=m+1:=by
     unfold zgM
     rw [oa.set.cells.2.2.2.2.2.2.1]
     rfl
    have Nb:zgM g wr=m+1+1:=by
     unfold zgM
     rw [hS.set.cells.2.2.2.2.2.2.1]
     simp [slen,zaa HM]
    have bb:=hide oa
    have Pa:bs.length<=19:=by have:=zaa HM;omega
    clear oa hS Da I Ka Ia Ga Ha Ja Eb Ab wa ma pa hW ya ca HR HC ea ka na ia ga HZ HK n0 n1 n2 n3 n4 nf Pb Ib Gb Rb Hb r9 m4 Zb
    go_wp2_with fail
    go_roundw
    case rel=>exact⟨_,bs,_,F9,bb,Pa,Lb,Qb⟩
    case measure=>rw [Wb,Nb];omega
  ·obtain⟨q,c,rfl,ta⟩:=(zaa HS).row.row1 (n:=b.length) (by simp)
   obtain⟨_,_,_,_,_,_,s6,_,sz⟩:=(zaa HS).set.cells
   have q1:¬ (fr:Int)<(b.length:Int)+1:=by omega
   have HE:=hide (zaa HQ (.returned (.tuple #[])) wr ⟨rfl,_,F',by
    have e:b.length+1-fr=0:=by omega
    have hz:=zaa HZ
    rw [e]at hz
    have ja:Z=(t,b):=by rw [hz];cases b<;>rfl
    rw [ja]
    exact zaa HS⟩)
   clear HQ HZ HS HK
   go_wp2_with fail
   go_end0
   exact zaa HE
open Classical in
theorem zBT {B:Nat} {o1 o2 o3 o4 o5 o6 o7 o8:Xl} {g:Nat} {w:Xk} {v:Xl} {l:Xg} (h:RSet B o1 o2 o3 o4 o5 o6 o7 o8 w g) (hB:B<=w.heap.size) (hv:∀w',Frm w w' [g]->Byt w' v l) :
  Calls Tryz.prog 60 #[.pointer (some ⟨g,8,none⟩),v] w fun e w'=>e=.returned (.bool (zba l))∧RSet B o1 o2 o3 o4 o5 o6 o7 o8 w' g∧Frm w w' [g]:=by
 refine (zyj B _ _ _ _ _ _ _ _ g w v l h hB hv).mono ?_
 rintro e w' ⟨rfl,hm,hf⟩
 refine⟨?_,.inr hm,hf⟩
 by_cases e:Void l
 ·rw [decide_eq_true e,(zdF l).2 e]
 ·rw [decide_eq_false e,Bool.eq_false_iff.2 (fun k=>e ((zdF l).1 k))]
theorem RdSt.at9 {w0 w4 wa w9:Xk} {a:Xi} {cap:Nat} {l:Xg} {g k q m c:Nat} {o3 o4 o5 o6:Xl} {os:List OnD} {p:Nat} {F:Xh} {xs:Xj} (hS:RdSt w0 a cap l g k o3 o4 o5 o6 (.slice (some ⟨q,0,none⟩) m c) os p (FB (.slice (some ⟨q,0,none⟩) m c)++F) w4) (e4:w4.ownsRow 0 29 5 (.slice (some ⟨q,0,none⟩) m c) m xs) (hba:Below w4.heap.size w4 wa) {g9:Nat} (hg9:wa.grownBy w9 (Value.slice (some ⟨q,0,none⟩) m c).ownBlock) (hM9:(Value.slice (some ⟨q,0,none⟩) m c).ownBlock=some g9∨g9=wa.heap.size) :
  g9≠g∧w9.cell? ⟨g,6,none⟩=some (.slice (some ⟨q,0,none⟩) m c)∧w9.frozen? ⟨g,6,none⟩=false:=by
 have Ba:g<w4.heap.size:=zaP hS.set.cells.1
 have Ca:=hba.size
 have Aa:Frm w4 w9 (FB (.slice (some ⟨q,0,none⟩) m c)):=(Frm.ofBelow hba _).trans (by have:=Frm.ofGrown hg9;simpa [FB]using this)
 have s9:=hS.set.frm Aa (fun e=>hS.gF (List.mem_append_left _ e)) (fun x hx=>.inr (zfY e4 x hx))
 obtain⟨_,_,_,_,_,_,c6,_,fz⟩:=s9.cells
 refine⟨?_,c6,fz 6⟩
 rcases hM9 with e | e
 ·exact fun e'=>hS.gF (List.mem_append_left _ (by simp [FB,e,e']))
 ·omega
theorem zyy {w0 w4 wa w9:Xk} {a:Xi} {cap:Nat} {l:Xg} {g k q m c:Nat} {o3 o4 o5 o6:Xl} {os:List OnD} {p:Nat} {Cs:List (Xj)} {Fs:List (Xh)}
  (hS:RdSt w0 a cap l g k o3 o4 o5 o6 (.slice (some ⟨q,0,none⟩) m c) os p (FB (.slice (some ⟨q,0,none⟩) m c)++Fs.flatten) w4) (hm:m=os.length) (e1:Cs.length=os.length) (e2:Fs.length=os.length) (e3:∀i (hi:i<os.length),(Cs.getD i []).length=5∧OwE w4 (Cs.getD i []) os[i] (Fs.getD i []))
  (e4:w4.ownsRow 0 29 5 (.slice (some ⟨q,0,none⟩) m c) m Cs.flatten) (hba:Below w4.heap.size w4 wa)
  {cap9 g9:Nat} {z0 z1 z2 z3 z4 y0 y1 y2 y3 y4:Xl} {y:OnD} {G:Xh} (hF9:w9.ownsRow 0 29 5 (.slice (some ⟨g9,0,none⟩) (m+1) cap9) (m+1) (Cs.flatten++[z0,z1,z2,z3,z4])) (hg9:wa.grownBy w9 (Value.slice (some ⟨q,0,none⟩) m c).ownBlock) (hM9:(Value.slice (some ⟨q,0,none⟩) m c).ownBlock=some g9∨g9=wa.heap.size)
  (hy:OwE w4 [y0,y1,y2,y3,y4] y G) (hGN:G.Nodup) (hFG:∀x∈FB (.slice (some ⟨q,0,none⟩) m c)++Fs.flatten,x∉G) (hgG:g∉G) (hG0:∀x∈G,w0.heap.size<=x)
  (W:Xk) (hW:W=(set5 w9 g9 (m*5) y0 y1 y2 y3 y4).setCell ⟨g,6,none⟩ (.slice (some ⟨g9,0,none⟩) (m+1) cap9)) :
  ∃F',RdSt w0 a cap l g k o3 o4 o5 o6 (.slice (some ⟨g9,0,none⟩) (m+1) cap9) (os++[y]) p F' W∧Frm w4 W (g::FB (.slice (some ⟨q,0,none⟩) m c)):=by
 have Ga:=hba.size
 have Fa:g<w4.heap.size:=zaP hS.set.cells.1
 have Ca:∀x∈FB (.slice (some ⟨q,0,none⟩) m c)++Fs.flatten,x<w4.heap.size:=fun x hx=>by
  obtain⟨cs,T,fz,e⟩:=hS.cells x hx
  exact (Array.getElem?_eq_some_iff.1 e).1
 have Ba:∀x∈G,x<w4.heap.size:=fun x hx=>by
  obtain⟨cs,T,fz,e⟩:=hy.cellsN x hx
  exact (Array.getElem?_eq_some_iff.1 e).1
 have h9:g9∈FB (.slice (some ⟨q,0,none⟩) m c)∨g9=wa.heap.size:=hM9.imp (fun e=>by simp [FB,e]) id
 have Aa:g≠g9:=by
  rcases h9 with e | e
  ·exact fun e'=>hS.gF (by rw [e'];exact List.mem_append_left _ e)
  ·omega
 obtain⟨p1,p2,p3⟩:=znE (R:=OwE) (fun h f d=>OwE.frm h f d) (v:=.slice (some ⟨q,0,none⟩) m c) (m:=m) (k:=m*5) (fb:=g) (fo:=6) e1 e2 (fun i hi=>⟨(e3 i hi).1,OwE.frm (e3 i hi).2 (Frm.ofBelow hba []) (fun _ _=>by simp)⟩) hS.nd (fun x hx=>by have:=Ca x hx;omega) hm e4.1.symm hF9 hg9 hM9 hS.gF Aa hgG (OwE.frm hy (Frm.ofBelow hba []) (fun _ _=>by simp)) hGN hFG (fun x hx=>by have:=Ba x hx;omega) W hW
 have f0:Frm w4 W (g::FB (.slice (some ⟨q,0,none⟩) m c)):=(Frm.ofBelow hba _).trans p3
 have Da:Frm w4 w9 (FB (.slice (some ⟨q,0,none⟩) m c)):=(Frm.ofBelow hba _).trans (by have:=Frm.ofGrown hg9;simpa [FB]using this)
 have s9:=hS.set.frm Da (fun e=>hS.gF (List.mem_append_left _ e)) (fun x hx=>.inr (zfY e4 x hx))
 have s5:=s9.frm (zkB w9 g9 (m*5) y0 y1 y2 y3 y4) (by simpa using Aa) (fun x hx=>.inr (by rw [List.mem_singleton.1 hx];exact zin hF9))
 have s6:=(s5.put (.slice (some ⟨g9,0,none⟩) (m+1) cap9)).2.2.2.2.2.1
 rw [<-hW]at s6
 refine⟨_,⟨s6,p1,p2,hS.bel.trans (f0.below hS.bel.size (fun x hx=> ?_)),hS.byt,fun x hx=> ?_,hS.geg,hS.kl,hS.ll,fun hx=> ?_⟩,f0⟩
 ·rcases List.mem_cons.1 hx with e | e
  ·rw [e];exact hS.geg
  ·exact hS.geF x (List.mem_append_left _ e)
 ·rcases List.mem_cons.1 hx with e | e
  ·subst e
   rcases h9 with e | e
   ·exact hS.geF x (List.mem_append_left _ e)
   ·have:=hS.bel.size;omega
  ·rcases List.mem_append.1 e with e | e
   ·exact hS.geF x (List.mem_append_right _ e)
   ·exact hG0 x e
 ·rcases List.mem_cons.1 hx with e | e
  ·exact Aa e
  ·rcases List.mem_append.1 e with e | e
   ·exact hS.gF (List.mem_append_right _ e)
   ·exact hgG e
theorem zAZ {w0 w2 wa w9:Xk} {a:Xi} {cap:Nat} {l:Xg} {g k q m c b:Nat} {o3 o4 o5 o6:Xl} {top:OnD} {below:List OnD} {p:Nat} {Cs:List (Xj)} {Fs:List (Xh)} {nm:Xg} {ats:List AtV} {a1 a3:Xi} {c1 c3:Nat} {G:Xh} {cs:Array Xl}
  (hS:RdSt w0 a cap l g k o3 o4 o5 o6 (.slice (some ⟨q,0,none⟩) m c) (top::below).reverse p (FB (.slice (some ⟨q,0,none⟩) m c)++Fs.flatten) w2) (lb:Loc w2 b cs 29) (hy:OwE w2 [.int .i64 0,.slice a1 nm.length c1,.slice none 0 0,.slice a3 ats.length c3,.slice none 0 0] ⟨0,nm,[],ats,[]⟩ G)
  (e1:Cs.length=(top::below).reverse.length) (e2:Fs.length=(top::below).reverse.length) (e3:∀i (hi:i<(top::below).reverse.length),(Cs.getD i []).length=5∧OwE w2 (Cs.getD i []) (top::below).reverse[i] (Fs.getD i [])) (e4:w2.ownsRow 0 29 5 (.slice (some ⟨q,0,none⟩) m c) m Cs.flatten) (hm:m=(top::below).reverse.length) (hba:Below w2.heap.size w2 wa)
  {cap9 g9:Nat} {z0 z1 z2 z3 z4:Xl} (hF9:w9.ownsRow 0 29 5 (.slice (some ⟨g9,0,none⟩) (m+1) cap9) (m+1) (Cs.flatten++[z0,z1,z2,z3,z4])) (hg9:wa.grownBy w9 (Value.slice (some ⟨q,0,none⟩) m c).ownBlock) (hM9:(Value.slice (some ⟨q,0,none⟩) m c).ownBlock=some g9∨g9=wa.heap.size)
  (hGN:G.Nodup) (hFG:∀x∈FB (.slice (some ⟨q,0,none⟩) m c)++Fs.flatten,x∉G) (hgG:g∉G) (hG0:∀x∈G,w0.heap.size<=x) (hFW:∀x∈FB (.slice (some ⟨q,0,none⟩) m c)++Fs.flatten,x<b) (hgW:g<b) (hs2:b+1<=w2.heap.size)
  (W:Xk) (hW:W=(set5 w9 g9 (m*5) (.int .i64 0) (.slice a1 nm.length c1) (.slice none 0 0) (.slice a3 ats.length c3) (.slice none 0 0)).setCell ⟨g,6,none⟩ (.slice (some ⟨g9,0,none⟩) (m+1) cap9)) :
  ∃F',RdSt w0 a cap l g k o3 o4 o5 o6 (.slice (some ⟨g9,0,none⟩) (m+1) cap9) (⟨0,nm,[],ats,[]⟩::top::below).reverse p F' W∧Loc W b cs 29∧∀w',Frm W w' [g]->Byt w' (.slice a1 nm.length c1) nm:=by
 obtain⟨F',h1,f0⟩:=zyy hS hm e1 e2 e3 e4 hba hF9 hg9 hM9 hy hGN hFG hgG hG0 W hW
 have hn:RowM w2 0 (.slice a1 nm.length c1) nm:=by
  obtain⟨x1,x2,x3,x4,_,_,e,_,_,q1,_⟩:=hy
  cases e
  exact q1
 have Aa:∀x∈FB (.slice a1 nm.length c1),x∈G:=by
  obtain⟨x1,x2,x3,x4,_,_,e,_,_,_,_,_,_,rfl⟩:=hy
  cases e
  intro x hx
  simp [hx]
 have Ba:=hn.frm f0 (fun x hx e=>by
  rcases List.mem_cons.1 e with e | e
  ·exact hgG (by rw [<-e];exact Aa x hx)
  ·exact hFG x (List.mem_append_left _ e) (Aa x hx))
 refine⟨F',?_,lb.frm f0 (fun e=> ?_),fun w' hf=>(Ba.frm hf (fun x hx e=>hgG (by rw [<-List.mem_singleton.1 e];exact Aa x hx))).byt⟩
 ·have e:(⟨0,nm,[],ats,[]⟩::top::below:List OnD).reverse=(top::below).reverse++[⟨0,nm,[],ats,[]⟩]:=by simp
  rw [e]
  exact h1
 ·rcases List.mem_cons.1 e with e | e
  ·omega
  ·have:=hFW b (List.mem_append_left _ e);omega
theorem RdSt.step {w0:Xk} {a:Xi} {cap:Nat} {l:Xg} {g k k':Nat} {o3 o4 o5 o6 ov o3' o4' o5' o6':Xl} {os:List OnD} {p p':Nat} {F:Xh} {W w':Xk} (h:RdSt w0 a cap l g k o3 o4 o5 o6 ov os p F W) (f:Frm W w' [g]) (hs:RSet w0.heap.size (.slice a l.length cap) (.int .i64 k') o3' o4' o5' o6' ov (.int .i64 p') w' g) (hk:k'<=l.length):RdSt w0 a cap l g k' o3' o4' o5' o6' ov os p' F w':=
 ⟨hs,OwElems.frm h.row f (fun q hq=>zcH h.gF hq) (fun C x G' hr Aa=>OwE.frm hr f Aa),h.nd,h.bel.trans (f.below h.bel.size (fun x hx=>by rw [List.mem_singleton.1 hx];exact h.geg)),h.byt,h.geF,h.geg,hk,h.ll,h.gF⟩
theorem RdSt.keep {w0:Xk} {a:Xi} {cap:Nat} {l:Xg} {g k:Nat} {o3 o4 o5 o6 ov:Xl} {os:List OnD} {p:Nat} {F:Xh} {W w':Xk} (h:RdSt w0 a cap l g k o3 o4 o5 o6 ov os p F W) (hB:Below W.heap.size W w'):RdSt w0 a cap l g k o3 o4 o5 o6 ov os p F w':=h.step (Frm.ofBelow hB _) (h.set.keep hB) h.kl
theorem RdSt.lt {w0:Xk} {a:Xi} {cap:Nat} {l:Xg} {g k:Nat} {o3 o4 o5 o6 ov:Xl} {os:List OnD} {p:Nat} {F:Xh} {W:Xk} (h:RdSt w0 a cap l g k o3 o4 o5 o6 ov os p F W):∀x∈F,x<W.heap.size:=fun x hx=>by
 obtain⟨cs,T,fz,e⟩:=h.cells x hx
 exact (Array.getElem?_eq_some_iff.1 e).1
theorem OwE.lt {w:Xk} {C:Xj} {o:OnD} {F:Xh} (h:OwE w C o F):∀x∈F,x<w.heap.size:=fun x hx=>by
 obtain⟨cs,T,fz,e⟩:=h.cellsN x hx
 exact (Array.getElem?_eq_some_iff.1 e).1
set_option maxHeartbeats 3200000 in
theorem zAf {w0:Xk} {a:Xi} {cap:Nat} {l:Xg} {g k:Nat} {o3 o4 o5 o6 ov:Xl} {p:Nat} {F:Xh} {W:Xk} {top:OnD} {below:List OnD} (h:RdSt w0 a cap l g k o3 o4 o5 o6 ov (top::below).reverse p F W) (hp:p<=120) (hno:p=120∨below.length+1=20) (a1 a3:Xi) (n1 c1 n3 c3:Nat) :
  Calls Tryz.prog 173 #[.pointer (some ⟨g,0,none⟩),.agg #[.int .i64 0,.slice a1 n1 c1,.slice none 0 0,.slice a3 n3 c3,.slice none 0 0]] W fun e w'=>Much e∧Below w0.heap.size w0 w':=by
 refine zaw ?_
 intro Q HQ
 obtain⟨q,c,rfl,Aa⟩:=h.row.row1 (n:=below.length) (by simp)
 have hA:Below W.heap.size W (W.alloc (.cells #[.int .i64 0,.slice a1 n1 c1,.slice none 0 0,.slice a3 n3 c3,.slice none 0 0] 29)):=(Below.refl _ _).alloc (Nat.le_refl _) _
 have h2:=h.keep hA
 have HC:=hide (zrs h2.set hp hno)
 have HX:=hide h2
 clear h h2 hA
 go_enter Tryz.func173,Tryz.ntmps173
 go_wp2_with fail
 refine (zaa HC).mono ?_
 rintro e w2 ⟨⟨v,rfl⟩,hf⟩
 exact⟨rfl,zaa HQ _ w2 ⟨⟨v,rfl⟩,(zaa HX).bel.trans (hf.below (zaa HX).bel.size (fun x hx=>by rw [List.mem_singleton.1 hx];exact (zaa HX).geg))⟩⟩
set_option maxHeartbeats 12800000 in
theorem zxA {w0:Xk} {a:Xi} {cap:Nat} {l:Xg} {g k:Nat} {o3 o4 o5 o6 ov:Xl} {p:Nat} {F:Xh} {W:Xk} {top:OnD} {below:List OnD} (h:RdSt w0 a cap l g k o3 o4 o5 o6 ov (top::below).reverse p F W) (hp:p+1<=120) (hlen:below.length+1<20) (hkid:∀o∈top::below,o.kids.length<=800)
  (nm:Xg) (ats:List AtV) (a1 a3:Xi) (c1 c3:Nat) (G:Xh) (hy:OwE W [.int .i64 0,.slice a1 nm.length c1,.slice none 0 0,.slice a3 ats.length c3,.slice none 0 0] ⟨0,nm,[],ats,[]⟩ G) (hGN:G.Nodup) (hFG:∀x∈F,x∉G) (hgG:g∉G) (hG0:∀x∈G,w0.heap.size<=x) :
  Calls Tryz.prog 173 #[.pointer (some ⟨g,0,none⟩),.agg #[.int .i64 0,.slice a1 nm.length c1,.slice none 0 0,.slice a3 ats.length c3,.slice none 0 0]] W fun e w'=>e=.returned (.tuple #[])∧∃ov' F',RdSt w0 a cap l g k o3 o4 o5 o6 ov' (if zba nm=true then { top with kids:=top.kids++[zav ⟨0,nm,[],ats,[]⟩] }::below else ⟨0,nm,[],ats,[]⟩::top::below).reverse (p+1) F' w':=by
 refine zaw ?_
 intro Q HQ
 obtain⟨q,c,rfl,aa⟩:=h.row.row1 (n:=below.length) (by simp)
 obtain⟨m,em⟩:∃m,m=below.length+1:=⟨_,rfl⟩
 rw [<-em]at h aa hlen
 have HM:=hide em
 clear em
 have hA:Below W.heap.size W (W.alloc (.cells #[.int .i64 0,.slice a1 nm.length c1,.slice none 0 0,.slice a3 ats.length c3,.slice none 0 0] 29)):=(Below.refl _ _).alloc (Nat.le_refl _) _
 have lb:=Loc.made W #[.int .i64 0,.slice a1 nm.length c1,.slice none 0 0,.slice a3 ats.length c3,.slice none 0 0] 29
 have h2:=h.keep hA
 have Ha:=OwE.frm hy (Frm.ofBelow hA []) (fun _ _=>by simp)
 have HC:=hide (znJ h2.set hp hlen)
 have na:g<W.heap.size:=zaP h.set.cells.1
 have sa:=hy.lt
 have oa:=h.lt
 have HX:=hide (And.intro h2 (And.intro lb Ha))
 clear h h2 hA lb hy Ha
 go_enter Tryz.func173,Tryz.ntmps173
 go_wp2_with fail
 refine (zaa HC).mono ?_
 rintro e w2 ⟨rfl,hR,hf⟩
 obtain⟨h2,lb,Ha⟩:=zaa HX
 have h3:=h2.step hf hR h2.kl
 have Ca:=lb.frm hf (by simp;omega)
 have Za:=OwE.frm Ha hf (fun x hx=>zcH hgG hx)
 have ia:W.heap.size+1<=w2.heap.size:=by have:=hf.size;simpa using this
 have Ra:m=(top::below).reverse.length:=by rw [zaa HM];simp
 obtain⟨Cs,Fs,e1,e2,e3,e4,e5⟩:=h3.row
 subst e5
 rw [<-Ra]at e4
 have Fa:Below w2.heap.size w2 w2.drew:=(Below.refl _ _).drew
 have Da:Below w2.heap.size w2 (w2.alloc (.cells nz 29)).drew:=((Below.refl _ _).alloc (Nat.le_refl _) _).drew
 have v0:=(Ca.all Fa).cell 0
 have v1:=(Ca.all Fa).cell 1
 have v2:=(Ca.all Fa).cell 2
 have v3:=(Ca.all Fa).cell 3
 have v4:=(Ca.all Fa).cell 4
 have y0:=(Ca.all Da).cell 0
 have y1:=(Ca.all Da).cell 1
 have y2:=(Ca.all Da).cell 2
 have y3:=(Ca.all Da).cell 3
 have y4:=(Ca.all Da).cell 4
 simp at v0 v1 v2 v3 v4 y0 y1 y2 y3 y4
 obtain⟨_,_,_,_,_,_,s6,_,_⟩:=(h3.set.keep Fa).cells
 obtain⟨_,_,_,_,_,_,pa,_,_⟩:=(h3.set.keep Da).cells
 have HR:=hide (zbG e4 (Frm.ofBelow Da []) (by simp))
 have Ta:=hide (zkA w2)
 have Ja:=hide Da
 have Ba:=hide (And.intro h3 (And.intro Ca (And.intro Za (And.intro e1 (And.intro e2 (And.intro e3 (And.intro e4 Ra)))))))
 have ua:(0:Int)<=(m:Int):=by omega
 have ra:(m:Int)<(m:Int)+1:=by omega
 obtain⟨i0,ja,ka,la,ga⟩:=info_parts zkg
 clear HX HC h2 lb Ha hR hf h3 Ca Za e1 e2 e3 e4 Fa Da Ra
 go_upto_region 2 with fail
 go_cut [] from 6 to 16 (fun wx=>∃(g9 Aa:Nat) (F':Xh),RdSt w0 a cap l g k o3 o4 o5 o6 (.slice (some ⟨g9,0,none⟩) (m+1) Aa) (⟨0,nm,[],ats,[]⟩::top::below).reverse (p+1) F' wx∧Loc wx W.heap.size #[.int .i64 0,.slice a1 nm.length c1,.slice none 0 0,.slice a3 ats.length c3,.slice none 0 0] 29∧(∀w',Frm wx w' [g]->Byt w' (.slice a1 nm.length c1) nm))
 case first=>
  go_region_law (refine step_append_lies _ (by rfl) (.tmp 9) (.tmp 12) 27 (by rfl) 0 29 i0 (.agg #[.int .i64 0,.slice none 0 0,.slice none 0 0,.slice none 0 0,.slice none 0 0]) 5 104 Tryz.underlying27 ja ka la ga rfl (by decide) _ m Cs.flatten (by rfl) (zaa HR) ⟨w2.heap.size,0,none⟩ 1 1 nz.toList (by rfl) rfl (zaa Ta) (by intro y hy;simp at hy;rcases hy with rfl | rfl<;>rfl) (by decide) (by unfold maxLen;omega) (by omega) (Nat.zero_le _) _ rfl ?_;intro g9 Aa w9 Pa Sa Na ta;obtain⟨n0,n1,n2,n3,n4,nf⟩:=ziS Pa (zaa Ba).2.2.2.2.2.2.1.1 rfl;have ca:=nf (m*5);have ha:=nf (m*5+1);have ba:=nf (m*5+2);have fa:=nf (m*5+3);have da:=nf (m*5+4);obtain⟨Qa,r9,qa⟩:=(zaa Ba).1.at9 (zaa Ba).2.2.2.2.2.2.1 (zaa Ja) Sa Na)
  all_goals
   first
   |rw [ziU w9 (m*5) 6 _ _ _ _ _ _ Qa]
    generalize hW:World.setCell (set5 w9 g9 (m*5) (.int .i64 0) (.slice a1 nm.length c1) (.slice none 0 0) (.slice a3 ats.length c3) (.slice none 0 0)) ⟨g,6,none⟩ (.slice (some ⟨g9,0,none⟩) (m+1) Aa)=W9
   | generalize hW:World.setCell (World.setCell (World.setCell (World.setCell (World.setCell (World.setCell w9 ⟨g9,m*5,none⟩ (.int .i64 0)) ⟨g9,m*5+1,none⟩ (.slice a1 nm.length c1)) ⟨g9,m*5+2,none⟩ (.slice none 0 0)) ⟨g9,m*5+3,none⟩ (.slice a3 ats.length c3)) ⟨g9,m*5+4,none⟩ (.slice none 0 0)) ⟨g,6,none⟩ (.slice (some ⟨g9,0,none⟩) (m+1) Aa)=W9
   have Wa:W9=(set5 w9 g9 (m*5) (.int .i64 0) (.slice a1 nm.length c1) (.slice none 0 0) (.slice a3 ats.length c3) (.slice none 0 0)).setCell ⟨g,6,none⟩ (.slice (some ⟨g9,0,none⟩) (m+1) Aa):=hW.symm
   have ea:=hide (zAZ (zaa Ba).1 (zaa Ba).2.1 (zaa Ba).2.2.1 (zaa Ba).2.2.2.1 (zaa Ba).2.2.2.2.1 (zaa Ba).2.2.2.2.2.1 (zaa Ba).2.2.2.2.2.2.1 (zaa Ba).2.2.2.2.2.2.2 (zaa Ja) Pa Sa Na hGN hFG hgG hG0 oa na ia W9 Wa)
   clear hW Wa Ba HR Ta Ja Pa Sa Na n0 n1 n2 n3 n4 nf ca ha ba fa da r9 qa
   go_wp2_with fail
   go_meet
   exact⟨g9,Aa,zaa ea⟩
 case rest=>
  obtain⟨g9,Aa,F',Va,Xa,Ga⟩:=hcut
  have Ua:Below wc.heap.size wc wc.drew:=(Below.refl _ _).drew
  have Ma:=Va.keep Ua
  have HH:=hide (zBT (v:=.slice a1 nm.length c1) (l:=nm) Ma.set (by have:=Ma.bel.size;exact this) (fun w' hf=>Ga w' ((Frm.ofBelow Ua [g]).trans hf)))
  have b1:=(Xa.all Ua).cell 1
  simp at b1
  have ma:∀args w,(callFunc 60 args).run Tryz.prog w=.ok (.enter 60 args) w:=enters_of Tryz.func60 (by kernel_rfl) rfl
  have HS:=hide Ma
  have Oa:(top::below).length<=19:=by have:=zaa HM;simp;omega
  clear Ba HR Ta Ja Va Xa Ga Ma v0 v1 v2 v3 v4 y0 y1 y2 y3 y4 s6 pa
  go_wp2_with fail
  go_region_law (refine zbW (by rfl) 60 [.tmp 19,.tmp 21] #[82,22] (by rfl) ma [.pointer (some ⟨g,8,none⟩),.slice a1 nm.length c1] (by rfl) (zaa HH) ?_;clear HH;rintro e w3 ⟨rfl,Ia,F3⟩;refine⟨_,rfl,?_⟩)
  all_goals
   have Ka:=(zaa HS).step F3 Ia (zaa HS).kl
   cases hv:zba nm with
   | false=>
    rw [hv]at HQ
    have HE:=hide (zaa HQ (.returned (.tuple #[])) w3 ⟨rfl,_,F',Ka⟩)
    clear HQ HS Ka Ia F3
    go_wp2_with fail
    go_end0
    exact zaa HE
   | true=>
    rw [hv]at HQ
    have La:=hide (zeS Ka (m+1-1) (by have:=zaa HM;omega) Oa (fun o ho=>by
     rcases List.mem_cons.1 ho with rfl | ho
     ·simp
     ·have:=hkid o ho;omega))
    have he:(top::below).length+1-(m+1-1)=1:=by have:=zaa HM;simp;omega
    rw [he]at La
    obtain⟨_,_,_,_,_,_,z6,_,_⟩:=Ia.cells
    clear HS Ka Ia F3 he
    rw [Nat.add_sub_cancel]at La
    go_wp2_with fail
    refine (zaa La).mono ?_
    rintro e w5 ⟨rfl,ov',F5,Ya⟩
    have HE:=hide (zaa HQ (.returned (.tuple #[])) w5 ⟨rfl,ov',F5,Ya⟩)
    clear HQ La Ya
    go_wp2_with fail
    go_end0
    exact zaa HE
theorem zAE {o:OnD} {t:Xg} (h:zav o=txtI t):o.kind=1∧o.name=[]∧o.text=t∧o.attrs=[]∧(o.kids.map fun k=>k.map Itm.more).flatten=[]:=by
 unfold zav txtI at h
 rw [List.cons.injEq]at h
 obtain⟨h1,h2⟩:=h
 injection h1 with _ h3 h4 h5 h6
 exact⟨h3,h4,h5,h6,h2⟩
structure TxO (w0:Xk) (a:Xi) (cap:Nat) (l:Xg) (g k q n c:Nat) (o3 o4 o5 o6:Xl) (top:OnD) (below:List OnD) (ks:List (List Itm)) (t:Xg) (p:Nat) (F:Xh) (w:Xk) (gk ck:Nat) (at':Xi) (ct:Nat):Prop where
 kids:w.cell? ⟨q,n*5+4,none⟩=some (.slice (some ⟨gk,0,none⟩) (ks.length+1) ck)
 kind:w.cell? ⟨gk,ks.length*5,none⟩=some (.int .i64 1)
 text:w.cell? ⟨gk,ks.length*5+2,none⟩=some (.slice at' t.length ct)
 row:RowM w 0 (.slice at' t.length ct) t
 fz:∀j,w.frozen? ⟨gk,j,none⟩=false
 gl:gk<w.heap.size
 ql:q<w.heap.size
 qt:∀x∈FB (.slice at' t.length ct),x≠q∧x≠gk
 more:∀(w' W:Xk) (v':Xl) (x:Int),Frm w w' (FB (.slice at' t.length ct))->RowM w' 0 v' (t++[x])->(∀y∈FB v',y∈FB (.slice at' t.length ct)∨w.heap.size<=y)->W=w'.setCell ⟨gk,ks.length*5+2,none⟩ v'->
  ∃F',RdSt w0 a cap l g k o3 o4 o5 o6 (.slice (some ⟨q,0,none⟩) (n+1) c) ({ top with kids:=ks++[txtI (t++[x])] }::below).reverse p F' W
theorem zwa {w0:Xk} {a:Xi} {cap:Nat} {l:Xg} {g k q n c:Nat} {o3 o4 o5 o6:Xl} {top:OnD} {below:List OnD} {ks:List (List Itm)} {t:Xg} {p:Nat} {F:Xh} {w:Xk}
  (hS:RdSt w0 a cap l g k o3 o4 o5 o6 (.slice (some ⟨q,0,none⟩) (n+1) c) (top::below).reverse p F w) (hn:n=below.length) (hk:top.kids=ks++[txtI t]):∃gk ck at' ct,TxO w0 a cap l g k q n c o3 o4 o5 o6 top below ks t p F w gk ck at' ct:=by
 have ma:(top::below).reverse.length=n+1:=by simp [hn]
 have ta:(top::below).reverse[n]? = some top:=by
  rw [List.reverse_cons,List.getElem?_append_right (by simp [hn])]
  simp [hn]
 obtain⟨Cs,a1,a2,a3,ad,cd,Fc,la,ca,I⟩:=zlv hS.row hS.nd ma ta
 have Ua:top.kids.length=ks.length+1:=by rw [hk];simp
 have Ha:OwElems w 29 5 (.slice ad top.kids.length cd) top.kids (OwX w) (FB (.slice ad top.kids.length cd)++ca.flatten):=⟨la,ca,I.f1,I.f2,I.f3,I.f4,rfl⟩
 obtain⟨gk,ck,e0,za⟩:=Ha.row1 Ua
 rw [Ua]at e0
 injection e0 with e0 _ e0'
 subst e0
 subst e0'
 have Oa:=List.nodup_append.1 I.nd
 obtain⟨Ab,C3,G3,Ta,hX,Xa,Ba,Fa,Ga,xa⟩:=OwElems.one (R:=OwX) (fun h f d=>OwX.frm h f d) Ha Oa.2.1 ks.length (by omega)
 have Ra:top.kids[ks.length]'(by omega)=txtI t:=by simp [hk]
 rw [Ra]at hX
 obtain⟨o,hE,na⟩:=hX.open_
 obtain⟨i1,i2,i3,i4,i5⟩:=zAE na
 obtain⟨b1,b2,b3,b4,La,Ka,rfl,wa,ha,r1,r2,r3,r4,Ma⟩:=hE
 rw [i3]at r2
 obtain⟨at',ct,rfl⟩:=r2.shape
 rw [i1]at Ta
 have c0:=Ta.cell 0 (by decide)
 have c2:=Ta.cell 2 (by decide)
 have c4:=I.rj.cell 4 (by decide)
 rw [Ua]at c4
 have Da:gk∈F:=I.sub gk (List.mem_append_right _ Fa)
 have Ca:∀x∈FB (.slice at' t.length ct),x∈G3:=fun x hx=>by rw [Ma];simp [hx]
 have Aa:∀x∈G3,x∈F:=fun x hx=>I.sub x (List.mem_append_right _ (Ba x hx))
 have Ya:q≠gk:=fun e=>I.qG (List.mem_append_right _ (by rw [e];exact Fa))
 refine⟨gk,cd,at',ct,by simpa using c4,by simpa using c0,by simpa using c2,r2,fun j=>Ta.frozen j,I.lt gk Da,I.lt q I.qF,fun x hx=>⟨fun e=>I.qG (List.mem_append_right _ (Ba q (by rw [<-e];exact Ca x hx))),fun e=>Ga (by rw [<-e];exact Ca x hx)⟩,?_⟩
 intro w' W v' x f hv Wa hW
 have fs:=Frm.set w' gk (ks.length*5+2) v'
 rw [<-hW]at fs
 have f0:Frm w W (gk::FB (.slice at' t.length ct)):=(f.mono (fun y hy=>List.mem_cons_of_mem _ hy)).trans (fs.mono (fun y hy=>by rw [List.mem_singleton.1 hy];exact List.mem_cons_self ..))
 have va:∀y∈FB v',y≠gk:=fun y hy e=>by
  rcases Wa y hy with h | h
  ·exact Ga (by rw [<-e];exact Ca y h)
  ·have:=I.lt gk Da;omega
 have qa:RowM W 0 v' (t++[x]):=hv.frm fs (fun y hy e=>va y hy (List.mem_singleton.1 e))
 have Pa:=(Ta.frm f (fun e=>Ga (Ca gk e))).put 2 (by decide) v'
 rw [<-hW]at Pa
 have ga:=Xa
 rw [Ma]at ga
 have Qa:=List.nodup_append.1 ga
 have Va:=List.nodup_append.1 Qa.1
 have sa:=List.nodup_append.1 Va.1
 have Ja:∀y∈G3,y∉FB (.slice at' t.length ct)->y∉gk::FB (.slice at' t.length ct):=fun y hy h e=>by
  rcases List.mem_cons.1 e with e | e
  ·exact Ga (by rw [<-e];exact hy)
  ·exact h e
 have m1:∀y∈FB b1,y∈G3∧y∉FB (.slice at' t.length ct):=fun y hy=>⟨by rw [Ma];simp [hy],fun e=>sa.2.2 y hy y e rfl⟩
 have m3:∀y∈La,y∈G3∧y∉FB (.slice at' t.length ct):=fun y hy=>⟨by rw [Ma];simp [hy],fun e=>Va.2.2 y (List.mem_append_right _ e) y hy rfl⟩
 have m4:∀y∈Ka,y∈G3∧y∉FB (.slice at' t.length ct):=fun y hy=>⟨by rw [Ma];simp [hy],fun e=>Qa.2.2 y (List.mem_append_left _ (List.mem_append_right _ e)) y hy rfl⟩
 have ia:OwE W [.int .i64 o.kind,b1,v',b3,b4] { o with text:=t++[x] } (FB b1++FB v'++La++Ka):=
  ⟨b1,v',b3,b4,La,Ka,rfl,wa,ha,r1.frm f0 (fun y hy=>Ja y (m1 y hy).1 (m1 y hy).2),qa,OwAttrsM.frm r3 f0 (fun y hy=>Ja y (m3 y hy).1 (m3 y hy).2),OwElems.frm r4 f0 (fun y hy=>Ja y (m4 y hy).1 (m4 y hy).2) (fun C z G' hr ra=>OwX.frm hr f0 ra),rfl⟩
 have ea:=ia.close
 rw [show zav { o with text:=t++[x] }=txtI (t++[x]) by
  show ⟨0,o.kind,o.name,t++[x],o.attrs⟩::(o.kids.map fun k=>k.map Itm.more).flatten=_
  rw [i1,i2,i4,i5];rfl,i1]at ea
 have ka:∀y∈FB v',y∈G3∨y∉F:=fun y hy=>(Wa y hy).imp (fun h=>Ca y h) (fun h e=>by have:=I.lt y e;omega)
 have ua:(FB b1++FB v'++La++Ka).Nodup:=by
  have aa:∀y∈FB v',y∉FB b1∧y∉La∧y∉Ka:=fun y hy=>by
   rcases Wa y hy with h | h
   ·exact⟨fun e=>(m1 y e).2 h,fun e=>(m3 y e).2 h,fun e=>(m4 y e).2 h⟩
   ·exact⟨fun e=>by have:=I.lt y (Aa y (m1 y e).1);omega,fun e=>by have:=I.lt y (Aa y (m3 y e).1);omega,fun e=>by have:=I.lt y (Aa y (m4 y e).1);omega⟩
  refine List.nodup_append.2 ⟨List.nodup_append.2 ⟨List.nodup_append.2 ⟨zaU _,zaU _,fun y hy z hz e=>(aa z hz).1 (by rw [<-e];exact hy)⟩,Va.2.1,fun y hy z hz e=> ?_⟩,Qa.2.1,fun y hy z hz e=> ?_⟩
  ·rcases List.mem_append.1 hy with h | h
   ·exact Va.2.2 y (List.mem_append_left _ h) z hz e
   ·exact (aa y h).2.1 (by rw [e];exact hz)
  ·rcases List.mem_append.1 hy with h | h
   ·rcases List.mem_append.1 h with h | h
    ·exact Qa.2.2 y (List.mem_append_left _ (List.mem_append_left _ h)) z hz e
    ·exact (aa y h).2.2 (by rw [e];exact hz)
   ·exact Qa.2.2 y (List.mem_append_right _ h) z hz e
 have Ia:∀y∈FB b1++FB v'++La++Ka,y∈G3∨y∉F:=fun y hy=>by
  rcases List.mem_append.1 hy with h | h
  ·rcases List.mem_append.1 h with h | h
   ·rcases List.mem_append.1 h with h | h
    ·exact .inl (m1 y h).1
    ·exact ka y h
   ·exact .inl (m3 y h).1
  ·exact .inl (m4 y h).1
 obtain⟨F9,d1,d2,d3⟩:=xa W _ _ _ _ Pa f0 (fun y hy h1 h2 e=>by
  rcases List.mem_cons.1 e with e | e
  ·exact h2 e
  ·exact h1 (Ca y e)) ea ua (fun y hy=>(Ia y hy).imp id (fun h e=>h (I.sub y (List.mem_append_right _ e))))
 have ba:top.kids.set ks.length (txtI (t++[x]))=ks++[txtI (t++[x])]:=by
  rw [hk,List.set_append_right _ _ (Nat.le_refl _)]
  simp
 have oa:(top.kids.set ks.length (txtI (t++[x]))).length=top.kids.length:=List.length_set
 rw [oa,ba]at d1
 have pa:=I.rj.frm f0 (fun e=>by
  rcases List.mem_cons.1 e with e | e
  ·exact Ya e
  ·exact I.qG (List.mem_append_right _ (Ba q (Ca q e))))
 have da:∀y∈F9,y∈FB (.slice (some ⟨gk,0,none⟩) top.kids.length cd)++ca.flatten∨y∉F:=fun y hy=>by
  rcases d3 y hy with h | h
  ·exact .inl h
  ·exact (Ia y h).imp (fun h=>Ba y h) id
 have ja:OwE W [.int .i64 top.kind,a1,a2,a3,.slice (some ⟨gk,0,none⟩) top.kids.length cd] { top with kids:=ks++[txtI (t++[x])] } (FB a1++FB a2++Fc++F9):=by
  have hq:∀y∈FB a1++FB a2++Fc,y∉gk::FB (.slice at' t.length ct):=fun y hy e=>by
   rcases List.mem_cons.1 e with e | e
   ·exact Oa.2.2 y hy y (by rw [e];exact Fa) rfl
   ·exact Oa.2.2 y hy y (Ba y (Ca y e)) rfl
  exact⟨a1,a2,a3,_,Fc,F9,rfl,I.k1,I.k2,I.e1.frm f0 (fun y hy=>hq y (by simp [hy])),I.e2.frm f0 (fun y hy=>hq y (by simp [hy])),OwAttrsM.frm I.e3 f0 (fun y hy=>hq y (by simp [hy])),by
   have e:(ks++[txtI (t++[x])]).length=top.kids.length:=by rw [Ua];simp
   show OwElems W _ 5 _ (ks++[txtI (t++[x])]) (OwX W) F9
   exact d1,rfl⟩
 have ya:(FB a1++FB a2++Fc++F9).Nodup:=List.nodup_append.2 ⟨Oa.1,d2,fun y hy z hz e=>by
  subst e
  rcases da y hz with h | h
  ·exact Oa.2.2 y hy y h rfl
  ·exact h (I.sub y (List.mem_append_left _ hy))⟩
 obtain⟨fa,g1,g2,g3⟩:=I.close W _ _ _ _ pa f0 (fun y hy h1 h2 e=>by
  rcases List.mem_cons.1 e with e | e
  ·exact h1 (List.mem_append_right _ (by rw [e];exact Fa))
  ·exact h1 (List.mem_append_right _ (Ba y (Ca y e)))) ja ya (fun y hy=>by
  rcases List.mem_append.1 hy with h | h
  ·exact .inl (List.mem_append_left _ h)
  ·exact (da y h).imp (fun h=>List.mem_append_right _ h) id)
 have Na:(top::below).reverse.set n { top with kids:=ks++[txtI (t++[x])] }=({ top with kids:=ks++[txtI (t++[x])] }::below).reverse:=by
  rw [List.reverse_cons,List.reverse_cons,List.set_append_right _ _ (by simp [hn])]
  simp [hn]
 rw [Na]at g1
 have Sa:∀y∈fa,y∈F∨w.heap.size<=y:=fun y hy=>by
  rcases g3 y hy with h | h
  ·exact .inl h
  ·rcases List.mem_append.1 h with h | h
   ·exact .inl (I.sub y (List.mem_append_left _ h))
   ·rcases d3 y h with h | h
    ·exact .inl (I.sub y (List.mem_append_right _ h))
    ·rcases List.mem_append.1 h with h | h
     ·rcases List.mem_append.1 h with h | h
      ·rcases List.mem_append.1 h with h | h
       ·exact .inl (Aa y (m1 y h).1)
       ·exact (Wa y h).imp (fun h=>Aa y (Ca y h)) id
      ·exact .inl (Aa y (m3 y h).1)
     ·exact .inl (Aa y (m4 y h).1)
 have Za:∀y∈gk::FB (.slice at' t.length ct),y∈F:=fun y hy=>by
  rcases List.mem_cons.1 hy with e | e
  ·rw [e];exact Da
  ·exact Aa y (Ca y e)
 refine⟨fa,hS.set.frm f0 (fun e=>hS.gF (Za g e)) (fun y hy=>.inr (hS.cells y (Za y hy))),g1,g2,hS.bel.trans (f0.below hS.bel.size (fun y hy=>hS.geF y (Za y hy))),hS.byt,fun y hy=> ?_,hS.geg,hS.kl,hS.ll,fun hy=> ?_⟩
 ·rcases Sa y hy with h | h
  ·exact hS.geF y h
  ·have:=hS.bel.size;omega
 ·rcases Sa g hy with h | h
  ·exact hS.gF h
  ·have:=zaP hS.set.cells.1
   simp at this
   omega
theorem zyq {w:Xk} {q n c:Nat} {os:List OnD} {b0:OnD} {F:Xh} {Cs:List (Xj)} {a1 a2 a3:Xl} {ad:Xi} {cd:Nat} {Fc:Xh} {Cs2:List (Xj)} {Fs2:List (Xh)} (I:Inn w q n c os b0 F Cs a1 a2 a3 ad cd Fc Cs2 Fs2) {ks:List (List Itm)} {kl:List Itm} (hk:b0.kids=ks++[kl]) :
  ∃gk o a4 c4,ad=some ⟨gk,0,none⟩∧zav o=kl∧w.cell? ⟨gk,ks.length*5,none⟩=some (.int .i64 o.kind)∧w.cell? ⟨gk,ks.length*5+2,none⟩=some (.slice a4 o.text.length c4):=by
 have Da:b0.kids.length=ks.length+1:=by rw [hk];simp
 have Aa:OwElems w 29 5 (.slice ad b0.kids.length cd) b0.kids (OwX w) (FB (.slice ad b0.kids.length cd)++Fs2.flatten):=⟨Cs2,Fs2,I.f1,I.f2,I.f3,I.f4,rfl⟩
 obtain⟨gk,ck,e0,Ha⟩:=Aa.row1 Da
 injection e0 with e0 _ _
 subst e0
 obtain⟨Ga,C3,G3,Ca,hX,_⟩:=OwElems.one (R:=OwX) (fun h f d=>OwX.frm h f d) Aa (List.nodup_append.1 I.nd).2.1 ks.length (by omega)
 have Ba:b0.kids[ks.length]'(by omega)=kl:=by simp [hk]
 rw [Ba]at hX
 obtain⟨o,hE,Fa⟩:=hX.open_
 obtain⟨x1,d1,x2,d2,x3,d3,x4,d4,rfl⟩:=hE.shape5
 have c0:=Ca.cell 0 (by decide)
 have c2:=Ca.cell 2 (by decide)
 exact⟨gk,o,x2,d2,rfl,Fa,by simpa using c0,by simpa using c2⟩
theorem zyP {o:OnD} (h:o.kind≠1):zax (zav o)=none:=by
 unfold zav zax
 split
 ·rename_i i e
  rw [List.cons.injEq]at e
  rw [if_neg (by rw [<-e.1];simp [h])]
 ·rfl
theorem zxP {o:OnD} (h:zez (zav o)) (hk:o.kind=1):zav o=txtI o.text:=by
 obtain⟨n,u,e,hg⟩:=h
 match n,u,e,hg with
 | n+1,u,e,hg=>
  have h0:u.kind=o.kind∧u.text=o.text:=by
   rw [zbt]at e
   unfold zav at e
   rw [List.cons.injEq]at e
   have e1:=e.1
   injection e1 with _ h3 _ h5 _
   exact⟨h3,h5⟩
  rcases hg with ⟨q1,q2,q3,q4,q5,q6⟩ | ⟨⟨q1,_⟩,_⟩
  ·rw [<-e,zbt,q1,q2,q3,q4,<-h0.2]
   rfl
  ·rw [h0.1,hk]at q1
   cases q1
end Go.Proofs.YtgjolijncmkkhaaGreatDoor
