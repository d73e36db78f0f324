/- Own texts joined: AppM, Zn, ZnA, OwnE, BentT, CxT, BdM, PlM, NameB, KeyS, IdS, OpS, KlM, FoM, StrK, SrA, BdN, BdR, FoN, FoK, OnceF, SzB, SzO, EqI, EqO, Eq, EqZ, EqJ, EqP, ToZ, ToO, PlT, AppZ, Mark, MarkA, MarkM, MarkN, MarkT, OutT, RwT, PlW, FoS, OwO, Via, FoF, FoG, FoW, FoV, IdJ, IdI, OpN, DoM. -/
import Derived.Test.YtgjolijncmkkhaaGreatDoorJa
import Derived.Test.YtgjolijncmkkhaaGreatDoorJc
import Derived.Test.YtgjolijncmkkhaaGreatDoorJd
import Derived.Test.YtgjolijncmkkhaaGreatDoorJe
import Derived.Test.YtgjolijncmkkhaaGreatDoorJl
import Derived.Test.YtgjolijncmkkhaaGreatDoorJm
import Derived.Maps.AppendAt
import Derived.ArgAppend
import Derived.Deep.RegionLaw
import Derived.Test.YtgjolijncmkkhaaGreatDoorChecked
import Derived.Maps.OwnSet
import Derived.DeepKeys4
import Derived.Deep.QuietTactic
import Derived.BigQuiet
import Derived.Deep.AppendLies
import Derived.Deep.RegionHeld3
import Derived.WalkMore
namespace Go.Proofs.YtgjolijncmkkhaaGreatDoor
open Go.RowKit
set_option linter.unusedVariables false
theorem znQ (w:Xg) (g i:Nat) (cs:Array Xh) (t:Xi) (fr:Nat×Nat) (v:Xh) (hg:w.heap[g]? = some (.cells cs t fr)):(w.setCell ⟨g,i,none⟩ v).heap[g]? = some (.cells (cs.setIfInBounds i v) t fr):=by
 unfold World.setCell
 simp [Array.getElem?_modify,hg]
theorem zgd (w:Xg) (g j:Nat) (cs:Array Xh) (t:Xi) (fr:Nat×Nat) (hg:w.heap[g]? = some (.cells cs t fr)) (hj:¬ (fr.1<=j∧j<fr.2)):w.frozen? ⟨g,j,none⟩=false:=by
 unfold World.frozen?
 simp only [hg]
 simpa using hj
theorem ztD (w:Xg) (g j:Nat) (v:Xh):w.grownBy (w.setCell ⟨g,j,none⟩ v) (some g):=⟨rfl,rfl,rfl,by simp,fun k _ hk=>heap_setCell_other w ⟨g,j,none⟩ k v (fun e=>hk (by simp [e]))⟩
theorem zvG {w w':Xg} (h:w.grownBy w' none) (row:Option Nat):w.grownBy w' row:=⟨h.os,h.tape,h.output,h.size,fun k hk _=>h.block k hk (by simp)⟩
theorem zwx {w:Xg} (ty:Xi) (base:Nat) (v:Xh) (l:Xc) (hrow:RowM w base v l) (b c:Nat) (x:Int) (hx0:0<=x) (hx1:x<=255) (hc:w.cell? ⟨b,0,none⟩=some (.int .u8 x)) (hby:Byt w (.slice (some ⟨b,0,none⟩) 1 c) [x]) (hlen:l.length<=1000) (hbase:base<=w.heap.size) :
  ∃v' w',(Builtin.append_ #[22,22] ty #[v,.slice (some ⟨b,0,none⟩) 1 c]).run Tryz.prog w=.ok v' w'∧RowM w' base v' (l++[x])∧w.grownBy w' v.ownBlock∧(v'.ownBlock=v.ownBlock∨∀q,v'.ownBlock=some q->w.heap.size<=q):=by
 obtain⟨i0,hi,Ja,Da,Ka⟩:=info_parts Tryz.info5
 have Aa:∀j u,([.int .u8 x]:Xf)[j]? = some u->w.cell? ((⟨b,0,none⟩:Addr).add j)=some u:=by
  intro j u hj
  match j,hj with
  | 0,hj=>rw [zbd,hc];simpa using hj
 rcases hrow.2 with ⟨rfl,rfl⟩ | ⟨g,Fa,Ba,fz,rfl,hb,hg,hf,h1,h2,h3,h4⟩
 ·obtain⟨v',w',hr,h1,h2,h3⟩:=znI (w:=w) ty base (.slice none 0 0) [] ⟨zaE,rfl,.inl ⟨rfl,rfl⟩⟩ (.slice (some ⟨b,0,none⟩) 1 c) [x] hby (by simp) hbase
  exact⟨v',w',hr,h1.rowm,h2,h3.imp id (fun e q hq=>by rw [e]at hq;cases hq;exact Nat.le_refl _)⟩
 ·have Na:g<w.heap.size:=(Array.getElem?_eq_some_iff.1 hg).1
  by_cases hroom:l.length+1<=Fa
  ·have Ca:=run_append_room_cells (P:=Tryz.prog) w 22 ty 5 i0 Tryz.underlying22 hi g 0 l.length Fa ⟨b,0,none⟩ 1 c [.int .u8 x] (by rw [Da];rfl) Aa (by intro u hu;simp at hu;subst hu;rfl) hroom
    (by intro j hj;simp at hj;subst hj;rw [Da,cell_of_row w g _ Ba _ fz hg];simp;omega)
    (by intro j hj;simp at hj;subst hj;rw [Da];exact zgd w g _ Ba _ fz hg (hf _ (by simp;omega)))
   refine⟨_,_,Ca,?_,?_,.inl rfl⟩
   ·refine⟨hrow.1.app (okB.one hx0 hx1),.inr ⟨g,Fa,Ba.setIfInBounds l.length (.int .u8 x),fz,by simp,hb,?_,hf,by simp;omega,h2,by simpa using h3,?_⟩⟩
    ·rw [Da]
     have:=znQ w g l.length Ba _ fz (.int .u8 x) hg
     simpa [World.setCells]using this
    ·have Ma:l.length<Ba.toList.length:=by simp;omega
     rw [Array.toList_setIfInBounds,List.length_append,zcE,<-h4]
     simp only [List.length_cons,List.length_nil,Nat.zero_add]
     have Ia:l.length<(Ba.toList.set l.length (.int .u8 x)).length:=by simpa using Ma
     rw [List.take_succ_eq_append_getElem Ia,List.getElem_set_self,List.take_set_of_le (Nat.le_refl _)]
     rfl
   ·rw [Da]
    have:=ztD w g l.length (.int .u8 x)
    simpa [World.setCells,Value.ownBlock]using this
  ·obtain⟨v',w',Ca,Ga,La⟩:=run_append_arg_grows (P:=Tryz.prog) w 22 ty 5 i0 (.int .u8 0) 1 1 Tryz.underlying22 hi Ja Da Ka rfl (by decide) ⟨g,0,none⟩ l.length Fa (vals l) (by rw [zaP];omega) (by
     intro j u hj
     have Ha:j<l.length:=by
      by_cases Ha:j<l.length
      ·exact Ha
      ·rw [List.getElem?_eq_none (by rw [zaP];omega)]at hj;cases hj
     rw [zbd,Nat.zero_add,cell_of_row w g j Ba _ fz hg]
     have:=zrg h4 Ha
     rw [hj]at this
     simpa using this) ⟨b,0,none⟩ 1 c [.int .u8 x] rfl Aa (by omega) (by unfold maxLen;omega) (by omega)
   have hO:Own w' w.heap.size v' (l++[x]):=⟨hrow.1.app (okB.one hx0 hx1),by rw [zcE,List.length_append];exact Ga⟩
   refine⟨v',w',Ca,(hO.rowm.mono hbase),zvG La _,.inr (fun q hq=>(hO.lt q hq).1)⟩
def isZ (T:Xi):Prop:=T=5∨T=132∨T=29
def zpV (T:Xi) (i:Nat):Nat:=if T=29 then (if i % 5=0 then 1 else if i % 5=3 then 3 else if i % 5=4 then 4 else 2) else if T=132 then 2 else 0
def elT (q:Nat):Xi:=if q=0 then 5 else if q=1 then 132 else 29
def elS (q:Nat):Nat:=if q=0 then 1 else if q=1 then 2 else 5
theorem zyO (q:Nat):isZ (elT q):=by
 unfold isZ elT
 split
 ·exact .inl rfl
 ·split
  ·exact .inr (.inl rfl)
  ·exact .inr (.inr rfl)
def ZB (w:Xg) (g:Nat) (T:Xi) (m:Nat):Prop:=∃cur fz,w.heap[g]? = some (.cells cur T fz)∧cur.size=m
def ZSl (w:Xg) (B N:Nat) (T:Xi) (sz:Nat) (v:Xh):Prop:=∃a n c,v=.slice a n c∧n<=c∧n<=N∧c<=maxLen∧((a=none∧c=0)∨∃g,a=some ⟨g,0,none⟩∧B<=g∧ZB w g T (c*sz))
def ZV (w:Xg) (B N:Nat):Nat->Xh->Prop
 | 0=>fun v=>∃x,v=.int .u8 x∧0<=x∧x<=255
 | 1=>fun v=>∃x,v=.int .i64 x
 | q+2=>fun v=>ZSl w B N (elT q) (elS q) v
def Zone (w:Xg) (B N:Nat):Prop:=∀k cur T fz,B<=k->w.heap[k]? = some (.cells cur T fz)->isZ T->(∀j,j<cur.size->¬ (fz.1<=j∧j<fz.2))∧∀i v,cur[i]? = some v->ZV w B N (zpV T i) v
structure Zs (B:Nat) (S:Xd) (w w':Xg):Prop where
 os:w'.os=w.os
 tape:w'.tape=w.tape
 output:w'.output=w.output
 size:w.heap.size<=w'.heap.size
 low:∀k,k<B->w'.heap[k]? = w.heap[k]?
 zb:∀k T m,isZ T->ZB w k T m->ZB w' k T m
 oth:∀k,k<w.heap.size->k∉S->(∀T m,ZB w k T m->¬ isZ T)->w'.heap[k]? = w.heap[k]?
theorem ZB.lt {w:Xg} {g:Nat} {T:Xi} {m:Nat} (h:ZB w g T m):g<w.heap.size:=by
 obtain⟨Aa,fz,h,_⟩:=h
 exact (Array.getElem?_eq_some_iff.1 h).1
theorem ZB.of {w w':Xg} {g:Nat} {T:Xi} {m:Nat} (h:ZB w g T m) (e:w'.heap[g]? = w.heap[g]?):ZB w' g T m:=by
 obtain⟨Aa,fz,h,hs⟩:=h
 exact⟨Aa,fz,e.trans h,hs⟩
theorem Zs.refl (B:Nat) (S:Xd) (w:Xg):Zs B S w w:=⟨rfl,rfl,rfl,Nat.le_refl _,fun _ _=>rfl,fun _ _ _ _ h=>h,fun _ _ _ _=>rfl⟩
theorem Zs.trans {B:Nat} {S:Xd} {a b c:Xg} (h:Zs B S a b) (k:Zs B S b c):Zs B S a c:=
 ⟨k.os.trans h.os,k.tape.trans h.tape,k.output.trans h.output,Nat.le_trans h.size k.size,fun i hi=>(k.low i hi).trans (h.low i hi),fun i T m hT hz=>k.zb i T m hT (h.zb i T m hT hz),fun i hi hn hz=>by
  have e:=h.oth i hi hn hz
  exact (k.oth i (Nat.lt_of_lt_of_le hi h.size) hn (fun T m hb=>hz T m (hb.of e.symm))).trans e⟩
theorem Zs.more {B:Nat} {S S':Xd} {a b:Xg} (h:Zs B S a b) (hs:∀q∈S,q∈S'):Zs B S' a b:=⟨h.os,h.tape,h.output,h.size,h.low,h.zb,fun k hk hn hz=>h.oth k hk (fun e=>hn (hs k e)) hz⟩
theorem Zs.any {B:Nat} {S:Xd} {a b:Xg} (h:Zs B [] a b):Zs B S a b:=h.more (fun _ hq=>by cases hq)
theorem ZSl.step {B N N':Nat} {S:Xd} {w w':Xg} {q:Nat} {sz:Nat} {v:Xh} (h:ZSl w B N (elT q) sz v) (z:Zs B S w w') (hN:N<=N'):ZSl w' B N' (elT q) sz v:=by
 obtain⟨a,n,c,rfl,h1,h2,h3,h4⟩:=h
 exact⟨a,n,c,rfl,h1,Nat.le_trans h2 hN,h3,h4.imp id (fun ⟨g,e,hb,hz⟩=>⟨g,e,hb,z.zb _ _ _ (zyO q) hz⟩)⟩
theorem ZV.step {B N N':Nat} {S:Xd} {w w':Xg} {q:Nat} {v:Xh} (h:ZV w B N q v) (z:Zs B S w w') (hN:N<=N'):ZV w' B N' q v:=by
 match q,h with
 | 0,h=>exact h
 | 1,h=>exact h
 | q+2,h=>exact ZSl.step h z hN
theorem Zone.mono {w:Xg} {B N N':Nat} (h:Zone w B N) (hN:N<=N'):Zone w B N':=fun k Aa T fz hk hc hT=>⟨(h k Aa T fz hk hc hT).1,fun i v hv=>((h k Aa T fz hk hc hT).2 i v hv).step (Zs.refl B [] w) hN⟩
theorem Zone.cell {w:Xg} {B N:Nat} (h:Zone w B N) {g:Nat} {T:Xi} {m:Nat} (hz:ZB w g T m) (hT:isZ T) (hB:B<=g) {i:Nat} (hi:i<m) :
  ∃v,w.cell? ⟨g,i,none⟩=some v∧ZV w B N (zpV T i) v∧w.frozen? ⟨g,i,none⟩=false:=by
 obtain⟨Aa,fz,hc,rfl⟩:=hz
 obtain⟨h1,h2⟩:=h g Aa T fz hB hc hT
 exact⟨Aa[i],by rw [cell_of_row w g i Aa T fz hc];simp [hi],h2 i _ (by simp [hi]),zgd w g i Aa T fz hc (h1 i hi)⟩
theorem Zone.row {w w':Xg} {B N g:Nat} {cur cur':Array Xh} {T:Xi} {fz:Nat×Nat} (h:Zone w B N) (hT:isZ T) (hB:B<=g) (hg:w.heap[g]? = some (.cells cur T fz)) (hsz:cur'.size=cur.size)
  (hv:∀i v,cur'[i]? = some v->ZV w B N (zpV T i) v) (h':w'.heap[g]? = some (.cells cur' T fz)) (ho:w.grownBy w' (some g)) (hs:w'.heap.size=w.heap.size):Zone w' B N∧Zs B [] w w':=by
 have Fa:g<w.heap.size:=(Array.getElem?_eq_some_iff.1 hg).1
 have hz:Zs B [] w w':=by
  refine⟨ho.os,ho.tape,ho.output,ho.size,fun k hk=>ho.block k (by omega) (by simp;omega),fun k T' m Da hb=> ?_,fun k hk _ hn=>ho.block k hk (fun e=> ?_)⟩
  ·by_cases hk:k=g
   ·subst hk
    obtain⟨c1,f1,e1,s1⟩:=hb
    rw [hg]at e1
    cases e1
    exact⟨cur',fz,h',by omega⟩
   ·exact hb.of (ho.block k hb.lt (by simpa using hk))
  ·cases e
   exact hn T cur.size ⟨cur,fz,hg,rfl⟩ hT
 refine⟨fun k c1 T1 f1 hk hc Ca=> ?_,hz⟩
 by_cases hkg:k=g
 ·subst hkg
  rw [h']at hc
  cases hc
  refine⟨fun j hj=>(h k cur _ _ hk hg hT).1 j (by omega),fun i v hi=>(hv i v hi).step hz (Nat.le_refl _)⟩
 ·have Ba:k<w.heap.size:=by have:=(Array.getElem?_eq_some_iff.1 hc).1;omega
  have Aa:=hc
  rw [ho.block k Ba (by simpa using hkg)]at Aa
  obtain⟨h1,h2⟩:=h k c1 T1 f1 hk Aa Ca
  exact⟨h1,fun i v hi=>(h2 i v hi).step hz (Nat.le_refl _)⟩
theorem zeK {w:Xg} {base g n cap size:Nat} {e:Xi} {Cs:List (Xf)} (h:w.ownsRow base e size (.slice (some ⟨g,0,none⟩) n cap) n Cs.flatten) (hC:∀i,i<Cs.length->(Cs.getD i []).length=size) (hl:Cs.length=n) (i j:Nat) (hi:i<n) (hj:j<size) :
  w.cell? ⟨g,i*size+j,none⟩=(Cs.getD i [])[j]? :=by
 have Aa:i*size+j<n*size:=by
  have:(i+1)*size<=n*size:=Nat.mul_le_mul_right _ hi
  rw [Nat.succ_mul]at this;omega
 rw [h.cellAt (i*size+j) Aa]
 exact zlV Cs size hC i j (by omega) hj
theorem zkD:∀{Fs:List (Xd)} {i j:Nat},Fs.flatten.Nodup->i≠j->∀g∈Fs.getD i [],g∉Fs.getD j []
 | [],i,j,_,_,g,hg,_=>by simp at hg
 | F::Fs,i,j,h,hij,g,hg,hg'=>by
  rw [List.flatten_cons]at h
  have h2:=List.nodup_append.1 h
  cases i with
  | zero=>
   cases j with
   | zero=>exact hij rfl
   | succ j=>
    simp only [List.getD_cons_zero]at hg
    simp only [List.getD_cons_succ]at hg'
    exact h2.2.2 g hg g (zaO hg') rfl
  | succ i=>
   cases j with
   | zero=>
    simp only [List.getD_cons_zero]at hg'
    simp only [List.getD_cons_succ]at hg
    exact h2.2.2 g hg' g (zaO hg) rfl
   | succ j=>
    simp only [List.getD_cons_succ]at hg hg'
    exact zkD (i:=i) (j:=j) h2.2.1 (by omega) g hg hg'
theorem zjW:∀{Fs:List (Xd)} {i:Nat},Fs.flatten.Nodup->(Fs.getD i []).Nodup
 | [],i,_=>by simp
 | F::Fs,i,h=>by
  rw [List.flatten_cons]at h
  have h2:=List.nodup_append.1 h
  cases i with
  | zero=>simpa using h2.1
  | succ i=>simpa using zjW (i:=i) h2.2.1
theorem zpR (size:Nat) (D:Xf) (hD:D.length=size) (i:Nat) (hi:i<size) (v:Xh):∀(Ds:List (Xf)) (j:Nat),(∀i,i<Ds.length->(Ds.getD i []).length=size)->j<Ds.length->(Ds.set j (D.set i v)).flatten=(Ds.set j D).flatten.set (j*size+i) v
 | [],j,_,hj=>by simp at hj
 | C::Ds,0,_,_=>by
  simp only [List.set_cons_zero,List.flatten_cons,Nat.zero_mul,Nat.zero_add]
  rw [List.set_append_left _ _ (by omega)]
 | C::Ds,j+1,h,hj=>by
  have h0:C.length=size:=by simpa using h 0 (by simp)
  have e:(j+1)*size+i=C.length+(j*size+i):=by rw [h0,Nat.succ_mul];omega
  rw [List.set_cons_succ,List.set_cons_succ,List.flatten_cons,List.flatten_cons,e,List.set_append_right _ _ (by omega),Nat.add_sub_cancel_left]
  rw [zpR size D hD i hi v Ds j (fun k hk=>by simpa using h (k+1) (by simpa using hk)) (by simpa using hj)]
structure RowJ (w:Xg) (T:Xi) (size g n cap:Nat) (Ds:List (Xf)) (j:Nat) (D:Xf):Prop where
 lenD:D.length=size
 lenDs:Ds.length=n
 lens:∀i,i<Ds.length->(Ds.getD i []).length=size
 lt:j<n
 row:w.ownsRow 0 T size (.slice (some ⟨g,0,none⟩) n cap) n (Ds.set j D).flatten
theorem zcw {α:Type} (Ds:List (List α)) (j:Nat) (D:List α) (h:j<Ds.length):(Ds.set j D).getD j []=D:=by
 simp [List.getD_eq_getElem?_getD,h]
theorem zcX {α:Type} (Ds:List (List α)) (i j:Nat) (D:List α) (h:i≠j):(Ds.set j D).getD i []=Ds.getD i []:=by
 simp [List.getD_eq_getElem?_getD,Ne.symm h]
theorem RowJ.lens' {w:Xg} {T:Xi} {size g n cap:Nat} {Ds:List (Xf)} {j:Nat} {D:Xf} (h:RowJ w T size g n cap Ds j D):∀i,i<(Ds.set j D).length->((Ds.set j D).getD i []).length=size:=fun i hi=>by
 by_cases e:i=j
 ·subst e;rw [zcw _ _ _ (by rw [h.lenDs];exact h.lt)];exact h.lenD
 ·rw [zcX _ _ _ _ e];exact h.lens i (by simpa using hi)
theorem RowJ.cell {w:Xg} {T:Xi} {size g n cap:Nat} {Ds:List (Xf)} {j:Nat} {D:Xf} (h:RowJ w T size g n cap Ds j D) (i:Nat) (hi:i<size):w.cell? ⟨g,j*size+i,none⟩=D[i]? :=by
 have:=zeK h.row h.lens' (by simp [h.lenDs]) j i h.lt hi
 rw [zcw _ _ _ (by rw [h.lenDs];exact h.lt)]at this
 exact this
theorem RowJ.put {w:Xg} {T:Xi} {size g n cap:Nat} {Ds:List (Xf)} {j:Nat} {D:Xf} (h:RowJ w T size g n cap Ds j D) (i:Nat) (hi:i<size) (v:Xh):RowJ (w.setCell ⟨g,j*size+i,none⟩ v) T size g n cap Ds j (D.set i v):=
 ⟨by rw [List.length_set];exact h.lenD,h.lenDs,h.lens,h.lt,by
  rw [zpR size D h.lenD i hi v Ds j h.lens (by rw [h.lenDs];exact h.lt)]
  exact (h.row.stored (j*size+i) v).1⟩
theorem RowJ.frozen {w:Xg} {T:Xi} {size g n cap:Nat} {Ds:List (Xf)} {j:Nat} {D:Xf} (h:RowJ w T size g n cap Ds j D) (i:Nat):w.frozen? ⟨g,i,none⟩=false:=h.row.frozenAt i
theorem RowJ.frm {w w':Xg} {T:Xi} {size g n cap:Nat} {Ds:List (Xf)} {j:Nat} {D:Xf} {S:Xd} (h:RowJ w T size g n cap Ds j D) (f:Frm w w' S) (hg:g∉S):RowJ w' T size g n cap Ds j D:=
 ⟨h.lenD,h.lenDs,h.lens,h.lt,zbC h.row f (fun p hp=>by
  have:p=g:=by simpa [FB,Value.ownBlock]using hp
  rw [this];exact hg)⟩
theorem RowJ.start {w:Xg} {T:Xi} {size g n cap:Nat} {Ds:List (Xf)} (hl:Ds.length=n) (h:∀i,i<Ds.length->(Ds.getD i []).length=size) (j:Nat) (hj:j<n) (hr:w.ownsRow 0 T size (.slice (some ⟨g,0,none⟩) n cap) n Ds.flatten):RowJ w T size g n cap Ds j (Ds.getD j []):=
 ⟨h j (by omega),hl,h,hj,by
  have e:Ds.set j (Ds.getD j [])=Ds:=by
   apply List.ext_getElem?
   intro i
   rw [List.getElem?_set]
   split
   ·rename_i e;subst e
    rw [if_pos (by omega),List.getD_eq_getElem?_getD,List.getElem?_eq_getElem (by omega)];rfl
   ·rfl
  rw [e];exact hr⟩
set_option maxRecDepth 100000
def Raw (w:Xg) (T:Xi) (sz:Nat) (v:Xh):Prop:=∃a n c,v=.slice a n c∧n<=c∧c<=maxLen∧((a=none∧c=0)∨∃g cur fz,a=some ⟨g,0,none⟩∧w.heap[g]? = some (.cells cur T fz)∧cur.size=c*sz∧∀j,j<cur.size->¬ (fz.1<=j∧j<fz.2))
theorem Raw.cell {w:Xg} {T:Xi} {sz g n c:Nat} (h:Raw w T sz (.slice (some ⟨g,0,none⟩) n c)) (j:Nat) (hj:j<c*sz):∃v,w.cell? ⟨g,j,none⟩=some v∧w.frozen? ⟨g,j,none⟩=false:=by
 obtain⟨a,n',c',e,h1,h2,⟨e0,_⟩ | ⟨g',Aa,fz,e0,h3,h4,h5⟩⟩:=h
 ·cases e;cases e0
 ·cases e;cases e0
  exact⟨Aa[j],by rw [cell_of_row w g j Aa T fz h3];simp [h4,hj],zgd w g j Aa T fz h3 (h5 j (by omega))⟩
def Bk (w:Xg) (bx off:Nat):Prop:=∃cur,w.heap[bx]? = some (.cells cur 29 (0,0))∧off+5<=cur.size
theorem Bk.cell {w:Xg} {bx off:Nat} (h:Bk w bx off) (i:Nat) (hi:i<5):∃v,w.cell? ⟨bx,off+i,none⟩=some v∧w.frozen? ⟨bx,off+i,none⟩=false:=by
 obtain⟨Aa,h0,h1⟩:=h
 have Ba:off+i<Aa.size:=by omega
 exact⟨Aa[off+i],by rw [cell_of_row w bx _ Aa _ _ h0];simp [Ba],frozen_of_row w bx _ Aa _ h0⟩
def upT:(n:Nat)->Tr n->Tr (n+1)
 | 0=>fun t=>t.elim
 | n+1=>fun t=>(⟨t.kind,t.name,t.text,t.attrs,t.kids.map (upT n)⟩:Nd (Tr (n+1)))
theorem zxL:∀{n:Nat} {w:Xg} {C:Xf} {t:Tr n},RdNode n w C t->RdNode (n+1) w C (upT n t)
 | 0,w,C,t,h=>h.elim
 | n+1,w,C,t,h=>by
  obtain⟨kd,nm,tx,Ca,ks⟩:Nd (Tr n):=t
  obtain⟨a,b,c,d,e,k1,k2,h1,h2,h3,hm,h4⟩:=h
  have h4:(d=.slice none 0 0∧ks=[])∨(∃x Aa,d=.slice (some x) 0 Aa∧Aa<=maxLen∧ks=[])∨(∃b Ba Aa,d=.slice (some ⟨b,Ba,none⟩) ks.length Aa∧ks.length<=Aa∧Aa<=maxLen∧ks≠[]∧b<w.heap.size∧
   ∀i (hi:i<ks.length),∃C:Xf,C.length=5∧(∀j,j<5->w.cell? ⟨b,Ba+i*5+j,none⟩=C[j]?)∧RdNode n w C ks[i]):=h4
  refine⟨a,b,c,d,e,k1,k2,h1,h2,h3,(show (ks.map (upT n)).length<=maxLen by rw [List.length_map];exact hm),(show (d=.slice none 0 0∧ks.map (upT n)=[])∨(∃x Aa,d=.slice (some x) 0 Aa∧Aa<=maxLen∧ks.map (upT n)=[])∨(∃b Ba Aa,d=.slice (some ⟨b,Ba,none⟩) (ks.map (upT n)).length Aa∧(ks.map (upT n)).length<=Aa∧Aa<=maxLen∧ks.map (upT n)≠[]∧b<w.heap.size∧
   ∀i (hi:i<(ks.map (upT n)).length),∃C:Xf,C.length=5∧(∀j,j<5->w.cell? ⟨b,Ba+i*5+j,none⟩=C[j]?)∧RdNode (n+1) w C (ks.map (upT n))[i]) from ?_)⟩
  rcases h4 with ⟨e1,e2⟩ | ⟨x,Aa,e1,e2,e3⟩ | ⟨b',Ba,Aa,e1,e2,e3,e4,e5,e6⟩
  ·exact .inl ⟨e1,by rw [e2];rfl⟩
  ·exact .inr (.inl ⟨x,Aa,e1,e2,by rw [e3];rfl⟩)
  ·refine .inr (.inr ⟨b',Ba,Aa,by rw [List.length_map];exact e1,by rw [List.length_map];exact e2,e3,fun hc=>e4 (List.map_eq_nil_iff.1 hc),e5,fun i hi=> ?_⟩)
   obtain⟨C',c1,c2,c3⟩:=e6 i (by simpa using hi)
   refine⟨C',c1,c2,?_⟩
   rw [List.getElem_map]
   exact zxL c3
theorem zuH:∀{n:Nat} {w:Xg} {C:Xf} {t:Tr n} {F:Xd},OwNodeM n w C t F->OwNodeM (n+1) w C (upT n t) F
 | 0,w,C,t,F,h=>h.elim
 | n+1,w,C,t,F,h=>by
  obtain⟨kd,nm,tx,Aa,ks⟩:Nd (Tr n):=t
  obtain⟨a,b,c,d,Fc,Fd,e,k1,k2,h1,h2,h3,⟨Cs,Fs,l1,l2,h4,h5,h6⟩,h7⟩:=h
  have l1:Cs.length=ks.length:=l1
  have l2:Fs.length=ks.length:=l2
  have h4:∀i (hi:i<ks.length),(Cs.getD i []).length=5∧OwNodeM n w (Cs.getD i []) ks[i] (Fs.getD i []):=h4
  have h5:w.ownsRow 0 29 5 d ks.length Cs.flatten:=h5
  refine⟨a,b,c,d,Fc,Fd,e,k1,k2,h1,h2,h3,(show OwElems w 29 5 d (ks.map (upT n)) (OwNodeM (n+1) w) Fd from ⟨Cs,Fs,by rw [List.length_map];exact l1,by rw [List.length_map];exact l2,fun i hi=> ?_,by rw [List.length_map];exact h5,h6⟩),h7⟩
  obtain⟨q1,q2⟩:=h4 i (by simpa using hi)
  refine⟨q1,?_⟩
  rw [List.getElem_map]
  exact zuH q2
theorem RdX.of {n:Nat} {w w':Xg} {S T F:Xd} {C:Xf} {t:Tr n} (h:OwNodeM n w C t F) (f:Frm w w' T) (hT:∀q∈F,q∉T) (hS:∀q∈F,q∉S):OwNodeM n (zcx w' S) C t F:=OwNodeM.frm (OwNodeM.frm h f hT) (zhL w' S) hS
end Go.Proofs.YtgjolijncmkkhaaGreatDoor
namespace Go.Proofs.YtgjolijncmkkhaaGreatDoor
open Go.RowKit
set_option linter.unusedVariables false
structure Itm where
 deep:Nat
 kind:Int
 name:Xc
 text:Xc
 attrs:List (Xc×Xc)
def Itm.more (i:Itm):Itm:={ i with deep:=i.deep+1 }
abbrev OnD:=Nd (List Itm)
def zas (o:OnD):List Itm:=⟨0,o.kind,o.name,o.text,o.attrs⟩::(o.kids.map fun k=>k.map Itm.more).flatten
def encT:(n:Nat)->Tr n->List Itm
 | 0=>fun t=>t.elim
 | n+1=>fun t=>zas ⟨t.kind,t.name,t.text,t.attrs,t.kids.map (encT n)⟩
theorem zid:∀(n:Nat) (t:Tr n),encT (n+1) (upT n t)=encT n t
 | 0,t=>t.elim
 | n+1,t=>by
  show zas ⟨t.kind,t.name,t.text,t.attrs,(t.kids.map (upT n)).map (encT (n+1))⟩=zas ⟨t.kind,t.name,t.text,t.attrs,t.kids.map (encT n)⟩
  rw [List.map_map,show encT (n+1) ∘ upT n=encT n from funext fun x=>zid n x]
def OwX (w:Xg) (C:Xf) (its:List Itm) (F:Xd):Prop:=∃(n:Nat) (t:Tr n),OwNodeM n w C t F∧encT n t=its
def OwE (w:Xg) (C:Xf) (o:OnD) (F:Xd):Prop:=∃a b c d Fc Fd,C=[.int .i64 o.kind,a,b,c,d]∧-9223372036854775808<=o.kind∧o.kind<=9223372036854775807∧RowM w 0 a o.name∧RowM w 0 b o.text∧OwAttrsM w c o.attrs Fc∧OwElems w 29 5 d o.kids (OwX w) Fd∧F=FB a++FB b++Fc++Fd
theorem OwX.frm {w w':Xg} {C:Xf} {its:List Itm} {F S:Xd} (h:OwX w C its F) (f:Frm w w' S) (hd:∀g∈F,g∉S):OwX w' C its F:=by
 obtain⟨n,t,h1,h2⟩:=h
 exact⟨n,t,OwNodeM.frm h1 f hd,h2⟩
theorem OwE.frm {w w':Xg} {C:Xf} {o:OnD} {F S:Xd} (h:OwE w C o F) (f:Frm w w' S) (hd:∀g∈F,g∉S):OwE w' C o F:=by
 obtain⟨a,b,c,d,Fc,Fd,e,k1,k2,h1,h2,h3,h4,rfl⟩:=h
 exact⟨a,b,c,d,Fc,Fd,e,k1,k2,h1.frm f (fun g hg=>hd g (by simp [hg])),h2.frm f (fun g hg=>hd g (by simp [hg])),OwAttrsM.frm h3 f (fun g hg=>hd g (by simp [hg])),OwElems.frm h4 f (fun g hg=>hd g (by simp [hg])) (fun C x G hr hG=>OwX.frm hr f hG),rfl⟩
theorem OwX.open_ {w:Xg} {C:Xf} {its:List Itm} {F:Xd} (h:OwX w C its F):∃o:OnD,OwE w C o F∧zas o=its:=by
 obtain⟨n,t,h1,rfl⟩:=h
 match n,t,h1 with
 | n+1,t,h1=>
  obtain⟨a,b,c,d,Fc,Fd,e,k1,k2,q1,q2,q3,⟨Cs,Fs,l1,l2,l3,l4,l5⟩,hF⟩:=h1
  refine⟨⟨t.kind,t.name,t.text,t.attrs,t.kids.map (encT n)⟩,⟨a,b,c,d,Fc,Fd,e,k1,k2,q1,q2,q3,⟨Cs,Fs,by simpa using l1,by simpa using l2,fun i hi=> ?_,by simpa using l4,l5⟩,hF⟩,rfl⟩
  have Aa:i<t.kids.length:=by simpa using hi
  exact⟨(l3 i Aa).1,n,_,(l3 i Aa).2,by simp⟩
def zbb (x:Int):Bool:=(decide (97<=x) && decide (x<=122)) || (decide (65<=x) && decide (x<=90))
def zet (x:Int):Bool:=decide (48<=x) && decide (x<=57)
def zbJ (x:Int):Bool:=decide (x=32) || decide (x=9) || decide (x=10) || decide (x=13)
def zcp (x:Int):Bool:=decide (32<=x) && decide (x<=126)
def lowC (x:Int):Int:=if 65<=x∧x<=90 then x+32 else x
def preL (p l:Xc):Bool:=decide (p.length<=l.length∧l.take p.length=p)
def zao (l:Xc):Int×Nat:=
 if preL [38,97,109,112,59] l then (38,5) else if preL [38,108,116,59] l then (60,4) else if preL [38,103,116,59] l then (62,4) else if preL [38,113,117,111,116,59] l then (34,6) else (l.headD 0,1)
theorem zfW (l:Xc):0<(zao l).2:=by
 unfold zao
 repeat' split
 all_goals exact Nat.succ_pos _
def valL:Nat->Nat->Xc->Xc
 | 0,_,_=>[]
 | f+1,k,l=>if l=[]∨k=0 then [] else
  let m:=zao l
  if zcp m.1 then m.1::valL f (k-1) (l.drop m.2) else valL f k (l.drop m.2)
def upL (p:Int->Bool) (l:Xc):Xc×Xc:=(l.takeWhile fun x=> !p x,l.dropWhile fun x=> !p x)
def zaz (l:Xc):Xc×Xc:=((upL (fun x=> !(zbb x || zet x)) l).1.map lowC,(upL (fun x=> !(zbb x || zet x)) l).2)
def rawL (l:Xc):Xc×Xc:=match l with
 | q::r=>if q=34∨q=39 then ((upL (fun x=>decide (x=q)) r).1,(upL (fun x=>decide (x=q)) r).2.drop 1) else upL (fun x=>zbJ x || decide (x=62)) l
 | []=>([],[])
structure RdS where
 rest:Xc
 tag:Option (Bool×Xc×List (Xc×Xc))
 top:OnD
 below:List OnD
 parts:Nat
def room (s:RdS):Bool:=decide (s.parts+1<=120) && !decide (s.below.length+1=20)
def zau (k:List Itm):Option (Xc):=match k with
 | [i]=>if i.kind=1∧i.text.length≠30 then some i.text else none
 | _=>none
def txtI (l:Xc):List Itm:=[⟨0,1,[],l,[]⟩]
def putX (s:RdS) (x:Int):Option RdS:=
 if zcp x then match s.top.kids.getLast?.bind zau with
  | some t=>some { s with top:={ s.top with kids:=s.top.kids.dropLast++[txtI (t++[x])] } }
  | none=>if room s then some { s with top:={ s.top with kids:=s.top.kids++[txtI [x]] },parts:=s.parts+1 } else none
 else some s
def putC (s:RdS) (y:Int):Option RdS:=putX s (if zbJ y then 32 else y)
def zaQ:Nat->OnD->List OnD->OnD×List OnD
 | k+1,t,b::bs=>zaQ k { b with kids:=b.kids++[zas t] } bs
 | _,t,bs=>(t,bs)
def zok (l:Xc):Bool:=decide (l=[98,114]) || decide (l=[104,114])
def putE (s:RdS) (nm:Xc) (ats:List (Xc×Xc)):Option RdS:=
 if room s then
  let o:OnD:=⟨0,nm,[],ats,[]⟩
  if zok nm then some { s with top:={ s.top with kids:=s.top.kids++[zas o] },parts:=s.parts+1 }
  else some { s with top:=o,below:=s.top::s.below,parts:=s.parts+1 }
 else none
def zeR (nm:Xc):OnD->List OnD->Option Nat
 | _,[]=>none
 | t,b::bs=>if t.name=nm then some 0 else (zeR nm b bs).map (· + 1)
def endE (s:RdS) (nm:Xc):RdS:=match zeR nm s.top s.below with
 | some k=>{ s with top:=(zaQ (k+1) s.top s.below).1,below:=(zaQ (k+1) s.top s.below).2 }
 | none=>s
def tagB (l:Xc):Bool:=decide (l.head? = some 60) && (let r:=l.drop 1;let r':=if r.head? = some 47 then r.drop 1 else r;match r' with | c::_=>zbb c | []=>false)
def zdP (s:RdS):RdS:=
 let r:=s.rest.drop 1
 let r':=if r.head? = some 47 then r.drop 1 else r
 { s with rest:=(zaz r').2,tag:=some (decide (r.head? = some 47),(zaz r').1,[]) }
section
variable (keep:List (Xc×Xc)->Xc×Xc->List (Xc×Xc)) (nok:Xc->Bool)
def zcA (l:Xc):(Xc×Xc)×Xc:=
 let n:=zaz l
 if n.2.head? = some 61 then ((n.1,valL (rawL (n.2.drop 1)).1.length 30 (rawL (n.2.drop 1)).1),(rawL (n.2.drop 1)).2) else ((n.1,[]),n.2)
def endT (s:RdS) (e:Bool) (nm:Xc) (ats:List (Xc×Xc)):Option RdS:=
 if nok nm then (if e then some (endE s nm) else putE s nm ats) else some s
def zcz (s:RdS) (e:Bool) (nm:Xc) (ats:List (Xc×Xc)):Option RdS:=match s.rest with
 | []=>endT nok { s with tag:=none } e nm ats
 | x::r=>if x=62 then endT nok { s with tag:=none,rest:=r } e nm ats
  else if zbb x then some { s with rest:=(zcA s.rest).2,tag:=some (e,nm,keep ats (zcA s.rest).1) }
  else some { s with rest:=r }
def znY (s:RdS):Option RdS:=match s.tag with
 | some (e,nm,ats)=>zcz keep nok s e nm ats
 | none=>if tagB s.rest then some (zdP s) else putC { s with rest:=s.rest.drop (zao s.rest).2 } (zao s.rest).1
def runL:Nat->RdS->Option RdS
 | 0,s=>some s
 | f+1,s=>if s.tag=none∧s.rest=[] then some s else (znY keep nok s).bind (runL f)
def zaV (l:Xc):RdS:=⟨l,none,⟨0,[98,111,100,121],[],[],[]⟩,[],1⟩
def bldL (l:Xc):Option (List Itm):=if l.length<=1500 then (runL keep nok (2*l.length+2) (zaV l)).map fun s=>zas (zaQ s.below.length s.top s.below).1 else none
end
end Go.Proofs.YtgjolijncmkkhaaGreatDoor
namespace Go.Proofs.YtgjolijncmkkhaaGreatDoor
structure PlV where
 idN:Int
 idR:Int
 parN:Int
 parR:Int
 key:Xc
 kind:Int
 name:Xc
 text:Xc
 attrs:List (Xc×Xc)
end Go.Proofs.YtgjolijncmkkhaaGreatDoor
namespace Go.Proofs.YtgjolijncmkkhaaGreatDoor
open Go.RowKit
set_option linter.unusedVariables false
structure OpV where
 kind:Int
 atN:Int
 atR:Int
 nodeN:Int
 nodeR:Int
 parN:Int
 parR:Int
 key:Xc
 elem:Int
 name:Xc
 text:Xc
 gone:Bool
end Go.Proofs.YtgjolijncmkkhaaGreatDoor
namespace Go.Proofs.YtgjolijncmkkhaaGreatDoor
set_option linter.unusedVariables false
def klB:Xc->Xc->Bool
 | [],[]=>false
 | [],_::_=>true
 | _::_,[]=>false
 | x::a,y::b=>if x=y then klB a b else decide (x<y)
theorem zyX (a b:Xc):(klB a b || klB b a) = !decide (a=b):=by
 induction a generalizing b with
 | nil=>cases b<;>simp [klB]
 | cons x a ih=>
  cases b with
  | nil=>simp [klB]
  | cons y b=>
   by_cases e:x=y
   ·rw [klB,if_pos e,klB,if_pos e.symm,ih b];simp [e]
   ·rw [klB,if_neg e,klB,if_neg (fun h=>e h.symm)]
    have:x<y∨y<x:=by omega
    simp [e,this]
end Go.Proofs.YtgjolijncmkkhaaGreatDoor
namespace Go.Proofs.YtgjolijncmkkhaaGreatDoor
open Go.RowKit
set_option linter.unusedVariables false
abbrev IdV:=Int×Int
def PlV.id (p:PlV):IdV:=(p.idN,p.idR)
def PlV.par (p:PlV):IdV:=(p.parN,p.parR)
def OpV.at' (o:OpV):IdV:=(o.atN,o.atR)
def OpV.node (o:OpV):IdV:=(o.nodeN,o.nodeR)
def zxG:IdV:=(0,0)
def zva:IdV:=(0,1)
def posP (l:List PlV) (i:IdV):Option Nat:=l.findIdx? (fun p=>decide (p.id=i))
def zvq (l:List PlV):Nat->IdV->IdV->Bool
 | 0,_,_=>false
 | f+1,i,b=>if i=b then true else if i=zxG∨i=zva then false else match posP l i with
  | none=>false
  | some k=>match l[k]? with
   | some p=>zvq l f p.par b
   | none=>false
structure Fr (l:List PlV):Prop where
 two:2<=l.length
 root:∀p,l[0]? = some p->p.id=zxG
 trash:∀p,l[1]? = some p->p.id=zva
 uniq:(l.map PlV.id).Nodup
 par:∀i p,2<=i->l[i]? = some p->∃j,posP l p.par=some j
 rank:∃rk:IdV->Nat,∀i p,2<=i->l[i]? = some p->rk p.par<rk p.id
theorem zxJ {x y:Int} (hx:0<=x∧x<=255) (hy:0<=y∧y<=255):(UInt8.ofNat x.toNat<UInt8.ofNat y.toNat)↔x<y:=by
 rw [UInt8.lt_iff_toNat_lt]
 simp only [UInt8.toNat_ofNat']
 omega
theorem znp:∀(a b:Xc),okB a->okB b->Op.bytesLess (a.map fun n=>UInt8.ofNat n.toNat) (b.map fun n=>UInt8.ofNat n.toNat)=klB a b
 | [],[],_,_=>rfl
 | [],_::_,_,_=>rfl
 | _::_,[],_,_=>rfl
 | x::a,y::b,ha,hb=>by
  have hx:=ha x (by simp)
  have hy:=hb y (by simp)
  have ih:=znp a b (fun z hz=>ha z (by simp [hz])) (fun z hz=>hb z (by simp [hz]))
  simp only [List.map_cons]
  unfold Op.bytesLess klB
  rw [ih]
  have h1:=zxJ hx hy
  have h2:=zxJ hy hx
  by_cases e:x=y
  ·subst e;simp
  ·have e2:¬ UInt8.ofNat x.toNat=UInt8.ofNat y.toNat:=fun h=>by
    have h3:¬ UInt8.ofNat x.toNat<UInt8.ofNat y.toNat:=by rw [h];exact UInt8.lt_irrefl _
    have h4:¬ UInt8.ofNat y.toNat<UInt8.ofNat x.toNat:=by rw [h];exact UInt8.lt_irrefl _
    rw [h1]at h3
    rw [h2]at h4
    omega
   by_cases hl:x<y
   ·simp [h1.2 hl,e,hl]
   ·have h5:¬ UInt8.ofNat x.toNat<UInt8.ofNat y.toNat:=fun h=>hl (h1.1 h)
    simp [h5,e,hl,e2]
theorem zpD {a b:Xc} (ha:okB a) (hb:okB b):Op.bytesLess (str a).toList (str b).toList=klB a b:=by
 rw [zbD,zbD,zbW,zbW]
 exact znp a b ha hb
theorem zio:∀{a b c:Xc},klB a b=true->klB b c=true->klB a c=true
 | [],_,[],h,k=>by
  rename_i b
  cases b with
  | nil=>cases h
  | cons y b=>cases k
 | [],_,_::_,_,_=>rfl
 | x::a,[],_,h,_=>by cases h
 | x::a,y::b,[],_,k=>by cases k
 | x::a,y::b,z::c,h,k=>by
  unfold klB at h k ⊢
  by_cases e1:x=y
  ·subst e1
   rw [if_pos rfl]at h
   by_cases e2:x=z
   ·rw [if_pos e2]at k ⊢
    exact zio h k
   ·rw [if_neg e2]at k ⊢
    exact k
  ·rw [if_neg e1]at h
   have h':=of_decide_eq_true h
   by_cases e2:y=z
   ·subst e2
    rw [if_neg e1]
    exact h
   ·rw [if_neg e2]at k
    have k':=of_decide_eq_true k
    rw [if_neg (by omega)]
    exact decide_eq_true (by omega)
theorem zzw {a b:Xc} (ha:okB a) (hb:okB b):decide (cmpB a b<0)=klB a b:=by
 rw [<-znB]
 exact zpD ha hb
theorem zhR:∀(a b:List UInt8),Lib.compareBytes a b=0↔a=b
 | [],[]=>by simp [Lib.compareBytes]
 | [],_::_=>by simp [Lib.compareBytes]
 | _::_,[]=>by simp [Lib.compareBytes]
 | x::a,y::b=>by
  have ih:=zhR a b
  unfold Lib.compareBytes
  by_cases h1:x<y
  ·have Aa:¬ x=y:=fun e=>by subst e;exact absurd h1 (UInt8.lt_irrefl _)
   simp [h1,Aa]
  ·by_cases h2:y<x
   ·have Aa:¬ x=y:=fun e=>by subst e;exact h1 h2
    simp [h1,h2,Aa]
   ·have he:x=y:=UInt8.le_antisymm (UInt8.not_lt.1 h2) (UInt8.not_lt.1 h1)
    subst he
    simp [h1,ih]
theorem zjn:∀{a b:Xc},okB a->okB b->Lib.bytesOf a=Lib.bytesOf b->a=b
 | [],[],_,_,_=>rfl
 | [],_::_,_,_,h=>by cases h
 | _::_,[],_,_,h=>by cases h
 | x::a,y::b,ha,hb,h=>by
  unfold Lib.bytesOf at h
  simp only [List.map_cons,List.cons.injEq]at h
  have hx:=ha x (List.mem_cons_self ..)
  have hy:=hb y (List.mem_cons_self ..)
  have e:x=y:=by
   have h1:=congrArg UInt8.toNat h.1
   simp at h1
   omega
  rw [e,zjn (fun z hz=>ha z (List.mem_cons_of_mem _ hz)) (fun z hz=>hb z (List.mem_cons_of_mem _ hz)) h.2]
theorem zxx {a b:Xc} (ha:okB a) (hb:okB b):(cmpB a b == 0)=decide (a=b):=by
 have h:=zhR (Lib.bytesOf a) (Lib.bytesOf b)
 by_cases e:a=b
 ·rw [decide_eq_true e]
  have:cmpB a b=0:=h.2 (by rw [e])
  simp [this]
 ·rw [decide_eq_false e]
  have:cmpB a b≠0:=fun h'=>e (zjn ha hb (h.1 h'))
  simpa using this
abbrev AtV:=Xc×Xc
def zaZ (n:Xc) (x:AtV):Bool:=klB x.1 n
def posA (l:List AtV) (n:Xc):Nat:=(l.takeWhile (zaZ n)).length
def zbk (l:List AtV) (n:Xc):Bool:=if h:posA l n<l.length then decide (l[posA l n].1=n) else false
def SrtA (l:List AtV):Prop:=l.Pairwise (fun a b=>klB a.1 b.1=true)
theorem SrtA.lt {l:List AtV} (h:SrtA l) {i j:Nat} (hij:i<j) (hj:j<l.length):klB l[i].1 l[j].1=true:=List.pairwise_iff_getElem.1 h i j (by omega) hj hij
theorem zjC {l:List AtV} (h:SrtA l) {n:Xc} {i j:Nat} (hij:i<=j) (hj:j<l.length) (ha:zaZ n l[j]=true):zaZ n l[i]=true:=by
 rcases Nat.lt_or_eq_of_le hij with e | e
 ·exact zio (h.lt e hj) ha
 ·subst e;exact ha
theorem zyZ {l:List AtV} {n:Xc} {i:Nat} (hi:i<=l.length) (h1:∀k (hk:k<l.length),k<i->zaZ n l[k]=true) (h2:∀hk:i<l.length,zaZ n l[i]=false):posA l n=i:=by
 unfold posA
 induction l generalizing i with
 | nil=>simp at hi;subst hi;rfl
 | cons p l ih=>
  cases i with
  | zero=>
   have:=h2 (by simp)
   simp only [List.getElem_cons_zero]at this
   rw [List.takeWhile_cons,if_neg (by rw [this];decide)]
   rfl
  | succ i=>
   have h0:=h1 0 (by simp) (by omega)
   simp only [List.getElem_cons_zero]at h0
   rw [List.takeWhile_cons,if_pos h0,List.length_cons]
   rw [ih (i:=i) (by simpa using hi) (fun k hk Aa=>by have:=h1 (k+1) (by simpa using hk) (by omega);simpa using this) (fun hk=>by have:=h2 (by simpa using hk);simpa using this)]
theorem zyB (l:List AtV) (n:Xc):posA l n<=l.length:=(List.takeWhile_prefix _).length_le
theorem zna (a:AtV) (r:List AtV) (n:Xc):posA (a::r) n=if klB a.1 n=true then posA r n+1 else 0:=by
 unfold posA
 rw [List.takeWhile_cons]
 by_cases h:klB a.1 n=true
 ·rw [if_pos (show zaZ n a=true from h),if_pos h,List.length_cons]
 ·rw [if_neg (show ¬ zaZ n a=true from h),if_neg h];rfl
theorem zrb (a:AtV) (r:List AtV) (n:Xc):zbk (a::r) n=if klB a.1 n=true then zbk r n else decide (a.1=n):=by
 unfold zbk
 have hp:=zna a r n
 by_cases h:klB a.1 n=true
 ·rw [if_pos h]at hp ⊢
  by_cases h2:posA r n<r.length
  ·rw [dif_pos (by rw [hp];simpa using h2),dif_pos h2]
   simp only [hp,List.getElem_cons_succ]
  ·rw [dif_neg (by rw [hp];simpa using h2),dif_neg h2]
 ·rw [if_neg h]at hp ⊢
  rw [dif_pos (by rw [hp];simp)]
  simp only [hp,List.getElem_cons_zero]
def zaI (l:List AtV) (a:AtV):List AtV:=if zbk l a.1=true∨l.length=4∨zaC a.1=false then l else l.take (posA l a.1)++(a::l.drop (posA l a.1))
abbrev stp (s:RdS):Option RdS:=znY zaI zaC s
def iter:Nat->RdS->Option RdS
 | 0,s=>some s
 | f+1,s=>(stp s).bind (iter f)
theorem zyk {s:RdS} (h1:s.tag=none) (h2:s.rest=[]):stp s=some s:=by
 obtain⟨rest,tag,Ba,below,Aa⟩:=s
 cases h1
 cases h2
 rfl
theorem zdk {s:RdS} (h1:s.tag=none) (h2:s.rest=[]):∀f,iter f s=some s
 | 0=>rfl
 | f+1=>by unfold iter;rw [zyk h1 h2];exact zdk h1 h2 f
theorem zhn:∀(f:Nat) (s:RdS),runL zaI zaC f s=iter f s
 | 0,s=>rfl
 | f+1,s=>by
  unfold runL
  by_cases h:s.tag=none∧s.rest=[]
  ·rw [if_pos h,zdk h.1 h.2]
  ·rw [if_neg h]
   show _=(stp s).bind (iter f)
   rw [show runL zaI zaC f=iter f from funext (zhn f)]
theorem zoL:∀(j k:Nat) (s:RdS),iter (j+k) s=(iter j s).bind (iter k)
 | 0,k,s=>by rw [Nat.zero_add];rfl
 | j+1,k,s=>by
  rw [show j+1+k=(j+k)+1 by omega]
  unfold iter
  cases h:stp s with
  | none=>rfl
  | some t=>exact zoL j k t
def Reads (s t:RdS):Prop:=∃k,iter k s=some t
theorem Reads.trans {a b c:RdS} (h:Reads a b) (k:Reads b c):Reads a c:=by
 obtain⟨i,hi⟩:=h
 obtain⟨j,hj⟩:=k
 exact⟨i+j,by rw [zoL,hi];exact hj⟩
theorem Reads.refl (a:RdS):Reads a a:=⟨0,rfl⟩
theorem Reads.one {a b:RdS} (h:stp a=some b):Reads a b:=⟨1,by unfold iter;rw [h];rfl⟩
def mu (s:RdS):Nat:=2*s.rest.length+(if s.tag=none then 0 else 1)
theorem zqi (p:Int->Bool) (l:Xc):(upL p l).1.length+(upL p l).2.length=l.length:=by
 have:=congrArg List.length (List.takeWhile_append_dropWhile (p:=fun x=> !p x) (l:=l))
 rw [List.length_append]at this
 exact this
theorem zqc (l:Xc):(zaz l).2.length<=l.length:=by
 have:=zqi (fun x=> !(zbb x || zet x)) l
 show (upL _ l).2.length<=_
 omega
theorem zuw {x:Int} {l:Xc} (h:zbb x=true):(zaz (x::l)).2.length<(x::l).length:=by
 have h2:(zaz (x::l)).2=(zaz l).2:=by
  unfold zaz upL
  simp only [List.dropWhile_cons,h,Bool.true_or,Bool.not_true,Bool.not_false,if_true]
 rw [h2]
 have:=zqc l
 simp;omega
theorem zys (l:Xc):(rawL l).2.length<=l.length:=by
 unfold rawL
 split
 ·rename_i q r
  split
  ·have:=zqi (fun x=>decide (x=q)) r
   simp;omega
  ·have:=zqi (fun x=>zbJ x || decide (x=62)) (q::r)
   omega
 ·simp
theorem zxf (l:Xc):(zcA l).2.length<=(zaz l).2.length:=by
 unfold zcA
 simp only
 split
 ·rename_i h
  cases hn:(zaz l).2 with
  | nil=>rw [hn]at h;cases h
  | cons y r=>
   have:=zys ((y::r).drop 1)
   simp at this ⊢
   omega
 ·exact Nat.le_refl _
theorem zhH {s t:RdS} {y:Int} (h:putC s y=some t):t.rest=s.rest∧t.tag=s.tag:=by
 unfold putC at h
 generalize (if zbJ y then (32:Int) else y)=x at h
 unfold putX at h
 split at h
 ·split at h
  ·cases h;exact⟨rfl,rfl⟩
  ·split at h
   ·cases h;exact⟨rfl,rfl⟩
   ·cases h
 ·cases h;exact⟨rfl,rfl⟩
theorem zdp {s t:RdS} {e:Bool} {nm:Xc} {ats:List AtV} (h:endT zaC s e nm ats=some t):t.rest=s.rest∧t.tag=s.tag:=by
 unfold endT at h
 split at h
 ·split at h
  ·cases h
   unfold endE
   split<;>exact⟨rfl,rfl⟩
  ·unfold putE at h
   simp only at h
   split at h
   ·split at h<;>(cases h;exact⟨rfl,rfl⟩)
   ·cases h
 ·cases h;exact⟨rfl,rfl⟩
theorem ziR {s t:RdS} (h0:¬ (s.tag=none∧s.rest=[])) (h:stp s=some t):mu t<mu s:=by
 obtain⟨rest,tag,Ba,below,Aa⟩:=s
 cases tag with
 | some g=>
  obtain⟨e,nm,Ca⟩:=g
  have h:zcz zaI zaC ⟨rest,some (e,nm,Ca),Ba,below,Aa⟩ e nm Ca=some t:=h
  cases rest with
  | nil=>
   have h:=zdp (s:=⟨[],none,Ba,below,Aa⟩) h
   unfold mu
   rw [h.1,h.2]
   simp
  | cons x r=>
   unfold zcz at h
   simp only at h
   split at h
   ·have h:=zdp (s:=⟨r,none,Ba,below,Aa⟩) h
    unfold mu
    rw [h.1,h.2]
    simp;omega
   ·split at h
    ·rename_i hl
     cases h
     have h1:=zxf (x::r)
     have h2:=zuw (l:=r) hl
     simp [mu]at h1 h2 ⊢
     omega
    ·cases h
     simp [mu]
 | none=>
  have hr:rest≠[]:=fun e=>h0 ⟨rfl,e⟩
  have hp:0<rest.length:=List.length_pos_iff.2 hr
  have h:(if tagB rest=true then some (zdP ⟨rest,none,Ba,below,Aa⟩) else putC ⟨rest.drop (zao rest).2,none,Ba,below,Aa⟩ (zao rest).1)=some t:=h
  split at h
  ·cases h
   have h1:=zqc (if (rest.drop 1).head? = some 47 then (rest.drop 1).drop 1 else rest.drop 1)
   have h2:(if (rest.drop 1).head? = some 47 then (rest.drop 1).drop 1 else rest.drop 1).length<=rest.length-1:=by split<;>simp<;>omega
   simp only [mu,zdP,if_true,reduceCtorEq,if_false]
   omega
  ·have h1:=zhH h
   have h2:=zfW rest
   unfold mu
   rw [h1.1,h1.2]
   simp
   omega
theorem ztS {s t:RdS} (h1:t.tag=none) (h2:t.rest=[]) (h:Reads s t):∀f,mu s<=f->iter f s=some t:=by
 obtain⟨k,hk⟩:=h
 intro f
 induction f generalizing k s with
 | zero=>
  intro hf
  have hs:s.tag=none∧s.rest=[]:=by
   unfold mu at hf
   by_cases e:s.tag=none
   ·rw [if_pos e]at hf
    exact⟨e,List.length_eq_zero_iff.1 (by omega)⟩
   ·rw [if_neg e]at hf;omega
  rw [zdk hs.1 hs.2]at hk
  exact hk
 | succ f ih=>
  intro hf
  by_cases hs:s.tag=none∧s.rest=[]
  ·rw [zdk hs.1 hs.2]at hk ⊢
   exact hk
  ·cases k with
   | zero=>cases hk;exact absurd ⟨h1,h2⟩ hs
   | succ k=>
    unfold iter at hk ⊢
    cases hst:stp s with
    | none=>rw [hst]at hk;cases hk
    | some u=>
     rw [hst]at hk
     have:=ziR hs hst
     exact ih k hk (by omega)
theorem zvc {l:Xc} {t:RdS} (hl:l.length<=1500) (h1:t.tag=none) (h2:t.rest=[]) (h:Reads (zaV l) t):bldL zaI zaC l=some (zas (zaQ t.below.length t.top t.below).1):=by
 unfold bldL
 rw [if_pos hl,zhn,ztS h1 h2 h _ (by unfold mu zaV;simp)]
 rfl
theorem zrI {l:Xc} {its:List Itm} (h:bldL zaI zaC l=some its):l.length<=1500∧∃t k,iter k (zaV l)=some t∧its=zas (zaQ t.below.length t.top t.below).1:=by
 unfold bldL at h
 split at h
 ·rename_i hl
  rw [zhn]at h
  cases hi:iter (2*l.length+2) (zaV l)with
  | none=>rw [hi]at h;cases h
  | some t=>rw [hi]at h;cases h;exact⟨hl,t,_,hi,rfl⟩
 ·cases h
def ziW (k:List Itm):Bool:=(zau k).isSome
def isTx (k:List Itm):Bool:=match k with
 | i::_=>decide (i.kind=1)
 | []=>false
def AdjX:List (List Itm)->Prop
 | a::b::r=>¬ (ziW a=true∧isTx b=true)∧AdjX (b::r)
 | _=>True
def zdK (l:List AtV):Prop:=l.length<=4∧SrtA l∧∀x∈l,zaw x.1∧zaB x.2
def zAf {α:Type} (t:Nd α):Prop:=t.kind=1∧t.name=[]∧t.attrs=[]∧t.kids=[]∧zaB t.text∧t.text≠[]
def zom {α:Type} (t:Nd α):Prop:=t.kind=0∧zaw t.name∧t.text=[]∧zdK t.attrs
def zbc:(n:Nat)->Tr n->Prop
 | 0=>fun _=>False
 | n+1=>fun t=>zAf t∨(zom t∧(zaL t.name=true->t.kids=[])∧AdjX (t.kids.map (encT n))∧∀k∈t.kids,zbc n k)
theorem zaW (n:Nat) (t:Tr (n+1)):encT (n+1) t=zas ⟨t.kind,t.name,t.text,t.attrs,t.kids.map (encT n)⟩:=rfl
theorem zlS {l:Xc} (h:zaB l):∀x∈l,32<=x∧x<=126:=by
 intro x hx
 obtain⟨i,hi,rfl⟩:=List.getElem_of_mem hx
 have:=h.2 i hi
 rw [show l.getD i 0=l[i] by simp [hi]]at this
 exact this
theorem zlT {l:Xc} (h:zaw l):∀x∈l,(97<=x∧x<=122)∨(48<=x∧x<=57):=by
 intro x hx
 obtain⟨i,hi,rfl⟩:=List.getElem_of_mem hx
 have:=h.2.2 i hi
 rw [show l.getD i 0=l[i] by simp [hi]]at this
 exact this.elim .inl (fun h=>.inr h.2)
theorem zic {l:Xc} (h:zaw l):∃c r,l=c::r∧97<=c∧c<=122:=by
 cases l with
 | nil=>have:=h.1;simp at this
 | cons c r=>
  have:=h.2.2 0 (by simp)
  simp [zez]at this
  exact⟨c,r,rfl,this⟩
theorem zyl {x:Int} (hx:32<=x∧x<=126) (r:Xc):tagB (sayB false x++r)=false:=by
 unfold sayB
 by_cases h1:x=38
 ·rw [if_pos h1];rfl
 ·rw [if_neg h1]
  by_cases h2:x=60
  ·rw [if_pos h2];rfl
  ·rw [if_neg h2,if_neg (by simp)]
   unfold tagB
   simp [h2]
theorem zrG (p l:Xc):preL p (p++l)=true:=by
 unfold preL
 simp
theorem zzK {p l:Xc} {y x:Int} {r:Xc} (hp:p.head? = some y) (hl:l=x::r) (h:x≠y):preL p l=false:=by
 unfold preL
 cases p with
 | nil=>cases hp
 | cons z q=>
  simp at hp
  subst hp
  subst hl
  simp
  intro _ e
  exact absurd e h
theorem znE (q:Bool) {x:Int} (r:Xc):zao (sayB q x++r)=(x,(sayB q x).length):=by
 unfold sayB
 by_cases h1:x=38
 ·subst h1;rw [if_pos rfl];rfl
 ·rw [if_neg h1]
  by_cases h2:x=60
  ·subst h2;rw [if_pos rfl];unfold zao;simp only [zrG,if_true];rw [if_neg (by simp [preL])];rfl
  ·rw [if_neg h2]
   by_cases h3:x=34∧q=true
   ·rw [if_pos h3,h3.1];unfold zao;simp only [zrG,if_true];rw [if_neg (by simp [preL]),if_neg (by simp [preL]),if_neg (by simp [preL])];rfl
   ·rw [if_neg h3]
    unfold zao
    have k:∀p:Xc,p.head? = some 38->preL p ([x]++r)=false:=fun p hp=>zzK hp rfl h1
    simp only [k [38,97,109,112,59] rfl,k [38,108,116,59] rfl,k [38,103,116,59] rfl,k [38,113,117,111,116,59] rfl]
    rfl
theorem zhh (q:Bool) (x:Int) (l:Xc):say q (x::l)=sayB q x++say q l:=rfl
theorem zvZ {x:Int} (hx:32<=x∧x<=126):(if zbJ x then (32:Int) else x)=x:=by
 by_cases h:zbJ x=true
 ·rw [if_pos h]
  unfold zbJ at h
  simp at h
  omega
 ·rw [if_neg h]
theorem zjT {x:Int} (hx:32<=x∧x<=126):zcp x=true:=by
 unfold zcp
 simp [hx]
theorem zoY {x:Int} (hx:32<=x∧x<=126) (r:Xc) (top:OnD) (below:List OnD) (p:Nat):stp ⟨sayB false x++r,none,top,below,p⟩=putX ⟨r,none,top,below,p⟩ x:=by
 show (if tagB (sayB false x++r)=true then _ else putC ⟨(sayB false x++r).drop (zao (sayB false x++r)).2,none,top,below,p⟩ (zao (sayB false x++r)).1)=_
 rw [if_neg (by rw [zyl hx];decide),znE]
 simp only [List.drop_left]
 unfold putC
 rw [zvZ hx]
theorem zfF (ks:List (List Itm)) (k:List Itm):(ks++[k]).getLast?.bind zau=zau k:=by simp
theorem zjS {t:Xc} (h:t.length≠30):zau (txtI t)=some t:=by
 unfold zau txtI
 simp [h]
theorem zxd {x:Int} (hx:32<=x∧x<=126) {r t:Xc} {kd:Int} {nm tx:Xc} {ats:List AtV} {ks:List (List Itm)} {below:List OnD} {p:Nat} (ht:t.length≠30) :
  putX ⟨r,none,⟨kd,nm,tx,ats,ks++[txtI t]⟩,below,p⟩ x=some ⟨r,none,⟨kd,nm,tx,ats,ks++[txtI (t++[x])]⟩,below,p⟩:=by
 unfold putX
 rw [if_pos (zjT hx)]
 simp only [zfF,zjS ht,List.dropLast_concat]
theorem zyC {x:Int} (hx:32<=x∧x<=126) {r:Xc} {kd:Int} {nm tx:Xc} {ats:List AtV} {ks:List (List Itm)} {below:List OnD} {p:Nat} (hk:ks.getLast?.bind zau=none) (h1:p+1<=120) (h2:below.length+1<=19) :
  putX ⟨r,none,⟨kd,nm,tx,ats,ks⟩,below,p⟩ x=some ⟨r,none,⟨kd,nm,tx,ats,ks++[txtI [x]]⟩,below,p+1⟩:=by
 unfold putX
 rw [if_pos (zjT hx)]
 simp only [hk]
 rw [if_pos (by unfold room;simp;omega)]
theorem zlk:∀(u t r:Xc) (kd:Int) (nm tx:Xc) (ats:List AtV) (ks:List (List Itm)) (below:List OnD) (p:Nat),(∀x∈u,32<=x∧x<=126)->t.length+u.length<=30->
  Reads ⟨say false u++r,none,⟨kd,nm,tx,ats,ks++[txtI t]⟩,below,p⟩ ⟨r,none,⟨kd,nm,tx,ats,ks++[txtI (t++u)]⟩,below,p⟩
 | [],t,r,kd,nm,tx,ats,ks,below,p,_,_=>by rw [List.append_nil];exact Reads.refl _
 | x::u,t,r,kd,nm,tx,ats,ks,below,p,hu,hl=>by
  have h1:=Reads.one (zoY (hu x (by simp)) (say false u++r) ⟨kd,nm,tx,ats,ks++[txtI t]⟩ below p |>.trans (zxd (hu x (by simp)) (by simp at hl;omega)))
  have h2:=zlk u (t++[x]) r kd nm tx ats ks below p (fun y hy=>hu y (by simp [hy])) (by simp at hl ⊢;omega)
  rw [List.append_assoc]at h2
  rw [zhh,List.append_assoc]
  exact h1.trans h2
theorem zsx {u r:Xc} {kd:Int} {nm tx:Xc} {ats:List AtV} {ks:List (List Itm)} {below:List OnD} {p:Nat} (hu:zaB u) (h0:u≠[]) (hk:ks.getLast?.bind zau=none) (h1:p+1<=120) (h2:below.length+1<=19) :
  Reads ⟨say false u++r,none,⟨kd,nm,tx,ats,ks⟩,below,p⟩ ⟨r,none,⟨kd,nm,tx,ats,ks++[txtI u]⟩,below,p+1⟩:=by
 cases u with
 | nil=>exact absurd rfl h0
 | cons x u=>
  have ha:=zlS hu
  have k1:=Reads.one (zoY (ha x (by simp)) (say false u++r) ⟨kd,nm,tx,ats,ks⟩ below p |>.trans (zyC (ha x (by simp)) hk h1 h2))
  have k2:=zlk u [x] r kd nm tx ats ks below (p+1) (fun y hy=>ha y (by simp [hy])) (by have:=hu.1;simp at this ⊢;omega)
  rw [zhh,List.append_assoc]
  exact k1.trans k2
theorem zwg {x:Int} (h:(97<=x∧x<=122)∨(48<=x∧x<=57)):(zbb x || zet x)=true∧lowC x=x:=by
 refine⟨?_,?_⟩
 ·unfold zbb zet
  simp
  omega
 ·unfold lowC
  rw [if_neg (by omega)]
theorem zim {nm:Xc} {c:Int} {r:Xc} (h:∀x∈nm,(97<=x∧x<=122)∨(48<=x∧x<=57)) (hc:(zbb c || zet c)=false):zaz (nm++c::r)=(nm,c::r):=by
 induction nm with
 | nil=>
  unfold zaz upL
  simp [hc]
 | cons x nm ih=>
  obtain⟨h1,h2⟩:=zwg (h x (by simp))
  have:=ih (fun y hy=>h y (by simp [hy]))
  unfold zaz upL at this ⊢
  simp only [Bool.not_not,Prod.mk.injEq]at this
  simp only [List.cons_append,List.takeWhile_cons,List.dropWhile_cons,h1,Bool.not_not,if_true,List.map_cons,h2,this.1,this.2]
theorem zrq:∀(f k:Nat) (v:Xc),(∀x∈v,32<=x∧x<=126)->v.length<=k->(say true v).length<=f->valL f k (say true v)=v
 | 0,k,v,hv,hk,hf=>by
  cases v with
  | nil=>rfl
  | cons x v=>
   rw [zhh,List.length_append]at hf
   have:0<(sayB true x).length:=by unfold sayB;split<;>(try split)<;>(try split)<;>simp
   omega
 | f+1,k,[],hv,hk,hf=>by unfold valL;rw [if_pos (.inl rfl)]
 | f+1,k,x::v,hv,hk,hf=>by
  rw [zhh]at hf ⊢
  have h0:0<(sayB true x).length:=by unfold sayB;split<;>(try split)<;>(try split)<;>simp
  unfold valL
  rw [if_neg (by
   rintro (e | e)
   ·have:=congrArg List.length e;rw [List.length_append,List.length_nil]at this;omega
   ·rw [List.length_cons]at hk;omega)]
  simp only [znE,List.drop_left]
  rw [if_pos (zjT (hv x (by simp))),zrq f (k-1) v (fun y hy=>hv y (by simp [hy])) (by rw [List.length_cons]at hk;omega) (by rw [List.length_append]at hf;omega)]
theorem ztN (v:Xc):∀x∈say true v,x≠34:=by
 intro x hx
 obtain⟨l,hl,Aa⟩:=List.mem_flatten.1 hx
 obtain⟨y,_,rfl⟩:=List.mem_map.1 hl
 unfold sayB at Aa
 by_cases h1:y=38
 ·rw [if_pos h1]at Aa;simp at Aa;omega
 ·rw [if_neg h1]at Aa
  by_cases h2:y=60
  ·rw [if_pos h2]at Aa;simp at Aa;omega
  ·rw [if_neg h2]at Aa
   by_cases h3:y=34∧true=true
   ·rw [if_pos h3]at Aa;simp at Aa;omega
   ·rw [if_neg h3]at Aa
    simp at Aa
    subst Aa
    exact fun e=>h3 ⟨e,rfl⟩
theorem zwM {a r:Xc} (h:∀x∈a,x≠34):upL (fun x=>decide (x=34)) (a++34::r)=(a,34::r):=by
 induction a with
 | nil=>rfl
 | cons x a ih=>
  have hx:=h x (by simp)
  have:=ih (fun y hy=>h y (by simp [hy]))
  unfold upL at this ⊢
  simp only [Prod.mk.injEq]at this
  simp [hx,this.1,this.2]
theorem zvm {x:AtV} {r:Xc} (h1:zaw x.1) (h2:zaB x.2):zcA (x.1++[61,34]++say true x.2++[34]++r)=(x,r):=by
 have e:x.1++[61,34]++say true x.2++[34]++r=x.1++61::(34::(say true x.2++34::r)):=by simp
 have hn:=zim (c:=61) (r:=34::(say true x.2++34::r)) (zlT h1) rfl
 unfold zcA
 rw [e,hn]
 have hr:rawL (34::(say true x.2++34::r))=(say true x.2,r):=by
  unfold rawL
  simp only [true_or,if_true]
  rw [zwM (ztN x.2)]
  rfl
 simp only [List.head?_cons,if_true,List.drop_succ_cons,List.drop_zero,hr]
 rw [zrq _ 30 x.2 (zlS h2) h2.1 (Nat.le_refl _)]
theorem zxZ {l:List AtV} {n:Xc} (h:∀x∈l,klB x.1 n=true):posA l n=l.length:=by
 induction l with
 | nil=>rfl
 | cons x l ih=>
  have:=ih (fun y hy=>h y (by simp [hy]))
  unfold posA at this ⊢
  rw [List.takeWhile_cons,if_pos (show zaZ n x=true from h x (by simp)),List.length_cons,this,List.length_cons]
theorem zwH {l:List AtV} {x:AtV} {m:List AtV} (h:zdK (l++x::m)):zaI l x=l++[x]:=by
 have hp:=zxZ (l:=l) (n:=x.1) (fun y hy=>(List.pairwise_append.1 h.2.1).2.2 y hy x (by simp))
 have ht:zbk l x.1=false:=by
  unfold zbk
  rw [dif_neg (by rw [hp];omega)]
 have hl:=h.1
 have hn:=(zbt x.1).2 (h.2.2 x (by simp)).1
 unfold zaI
 rw [if_neg (by
  rintro (e | e | e)
  ·rw [ht]at e;cases e
  ·simp at hl;omega
  ·rw [hn]at e;cases e),hp]
 simp
theorem ztr {x:AtV} {r:Xc} {e:Bool} {nm:Xc} {l m:List AtV} {top:OnD} {below:List OnD} {p:Nat} (h:zdK (l++x::m)) :
  Reads ⟨zbA x++r,some (e,nm,l),top,below,p⟩ ⟨r,some (e,nm,l++[x]),top,below,p⟩:=by
 obtain⟨hn,ht⟩:=h.2.2 x (by simp)
 obtain⟨c,q,hq,c1,c2⟩:=zic hn
 have h1:stp ⟨zbA x++r,some (e,nm,l),top,below,p⟩=some ⟨x.1++[61,34]++say true x.2++[34]++r,some (e,nm,l),top,below,p⟩:=by
  rw [show zbA x++r=32::(x.1++[61,34]++say true x.2++[34]++r) by simp [zbA]]
  rfl
 have hL:zbb c=true:=by unfold zbb;simp [c1,c2]
 have h2:stp ⟨x.1++[61,34]++say true x.2++[34]++r,some (e,nm,l),top,below,p⟩=some ⟨r,some (e,nm,l++[x]),top,below,p⟩:=by
  show zcz zaI zaC ⟨x.1++[61,34]++say true x.2++[34]++r,some (e,nm,l),top,below,p⟩ e nm l=_
  have e1:=zvm (r:=r) hn ht
  obtain⟨z,hz⟩:∃z,x.1++[61,34]++say true x.2++[34]++r=c::z:=by rw [hq];exact⟨_,rfl⟩
  rw [hz]at e1 ⊢
  unfold zcz
  simp only
  rw [if_neg (by omega),if_pos hL,e1,zwH h]
 exact (Reads.one h1).trans (Reads.one h2)
theorem zjj:∀(m:List AtV) {r:Xc} {e:Bool} {nm:Xc} {l:List AtV} {top:OnD} {below:List OnD} {p:Nat},zdK (l++m)->
  Reads ⟨zal m++r,some (e,nm,l),top,below,p⟩ ⟨r,some (e,nm,l++m),top,below,p⟩
 | [],r,e,nm,l,top,below,p,h=>by rw [List.append_nil];exact Reads.refl _
 | x::m,r,e,nm,l,top,below,p,h=>by
  have h1:=ztr (r:=zal m++r) (e:=e) (nm:=nm) (top:=top) (below:=below) (p:=p) h
  have h2:=zjj m (r:=r) (e:=e) (nm:=nm) (l:=l++[x]) (top:=top) (below:=below) (p:=p) (by rw [List.append_assoc];exact h)
  rw [List.append_assoc]at h2
  rw [show zal (x::m)++r=zbA x++(zal m++r) by unfold zal;simp]
  exact h1.trans h2
theorem ztb {nm:Xc} {m:List AtV} {r:Xc} {top:OnD} {below:List OnD} {p:Nat} (hn:zaw nm) (hm:zdK m) :
  Reads ⟨[60]++nm++zal m++[62]++r,none,top,below,p⟩ ⟨62::r,some (false,nm,m),top,below,p⟩:=by
 obtain⟨c,q,hq,c1,c2⟩:=zic hn
 have hL:zbb c=true:=by unfold zbb;simp [c1,c2]
 obtain⟨d,z,hz,hd⟩:∃d z,zal m++(62::r)=d::z∧(zbb d || zet d)=false:=by
  cases m with
  | nil=>exact⟨62,r,rfl,rfl⟩
  | cons x m=>exact⟨32,_,rfl,rfl⟩
 have e0:[60]++nm++zal m++[62]++r=60::(nm++(zal m++(62::r))):=by simp
 have Ba:=zim (r:=z) (zlT hn) hd
 have Aa:¬ (nm++(zal m++(62::r))).head? = some 47:=by rw [hq];simp;omega
 have h1:stp ⟨[60]++nm++zal m++[62]++r,none,top,below,p⟩=some ⟨zal m++(62::r),some (false,nm,[]),top,below,p⟩:=by
  rw [e0]
  show (if tagB (60::(nm++(zal m++(62::r))))=true then some (zdP ⟨60::(nm++(zal m++(62::r))),none,top,below,p⟩) else _)=_
  have hb:tagB (60::(nm++(zal m++(62::r))))=true:=by
   unfold tagB
   simp only [List.head?_cons,decide_true,Bool.true_and,List.drop_succ_cons,List.drop_zero]
   rw [if_neg Aa,hq]
   exact hL
  rw [if_pos hb]
  unfold zdP
  simp only [List.drop_succ_cons,List.drop_zero]
  rw [if_neg Aa,decide_eq_false Aa,hz,Ba]
 exact (Reads.one h1).trans (zjj m (l:=[]) hm)
theorem ztR {nm:Xc} {m:List AtV} {r:Xc} {top:OnD} {below:List OnD} {p:Nat} (hn:zaw nm) (h1:p+1<=120) (h2:below.length+1<=19) :
  Reads ⟨62::r,some (false,nm,m),top,below,p⟩ (if zaL nm=true then ⟨r,none,{ top with kids:=top.kids++[zas ⟨0,nm,[],m,[]⟩] },below,p+1⟩ else ⟨r,none,⟨0,nm,[],m,[]⟩,top::below,p+1⟩):=by
 refine Reads.one ?_
 show zcz zaI zaC ⟨62::r,some (false,nm,m),top,below,p⟩ false nm m=_
 unfold zcz
 simp only [if_true]
 unfold endT
 rw [if_pos ((zbt nm).2 hn)]
 simp only [Bool.false_eq_true,if_false]
 unfold putE
 rw [if_pos (by unfold room;simp;omega)]
 simp only
 rw [show zok nm=zaL nm from rfl]
 split<;>rfl
theorem zqG {nm:Xc} {m:List AtV} {ks:List (List Itm)} {r:Xc} {b:OnD} {below:List OnD} {p:Nat} (hn:zaw nm) :
  Reads ⟨[60,47]++nm++[62]++r,none,⟨0,nm,[],m,ks⟩,b::below,p⟩ ⟨r,none,{ b with kids:=b.kids++[zas ⟨0,nm,[],m,ks⟩] },below,p⟩:=by
 obtain⟨c,q,hq,c1,c2⟩:=zic hn
 have hL:zbb c=true:=by unfold zbb;simp [c1,c2]
 have Aa:=zim (c:=62) (r:=r) (zlT hn) rfl
 have h1:stp ⟨[60,47]++nm++[62]++r,none,⟨0,nm,[],m,ks⟩,b::below,p⟩=some ⟨62::r,some (true,nm,[]),⟨0,nm,[],m,ks⟩,b::below,p⟩:=by
  rw [show [60,47]++nm++[62]++r=60::47::(nm++62::r) by simp]
  show (if tagB (60::47::(nm++62::r))=true then some (zdP ⟨60::47::(nm++62::r),none,⟨0,nm,[],m,ks⟩,b::below,p⟩) else _)=_
  have hb:tagB (60::47::(nm++62::r))=true:=by
   unfold tagB
   simp only [List.head?_cons,decide_true,Bool.true_and,List.drop_succ_cons,List.drop_zero,if_true]
   rw [hq]
   exact hL
  rw [if_pos hb]
  unfold zdP
  simp only [List.drop_succ_cons,List.drop_zero,List.head?_cons,if_true,decide_true]
  rw [Aa]
 refine (Reads.one h1).trans (Reads.one ?_)
 show zcz zaI zaC ⟨62::r,some (true,nm,[]),⟨0,nm,[],m,ks⟩,b::below,p⟩ true nm []=_
 unfold zcz
 simp only [if_true]
 unfold endT
 rw [if_pos ((zbt nm).2 hn),if_pos rfl]
 unfold endE zeR
 simp only [if_true]
 rfl
theorem zwJ {k:List Itm} {ks:List (List Itm)} (h:AdjX (k::ks)):AdjX ks:=by
 cases ks with
 | nil=>trivial
 | cons b r=>exact h.2
theorem ztG (o:OnD) (h:o.kind=0):zau (zas o)=none:=by
 unfold zas zau
 split
 ·rename_i i e
  rw [List.cons.injEq]at e
  rw [if_neg (by rw [<-e.1];simp [h])]
 ·rfl
def zxS (ks:List (List Itm)) (ts:List (List Itm)):Prop:=∀t,ts.head? = some t->isTx t=true->ks.getLast?.bind zau=none
theorem zwt {ks:List (List Itm)} {t:List Itm} {ts:List (List Itm)} (h:AdjX (t::ts)):zxS (ks++[t]) ts:=by
 intro u hu hx
 rw [zfF]
 cases ts with
 | nil=>cases hu
 | cons b r=>
  cases hu
  have:=h.1
  cases e:zau t with
  | none=>rfl
  | some x=>exact absurd ⟨by unfold ziW;rw [e];rfl,hx⟩ this
def szE (n:Nat) (ts:List (Tr n)):Nat:=(ts.map fun t=>(encT n t).length).sum
theorem zlR {α β:Type} (f:α->List β):∀l:List α,((l.map f).flatten).length=(l.map fun t=>(f t).length).sum
 | []=>rfl
 | x::l=>by simp [zlR f l]
theorem zeX (n:Nat) (t:Tr (n+1)):(encT (n+1) t).length=1+szE n t.kids:=by
 rw [zaW]
 unfold zas szE
 rw [List.length_cons,zlR]
 simp only [List.length_map,List.map_map]
 rw [Nat.add_comm]
 rfl
theorem zgT:∀(n:Nat) (ts:List (Tr n)) (top:OnD) (below:List OnD) (p:Nat) (r:Xc),(∀t∈ts,zbc n t)->AdjX (ts.map (encT n))->zxS top.kids (ts.map (encT n))->p+szE n ts<=120->(∀t∈ts,∀i∈encT n t,below.length+1+i.deep<=19)->
  Reads ⟨(ts.map (mkup n)).flatten++r,none,top,below,p⟩ ⟨r,none,{ top with kids:=top.kids++ts.map (encT n) },below,p+szE n ts⟩
 | n,[],top,below,p,r,_,_,_,_,_=>by simp [szE];exact Reads.refl _
 | 0,t::ts,_,_,_,_,_,_,_,_,_=>t.elim
 | n+1,t::ts,top,below,p,r,hg,ha,hx,hp,hd=>by
  have Ha:=hg t (by simp)
  have Da:=hd t (by simp)
  have Ia:szE (n+1) (t::ts)=1+szE n t.kids+szE (n+1) ts:=by
   show (encT (n+1) t).length+szE (n+1) ts=_
   rw [zeX]
  have Ca:below.length+1<=19:=Da ⟨0,t.kind,t.name,t.text,t.attrs⟩ (by rw [zaW];unfold zas;simp)
  have IH:=zgT (n+1) ts { top with kids:=top.kids++[encT (n+1) t] } below (p+(1+szE n t.kids)) r (fun u hu=>hg u (by simp [hu])) (zwJ ha) (zwt ha) (by omega) (fun u hu=>hd u (by simp [hu]))
  simp only [List.append_assoc,List.singleton_append]at IH
  have Aa:((t::ts).map (mkup (n+1))).flatten++r=mkup (n+1) t++((ts.map (mkup (n+1))).flatten++r):=by simp
  rw [Aa,Ia,<-Nat.add_assoc]
  refine Reads.trans ?_ IH
  rw [zdn]
  rcases Ha with ⟨q1,q2,q3,q4,q5,q6⟩ | ⟨⟨q1,q2,q3,q4⟩,q5,q6,q7⟩
  ·rw [if_pos q1]
   have he:encT (n+1) t=txtI t.text:=by
    rw [zaW,q1,q2,q3,q4];rfl
   have hz:szE n t.kids=0:=by rw [q4];rfl
   rw [he,hz]
   exact zsx q5 q6 (hx (encT (n+1) t) rfl (by rw [he];rfl)) (by omega) Ca
  ·rw [if_neg (by rw [q1];decide)]
   have h1:=ztb (r:=(if zaL t.name=true then [] else (t.kids.map (mkup n)).flatten++[60,47]++t.name++[62])++((ts.map (mkup (n+1))).flatten++r)) (top:=top) (below:=below) (p:=p) q2 q4
   have h2:=ztR (m:=t.attrs) (r:=(if zaL t.name=true then [] else (t.kids.map (mkup n)).flatten++[60,47]++t.name++[62])++((ts.map (mkup (n+1))).flatten++r)) (top:=top) (below:=below) (p:=p) q2 (by omega) Ca
   have Ba:=h1.trans h2
   have he:encT (n+1) t=zas ⟨0,t.name,[],t.attrs,t.kids.map (encT n)⟩:=by rw [zaW,q1,q3]
   by_cases hv:zaL t.name=true
   ·have hk:=q5 hv
    rw [if_pos hv,if_pos hv]at Ba
    rw [if_pos hv]
    rw [hk]at he ⊢
    rw [he]
    simpa [List.append_assoc,szE]using Ba
   ·rw [if_neg hv,if_neg hv]at Ba
    rw [if_neg hv]
    have Fa:=zgT n t.kids ⟨0,t.name,[],t.attrs,[]⟩ (top::below) (p+1) ([60,47]++t.name++[62]++((ts.map (mkup (n+1))).flatten++r)) q7 q6 (fun _ _ _=>rfl) (by omega) (fun u hu i hi=>by
     have:=Da i.more (by
      rw [zaW]
      unfold zas
      refine List.mem_cons_of_mem _ (List.mem_flatten.2 ⟨(encT n u).map Itm.more,List.mem_map.2 ⟨encT n u,List.mem_map.2 ⟨u,hu,rfl⟩,rfl⟩,List.mem_map.2 ⟨i,hi,rfl⟩⟩))
     simp [Itm.more]at this ⊢
     omega)
    have Ga:=zqG (m:=t.attrs) (ks:=t.kids.map (encT n)) (r:=(ts.map (mkup (n+1))).flatten++r) (b:=top) (below:=below) (p:=p+1+szE n t.kids) q2
    rw [he]
    simp only [List.append_assoc,List.nil_append,Nat.add_assoc]at Ba Fa Ga ⊢
    exact (Ba.trans Fa).trans Ga
theorem zvR {n:Nat} {t:Tr (n+1)} (hg:zbc (n+1) t) (hn:t.name=[98,111,100,121]) (ha:t.attrs=[]) (hs:(encT (n+1) t).length<=120) (hd:∀i∈encT (n+1) t,i.deep<=19) (hl:((t.kids.map (mkup n)).flatten).length<=1500) :
  bldL zaI zaC (t.kids.map (mkup n)).flatten=some (encT (n+1) t):=by
 rcases hg with ⟨q1,q2,q3,q4,q5,q6⟩ | ⟨⟨q1,q2,q3,q4⟩,q5,q6,q7⟩
 ·rw [hn]at q2;cases q2
 ·rw [zeX]at hs
  have h:=zgT n t.kids ⟨0,[98,111,100,121],[],[],[]⟩ [] 1 [] q7 q6 (fun _ _ _=>rfl) hs (fun u hu i hi=>by
   have:=hd i.more (by
    rw [zaW]
    unfold zas
    refine List.mem_cons_of_mem _ (List.mem_flatten.2 ⟨(encT n u).map Itm.more,List.mem_map.2 ⟨encT n u,List.mem_map.2 ⟨u,hu,rfl⟩,rfl⟩,List.mem_map.2 ⟨i,hi,rfl⟩⟩))
   simp [Itm.more]at this ⊢
   omega)
  rw [List.append_nil]at h
  rw [zvc hl rfl rfl h,zaW,q1,q3,hn,ha]
  simp only [List.length_nil,List.nil_append]
  rfl
end Go.Proofs.YtgjolijncmkkhaaGreatDoor
namespace Go.Proofs.YtgjolijncmkkhaaGreatDoor
open Go.RowKit Go.Maps
set_option linter.unusedVariables false
set_option maxRecDepth 100000
def kId (i:IdV):Lit:=.string (keyBytes [.int .i64 i.1,.int .i64 i.2])
def okI (i:IdV):Prop:=(Lit.int .i64 i.1).wf=true∧(Lit.int .i64 i.2).wf=true
def AtM (w:Xg) (mb:Nat) (l:List PlV):Prop:=∃(D:DataW Unit) (n:Nat),w.ownsMap Tryz.prog 50 (plainElem Tryz.prog 3) mb n D∧n<=l.length∧∀i,okI i->Maps.has D (kId i)=(posP l i).isSome∧∀k,posP l i=some k->D.atKey (kId i) (.lit (.int .i64 0))=.lit (.int .i64 (k:Int))
end Go.Proofs.YtgjolijncmkkhaaGreatDoor
namespace Go.Proofs.YtgjolijncmkkhaaGreatDoor
open Go.RowKit
set_option linter.unusedVariables false
set_option maxRecDepth 100000
def fs0 (o p:Xh):Array Xh:= #[o,p,.int .u32 0,.int .i32 0,.int .u32 0,.map none]
def fs1 (o p:Xh) (m:Nat):Array Xh:= #[o,p,.int .u32 1,.int .i32 0,.int .u32 0,.map (some m)]
def zAd (B:Nat) (o p:Xh) (w:Xg) (g:Nat):Prop:=∃m,B<=m∧Loc w g (fs1 o p m) 141∧w.heap[m]? = some zaD
def FSet (B:Nat) (o p:Xh) (w:Xg) (g:Nat):Prop:=Loc w g (fs0 o p) 141∨zAd B o p w g
theorem OwnZ.frm {w w':Xg} {base:Nat} {v:Xh} {l:Xc} {S:Xd} (h:OwnZ w base v l) (f:Frm w w' S) (hd:∀g∈FB v,g∉S):OwnZ w' base v l:=⟨h.1,zbC h.2 f hd⟩
def zon (w:Xg) (C:Xf) (p:PlV):Prop:=∃k n t a,C=[.int .i64 p.idN,.int .i64 p.idR,.int .i64 p.parN,.int .i64 p.parR,k,.int .i64 p.kind,n,t,a]∧Ints w k p.key∧Byt w n p.name∧Byt w t p.text∧RdAttrs w a p.attrs
def RdPls (w:Xg) (v:Xh) (l:List PlV):Prop:=Elems w 9 v l (zon w)
theorem RdPls.cases {w:Xg} {v:Xh} {l:List PlV} (h:RdPls w v l):(l=[]∧∃a cap,v=.slice a 0 cap)∨∃b off cap,v=.slice (some ⟨b,off,none⟩) l.length cap∧l≠[]∧b<w.heap.size∧∀i (hi:i<l.length),∃C:Xf,C.length=9∧(∀j,j<9->w.cell? ⟨b,off+i*9+j,none⟩=C[j]?)∧zon w C l[i]:=by
 obtain⟨_,⟨rfl,rfl⟩ | ⟨x,cap,rfl,hc,rfl⟩ | ⟨b,off,cap,rfl,g1,g2,g3,g4,g5⟩⟩:=h
 ·exact .inl ⟨rfl,none,0,rfl⟩
 ·exact .inl ⟨rfl,_,_,rfl⟩
 ·exact .inr ⟨b,off,cap,rfl,g3,g4,g5⟩
theorem OwAttr.frm {w w':Xg} {C:Xf} {x:Xc×Xc} {G S:Xd} (h:OwAttr w C x G) (f:Frm w w' S) (hd:∀g∈G,g∉S):OwAttr w' C x G:=by
 obtain⟨a,b,e,h1,h2,rfl⟩:=h
 exact⟨a,b,e,h1.frm f (fun g hg=>hd g (by simp [hg])),h2.frm f (fun g hg=>hd g (by simp [hg])),rfl⟩
theorem OwElems.lt {α:Type} {w:Xg} {e:Xi} {size:Nat} {v:Xh} {l:List α} {R:Xf->α->Xd->Prop} {F:Xd} (h:OwElems w e size v l R F) (hR:∀C x G,R C x G->∀g∈G,g<w.heap.size):∀g∈F,g<w.heap.size:=by
 obtain⟨Cs,Fs,h1,h2,h3,h4,rfl⟩:=h
 intro g hg
 rcases List.mem_append.1 hg with h | h
 ·exact (h4.lt g (by simpa [FB]using h)).2
 ·obtain⟨G,hG,Aa⟩:=List.mem_flatten.1 h
  obtain⟨i,hi,rfl⟩:=List.getElem_of_mem hG
  have:=(h3 i (by omega)).2
  rw [show Fs.getD i []=Fs[i] by simp [hi]]at this
  exact hR _ _ _ this g Aa
theorem OwAttr.lt {w:Xg} {C:Xf} {x:Xc×Xc} {G:Xd} (h:OwAttr w C x G):∀g∈G,g<w.heap.size:=by
 obtain⟨a,b,_,h1,h2,rfl⟩:=h
 intro g hg
 rcases List.mem_append.1 hg with h | h
 ·exact (h1.lt g (by simpa [FB]using h)).2
 ·exact (h2.lt g (by simpa [FB]using h)).2
theorem OwAttrs.lt {w:Xg} {v:Xh} {l:List (Xc×Xc)} {F:Xd} (h:OwAttrs w v l F):∀g∈F,g<w.heap.size:=OwElems.lt h (fun _ _ _ hr=>hr.lt)
end Go.Proofs.YtgjolijncmkkhaaGreatDoor
namespace Go.Proofs.YtgjolijncmkkhaaGreatDoor
open Go.RowKit
set_option linter.unusedVariables false
structure OutAt (n lo:Nat) (w:Xg) (po:Nat) (kd:Int) (nm tx at' kv:Xh) (ln lt:Xc) (la:List (Xc×Xc)) (A:List (Tr (n+1))) (Fa Fk:Xd):Prop where
 loc:Loc w po #[.int .i64 kd,nm,tx,at',kv] 29
 name:Own w 0 nm ln
 text:Own w 0 tx lt
 attrs:OwAttrs w at' la Fa
 kids:zzz (n+1) w kv A Fk
 nodup:(FB nm++FB tx++Fa++Fk).Nodup
 rng:∀q∈FB nm++FB tx++Fa++Fk,lo<=q∧q<w.heap.size∧q≠po
section
variable {n lo po:Nat} {w w':Xg} {kd:Int} {nm tx at' kv:Xh} {ln lt:Xc} {la:List (Xc×Xc)} {A:List (Tr (n+1))} {Fa Fk:Xd}
theorem OutAt.node (h:OutAt n lo w po kd nm tx at' kv ln lt la A Fa Fk) (k1 : -9223372036854775808<=kd) (k2:kd<=9223372036854775807):zpO (n+2) w [.int .i64 kd,nm,tx,at',kv] (⟨kd,ln,lt,la,A⟩:Nd (Tr (n+1))) (FB nm++FB tx++Fa++Fk):=
 ⟨nm,tx,at',kv,Fa,Fk,rfl,k1,k2,h.name,h.text,h.attrs,h.kids,rfl⟩
end
end Go.Proofs.YtgjolijncmkkhaaGreatDoor
namespace Go.Proofs.YtgjolijncmkkhaaGreatDoor
open Go.RowKit
set_option linter.unusedVariables false
set_option maxRecDepth 100000
def zAm (w:Xg) (C:Xf) (p:PlV) (F:Xd):Prop:=∃k n t a Fa,C=[.int .i64 p.idN,.int .i64 p.idR,.int .i64 p.parN,.int .i64 p.parR,k,.int .i64 p.kind,n,t,a]∧OwnZ w 0 k p.key∧RowM w 0 n p.name∧Own w 0 t p.text∧OwAttrs w a p.attrs Fa∧F=FB k++FB n++FB t++Fa
def zzQ (w:Xg) (v:Xh) (l:List PlV) (F:Xd):Prop:=OwElems w 146 9 v l (zAm w) F
end Go.Proofs.YtgjolijncmkkhaaGreatDoor
namespace Go.Proofs.YtgjolijncmkkhaaGreatDoor
open Go.RowKit Go.Maps
set_option linter.unusedVariables false
set_option maxRecDepth 100000
def CellT (w:Xg) (q:Nat):Prop:=∃cs T fz,w.heap[q]? = some (.cells cs T fz)∧(T=146∨T=3∨T=5∨T=132)
theorem zhJ {w:Xg} {b s n:Nat} {T:Xi} {v:Xh} {xs:Xf} (h:w.ownsRow b T s v n xs) (hT:T=146∨T=3∨T=5∨T=132):∀q∈FB v,CellT w q:=fun q hq=>by
 obtain⟨cs,e⟩:=zfc h (g:=q) (by simpa [FB]using hq)
 exact⟨cs,T,_,e,hT⟩
theorem zqp {α:Type} {w:Xg} {e:Xi} {size:Nat} {v:Xh} {l:List α} {R:Xf->α->Xd->Prop} {F:Xd} (h:OwElems w e size v l R F) (he:e=146∨e=3∨e=5∨e=132) (hR:∀C x G,R C x G->∀q∈G,CellT w q):∀q∈F,CellT w q:=by
 obtain⟨Cs,Fs,e1,e2,e3,e4,rfl⟩:=h
 intro q hq
 rcases List.mem_append.1 hq with hq | hq
 ·exact zhJ e4 he q hq
 ·obtain⟨G,hG,Aa⟩:=List.mem_flatten.1 hq
  obtain⟨i,hi,rfl⟩:=List.getElem_of_mem hG
  have:=(e3 i (by omega)).2
  rw [show Fs.getD i []=Fs[i] by simp [hi]]at this
  exact hR _ _ _ this q Aa
theorem OwAttrs.typ {w:Xg} {v:Xh} {l:List (Xc×Xc)} {F:Xd} (h:OwAttrs w v l F):∀q∈F,CellT w q:=
 zqp h (.inr (.inr (.inr rfl))) (fun C x G ⟨a,b,_,h1,h2,e⟩ q hq=>by
  rw [e]at hq
  rcases List.mem_append.1 hq with hq | hq
  ·exact zhJ h1.2 (.inr (.inr (.inl rfl))) q hq
  ·exact zhJ h2.2 (.inr (.inr (.inl rfl))) q hq)
def Cells (w:Xg) (q:Nat):Prop:=∃cs T fz,w.heap[q]? = some (.cells cs T fz)
theorem Cells.ofL {w:Xg} {q:Nat} {cs:Array Xh} {T:Xi} (h:Loc w q cs T):Cells w q:=⟨cs,T,_,h⟩
theorem CellT.cells {w:Xg} {q:Nat} (h:CellT w q):Cells w q:=by
 obtain⟨cs,T,fz,e,_⟩:=h
 exact⟨cs,T,fz,e⟩
theorem zqj:∃es c,zaD=.map es c:=⟨_,_,rfl⟩
structure FoS (B:Nat) (w:Xg) (g mb:Nat) (a:Xe) (c:Nat) (l:List PlV) (F:Xd):Prop where
 set:FSet (mb+1) (.slice a l.length c) (.map (some mb)) w g
 map:AtM w mb l
 row:zzQ w (.slice a l.length c) l F
 nd:F.Nodup
 ge:∀q∈F,B<=q
 geg:B<=g
 gem:B<=mb
 ids:∀p∈l,okI p.id∧okI p.par
 len:l.length<=100000
end Go.Proofs.YtgjolijncmkkhaaGreatDoor
namespace Go.Proofs.YtgjolijncmkkhaaGreatDoor
open Go.RowKit
set_option linter.unusedVariables false
set_option maxRecDepth 100000
theorem zat {P:Program} {f:FuncId} {args:Array Xh} {w:Xg} {R:Ending->Xg->Prop} (h:∀Q:Ending->Xg->Prop,Hid (∀e w',R e w'->Q e w')->Calls P f args w Q):Calls P f args w R:=h R (hide fun _ _ h=>h)
end Go.Proofs.YtgjolijncmkkhaaGreatDoor
namespace Go.Proofs.YtgjolijncmkkhaaGreatDoor
open Go.RowKit Go.Maps
set_option linter.unusedVariables false
set_option maxRecDepth 100000
theorem FoS.at {B:Nat} {w:Xg} {g mb:Nat} {a:Xe} {c:Nat} {l:List PlV} {F:Xd} (h:FoS B w g mb a c l F) (hl:0<l.length):∃gr,a=some ⟨gr,0,none⟩∧gr∈F:=by
 obtain⟨Cs,Fs,e1,e2,e3,e4,rfl⟩:=h.row
 obtain⟨gr,Aa,e,_,_⟩:=e4.form hl
 injection e with e _ _
 subst e
 exact⟨gr,rfl,List.mem_append_left _ (by simp [FB,Value.ownBlock])⟩
theorem FoS.own {B:Nat} {w:Xg} {g mb gr:Nat} {c:Nat} {l:List PlV} {F:Xd} (h:FoS B w g mb (some ⟨gr,0,none⟩) c l F) {k:Nat} (hk:k<l.length) :
  ∃(k1:Xe) (ck:Nat) (n1:Xe) (cn:Nat) (t1:Xe) (ct:Nat) (a1:Xe) (ca:Nat) (Fa:Xd),w.cell? ⟨gr,k*9,none⟩=some (.int .i64 l[k].idN)∧w.cell? ⟨gr,k*9+1,none⟩=some (.int .i64 l[k].idR)∧w.cell? ⟨gr,k*9+2,none⟩=some (.int .i64 l[k].parN)∧w.cell? ⟨gr,k*9+3,none⟩=some (.int .i64 l[k].parR)∧w.cell? ⟨gr,k*9+4,none⟩=some (.slice k1 l[k].key.length ck)∧w.cell? ⟨gr,k*9+5,none⟩=some (.int .i64 l[k].kind)∧w.cell? ⟨gr,k*9+6,none⟩=some (.slice n1 l[k].name.length cn)∧w.cell? ⟨gr,k*9+7,none⟩=some (.slice t1 l[k].text.length ct)∧w.cell? ⟨gr,k*9+8,none⟩=some (.slice a1 l[k].attrs.length ca)∧OwnZ w 0 (.slice k1 l[k].key.length ck) l[k].key∧RowM w 0 (.slice n1 l[k].name.length cn) l[k].name∧Own w 0 (.slice t1 l[k].text.length ct) l[k].text∧OwAttrs w (.slice a1 l[k].attrs.length ca) l[k].attrs Fa∧∀q∈FB (.slice k1 l[k].key.length ck)++FB (.slice n1 l[k].name.length cn)++FB (.slice t1 l[k].text.length ct)++Fa,q∈F∧q≠gr:=by
 have Ba:=h.nd
 obtain⟨Cs,Fs,e1,e2,e3,e4,rfl⟩:=h.row
 obtain⟨_,K,N,T,A,Fa,eC,o1,o2,o3,o4,eF⟩:=e3 k hk
 obtain⟨k1,ck,rfl,_⟩:=o1.ints.shape
 obtain⟨n1,cn,rfl,_⟩:=o2.byt.shape
 obtain⟨t1,ct,rfl,_⟩:=o3.byt.shape
 obtain⟨a1,ca,rfl,_⟩:=Elems.shape (OwAttrs.rd o4)
 have Aa:=fun r (hr:r<9)=>zeK e4 (fun i hi=>(e3 i (by omega)).1) e1 k r hk hr
 rw [eC]at Aa
 have d:=fun r hr=>Aa r hr
 have d0:=d 0 (by omega)
 have d1:=d 1 (by omega)
 have d2:=d 2 (by omega)
 have d3:=d 3 (by omega)
 have d4:=d 4 (by omega)
 have d5:=d 5 (by omega)
 have d6:=d 6 (by omega)
 have d7:=d 7 (by omega)
 have d8:=d 8 (by omega)
 refine⟨k1,ck,n1,cn,t1,ct,a1,ca,Fa,d0,d1,d2,d3,d4,d5,d6,d7,d8,o1,o2,o3,o4,fun q hq=> ?_⟩
 rw [<-eF]at hq
 refine⟨List.mem_append_right _ (zaO hq),fun e=> ?_⟩
 exact (List.nodup_append.1 Ba).2.2 gr (by simp [FB,Value.ownBlock]) q (zaO hq) e.symm
end Go.Proofs.YtgjolijncmkkhaaGreatDoor
namespace Go.Proofs.YtgjolijncmkkhaaGreatDoor
open Go.RowKit
set_option linter.unusedVariables false
set_option maxRecDepth 100000
end Go.Proofs.YtgjolijncmkkhaaGreatDoor
namespace Go.Proofs.YtgjolijncmkkhaaGreatDoor
set_option linter.unusedVariables false
end Go.Proofs.YtgjolijncmkkhaaGreatDoor
namespace Go.Proofs.YtgjolijncmkkhaaGreatDoor
open Go.RowKit
set_option linter.unusedVariables false
def AtI (l:List PlV):Prop:=∀p∈l,SrtA p.attrs∧p.attrs.length<=4
def Kd2 (l:List PlV):Prop:=∀(k:Nat) (p:PlV),k<2->l[k]? = some p->p.kind=0
theorem zqB {l:List AtV} {n:Xc} (hs:SrtA l) (ht:zbk l n=false):∀x∈l.drop (posA l n),klB n x.1=true:=by
 induction l with
 | nil=>intro x hx;simp at hx
 | cons a r ih=>
  obtain⟨ha,hr⟩:=List.pairwise_cons.1 hs
  rw [zna]
  rw [zrb]at ht
  by_cases h:klB a.1 n=true
  ·rw [if_pos h]at ht ⊢
   rw [List.drop_succ_cons]
   exact ih hr ht
  ·rw [if_neg h]at ht ⊢
   have Ba:a.1≠n:=of_decide_eq_false ht
   have h1:=zyX a.1 n
   rw [decide_eq_false Ba]at h1
   have h0:klB a.1 n=false:=by simpa using h
   rw [h0]at h1
   have Aa:klB n a.1=true:=by simpa using h1
   intro x hx
   rw [List.drop_zero]at hx
   rcases List.mem_cons.1 hx with rfl | hx
   ·exact Aa
   ·exact zio Aa (ha x hx)
end Go.Proofs.YtgjolijncmkkhaaGreatDoor
