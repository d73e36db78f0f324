/- Own texts joined: AppAt, AppM, Zn, ZnA, OwnE, BentT, Blk, CxT, CxU. -/
import Derived.Test.YtgjolijncmkkhaaGreatDoorQa
import Derived.Test.YtgjolijncmkkhaaGreatDoorQe
import Derived.Maps.AppendAt
import Derived.Laws.AppendOwnNone
import Derived.Deep.RegionLaw
import Derived.ArgAppend
namespace Go.Proofs.YtgjolijncmkkhaaGreatDoor
open Go.RowKit
set_option linter.unusedVariables false
theorem zoD {w:Xk} (ty:Xm) (base:Nat) (v:Xl) (l:Xg) (hown:Own w base v l) (u:Xl) (m:Xg) (hu:Byt w u m) (hlen:l.length+m.length<=134217728) (hbase:base<=w.heap.size) :
  ∃v' w',(Builtin.append_ #[22,22] ty #[v,u]).run Tryz.prog w=.ok v' w'∧Own w' base v' (l++m)∧w.grownBy w' v.ownBlock∧(v'.ownBlock=v.ownBlock∨v'.ownBlock=some w.heap.size):=by
 obtain⟨i0,hi,Ha,Ia,Da⟩:=info_parts Tryz.info5
 have Aa:∀(ad:Addr) (c:Nat),u=.slice (some ad) m.length c->(∀j,j<m.length->w.cell? (ad.add j)=some (.int .u8 (m.getD j 0)))->∃v' w',(Builtin.append_ #[22,22] ty #[v,u]).run Tryz.prog w=.ok v' w'∧Own w' base v' (l++m)∧w.grownBy w' v.ownBlock∧(v'.ownBlock=v.ownBlock∨v'.ownBlock=some w.heap.size):=by
  intro ad c Fa hc
  obtain⟨v',w',hr,h2,h3,_,h5⟩:=run_append_own_at (P:=Tryz.prog) w base 22 ty 5 i0 (.int .u8 0) 1 1 Tryz.underlying22 hi Ha Ia Da rfl (by decide) v l.length (vals l) hown.2 ad m.length c (vals m) (by rw [zbu];omega) (by
   intro j y hj
   have Ba:j<m.length:=by
    by_cases Ba:j<m.length
    ·exact Ba
    ·rw [List.getElem?_eq_none (by rw [zbu];omega)]at hj;cases hj
   rw [zfp Ba]at hj
   rw [hc j Ba];exact hj) (zqQ m) (by unfold maxLen;omega) (by omega) hbase
  subst Fa
  refine⟨v',w',hr,⟨hown.1.app hu.1,?_⟩,h3,h5⟩
  rw [zfy,List.length_append];exact h2
 obtain⟨Ja,hm,⟨rfl,rfl⟩ | ⟨y,Ca,rfl,hc,rfl⟩ | ⟨b,Ga,Ca,rfl,h1,h2,h3,h4,h5⟩⟩:=id hu
 ·exact⟨v,w,run_append_owned_none (P:=Tryz.prog) (w:=w) base 22 ty 5 i0 1 Tryz.underlying22 hi v l.length (vals l) hown.2,by rw [List.append_nil];exact hown,World.grownBy.refl _ _,.inl rfl⟩
 ·exact Aa y Ca rfl (fun j hj=>by simp at hj)
 ·exact Aa ⟨b,Ga,none⟩ Ca rfl (fun j hj=>by rw [zbp];exact h5 j hj)
theorem zuU {w:Xk} {ops:Array Oper} {o:Oper} {a:Act} {K:Act->Xk->Prop} {Q:Exit->Act->Xk->Prop} {E:Prop} (hgd:o.guard=none) (s x:Operand)
  (ho:o.op=.call { callee:=.builtin .append,args:= #[s,x],argTypes:= #[22,22] })
  (base:Nat) (v:Xl) (l:Xg) (hs:a.eval s=v) (hown:Own w base v l) (u:Xl) (m:Xg) (hx:a.eval x=u) (hu:Byt w u m)
  (hlen:l.length+m.length<=134217728) (hbase:base<=w.heap.size)
  (h:∀v' w',Own w' base v' (l++m)->w.grownBy w' v.ownBlock->(v'.ownBlock=v.ownBlock∨v'.ownBlock=some w.heap.size)->K (a.put o.dst v') w'):if Region.wanted o (yielded ops a.tmps)=true then Oper.wp Tryz.prog o a w K Q else E:=by
 have hw:Region.wanted o (yielded ops a.tmps)=true:=by simp [Region.wanted,hgd]
 rw [if_pos hw]
 obtain⟨v',w',hr,h1,h2,h3⟩:=zoD o.type base v l hown u m hu hlen hbase
 unfold Oper.wp execOp
 simp only [ho,resolve,invoke,builtin,Sem.run_bind,Sem.run_pure,Result.andThen_ok,List.map_toArray,List.map_cons,List.map_nil,hs,hx,hr]
 exact h v' w' h1 h2 h3
theorem zqs {w:Xk} {ops:Array Oper} {rest:List Oper} {o:Oper} {a:Act} {Q:Exit->Act->Xk->Prop} (hgd:o.guard=none) (s x:Operand)
  (ho:o.op=.call { callee:=.builtin .append,args:= #[s,x],argTypes:= #[22,22] })
  (base:Nat) (v:Xl) (l:Xg) (hs:a.eval s=v) (hown:Own w base v l) (u:Xl) (m:Xg) (hx:a.eval x=u) (hu:Byt w u m)
  (hlen:l.length+m.length<=134217728) (hbase:base<=w.heap.size)
  (h:∀v' w',Own w' base v' (l++m)->w.grownBy w' v.ownBlock->(v'.ownBlock=v.ownBlock∨v'.ownBlock=some w.heap.size)->wpList Tryz.prog ops Q rest (a.put o.dst v') w'):wpList Tryz.prog ops Q (o::rest) a w:=by
 refine wpList_plain hgd fun K Aa=> ?_
 have:=zuU (ops:=ops) (K:=K) (Q:=Q) (E:=True) hgd s x ho base v l hs hown u m hx hu hlen hbase (fun v' w' h1 h2 h3=>Aa _ _ (h v' w' h1 h2 h3))
 rw [if_pos (by simp [Region.wanted,hgd])]at this
 exact this
theorem zbR (w:Xk) (g i:Nat) (cs:Array Xl) (t:Xm) (fr:Nat×Nat) (v:Xl) (hg:w.heap[g]? = some (.cells cs t fr)):(w.setCell ⟨g,i,none⟩ v).heap[g]? = some (.cells (cs.setIfInBounds i v) t fr):=by
 unfold World.setCell
 simp [Array.getElem?_modify,hg]
theorem zru (w:Xk) (g j:Nat) (cs:Array Xl) (t:Xm) (fr:Nat×Nat) (hg:w.heap[g]? = some (.cells cs t fr)) (hj:¬ (fr.1<=j∧j<fr.2)):w.frozen? ⟨g,j,none⟩=false:=by
 unfold World.frozen?
 simp only [hg]
 simpa using hj
theorem zva (w:Xk) (g j:Nat) (v:Xl):w.grownBy (w.setCell ⟨g,j,none⟩ v) (some g):=⟨rfl,rfl,rfl,by simp,fun k _ hk=>heap_setCell_other w ⟨g,j,none⟩ k v (fun e=>hk (by simp [e]))⟩
theorem zxb {w w':Xk} (h:w.grownBy w' none) (row:Option Nat):w.grownBy w' row:=⟨h.os,h.tape,h.output,h.size,fun k hk _=>h.block k hk (by simp)⟩
theorem zqb {w:Xk} (ty:Xm) (base:Nat) (v:Xl) (l:Xg) (hrow:RowM w base v l) (b c:Nat) (x:Int) (hx0:0<=x) (hx1:x<=255) (hc:w.cell? ⟨b,0,none⟩=some (.int .u8 x)) (hby:Byt w (.slice (some ⟨b,0,none⟩) 1 c) [x]) (hlen:l.length<=1000) (hbase:base<=w.heap.size) :
  ∃v' w',(Builtin.append_ #[22,22] ty #[v,.slice (some ⟨b,0,none⟩) 1 c]).run Tryz.prog w=.ok v' w'∧RowM w' base v' (l++[x])∧w.grownBy w' v.ownBlock∧(v'.ownBlock=v.ownBlock∨∀q,v'.ownBlock=some q->w.heap.size<=q):=by
 obtain⟨i0,hi,Ja,Da,Ka⟩:=info_parts Tryz.info5
 have Aa:∀j u,([.int .u8 x]:Xj)[j]? = some u->w.cell? ((⟨b,0,none⟩:Addr).add j)=some u:=by
  intro j u hj
  match j,hj with
  | 0,hj=>rw [zbp,hc];simpa using hj
 rcases hrow.2 with ⟨rfl,rfl⟩ | ⟨g,Fa,Ba,fz,rfl,hb,hg,hf,h1,h2,h3,h4⟩
 ·obtain⟨v',w',hr,h1,h2,h3⟩:=zoD (w:=w) ty base (.slice none 0 0) [] ⟨zaI,rfl,.inl ⟨rfl,rfl⟩⟩ (.slice (some ⟨b,0,none⟩) 1 c) [x] hby (by simp) hbase
  exact⟨v',w',hr,h1.rowm,h2,h3.imp id (fun e q hq=>by rw [e]at hq;cases hq;exact Nat.le_refl _)⟩
 ·have Na:g<w.heap.size:=(Array.getElem?_eq_some_iff.1 hg).1
  by_cases hroom:l.length+1<=Fa
  ·have Ca:=run_append_room_cells (P:=Tryz.prog) w 22 ty 5 i0 Tryz.underlying22 hi g 0 l.length Fa ⟨b,0,none⟩ 1 c [.int .u8 x] (by rw [Da];rfl) Aa (by intro u hu;simp at hu;subst hu;rfl) hroom
    (by intro j hj;simp at hj;subst hj;rw [Da,cell_of_row w g _ Ba _ fz hg];simp;omega)
    (by intro j hj;simp at hj;subst hj;rw [Da];exact zru w g _ Ba _ fz hg (hf _ (by simp;omega)))
   refine⟨_,_,Ca,?_,?_,.inl rfl⟩
   ·refine⟨hrow.1.app (okB.one hx0 hx1),.inr ⟨g,Fa,Ba.setIfInBounds l.length (.int .u8 x),fz,by simp,hb,?_,hf,by simp;omega,h2,by simpa using h3,?_⟩⟩
    ·rw [Da]
     have:=zbR w g l.length Ba _ fz (.int .u8 x) hg
     simpa [World.setCells]using this
    ·have Ma:l.length<Ba.toList.length:=by simp;omega
     rw [Array.toList_setIfInBounds,List.length_append,zfy,<-h4]
     simp only [List.length_cons,List.length_nil,Nat.zero_add]
     have Ia:l.length<(Ba.toList.set l.length (.int .u8 x)).length:=by simpa using Ma
     rw [List.take_succ_eq_append_getElem Ia,List.getElem_set_self,List.take_set_of_le (Nat.le_refl _)]
     rfl
   ·rw [Da]
    have:=zva w g l.length (.int .u8 x)
    simpa [World.setCells,Value.ownBlock]using this
  ·obtain⟨v',w',Ca,Ga,La⟩:=run_append_arg_grows (P:=Tryz.prog) w 22 ty 5 i0 (.int .u8 0) 1 1 Tryz.underlying22 hi Ja Da Ka rfl (by decide) ⟨g,0,none⟩ l.length Fa (vals l) (by rw [zbu];omega) (by
     intro j u hj
     have Ha:j<l.length:=by
      by_cases Ha:j<l.length
      ·exact Ha
      ·rw [List.getElem?_eq_none (by rw [zbu];omega)]at hj;cases hj
     rw [zbp,Nat.zero_add,cell_of_row w g j Ba _ fz hg]
     have:=zso h4 Ha
     rw [hj]at this
     simpa using this) ⟨b,0,none⟩ 1 c [.int .u8 x] rfl Aa (by omega) (by unfold maxLen;omega) (by omega)
   have hO:Own w' w.heap.size v' (l++[x]):=⟨hrow.1.app (okB.one hx0 hx1),by rw [zfy,List.length_append];exact Ga⟩
   refine⟨v',w',Ca,(hO.rowm.mono hbase),zxb La _,.inr (fun q hq=>(hO.lt q hq).1)⟩
def zBK (T:Xm) (i:Nat):Nat:=if T=29 then (if i % 5=0 then 1 else if i % 5=3 then 3 else if i % 5=4 then 4 else 2) else if T=132 then 2 else 0
def elT (q:Nat):Xm:=if q=0 then 5 else if q=1 then 132 else 29
def elS (q:Nat):Nat:=if q=0 then 1 else if q=1 then 2 else 5
def ZB (w:Xk) (g:Nat) (T:Xm) (m:Nat):Prop:=∃cur fz,w.heap[g]? = some (.cells cur T fz)∧cur.size=m
def ZSl (w:Xk) (B N:Nat) (T:Xm) (sz:Nat) (v:Xl):Prop:=∃a n c,v=.slice a n c∧n<=c∧n<=N∧c<=maxLen∧((a=none∧c=0)∨∃g,a=some ⟨g,0,none⟩∧B<=g∧ZB w g T (c*sz))
def ZV (w:Xk) (B N:Nat):Nat->Xl->Prop
 | 0=>fun v=>∃x,v=.int .u8 x∧0<=x∧x<=255
 | 1=>fun v=>∃x,v=.int .i64 x
 | q+2=>fun v=>ZSl w B N (elT q) (elS q) v
structure ZTy (t:Xm) (q:Nat) (i:TypeInfo) (z:Xl):Prop where
 und:Tryz.prog.underlying t=some (.slice (elT q))
 inf:Tryz.prog.info? (elT q)=some i
 zero:i.zero=some z
 size:i.size=elS q
 byt:i.bytes<=104
 cel:z.cells.size=elS q
 typ:∀(w:Xk) (B N r:Nat) (u:Xl),z.cells[r]? = some u->ZV w B N (zBK (elT q) r) u
theorem zzV:(Tryz.prog.info? 5).map (fun i=>(i.zero,i.size,i.bytes))=some (some (.int .u8 0),1,1):=by kernel_rfl
theorem zty0:∃i,ZTy 22 0 i (.int .u8 0):=by
 obtain⟨i,h1,h2,h3,h4⟩:=info_parts zzV
 refine⟨i,Tryz.underlying22,h1,h2,h3,by omega,rfl,fun w B N r u hu=> ?_⟩
 match r,hu with
 | 0,hu=>simp [Value.cells]at hu;subst hu;exact⟨0,rfl,by decide,by decide⟩
theorem zeV {w:Xk} {base g n cap size:Nat} {e:Xm} {Cs:List (Xj)} (h:w.ownsRow base e size (.slice (some ⟨g,0,none⟩) n cap) n Cs.flatten) (hC:∀i,i<Cs.length->(Cs.getD i []).length=size) (hl:Cs.length=n) (i j:Nat) (hi:i<n) (hj:j<size) :
  w.cell? ⟨g,i*size+j,none⟩=(Cs.getD i [])[j]? :=by
 have Aa:i*size+j<n*size:=by
  have:(i+1)*size<=n*size:=Nat.mul_le_mul_right _ hi
  rw [Nat.succ_mul]at this;omega
 rw [h.cellAt (i*size+j) Aa]
 exact zmE Cs size hC i j (by omega) hj
theorem zhb:∀{Fs:List (Xh)} {i j:Nat},Fs.flatten.Nodup->i≠j->∀g∈Fs.getD i [],g∉Fs.getD j []
 | [],i,j,_,_,g,hg,_=>by simp at hg
 | F::Fs,i,j,h,hij,g,hg,hg'=>by
  rw [List.flatten_cons]at h
  have h2:=List.nodup_append.1 h
  cases i with
  | zero=>
   cases j with
   | zero=>exact hij rfl
   | succ j=>
    simp only [List.getD_cons_zero]at hg
    simp only [List.getD_cons_succ]at hg'
    exact h2.2.2 g hg g (zaH hg') rfl
  | succ i=>
   cases j with
   | zero=>
    simp only [List.getD_cons_zero]at hg'
    simp only [List.getD_cons_succ]at hg
    exact h2.2.2 g hg' g (zaH hg) rfl
   | succ j=>
    simp only [List.getD_cons_succ]at hg hg'
    exact zhb (i:=i) (j:=j) h2.2.1 (by omega) g hg hg'
theorem zhH:∀{Fs:List (Xh)} {i:Nat},Fs.flatten.Nodup->(Fs.getD i []).Nodup
 | [],i,_=>by simp
 | F::Fs,i,h=>by
  rw [List.flatten_cons]at h
  have h2:=List.nodup_append.1 h
  cases i with
  | zero=>simpa using h2.1
  | succ i=>simpa using zhH (i:=i) h2.2.1
theorem zbS {w:Xk} {base:Nat} {e:Xm} {size n:Nat} {v:Xl} {xs:Xj} (h:w.ownsRow base e size v n xs):∃a cap,v=.slice a n cap:=by
 rcases h.2 with ⟨rfl,rfl⟩ | ⟨g,cap,Aa,rfl,_⟩
 ·exact⟨_,_,rfl⟩
 ·exact⟨_,_,rfl⟩
theorem zqV (size:Nat) (D:Xj) (hD:D.length=size) (i:Nat) (hi:i<size) (v:Xl):∀(Ds:List (Xj)) (j:Nat),(∀i,i<Ds.length->(Ds.getD i []).length=size)->j<Ds.length->(Ds.set j (D.set i v)).flatten=(Ds.set j D).flatten.set (j*size+i) v
 | [],j,_,hj=>by simp at hj
 | C::Ds,0,_,_=>by
  simp only [List.set_cons_zero,List.flatten_cons,Nat.zero_mul,Nat.zero_add]
  rw [List.set_append_left _ _ (by omega)]
 | C::Ds,j+1,h,hj=>by
  have h0:C.length=size:=by simpa using h 0 (by simp)
  have e:(j+1)*size+i=C.length+(j*size+i):=by rw [h0,Nat.succ_mul];omega
  rw [List.set_cons_succ,List.set_cons_succ,List.flatten_cons,List.flatten_cons,e,List.set_append_right _ _ (by omega),Nat.add_sub_cancel_left]
  rw [zqV size D hD i hi v Ds j (fun k hk=>by simpa using h (k+1) (by simpa using hk)) (by simpa using hj)]
structure RowJ (w:Xk) (T:Xm) (size g n cap:Nat) (Ds:List (Xj)) (j:Nat) (D:Xj):Prop where
 lenD:D.length=size
 lenDs:Ds.length=n
 lens:∀i,i<Ds.length->(Ds.getD i []).length=size
 lt:j<n
 row:w.ownsRow 0 T size (.slice (some ⟨g,0,none⟩) n cap) n (Ds.set j D).flatten
theorem zeA {α:Type} (Ds:List (List α)) (j:Nat) (D:List α) (h:j<Ds.length):(Ds.set j D).getD j []=D:=by
 simp [List.getD_eq_getElem?_getD,h]
theorem zgq {α:Type} (Ds:List (List α)) (i j:Nat) (D:List α) (h:i≠j):(Ds.set j D).getD i []=Ds.getD i []:=by
 simp [List.getD_eq_getElem?_getD,Ne.symm h]
theorem RowJ.lens' {w:Xk} {T:Xm} {size g n cap:Nat} {Ds:List (Xj)} {j:Nat} {D:Xj} (h:RowJ w T size g n cap Ds j D):∀i,i<(Ds.set j D).length->((Ds.set j D).getD i []).length=size:=fun i hi=>by
 by_cases e:i=j
 ·subst e;rw [zeA _ _ _ (by rw [h.lenDs];exact h.lt)];exact h.lenD
 ·rw [zgq _ _ _ _ e];exact h.lens i (by simpa using hi)
theorem RowJ.cell {w:Xk} {T:Xm} {size g n cap:Nat} {Ds:List (Xj)} {j:Nat} {D:Xj} (h:RowJ w T size g n cap Ds j D) (i:Nat) (hi:i<size):w.cell? ⟨g,j*size+i,none⟩=D[i]? :=by
 have:=zeV h.row h.lens' (by simp [h.lenDs]) j i h.lt hi
 rw [zeA _ _ _ (by rw [h.lenDs];exact h.lt)]at this
 exact this
theorem RowJ.put {w:Xk} {T:Xm} {size g n cap:Nat} {Ds:List (Xj)} {j:Nat} {D:Xj} (h:RowJ w T size g n cap Ds j D) (i:Nat) (hi:i<size) (v:Xl):RowJ (w.setCell ⟨g,j*size+i,none⟩ v) T size g n cap Ds j (D.set i v):=
 ⟨by rw [List.length_set];exact h.lenD,h.lenDs,h.lens,h.lt,by
  rw [zqV size D h.lenD i hi v Ds j h.lens (by rw [h.lenDs];exact h.lt)]
  exact (h.row.stored (j*size+i) v).1⟩
theorem RowJ.frozen {w:Xk} {T:Xm} {size g n cap:Nat} {Ds:List (Xj)} {j:Nat} {D:Xj} (h:RowJ w T size g n cap Ds j D) (i:Nat):w.frozen? ⟨g,i,none⟩=false:=h.row.frozenAt i
theorem RowJ.frm {w w':Xk} {T:Xm} {size g n cap:Nat} {Ds:List (Xj)} {j:Nat} {D:Xj} {S:Xh} (h:RowJ w T size g n cap Ds j D) (f:Frm w w' S) (hg:g∉S):RowJ w' T size g n cap Ds j D:=
 ⟨h.lenD,h.lenDs,h.lens,h.lt,zbG h.row f (fun p hp=>by
  have:p=g:=by simpa [FB,Value.ownBlock]using hp
  rw [this];exact hg)⟩
theorem RowJ.start {w:Xk} {T:Xm} {size g n cap:Nat} {Ds:List (Xj)} (hl:Ds.length=n) (h:∀i,i<Ds.length->(Ds.getD i []).length=size) (j:Nat) (hj:j<n) (hr:w.ownsRow 0 T size (.slice (some ⟨g,0,none⟩) n cap) n Ds.flatten):RowJ w T size g n cap Ds j (Ds.getD j []):=
 ⟨h j (by omega),hl,h,hj,by
  have e:Ds.set j (Ds.getD j [])=Ds:=by
   apply List.ext_getElem?
   intro i
   rw [List.getElem?_set]
   split
   ·rename_i e;subst e
    rw [if_pos (by omega),List.getD_eq_getElem?_getD,List.getElem?_eq_getElem (by omega)];rfl
   ·rfl
  rw [e];exact hr⟩
set_option maxRecDepth 100000
def Raw (w:Xk) (T:Xm) (sz:Nat) (v:Xl):Prop:=∃a n c,v=.slice a n c∧n<=c∧c<=maxLen∧((a=none∧c=0)∨∃g cur fz,a=some ⟨g,0,none⟩∧w.heap[g]? = some (.cells cur T fz)∧cur.size=c*sz∧∀j,j<cur.size->¬ (fz.1<=j∧j<fz.2))
theorem Raw.frm {w w':Xk} {T:Xm} {sz:Nat} {v:Xl} {S:Xh} (h:Raw w T sz v) (f:Frm w w' S) (hd:∀q∈FB v,q∉S):Raw w' T sz v:=by
 obtain⟨a,n,c,rfl,h1,h2,h3 | ⟨g,Aa,fz,rfl,h3,h4,h5⟩⟩:=h
 ·exact⟨a,n,c,rfl,h1,h2,.inl h3⟩
 ·exact⟨_,n,c,rfl,h1,h2,.inr ⟨g,Aa,fz,rfl,(f.block g (Array.getElem?_eq_some_iff.1 h3).1 (hd g (by simp [FB,Value.ownBlock]))).trans h3,h4,h5⟩⟩
theorem RowM.raw {w:Xk} {base:Nat} {v:Xl} {l:Xg} (h:RowM w base v l):Raw w 5 1 v:=by
 rcases h.2 with ⟨rfl,_⟩ | ⟨g,Ba,Aa,fz,rfl,_,hg,hz,h1,h2,h3,_⟩
 ·exact⟨none,0,0,rfl,Nat.le_refl _,Nat.zero_le _,.inl ⟨rfl,rfl⟩⟩
 ·exact⟨_,_,Ba,rfl,h1,h2,.inr ⟨g,Aa,fz,rfl,hg,by omega,fun j hj=>hz j (by omega)⟩⟩
theorem zsR {w:Xk} {base:Nat} {e:Xm} {size n:Nat} {v:Xl} {xs:Xj} (h:w.ownsRow base e size v n xs):Raw w e size v:=by
 rcases h.2 with ⟨rfl,rfl⟩ | ⟨g,Ba,Aa,rfl,_,hg,h1,h2,h3,_⟩
 ·exact⟨none,0,0,rfl,Nat.le_refl _,Nat.zero_le _,.inl ⟨rfl,rfl⟩⟩
 ·exact⟨_,_,Ba,rfl,h1,h2,.inr ⟨g,Aa,(0,0),rfl,hg,h3,fun j _ hj=>by simp at hj⟩⟩
def N5 (w:Xk) (bx off:Nat) (u0 u1 u2 u3 u4:Xl):Prop:=∃cur,w.heap[bx]? = some (.cells cur 29 (0,0))∧cur[off]? = some u0∧cur[off+1]? = some u1∧cur[off+2]? = some u2∧cur[off+3]? = some u3∧cur[off+4]? = some u4
theorem N5.lt {w:Xk} {bx off:Nat} {u0 u1 u2 u3 u4:Xl} (h:N5 w bx off u0 u1 u2 u3 u4):bx<w.heap.size:=by
 obtain⟨Aa,h,_⟩:=h
 exact (Array.getElem?_eq_some_iff.1 h).1
theorem N5.frm {w w':Xk} {bx off:Nat} {u0 u1 u2 u3 u4:Xl} {S:Xh} (h:N5 w bx off u0 u1 u2 u3 u4) (f:Frm w w' S) (hn:bx∉S):N5 w' bx off u0 u1 u2 u3 u4:=by
 have hl:=h.lt
 obtain⟨Aa,h0,h1⟩:=h
 exact⟨Aa,(f.block bx hl hn).trans h0,h1⟩
theorem N5.cells {w:Xk} {bx off:Nat} {u0 u1 u2 u3 u4:Xl} (h:N5 w bx off u0 u1 u2 u3 u4):w.cell? ⟨bx,off,none⟩=some u0∧w.cell? ⟨bx,off+1,none⟩=some u1∧w.cell? ⟨bx,off+2,none⟩=some u2∧w.cell? ⟨bx,off+3,none⟩=some u3∧w.cell? ⟨bx,off+4,none⟩=some u4:=by
 obtain⟨Aa,h0,h1,h2,h3,h4,h5⟩:=h
 have hc:=fun i=>cell_of_row w bx i Aa _ _ h0
 exact⟨(hc _).trans h1,(hc _).trans h2,(hc _).trans h3,(hc _).trans h4,(hc _).trans h5⟩
theorem N5.frozen {w:Xk} {bx off:Nat} {u0 u1 u2 u3 u4:Xl} (h:N5 w bx off u0 u1 u2 u3 u4) (j:Nat):w.frozen? ⟨bx,j,none⟩=false:=by
 obtain⟨Aa,h0,_⟩:=h
 exact frozen_of_row w bx j Aa _ h0
theorem N5.loc {w:Xk} {b:Nat} {u0 u1 u2 u3 u4:Xl} (h:Loc w b #[u0,u1,u2,u3,u4] 29):N5 w b 0 u0 u1 u2 u3 u4:=⟨_,h,rfl,rfl,rfl,rfl,rfl⟩
def Shp (i:Nat) (v:Xl):Prop:=if i=0 then ∃x,v=.int .i64 x else ∃a n c,v=.slice a n c
def NB (w:Xk) (b:Nat):Prop:=∃kd a1 n1 c1 a2 n2 c2 a3 n3 c3 a4 n4 c4,N5 w b 0 (.int .i64 kd) (.slice a1 n1 c1) (.slice a2 n2 c2) (.slice a3 n3 c3) (.slice a4 n4 c4)
theorem NB.frm {w w':Xk} {b:Nat} {S:Xh} (h:NB w b) (f:Frm w w' S) (hn:b∉S):NB w' b:=by
 obtain⟨kd,a1,n1,c1,a2,n2,c2,a3,n3,c3,a4,n4,c4,h⟩:=h
 exact⟨kd,a1,n1,c1,a2,n2,c2,a3,n3,c3,a4,n4,c4,h.frm f hn⟩
theorem N5.put {w:Xk} {b i:Nat} {v u0 u1 u2 u3 u4:Xl} (h:N5 w b 0 u0 u1 u2 u3 u4):N5 (w.setCell ⟨b,i,none⟩ v) b 0 (if i=0 then v else u0) (if i=1 then v else u1) (if i=2 then v else u2) (if i=3 then v else u3) (if i=4 then v else u4):=by
 obtain⟨Ba,h0,h1,h2,h3,h4,h5⟩:=h
 have Aa:∀j u,Ba[j]? = some u->(Ba.setIfInBounds i v)[j]? = some (if i=j then v else u):=fun j u hj=>by
  rw [Array.getElem?_setIfInBounds]
  by_cases e:i=j
  ·subst e
   have:=(Array.getElem?_eq_some_iff.1 hj).1
   simp [this]
  ·simp [e,hj]
 exact⟨_,zbR w b i Ba _ (0,0) v h0,Aa 0 _ h1,Aa 1 _ h2,Aa 2 _ h3,Aa 3 _ h4,Aa 4 _ h5⟩
theorem NB.store {w:Xk} {b bx off:Nat} (h:NB w b) (hr:(bx=b∧off=0)∨bx≠b) (i:Nat) (v:Xl) (hv:Shp i v):NB (w.setCell ⟨bx,off+i,none⟩ v) b:=by
 rcases hr with ⟨rfl,rfl⟩ | Aa
 ·obtain⟨kd,a1,n1,c1,a2,n2,c2,a3,n3,c3,a4,n4,c4,h⟩:=h
  have:=h.put (i:=0+i) (v:=v)
  rw [Nat.zero_add]at this ⊢
  by_cases e0:i=0
  ·subst e0
   obtain⟨x,rfl⟩:=hv
   exact⟨x,a1,n1,c1,a2,n2,c2,a3,n3,c3,a4,n4,c4,by simpa using this⟩
  ·obtain⟨a,n,c,rfl⟩:∃a n c,v=.slice a n c:=by unfold Shp at hv;rw [if_neg e0]at hv;exact hv
   by_cases e1:i=1
   ·subst e1;exact⟨kd,a,n,c,a2,n2,c2,a3,n3,c3,a4,n4,c4,by simpa using this⟩
   by_cases e2:i=2
   ·subst e2;exact⟨kd,a1,n1,c1,a,n,c,a3,n3,c3,a4,n4,c4,by simpa using this⟩
   by_cases e3:i=3
   ·subst e3;exact⟨kd,a1,n1,c1,a2,n2,c2,a,n,c,a4,n4,c4,by simpa using this⟩
   by_cases e4:i=4
   ·subst e4;exact⟨kd,a1,n1,c1,a2,n2,c2,a3,n3,c3,a,n,c,by simpa using this⟩
   ·exact⟨kd,a1,n1,c1,a2,n2,c2,a3,n3,c3,a4,n4,c4,by simpa [e0,e1,e2,e3,e4]using this⟩
 ·exact h.frm (zaq w bx (off+i) v) (by simpa using fun e=>Aa e.symm)
def Bk (w:Xk) (bx off:Nat):Prop:=∃cur,w.heap[bx]? = some (.cells cur 29 (0,0))∧off+5<=cur.size
theorem N5.bk {w:Xk} {bx off:Nat} {u0 u1 u2 u3 u4:Xl} (h:N5 w bx off u0 u1 u2 u3 u4):Bk w bx off:=by
 obtain⟨Aa,h0,_,_,_,_,h5⟩:=h
 exact⟨Aa,h0,by have:=(Array.getElem?_eq_some_iff.1 h5).1;omega⟩
theorem Bk.frm {w w':Xk} {bx off:Nat} {S:Xh} (h:Bk w bx off) (f:Frm w w' S) (hn:bx∉S):Bk w' bx off:=by
 obtain⟨Aa,h0,h1⟩:=h
 exact⟨Aa,(f.block bx (Array.getElem?_eq_some_iff.1 h0).1 hn).trans h0,h1⟩
theorem Bk.lt {w:Xk} {bx off:Nat} (h:Bk w bx off):bx<w.heap.size:=by
 obtain⟨Aa,h0,_⟩:=h
 exact (Array.getElem?_eq_some_iff.1 h0).1
theorem Bk.set {w:Xk} {bx off:Nat} (h:Bk w bx off) (j:Nat) (v:Xl):Bk (w.setCell ⟨bx,j,none⟩ v) bx off:=by
 obtain⟨Aa,h0,h1⟩:=h
 exact⟨_,zbR w bx j Aa _ (0,0) v h0,by simpa using h1⟩
theorem Bk.cell {w:Xk} {bx off:Nat} (h:Bk w bx off) (i:Nat) (hi:i<5):∃v,w.cell? ⟨bx,off+i,none⟩=some v∧w.frozen? ⟨bx,off+i,none⟩=false:=by
 obtain⟨Aa,h0,h1⟩:=h
 have Ba:off+i<Aa.size:=by omega
 exact⟨Aa[off+i],by rw [cell_of_row w bx _ Aa _ _ h0];simp [Ba],frozen_of_row w bx _ Aa _ h0⟩
theorem Bk.put4 {w:Xk} {bx off:Nat} (h:Bk w bx off) (v:Xl):(w.setCell ⟨bx,off+4,none⟩ v).cell? ⟨bx,off+4,none⟩=some v:=by
 obtain⟨Aa,h0,h1⟩:=h
 rw [cell_of_row _ bx _ _ _ _ (zbR w bx (off+4) Aa _ (0,0) v h0)]
 rw [Array.getElem?_setIfInBounds]
 have:off+4<Aa.size:=by omega
 simp [this]
theorem zyb (w:Xk) (p n c:Nat) (C:Array Xl) (h:Loc w p C 5):∃w',(convert 22 22 (.slice (some ⟨p,0,none⟩) n c)).run Tryz.prog w=.ok (.slice (some ⟨p,0,none⟩) n c) w'∧Frm w w' [p]∧w'.heap.size=w.heap.size∧w'.heap[p]? = some (.cells C 5 (C.size,C.size+1)):=by
 have Aa:w.shape? p=some (5,C.size):=by unfold World.shape?;unfold Loc at h;rw [h]
 refine⟨w.freeze ⟨p,C.size,none⟩ 1,?_,?_,?_,?_⟩
 ·simp [convert,run_underlying Tryz.underlying22,run_underlying Tryz.underlying5,markStringish,Aa]
 ·unfold World.freeze
  rw [if_neg (by decide)]
  refine⟨rfl,rfl,rfl,by simp,fun k hk hn=> ?_⟩
  simp only [List.mem_singleton]at hn
  show (w.heap.modify p _)[k]? = w.heap[k]?
  rw [Array.getElem?_modify,if_neg (fun e=>hn e.symm)]
 ·unfold World.freeze
  rw [if_neg (by decide)]
  simp
 ·unfold World.freeze
  rw [if_neg (by decide)]
  show (w.heap.modify p _)[p]? = _
  unfold Loc at h
  rw [Array.getElem?_modify,if_pos rfl,h]
  rfl
theorem OwNodeM.kid {d:Nat} {w:Xk} {u0 u1 u2 u3 u4:Xl} {t:Tr (d+1)} {F:Xh} (h:OwNodeM (d+1) w [u0,u1,u2,u3,u4] t F) (hn:F.Nodup) (k:Nat) (hk:k<t.kids.length) :
  ∃gk cap v0 v1 v2 v3 v4 F',u4=.slice (some ⟨gk,0,none⟩) t.kids.length cap∧N5 w gk (k*5) v0 v1 v2 v3 v4∧OwNodeM d w [v0,v1,v2,v3,v4] t.kids[k] F'∧F'.Nodup∧(∀q∈F',q∈F)∧gk∈F∧gk∉F':=by
 obtain⟨a,b,c,dv,Fc,Fd,e,k1,k2,h1,h2,h3,⟨Cs,Fs,l1,l2,h4,h5,h6⟩,rfl⟩:=h
 simp only [List.cons.injEq,and_true]at e
 obtain⟨rfl,rfl,rfl,rfl,rfl⟩:=e
 obtain⟨q1,q2⟩:=h4 k hk
 have Ca:=h5
 rcases h5.2 with ⟨_,e0⟩ | ⟨g,cap,Fa,rfl,hb,hg,Ia,Ha,Ja,Ga⟩
 ·omega
 have Aa:=fun j (hj:j<5)=>zeV Ca (fun i hi=>(h4 i (by omega)).1) l1 k j hk hj
 generalize hC:Cs.getD k []=C at *
 match C,q1 with
 | [v0,v1,v2,v3,v4],_=>
  have nd:=(List.nodup_append.1 hn).2.1
  subst h6
  have Da:=List.nodup_append.1 nd
  have Ba:=fun j=>cell_of_row w g j Fa _ _ hg
  refine⟨g,cap,v0,v1,v2,v3,v4,Fs.getD k [],rfl,⟨Fa,hg,?_,?_,?_,?_,?_⟩,q2,zhH Da.2.1,fun q hq=>by simp [zaH hq],by simp [FB,Value.ownBlock],fun hq=>Da.2.2 g (by simp [FB,Value.ownBlock]) g (zaH hq) rfl⟩
  ·exact (Ba _).symm.trans (Aa 0 (by decide))
  ·exact (Ba _).symm.trans (Aa 1 (by decide))
  ·exact (Ba _).symm.trans (Aa 2 (by decide))
  ·exact (Ba _).symm.trans (Aa 3 (by decide))
  ·exact (Ba _).symm.trans (Aa 4 (by decide))
def zay (w:Xk) (S:Xh):Xk:={ w with heap:=w.heap.mapIdx (fun i o=>if i∈S then .cells #[] 5 (0,0) else o) }
theorem zbw (w:Xk) (S:Xh):(zay w S).heap.size=w.heap.size:=by simp [zay]
theorem zbI (w:Xk) (S:Xh):Frm w (zay w S) S:=by
 refine⟨rfl,rfl,rfl,Nat.le_of_eq (zbw w S).symm,fun k hk hn=> ?_⟩
 simp [zay,hn]
theorem zkC (w:Xk) (S:Xh) (p:Addr) (hp:p.block∈S):(zay w S).cell? p=none:=by
 unfold World.cell?
 have:(zay w S).heap[p.block]? = (w.heap[p.block]?).map (fun _=>(.cells #[] 5 (0,0):Obj)):=by
  simp only [zay,Array.getElem?_mapIdx,hp,if_true]
 rw [this]
 cases w.heap[p.block]? with
 | none=>rfl
 | some o=>simp
theorem zkv {w w':Xk} {S T:Xh} (f:Frm w w' T) (h:∀q∈T,q∈S):Below (zay w S).heap.size (zay w S) (zay w' S):=by
 refine⟨f.os,f.tape,f.output,by rw [zbw,zbw];exact f.size,fun k hk=> ?_⟩
 rw [zbw]at hk
 have Aa:k<w'.heap.size:=Nat.lt_of_lt_of_le hk f.size
 by_cases hs:k∈S
 ·simp [zay,hs,hk,Aa]
 ·rw [(zbI w S).block k hk hs,(zbI w' S).block k Aa hs,f.block k hk (fun e=>hs (h k e))]
theorem Byt.cells {w w':Xk} {v:Xl} {l:Xg} (h:Byt w v l) (hs:w.heap.size<=w'.heap.size) (hc:∀p x,w.cell? p=some x->w'.cell? p=some x):Byt w' v l:=by
 obtain⟨Aa,hm,h1 | h2 | ⟨b,Ba,Ca,rfl,h1,h2,h3,h4,h5⟩⟩:=h
 ·exact⟨Aa,hm,.inl h1⟩
 ·exact⟨Aa,hm,.inr (.inl h2)⟩
 ·exact⟨Aa,hm,.inr (.inr ⟨b,Ba,Ca,rfl,h1,h2,h3,Nat.lt_of_lt_of_le h4 hs,fun i hi=>hc _ _ (h5 i hi)⟩)⟩
theorem Elems.cells {α:Type} {w w':Xk} {size:Nat} {v:Xl} {l:List α} {R R':Xj->α->Prop} (h:Elems w size v l R) (hs:w.heap.size<=w'.heap.size) (hc:∀p x,w.cell? p=some x->w'.cell? p=some x) (hR:∀C x,R C x->R' C x):Elems w' size v l R':=by
 obtain⟨hm,h1 | h2 | ⟨b,Ba,Ca,rfl,h1,h2,h3,h4,h5⟩⟩:=h
 ·exact⟨hm,.inl h1⟩
 ·exact⟨hm,.inr (.inl h2)⟩
 ·refine⟨hm,.inr (.inr ⟨b,Ba,Ca,rfl,h1,h2,h3,Nat.lt_of_lt_of_le h4 hs,fun i hi=> ?_⟩)⟩
  obtain⟨C,hC,hj,hr⟩:=h5 i hi
  exact⟨C,hC,fun j Aa=>(hc _ _ ((hj j Aa).trans (List.getElem?_eq_getElem (by omega)))).trans (List.getElem?_eq_getElem (by omega)).symm,hR C _ hr⟩
theorem RdNode.cells {w w':Xk} (hs:w.heap.size<=w'.heap.size) (hc:∀p x,w.cell? p=some x->w'.cell? p=some x):∀{n:Nat} {C:Xj} {t:Tr n},RdNode n w C t->RdNode n w' C t
 | 0,C,t,h=>h.elim
 | n+1,C,t,h=>by
  obtain⟨a,b,c,d,e,k1,k2,h1,h2,h3,h4⟩:=h
  exact⟨a,b,c,d,e,k1,k2,h1.cells hs hc,h2.cells hs hc,Elems.cells h3 hs hc (fun C x ⟨a,b,e,q1,q2⟩=>⟨a,b,e,q1.cells hs hc,q2.cells hs hc⟩),Elems.cells h4 hs hc fun C x hr=>RdNode.cells hs hc hr⟩
theorem zst (w:Xk) (S:Xh) (p:Addr) (x:Xl) (h:(zay w S).cell? p=some x):w.cell? p=some x:=by
 by_cases hp:p.block∈S
 ·rw [zkC w S p hp]at h;cases h
 ·by_cases hl:p.block<w.heap.size
  ·unfold World.cell? at h ⊢
   rwa [(zbI w S).block _ hl hp]at h
  ·unfold World.cell? at h
   rw [Array.getElem?_eq_none (by rw [zbw];omega)]at h
   cases h
def upT:(n:Nat)->Tr n->Tr (n+1)
 | 0=>fun t=>t.elim
 | n+1=>fun t=>(⟨t.kind,t.name,t.text,t.attrs,t.kids.map (upT n)⟩:Nd (Tr (n+1)))
theorem zoQ:∀(n:Nat) (t:Tr n),szT (n+1) (upT n t)=szT n t
 | 0,t=>t.elim
 | n+1,t=>by
  show t.name.length+t.text.length+szA t.attrs+((t.kids.map (upT n)).length+((t.kids.map (upT n)).map (szT (n+1))).sum)=t.name.length+t.text.length+szA t.attrs+(t.kids.length+(t.kids.map (szT n)).sum)
  rw [List.length_map,List.map_map,show (szT (n+1) ∘ upT n)=szT n from funext fun x=>zoQ n x]
theorem zum:∀{n:Nat} {w:Xk} {C:Xj} {t:Tr n},RdNode n w C t->RdNode (n+1) w C (upT n t)
 | 0,w,C,t,h=>h.elim
 | n+1,w,C,t,h=>by
  obtain⟨kd,nm,tx,Ca,ks⟩:Nd (Tr n):=t
  obtain⟨a,b,c,d,e,k1,k2,h1,h2,h3,hm,h4⟩:=h
  have h4:(d=.slice none 0 0∧ks=[])∨(∃x Aa,d=.slice (some x) 0 Aa∧Aa<=maxLen∧ks=[])∨(∃b Ba Aa,d=.slice (some ⟨b,Ba,none⟩) ks.length Aa∧ks.length<=Aa∧Aa<=maxLen∧ks≠[]∧b<w.heap.size∧
   ∀i (hi:i<ks.length),∃C:Xj,C.length=5∧(∀j,j<5->w.cell? ⟨b,Ba+i*5+j,none⟩=C[j]?)∧RdNode n w C ks[i]):=h4
  refine⟨a,b,c,d,e,k1,k2,h1,h2,h3,(show (ks.map (upT n)).length<=maxLen by rw [List.length_map];exact hm),(show (d=.slice none 0 0∧ks.map (upT n)=[])∨(∃x Aa,d=.slice (some x) 0 Aa∧Aa<=maxLen∧ks.map (upT n)=[])∨(∃b Ba Aa,d=.slice (some ⟨b,Ba,none⟩) (ks.map (upT n)).length Aa∧(ks.map (upT n)).length<=Aa∧Aa<=maxLen∧ks.map (upT n)≠[]∧b<w.heap.size∧
   ∀i (hi:i<(ks.map (upT n)).length),∃C:Xj,C.length=5∧(∀j,j<5->w.cell? ⟨b,Ba+i*5+j,none⟩=C[j]?)∧RdNode (n+1) w C (ks.map (upT n))[i]) from ?_)⟩
  rcases h4 with ⟨e1,e2⟩ | ⟨x,Aa,e1,e2,e3⟩ | ⟨b',Ba,Aa,e1,e2,e3,e4,e5,e6⟩
  ·exact .inl ⟨e1,by rw [e2];rfl⟩
  ·exact .inr (.inl ⟨x,Aa,e1,e2,by rw [e3];rfl⟩)
  ·refine .inr (.inr ⟨b',Ba,Aa,by rw [List.length_map];exact e1,by rw [List.length_map];exact e2,e3,fun hc=>e4 (List.map_eq_nil_iff.1 hc),e5,fun i hi=> ?_⟩)
   obtain⟨C',c1,c2,c3⟩:=e6 i (by simpa using hi)
   refine⟨C',c1,c2,?_⟩
   rw [List.getElem_map]
   exact zum c3
theorem zzw {n N:Nat} {w:Xk} {C:Xj} {t:Tr n} (h:RdNode n w C t) (hN:n<=N):∃t':Tr N,RdNode N w C t'∧szT N t'=szT n t:=by
 induction N with
 | zero=>
  have:n=0:=by omega
  subst this
  exact⟨t,h,rfl⟩
 | succ N ih=>
  by_cases e:n=N+1
  ·subst e;exact⟨t,h,rfl⟩
  ·obtain⟨t',h1,h2⟩:=ih (by omega)
   exact⟨upT N t',zum h1,(zoQ N t').trans h2⟩
theorem zls:∀{n:Nat} {w:Xk} {C:Xj} {t:Tr n} {F:Xh},OwNodeM n w C t F->OwNodeM (n+1) w C (upT n t) F
 | 0,w,C,t,F,h=>h.elim
 | n+1,w,C,t,F,h=>by
  obtain⟨kd,nm,tx,Aa,ks⟩:Nd (Tr n):=t
  obtain⟨a,b,c,d,Fc,Fd,e,k1,k2,h1,h2,h3,⟨Cs,Fs,l1,l2,h4,h5,h6⟩,h7⟩:=h
  have l1:Cs.length=ks.length:=l1
  have l2:Fs.length=ks.length:=l2
  have h4:∀i (hi:i<ks.length),(Cs.getD i []).length=5∧OwNodeM n w (Cs.getD i []) ks[i] (Fs.getD i []):=h4
  have h5:w.ownsRow 0 29 5 d ks.length Cs.flatten:=h5
  refine⟨a,b,c,d,Fc,Fd,e,k1,k2,h1,h2,h3,(show OwElems w 29 5 d (ks.map (upT n)) (OwNodeM (n+1) w) Fd from ⟨Cs,Fs,by rw [List.length_map];exact l1,by rw [List.length_map];exact l2,fun i hi=> ?_,by rw [List.length_map];exact h5,h6⟩),h7⟩
  obtain⟨q1,q2⟩:=h4 i (by simpa using hi)
  refine⟨q1,?_⟩
  rw [List.getElem_map]
  exact zls q2
def RdX (w:Xk) (S:Xh) (C:Xj) (sz:Nat):Prop:=∃(n:Nat) (t:Tr n),RdNode n (zay w S) C t∧szT n t<=sz
theorem RdX.frm {w w':Xk} {S T:Xh} {C:Xj} {sz:Nat} (h:RdX w S C sz) (f:Frm w w' T) (hT:∀q∈T,q∈S):RdX w' S C sz:=by
 obtain⟨n,t,h1,h2⟩:=h
 exact⟨n,t,h1.keep (zkv f hT),h2⟩
structure Ag5 (w w':Xk) (bx off:Nat) (G:Xh):Prop where
 frm:Frm w w' (bx::G)
 cell:∀j,(j<off∨off+5<=j)->w'.cell? ⟨bx,j,none⟩=w.cell? ⟨bx,j,none⟩
def Cx (b:Nat) (S:Xh) (w:Xk) (bx off:Nat) (G:Xh) (K:Nat):Prop:=∀(w':Xk) (u0 u1 u2 u3 u4:Xl) (sz:Nat),Ag5 w w' bx off G->N5 w' bx off u0 u1 u2 u3 u4->RdX w' S [u0,u1,u2,u3,u4] sz->
 ∃v0 v1 v2 v3 v4,N5 w' b 0 v0 v1 v2 v3 v4∧RdX w' S [v0,v1,v2,v3,v4] (sz+K)
theorem Cx.root (b:Nat) (S:Xh) (w:Xk) (G:Xh):Cx b S w b 0 G 0:=fun w' u0 u1 u2 u3 u4 sz _ h1 h2=>⟨u0,u1,u2,u3,u4,h1,h2⟩
theorem zqA {d N:Nat}:∀(ks:List (Tr d)) (Q:Nat->Tr N->Prop) (k sz:Nat),(∀i (hi:i<ks.length),∃x,Q i x∧szT N x<=szT d ks[i]+(if i=k then sz else 0))->
  ∃l:List (Tr N),l.length=ks.length∧(∀i (hi:i<l.length),Q i l[i])∧(l.map (szT N)).sum<=(ks.map (szT d)).sum+sz
 | [],Q,k,sz,_=>⟨[],rfl,fun i hi=>by simp at hi,by simp⟩
 | y::ks,Q,k,sz,h=>by
  obtain⟨x,hx,hz⟩:=h 0 (by simp)
  have hz:szT N x<=szT d y+(if 0=k then sz else 0):=hz
  obtain⟨l,h1,h2,h3⟩:=zqA ks (fun i=>Q (i+1)) (k-1) (if 0=k then 0 else sz) fun i hi=>by
   obtain⟨z,q1,q2⟩:=h (i+1) (by simpa using hi)
   refine⟨z,q1,Nat.le_trans q2 ?_⟩
   have e:(y::ks)[i+1]'(by simpa using hi)=ks[i]:=rfl
   rw [e]
   split
   ·rename_i e1
    rw [if_pos (by omega),if_neg (by omega)]
    exact Nat.le_refl _
   ·exact Nat.le_add_right _ _
  refine⟨x::l,by simp [h1],fun i hi=> ?_,?_⟩
  ·match i,hi with
   | 0,_=>exact hx
   | i+1,hi=>exact h2 i (by simpa using hi)
  ·simp only [List.map_cons,List.sum_cons]
   split at hz<;>split at h3<;>omega
theorem Cx.step {b bx off K:Nat} {S G T:Xh} {w w2:Xk} (h:Cx b S w bx off G K) (f:Frm w w2 T) (hT:∀q∈T,q∈G) (hb:bx∉T) (hl:bx<w.heap.size):Cx b S w2 bx off G K:=fun w' u0 u1 u2 u3 u4 sz hA h1 h2=>h w' u0 u1 u2 u3 u4 sz ⟨(f.mono fun q hq=>List.mem_cons_of_mem _ (hT q hq)).trans hA.frm,fun j hj=>(hA.cell j hj).trans (World.cell?_of_block (f.block bx hl hb))⟩ h1 h2
theorem Cx.kid {d b bx off K:Nat} {w:Xk} {u0 u1 u2 u3 u4:Xl} {t:Tr (d+1)} {F S G:Xh} (hC:Cx b S w bx off (F++G) K) (h5:N5 w bx off u0 u1 u2 u3 u4) (ho:OwNodeM (d+1) w [u0,u1,u2,u3,u4] t F) (hn:F.Nodup) (hbx:bx∉F) (hbG:bx∉G) (hFG:∀q∈F,q∉G) (hFS:∀q∈F,q∉S) (k:Nat) (hk:k<t.kids.length) :
  ∃gk cap v0 v1 v2 v3 v4 F',u4=.slice (some ⟨gk,0,none⟩) t.kids.length cap∧N5 w gk (k*5) v0 v1 v2 v3 v4∧OwNodeM d w [v0,v1,v2,v3,v4] t.kids[k] F'∧F'.Nodup∧(∀q∈F',q∈F)∧gk∈F∧gk∉F'∧Cx b S w gk (k*5) (F'++G) (szT (d+1) t+K):=by
 obtain⟨kd,nm,tx,Ga,ks⟩:Nd (Tr d):=t
 have hk:k<ks.length:=hk
 obtain⟨a,bb,c,dv,Fc,Fd,e,k1,k2,h1,h2,h3,⟨Cs,Fs,l1,l2,h4,Ba,h6⟩,hF⟩:=ho
 have l1:Cs.length=ks.length:=l1
 have l2:Fs.length=ks.length:=l2
 have h4:∀i (hi:i<ks.length),(Cs.getD i []).length=5∧OwNodeM d w (Cs.getD i []) ks[i] (Fs.getD i []):=h4
 have Ba:w.ownsRow 0 29 5 dv ks.length Cs.flatten:=Ba
 simp only [List.cons.injEq,and_true]at e
 obtain⟨rfl,rfl,rfl,rfl,rfl⟩:=e
 obtain⟨q1,q2⟩:=h4 k hk
 rcases id Ba.2 with ⟨_,e0⟩ | ⟨g,cap,Pa,rfl,hb,hg,Ya,Ua,ea,Qa⟩
 ·omega
 have Aa:=fun i j (hi:i<ks.length) (hj:j<5)=>zeV Ba (fun i hi=>(h4 i (by omega)).1) l1 i j hi hj
 have aa:g<w.heap.size:=by
  rcases Nat.lt_or_ge g w.heap.size with h | h
  ·exact h
  ·rw [Array.getElem?_eq_none h]at hg;cases hg
 have Fa:Fd=g::Fs.flatten:=h6
 have nd:=hn
 rw [hF]at nd
 have La:=(List.nodup_append.1 nd)
 have Sa:(g::Fs.flatten).Nodup:=by rw [<-Fa];exact La.2.1
 have Oa:Fs.flatten.Nodup:=(List.nodup_cons.1 Sa).2
 have Ha:g∉Fs.flatten:=(List.nodup_cons.1 Sa).1
 have Ja:g∈F:=by rw [hF,Fa];simp
 have Da:∀q∈Fs.getD k [],q∈F:=fun q hq=>by rw [hF,Fa];simp [zaH hq]
 have Ca:∀q,q∈FB u1++FB u2++Fc->q∉g::(Fs.getD k []++G):=fun q hq hc=>by
  rcases List.mem_cons.1 hc with rfl | hc
  ·exact La.2.2 q hq q (by rw [Fa];exact List.mem_cons_self) rfl
  ·rcases List.mem_append.1 hc with hc | hc
   ·exact La.2.2 q hq q (by rw [Fa];exact List.mem_cons_of_mem _ (zaH hc)) rfl
   ·exact hFG q (by rw [hF];exact List.mem_append_left _ hq) hc
 have Ka:∀q∈FB u1++FB u2++Fc,q∉S:=fun q hq=>hFS q (by rw [hF];exact List.mem_append_left _ hq)
 have gS:g∉S:=hFS g Ja
 have Za:=q1
 generalize hCk:Cs.getD k []=C at *
 match C,Za with
 | [v0,v1,v2,v3,v4],_=>
  have Ia:=fun j=>cell_of_row w g j Pa _ _ hg
  refine⟨g,cap,v0,v1,v2,v3,v4,Fs.getD k [],rfl,⟨Pa,hg,?_,?_,?_,?_,?_⟩,q2,zhH Oa,Da,Ja,fun hq=>Ha (zaH hq),?_⟩
  ·exact (Ia _).symm.trans ((Aa k 0 hk (by decide)).trans (by rw [hCk];rfl))
  ·exact (Ia _).symm.trans ((Aa k 1 hk (by decide)).trans (by rw [hCk];rfl))
  ·exact (Ia _).symm.trans ((Aa k 2 hk (by decide)).trans (by rw [hCk];rfl))
  ·exact (Ia _).symm.trans ((Aa k 3 hk (by decide)).trans (by rw [hCk];rfl))
  ·exact (Ia _).symm.trans ((Aa k 4 hk (by decide)).trans (by rw [hCk];rfl))
  ·intro w' x0 x1 x2 x3 x4 sz hA hN ⟨n',t',hr,hz⟩
   have Xa:bx≠g:=fun e=>hbx (e ▸ Ja)
   have Ra:bx∉g::(Fs.getD k []++G):=fun hc=>by
    rcases List.mem_cons.1 hc with e | hc
    ·exact Xa e
    ·rcases List.mem_append.1 hc with hc | hc
     ·exact hbx (Da _ hc)
     ·exact hbG hc
   have Na:g<w'.heap.size:=Nat.lt_of_lt_of_le aa hA.frm.size
   have Ma:∀j,(zay w' S).cell? ⟨g,j,none⟩=w'.cell? ⟨g,j,none⟩:=fun j=>World.cell?_of_block ((zbI w' S).block g Na gS)
   have fB:∀{q:Nat},q∉g::(Fs.getD k []++G)->q∉S->q∉g::(Fs.getD k []++G++S):=fun h1 h2 hc=>by
    simp only [List.mem_cons,List.mem_append]at h1 hc ⊢
    rcases hc with h | (h | h) | h
    ·exact h1 (.inl h)
    ·exact h1 (.inr (.inl h))
    ·exact h1 (.inr (.inr h))
    ·exact h2 h
   have fA:Frm w (zay w' S) (g::(Fs.getD k []++G++S)):=(hA.frm.mono fun q hq=>by simp only [List.mem_cons,List.mem_append]at hq ⊢;rcases hq with h | h | h;exact .inl h;exact .inr (.inl (.inl h));exact .inr (.inl (.inr h))).trans ((zbI w' S).mono fun q hq=>by simp [hq])
   have Wa:=h5.frm hA.frm Ra
   obtain⟨tk,Va,da⟩:=zzw hr (Nat.le_max_right d n')
   obtain⟨l,e1,e2,e3⟩:=zqA (N:=max d n') ks (fun i x=>∃C:Xj,C.length=5∧(∀j,j<5->(zay w' S).cell? ⟨g,0+i*5+j,none⟩=C[j]?)∧RdNode (max d n') (zay w' S) C x) k sz fun i hi=>by
    by_cases hik:i=k
    ·subst hik
     refine⟨tk,⟨[x0,x1,x2,x3,x4],rfl,fun j hj=> ?_,Va⟩,by rw [if_pos rfl];omega⟩
     obtain⟨y0,y1,y2,y3,y4⟩:=hN.cells
     rw [Nat.zero_add,Ma]
     match j,hj with
     | 0,_=>exact y0
     | 1,_=>exact y1
     | 2,_=>exact y2
     | 3,_=>exact y3
     | 4,_=>exact y4
    ·obtain⟨c1,c2⟩:=h4 i hi
     have c3:=(OwNodeM.frm c2 fA fun q hq=>fB (fun hc=>by
      rcases List.mem_cons.1 hc with rfl | hc
      ·exact Ha (zaH hq)
      ·rcases List.mem_append.1 hc with hc | hc
       ·exact zhb Oa hik q hq hc
       ·exact hFG q (by rw [hF,Fa];simp [zaH hq]) hc) (hFS q (by rw [hF,Fa];simp [zaH hq]))).rd
     obtain⟨ti,ba,ca⟩:=zzw c3 (Nat.le_max_left d n')
     refine⟨ti,⟨Cs.getD i [],c1,fun j hj=> ?_,ba⟩,by omega⟩
     rw [Nat.zero_add,Ma,hA.cell _ (by rcases Nat.lt_or_gt_of_ne hik with h | h<;>omega)]
     exact Aa i j hi hj
   refine hC w' _ _ _ _ _ (sz+szT (d+1) (⟨kd,nm,tx,Ga,ks⟩:Nd (Tr d))) ⟨hA.frm.mono fun q hq=> ?_,fun j _=>World.cell?_of_block (hA.frm.block bx h5.lt Ra)⟩ Wa ⟨max d n' + 1,(⟨kd,nm,tx,Ga,l⟩:Nd (Tr (max d n'))),⟨_,_,_,_,rfl,k1,k2,(h1.frm fA fun q hq=>fB (Ca q (by simp [hq])) (Ka q (by simp [hq]))).byt,(h2.frm fA fun q hq=>fB (Ca q (by simp [hq])) (Ka q (by simp [hq]))).byt,(OwAttrsM.frm h3 fA fun q hq=>fB (Ca q (by simp [hq])) (Ka q (by simp [hq]))).rd,?_⟩,?_⟩ |> fun ⟨v0,v1,v2,v3,v4,r1,r2⟩=>⟨v0,v1,v2,v3,v4,r1,by rw [show sz+(szT (d+1) (⟨kd,nm,tx,Ga,ks⟩:Nd (Tr d))+K)=sz+szT (d+1) (⟨kd,nm,tx,Ga,ks⟩:Nd (Tr d))+K by omega];exact r2⟩
   ·rcases List.mem_cons.1 hq with rfl | hq
    ·exact List.mem_cons_of_mem _ (List.mem_append_left _ Ja)
    ·rcases List.mem_append.1 hq with hq | hq
     ·exact List.mem_cons_of_mem _ (List.mem_append_left _ (Da q hq))
     ·exact List.mem_cons_of_mem _ (List.mem_append_right _ hq)
   ·show l.length<=maxLen∧_
    have Ta:l≠[]:=fun e=>by rw [e]at e1;simp at e1;omega
    refine⟨by rw [e1];omega,.inr (.inr ⟨g,0,cap,by rw [e1],by rw [e1];exact Ya,Ua,Ta,by rw [zbw];exact Na,fun i hi=>e2 i hi⟩)⟩
   ·show nm.length+tx.length+szA Ga+(l.length+(l.map (szT (max d n'))).sum)<=sz+(nm.length+tx.length+szA Ga+(ks.length+(ks.map (szT d)).sum))
    omega
def BL (H b:Nat):Xh:=b::List.range (H+1)
theorem zci {H b q:Nat}:q∈BL H b↔q=b∨q<=H:=by simp [BL,Nat.lt_succ_iff]
theorem RdX.less {w:Xk} {S S':Xh} {C:Xj} {sz:Nat} (h:RdX w S C sz) (hs:∀q∈S',q∈S):RdX w S' C sz:=by
 obtain⟨n,t,h1,h2⟩:=h
 refine⟨n,t,h1.cells (by rw [zbw,zbw];exact Nat.le_refl _) (fun p x hp=> ?_),h2⟩
 by_cases hq:p.block∈S
 ·rw [zkC w S p hq]at hp;cases hp
 ·have Aa:p.block∉S':=fun e=>hq (hs _ e)
  have hx:=zst w S p x hp
  by_cases hl:p.block<w.heap.size
  ·unfold World.cell? at hx ⊢
   rwa [(zbI w S').block _ hl Aa]
  ·unfold World.cell? at hx
   rw [Array.getElem?_eq_none (by omega)]at hx
   cases hx
def TX (H b g:Nat) (w:Xk) (bx off:Nat) (u0 u1 u2 u3 u4:Xl):Prop:=∃(d:Nat) (t:Tr (d+2)) (F:Xh) (K:Nat),OwNodeM (d+2) w [u0,u1,u2,u3,u4] t F∧F.Nodup∧(∀q∈F,H<q∧q≠b)∧bx∉F∧H<bx∧g<H∧b<w.heap.size∧N5 w bx off u0 u1 u2 u3 u4∧Cx b (BL H b) w bx off (F++[g,H]) K∧szT (d+2) t<=100000∧K<=100000
theorem TX.frm {H b g:Nat} {w w':Xk} {bx off:Nat} {u0 u1 u2 u3 u4:Xl} (h:TX H b g w bx off u0 u1 u2 u3 u4) (f:Frm w w' [g]):TX H b g w' bx off u0 u1 u2 u3 u4:=by
 obtain⟨d,t,F,K,h1,h2,h3,h4,h5,h6,hw,h7,h8,h9⟩:=h
 exact⟨d,t,F,K,OwNodeM.frm h1 f (fun q hq e=>by have:=(h3 q hq).1;simp at e;omega),h2,h3,h4,h5,h6,Nat.lt_of_lt_of_le hw f.size,h7.frm f (by simp;omega),h8.step f (fun q hq=>by simp at hq;simp [hq]) (by simp;omega) h7.lt,h9⟩
def RXn (H b n:Nat) (w:Xk):Prop:=∃v0 v1 v2 v3 v4,N5 w b 0 v0 v1 v2 v3 v4∧RdX w (BL H b) [v0,v1,v2,v3,v4] (600000+20*n)
def RX (H b:Nat) (w:Xk):Prop:=∃n,n<=25∧RXn H b n w
end Go.Proofs.YtgjolijncmkkhaaGreatDoor
namespace Go.Proofs.YtgjolijncmkkhaaGreatDoor
open Go.RowKit
set_option linter.unusedVariables false
theorem N5.putO {w:Xk} {b off i:Nat} {v u0 u1 u2 u3 u4:Xl} (h:N5 w b off u0 u1 u2 u3 u4):N5 (w.setCell ⟨b,off+i,none⟩ v) b off (if i=0 then v else u0) (if i=1 then v else u1) (if i=2 then v else u2) (if i=3 then v else u3) (if i=4 then v else u4)∧
  ∀j,(j<off∨off+5<=j)->i<5->(w.setCell ⟨b,off+i,none⟩ v).cell? ⟨b,j,none⟩=w.cell? ⟨b,j,none⟩:=by
 obtain⟨Ba,h0,h1,h2,h3,h4,h5⟩:=h
 have hs:=zbR w b (off+i) Ba _ (0,0) v h0
 have Aa:∀j u,Ba[off+j]? = some u->(Ba.setIfInBounds (off+i) v)[off+j]? = some (if i=j then v else u):=fun j u hj=>by
  rw [Array.getElem?_setIfInBounds]
  by_cases e:i=j
  ·subst e
   have:=(Array.getElem?_eq_some_iff.1 hj).1
   simp [this]
  ·simp [e,hj]
 refine⟨⟨_,hs,Aa 0 _ h1,Aa 1 _ h2,Aa 2 _ h3,Aa 3 _ h4,Aa 4 _ h5⟩,fun j hj hi=> ?_⟩
 rw [cell_of_row _ b j _ _ _ hs,cell_of_row _ b j _ _ _ h0,Array.getElem?_setIfInBounds,if_neg (by omega)]
theorem RowM.bl {w w':Xk} {v:Xl} {l:Xg} {T:Xh} (h:RowM w 0 v l) (f:Frm w w' T) (hT:∀q∈FB v,q∉T) (S:Xh) (hS:∀q∈FB v,q∉S):Byt (zay w' S) v l:=((h.frm f hT).frm (zbI w' S) hS).byt
theorem OwAttrsM.bl {w w':Xk} {v:Xl} {l:List (Xg×Xg)} {F T:Xh} (h:OwAttrsM w v l F) (f:Frm w w' T) (hT:∀q∈F,q∉T) (S:Xh) (hS:∀q∈F,q∉S):RdAttrs (zay w' S) v l:=OwAttrsM.rd (OwAttrsM.frm (OwAttrsM.frm h f hT) (zbI w' S) hS)
theorem OwKidsM.bl {d:Nat} {w w':Xk} {v:Xl} {l:List (Tr d)} {F T:Xh} (h:OwKidsM d w v l F) (f:Frm w w' T) (hT:∀q∈F,q∉T) (S:Xh) (hS:∀q∈F,q∉S):RdKids d (zay w' S) v l:=OwKidsM.rd (OwKidsM.frm (OwKidsM.frm h f hT) (zbI w' S) hS)
theorem rdx5 {d:Nat} {w:Xk} {S:Xh} {u1 u2 u3 u4:Xl} {x:Int} {nm tx:Xg} {ats:List (Xg×Xg)} {ks:List (Tr d)} (k1 : -9223372036854775808<=x) (k2:x<=9223372036854775807) (h1:Byt (zay w S) u1 nm) (h2:Byt (zay w S) u2 tx) (h3:RdAttrs (zay w S) u3 ats) (h4:RdKids d (zay w S) u4 ks)
  (hz:nm.length+tx.length+szA ats+szK d ks<=500000):RdX w S [.int .i64 x,u1,u2,u3,u4] 500000:=
 ⟨d+1,(⟨x,nm,tx,ats,ks⟩:Nd (Tr d)),⟨_,_,_,_,rfl,k1,k2,h1,h2,h3,h4⟩,hz⟩
structure TP (H b g:Nat) (w:Xk) (bx off d:Nat) (kd:Int) (u1 u2 u3 u4:Xl) (nm tx:Xg) (ats:List (Xg×Xg)) (ks:List (Tr (d+1))) (Fc Fd:Xh):Prop where
 fin:∀(w':Xk) (y0 y1 y2 y3 y4:Xl) (T:Xh),Frm w w' T->(∀q∈T,q=bx∨q=g∨q∈FB u1++FB u2++Fc++Fd)->(∀j,(j<off∨off+5<=j)->w'.cell? ⟨bx,j,none⟩=w.cell? ⟨bx,j,none⟩)->N5 w' bx off y0 y1 y2 y3 y4->RdX w' (BL H b) [y0,y1,y2,y3,y4] 500000->RXn H b 0 w'
 k1 : -9223372036854775808<=kd
 k2:kd<=9223372036854775807
 r1:RowM w 0 u1 nm
 r2:RowM w 0 u2 tx
 r3:OwAttrsM w u3 ats Fc
 r4:OwKidsM (d+1) w u4 ks Fd
 nd:(FB u1++FB u2++Fc++Fd).Nodup
 far:∀q∈FB u1++FB u2++Fc++Fd,H<q∧q≠b∧q≠bx∧q≠g
 hbx:H<bx
 hbw:b<w.heap.size
 n5:N5 w bx off (.int .i64 kd) u1 u2 u3 u4
 sz:nm.length+tx.length+szA ats+szK (d+1) ks<=100000
theorem TX.parts {H b g:Nat} {w:Xk} {bx off:Nat} {u0 u1 u2 u3 u4:Xl} (h:TX H b g w bx off u0 u1 u2 u3 u4):∃d kd nm tx ats ks Fc Fd,u0=.int .i64 kd∧TP H b g w bx off d kd u1 u2 u3 u4 nm tx ats ks Fc Fd:=by
 obtain⟨d,t,F,K,h1,h2,h3,h4,h5,h6,hw,h7,h8,h9,Aa⟩:=h
 obtain⟨a,b',c,dv,Fc,Fd,e,k1,k2,r1,r2,r3,r4,hF⟩:=h1
 simp only [List.cons.injEq,and_true]at e
 obtain⟨rfl,rfl,rfl,rfl,rfl⟩:=e
 rw [hF]at h2 h3 h4
 exact⟨d,_,_,_,_,_,Fc,Fd,rfl,fun w' y0 y1 y2 y3 y4 T f hT hc hN hR=>by
  obtain⟨v0,v1,v2,v3,v4,q1,n,t',q2,q3⟩:=h8 w' y0 y1 y2 y3 y4 500000 ⟨f.mono fun q hq=>by
   rcases hT q hq with rfl | rfl | h
   ·simp
   ·simp
   ·rw [hF];exact List.mem_cons_of_mem _ (List.mem_append_left _ h),hc⟩ hN hR
  exact⟨v0,v1,v2,v3,v4,q1,n,t',q2,by omega⟩,k1,k2,r1,r2,r3,r4,h2,fun q hq=>⟨(h3 q hq).1,(h3 q hq).2,fun e=>h4 (e ▸ hq),by have:=(h3 q hq).1;omega⟩,h5,hw,h7,h9⟩
section
variable {H b g:Nat} {w w':Xk} {bx off d:Nat} {kd:Int} {u1 u2 u3 u4 v:Xl} {nm tx l:Xg} {ats m:List (Xg×Xg)} {ks k:List (Tr (d+1))} {Fc Fd F:Xh}
theorem TP.sub (h:TP H b g w bx off d kd u1 u2 u3 u4 nm tx ats ks Fc Fd):(∀q∈FB u3,q∈Fc)∧∀q∈FB u4,q∈Fd:=by
 obtain⟨_,_,_,_,_,_,e3⟩:=h.r3
 obtain⟨_,_,_,_,_,_,e4⟩:=h.r4
 exact⟨fun q hq=>by rw [e3];exact List.mem_append_left _ hq,fun q hq=>by rw [e4];exact List.mem_append_left _ hq⟩
theorem TP.inHb (h:TP H b g w bx off d kd u1 u2 u3 u4 nm tx ats ks Fc Fd) {q:Nat} (hq:q∈FB u1++FB u2++Fc++Fd):q∉(BL H b):=by
 obtain⟨h1,h2,_⟩:=h.far q hq
 rw [zci];omega
theorem TP.parts4 (h:TP H b g w bx off d kd u1 u2 u3 u4 nm tx ats ks Fc Fd) {T:Xh} (f:Frm w w' T):((∀q∈FB u1,q∉T)->Byt (zay w' (BL H b)) u1 nm)∧((∀q∈FB u2,q∉T)->Byt (zay w' (BL H b)) u2 tx)∧((∀q∈Fc,q∉T)->RdAttrs (zay w' (BL H b)) u3 ats)∧((∀q∈Fd,q∉T)->RdKids (d+1) (zay w' (BL H b)) u4 ks):=
 ⟨fun hT=>h.r1.bl f hT _ fun q hq=>h.inHb (by simp [hq]),fun hT=>h.r2.bl f hT _ fun q hq=>h.inHb (by simp [hq]),fun hT=>OwAttrsM.bl h.r3 f hT _ fun q hq=>h.inHb (by simp [hq]),fun hT=>OwKidsM.bl h.r4 f hT _ fun q hq=>h.inHb (by simp [hq])⟩
theorem TP.same (h:TP H b g w bx off d kd u1 u2 u3 u4 nm tx ats ks Fc Fd):RXn H b 0 w:=by
 obtain⟨p1,p2,p3,p4⟩:=h.parts4 (Frm.refl w [])
 exact h.fin _ _ _ _ _ _ _ (Frm.refl w []) (fun q hq=>by cases hq) (fun _ _=>rfl) h.n5 (rdx5 h.k1 h.k2 (p1 (by simp)) (p2 (by simp)) (p3 (by simp)) (p4 (by simp)) (by have:=h.sz;omega))
theorem TP.kind (h:TP H b g w bx off d kd u1 u2 u3 u4 nm tx ats ks Fc Fd) (x:Int) (k1 : -9223372036854775808<=x) (k2:x<=9223372036854775807):RX H b (w.setCell ⟨bx,off+0,none⟩ (.int .i64 x)):=by
 have f:=zaq w bx (off+0) (.int .i64 x)
 have hn:∀q∈FB u1++FB u2++Fc++Fd,q∉[bx]:=fun q hq=>by simp [(h.far q hq).2.2.1]
 obtain⟨p1,p2,p3,p4⟩:=h.parts4 f
 obtain⟨q1,q2⟩:=h.n5.putO (i:=0) (v:=.int .i64 x)
 exact (⟨0,by decide,·⟩) <| h.fin _ _ _ _ _ _ _ f (fun q hq=>by simp at hq;exact .inl hq) (fun j hj=>q2 j hj (by decide)) (by simpa using q1) (rdx5 k1 k2 (p1 fun q hq=>hn q (by simp [hq])) (p2 fun q hq=>hn q (by simp [hq])) (p3 fun q hq=>hn q (by simp [hq])) (p4 fun q hq=>hn q (by simp [hq])) (by have:=h.sz;omega))
theorem TP.name (h:TP H b g w bx off d kd u1 u2 u3 u4 nm tx ats ks Fc Fd) (hr:RowM w 0 v l) (hl:l.length<=100) (hv:∀q∈FB v,H<q∧q≠b∧q≠bx):RX H b (w.setCell ⟨bx,off+1,none⟩ v):=by
 have f:=zaq w bx (off+1) v
 have hn:∀q∈FB u1++FB u2++Fc++Fd,q∉[bx]:=fun q hq=>by simp [(h.far q hq).2.2.1]
 obtain⟨p1,p2,p3,p4⟩:=h.parts4 f
 obtain⟨q1,q2⟩:=h.n5.putO (i:=1) (v:=v)
 exact (⟨0,by decide,·⟩) <| h.fin _ _ _ _ _ _ _ f (fun q hq=>by simp at hq;exact .inl hq) (fun j hj=>q2 j hj (by decide)) (by simpa using q1) (rdx5 h.k1 h.k2 (hr.bl f (fun q hq=>by simp [(hv q hq).2.2]) _ fun q hq=>by have:=hv q hq;rw [zci];omega) (p2 fun q hq=>hn q (by simp [hq])) (p3 fun q hq=>hn q (by simp [hq])) (p4 fun q hq=>hn q (by simp [hq])) (by have:=h.sz;omega))
theorem TP.text (h:TP H b g w bx off d kd u1 u2 u3 u4 nm tx ats ks Fc Fd) (f:Frm w w' (FB u2)) (hr:RowM w' 0 v l) (hl:l.length<=tx.length+100) (hv:∀q∈FB v,H<q∧q≠b∧q≠bx):RX H b (w'.setCell ⟨bx,off+2,none⟩ v):=by
 have n5:=h.n5.frm f fun e=>(h.far bx (by simp [e])).2.2.1 rfl
 have f2:=zaq w' bx (off+2) v
 have f3:Frm w (w'.setCell ⟨bx,off+2,none⟩ v) (bx::FB u2):=(f.mono fun q hq=>List.mem_cons_of_mem _ hq).trans (f2.mono (by simp))
 have Aa:=n5.lt
 have nd:=h.nd
 rw [List.append_assoc,List.append_assoc]at nd
 have n1:=List.nodup_append.1 nd
 have n2:=List.nodup_append.1 n1.2.1
 have hn:∀q∈FB u1++Fc++Fd,q∉bx::FB u2:=fun q hq hc=>by
  simp only [List.mem_append]at hq
  rcases List.mem_cons.1 hc with e | hc
  ·exact (h.far q (by simp only [List.mem_append];rcases hq with (hq | hq) | hq<;>simp [hq])).2.2.1 e
  ·rcases hq with (hq | hq) | hq
   ·exact n1.2.2 q hq q (by simp [hc]) rfl
   ·exact n2.2.2 q hc q (by simp [hq]) rfl
   ·exact n2.2.2 q hc q (by simp [hq]) rfl
 obtain⟨p1,p2,p3,p4⟩:=h.parts4 f3
 obtain⟨q1,q2⟩:=n5.putO (i:=2) (v:=v)
 exact (⟨0,by decide,·⟩) <| h.fin _ _ _ _ _ _ _ f3 (fun q hq=>by rcases List.mem_cons.1 hq with e | hq;exact .inl e;exact .inr (.inr (by simp [hq]))) (fun j hj=>(q2 j hj (by decide)).trans (World.cell?_of_block (f.block bx h.n5.lt fun e=>(h.far bx (by simp [e])).2.2.1 rfl))) (by simpa using q1)
  (rdx5 h.k1 h.k2 (p1 fun q hq=>hn q (by simp [hq])) (hr.bl f2 (fun q hq=>by simp [(hv q hq).2.2]) _ fun q hq=>by have:=hv q hq;rw [zci];omega) (p3 fun q hq=>hn q (by simp [hq])) (p4 fun q hq=>hn q (by simp [hq])) (by have:=h.sz;omega))
theorem TP.attrs (h:TP H b g w bx off d kd u1 u2 u3 u4 nm tx ats ks Fc Fd) (f:Frm w w' (FB u3)) (hr:OwAttrsM w' v m F) (hl:szA m<=szA ats+100) (hv:∀q∈F,H<q∧q≠b∧q≠bx):RX H b (w'.setCell ⟨bx,off+3,none⟩ v):=by
 have s3:=h.sub.1
 have Aa:bx∉FB u3:=fun e=>(h.far bx (by simp [s3 bx e])).2.2.1 rfl
 have n5:=h.n5.frm f Aa
 have f2:=zaq w' bx (off+3) v
 have f3:Frm w (w'.setCell ⟨bx,off+3,none⟩ v) (bx::FB u3):=(f.mono fun q hq=>List.mem_cons_of_mem _ hq).trans (f2.mono (by simp))
 have n1:=List.nodup_append.1 h.nd
 have n2:=List.nodup_append.1 n1.1
 have hn:∀q∈FB u1++FB u2++Fd,q∉bx::FB u3:=fun q hq hc=>by
  simp only [List.mem_append]at hq
  rcases List.mem_cons.1 hc with e | hc
  ·exact (h.far q (by simp only [List.mem_append];rcases hq with (hq | hq) | hq<;>simp [hq])).2.2.1 e
  ·rcases hq with (hq | hq) | hq
   ·exact n2.2.2 q (by simp [hq]) q (s3 q hc) rfl
   ·exact n2.2.2 q (by simp [hq]) q (s3 q hc) rfl
   ·exact n1.2.2 q (by simp [s3 q hc]) q hq rfl
 obtain⟨p1,p2,p3,p4⟩:=h.parts4 f3
 obtain⟨q1,q2⟩:=n5.putO (i:=3) (v:=v)
 exact (⟨0,by decide,·⟩) <| h.fin _ _ _ _ _ _ _ f3 (fun q hq=>by rcases List.mem_cons.1 hq with e | hq;exact .inl e;exact .inr (.inr (by simp [h.sub.1 q hq]))) (fun j hj=>(q2 j hj (by decide)).trans (World.cell?_of_block (f.block bx h.n5.lt Aa))) (by simpa using q1)
  (rdx5 h.k1 h.k2 (p1 fun q hq=>hn q (by simp [hq])) (p2 fun q hq=>hn q (by simp [hq])) (OwAttrsM.bl hr f2 (fun q hq=>by simp [(hv q hq).2.2]) _ fun q hq=>by have:=hv q hq;rw [zci];omega) (p4 fun q hq=>hn q (by simp [hq])) (by have:=h.sz;omega))
theorem TP.kids (h:TP H b g w bx off d kd u1 u2 u3 u4 nm tx ats ks Fc Fd) (f:Frm w w' (bx::g::Fd)) (hc:∀j,j≠off+4->w'.cell? ⟨bx,j,none⟩=w.cell? ⟨bx,j,none⟩) (h4:w'.cell? ⟨bx,off+4,none⟩=some v) (hbk:Bk w' bx off) (hr:OwKidsM (d+1) w' v k F) (hl:szK (d+1) k<=szK (d+1) ks+100000) (hv:∀q∈F,H<q∧q≠b):RX H b w':=by
 have n1:=List.nodup_append.1 h.nd
 have hn:∀q∈FB u1++FB u2++Fc,q∉bx::g::Fd:=fun q hq hm=>by
  have:=h.far q (List.mem_append_left _ hq)
  simp only [List.mem_cons]at hm
  rcases hm with e | e | hm
  ·exact this.2.2.1 e
  ·exact this.2.2.2 e
  ·exact n1.2.2 q hq q hm rfl
 obtain⟨p1,p2,p3,p4⟩:=h.parts4 f
 obtain⟨y0,y1,y2,y3,_⟩:=h.n5.cells
 obtain⟨Ba,c0,_⟩:=hbk
 have Aa:=fun j=>cell_of_row w' bx j Ba _ _ c0
 refine⟨0,by decide,h.fin _ _ _ _ _ _ _ f (fun q hq=> ?_) (fun j hj=>hc j (by omega)) ⟨Ba,c0,((Aa _).symm.trans (hc _ (by omega))).trans y0,((Aa _).symm.trans (hc _ (by omega))).trans y1,((Aa _).symm.trans (hc _ (by omega))).trans y2,((Aa _).symm.trans (hc _ (by omega))).trans y3,(Aa _).symm.trans h4⟩
  (rdx5 h.k1 h.k2 (p1 fun q hq=>hn q (by simp [hq])) (p2 fun q hq=>hn q (by simp [hq])) (p3 fun q hq=>hn q (by simp [hq])) (OwKidsM.bl hr (Frm.refl w' []) (by simp) _ fun q hq=>by have:=hv q hq;rw [zci];omega) (by have:=h.sz;omega))⟩
 simp only [List.mem_cons]at hq
 rcases hq with e | e | hq
 ·exact .inl e
 ·exact .inr (.inl e)
 ·exact .inr (.inr (by simp [hq]))
end
theorem TX.rx {H b g:Nat} {w:Xk} {bx off:Nat} {u0 u1 u2 u3 u4:Xl} (h:TX H b g w bx off u0 u1 u2 u3 u4):RXn H b 0 w:=by
 obtain⟨_,_,_,_,_,_,_,_,rfl,hp⟩:=h.parts
 exact hp.same
theorem RX.rd {H b:Nat} {w:Xk} {v0 v1 v2 v3 v4:Xl} (h:RX H b w) (hn:N5 w b 0 v0 v1 v2 v3 v4):RdX w (BL H b) [v0,v1,v2,v3,v4] 1000000:=by
 obtain⟨n,Aa,x0,x1,x2,x3,x4,hN,m,t,hr,hz⟩:=h
 have e0:=hN.cells.1.symm.trans hn.cells.1
 have e1:=hN.cells.2.1.symm.trans hn.cells.2.1
 have e2:=hN.cells.2.2.1.symm.trans hn.cells.2.2.1
 have e3:=hN.cells.2.2.2.1.symm.trans hn.cells.2.2.2.1
 have e4:=hN.cells.2.2.2.2.symm.trans hn.cells.2.2.2.2
 cases e0;cases e1;cases e2;cases e3;cases e4
 exact⟨m,t,hr,by omega⟩
theorem RdX.out {w w':Xk} {S T:Xh} {C:Xj} {sz:Nat} (h:RdX w S C sz) (f:Frm w w' T) (hT:∀q∈T,q∈S):∃(n:Nat) (t:Tr n),RdNode n w' C t∧szT n t<=sz:=by
 obtain⟨n,t,h1,h2⟩:=h.frm f hT
 exact⟨n,t,h1.cells (Nat.le_of_eq (zbw w' S)) (zst w' S),h2⟩
theorem Frm.toGrownV {w w':Xk} {v:Xl} (f:Frm w w' (FB v)):w.grownBy w' v.ownBlock:=⟨f.os,f.tape,f.output,f.size,fun k hk hn=>f.block k hk (fun e=>hn (by have h:v.ownBlock=some k:=(by simpa [FB]using e);exact h.symm))⟩
theorem TP.text' {H b g:Nat} {w w':Xk} {bx off d:Nat} {kd y:Int} {u1 u2 u3 u4 v:Xl} {nm tx:Xg} {ats:List (Xg×Xg)} {ks:List (Tr (d+1))} {Fc Fd:Xh} (h:TP H b g w bx off d kd u1 u2 u3 u4 nm tx ats ks Fc Fd) (f:w.grownBy w' u2.ownBlock) (hr:RowM w' 0 v (tx++[y])) (hv:v.ownBlock=u2.ownBlock∨∀q,v.ownBlock=some q->w.heap.size<=q):RX H b (w'.setCell ⟨bx,off+2,none⟩ v):=by
 refine h.text (Frm.ofGrown f) hr (by simp) fun q hq=> ?_
 have Aa:v.ownBlock=some q:=by simpa [FB]using hq
 rcases hv with e | e
 ·have:=h.far q (by simp [FB,<-e,Aa])
  exact⟨by omega,this.2.1,this.2.2.1⟩
 ·have:=e q Aa
  have:=h.n5.lt
  have:=h.hbx
  have:=h.hbw
  omega
theorem zxg {w:Xk} {ops:Array Oper} {o:Oper} {a:Act} {K:Act->Xk->Prop} {Q:Exit->Act->Xk->Prop} {E:Prop} (hgd:o.guard=none) (s x:Operand)
  (ho:o.op=.call { callee:=.builtin .append,args:= #[s,x],argTypes:= #[22,22] })
  (base:Nat) (v:Xl) (l:Xg) (hs:a.eval s=v) (hrow:RowM w base v l) (b c:Nat) (n:Int) (hx:a.eval x=.slice (some ⟨b,0,none⟩) 1 c) (hx0:0<=n) (hx1:n<=255) (hc:w.cell? ⟨b,0,none⟩=some (.int .u8 n)) (hby:Byt w (.slice (some ⟨b,0,none⟩) 1 c) [n])
  (hlen:l.length<=1000) (hbase:base<=w.heap.size)
  (h:∀v' w',RowM w' base v' (l++[n])->w.grownBy w' v.ownBlock->(v'.ownBlock=v.ownBlock∨∀q,v'.ownBlock=some q->w.heap.size<=q)->K (a.put o.dst v') w'):if Region.wanted o (yielded ops a.tmps)=true then Oper.wp Tryz.prog o a w K Q else E:=by
 have hw:Region.wanted o (yielded ops a.tmps)=true:=by simp [Region.wanted,hgd]
 rw [if_pos hw]
 obtain⟨v',w',hr,h1,h2,h3⟩:=zqb o.type base v l hrow b c n hx0 hx1 hc hby hlen hbase
 unfold Oper.wp execOp
 simp only [ho,resolve,invoke,builtin,Sem.run_bind,Sem.run_pure,Result.andThen_ok,List.map_toArray,List.map_cons,List.map_nil,hs,hx,hr]
 exact h v' w' h1 h2 h3
theorem RowM.len {w:Xk} {base:Nat} {a:Xi} {n c:Nat} {l:Xg} (h:RowM w base (.slice a n c) l):l.length=n:=by
 obtain⟨x,y,e⟩:=h.shape
 injection e with _ e _
 exact e.symm
theorem TP.keep {H b g:Nat} {w w':Xk} {bx off d:Nat} {kd:Int} {u1 u2 u3 u4:Xl} {nm tx:Xg} {ats:List (Xg×Xg)} {ks:List (Tr (d+1))} {Fc Fd:Xh} (h:TP H b g w bx off d kd u1 u2 u3 u4 nm tx ats ks Fc Fd) (hb:Below w.heap.size w w'):TP H b g w' bx off d kd u1 u2 u3 u4 nm tx ats ks Fc Fd:=
 ⟨fun w2 y0 y1 y2 y3 y4 T f hT hc hN hR=>h.fin w2 y0 y1 y2 y3 y4 T ((Frm.ofBelow hb T).trans f) hT (fun j hj=>(hc j hj).trans (World.cell?_of_block (hb.block bx h.n5.lt))) hN hR,h.k1,h.k2,h.r1.keep hb,h.r2.keep hb,OwAttrsM.frm h.r3 (Frm.ofBelow hb []) (by simp),OwKidsM.frm h.r4 (Frm.ofBelow hb []) (by simp),h.nd,h.far,h.hbx,Nat.lt_of_lt_of_le h.hbw hb.size,h.n5.frm (Frm.ofBelow hb []) (by simp),h.sz⟩
theorem zoh (w:Xk) (x:Int) (h0:0<=x) (h1:x<=255):RowM (w.alloc (.cells #[.int .u8 x] 5 (1,2))) 0 (.slice (some ⟨w.heap.size,0,none⟩) 1 1) [x]:=⟨by intro y hy;simp at hy;omega,.inr ⟨_,1,_,_,rfl,Nat.zero_le _,heap_alloc_new _ _,by intro j hj;simp;omega,by simp,by simp [maxLen],rfl,rfl⟩⟩
def NdTy (w:Xk) (q:Nat):Prop:=∃cs fz,w.heap[q]? = some (.cells cs 29 fz)
def AppF (H b bx m:Nat) (F:Xh) (d:Nat) (ks:List (Tr (d+1))) (s5:Bool) (w:Xk) (gq cq:Nat):Prop:=∃y Fq,OwKidsM (d+1) w (.slice (some ⟨gq,0,none⟩) (ks.length+1) cq) (ks++[y]) Fq∧Fq.Nodup∧szT (d+1) y<=100∧(∀q∈Fq,H<q∧q≠bx∧q≠b∧(q∈F∨m<=q))∧(s5=false->∀q∈Fq,q<m∨NdTy w q)
def LfK (m:Nat) (w:Xk) (kd:Int) (v1 v2:Xl):Prop:=(kd=0∨kd=1)∧∃l1 l2,RowM w 0 v1 l1∧RowM w 0 v2 l2∧l1.length+l2.length<=40∧(FB v1++FB v2).Nodup∧∀q∈FB v1++FB v2,m<=q
theorem RowM.ty {w:Xk} {base:Nat} {v:Xl} {l:Xg} (h:RowM w base v l):∀q∈FB v,∃cs fz,w.heap[q]? = some (.cells cs 5 fz):=fun q hq=>by
 rcases h.2 with ⟨rfl,_⟩ | ⟨g,Ba,Aa,fz,rfl,_,hg,_⟩
 ·simp [FB,Value.ownBlock]at hq
 ·simp [FB,Value.ownBlock]at hq
  subst hq
  exact⟨_,_,hg⟩
theorem LfK.frm {m:Nat} {w w':Xk} {kd:Int} {v1 v2:Xl} {S:Xh} (h:LfK m w kd v1 v2) (f:Frm w w' S) (hS:∀q∈S,q<m):LfK m w' kd v1 v2:=by
 obtain⟨h0,l1,l2,h1,h2,h3,h4,h5⟩:=h
 exact⟨h0,l1,l2,h1.frm f (fun q hq hs=>by have:=h5 q (by simp [hq]);have:=hS q hs;omega),h2.frm f (fun q hq hs=>by have:=h5 q (by simp [hq]);have:=hS q hs;omega),h3,h4,h5⟩
theorem AppF.frm {H b bx m d:Nat} {F:Xh} {ks:List (Tr (d+1))} {s5:Bool} {w w':Xk} {gq cq:Nat} {S:Xh} (h:AppF H b bx m F d ks s5 w gq cq) (f:Frm w w' S) (hS:∀q∈S,q<=H∨q=bx):AppF H b bx m F d ks s5 w' gq cq:=by
 obtain⟨y,Fq,h1,h2,h3,h4,h6⟩:=h
 have hn:∀q∈Fq,q∉S:=fun q hq hs=>by
  have:=h4 q hq
  have:=hS q hs
  omega
 refine⟨y,Fq,OwKidsM.frm h1 f hn,h2,h3,h4,fun hs q hq=> ?_⟩
 rcases h6 hs q hq with h | ⟨cs,fz,h⟩
 ·exact .inl h
 ·exact .inr ⟨cs,fz,(f.block q (Array.getElem?_eq_some_iff.1 h).1 (hn q hq)).trans h⟩
theorem AppF.own {H b bx m d:Nat} {F:Xh} {ks:List (Tr (d+1))} {s5:Bool} {w:Xk} {gq cq:Nat} (h:AppF H b bx m F d ks s5 w gq cq):H<gq∧gq≠bx∧gq≠b∧(gq∈F∨m<=gq)∧∃cur,w.heap[gq]? = some (.cells cur 29 (0,0))∧(ks.length+1)*5<=cur.size:=by
 obtain⟨y,Fq,⟨Cs,Fs,l1,l2,l3,l4,l5⟩,h2,h3,h4,h6⟩:=h
 have hm:=h4 gq (by rw [l5];simp [FB,Value.ownBlock])
 rcases l4.2 with ⟨e,_⟩ | ⟨g,Aa,cur,e,_,hg,k1,_,k3,_⟩
 ·cases e
 ·injection e with e1 e2 e3
  injection e1 with e1
  injection e1 with e1 _ _
  subst e1
  exact⟨hm.1,hm.2.1,hm.2.2.1,hm.2.2.2,cur,hg,by rw [k3];exact Nat.mul_le_mul_right _ (by simpa using k1)⟩
theorem AppF.cell {H b bx m d:Nat} {F:Xh} {ks:List (Tr (d+1))} {s5:Bool} {w:Xk} {gq cq:Nat} (h:AppF H b bx m F d ks s5 w gq cq) (j:Nat) (hj:j<(ks.length+1)*5):∃v,w.cell? ⟨gq,j,none⟩=some v∧w.frozen? ⟨gq,j,none⟩=false:=by
 obtain⟨_,_,_,_,Aa,hg,hs⟩:=h.own
 have:j<Aa.size:=by omega
 exact⟨Aa[j],by rw [cell_of_row w gq j Aa _ _ hg];simp [this],frozen_of_row w gq j Aa _ hg⟩
theorem zyh (A:Xj) (z0 z1 z2 z3 z4 a b c d e:Xl):(((((A++[z0,z1,z2,z3,z4]).set A.length a).set (A.length+1) b).set (A.length+2) c).set (A.length+3) d).set (A.length+4) e=A++[a,b,c,d,e]:=by
 simp
theorem AppF.set5 {H b bx m d:Nat} {F:Xh} {ks:List (Tr (d+1))} {w:Xk} {gq cq:Nat} (h:AppF H b bx m F d ks false w gq cq) {kd:Int} {v1 v2:Xl} (hl:LfK m w kd v1 v2) (hm:H<m∧bx<m∧b<m):AppF H b bx m F d ks true (((((w.setCell ⟨gq,ks.length*5,none⟩ (.int .i64 kd)).setCell ⟨gq,ks.length*5+1,none⟩ v1).setCell ⟨gq,ks.length*5+2,none⟩ v2).setCell ⟨gq,ks.length*5+3,none⟩ (.slice none 0 0)).setCell ⟨gq,ks.length*5+4,none⟩ (.slice none 0 0)) gq cq:=by
 have f:Frm w (((((w.setCell ⟨gq,ks.length*5,none⟩ (.int .i64 kd)).setCell ⟨gq,ks.length*5+1,none⟩ v1).setCell ⟨gq,ks.length*5+2,none⟩ v2).setCell ⟨gq,ks.length*5+3,none⟩ (.slice none 0 0)).setCell ⟨gq,ks.length*5+4,none⟩ (.slice none 0 0)) [gq]:=((((zaq _ _ _ _).trans (zaq _ _ _ _)).trans (zaq _ _ _ _)).trans (zaq _ _ _ _)).trans (zaq _ _ _ _)
 obtain⟨y,Fq,⟨Cs,Fs,l1,l2,l3,l4,l5⟩,h2,h3,h4,h6⟩:=h
 obtain⟨hk,m1,m2,r1,r2,hz,Oa,hq⟩:=hl
 have h6:=h6 rfl
 have Ga:(ks++[y]).length=ks.length+1:=by simp
 rw [Ga]at l1 l2 l4
 obtain⟨Ca,cz,rfl⟩:∃Ca cz,Cs=Ca++[cz]:=by
  have:Cs≠[]:=by intro e;rw [e]at l1;simp at l1
  exact⟨_,_,(List.dropLast_concat_getLast this).symm⟩
 obtain⟨Fa,fz,rfl⟩:∃Fa fz,Fs=Fa++[fz]:=by
  have:Fs≠[]:=by intro e;rw [e]at l2;simp at l2
  exact⟨_,_,(List.dropLast_concat_getLast this).symm⟩
 have a1:Ca.length=ks.length:=by simpa using l1
 have a2:Fa.length=ks.length:=by simpa using l2
 have e1:∀i,i<ks.length->(Ca++[cz]).getD i []=Ca.getD i []:=fun i hi=>by simp [List.getD_eq_getElem?_getD,List.getElem?_append_left (show i<Ca.length by omega)]
 have e2:∀i,i<ks.length->(Fa++[fz]).getD i []=Fa.getD i []:=fun i hi=>by simp [List.getD_eq_getElem?_getD,List.getElem?_append_left (show i<Fa.length by omega)]
 have Ba:∀i (hi:i<ks.length),(Ca.getD i []).length=5∧OwNodeM (d+1) w (Ca.getD i []) ks[i] (Fa.getD i []):=fun i hi=>by
  have:=l3 i (by omega)
  rw [e1 i hi,e2 i hi,List.getElem_append_left hi]at this
  exact this
 have Na:cz.length=5:=by
  have:=(l3 ks.length (by omega)).1
  simpa [List.getD_eq_getElem?_getD,<-a1]using this
 have Pa:Ca.flatten.length=ks.length*5:=by
  rw [<-a1]
  have:∀(l:List (Xj)),(∀i,i<l.length->(l.getD i []).length=5)->l.flatten.length=l.length*5:=by
   intro l
   induction l with
   | nil=>simp
   | cons x l ih=>
    intro hl
    have h0:=hl 0 (by simp)
    have h1:=ih fun i hi=>by have:=hl (i+1) (by simpa using hi);simpa using this
    simp only [List.flatten_cons,List.length_append,List.length_cons,h1]
    simp at h0
    omega
  exact this Ca fun i hi=>(Ba i (by omega)).1
 rw [List.flatten_append,List.flatten_singleton]at l4
 match cz,Na with
 | [z0,z1,z2,z3,z4],_=>
  obtain⟨s0,g0⟩:=l4.stored Ca.flatten.length (.int .i64 kd)
  obtain⟨s1,g1⟩:=s0.stored (Ca.flatten.length+1) v1
  obtain⟨s2,g2⟩:=s1.stored (Ca.flatten.length+2) v2
  obtain⟨s3,g3⟩:=s2.stored (Ca.flatten.length+3) (.slice none 0 0)
  obtain⟨s4,g4⟩:=s3.stored (Ca.flatten.length+4) (.slice none 0 0)
  rw [zyh,Pa]at s4
  rw [l5,List.flatten_append,List.flatten_singleton]at h2 h4 h6
  have Ia:gq∈FB (.slice (some ⟨gq,0,none⟩) (ks.length+1) cq):=by simp [FB,Value.ownBlock]
  have n1:=List.nodup_append.1 h2
  have n2:=List.nodup_append.1 n1.2.1
  have Ma:∀q∈Fa.flatten,q∉[gq]:=fun q Aa e=>by
   simp at e
   subst e
   exact n1.2.2 q Ia q (by simp [Aa]) rfl
  have Da:∀q∈FB v1++FB v2,q∉[gq]∧q∉Fa.flatten:=fun q Aa=>by
   have Ra:=hq q Aa
   have ht:∃cs fz,w.heap[q]? = some (.cells cs 5 fz):=by
    rcases List.mem_append.1 Aa with h | h
    ·exact r1.ty q h
    ·exact r2.ty q h
   have Ja:∀x,x=q->¬ (x<m∨NdTy w x):=fun x hx hc=>by
    subst hx
    rcases hc with hc | ⟨cs,f',hc⟩
    ·omega
    ·obtain⟨Qa,Sa,ht⟩:=ht
     rw [ht]at hc
     cases hc
   exact⟨fun e=>by simp at e;exact Ja gq e.symm (h6 gq (by simp [Ia])),fun e=>Ja q rfl (h6 q (by simp [e]))⟩
  have La:=fun i hi=>OwNodeM.frm (Ba i hi).2 f (fun q Aa=>Ma q (zaH Aa))
  obtain⟨yn,Ka⟩:∃yn:Tr (d+1),yn=(⟨kd,m1,m2,[],[]⟩:Nd (Tr d)):=⟨_,rfl⟩
  have Ha:OwNodeM (d+1) (((((w.setCell ⟨gq,ks.length*5,none⟩ (.int .i64 kd)).setCell ⟨gq,ks.length*5+1,none⟩ v1).setCell ⟨gq,ks.length*5+2,none⟩ v2).setCell ⟨gq,ks.length*5+3,none⟩ (.slice none 0 0)).setCell ⟨gq,ks.length*5+4,none⟩ (.slice none 0 0)) [.int .i64 kd,v1,v2,.slice none 0 0,.slice none 0 0] yn (FB v1++FB v2):=by
   rw [Ka]
   exact⟨v1,v2,_,_,[],[],rfl,by show (-9223372036854775808:Int)<=kd;omega,by show kd<=9223372036854775807;omega,r1.frm f fun q Aa=>(Da q (by simp [Aa])).1,r2.frm f fun q Aa=>(Da q (by simp [Aa])).1,OwAttrsM.nil _,OwKidsM.nil _ _,by simp⟩
  refine⟨yn,FB (.slice (some ⟨gq,0,none⟩) (ks.length+1) cq)++(Fa.flatten++(FB v1++FB v2)),⟨Ca++[[.int .i64 kd,v1,v2,.slice none 0 0,.slice none 0 0]],Fa++[FB v1++FB v2],by simp [a1],by simp [a2],fun i hi=> ?_,by rw [List.flatten_append,List.flatten_singleton,List.length_append];exact s4,by rw [List.flatten_append,List.flatten_singleton]⟩,?_,by rw [Ka];show m1.length+m2.length+szA []+(0+0)<=100;simp [szA];omega,fun q Aa=> ?_,fun e=>by cases e⟩
  ·by_cases hi':i<ks.length
   ·have x1:(Ca++[[.int .i64 kd,v1,v2,.slice none 0 0,.slice none 0 0]]).getD i []=Ca.getD i []:=by simp [List.getD_eq_getElem?_getD,List.getElem?_append_left (show i<Ca.length by omega)]
    have x2:(Fa++[FB v1++FB v2]).getD i []=Fa.getD i []:=by simp [List.getD_eq_getElem?_getD,List.getElem?_append_left (show i<Fa.length by omega)]
    rw [x1,x2,List.getElem_append_left hi']
    exact⟨(Ba i hi').1,La i hi'⟩
   ·obtain rfl:i=ks.length:=by simp at hi;omega
    have x1:(Ca++[[.int .i64 kd,v1,v2,.slice none 0 0,.slice none 0 0]]).getD ks.length []=[.int .i64 kd,v1,v2,.slice none 0 0,.slice none 0 0]:=by simp [List.getD_eq_getElem?_getD,<-a1]
    have x2:(Fa++[FB v1++FB v2]).getD ks.length []=FB v1++FB v2:=by simp [List.getD_eq_getElem?_getD,<-a2]
    rw [x1,x2,List.getElem_append_right (Nat.le_refl _)]
    simp only [Nat.sub_self]
    exact⟨rfl,Ha⟩
  ·refine List.nodup_append.2 ⟨n1.1,List.nodup_append.2 ⟨n2.1,Oa,fun a ha c hc e=>(Da c hc).2 (e ▸ ha)⟩,fun a ha c hc e=> ?_⟩
   subst e
   rcases List.mem_append.1 hc with hc | hc
   ·exact n1.2.2 a ha a (by simp [hc]) rfl
   ·exact (Da a hc).1 (by simpa [FB,Value.ownBlock]using ha)
  ·rcases List.mem_append.1 Aa with h | h
   ·exact h4 q (by simp only [List.mem_append];exact .inl h)
   ·rcases List.mem_append.1 h with h | h
    ·exact h4 q (by simp only [List.mem_append];exact .inr (.inl h))
    ·have:=hq q h
     exact⟨by omega,by omega,by omega,.inr this⟩
theorem zjp {a b c:Xk} {S T:Xh} (h:Frm a b S) (k:Frm b c T) (hT:∀x∈T,x∈S∨a.heap.size<=x):Frm a c S:=
 ⟨k.os.trans h.os,k.tape.trans h.tape,k.output.trans h.output,Nat.le_trans h.size k.size,fun g hg hn=>(k.block g (Nat.lt_of_lt_of_le hg h.size) (fun e=>(hT g e).elim hn (fun e=>by omega))).trans (h.block g hg hn)⟩
theorem zAD {m:Nat} {w:Xk} {v:Xl} {l:Xg} (h:RowM w 0 v l) (hl:l.length<=40) (hq:∀q∈FB v,m<=q):LfK m w 0 v (.slice none 0 0):=⟨.inl rfl,l,[],h,zcc _ _,by simpa using hl,by simpa [FB,Value.ownBlock]using zaU v,by simpa [FB,Value.ownBlock]using hq⟩
theorem zAC {m:Nat} {w:Xk} {v:Xl} {l:Xg} (h:RowM w 0 v l) (hl:l.length<=40) (hq:∀q∈FB v,m<=q):LfK m w 1 (.slice none 0 0) v:=⟨.inr rfl,[],l,zcc _ _,h,by simpa using hl,by simpa [FB,Value.ownBlock]using zaU v,by simpa [FB,Value.ownBlock]using hq⟩
theorem zuN {d:Nat} {w:Xk} {v:Xl} {ks:List (Tr d)} {F:Xh} (h:OwKidsM d w v ks F):∀q∈FB v,q∈F:=by
 obtain⟨_,_,_,_,_,_,e⟩:=h
 exact fun q hq=>by rw [e];exact List.mem_append_left _ hq
theorem zqa (w:Xk) (cs:Array Xl) (k:Nat) (hk:k<=100) (hc:cs.toList=vals (List.replicate k 0)):RowM (w.alloc (.cells cs 5)) 0 (.slice (some ⟨w.heap.size,0,none⟩) k k) (List.replicate k 0):=by
 have hl:cs.size=k:=by
  have:=congrArg List.length hc
  simpa [vals]using this
 refine⟨fun x hx=>by have:=List.eq_of_mem_replicate hx;omega,.inr ⟨w.heap.size,k,cs,(0,0),by rw [List.length_replicate],Nat.zero_le _,heap_alloc_new w _,by intro j _ hj;simp at hj,by simp,by unfold maxLen;omega,hl,?_⟩⟩
 rw [List.length_replicate,hc,List.take_of_length_le (by simp [vals])]
theorem Bk.put_other {w:Xk} {bx off:Nat} (h:Bk w bx off) (j:Nat) (hj:j≠off+4) (v:Xl):(w.setCell ⟨bx,off+4,none⟩ v).cell? ⟨bx,j,none⟩=w.cell? ⟨bx,j,none⟩:=by
 obtain⟨Aa,h0,h1⟩:=h
 rw [cell_of_row _ bx j _ _ _ (zbR w bx (off+4) Aa _ (0,0) v h0),cell_of_row _ bx j _ _ _ h0,Array.getElem?_setIfInBounds,if_neg (fun e=>hj e.symm)]
theorem zpY {H b bx m d:Nat} {F:Xh} {ks:List (Tr (d+1))} {w:Xk} {ops:Array Oper} {o:Oper} {a:Act} {K:Act->Xk->Prop} {Q:Exit->Act->Xk->Prop} {E:Prop} (hgd:o.guard=none) (s x:Operand)
  (ho:o.op=.call { callee:=.builtin .append,args:= #[s,x],argTypes:= #[27,27] }) (ka:Xi) (kc:Nat) (hs:a.eval s=.slice ka ks.length kc) (h:OwKidsM (d+1) w (.slice ka ks.length kc) ks F) (hN:F.Nodup) (z:Nat) (hx:a.eval x=.slice (some ⟨z,0,none⟩) 1 1)
  (lz:Loc w z #[.int .i64 0,.slice none 0 0,.slice none 0 0,.slice none 0 0,.slice none 0 0] 29) (hF:∀q∈F,H<q∧q≠bx∧q≠b∧q<m) (hm:m<=w.heap.size) (hb:H<m∧bx<m∧b<m) (hl:ks.length<=1000)
  (hK:∀gq cq w',(∀s5,AppF H b bx m F d ks s5 w' gq cq)->Frm w w' (FB (.slice ka ks.length kc))->K (a.put o.dst (.slice (some ⟨gq,0,none⟩) (ks.length+1) cq)) w'):if Region.wanted o (yielded ops a.tmps)=true then Oper.wp Tryz.prog o a w K Q else E:=by
 obtain⟨i0,Ha,Aa,Da,Fa⟩:=info_parts zkz
 have hk:=zuN h
 obtain⟨Cs,Fs,e1,e2,e3,e4,rfl⟩:=h
 refine step_append_lies w hgd s x _ ho 0 29 i0 (.agg #[.int .i64 0,.slice none 0 0,.slice none 0 0,.slice none 0 0,.slice none 0 0]) 5 104 Tryz.underlying27 Ha Aa Da Fa rfl (by decide) _ ks.length Cs.flatten hs e4 ⟨z,0,none⟩ 1 1 [.int .i64 0,.slice none 0 0,.slice none 0 0,.slice none 0 0,.slice none 0 0] hx rfl (fun i u hu=>World.news_of_block lz i u (by simpa using hu)) (fun u hu=>by simp at hu;rcases hu with rfl | rfl<;>rfl) (by omega) (by unfold maxLen;omega) (by omega) (Nat.zero_le _) w.heap.size rfl ?_
 intro g Ca w' k1 k2 k3 k4
 obtain⟨m1,m2,m3⟩:=OwElems.push (R:=OwNodeM (d+1)) (fun h f d=>OwNodeM.frm h f d) (y:=(⟨0,[],[],[],[]⟩:Nd (Tr d))) (G:=[]) e1 e2 e3 hN rfl (OwNodeM.text 0 (by decide) (by decide) (zcc _ _)) List.nodup_nil (fun _ _ h=>by cases h) (fun q hq=>by rcases hq with hq | hq;(have:=(hF q hq).2.2.2;omega);cases hq) k1 k2 k3
 refine hK g Ca w' (fun s5=>⟨_,_,m1,m2,by simp [szT,szA],fun q hq=> ?_,fun _ q hq=> ?_⟩) (Frm.ofGrown k2)
 ·rcases m3 q hq with h | h | h
  ·exact⟨(hF q h).1,(hF q h).2.1,(hF q h).2.2.1,.inl h⟩
  ·cases h
  ·exact⟨by omega,by omega,by omega,.inr (by omega)⟩
 ·rcases List.mem_cons.1 hq with rfl | hq
  ·rcases k1.2 with ⟨e,_⟩ | ⟨g',Ba,Ga,e,_,hg,_⟩
   ·cases e
   ·injection e with e _ _
    injection e with e
    injection e with e _ _
    subst e
    exact .inr ⟨Ga,_,hg⟩
  ·rw [List.append_nil]at hq
   exact .inl (hF q (List.mem_append_right _ hq)).2.2.2
theorem zqv {d:Nat} (ks:List (Tr d)) (y:Tr d) (h:szT d y<=100):szK d (ks++[y])<=szK d ks+101:=by
 unfold szK
 simp
 omega
theorem RXn.wrap {H b n:Nat} {w W:Xk} {k v1 v2 v3 v4 u1 u4:Xl} {r:Nat} (h:RXn H b n w) (hn:N5 w b 0 k v1 v2 v3 v4) (f:Below w.heap.size w W) (hp:Loc W r #[k,v1,v2,v3,v4] 29) (hu:Byt (zay W (BL H b)) u1 [112]) (h4:u4=.slice (some ⟨r,0,none⟩) 1 1) (hr:H<r∧r≠b) :
  RXn H b (n+1) (((((W.setCell ⟨b,0,none⟩ (.int .i64 0)).setCell ⟨b,1,none⟩ u1).setCell ⟨b,2,none⟩ (.slice none 0 0)).setCell ⟨b,3,none⟩ (.slice none 0 0)).setCell ⟨b,4,none⟩ u4):=by
 obtain⟨x0,x1,x2,x3,x4,hN,m,t,q1,q2⟩:=h
 have e0:=hN.cells.1.symm.trans hn.cells.1
 have e1:=hN.cells.2.1.symm.trans hn.cells.2.1
 have e2:=hN.cells.2.2.1.symm.trans hn.cells.2.2.1
 have e3:=hN.cells.2.2.2.1.symm.trans hn.cells.2.2.2.1
 have e4:=hN.cells.2.2.2.2.symm.trans hn.cells.2.2.2.2
 cases e0;cases e1;cases e2;cases e3;cases e4
 have fW:=Frm.ofBelow f []
 have s5:Frm W (((((W.setCell ⟨b,0,none⟩ (.int .i64 0)).setCell ⟨b,1,none⟩ u1).setCell ⟨b,2,none⟩ (.slice none 0 0)).setCell ⟨b,3,none⟩ (.slice none 0 0)).setCell ⟨b,4,none⟩ u4) [b]:=((((zaq _ _ _ _).trans (zaq _ _ _ _)).trans (zaq _ _ _ _)).trans (zaq _ _ _ _)).trans (zaq _ _ _ _)
 have n5:=hn.frm fW (by simp)
 have m5:=((((n5.putO (i:=0) (v:=.int .i64 0)).1.putO (i:=1) (v:=u1)).1.putO (i:=2) (v:=.slice none 0 0)).1.putO (i:=3) (v:=.slice none 0 0)).1.putO (i:=4) (v:=u4) |>.1
 simp only [Nat.zero_add]at m5
 have Ba:=zkv s5 (S:=BL H b) (by simp [zci])
 have Aa:r<W.heap.size:=hp.lt
 have Ca:∀j,(zay W (BL H b)).cell? ⟨r,j,none⟩=W.cell? ⟨r,j,none⟩:=fun j=>World.cell?_of_block ((zbI W (BL H b)).block r Aa (by rw [zci];omega))
 have hk:RdKids m (zay W (BL H b)) u4 [t]:=⟨by simp [maxLen],.inr (.inr ⟨r,0,1,h4,by simp,by simp [maxLen],by simp,by rw [zbw];exact Aa,fun i hi=>by
  obtain rfl:i=0:=by simpa using hi
  refine⟨[k,v1,v2,v3,v4],rfl,fun j hj=> ?_,q1.keep (zkv fW (by simp))⟩
  rw [Ca,Nat.zero_mul,Nat.zero_add]
  match j,hj with
  | 0,_=>exact hp.cell 0
  | 1,_=>exact hp.cell 1
  | 2,_=>exact hp.cell 2
  | 3,_=>exact hp.cell 3
  | 4,_=>exact hp.cell 4⟩)⟩
 refine⟨_,_,_,_,_,m5,m+1,(⟨0,[112],[],[],[t]⟩:Nd (Tr m)),⟨_,_,_,_,rfl,by show (-9223372036854775808:Int)<=0;decide,by show (0:Int)<=9223372036854775807;decide,hu.keep Ba,⟨zaI,by simp [maxLen],.inl ⟨rfl,rfl⟩⟩,⟨by simp [maxLen],.inl ⟨rfl,rfl⟩⟩,hk.keep Ba⟩,?_⟩
 show 1+0+szA []+(1+(([t]:List (Tr m)).map (szT m)).sum)<=600000+20*(n+1)
 simp only [List.map_cons,List.map_nil,List.sum_cons,List.sum_nil,szA,List.length_nil]
 omega
end Go.Proofs.YtgjolijncmkkhaaGreatDoor
