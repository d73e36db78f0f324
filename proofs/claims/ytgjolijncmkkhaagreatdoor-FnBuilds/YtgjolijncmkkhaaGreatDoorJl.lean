/- Own texts joined: AppAt, OwX, SayX, MkupX, RowM, OwnM, Push, Cur, New0, DrawI, Word, L2at, VoidE. -/
import Derived.Test.YtgjolijncmkkhaaGreatDoorJa
import Derived.Test.YtgjolijncmkkhaaGreatDoorJf
import Derived.Maps.AppendAt
import Derived.Laws.AppendOwnNone
import Derived.Deep.RegionLaw
import Derived.Laws.IdiomStrings
import Derived.ArgAppend
import Derived.Deep.AppendLies
import Derived.Deep.QuietTactic
import Derived.BigQuiet
import Derived.WalkLawsBesides
import Derived.Deep.RegionHeld3
namespace Go.Proofs.YtgjolijncmkkhaaGreatDoor
open Go.RowKit
set_option linter.unusedVariables false
theorem znI {w:Xg} (ty:Xi) (base:Nat) (v:Xh) (l:Xc) (hown:Own w base v l) (u:Xh) (m:Xc) (hu:Byt w u m) (hlen:l.length+m.length<=134217728) (hbase:base<=w.heap.size) :
  ∃v' w',(Builtin.append_ #[22,22] ty #[v,u]).run Tryz.prog w=.ok v' w'∧Own w' base v' (l++m)∧w.grownBy w' v.ownBlock∧(v'.ownBlock=v.ownBlock∨v'.ownBlock=some w.heap.size):=by
 obtain⟨i0,hi,Ha,Ia,Da⟩:=info_parts Tryz.info5
 have Aa:∀(ad:Addr) (c:Nat),u=.slice (some ad) m.length c->(∀j,j<m.length->w.cell? (ad.add j)=some (.int .u8 (m.getD j 0)))->∃v' w',(Builtin.append_ #[22,22] ty #[v,u]).run Tryz.prog w=.ok v' w'∧Own w' base v' (l++m)∧w.grownBy w' v.ownBlock∧(v'.ownBlock=v.ownBlock∨v'.ownBlock=some w.heap.size):=by
  intro ad c Fa hc
  obtain⟨v',w',hr,h2,h3,_,h5⟩:=run_append_own_at (P:=Tryz.prog) w base 22 ty 5 i0 (.int .u8 0) 1 1 Tryz.underlying22 hi Ha Ia Da rfl (by decide) v l.length (vals l) hown.2 ad m.length c (vals m) (by rw [zaP];omega) (by
   intro j y hj
   have Ba:j<m.length:=by
    by_cases Ba:j<m.length
    ·exact Ba
    ·rw [List.getElem?_eq_none (by rw [zaP];omega)]at hj;cases hj
   rw [zdz Ba]at hj
   rw [hc j Ba];exact hj) (zjU m) (by unfold maxLen;omega) (by omega) hbase
  subst Fa
  refine⟨v',w',hr,⟨hown.1.app hu.1,?_⟩,h3,h5⟩
  rw [zcE,List.length_append];exact h2
 obtain⟨Ja,hm,⟨rfl,rfl⟩ | ⟨y,Ca,rfl,hc,rfl⟩ | ⟨b,Ga,Ca,rfl,h1,h2,h3,h4,h5⟩⟩:=id hu
 ·exact⟨v,w,run_append_owned_none (P:=Tryz.prog) (w:=w) base 22 ty 5 i0 1 Tryz.underlying22 hi v l.length (vals l) hown.2,by rw [List.append_nil];exact hown,World.grownBy.refl _ _,.inl rfl⟩
 ·exact Aa y Ca rfl (fun j hj=>by simp at hj)
 ·exact Aa ⟨b,Ga,none⟩ Ca rfl (fun j hj=>by rw [zbd];exact h5 j hj)
theorem zlD {w:Xg} {ops:Array Oper} {o:Oper} {a:Act} {K:Act->Xg->Prop} {Q:Exit->Act->Xg->Prop} {E:Prop} (hgd:o.guard=none) (s x:Operand)
  (ho:o.op=.call { callee:=.builtin .append,args:= #[s,x],argTypes:= #[22,22] })
  (base:Nat) (v:Xh) (l:Xc) (hs:a.eval s=v) (hown:Own w base v l) (u:Xh) (m:Xc) (hx:a.eval x=u) (hu:Byt w u m)
  (hlen:l.length+m.length<=134217728) (hbase:base<=w.heap.size)
  (h:∀v' w',Own w' base v' (l++m)->w.grownBy w' v.ownBlock->(v'.ownBlock=v.ownBlock∨v'.ownBlock=some w.heap.size)->K (a.put o.dst v') w'):if Region.wanted o (yielded ops a.tmps)=true then Oper.wp Tryz.prog o a w K Q else E:=by
 have hw:Region.wanted o (yielded ops a.tmps)=true:=by simp [Region.wanted,hgd]
 rw [if_pos hw]
 obtain⟨v',w',hr,h1,h2,h3⟩:=znI o.type base v l hown u m hu hlen hbase
 unfold Oper.wp execOp
 simp only [ho,resolve,invoke,builtin,Sem.run_bind,Sem.run_pure,Result.andThen_ok,List.map_toArray,List.map_cons,List.map_nil,hs,hx,hr]
 exact h v' w' h1 h2 h3
theorem zpp {w:Xg} {ops:Array Oper} {rest:List Oper} {o:Oper} {a:Act} {Q:Exit->Act->Xg->Prop} (hgd:o.guard=none) (s x:Operand)
  (ho:o.op=.call { callee:=.builtin .append,args:= #[s,x],argTypes:= #[22,22] })
  (base:Nat) (v:Xh) (l:Xc) (hs:a.eval s=v) (hown:Own w base v l) (u:Xh) (m:Xc) (hx:a.eval x=u) (hu:Byt w u m)
  (hlen:l.length+m.length<=134217728) (hbase:base<=w.heap.size)
  (h:∀v' w',Own w' base v' (l++m)->w.grownBy w' v.ownBlock->(v'.ownBlock=v.ownBlock∨v'.ownBlock=some w.heap.size)->wpList Tryz.prog ops Q rest (a.put o.dst v') w'):wpList Tryz.prog ops Q (o::rest) a w:=by
 refine wpList_plain hgd fun K Aa=> ?_
 have:=zlD (ops:=ops) (K:=K) (Q:=Q) (E:=True) hgd s x ho base v l hs hown u m hx hu hlen hbase (fun v' w' h1 h2 h3=>Aa _ _ (h v' w' h1 h2 h3))
 rw [if_pos (by simp [Region.wanted,hgd])]at this
 exact this
structure Bd where
 S:Xd
 b:Nat
def Bd.at (B:Bd) (k:Nat):Prop:=k∈B.S∨B.b<=k
def OwnX (w:Xg) (B:Bd) (v:Xh) (l:Xc):Prop:=Own w 0 v l∧∀k,v.ownBlock=some k->B.at k
theorem OwnX.byt {w:Xg} {B:Bd} {v:Xh} {l:Xc} (h:OwnX w B v l):Byt w v l:=h.1.byt
theorem OwnX.keep {w w':Xg} {B:Bd} {v:Xh} {l:Xc} (h:OwnX w B v l) (hb:Below w.heap.size w w'):OwnX w' B v l:=⟨h.1.keep hb,h.2⟩
theorem OwnX.alloc {w:Xg} {B:Bd} {v:Xh} {l:Xc} (h:OwnX w B v l) (o:Obj):OwnX (w.alloc o) B v l:=⟨h.1.alloc o,h.2⟩
def MtX (B:Bd) (i:Nat) (o:Obj):Prop:=B.at i∧∃cs,o=.cells cs 5 (0,0)
theorem Frp.ofAppX {w w':Xg} {B:Bd} {v:Xh} {l:Xc} (ho:OwnX w B v l) (h:w.grownBy w' v.ownBlock):Frp (MtX B) w w':=
 Frp.ofFrm (Frm.ofGrown h) (fun g hg o Ba=>by
  have Ca:v.ownBlock=some g:=by simpa using hg
  obtain⟨Da,Aa⟩:=zfc ho.1.2 Ca
  rw [Aa]at Ba
  cases Ba
  exact⟨ho.2 g Ca,Da,rfl⟩)
structure Lk (B:Bd) (w0 w:Xg):Prop where
 size:w0.heap.size<=w.heap.size
 blank:∀k∈B.S,∀p:Addr,p.block=k->w0.cell? p=none
 low:w0.heap.size<=B.b
 block:∀k,k<w0.heap.size->k∉B.S->w.heap[k]? = w0.heap[k]?
theorem Lk.cell {B:Bd} {w0 w:Xg} (h:Lk B w0 w) {p:Addr} {x:Xh} (hc:w0.cell? p=some x):w.cell? p=some x:=by
 have hn:p.block∉B.S:=fun e=>by rw [h.blank _ e p rfl]at hc;cases hc
 have hl:p.block<w0.heap.size:=by
  by_cases hl:p.block<w0.heap.size
  ·exact hl
  ·unfold World.cell? at hc
   rw [Array.getElem?_eq_none (by omega)]at hc
   cases hc
 have he:=h.block _ hl hn
 unfold World.cell? at hc ⊢
 rw [he]
 exact hc
theorem Lk.frp {B:Bd} {w0 w w':Xg} (h:Lk B w0 w) (f:Frp (MtX B) w w'):Lk B w0 w':=
 ⟨Nat.le_trans h.size f.size,h.blank,h.low,fun k hk hn=>by
  have Aa:k<w.heap.size:=Nat.lt_of_lt_of_le hk h.size
  have:=f.block k _ (Array.getElem?_eq_getElem Aa) (fun hm=>by
   rcases hm.1 with h1 | h1
   ·exact hn h1
   ·have:=h.low;omega)
  rw [this,<-Array.getElem?_eq_getElem Aa]
  exact h.block k hk hn⟩
theorem Lk.below {B:Bd} {w0 w w':Xg} (h:Lk B w0 w) (f:Below w.heap.size w w'):Lk B w0 w':=h.frp (Frp.ofBelow f _)
theorem Byt.lk {B:Bd} {w0 w:Xg} {v:Xh} {l:Xc} (h:Byt w0 v l) (k:Lk B w0 w):Byt w v l:=by
 obtain⟨Aa,hm,h1 | h2 | ⟨b,Ba,Ca,rfl,h1,h2,h3,h4,h5⟩⟩:=h
 ·exact⟨Aa,hm,.inl h1⟩
 ·exact⟨Aa,hm,.inr (.inl h2)⟩
 ·exact⟨Aa,hm,.inr (.inr ⟨b,Ba,Ca,rfl,h1,h2,h3,Nat.lt_of_lt_of_le h4 k.size,fun i hi=>k.cell (h5 i hi)⟩)⟩
theorem zjV {w:Xg} {B:Bd} {v v':Xh} (hb:B.b<=w.heap.size) (h:∀k,v.ownBlock=some k->B.at k) (hw:v'.ownBlock=v.ownBlock∨v'.ownBlock=some w.heap.size):∀k,v'.ownBlock=some k->B.at k:=fun k hk=>by
 rcases hw with e | e
 ·exact h k (e ▸ hk)
 ·rw [e]at hk
  cases hk
  exact .inr hb
theorem zbR {w:Xg} {ops:Array Oper} {o:Oper} {a:Act} {K:Act->Xg->Prop} {Q:Exit->Act->Xg->Prop} {E:Prop} (hgd:o.guard=none) (s x:Operand)
  (ho:o.op=.call { callee:=.builtin .append,args:= #[s,x],argTypes:= #[22,22] })
  (B:Bd) (v:Xh) (l:Xc) (hs:a.eval s=v) (hown:OwnX w B v l) (u:Xh) (m:Xc) (hx:a.eval x=u) (hu:Byt w u m)
  (hlen:l.length+m.length<=134217728) (hbase:B.b<=w.heap.size)
  (h:∀v' w',OwnX w' B v' (l++m)->w.grownBy w' v.ownBlock->K (a.put o.dst v') w'):if Region.wanted o (yielded ops a.tmps)=true then Oper.wp Tryz.prog o a w K Q else E:=
 zlD hgd s x ho 0 v l hs hown.1 u m hx hu hlen (Nat.zero_le _) (fun v' w' h1 h2 h3=>h v' w' ⟨h1,zjV hbase hown.2 h3⟩ h2)
theorem zem {w:Xg} {ops:Array Oper} {rest:List Oper} {o:Oper} {a:Act} {Q:Exit->Act->Xg->Prop} (hgd:o.guard=none) (s x:Operand)
  (ho:o.op=.call { callee:=.builtin .append,args:= #[s,x],argTypes:= #[22,22] })
  (B:Bd) (v:Xh) (l:Xc) (hs:a.eval s=v) (hown:OwnX w B v l) (u:Xh) (m:Xc) (hx:a.eval x=u) (hu:Byt w u m)
  (hlen:l.length+m.length<=134217728) (hbase:B.b<=w.heap.size)
  (h:∀v' w',OwnX w' B v' (l++m)->w.grownBy w' v.ownBlock->wpList Tryz.prog ops Q rest (a.put o.dst v') w'):wpList Tryz.prog ops Q (o::rest) a w:=
 zpp hgd s x ho 0 v l hs hown.1 u m hx hu hlen (Nat.zero_le _) (fun v' w' h1 h2 h3=>h v' w' ⟨h1,zjV hbase hown.2 h3⟩ h2)
theorem zsU {w:Xg} (ty:Xi) (base:Nat) (v:Xh) (l:Xc) (hown:Own w base v l) (t:ByteArray) (m:Xc) (hm:Lib.strCells t=vals m) (hok:okB m) (hlen:l.length+m.length<=134217728) (hbase:base<=w.heap.size) :
  ∃v' w',(Builtin.append_ #[22,9] ty #[v,.string t]).run Tryz.prog w=.ok v' w'∧Own w' base v' (l++m)∧w.grownBy w' v.ownBlock∧(v'.ownBlock=v.ownBlock∨v'.ownBlock=some w.heap.size):=by
 obtain⟨i0,hi,Fa,Ga,Da⟩:=info_parts Tryz.info5
 have Ja:t.size=m.length:=by rw [<-Lib.strCells_length,hm,zaP]
 obtain⟨v',w',hr,h2,h3,h4⟩:=Lib.run_append_own_string (P:=Tryz.prog) w base 22 9 ty 5 i0 Tryz.underlying22 Tryz.underlying9 hi Fa Ga Da v l.length (vals l) hown.2 t (by rw [Ja];unfold maxLen;omega) (by omega) hbase
 refine⟨v',w',hr,⟨hown.1.app hok,by rw [zcE,List.length_append,<-Ja,<-hm];exact h2⟩,h3,?_⟩
 have Ma:(vals l).length=l.length:=zaP l
 rcases hown.2.2 with ⟨rfl,hz⟩ | ⟨g,Ca,Ha,rfl,Na,hg,Pa,Oa,Ka,Ia⟩
 ·by_cases hm0:t.size=0
  ·rw [h4.2 ⟨rfl,hm0⟩]
   exact .inl rfl
  ·have Aa:=run_append_nil_string (P:=Tryz.prog) w 22 9 ty 5 i0 (.int .u8 0) Tryz.underlying22 Tryz.underlying9 hi Fa t (by omega) (by omega) (by rw [Da];omega)
   rw [Aa]at hr
   injection hr with e1 _
   subst e1
   exact .inr rfl
 ·by_cases hroom:l.length+t.size<=Ca
  ·have La:Ha.size=Ca:=by simpa using Ka
   have Aa:=Lib.run_append_room_string (P:=Tryz.prog) w 22 9 ty 5 i0 Tryz.underlying22 Tryz.underlying9 hi Ga g l.length Ca Ha hg t hroom (by omega)
   rw [Aa]at hr
   injection hr with e1 _
   subst e1
   exact .inl rfl
  ·have Ba:∀j u,(vals l)[j]? = some u->w.cell? ((⟨g,0,none⟩:Addr).add j)=some u:=hown.2.cells (g:=g) rfl
   have Aa:=Lib.run_append_grow_string (P:=Tryz.prog) w 22 9 ty 5 i0 (.int .u8 0) Tryz.underlying22 Tryz.underlying9 hi Fa ⟨g,0,none⟩ l.length Ca (vals l) (by rw [Ga];omega) Ba t (by omega) (by omega) (by rw [Da];exact growslice_fits (by omega) (by omega))
   rw [Aa]at hr
   injection hr with e1 _
   subst e1
   exact .inr rfl
theorem zeS {w:Xg} {ops:Array Oper} {o:Oper} {a:Act} {K:Act->Xg->Prop} {Q:Exit->Act->Xg->Prop} {E:Prop} (hgd:o.guard=none) (s x:Operand)
  (ho:o.op=.call { callee:=.builtin .append,args:= #[s,x],argTypes:= #[22,9] })
  (B:Bd) (v:Xh) (l:Xc) (hs:a.eval s=v) (hown:OwnX w B v l) (t:ByteArray) (m:Xc) (hx:a.eval x=.string t) (hm:Lib.strCells t=vals m) (hok:okB m)
  (hlen:l.length+m.length<=134217728) (hbase:B.b<=w.heap.size)
  (h:∀v' w',OwnX w' B v' (l++m)->w.grownBy w' v.ownBlock->K (a.put o.dst v') w'):if Region.wanted o (yielded ops a.tmps)=true then Oper.wp Tryz.prog o a w K Q else E:=by
 have hw:Region.wanted o (yielded ops a.tmps)=true:=by simp [Region.wanted,hgd]
 rw [if_pos hw]
 obtain⟨v',w',hr,h2,h3,h4⟩:=zsU o.type 0 v l hown.1 t m hm hok hlen (Nat.zero_le _)
 unfold Oper.wp execOp
 simp only [ho,resolve,invoke,builtin,Sem.run_bind,Sem.run_pure,Result.andThen_ok,List.map_toArray,List.map_cons,List.map_nil,hs,hx,hr]
 exact h v' w' ⟨h2,zjV hbase hown.2 h4⟩ h3
theorem zfg {w:Xg} {ops:Array Oper} {rest:List Oper} {o:Oper} {a:Act} {Q:Exit->Act->Xg->Prop} (hgd:o.guard=none) (s x:Operand)
  (ho:o.op=.call { callee:=.builtin .append,args:= #[s,x],argTypes:= #[22,9] })
  (B:Bd) (v:Xh) (l:Xc) (hs:a.eval s=v) (hown:OwnX w B v l) (t:ByteArray) (m:Xc) (hx:a.eval x=.string t) (hm:Lib.strCells t=vals m) (hok:okB m)
  (hlen:l.length+m.length<=134217728) (hbase:B.b<=w.heap.size)
  (h:∀v' w',OwnX w' B v' (l++m)->w.grownBy w' v.ownBlock->wpList Tryz.prog ops Q rest (a.put o.dst v') w'):wpList Tryz.prog ops Q (o::rest) a w:=by
 refine wpList_plain hgd fun K Aa=> ?_
 have:=zeS (ops:=ops) (K:=K) (Q:=Q) (E:=True) hgd s x ho B v l hs hown t m hx hm hok hlen hbase (fun v' w' h1 h2=>Aa _ _ (h v' w' h1 h2))
 rw [if_pos (by simp [Region.wanted,hgd])]at this
 exact this
set_option maxHeartbeats 3200000 in
theorem zoZ (w0 w:Xg) (B:Bd) (v u:Xh) (l t:Xc) (q:Bool) (hB:B.b<=w.heap.size) (ho:OwnX w B v l) (hu:Byt w0 u t) (hW:Lk B w0 w) (h0:w0.heap.size<=B.b) (hlen:l.length+(say q t).length<=100000000) :
  Calls Tryz.prog 78 #[v,u,.bool q] w fun e w'=>∃v',e=.returned v'∧OwnX w' B v' (l++say q t)∧Frp (MtX B) w w':=by
 obtain⟨av,cv,rfl,_,_⟩:=ho.byt.shape
 obtain⟨au,cu,rfl,_,_⟩:=hu.shape
 have Qa:=hu.2.1
 unfold maxLen at Qa
 have Sa:(t.length:Int)<=9223372036854775807:=by omega
 go_enter Tryz.func78,Tryz.ntmps78
 go_wp2_with fail
 go_loopw [0,7] (fun b i wr=>∃j:Nat,j<=t.length∧i=.int .i64 j∧OwnX wr B b (l++say q (t.take j))∧Frp (MtX B) w wr) (fun _ i _=>t.length-(intOf i).toNat)
 case atStart=>exact⟨0,Nat.zero_le _,rfl,by simpa [say]using ho,Frp.refl _ _⟩
 case round=>
  obtain⟨j,hj,rfl,hr,hb⟩:=hrel
  by_cases hjl:j<t.length
  ·have Fa:=zoS q t j hjl
   have Ia:=ztX q t (j+1)
   obtain⟨La,_,⟨_,e⟩ | ⟨_,_,_,_,e⟩ | ⟨p,Oa,Ua,e,h1,h2,h3,h4,h5⟩⟩:=hu
   ·subst e;simp at hjl
   ·subst e;simp at hjl
   injection e with e1 _ e3
   subst e1 e3
   have hc:=h5 j hjl
   obtain⟨x,hx⟩:∃x,x=t[j]:=⟨_,rfl⟩
   rw [zcP hjl,<-hx]at hc
   rw [<-hx]at Fa
   have Ka:0<=x:=by rw [hx];exact (La _ (List.getElem_mem hjl)).1
   have Ja:x<=255:=by rw [hx];exact (La _ (List.getElem_mem hjl)).2
   have Ma:Lk B w0 wr:=hW.frp hb
   have Ta:wr.cell? ⟨p,Oa+j,none⟩=some (.int .u8 x):=Ma.cell hc
   have Ga:B.b<=wr.heap.size:=Nat.le_trans hB hb.size
   obtain⟨ab,cb,Ha,_,_⟩:=hr.byt.shape
   subst Ha
   have Na:(l++say q (t.take j)).length+(sayB q x).length<=100000000:=by
    rw [Fa]at Ia
    simp only [List.length_append]at Ia ⊢
    omega
   have Pa:(j:Int)<(t.length:Int):=by omega
   have Ra:=hide Fa
   obtain⟨L,hL⟩:∃L,L=l++say q (t.take j):=⟨_,rfl⟩
   have HL:=hide (show l++say q (t.take (j+1))=L++sayB q x by rw [Fa,hL,List.append_assoc])
   rw [<-hL]at hr Na ⊢
   have Va:L.length<=100000000:=by omega
   have HR:=hide hr
   clear hr Fa hx hc Ia h5 hL Ra
   by_cases k1:x=38
   ·have d1:(x == 38)=true:=by simpa using k1
    have HY:=hide (show sayB q x=[38,97,109,112,59] by unfold sayB;rw [if_pos k1])
    clear k1
    go_wp2_with (at_builtin;refine zfg rfl _ _ rfl B _ L rfl (zaa HR) _ [38,97,109,112,59] rfl rfl zrw (by first | omega | (simp;omega)) (by first | exact Ga | (simp;omega)) ?_)
    intro v2 w2 Aa Ba
    have Da:Frp (MtX B) w w2:=hb.trans (Frp.ofAppX (zaa HR) Ba)
    have HO:=hide (show OwnX w2 B v2 (l++say q (t.take (j+1))) by rw [zaa HL,zaa HY];exact Aa)
    obtain⟨a2,c2,Ca,_,_⟩:=Aa.byt.shape
    subst Ca
    clear Aa Ba
    go_wp2_with fail
    go_roundw
    case rel=>exact⟨j+1,by omega,by go_num,zaa HO,Da⟩
    case measure=>simp [intOf];omega
   ·have d1:(x == 38)=false:=by simpa using k1
    by_cases k2:x=60
    ·have d2:(x == 60)=true:=by simpa using k2
     have HY:=hide (show sayB q x=[38,108,116,59] by unfold sayB;rw [if_neg k1,if_pos k2])
     clear k1 k2
     go_wp2_with (at_builtin;refine zfg rfl _ _ rfl B _ L rfl (zaa HR) _ [38,108,116,59] rfl rfl zvr (by first | omega | (simp;omega)) (by first | exact Ga | (simp;omega)) ?_)
     intro v2 w2 Aa Ba
     have Da:Frp (MtX B) w w2:=hb.trans (Frp.ofAppX (zaa HR) Ba)
     have HO:=hide (show OwnX w2 B v2 (l++say q (t.take (j+1))) by rw [zaa HL,zaa HY];exact Aa)
     obtain⟨a2,c2,Ca,_,_⟩:=Aa.byt.shape
     subst Ca
     clear Aa Ba
     go_wp2_with fail
     go_roundw
     case rel=>exact⟨j+1,by omega,by go_num,zaa HO,Da⟩
     case measure=>simp [intOf];omega
    ·have d2:(x == 60)=false:=by simpa using k2
     by_cases k3:x=34∧q=true
     ·have d3:(x == 34)=true:=by simpa using k3.1
      have HY:=hide (show sayB q x=[38,113,117,111,116,59] by unfold sayB;rw [if_neg k1,if_neg k2,if_pos k3])
      obtain⟨_,hq⟩:=k3
      subst hq
      clear k1 k2
      go_wp2_with (at_builtin;refine zfg rfl _ _ rfl B _ L rfl (zaa HR) _ [38,113,117,111,116,59] rfl rfl zpK (by first | omega | (simp;omega)) (by first | exact Ga | (simp;omega)) ?_)
      intro v2 w2 Aa Ba
      have Da:Frp (MtX B) w w2:=hb.trans (Frp.ofAppX (zaa HR) Ba)
      have HO:=hide (show OwnX w2 B v2 (l++say true (t.take (j+1))) by rw [zaa HL,zaa HY];exact Aa)
      obtain⟨a2,c2,Ca,_,_⟩:=Aa.byt.shape
      subst Ca
      clear Aa Ba
      go_wp2_with fail
      go_roundw
      case rel=>exact⟨j+1,by omega,by go_num,zaa HO,Da⟩
      case measure=>simp [intOf];omega
     ·have HY:=hide (show sayB q x=[x] by unfold sayB;rw [if_neg k1,if_neg k2,if_neg k3])
      have d3:((x == 34)=true∧q=false)∨(x == 34)=false:=by
       by_cases h34:x=34
       ·left
        refine⟨by simpa using h34,?_⟩
        cases q with
        | true=>exact absurd ⟨h34,rfl⟩ k3
        | false=>rfl
       ·right;simpa using h34
      clear k1 k2 k3
      rcases d3 with ⟨d3,rfl⟩ | d3
      ·go_wp2_with (at_builtin;(refine zem rfl _ _ rfl B _ L rfl ((zaa HR).alloc _) _ [x] rfl (zbv wr x Ka Ja) (by first | omega | (simp;omega)) (by first | exact Ga | (simp;omega)) ?_))
       intro v2 w2 Aa Ba
       have Da:Frp (MtX B) w w2:=(hb.trans (Frp.ofBelow ((Below.refl _ _).alloc (Nat.le_refl _) _) _)).trans (Frp.ofAppX ((zaa HR).alloc _) Ba)
       have HO:=hide (show OwnX w2 B v2 (l++say false (t.take (j+1))) by rw [zaa HL,zaa HY];exact Aa)
       obtain⟨a2,c2,Ca,_,_⟩:=Aa.byt.shape
       subst Ca
       clear Aa Ba
       go_wp2_with fail
       go_roundw
       case rel=>exact⟨j+1,by omega,by go_num,zaa HO,Da⟩
       case measure=>simp [intOf];omega
      ·go_wp2_with (at_builtin;(refine zem rfl _ _ rfl B _ L rfl ((zaa HR).alloc _) _ [x] rfl (zbv wr x Ka Ja) (by first | omega | (simp;omega)) (by first | exact Ga | (simp;omega)) ?_))
       intro v2 w2 Aa Ba
       have Da:Frp (MtX B) w w2:=(hb.trans (Frp.ofBelow ((Below.refl _ _).alloc (Nat.le_refl _) _) _)).trans (Frp.ofAppX ((zaa HR).alloc _) Ba)
       have HO:=hide (show OwnX w2 B v2 (l++say q (t.take (j+1))) by rw [zaa HL,zaa HY];exact Aa)
       obtain⟨a2,c2,Ca,_,_⟩:=Aa.byt.shape
       subst Ca
       clear Aa Ba
       go_wp2_with fail
       go_roundw
       case rel=>exact⟨j+1,by omega,by go_num,zaa HO,Da⟩
       case measure=>simp [intOf];omega
  ·have e:j=t.length:=by omega
   subst e
   rw [List.take_length]at hr
   obtain⟨ab,cb,Ha,_,_⟩:=hr.byt.shape
   subst Ha
   clear hu
   go_wp2_with fail
   go_ret
   exact⟨_,rfl,hr,hb⟩
set_option maxRecDepth 100000
def zlN (n:Nat):Prop:=∀(w0 w:Xg) (B:Bd) (v:Xh) (l:Xc) (a b c d e:Xh) (t:Tr n),RdNode n w0 [a,b,c,d,e] t->Lk B w0 w->w0.heap.size<=B.b->B.b<=w.heap.size->OwnX w B v l->l.length+(mkup n t).length<=100000000->
  Calls Tryz.prog 38 #[v,.agg #[a,b,c,d,e]] w fun e w'=>∃v',e=.returned v'∧OwnX w' B v' (l++mkup n t)∧Frp (MtX B) w w'
theorem zav (B:Bd) (g:Nat) (cs:Array Xh):¬ MtX B g (.cells cs 29 (0,0)):=by
 rintro⟨_,Aa,h⟩
 injection h with _ h2
 revert h2
 decide
theorem zvU {w:Xg} {B:Bd} {K:Nat} {v:Xh} {l:Xc} {x:Xh} (ho:OwnX w B v l) (h2:2<=l.length) (hK:Loc w K #[x] 5):v.ownBlock≠some K:=zxY ho.1 h2 hK
theorem zpc {w:Xg} {B:Bd} {v:Xh} {l:Xc} (ho:OwnX w B v l):v.ownBlock≠some w.heap.size:=zyx ho.1
set_option maxHeartbeats 6400000 in
theorem zwU (n:Nat) (H:zlN n):zlN (n+1):=by
 intro w0 w B v l a b c d e t Ab hW h0 hB ho Ca
 obtain⟨_,_,_,_,e0,k1,k2,hb,hc,hd,he⟩:=Ab
 simp only [List.cons.injEq,and_true]at e0
 obtain⟨rfl,rfl,rfl,rfl,rfl⟩:=e0
 obtain⟨ab,cb,rfl,_,_⟩:=hb.shape
 obtain⟨ac,cc,rfl,_,_⟩:=hc.shape
 obtain⟨ad,cd,rfl,_,_⟩:=Elems.shape hd
 obtain⟨ae,ce,rfl,_,_⟩:=Elems.shape he
 obtain⟨av,cv,rfl,_,_⟩:=ho.byt.shape
 have Ra:Below w.heap.size w (w.alloc (.cells #[.int .i64 t.kind,.slice ab t.name.length cb,.slice ac t.text.length cc,.slice ad t.attrs.length cd,.slice ae t.kids.length ce] 29)):=(Below.refl _ _).alloc (Nat.le_refl _) _
 have l1:=Loc.made w #[.int .i64 t.kind,.slice ab t.name.length cb,.slice ac t.text.length cc,.slice ad t.attrs.length cd,.slice ae t.kids.length ce] 29
 have F1:Frp (MtX B) w _:=Frp.ofBelow Ra (MtX B)
 have Xa:=ho.keep Ra
 have ba:=hW.below Ra
 have Ba:B.b<=(w.alloc (.cells #[.int .i64 t.kind,.slice ab t.name.length cb,.slice ac t.text.length cc,.slice ad t.attrs.length cd,.slice ae t.kids.length ce] 29)).heap.size:=Nat.le_trans hB Ra.size
 have Na:=zdn n t
 by_cases hz:t.kind=1
 ·have dz:(t.kind == 1)=true:=by simpa using hz
  rw [if_pos hz]at Na
  rw [Na]at Ca ⊢
  clear hz Na
  go_enter Tryz.func38,Tryz.ntmps38
  go_wp2_with fail
  refine (zoZ w0 _ B _ _ l t.text false Ba Xa hc ba h0 Ca).mono ?_
  rintro e w2 ⟨v2,rfl,Oa,F2⟩
  obtain⟨a2,c2,wa,_,_⟩:=Oa.byt.shape
  subst wa
  generalize (l++say false t.text).length=n2 at *
  go_wp2_with fail
  go_ret
  exact⟨_,rfl,Oa,F1.trans F2⟩
 ·have dz:(t.kind == 1)=false:=by simpa using hz
  rw [if_neg hz]at Na
  rw [Na]at Ca ⊢
  obtain⟨G,hG⟩:∃G,G=l++([60]++t.name++zal t.attrs++[62]++(if zaL t.name=true then [] else (t.kids.map (mkup n)).flatten++[60,47]++t.name++[62])):=⟨_,rfl⟩
  rw [<-hG]
  have HG:=hide hG
  clear hz Na hG
  obtain⟨x0,x1,x2,x3,x4⟩:=l1.five
  go_enter Tryz.func38,Tryz.ntmps38
  go_wp2_with fail
  generalize (w.alloc (.cells #[.int .i64 t.kind,.slice ab t.name.length cb,.slice ac t.text.length cc,.slice ad t.attrs.length cd,.slice ae t.kids.length ce] 29))=w1 at *
  generalize hS:w.heap.size=S at *
  have Eb:l.length+1+t.name.length<=100000000:=by simp only [List.length_append,List.length_cons,List.length_nil]at Ca;omega
  have z1:(w1.alloc (.cells #[.int .u8 60] 5)).drew.cell? ⟨S,1,none⟩=some (.slice ab t.name.length cb):=(l1.alloc _).cell 1
  go_region_held3 (fun w'=>w'.cell? ⟨S,1,none⟩=some (.slice ab t.name.length cb))
   (first | assumption | simp [*])
   (first
    | (refine zbR rfl (.tmp 14) (.tmp 15) rfl B _ l (by rfl) (Xa.alloc _) _ [60] (by rfl) (zbv w1 60 (by omega) (by omega)) (by simp;omega) (by simp;omega) ?_;intro v5 w5 Da Ma;have F5:Frp (MtX B) w1 w5:=(Frp.ofBelow (((Below.refl w1.heap.size w1).alloc (Nat.le_refl _) _).drew) _).trans (Frp.ofAppX (Xa.alloc _) Ma);obtain⟨x0,x1,x2,x3,x4⟩:=(l1.frp F5 (zav _ _ _)).five)
    | (refine zbR rfl (.tmp 16) (.tmp 18) rfl B _ (l++[60]) (by rfl) Da _ t.name (by rfl) (hb.lk (ba.frp F5)) (by simp;omega) (Nat.le_trans Ba F5.size) ?_;intro v6 w6 Ia Ha;have F6:Frp (MtX B) w1 w6:=F5.trans (Frp.ofAppX Da Ha);obtain⟨x0,x1,x2,x3,x4⟩:=(l1.frp F6 (zav _ _ _)).five))
  have HW:=hide (fun (W:Xg) (F:Frp (MtX B) w1 W)=>ba.frp F)
  have Db:(t.attrs.length:Int)<=9223372036854775807:=by have:=hd.1;unfold maxLen at this;omega
  have Ib:(t.kids.length:Int)<=9223372036854775807:=by have:=he.1;unfold maxLen at this;omega
  obtain⟨A0,Ua⟩:∃A0,A0=l++[60]++t.name:=⟨_,rfl⟩
  rw [<-Ua]at Ia
  have Fb:A0.length+(zal t.attrs).length+1<=100000000:=by
   simp only [List.length_append,List.length_cons,List.length_nil]at Ca
   rw [Ua];simp only [List.length_append,List.length_cons,List.length_nil];omega
  clear Ma Ha Da z1 F5 x0 x1 x2 x3 x4 Xa ho
  go_wp2_with fail
  go_loopw [0,5] (fun b i wr=>∃j:Nat,j<=t.attrs.length∧i=.int .i64 j∧OwnX wr B b (A0++zal (t.attrs.take j))∧Frp (MtX B) w1 wr) (fun _ i _=>t.attrs.length-(intOf i).toNat)
  case atStart=>exact⟨0,Nat.zero_le _,rfl,by simpa [zal]using Ia,F6⟩
  case round=>
   obtain⟨j,hj,rfl,hr,hf⟩:=hrel
   have Ya:B.b<=wr.heap.size:=Nat.le_trans Ba hf.size
   by_cases hjl:j<t.attrs.length
   ·have Ka:zal (t.attrs.take (j+1))=zal (t.attrs.take j)++zbA t.attrs[j]:=zeP zbA t.attrs j hjl
    have La:(zal (t.attrs.take (j+1))).length<=(zal t.attrs).length:=zgI zbA t.attrs (j+1)
    obtain⟨pb,Aa,rfl,va,ga,_,C,hC,Fa,ia⟩:=hd.at hjl
    clear ga
    obtain⟨x,hx⟩:∃x,x=t.attrs[j]:=⟨_,rfl⟩
    rw [<-hx]at ia Ka
    obtain⟨y0,y1,rfl,oa,ha⟩:=ia
    have q0:=Fa 0 (by omega)
    have q1:=Fa 1 (by omega)
    simp only [List.getElem?_cons_zero,List.getElem?_cons_succ,Nat.add_zero]at q0 q1
    obtain⟨s0,g0,rfl,_,_⟩:=oa.shape
    obtain⟨s1,g1,rfl,_,_⟩:=ha.shape
    obtain⟨L,hL⟩:∃L,L=A0++zal (t.attrs.take j):=⟨_,rfl⟩
    have HL:=hide (show A0++zal (t.attrs.take (j+1))=L++[32]++x.1++[61,34]++say true x.2++[34] by rw [Ka,hL];simp [zbA])
    have Bb:L.length+4+x.1.length+(say true x.2).length<=100000000:=by
     rw [Ka]at La
     rw [hL]
     simp only [List.length_append,zbA,List.length_cons,List.length_nil]at La ⊢
     omega
    rw [<-hL]at hr
    have HR:=hide hr
    have ca:(j:Int)<(t.attrs.length:Int):=by omega
    have Gb:(0:Int)<=(j:Int):=by omega
    have c3:wr.cell? ⟨S,3,none⟩=some (.slice (some ⟨pb,Aa,none⟩) t.attrs.length cd):=(l1.frp hf (zav _ _ _)).cell 3
    have u0:wr.cell? ⟨pb,Aa+j*2,none⟩=some (.slice s0 x.1.length g0):=(zaa HW wr hf).cell q0
    have aa:Below wr.heap.size wr (wr.alloc (.cells #[.int .u8 32] 5)).drew:=((Below.refl _ _).alloc (Nat.le_refl _) _).drew
    have Fz:=hf.trans (Frp.ofBelow aa _)
    have z3:(wr.alloc (.cells #[.int .u8 32] 5)).drew.cell? ⟨S,3,none⟩=some (.slice (some ⟨pb,Aa,none⟩) t.attrs.length cd):=(l1.frp Fz (zav _ _ _)).cell 3
    have z0:(wr.alloc (.cells #[.int .u8 32] 5)).drew.cell? ⟨pb,Aa+j*2,none⟩=some (.slice s0 x.1.length g0):=(zaa HW _ Fz).cell q0
    clear hr Ka La hx hL Fa
    go_wp2_with fail
    go_region_held3 (fun w'=>w'.cell? ⟨S,3,none⟩=some (.slice (some ⟨pb,Aa,none⟩) t.attrs.length cd)∧w'.cell? ⟨pb,Aa+j*2,none⟩=some (.slice s0 x.1.length g0))
     (first | exact⟨by assumption,by assumption⟩ | simp [*])
     (first
      | (refine zbR rfl (.tmp 27) (.tmp 28) rfl B _ L (by rfl) ((zaa HR).alloc _) _ [32] (by rfl) (zbv wr 32 (by omega) (by omega)) (by simp;omega) (by simp;omega) ?_;intro v2 w2 Oa ra;have F2:Frp (MtX B) w1 w2:=Fz.trans (Frp.ofAppX ((zaa HR).alloc _) ra);have c3:w2.cell? ⟨S,3,none⟩=some (.slice (some ⟨pb,Aa,none⟩) t.attrs.length cd):=(l1.frp F2 (zav _ _ _)).cell 3;have u0:w2.cell? ⟨pb,Aa+j*2,none⟩=some (.slice s0 x.1.length g0):=(zaa HW _ F2).cell q0)
      | (refine zbR rfl (.tmp 29) (.tmp 35) rfl B _ (L++[32]) (by rfl) Oa _ x.1 (by rfl) (oa.lk (zaa HW _ F2)) (by simp;omega) (Nat.le_trans Ba F2.size) ?_;intro v3 w3 ea la;have F3:Frp (MtX B) w1 w3:=F2.trans (Frp.ofAppX Oa la);have c3:w3.cell? ⟨S,3,none⟩=some (.slice (some ⟨pb,Aa,none⟩) t.attrs.length cd):=(l1.frp F3 (zav _ _ _)).cell 3;have u0:w3.cell? ⟨pb,Aa+j*2,none⟩=some (.slice s0 x.1.length g0):=(zaa HW _ F3).cell q0)
      | (refine zeS rfl (.tmp 36) (.const (.string ⟨#[61,34]⟩)) rfl B _ (L++[32]++x.1) (by rfl) ea ⟨#[61,34]⟩ [61,34] (by rfl) rfl zvf (by simp;omega) (Nat.le_trans Ba F3.size) ?_;intro v4 w4 fa qa;have F4:Frp (MtX B) w1 w4:=F3.trans (Frp.ofAppX ea qa);have c3:w4.cell? ⟨S,3,none⟩=some (.slice (some ⟨pb,Aa,none⟩) t.attrs.length cd):=(l1.frp F4 (zav _ _ _)).cell 3;have u0:w4.cell? ⟨pb,Aa+j*2,none⟩=some (.slice s0 x.1.length g0):=(zaa HW _ F4).cell q0))
    have u1:w4.cell? ⟨pb,Aa+j*2+1,none⟩=some (.slice s1 x.2.length g1):=(zaa HW _ F4).cell q1
    obtain⟨L4,Za⟩:∃L4,L4=L++[32]++x.1++[61,34]:=⟨_,rfl⟩
    have Kb:L4.length+(say true x.2).length+1<=100000000:=by rw [Za];simp only [List.length_append,List.length_cons,List.length_nil];omega
    rw [<-Za]at fa HL
    have ua:=hide fa
    clear Oa ea fa ra la qa Za z3 z0 Bb
    go_wp2_with fail
    refine (zoZ w0 _ B _ _ L4 x.2 true (Nat.le_trans Ba F4.size) (zaa ua) ha (zaa HW _ F4) h0 (by omega)).mono ?_
    rintro e w5 ⟨v5,rfl,Da,F5⟩
    have ka:=F4.trans F5
    have ya:B.b<=w5.heap.size:=Nat.le_trans Ba ka.size
    have ja:=hide Da
    have Lb:(L4++say true x.2).length+1<=100000000:=by rw [List.length_append];omega
    generalize L4++say true x.2=L5 at *
    clear Da c3 u0 u1
    go_wp2_with (at_builtin;(refine zem rfl _ _ rfl B _ L5 rfl ((zaa ja).alloc _) _ [34] rfl (zbv w5 34 (by omega) (by omega)) (by first | omega | (simp;omega)) (by first | exact ya | (simp;omega)) ?_))
    intro v7 w7 Ga Ja
    have F7:Frp (MtX B) w1 w7:=(ka.trans (Frp.ofBelow ((Below.refl _ _).alloc (Nat.le_refl _) _) _)).trans (Frp.ofAppX ((zaa ja).alloc _) Ja)
    have HO:=hide (show OwnX w7 B v7 (A0++zal (t.attrs.take (j+1))) by rw [zaa HL];exact Ga)
    clear Ga Ja
    go_wp2_with fail
    go_roundw
    case rel=>exact⟨j+1,by omega,by go_num,zaa HO,F7⟩
    case measure=>simp [intOf];omega
   ·have da:j=t.attrs.length:=by omega
    subst da
    rw [List.take_length]at hr
    have c3:wr.cell? ⟨S,3,none⟩=some (.slice ad t.attrs.length cd):=(l1.frp hf (zav _ _ _)).cell 3
    obtain⟨A1,Wa⟩:∃A1,A1=A0++zal t.attrs:=⟨_,rfl⟩
    rw [<-Wa]at hr
    have Hb:A1.length+1<=100000000:=by rw [Wa,List.length_append];omega
    have HR:=hide hr
    have HA:=hide (show l++[60]++t.name++zal t.attrs++[62]=A1++[62] by rw [Wa,Ua])
    clear hr hd Wa Ua
    go_wp2_with (at_builtin;(refine zem rfl _ _ rfl B _ A1 rfl ((zaa HR).alloc _) _ [62] rfl (zbv wr 62 (by omega) (by omega)) (by first | omega | (simp;omega)) (by first | exact Ya | (simp;omega)) ?_))
    intro v7 w7 Ga Ja
    have F7:Frp (MtX B) w1 w7:=(hf.trans (Frp.ofBelow ((Below.refl _ _).alloc (Nat.le_refl _) _) _)).trans (Frp.ofAppX ((zaa HR).alloc _) Ja)
    obtain⟨A2,Ta⟩:∃A2,A2=A1++[62]:=⟨_,rfl⟩
    rw [<-Ta]at Ga
    have eA:l++[60]++t.name++zal t.attrs++[62]=A2:=(zaa HA).trans Ta.symm
    obtain⟨x0,x1,x2,x3,x4⟩:=(l1.frp F7 (zav _ _ _)).five
    have Va:=hide Ga
    clear Ja Ga c3
    by_cases hv:zaL t.name=true
    ·have HE:=hide (show l++([60]++t.name++zal t.attrs++[62]++(if zaL t.name=true then [] else (t.kids.map (mkup n)).flatten++[60,47]++t.name++[62]))=A2 by rw [if_pos hv,<-eA];simp)
     have HV:=hide ((zcF _).1 hv)
     have Qa:=hide ((zaa HG).trans (zaa HE))
     clear hv Ta eA Ca HE HA HG
     go_wp2_with fail
     refine (ztE _ _ t.name (hb.lk (zaa HW _ F7)) (zaa HV)).mono ?_
     rintro e w8 ⟨rfl,rfl⟩
     obtain⟨a8,c8,xa,_,_⟩:=(zaa Va).byt.shape
     subst xa
     go_wp2_with fail
     go_ret
     exact⟨_,rfl,by rw [zaa Qa];exact zaa Va,F1.trans F7⟩
    ·have HE:=hide (show l++([60]++t.name++zal t.attrs++[62]++(if zaL t.name=true then [] else (t.kids.map (mkup n)).flatten++[60,47]++t.name++[62]))=A2++(t.kids.map (mkup n)).flatten++[60,47]++t.name++[62] by rw [if_neg hv,<-eA];simp)
     have HV:=hide (fun h=>hv ((zcF _).2 h))
     have Qa:=hide ((zaa HG).trans (zaa HE))
     have Jb:A2.length+(t.kids.map (mkup n)).flatten.length+3+t.name.length<=100000000:=by
      rw [if_neg hv]at Ca
      rw [<-eA]
      simp only [List.length_append,List.length_cons,List.length_nil]at Ca ⊢
      omega
     clear hv Ta eA Ca HE HA HG
     go_wp2_with fail
     refine (zwK _ _ t.name (hb.lk (zaa HW _ F7)) (zaa HV)).mono ?_
     rintro e w8 ⟨rfl,rfl⟩
     go_wp2_with fail
     go_loopw [0,6] (fun b i wr=>∃j:Nat,j<=t.kids.length∧i=.int .i64 j∧OwnX wr B b (A2++((t.kids.take j).map (mkup n)).flatten)∧Frp (MtX B) w1 wr) (fun _ i _=>t.kids.length-(intOf i).toNat)
     case atStart=>exact⟨0,Nat.zero_le _,rfl,by simpa using (zaa Va),F7⟩
     case round=>
      clear x0 x1 x2 x3 x4 Va F7 hf HR
      obtain⟨j,hj,rfl,hr,hf⟩:=hrel
      have Ya:B.b<=wr.heap.size:=Nat.le_trans Ba hf.size
      by_cases hjl:j<t.kids.length
      ·have Ka:=zeP (mkup n) t.kids j hjl
       have La:=zgI (mkup n) t.kids (j+1)
       obtain⟨pb,Aa,rfl,va,ga,_,hC⟩:=he.at hjl
       clear ga
       obtain⟨c0,c1,c2,c3,c4,e0,e1,e2,e3,e4,hx⟩:=zre hC
       have Pa:=zaa HW wr hf
       replace e0:=Pa.cell e0
       replace e1:=Pa.cell e1
       replace e2:=Pa.cell e2
       replace e3:=Pa.cell e3
       replace e4:=Pa.cell e4
       have x4:wr.cell? ⟨S,4,none⟩=some (.slice (some ⟨pb,Aa,none⟩) t.kids.length ce):=(l1.frp hf (zav _ _ _)).cell 4
       have ca:(j:Int)<(t.kids.length:Int):=by omega
       have ma:(A2++((t.kids.take j).map (mkup n)).flatten).length+(mkup n t.kids[j]).length<=100000000:=by
        rw [Ka]at La
        simp only [List.length_append]at La ⊢
        omega
       have Cb:=hide (show A2++((t.kids.take (j+1)).map (mkup n)).flatten=A2++((t.kids.take j).map (mkup n)).flatten++mkup n t.kids[j] by rw [Ka,List.append_assoc])
       generalize A2++((t.kids.take j).map (mkup n)).flatten=L at *
       have HR:=hide hr
       clear hr Ka La hC
       go_wp2_with fail
       refine (H w0 wr B _ L c0 c1 c2 c3 c4 t.kids[j] hx Pa h0 Ya (zaa HR) ma).mono ?_
       rintro e w9 ⟨v9,rfl,pa,F9⟩
       have ta:=hf.trans F9
       have HO:=hide (show OwnX w9 B v9 (A2++((t.kids.take (j+1)).map (mkup n)).flatten) by rw [zaa Cb];exact pa)
       clear pa e0 e1 e2 e3 e4 x4
       go_wp2_with fail
       go_roundw
       case rel=>exact⟨j+1,by omega,by go_num,zaa HO,ta⟩
       case measure=>simp [intOf];omega
      ·have da:j=t.kids.length:=by omega
       subst da
       rw [List.take_length]at hr
       have x4:wr.cell? ⟨S,4,none⟩=some (.slice ae t.kids.length ce):=(l1.frp hf (zav _ _ _)).cell 4
       have x1:wr.cell? ⟨S,1,none⟩=some (.slice ab t.name.length cb):=(l1.frp hf (zav _ _ _)).cell 1
       have ma:(A2++(t.kids.map (mkup n)).flatten).length+3+t.name.length<=100000000:=by rw [List.length_append];omega
       have na:=zaa Qa
       clear Qa
       generalize A2++(t.kids.map (mkup n)).flatten=L at *
       have Qa:=hide na
       clear na
       have HR:=hide hr
       clear hr he
       go_wp2_with fail
       have Fd:Frp (MtX B) w1 wr.drew:=hf.trans (Frp.ofBelow ((Below.refl _ _).drew) _)
       have xd:wr.drew.cell? ⟨S,1,none⟩=some (.slice ab t.name.length cb):=(l1.frp Fd (zav _ _ _)).cell 1
       have Fz:Frp (MtX B) w1 (wr.alloc (.cells #[.int .u8 62] 5)).drew:=hf.trans (Frp.ofBelow (((Below.refl _ _).alloc (Nat.le_refl _) _).drew) _)
       have z1:(wr.alloc (.cells #[.int .u8 62] 5)).drew.cell? ⟨S,1,none⟩=some (.slice ab t.name.length cb):=(l1.frp Fz (zav _ _ _)).cell 1
       have K4:Loc (wr.alloc (.cells #[.int .u8 62] 5)).drew wr.heap.size #[.int .u8 62] 5:=Loc.made wr _ _
       have sa:=zpc (zaa HR)
       have aa:B.b<=(wr.alloc (.cells #[.int .u8 62] 5)).drew.heap.size:=Nat.le_trans Ba Fz.size
       go_region_held3 (fun w'=>w'.cell? ⟨S,1,none⟩=some (.slice ab t.name.length cb))
        (first | assumption | simp [*])
        (first
         | (refine zeS rfl (.tmp 69) (.const (.string ⟨#[60,47]⟩)) rfl B _ L (by rfl) (zaa HR) ⟨#[60,47]⟩ [60,47] (by rfl) rfl zmk (by simp;omega) Ya ?_;intro v5 w5 Da Ma;have F5:Frp (MtX B) w1 w5:=Fd.trans (Frp.ofAppX (show OwnX wr.drew B _ L from zaa HR) Ma);have x1:w5.cell? ⟨S,1,none⟩=some (.slice ab t.name.length cb):=(l1.frp F5 (zav _ _ _)).cell 1;have Sa:Frp (MtX B) w1 (w5.alloc (.cells #[.int .u8 62] 5)):=F5.trans (Frp.ofBelow (((Below.refl _ _).alloc (Nat.le_refl _) _)) _);have z1:(w5.alloc (.cells #[.int .u8 62] 5)).cell? ⟨S,1,none⟩=some (.slice ab t.name.length cb):=(l1.frp Sa (zav _ _ _)).cell 1)
         | (refine zeS rfl (.tmp 69) (.const (.string ⟨#[60,47]⟩)) rfl B _ L (by rfl) ((zaa HR).alloc _) ⟨#[60,47]⟩ [60,47] (by rfl) rfl zmk (by simp;omega) aa ?_;intro v5 w5 Da Ma;have F5:Frp (MtX B) w1 w5:=Fz.trans (Frp.ofAppX ((zaa HR).alloc _) Ma);have x1:w5.cell? ⟨S,1,none⟩=some (.slice ab t.name.length cb):=(l1.frp F5 (zav _ _ _)).cell 1;have K5:=ziq K4 Ma sa)
         | (refine zbR rfl (.tmp 70) (.tmp 72) rfl B _ (L++[60,47]) (by rfl) Da _ t.name (by rfl) (hb.lk (zaa HW _ F5)) (by simp;omega) (Nat.le_trans Ba F5.size) ?_;intro v6 w6 Ia Ha;have F6:Frp (MtX B) w1 w6:=F5.trans (Frp.ofAppX Da Ha);have x1:w6.cell? ⟨S,1,none⟩=some (.slice ab t.name.length cb):=(l1.frp F6 (zav _ _ _)).cell 1;have K6:=ziq K5 Ha (zvU Da (by simp) K5))
         | (refine zbR rfl (.tmp 70) (.tmp 72) rfl B _ (L++[60,47]) (by rfl) Da _ t.name (by rfl) (hb.lk (zaa HW _ F5)) (by simp;omega) (Nat.le_trans Ba F5.size) ?_;intro v6 w6 Ia Ha;have F6:Frp (MtX B) w1 w6:=F5.trans (Frp.ofAppX Da Ha);have x1:w6.cell? ⟨S,1,none⟩=some (.slice ab t.name.length cb):=(l1.frp F6 (zav _ _ _)).cell 1;have z1:(w6.alloc (.cells #[.int .u8 62] 5)).cell? ⟨S,1,none⟩=some (.slice ab t.name.length cb):=((l1.frp F6 (zav _ _ _)).alloc _).cell 1)
         | (refine zbR rfl (.tmp 70) (.tmp 72) rfl B _ (L++[60,47]) (by rfl) (Da.alloc _) _ t.name (by rfl) (hb.lk (zaa HW _ Sa)) (by simp;omega) (Nat.le_trans Ba Sa.size) ?_;intro v6 w6 Ia Ha;have F6:Frp (MtX B) w1 w6:=Sa.trans (Frp.ofAppX (Da.alloc _) Ha);have x1:w6.cell? ⟨S,1,none⟩=some (.slice ab t.name.length cb):=(l1.frp F6 (zav _ _ _)).cell 1;have K6:=ziq (Loc.made w5 #[.int .u8 62] 5) Ha (zpc Da))
         | (refine zbR rfl (.tmp 73) (.tmp 74) rfl B _ (L++[60,47]++t.name) (by rfl) Ia _ [62] (by rfl) (zyY K6 (by omega) (by omega)) (by simp;omega) (Nat.le_trans Ba F6.size) ?_;intro v7 w7 Ga Ja;have F7:Frp (MtX B) w1 w7:=F6.trans (Frp.ofAppX Ia Ja);have x1:w7.cell? ⟨S,1,none⟩=some (.slice ab t.name.length cb):=(l1.frp F7 (zav _ _ _)).cell 1)
         | (refine zbR rfl (.tmp 73) (.tmp 74) rfl B _ (L++[60,47]++t.name) (by rfl) (Ia.alloc _) _ [62] (by rfl) (zbv w6 62 (by omega) (by omega)) (by simp;omega) (by have:=Nat.le_trans Ba F6.size;simp;omega) ?_;intro v7 w7 Ga Ja;have F7:Frp (MtX B) w1 w7:=(F6.trans (Frp.ofBelow (((Below.refl w6.heap.size w6).alloc (Nat.le_refl _) _)) _)).trans (Frp.ofAppX (Ia.alloc _) Ja);have x1:w7.cell? ⟨S,1,none⟩=some (.slice ab t.name.length cb):=(l1.frp F7 (zav _ _ _)).cell 1))
       all_goals
        rw [<-zaa Qa]at Ga
        obtain⟨a7,c7,za,_,_⟩:=Ga.byt.shape
        subst za
        go_wp2_with fail
        go_ret
        exact⟨_,rfl,Ga,F1.trans F7⟩
theorem zri:∀n,zlN n
 | 0=>fun w0 w B v l a b c d e t Aa=>absurd Aa (by unfold RdNode;exact id)
 | n+1=>zwU n (zri n)
def RowM (w:Xg) (base:Nat) (v:Xh) (l:Xc):Prop:=
 okB l∧((v=.slice none 0 0∧l=[])∨
  ∃g cap cur fz,v=.slice (some ⟨g,0,none⟩) l.length cap∧base<=g∧w.heap[g]? = some (.cells cur 5 fz)∧(∀j,j<cap->¬ (fz.1<=j∧j<fz.2))∧l.length<=cap∧cap<=maxLen∧cur.size=cap∧cur.toList.take l.length=vals l)
theorem zdY (w:Xg) (base:Nat):RowM w base (.slice none 0 0) []:=⟨zaE,.inl ⟨rfl,rfl⟩⟩
theorem Own.rowm {w:Xg} {base:Nat} {v:Xh} {l:Xc} (h:Own w base v l):RowM w base v l:=by
 refine⟨h.1,?_⟩
 rcases h.2.2 with ⟨e,hz⟩ | ⟨g,Ba,Aa,e,hb,hg,h1,h2,h3,h4⟩
 ·exact .inl ⟨e,List.eq_nil_of_length_eq_zero hz⟩
 ·exact .inr ⟨g,Ba,Aa,(0,0),e,hb,hg,fun j _ hj=>by simp at hj,h1,h2,by simpa using h3,by simpa using h4⟩
theorem RowM.lt {w:Xg} {base:Nat} {v:Xh} {l:Xc} (h:RowM w base v l):∀k,v.ownBlock=some k->base<=k∧k<w.heap.size:=by
 intro k hk
 rcases h.2 with ⟨rfl,_⟩ | ⟨g,Ba,Aa,fz,rfl,hb,hg,_⟩
 ·simp [Value.ownBlock]at hk
 ·simp [Value.ownBlock]at hk
  subst hk
  exact⟨hb,(Array.getElem?_eq_some_iff.1 hg).1⟩
theorem RowM.mono {w:Xg} {base base':Nat} {v:Xh} {l:Xc} (h:RowM w base v l) (hb:base'<=base):RowM w base' v l:=by
 refine⟨h.1,?_⟩
 rcases h.2 with h' | ⟨g,cap,cur,fz,e,h1,h2⟩
 ·exact .inl h'
 ·exact .inr ⟨g,cap,cur,fz,e,by omega,h2⟩
theorem RowM.frm {w w':Xg} {base:Nat} {v:Xh} {l:Xc} {S:Xd} (h:RowM w base v l) (f:Frm w w' S) (hd:∀g∈FB v,g∉S):RowM w' base v l:=by
 refine⟨h.1,?_⟩
 rcases h.2 with h' | ⟨g,cap,cur,fz,rfl,h1,hg,h2⟩
 ·exact .inl h'
 ·have Aa:g<w.heap.size:=(Array.getElem?_eq_some_iff.1 hg).1
  exact .inr ⟨g,cap,cur,fz,rfl,h1,(f.block g Aa (hd g (by simp [FB,Value.ownBlock]))).trans hg,h2⟩
theorem RowM.keep {w w':Xg} {base:Nat} {v:Xh} {l:Xc} (h:RowM w base v l) (hB:Below w.heap.size w w'):RowM w' base v l:=h.frm (Frm.ofBelow hB []) (fun _ _=>by simp)
theorem RowM.keepBy {w w':Xg} {base:Nat} {v:Xh} {l:Xc} {row:Option Nat} (h:RowM w base v l) (hg:w.grownBy w' row) (hne:∀g,v.ownBlock=some g->row≠some g):RowM w' base v l:=
 h.frm (Frm.ofGrown hg) (fun g Aa hm=>hne g (by simpa [FB]using Aa) (by simpa using hm))
theorem RowM.shape {w:Xg} {base:Nat} {v:Xh} {l:Xc} (h:RowM w base v l):∃a c,v=.slice a l.length c:=by
 rcases h.2 with ⟨rfl,rfl⟩ | ⟨g,Ba,Aa,fz,rfl,_⟩
 ·exact⟨none,0,rfl⟩
 ·exact⟨_,_,rfl⟩
theorem zrg {xs:Xf} {m:Nat} {ys:Xf} (h:xs.take m=ys) {i:Nat} (hi:i<m):xs[i]? = ys[i]? :=by
 rw [<-h,List.getElem?_take,if_pos hi]
theorem RowM.byt {w:Xg} {base:Nat} {v:Xh} {l:Xc} (h:RowM w base v l):Byt w v l:=by
 rcases h.2 with ⟨rfl,rfl⟩ | ⟨g,Aa,Ba,fz,rfl,hb,hg,hf,h1,h2,h3,h4⟩
 ·exact⟨h.1,by simp [maxLen],.inl ⟨rfl,rfl⟩⟩
 ·refine⟨h.1,by omega,?_⟩
  by_cases h0:l=[]
  ·subst h0
   exact .inr (.inl ⟨_,Aa,rfl,h2,rfl⟩)
  ·refine .inr (.inr ⟨g,0,Aa,rfl,h1,h2,h0,(Array.getElem?_eq_some_iff.1 hg).1,fun i hi=> ?_⟩)
   rw [Nat.zero_add,cell_of_row w g i Ba _ fz hg]
   have:=zrg h4 hi
   rw [zdz hi]at this
   simpa using this
def strL (s:ByteArray):Xc:=s.data.toList.map (fun b=>(b.toNat:Int))
theorem ziA (s:ByteArray):okB (strL s):=by
 intro x hx
 obtain⟨b,_,rfl⟩:=List.mem_map.1 hx
 have:=b.toNat_lt
 exact⟨by omega,by omega⟩
theorem zax (s:ByteArray):(strL s).length=s.size:=by simp [strL]
theorem zjX (w:Xg) (s:ByteArray) (hs:s.size<=1000):∃w' cap,(convert 9 22 (.string s)).run Tryz.prog w=.ok (.slice (some ⟨w.heap.size,0,none⟩) s.size cap) w'∧RowM w' w.heap.size (.slice (some ⟨w.heap.size,0,none⟩) s.size cap) (strL s)∧Below w.heap.size w w':=by
 refine⟨_,_,run_bytes_of_string w 9 22 5 s Tryz.underlying9 Tryz.underlying22 Tryz.underlying5,?_,?_⟩
 ·have Ca:=grownCap_ge w s.size 0 5
  have Ba:=grownCap_le_maxLen w s.size 0 5 (by unfold maxLen;omega)
  generalize grownCap w s.size 0 5=cap at *
  have Aa:(bytesRow s cap).size=cap:=by simp [bytesRow];omega
  refine⟨ziA s,.inr ⟨w.heap.size,cap,bytesRow s cap,_,by rw [zax],Nat.le_refl _,heap_alloc_new w.drew _,fun j hj hh=>by simp only [Aa]at hh;omega,by rw [zax];omega,Ba,Aa,?_⟩⟩
  rw [zax]
  simp [bytesRow,vals,strL]
 ·exact ((Below.refl w.heap.size w).drew).alloc (by simp) _
def OwAttrM (w:Xg) (C:Xf) (x:Xc×Xc) (F:Xd):Prop:=∃a b,C=[a,b]∧RowM w 0 a x.1∧RowM w 0 b x.2∧F=FB a++FB b
def OwAttrsM (w:Xg) (v:Xh) (l:List (Xc×Xc)) (F:Xd):Prop:=OwElems w 132 2 v l (OwAttrM w) F
def OwNodeM:(n:Nat)->Xg->Xf->Tr n->Xd->Prop
 | 0=>fun _ _ _ _=>False
 | n+1=>fun w C t F=>∃a b c d Fc Fd,C=[.int .i64 t.kind,a,b,c,d]∧-9223372036854775808<=t.kind∧t.kind<=9223372036854775807∧RowM w 0 a t.name∧RowM w 0 b t.text∧
   OwAttrsM w c t.attrs Fc∧OwElems w 29 5 d t.kids (OwNodeM n w) Fd∧F=FB a++FB b++Fc++Fd
def OwKidsM (n:Nat) (w:Xg) (v:Xh) (l:List (Tr n)) (F:Xd):Prop:=OwElems w 29 5 v l (OwNodeM n w) F
theorem OwAttrsM.frm {w w':Xg} {v:Xh} {l:List (Xc×Xc)} {F S:Xd} (h:OwAttrsM w v l F) (f:Frm w w' S) (hd:∀g∈F,g∉S):OwAttrsM w' v l F:=
 OwElems.frm h f hd (fun C x G ⟨a,b,e,h1,h2,h3⟩ hG=>by
  subst h3
  exact⟨a,b,e,h1.frm f (fun g hg=>hG g (by simp [hg])),h2.frm f (fun g hg=>hG g (by simp [hg])),rfl⟩)
theorem OwNodeM.frm {n:Nat} {w w':Xg} {C:Xf} {t:Tr n} {F S:Xd} (h:OwNodeM n w C t F) (f:Frm w w' S) (hd:∀g∈F,g∉S):OwNodeM n w' C t F:=by
 induction n generalizing C F with
 | zero=>exact h
 | succ n ih=>
  obtain⟨a,b,c,d,Fc,Fd,e,k1,k2,h1,h2,h3,h4,rfl⟩:=h
  exact⟨a,b,c,d,Fc,Fd,e,k1,k2,h1.frm f (fun g hg=>hd g (by simp [hg])),h2.frm f (fun g hg=>hd g (by simp [hg])),h3.frm f (fun g hg=>hd g (by simp [hg])),
   OwElems.frm h4 f (fun g hg=>hd g (by simp [hg])) (fun C x G hr hG=>ih hr hG),rfl⟩
theorem OwNodeM.keep {n:Nat} {w w':Xg} {C:Xf} {t:Tr n} {F:Xd} (h:OwNodeM n w C t F) (hb:Below w.heap.size w w'):OwNodeM n w' C t F:=h.frm (Frm.ofBelow hb []) (fun _ _=>by simp)
theorem OwKidsM.frm {n:Nat} {w w':Xg} {v:Xh} {l:List (Tr n)} {F S:Xd} (h:OwKidsM n w v l F) (f:Frm w w' S) (hd:∀g∈F,g∉S):OwKidsM n w' v l F:=OwElems.frm h f hd (fun C x G hr hG=>OwNodeM.frm hr f hG)
theorem OwAttrsM.rd {w:Xg} {v:Xh} {l:List (Xc×Xc)} {F:Xd} (h:OwAttrsM w v l F):RdAttrs w v l:=OwElems.rd h (OwElems.len h) (fun C x G ⟨a,b,e,h1,h2,_⟩=>⟨a,b,e,h1.byt,h2.byt⟩)
theorem OwNodeM.rd {n:Nat} {w:Xg} {C:Xf} {t:Tr n} {F:Xd} (h:OwNodeM n w C t F):RdNode n w C t:=by
 induction n generalizing C F with
 | zero=>exact h
 | succ n ih=>
  obtain⟨a,b,c,d,Fc,Fd,e,k1,k2,h1,h2,h3,h4,rfl⟩:=h
  exact⟨a,b,c,d,e,k1,k2,h1.byt,h2.byt,h3.rd,OwElems.rd h4 (OwElems.len h4) (fun C x G hr=>ih hr)⟩
theorem OwAttrsM.nil (w:Xg):OwAttrsM w (.slice none 0 0) [] []:=⟨[],[],rfl,rfl,fun i hi=>by simp at hi,⟨by simp,.inl ⟨rfl,rfl⟩⟩,rfl⟩
theorem OwKidsM.nil (n:Nat) (w:Xg):OwKidsM n w (.slice none 0 0) [] []:=⟨[],[],rfl,rfl,fun i hi=>by simp at hi,⟨by simp,.inl ⟨rfl,rfl⟩⟩,rfl⟩
theorem OwElems.push {α:Type} {R:Xg->Xf->α->Xd->Prop} (hRf:∀{w w':Xg} {S:Xd} {C:Xf} {x:α} {G:Xd},R w C x G->Frm w w' S->(∀g∈G,g∉S)->R w' C x G)
  {w w':Xg} {e:Xi} {size:Nat} {v:Xh} {l:List α} {Cs:List (Xf)} {Fs:List (Xd)} {C:Xf} {y:α} {G:Xd} {g cap:Nat}
  (h1:Cs.length=l.length) (h2:Fs.length=l.length) (h3:∀i (hi:i<l.length),(Cs.getD i []).length=size∧R w (Cs.getD i []) l[i] (Fs.getD i []))
  (hN:(FB v++Fs.flatten).Nodup) (hC:C.length=size) (hy:R w C y G) (hGN:G.Nodup) (hFG:∀g∈FB v++Fs.flatten,g∉G) (hlt:∀q,q∈FB v++Fs.flatten∨q∈G->q<w.heap.size)
  (k1:w'.ownsRow 0 e size (.slice (some ⟨g,0,none⟩) (l.length+1) cap) (l.length+1) (Cs.flatten++C)) (k2:w.grownBy w' v.ownBlock) (k3:v.ownBlock=some g∨g=w.heap.size) :
  OwElems w' e size (.slice (some ⟨g,0,none⟩) (l.length+1) cap) (l++[y]) (R w') (g::(Fs.flatten++G))∧(g::(Fs.flatten++G)).Nodup∧(∀q∈g::(Fs.flatten++G),q∈FB v++Fs.flatten∨q∈G∨q=w.heap.size):=by
 have Ba:∀q∈Fs.flatten,q∉v.ownBlock.toList:=fun q hq hv=>(List.nodup_append.1 hN).2.2 q (by simpa [FB]using hv) q hq rfl
 have Aa:∀q∈G,q∉v.ownBlock.toList:=fun q hq hv=>hFG q (List.mem_append_left _ (by simpa [FB]using hv)) hq
 have hf:=Frm.ofGrown k2
 refine⟨⟨Cs++[C],Fs++[G],by simp [h1],by simp [h2],fun i hi=> ?_,?_,?_⟩,?_,?_⟩
 ·by_cases hil:i<l.length
  ·have a:=h3 i hil
   have e1:(Cs++[C]).getD i []=Cs.getD i []:=by rw [List.getD_eq_getElem?_getD,List.getD_eq_getElem?_getD,List.getElem?_append_left (by omega)]
   have e2:(Fs++[G]).getD i []=Fs.getD i []:=by rw [List.getD_eq_getElem?_getD,List.getD_eq_getElem?_getD,List.getElem?_append_left (by omega)]
   rw [e1,e2,List.getElem_append_left hil]
   exact⟨a.1,hRf a.2 hf (fun q hq=>Ba q (zaO hq))⟩
  ·have e0:i=l.length:=by simp at hi;omega
   subst e0
   have e1:(Cs++[C]).getD l.length []=C:=by rw [<-h1];simp
   have e2:(Fs++[G]).getD l.length []=G:=by rw [<-h2];simp
   rw [e1,e2]
   simp only [List.getElem_concat_length]
   exact⟨hC,hRf hy hf Aa⟩
 ·simp only [List.length_append,List.length_cons,List.length_nil,List.flatten_append,List.flatten_cons,List.flatten_nil,List.append_nil]
  exact k1
 ·simp [FB,Value.ownBlock]
 ·rw [List.nodup_cons]
  refine⟨fun hq=> ?_,List.nodup_append.2 ⟨(List.nodup_append.1 hN).2.1,hGN,fun a ha b hb Ca=>hFG a (List.mem_append_right _ ha) (Ca ▸ hb)⟩⟩
  rcases List.mem_append.1 hq with hq | hq
  ·rcases k3 with k3 | k3
   ·exact Ba g hq (by simp [k3])
   ·have:=hlt g (.inl (List.mem_append_right _ hq));omega
  ·rcases k3 with k3 | k3
   ·exact Aa g hq (by simp [k3])
   ·have:=hlt g (.inr hq);omega
 ·intro q hq
  rcases List.mem_cons.1 hq with rfl | hq
  ·rcases k3 with k3 | k3
   ·exact .inl (List.mem_append_left _ (by simp [FB,k3]))
   ·exact .inr (.inr k3)
  ·rcases List.mem_append.1 hq with hq | hq
   ·exact .inl (List.mem_append_right _ hq)
   ·exact .inr (.inl hq)
theorem zhD {α:Type} {R:Xg->Xf->α->Xd->Prop} (hRf:∀{w w':Xg} {S:Xd} {C:Xf} {x:α} {G:Xd},R w C x G->Frm w w' S->(∀g∈G,g∉S)->R w' C x G)
  {w:Xg} {ops:Array Oper} {o:Oper} {a:Act} {K:Act->Xg->Prop} {Q:Exit->Act->Xg->Prop} {E:Prop} (hgd:o.guard=none) (s x:Operand) (t:Xi)
  (ho:o.op=.call { callee:=.builtin .append,args:= #[s,x],argTypes:= #[t,t] })
  (e:Xi) (i:TypeInfo) (z:Xh) (size bytes:Nat) (ht:Tryz.prog.underlying t=some (.slice e)) (hi:Tryz.prog.info? e=some i) (hz:i.zero=some z)
  (hsize:i.size=size) (hby:i.bytes=bytes) (hzs:z.cells.size=size) (hsz:0<size)
  (v:Xh) (l:List α) (F:Xd) (hs:a.eval s=v) (h:OwElems w e size v l (R w) F) (hN:F.Nodup)
  (ad:Addr) (c:Nat) (C:Xf) (y:α) (G:Xd) (hx:a.eval x=.slice (some ad) 1 c) (hC:C.length=size) (hcell:∀j u,C[j]? = some u->w.cell? (ad.add j)=some u) (h1:∀u∈C,u.oneCell'=true)
  (hy:R w C y G) (hGN:G.Nodup) (hFG:∀g∈F,g∉G) (hlt:∀q,q∈F∨q∈G->q<w.heap.size) (h63:l.length+1<=maxLen) (hbytes:(l.length+1)*bytes<=140737488355328)
  (hK:∀g cap w' F',OwElems w' e size (.slice (some ⟨g,0,none⟩) (l.length+1) cap) (l++[y]) (R w') F'->F'.Nodup->(∀q∈F',q∈F∨q∈G∨q=w.heap.size)->Frm w w' (FB v)->g<w'.heap.size->K (a.put o.dst (.slice (some ⟨g,0,none⟩) (l.length+1) cap)) w'):if Region.wanted o (yielded ops a.tmps)=true then Oper.wp Tryz.prog o a w K Q else E:=by
 obtain⟨Cs,Fs,e1,e2,e3,e4,rfl⟩:=h
 refine step_append_lies w hgd s x t ho 0 e i z size bytes ht hi hz hsize hby hzs hsz v l.length Cs.flatten hs e4 ad 1 c C hx (by omega) hcell h1 (by omega) h63 hbytes (Nat.zero_le _) w.heap.size rfl ?_
 intro g cap w' k1 k2 k3 k4
 obtain⟨m1,m2,m3⟩:=OwElems.push (R:=R) hRf e1 e2 e3 hN hC hy hGN hFG hlt k1 k2 k3
 exact hK g cap w' _ m1 m2 m3 (Frm.ofGrown k2) k4
theorem zgL (n:Int):bits .and .i64 n 255=n % 256:=by
 have Aa:(BitVec.ofInt 64 255).toNat=2 ^ 8-1:=by decide
 have Ba:(BitVec.ofInt 64 n &&& BitVec.ofInt 64 255).toNat=(n % ((2 ^ 64:Nat):Int)).toNat % 2 ^ 8:=by
  rw [BitVec.toNat_and,BitVec.toNat_ofInt,Aa,Nat.and_two_pow_sub_one_eq_mod]
 show IntKind.i64.wrap ((BitVec.ofInt 64 n &&& BitVec.ofInt 64 255).toNat:Nat)=n % 256
 rw [Ba,IntKind.wrap_i64]
 omega
structure Cur (w0 w:Xg) (g:Nat) (code:Xh) (l:Xc):Prop where
 bytes:Byt w0 code l
 below:Below w0.heap.size w0 w
 new:w0.heap.size<=g
 cells:∃(i:Nat) (h:Int),i<=l.length∧w.heap[g]? = some (.cells #[code,.int .i64 i,.int .i64 h] 123 (0,0))
theorem Cur.lt {w0 w:Xg} {g:Nat} {code:Xh} {l:Xc} (h:Cur w0 w g code l):g<w.heap.size:=by
 obtain⟨i,x,_,hg⟩:=h.cells
 by_cases hlt:g<w.heap.size
 ·exact hlt
 ·rw [Array.getElem?_eq_none (by omega)]at hg;cases hg
theorem Cur.keep {w0 w w':Xg} {g:Nat} {code:Xh} {l:Xc} {row:Option Nat} (h:Cur w0 w g code l) (hg:w.grownBy w' row) (hne:some g≠row) (hr:∀k,row=some k->w0.heap.size<=k):Cur w0 w' g code l:=by
 refine⟨h.bytes,h.below.grown hg h.below.size hr,h.new,?_⟩
 obtain⟨i,x,hi,hc⟩:=h.cells
 exact⟨i,x,hi,(hg.block g h.lt hne).trans hc⟩
theorem Cur.keepAll {w0 w w':Xg} {g:Nat} {code:Xh} {l:Xc} (h:Cur w0 w g code l) (hB:Below w.heap.size w w'):Cur w0 w' g code l:=
 h.keep (Below.toGrown hB none) (by simp) (fun k hk=>by cases hk)
theorem zdq (w:Xg) (g j:Nat) (v:Xh):w.grownBy (w.setCell ⟨g,j,none⟩ v) (some g):=
 ⟨rfl,rfl,rfl,by simp,fun k _ hk=>heap_setCell_other w ⟨g,j,none⟩ k v (fun e=>hk (by simp [e]))⟩
theorem zjk {a b:Xg} {row:Option Nat} (h:a.grownBy b row) (n:Nat):a.grownBy (b.drewN n) row:=⟨h.os,h.tape,h.output,h.size,h.block⟩
theorem zsj {a b:Xg} {row:Option Nat} (h:a.grownBy b row):a.grownBy b.drew row:=⟨h.os,h.tape,h.output,h.size,h.block⟩
theorem Cur.turn {w0 w w':Xg} {g:Nat} {code:Xh} {l:Xc} (h:Cur w0 w g code l) (hw:w.grownBy w' (some g)) (i:Nat) (x:Int) (hi:i<=l.length)
  (hc:w'.heap[g]? = some (.cells #[code,.int .i64 i,.int .i64 x] 123 (0,0))):Cur w0 w' g code l:=
 ⟨h.bytes,h.below.grown hw h.below.size (fun k hk=>by cases hk;exact h.new),h.new,i,x,hi,hc⟩
set_option maxHeartbeats 1600000 in
set_option maxRecDepth 1000000 in
theorem zbN (w0 w:Xg) (g:Nat) (code:Xh) (l:Xc) (h:Cur w0 w g code l) :
  Calls Tryz.prog 70 #[.pointer (some ⟨g,0,none⟩)] w fun e w'=>∃x:Int,0<=x∧x<=255∧e=.returned (.int .i64 x)∧Cur w0 w' g code l∧w.grownBy w' (some g):=by
 obtain⟨i,x,hi,hg⟩:=h.cells
 have c0:w.cell? ⟨g,0,none⟩=some code:=by rw [cell_of_row w g 0 _ _ _ hg];rfl
 have c1:w.cell? ⟨g,1,none⟩=some (.int .i64 i):=by rw [cell_of_row w g 1 _ _ _ hg];rfl
 have c2:w.cell? ⟨g,2,none⟩=some (.int .i64 x):=by rw [cell_of_row w g 2 _ _ _ hg];rfl
 have f1:w.frozen? ⟨g,1,none⟩=false:=frozen_of_row w g 1 _ _ hg
 have f2:w.frozen? ⟨g,2,none⟩=false:=frozen_of_row w g 2 _ _ hg
 by_cases hlt:i<l.length
 ·obtain⟨Fa,hm,⟨rfl,rfl⟩ | ⟨y,Ba,rfl,hc,rfl⟩ | ⟨b,Aa,Ba,rfl,h1,h2,h3,h4,h5⟩⟩:=h.bytes
  ·simp at hlt
  ·simp at hlt
  obtain⟨c,hc⟩:∃c,c=l.getD i 0:=⟨_,rfl⟩
  have Ka:w.cell? ⟨b,Aa+i,none⟩=some (.int .u8 c):=by rw [hc];exact (h.below.cell (p:=⟨b,Aa+i,none⟩) h4).trans (h5 i hlt)
  have Ca:0<=c∧c<=255:=by rw [hc,List.getD_eq_getElem?_getD];exact Fa.at _
  have Ia:b≠g:=by have:=h.new;omega
  have Ga:(i:Int)<(l.length:Int):=by omega
  unfold maxLen at hm h2
  clear hc h5
  have HG:=hide hg
  have HH:=hide h
  clear hg h
  obtain⟨Da,Ha⟩:=Ca
  go_enter Tryz.func70,Tryz.ntmps70
  go_wp2
  generalize wrap64 (wrap64 (x*6364136223846793005)+1442695040888963407)=y
  go_quiet (fail)
  go_wp2
  go_quiet (fail)
  go_wp2
  rw [zgL]
  generalize bits BinOp.xor IntKind.i64 (y / 8589934592) (y / 35184372088832)=z
  go_quiet (fail)
  go_wp2
  rw [zgL]
  go_ret
  refine⟨(z % 256+c) % 256,by omega,by omega,rfl,(zaa HH).turn ?hw (i+1) y (by omega) ?hc,?hw⟩
  case hw=>repeat (first | exact zdq _ _ _ _ | refine zjk ?_ _ | refine zam ?_ (zdq _ _ _ _))
  case hc=>
   rw [show ((i+1:Nat):Int)=(i:Int)+1 by omega]
   exact heap_setCell_same _ g 1 _ _ _ (heap_setCell_same w g 2 _ _ _ (zaa HG))
 ·obtain⟨a,Ba,rfl,La,Ja⟩:=h.bytes.shape
  have hm:=h.bytes.2.1
  unfold maxLen at hm
  have Ga:¬ (i:Int)<(l.length:Int):=by omega
  have HG:=hide hg
  have HH:=hide h
  clear hg h
  go_enter Tryz.func70,Tryz.ntmps70
  go_wp2
  generalize wrap64 (wrap64 (x*6364136223846793005)+1442695040888963407)=y
  go_quiet (fail)
  go_wp2
  go_quiet (fail)
  go_wp2
  rw [zgL]
  generalize bits BinOp.xor IntKind.i64 (y / 8589934592) (y / 35184372088832)=z
  go_ret
  refine⟨z % 256,by omega,by omega,rfl,(zaa HH).turn ?hw i y hi ?hc,?hw⟩
  case hw=>repeat (first | exact zdq _ _ _ _ | refine zjk ?_ _ | refine zam ?_ (zdq _ _ _ _))
  case hc=>exact heap_setCell_same w g 2 _ _ _ (zaa HG)
theorem zky {x n:Int} (hx0:0<=x) (hn:1<=n):0<=x % n∧x % n<n:=⟨Int.emod_nonneg _ (by omega),Int.emod_lt_of_pos _ (by omega)⟩
set_option maxHeartbeats 1600000 in
theorem zaY (w0 w:Xg) (g:Nat) (code:Xh) (l:Xc) (n:Int) (h:Cur w0 w g code l) (hn:1<=n) (hn1:n<=1000000000) :
  Calls Tryz.prog 52 #[.pointer (some ⟨g,0,none⟩),.int .i64 n] w fun e w'=>∃x:Int,0<=x∧x<n∧e=.returned (.int .i64 x)∧Cur w0 w' g code l∧w.grownBy w' (some g):=by
 by_cases h256:n<=256
 ·go_enter Tryz.func52,Tryz.ntmps52
  go_wp2_with fail
  refine (zbN w0 w g code l h).mono ?_
  rintro e w1 ⟨x,Fa,Ka,rfl,hC,hG⟩
  have hb:=zky Fa hn
  have HB:=hide hb
  clear hb
  go_wp2
  go_ret
  exact⟨_,(zaa HB).1,(zaa HB).2,rfl,hC,hG⟩
 ·go_enter Tryz.func52,Tryz.ntmps52
  go_wp2_with fail
  refine (zbN w0 w g code l h).mono ?_
  rintro e w1 ⟨x1,Fa,Ka,rfl,Ia,Ha⟩
  go_wp2_with fail
  refine (zbN w0 w1 g code l Ia).mono ?_
  rintro e w2 ⟨x2,Qa,Ma,rfl,Ca,Da⟩
  go_wp2_with fail
  refine (zbN w0 w2 g code l Ca).mono ?_
  rintro e w3 ⟨x3,Na,Pa,rfl,Ga,Aa⟩
  go_wp2_with fail
  refine (zbN w0 w3 g code l Ga).mono ?_
  rintro e w4 ⟨x4,Oa,La,rfl,Ja,Ba⟩
  have hb:=zky (x:=x1*16777216+x2*65536+x3*256+x4) (by omega) hn
  have HB:=hide hb
  have HG:=hide (zam (zam (zam Ha Da) Aa) Ba)
  clear hb Ha Da Aa Ba Ia Ca Ga
  go_wp2
  go_ret
  exact⟨_,(zaa HB).1,(zaa HB).2,rfl,Ja,zaa HG⟩
set_option maxHeartbeats 1600000 in
theorem zdS (w0 w:Xg) (g:Nat) (code:Xh) (l:Xc) (n:Int) (h:Cur w0 w g code l) (hn:1<=n) (hn1:n<=1000000000) :
  Calls Tryz.prog 54 #[.pointer (some ⟨g,0,none⟩),.int .i64 n] w fun e w'=>∃b:Bool,e=.returned (.bool b)∧Cur w0 w' g code l∧w.grownBy w' (some g):=by
 go_enter Tryz.func54,Tryz.ntmps54
 go_wp2_with fail
 refine (zaY w0 w g code l n h hn hn1).mono ?_
 rintro e w1 ⟨x,Aa,Ba,rfl,hC,hG⟩
 go_wp2
 go_ret
 exact⟨_,rfl,hC,hG⟩
theorem Cur.made (w:Xg) (code:Xh) (l:Xc) (x:Int) (h:Byt w code l):Cur w (w.alloc (.cells #[code,.int .i64 0,.int .i64 x] 123)) w.heap.size code l:=
 ⟨h,(Below.refl _ _).alloc (Nat.le_refl _) _,Nat.le_refl _,0,x,Nat.zero_le _,heap_alloc_new w _⟩
set_option maxHeartbeats 1600000 in
theorem zui (w:Xg) (code:Xh) (l:Xc) (h:Byt w code l) :
  Calls Tryz.prog 26 #[code] w fun e w'=>e=.returned (.pointer (some ⟨w.heap.size,0,none⟩))∧Cur w w' w.heap.size code l∧Below w.heap.size w w':=by
 have hm:=h.2.1
 unfold maxLen at hm
 by_cases h0:l=[]
 ·obtain⟨a,Da,rfl,_⟩:=h.shape
  subst h0
  go_enter Tryz.func26,Tryz.ntmps26
  go_wp2
  refine wp_loop_rounds 1 ?_
  rw [rounds_succ]
  go_wp2
  go_ret
  exact⟨rfl,Cur.made _ _ _ _ h,(Below.refl _ _).alloc (Nat.le_refl _) _⟩
 ·have h':=h
  obtain⟨Ia,_,⟨rfl,rfl⟩ | ⟨x,Da,rfl,hc,rfl⟩ | ⟨b,Ga,Da,rfl,h1,h2,h3,h4,h5⟩⟩:=h'
  ·exact absurd rfl h0
  ·exact absurd rfl h0
  go_enter Tryz.func26,Tryz.ntmps26
  go_wp2
  go_loop [3,4] (fun x i=>∃(k:Nat) (y:Int),k<=l.length∧i=.int .i64 k∧x=.int .i64 y) (fun _ i=>l.length-(intOf i).toNat)
  case atStart=>exact⟨0,_,Nat.zero_le _,rfl,rfl⟩
  case round=>
   obtain⟨k,y,hk,rfl,rfl⟩:=hrel
   by_cases hlt:k<l.length
   ·obtain⟨c,Ca⟩:∃c,c=l.getD k 0:=⟨_,rfl⟩
    have Ka:w.cell? ⟨b,Ga+k,none⟩=some (.int .u8 c):=by rw [Ca];exact h5 k hlt
    have Fa:0<=c∧c<=255:=by rw [Ca,List.getD_eq_getElem?_getD];exact Ia.at _
    have Ba:(k:Int)<(l.length:Int):=by omega
    obtain⟨Ha,Ja⟩:=Fa
    clear h5 Ca
    by_cases h4k:k<4000
    ·have Aa:(k:Int)<4000:=by omega
     go_wp2
     go_round
     case rel=>exact⟨k+1,_,by omega,by go_num,rfl⟩
     case measure=>simp [intOf];omega
    ·have Aa:¬ (k:Int)<4000:=by omega
     go_wp2
     go_ret
     exact⟨rfl,Cur.made _ _ _ _ h,(Below.refl _ _).alloc (Nat.le_refl _) _⟩
   ·have Ba:decide ((k:Int)<(l.length:Int))=false:=by simp;omega
    clear h5
    go_wp2
    go_ret
    exact⟨rfl,Cur.made _ _ _ _ h,(Below.refl _ _).alloc (Nat.le_refl _) _⟩
theorem Own.past {w w':Xg} {base g:Nat} {v:Xh} {l:Xc} (h:Own w base v l) (hg:w.grownBy w' (some g)) (hb:g<base):Own w' base v l:=
 h.keepBy hg (.inr (fun e=>by have:=h.base_le g e;omega))
theorem zbe {a b c:Xg} {row row':Option Nat} (h:a.grownBy b row) (k:b.grownBy c row') (hr:∀q,row'=some q->a.heap.size<=q):a.grownBy c row:=
 ⟨k.os.trans h.os,k.tape.trans h.tape,k.output.trans h.output,Nat.le_trans h.size k.size,fun i hi Aa=>(k.block i (Nat.lt_of_lt_of_le hi h.size) (fun e=>by have:=hr i e.symm;omega)).trans (h.block i hi Aa)⟩
theorem zaK {a b c:Xg} {row:Option Nat} (h:a.grownBy b row) (k:Below b.heap.size b c):a.grownBy c row:=zbe h (Below.toGrown k none) (fun q hq=>by cases hq)
theorem zfv {a b c:Xg} {row:Option Nat} (h:Below a.heap.size a b) (k:b.grownBy c row):a.grownBy c row:=zam (Below.toGrown h row) k
set_option maxHeartbeats 3200000 in
theorem zkN (w0 w:Xg) (g:Nat) (code:Xh) (l:Xc) (h:Cur w0 w g code l) :
  Calls Tryz.prog 100 #[.pointer (some ⟨g,0,none⟩)] w fun e w'=>∃a c m,e=.returned (.slice a m.length c)∧RowM w' w.heap.size (.slice a m.length c) m∧m.length<=8∧Cur w0 w' g code l∧w.grownBy w' (some g):=by
 have Ma:=h.lt
 have hA:=(Below.refl w.heap.size w).alloc (Nat.le_refl _) (.cells #[.string ⟨#[120]⟩,.string ⟨#[]⟩,.string ⟨#[97,32,98]⟩,.string ⟨#[49,32,60,32,50]⟩,.string ⟨#[97,38,98]⟩,.string ⟨#[34,113,34]⟩,.string ⟨#[104,101,108,108,111]⟩,.string ⟨#[38,108,116,59]⟩,.string ⟨#[60,112,62]⟩,.string ⟨#[60,47,98,62]⟩] 9)
 have lt:=Loc.made w #[.string ⟨#[120]⟩,.string ⟨#[]⟩,.string ⟨#[97,32,98]⟩,.string ⟨#[49,32,60,32,50]⟩,.string ⟨#[97,38,98]⟩,.string ⟨#[34,113,34]⟩,.string ⟨#[104,101,108,108,111]⟩,.string ⟨#[38,108,116,59]⟩,.string ⟨#[60,112,62]⟩,.string ⟨#[60,47,98,62]⟩] 9
 have HC:=hide (zaY w0 _ g code l 10 (h.keepAll hA) (by omega) (by omega))
 have LL:=hide (And.intro hA lt)
 clear hA lt h
 go_enter Tryz.func100,Tryz.ntmps100
 go_wp2_with fail
 refine (zaa HC).mono ?_
 rintro e w1 ⟨x,Ia,Ka,rfl,Aa,hG⟩
 obtain⟨hA,lt⟩:=zaa LL
 clear LL HC
 have Ga:=lt.lt
 have Da:=lt.frm (Frm.ofGrown hG) (by simp;omega)
 have Ca:=zfv hA hG
 have La:=Ca.size
 obtain⟨k,rfl⟩:=Int.eq_ofNat_of_zero_le Ia
 obtain⟨s,hs,Fa⟩:∃s:ByteArray,w1.cell? ⟨w.heap.size,k,none⟩=some (.string s)∧s.size<=8:=by
  rw [Da.cell k]
  have hk:k<10:=by omega
  match k,hk with
  | 0,_=>exact⟨_,rfl,by decide⟩
  | 1,_=>exact⟨_,rfl,by decide⟩
  | 2,_=>exact⟨_,rfl,by decide⟩
  | 3,_=>exact⟨_,rfl,by decide⟩
  | 4,_=>exact⟨_,rfl,by decide⟩
  | 5,_=>exact⟨_,rfl,by decide⟩
  | 6,_=>exact⟨_,rfl,by decide⟩
  | 7,_=>exact⟨_,rfl,by decide⟩
  | 8,_=>exact⟨_,rfl,by decide⟩
  | 9,_=>exact⟨_,rfl,by decide⟩
 obtain⟨w2,Ja,Ha,Ba,hB⟩:=zjX w1 s (by omega)
 have KK:=hide (show ∃a c m,(Value.slice (some ⟨w1.heap.size,0,none⟩) s.size Ja)=.slice a m.length c∧RowM w2 w.heap.size (.slice a m.length c) m∧m.length<=8∧Cur w0 w2 g code l∧w.grownBy w2 (some g) from ⟨_,_,strL s,by rw [zax],by rw [zax];exact Ba.mono La,by rw [zax];exact Fa,Aa.keepAll hB,zaK Ca hB⟩)
 clear hA lt Da hG Ca Aa Ba hB Ga
 have hk:(k:Int)<10:=Ka
 go_wp2_with fail
 go_ret
 obtain⟨a,c,m,e,h1⟩:=zaa KK
 exact⟨a,c,m,congrArg Ending.returned e,h1⟩
set_option maxHeartbeats 3200000 in
theorem zsJ (w0 w:Xg) (g:Nat) (code:Xh) (l:Xc) (h:Cur w0 w g code l) :
  Calls Tryz.prog 98 #[.pointer (some ⟨g,0,none⟩)] w fun e w'=>∃a c m,e=.returned (.slice a m.length c)∧RowM w' w.heap.size (.slice a m.length c) m∧m.length<=8∧Cur w0 w' g code l∧w.grownBy w' (some g):=by
 have Ma:=h.lt
 have hA:=(Below.refl w.heap.size w).alloc (Nat.le_refl _) (.cells #[.string ⟨#[112]⟩,.string ⟨#[98]⟩,.string ⟨#[105]⟩,.string ⟨#[100,105,118]⟩,.string ⟨#[117,108]⟩,.string ⟨#[108,105]⟩,.string ⟨#[98,114]⟩,.string ⟨#[104,49]⟩] 9)
 have lt:=Loc.made w #[.string ⟨#[112]⟩,.string ⟨#[98]⟩,.string ⟨#[105]⟩,.string ⟨#[100,105,118]⟩,.string ⟨#[117,108]⟩,.string ⟨#[108,105]⟩,.string ⟨#[98,114]⟩,.string ⟨#[104,49]⟩] 9
 have HC:=hide (zaY w0 _ g code l 8 (h.keepAll hA) (by omega) (by omega))
 have LL:=hide (And.intro hA lt)
 clear hA lt h
 go_enter Tryz.func98,Tryz.ntmps98
 go_wp2_with fail
 refine (zaa HC).mono ?_
 rintro e w1 ⟨x,Ia,Ka,rfl,Aa,hG⟩
 obtain⟨hA,lt⟩:=zaa LL
 clear LL HC
 have Ga:=lt.lt
 have Da:=lt.frm (Frm.ofGrown hG) (by simp;omega)
 have Ca:=zfv hA hG
 have La:=Ca.size
 obtain⟨k,rfl⟩:=Int.eq_ofNat_of_zero_le Ia
 obtain⟨s,hs,Fa⟩:∃s:ByteArray,w1.cell? ⟨w.heap.size,k,none⟩=some (.string s)∧s.size<=8:=by
  rw [Da.cell k]
  have hk:k<8:=by omega
  match k,hk with
  | 0,_=>exact⟨_,rfl,by decide⟩
  | 1,_=>exact⟨_,rfl,by decide⟩
  | 2,_=>exact⟨_,rfl,by decide⟩
  | 3,_=>exact⟨_,rfl,by decide⟩
  | 4,_=>exact⟨_,rfl,by decide⟩
  | 5,_=>exact⟨_,rfl,by decide⟩
  | 6,_=>exact⟨_,rfl,by decide⟩
  | 7,_=>exact⟨_,rfl,by decide⟩
 obtain⟨w2,Ja,Ha,Ba,hB⟩:=zjX w1 s (by omega)
 have KK:=hide (show ∃a c m,(Value.slice (some ⟨w1.heap.size,0,none⟩) s.size Ja)=.slice a m.length c∧RowM w2 w.heap.size (.slice a m.length c) m∧m.length<=8∧Cur w0 w2 g code l∧w.grownBy w2 (some g) from ⟨_,_,strL s,by rw [zax],by rw [zax];exact Ba.mono La,by rw [zax];exact Fa,Aa.keepAll hB,zaK Ca hB⟩)
 clear hA lt Da hG Ca Aa Ba hB Ga
 have hk:(k:Int)<8:=Ka
 go_wp2_with fail
 go_ret
 obtain⟨a,c,m,e,h1⟩:=zaa KK
 exact⟨a,c,m,congrArg Ending.returned e,h1⟩
def La7 (w0 w1 w2:Xg) (g B0 j:Nat) (code:Xh) (l:Xc) (s:ByteArray) (a0:Xe) (c0:Nat) (m:List (Xc×Xc)) (F:Xd) (U11 U12:Xh) (L:Array Bool) (a:Act) (w:Xg):Prop:=
 ∃b0 b1 b2 b3 b4 b5 b6 b7 b8 b9 b10 b11 x3 x15 x16 x17 x18 x19 x20 x21 x22 x23 x24 x25,L = #[b0,b1,b2,b3,b4,b5,b6,b7,b8,b9,b10,b11]∧a={ tmps:= #[.pointer (some ⟨g,0,none⟩),undef,.slice none 0 0,x3,.slice (some ⟨B0,0,none⟩) 3 3,.int .i64 (j:Int),.slice (some ⟨B0,0,none⟩) 3 3,.int .i64 (j:Int),.slice (some ⟨B0,0,none⟩) 3 3,.int .i64 3,.bool true,U11,U12,.pointer (some ⟨g,0,none⟩),.bool true,x15,x16,x17,x18,x19,x20,x21,x22,x23,x24,x25,undef],defers:=[] }∧Cur w0 w g code l∧w1.grownBy w (some g)∧w2.heap.size<=w.heap.size∧(b10=false->OwAttrsM w (.slice a0 m.length c0) m F)∧(b11=false->x3=.slice a0 m.length c0)∧(b5=true->b7=true->∀q∈FB x20,q∉FB x22)∧(b0=true->x15=.slice a0 m.length c0)∧(b1=true->x16=.slice (some ⟨B0,0,none⟩) 3 3)∧(b2=true->x17=.int .i64 (j:Int))∧(b3=true->x18=.pointer (some ⟨B0,j,none⟩))∧(b4=true->x19=.string s)∧(b5=true->RowM w w2.heap.size x20 (strL s))∧(b6=true->x21=.pointer (some ⟨g,0,none⟩))∧(b7=true->∃l2,RowM w w2.heap.size x22 l2∧l2.length<=8)∧(b8=true->b5=true∧b7=true∧x23=.agg #[x20,x22])∧(b9=true->b8=true∧∃z,w2.heap.size<=z∧x24=.slice (some ⟨z,0,none⟩) 1 1∧Loc w z #[x20,x22] 132)∧(b10=true->b9=true∧b0=true∧∃a9 c9 l2 F9,x25=.slice a9 (m.length+1) c9∧OwAttrsM w x25 (m++[(strL s,l2)]) F9∧F9.Nodup∧Rng F9 w1.heap.size w.heap.size∧l2.length<=8)∧(b11=true->b10=true∧x3=x25)
theorem zvp {i:Nat} (h:i<12):i=0∨i=1∨i=2∨i=3∨i=4∨i=5∨i=6∨i=7∨i=8∨i=9∨i=10∨i=11:=by omega
theorem OwAttrM.frm {w w':Xg} {S:Xd} {C:Xf} {x:Xc×Xc} {G:Xd} (h:OwAttrM w C x G) (f:Frm w w' S) (hG:∀g∈G,g∉S):OwAttrM w' C x G:=by
 obtain⟨a,b,e,h1,h2,h3⟩:=h
 subst h3
 exact⟨a,b,e,h1.frm f (fun g hg=>hG g (by simp [hg])),h2.frm f (fun g hg=>hG g (by simp [hg])),rfl⟩
theorem OwAttrM.lt {w:Xg} {C:Xf} {x:Xc×Xc} {G:Xd} (h:OwAttrM w C x G):∀g∈G,g<w.heap.size:=by
 obtain⟨a,b,_,h1,h2,rfl⟩:=h
 intro g hg
 rcases List.mem_append.1 hg with h | h
 ·exact (h1.lt g (by simpa [FB]using h)).2
 ·exact (h2.lt g (by simpa [FB]using h)).2
theorem OwElems.ltM {α:Type} {w:Xg} {e:Xi} {size:Nat} {v:Xh} {l:List α} {R:Xf->α->Xd->Prop} {F:Xd} (h:OwElems w e size v l R F) (hR:∀C x G,R C x G->∀g∈G,g<w.heap.size):∀g∈F,g<w.heap.size:=by
 obtain⟨Cs,Fs,h1,h2,h3,h4,rfl⟩:=h
 intro g hg
 rcases List.mem_append.1 hg with h | h
 ·exact (h4.lt g (by simpa [FB]using h)).2
 ·obtain⟨G,hG,Aa⟩:=List.mem_flatten.1 h
  obtain⟨i,hi,rfl⟩:=List.getElem_of_mem hG
  have:=(h3 i (by omega)).2
  rw [show Fs.getD i []=Fs[i] by simp [hi]]at this
  exact hR _ _ _ this g Aa
theorem ztJ:(Tryz.prog.info? 132).map (fun i=>(i.zero,i.size,i.bytes))=some (some (.agg #[.slice none 0 0,.slice none 0 0]),2,48):=by kernel_rfl
theorem Frm.someGrown {w w':Xg} {v:Xh} (f:Frm w w' (FB v)):w.grownBy w' v.ownBlock:=⟨f.os,f.tape,f.output,f.size,fun k hk hn=>f.block k hk (fun e=>hn (by simpa [FB,eq_comm]using e))⟩
theorem Cur.keepF {w0 w w':Xg} {g:Nat} {code v:Xh} {l:Xc} (h:Cur w0 w g code l) (f:Frm w w' (FB v)) (hg:g∉FB v) (hn:∀q∈FB v,w0.heap.size<=q):Cur w0 w' g code l:=
 h.keep f.someGrown (fun e=>hg (by simp [FB,<-e])) (fun k hk=>hn k (by simp [FB,hk]))
theorem zuy {a b c:Xg} {row:Option Nat} {v:Xh} (h:a.grownBy b row) (f:Frm b c (FB v)) (hn:∀q∈FB v,a.heap.size<=q):a.grownBy c row:=zbe h f.someGrown (fun q hq=>hn q (by simp [FB,hq]))
def SmA (m:List (Xc×Xc)):Prop:=∀x∈m,x.1.length<=8∧x.2.length<=8
def zsh (B:Nat) (w:Xg) (v:Xh) (m:List (Xc×Xc)):Prop:=∃F,OwAttrsM w v m F∧F.Nodup∧Rng F B w.heap.size∧SmA m
set_option maxHeartbeats 12800000 in
theorem zqH (w0 w:Xg) (g:Nat) (code:Xh) (l:Xc) (h:Cur w0 w g code l) :
  Calls Tryz.prog 99 #[.pointer (some ⟨g,0,none⟩)] w fun e w'=>∃a c m,e=.returned (.slice a m.length c)∧zsh w.heap.size w' (.slice a m.length c) m∧m.length<=3∧Cur w0 w' g code l∧w.grownBy w' (some g):=by
 have Tb:=h.lt
 have Qb:=h.new
 have hA:=(Below.refl w.heap.size w).alloc (Nat.le_refl _) (.cells #[.string ⟨#[99,108,97,115,115]⟩,.string ⟨#[105,100]⟩,.string ⟨#[107]⟩] 9)
 have da:=Loc.made w #[.string ⟨#[99,108,97,115,115]⟩,.string ⟨#[105,100]⟩,.string ⟨#[107]⟩] 9
 have ba:=h.keepAll hA
 have na:w.heap.size<(w.alloc (.cells #[.string ⟨#[99,108,97,115,115]⟩,.string ⟨#[105,100]⟩,.string ⟨#[107]⟩] 9)).heap.size:=by simp
 obtain⟨i0,ja,ea,la,ga⟩:=info_parts ztJ
 have HI:=hide (And.intro ja (And.intro ea (And.intro la ga)))
 have LL:=hide (And.intro hA (And.intro da (And.intro ba na)))
 have Wb:=h.below.size
 clear hA da ba na ja ea la ga h
 go_enter Tryz.func99,Tryz.ntmps99
 go_wp2_with fail
 obtain⟨hA,da,ba,na⟩:=zaa LL
 clear LL
 generalize (w.alloc (.cells #[.string ⟨#[99,108,97,115,115]⟩,.string ⟨#[105,100]⟩,.string ⟨#[107]⟩] 9))=w1 at *
 go_loopw [3,5] (fun o i wr=>∃(j:Nat) (a:Xe) (c:Nat) (m:List (Xc×Xc)) (F:Xd),j<=3∧i=.int .i64 j∧o=.slice a m.length c∧OwAttrsM wr (.slice a m.length c) m F∧F.Nodup∧Rng F w1.heap.size wr.heap.size∧m.length<=j∧SmA m∧Cur w0 wr g code l∧w1.grownBy wr (some g)) (fun _ i _=>3-(intOf i).toNat)
 case atStart=>exact⟨0,none,0,[],[],Nat.zero_le _,rfl,rfl,OwAttrsM.nil _,List.nodup_nil,(fun q hq=>by simp at hq),Nat.le_refl _,(fun x hx=>by simp at hx),ba,⟨rfl,rfl,rfl,Nat.le_refl _,fun _ _ _=>rfl⟩⟩
 case round=>
  obtain⟨j,a0,c0,m,F,hj,rfl,rfl,hO,hN,hR,Ub,ka,hC,hG⟩:=hrel
  clear ba
  by_cases hlt:j<3
  ·have va:(j:Int)<3:=by omega
   go_wp2_with fail
   refine (zdS w0 wr g code l 5 hC (by omega) (by omega)).mono ?_
   rintro e w2 ⟨bb,rfl,xa,fa⟩
   have ra:∀q∈F,q∉[g]:=fun q hq aa=>by have:=(hR q hq).1;simp at aa;omega
   have wa:=OwAttrsM.frm hO (Frm.ofGrown fa) (fun q hq=>by simpa using ra q hq)
   have sa:=zam hG fa
   have Ta:Rng F w1.heap.size w2.heap.size:=hR.mono (Nat.le_refl _) fa.size
   clear hC hG hO hR fa
   cases bb with
   | false=>
    go_wp2_with fail
    go_roundw
    case rel=>exact⟨j+1,a0,c0,m,F,by omega,by go_num,rfl,wa,hN,Ta,by omega,ka,xa,sa⟩
    case measure=>simp [intOf];omega
   | true=>
   have Hb:w.heap.size∉(some g).toList:=by simp;omega
   obtain⟨s,hs,Eb⟩:∃s:ByteArray,(#[.string ⟨#[99,108,97,115,115]⟩,.string ⟨#[105,100]⟩,.string ⟨#[107]⟩]:Array Xh)[j]? = some (.string s)∧s.size<=8:=by
    match j,hlt with
    | 0,_=>exact⟨_,rfl,by decide⟩
    | 1,_=>exact⟨_,rfl,by decide⟩
    | 2,_=>exact⟨_,rfl,by decide⟩
   go_wp2_with fail
   generalize hB0:w.heap.size=B0 at *
   have Vb:=sa.size
   refine zlr (by kernel_rfl) (La7 w0 w1 w2 g B0 j code l s a0 c0 m F u11 u12) ?sz ?h0 ?step ?dn
   case sz=>
    rintro L a w ⟨b0,b1,b2,b3,b4,b5,b6,b7,b8,b9,Ha,Fa,x3,Qa,Oa,Ka,Na,Ma,Ca,Ja,Da,Ra,La,Ia,rfl,_⟩
    rfl
   case h0=>
    refine⟨false,false,false,false,false,false,false,false,false,false,false,false,_,_,_,_,_,_,_,_,_,_,_,_,rfl,rfl,xa.keepAll ((Below.refl _ _).drew),zsj sa,Nat.le_refl _,(fun _=>OwAttrsM.frm wa (Frm.ofBelow ((Below.refl _ _).drew) []) (fun _ _=>by simp)),(fun _=>rfl),(fun e=>by cases e),?_⟩
    simp
   case step=>
    obtain⟨ja,ea,la,ga⟩:=zaa HI
    intro L a w i o hI hi ho
    obtain⟨b0,b1,b2,b3,b4,b5,b6,b7,b8,b9,Ha,Fa,x3,Qa,Oa,Ka,Na,Ma,Ca,Ja,Da,Ra,La,Ia,rfl,rfl,h0,h1,h2,h3,h4,h5,f0,f1,f2,f3,f4,f5,f6,f7,f8,f9,Aa,Ga⟩:=hI
    rcases zvp (zwb hi)with rfl | rfl | rfl | rfl | rfl | rfl | rfl | rfl | rfl | rfl | rfl | rfl
    ·obtain rfl:=Option.some.inj ho
     have oa:b0=false:=by simpa using zbO rfl hi
     have e3:=h4 (by
      cases Fa with
      | false=>rfl
      | true=>have:=(Aa (Ga rfl).1).2.1;rw [oa]at this;cases this)
     subst e3
     go_simp
     exact⟨true,b1,b2,b3,b4,b5,b6,b7,b8,b9,Ha,Fa,_,_,Oa,Ka,Na,Ma,Ca,Ja,Da,Ra,La,Ia,rfl,rfl,h0,h1,h2,h3,h4,h5,(fun _=>rfl),f1,f2,f3,f4,f5,f6,f7,f8,f9,(fun h=>by have:=(Aa h).2.1;rw [oa]at this;cases this),(fun h=>by have:=(Aa (Ga h).1).2.1;rw [oa]at this;cases this)⟩
    ·obtain rfl:=Option.some.inj ho
     go_simp
     exact⟨b0,true,b2,b3,b4,b5,b6,b7,b8,b9,Ha,Fa,x3,Qa,_,Ka,Na,Ma,Ca,Ja,Da,Ra,La,Ia,rfl,rfl,h0,h1,h2,h3,h4,h5,f0,(fun _=>rfl),f2,f3,f4,f5,f6,f7,f8,f9,Aa,Ga⟩
    ·obtain rfl:=Option.some.inj ho
     go_simp
     exact⟨b0,b1,true,b3,b4,b5,b6,b7,b8,b9,Ha,Fa,x3,Qa,Oa,_,Na,Ma,Ca,Ja,Da,Ra,La,Ia,rfl,rfl,h0,h1,h2,h3,h4,h5,f0,f1,(fun _=>rfl),f3,f4,f5,f6,f7,f8,f9,Aa,Ga⟩
    ·have g1:=zba hi ho 1
     have g2:=zba hi ho 2
     obtain rfl:=Option.some.inj ho
     have e1:=f1 (g1 (by kernel_rfl))
     subst e1
     have e2:=f2 (g2 (by kernel_rfl))
     subst e2
     go_simp
     exact⟨b0,b1,b2,true,b4,b5,b6,b7,b8,b9,Ha,Fa,x3,Qa,_,_,_,Ma,Ca,Ja,Da,Ra,La,Ia,rfl,rfl,h0,h1,h2,h3,h4,h5,f0,f1,f2,(fun _=>rfl),f4,f5,f6,f7,f8,f9,Aa,Ga⟩
    ·have g3:=zba hi ho 3
     obtain rfl:=Option.some.inj ho
     have e3:=f3 (g3 (by kernel_rfl))
     subst e3
     have cs:w.cell? ⟨B0,j,none⟩=some (.string s):=((da.frm (Frm.ofGrown h1) Hb).cell j).trans hs
     go_simp
     exact⟨b0,b1,b2,b3,true,b5,b6,b7,b8,b9,Ha,Fa,x3,Qa,Oa,Ka,_,_,Ca,Ja,Da,Ra,La,Ia,rfl,rfl,h0,h1,h2,h3,h4,h5,f0,f1,f2,f3,(fun _=>rfl),f5,f6,f7,f8,f9,Aa,Ga⟩
    ·have g4:=zba hi ho 4
     obtain rfl:=Option.some.inj ho
     have e4:=f4 (g4 (by kernel_rfl))
     subst e4
     have Ba:b5=false:=by simpa using zbO rfl hi
     obtain⟨w',Xb,Jb,Sa,Pa⟩:=zjX w s (by omega)
     go_simp
     exact⟨b0,b1,b2,b3,b4,true,b6,b7,b8,b9,Ha,Fa,x3,Qa,Oa,Ka,Na,_,_,Ja,Da,Ra,La,Ia,rfl,rfl,h0.keepAll Pa,zaK h1 Pa,Nat.le_trans h2 Pa.size,(fun e=>OwAttrsM.frm (h3 e) (Frm.ofBelow Pa []) (fun _ _=>by simp)),h4,(fun _ e7 q hq aa=>by obtain⟨l2,r1,r2⟩:=f7 e7;have:=(Sa.lt q (by simpa [FB]using hq)).1;have:=(r1.lt q (by simpa [FB]using aa)).2;omega),f0,f1,f2,f3,f4,(fun _=>Sa.mono h2),f6,(fun h=>by obtain⟨l2,r1,r2⟩:=f7 h;exact⟨l2,r1.keep Pa,r2⟩),(fun h=>by have:=(f8 h).1;rw [Ba]at this;cases this),(fun h=>by have:=(f8 (f9 h).1).1;rw [Ba]at this;cases this),(fun h=>by have:=(f8 (f9 (Aa h).1).1).1;rw [Ba]at this;cases this),(fun h=>by have:=(f8 (f9 (Aa (Ga h).1).1).1).1;rw [Ba]at this;cases this)⟩
    ·obtain rfl:=Option.some.inj ho
     go_simp
     exact⟨b0,b1,b2,b3,b4,b5,true,b7,b8,b9,Ha,Fa,x3,Qa,Oa,Ka,Na,Ma,Ca,_,Da,Ra,La,Ia,rfl,rfl,h0,h1,h2,h3,h4,h5,f0,f1,f2,f3,f4,f5,(fun _=>rfl),f7,f8,f9,Aa,Ga⟩
    ·have g6:=zba hi ho 6
     obtain rfl:=Option.some.inj ho
     have e6:=f6 (g6 (by kernel_rfl))
     subst e6
     have Ba:b7=false:=by simpa using zbO rfl hi
     go_simp
     refine (zkN w0 w g code l h0).mono ?_
     rintro e w' ⟨a2,c2,l2,rfl,Sa,Bb,Mb,Va⟩
     exact⟨b0,b1,b2,b3,b4,b5,b6,true,b8,b9,Ha,Fa,x3,Qa,Oa,Ka,Na,Ma,Ca,_,_,Ra,La,Ia,rfl,rfl,Mb,zam h1 Va,Nat.le_trans h2 Va.size,(fun e=>OwAttrsM.frm (h3 e) (Frm.ofGrown Va) (fun q hq=>by simpa using ra q hq)),h4,(fun e5 _ q hq aa=>by have:=((f5 e5).lt q (by simpa [FB]using hq)).2;have:=(Sa.lt q (by simpa [FB]using aa)).1;omega),f0,f1,f2,f3,f4,(fun h=>(f5 h).keepBy Va (fun q hq e=>by have:=((f5 h).lt q hq).1;cases e;omega)),f6,(fun _=>⟨l2,Sa.mono h2,Bb⟩),(fun h=>by have:=(f8 h).2.1;rw [Ba]at this;cases this),(fun h=>by have:=(f8 (f9 h).1).2.1;rw [Ba]at this;cases this),(fun h=>by have:=(f8 (f9 (Aa h).1).1).2.1;rw [Ba]at this;cases this),(fun h=>by have:=(f8 (f9 (Aa (Ga h).1).1).1).2.1;rw [Ba]at this;cases this)⟩
    ·have g5:=zba hi ho 5
     have g7:=zba hi ho 7
     obtain rfl:=Option.some.inj ho
     have e5:b5=true:=g5 (by kernel_rfl)
     have e7:b7=true:=g7 (by kernel_rfl)
     subst e5 e7
     obtain⟨l2,r1,r2⟩:=f7 rfl
     obtain⟨p4,k4,Wa⟩:=(f5 rfl).shape
     obtain⟨p5,k5,Xa⟩:=r1.shape
     subst Wa Xa
     have Ba:b8=false:=by simpa using zbO rfl hi
     go_simp
     exact⟨b0,b1,b2,b3,b4,true,b6,true,true,b9,Ha,Fa,x3,Qa,Oa,Ka,Na,Ma,_,Ja,_,_,La,Ia,rfl,rfl,h0,h1,h2,h3,h4,h5,f0,f1,f2,f3,f4,f5,f6,f7,(fun _=>⟨rfl,rfl,rfl⟩),(fun h=>by have:=(f9 h).1;rw [Ba]at this;cases this),(fun h=>by have:=(f9 (Aa h).1).1;rw [Ba]at this;cases this),(fun h=>by have:=(f9 (Aa (Ga h).1).1).1;rw [Ba]at this;cases this)⟩
    ·have g8:=zba hi ho 8
     obtain rfl:=Option.some.inj ho
     have e8:b8=true:=g8 (by kernel_rfl)
     obtain⟨e5,e7,Ya⟩:=f8 e8
     subst e5 e7 e8 Ya
     obtain⟨l2,r1,r2⟩:=f7 rfl
     obtain⟨p4,k4,Wa⟩:=(f5 rfl).shape
     obtain⟨p5,k5,Xa⟩:=r1.shape
     subst Wa Xa
     have Ba:b9=false:=by simpa using zbO rfl hi
     have Pa:Below w.heap.size w (w.alloc (.cells #[.slice p4 (strL s).length k4,.slice p5 l2.length k5] 132)):=(Below.refl _ _).alloc (Nat.le_refl _) _
     go_simp
     exact⟨b0,b1,b2,b3,b4,true,b6,true,true,true,Ha,Fa,x3,Qa,Oa,Ka,Na,Ma,_,Ja,_,_,_,Ia,rfl,rfl,h0.keepAll Pa,zaK h1 Pa,Nat.le_trans h2 Pa.size,(fun e=>OwAttrsM.frm (h3 e) (Frm.ofBelow Pa []) (fun _ _=>by simp)),h4,h5,f0,f1,f2,f3,f4,(fun _=>(f5 rfl).keep Pa),f6,(fun _=>⟨l2,r1.keep Pa,r2⟩),(fun _=>⟨rfl,rfl,rfl⟩),(fun _=>⟨rfl,w.heap.size,h2,rfl,Loc.made w _ _⟩),(fun h=>by have:=(Aa h).1;rw [Ba]at this;cases this),(fun h=>by have:=(Aa (Ga h).1).1;rw [Ba]at this;cases this)⟩
    ·have g0:=zba hi ho 0
     have g9:=zba hi ho 9
     obtain rfl:=Option.some.inj ho
     have e0:b0=true:=g0 (by kernel_rfl)
     have e9:b9=true:=g9 (by kernel_rfl)
     have ma:=f0 e0
     obtain⟨e8,z,z1,z2,z3⟩:=f9 e9
     obtain⟨e5,e7,Ya⟩:=f8 e8
     have Ba:Ha=false:=by simpa using zbO rfl hi
     subst e0 e5 e7 e8 e9 ma z2
     obtain⟨l2,r1,r2⟩:=f7 rfl
     have o1:=f5 rfl
     have q1:=o1.mono (Nat.zero_le _)
     have q2:=r1.mono (Nat.zero_le _)
     have za:=h3 Ba
     have ua:(FB Ca++FB Da).Nodup:=List.nodup_append.2 ⟨zbm _,zbm _,fun a ha b hb e=>h5 rfl rfl a ha (e ▸ hb)⟩
     have ta:∀q∈FB Ca++FB Da,w2.heap.size<=q∧q<w.heap.size:=fun q hq=>by
      rcases List.mem_append.1 hq with h | h
      ·exact o1.lt q (by simpa [FB]using h)
      ·exact r1.lt q (by simpa [FB]using h)
     refine zhD (R:=OwAttrM) (fun h f d=>OwAttrM.frm h f d) (by rfl) (.tmp 15) (.tmp 24) 26 (by rfl) 132 i0 (.agg #[.slice none 0 0,.slice none 0 0]) 2 48 Tryz.underlying26 ja ea la ga rfl (by decide) _ m F (by rfl) za hN ⟨z,0,none⟩ 1 [Ca,Da] (strL s,l2) (FB Ca++FB Da) (by rfl) rfl (fun i u hu=>World.news_of_block z3 i u (by simpa using hu)) (by intro y hy;obtain⟨p4,Yb,Wa⟩:=o1.shape;obtain⟨p5,Sb,Xa⟩:=r1.shape;simp at hy;rcases hy with rfl | rfl;(rw [Wa];rfl);(rw [Xa];rfl)) ⟨Ca,Da,rfl,q1,q2,rfl⟩ ua (fun g hg Va=>by have:=(Ta g hg).2;have:=(ta g Va).1;omega) (fun q hq=>by rcases hq with hq | hq;(have:=(Ta q hq).2;omega);(exact (ta q hq).2)) (by unfold maxLen;omega) (by omega) ?_
     intro g9 pa w' F9 ya Pb Gb Ua Zb
     have ia:∀q∈FB (.slice a0 m.length c0),q∈F:=fun q hq=>by obtain⟨_,_,_,_,_,_,rfl⟩:=za;exact List.mem_append_left _ hq
     have qa:∀q,w2.heap.size<=q->q∉FB (.slice a0 m.length c0):=fun q hq h=>by have:=(Ta q (ia q h)).2;omega
     have Nb:g∉FB (.slice a0 m.length c0):=fun h=>ra g (ia g h) (by simp)
     have Ob:Rng F9 w1.heap.size w'.heap.size:=fun q hq=>by
      refine⟨?_,OwElems.ltM ya (fun _ _ _ hr=>hr.lt) q hq⟩
      have:=h1.size
      rcases Gb q hq with h | h | h
      ·exact (Ta q h).1
      ·have:=(ta q h).1;omega
      ·omega
     exact⟨true,b1,b2,b3,b4,true,b6,true,true,true,true,Fa,x3,_,Oa,Ka,Na,Ma,Ca,Ja,Da,Ra,_,_,rfl,rfl,h0.keepF Ua Nb (fun q hq=>by have:=(Ta q (ia q hq)).1;omega),zuy h1 Ua (fun q hq=>(Ta q (ia q hq)).1),Nat.le_trans h2 Ua.size,(fun e=>by cases e),h4,h5,(fun _=>rfl),f1,f2,f3,f4,(fun _=>o1.frm Ua (fun q hq=>qa q (o1.lt q (by simpa [FB]using hq)).1)),f6,(fun _=>⟨l2,r1.frm Ua (fun q hq=>qa q (r1.lt q (by simpa [FB]using hq)).1),r2⟩),(fun _=>⟨rfl,rfl,Ya⟩),(fun _=>⟨rfl,z,z1,rfl,z3.frm Ua (qa z z1)⟩),(fun _=>⟨rfl,rfl,_,pa,l2,F9,rfl,ya,Pb,Ob,r2⟩),(fun h=>by have:=(Ga h).1;rw [Ba]at this;cases this)⟩
    ·have Fb:=zba hi ho 10
     obtain rfl:=Option.some.inj ho
     have Ib:Ha=true:=Fb (by kernel_rfl)
     subst Ib
     obtain⟨e9,e0,Kb⟩:=Aa rfl
     obtain⟨e8,Lb⟩:=f9 e9
     obtain⟨e5,e7,Ya⟩:=f8 e8
     subst e0 e9 e8 e5 e7 Ya
     have ma:=f0 rfl
     subst ma
     clear Kb Lb
     go_simp
     exact⟨true,b1,b2,b3,b4,true,b6,true,true,true,true,true,_,_,Oa,Ka,Na,Ma,Ca,Ja,Da,_,La,Ia,rfl,rfl,h0,h1,h2,h3,(fun e=>by cases e),h5,(fun _=>rfl),f1,f2,f3,f4,f5,f6,f7,(fun _=>⟨rfl,rfl,rfl⟩),f9,Aa,(fun _=>⟨rfl,rfl⟩)⟩
   case dn=>
    intro L a w3 hI Ab
    have Za:=zfK (L:=L) (by obtain⟨b0,b1,b2,b3,b4,b5,b6,b7,b8,b9,Ha,Fa,x3,Qa,Oa,Ka,Na,Ma,Ca,Ja,Da,Ra,La,Ia,rfl,_⟩:=hI;rfl) (by kernel_rfl) Ab 12
    obtain⟨b0,b1,b2,b3,b4,b5,b6,b7,b8,b9,Ha,Fa,x3,Qa,Oa,Ka,Na,Ma,Ca,Ja,Da,Ra,La,Ia,rfl,rfl,h0,h1,h2,h3,h4,h5,f0,f1,f2,f3,f4,f5,f6,f7,f8,f9,Aa,Ga⟩:=hI
    have Db:Fa=true:=Za 11 (by omega) (by decide)
    obtain⟨Cb,e3⟩:=Ga Db
    obtain⟨_,_,a9,c9,l2,F9,Rb,r1,r2,r3,r4⟩:=Aa Cb
    subst Rb e3 hB0
    have KK:=hide (show OwAttrsM w3 (.slice a9 (m++[(strL s,l2)]).length c9) (m++[(strL s,l2)]) F9 by simpa using r1)
    have ca:SmA (m++[(strL s,l2)]):=fun x hx=>by
     rcases List.mem_append.1 hx with h | h
     ·exact ka x h
     ·simp at h;subst h;exact⟨by rw [zax];exact Eb,r4⟩
    have HH:=hide (And.intro r2 (And.intro r3 (And.intro ca (And.intro h0 h1))))
    clear Za f0 f1 f2 f3 f4 f5 f6 f7 f8 f9 Aa Ga Ab h0 h1 h2 h3 h4 h5 r1 r2 r3 ca
    go_wp2_with fail
    go_roundw
    case rel=>
     obtain⟨r2,r3,ca,h0,h1⟩:=zaa HH
     exact⟨j+1,a9,c9,m++[(strL s,l2)],F9,by omega,by go_num,by simp,zaa KK,r2,r3,by simp;omega,ca,h0,h1⟩
    case measure=>simp [intOf];omega
  ·have va:¬ (j:Int)<3:=by omega
   have KK:=hide (show zsh w.heap.size wr (.slice a0 m.length c0) m∧m.length<=3∧Cur w0 wr g code l∧w.grownBy wr (some g) from ⟨⟨F,hO,hN,hR.mono (by omega) (Nat.le_refl _),ka⟩,by omega,hC,zfv hA hG⟩)
   clear hO hN hR ka hC hG
   go_wp2_with fail
   go_ret
   exact⟨a0,c0,m,rfl,zaa KK⟩
set_option maxHeartbeats 1600000 in
theorem zqV (w:Xg) (v:Xh) (l:Xc) (h:Byt w v l) :
  Calls Tryz.prog 77 #[v] w fun e w'=>(e=.returned (.bool true)∨e=.returned (.bool false))∧w'=w:=by
 have c1:=zbn w v l h
 obtain⟨a1,k1,rfl,_⟩:=h.shape
 generalize str l=s at *
 cases d1:(s.toList == [98,114])with
 | true=>
  go_enter Tryz.func77,Tryz.ntmps77
  go_wp2
  go_ret
  exact⟨.inl rfl,rfl⟩
 | false=>
  cases d2:(s.toList == [104,114])with
  | true=>
   go_enter Tryz.func77,Tryz.ntmps77
   go_wp2
   go_ret
   exact⟨.inl rfl,rfl⟩
  | false=>
   go_enter Tryz.func77,Tryz.ntmps77
   go_wp2
   go_ret
   exact⟨.inr rfl,rfl⟩
end Go.Proofs.YtgjolijncmkkhaaGreatDoor
