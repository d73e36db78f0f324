/- Own texts joined: RowM, OwnM, Push, Cur, New0, DrawI, Word, RegI, L2at, VoidE, GrowT, StepC, L2dr. -/
import Derived.Test.YtgjolijncmkkhaaGreatDoorQa
import Derived.Laws.IdiomStrings
import Derived.ArgAppend
import Derived.Deep.AppendLies
import Derived.Deep.QuietTactic
import Derived.BigQuiet
import Derived.OrdersIn
import Derived.OwnWalkIn
import Derived.WalkLawsBesides
import Derived.Deep.RegionHeld3
import Derived.Deep.Cut
import Derived.Deep.RegionLaw
import Derived.Shelf.Abstract
namespace Go.Proofs.YtgjolijncmkkhaaGreatDoor
open Go.RowKit
set_option linter.unusedVariables false
def RowM (w:Xk) (base:Nat) (v:Xl) (l:Xg):Prop:=
 okB l∧((v=.slice none 0 0∧l=[])∨
  ∃g cap cur fz,v=.slice (some ⟨g,0,none⟩) l.length cap∧base<=g∧w.heap[g]? = some (.cells cur 5 fz)∧(∀j,j<cap->¬ (fz.1<=j∧j<fz.2))∧l.length<=cap∧cap<=maxLen∧cur.size=cap∧cur.toList.take l.length=vals l)
theorem zcc (w:Xk) (base:Nat):RowM w base (.slice none 0 0) []:=⟨zaI,.inl ⟨rfl,rfl⟩⟩
theorem Own.rowm {w:Xk} {base:Nat} {v:Xl} {l:Xg} (h:Own w base v l):RowM w base v l:=by
 refine⟨h.1,?_⟩
 rcases h.2.2 with ⟨e,hz⟩ | ⟨g,Ba,Aa,e,hb,hg,h1,h2,h3,h4⟩
 ·exact .inl ⟨e,List.eq_nil_of_length_eq_zero hz⟩
 ·exact .inr ⟨g,Ba,Aa,(0,0),e,hb,hg,fun j _ hj=>by simp at hj,h1,h2,by simpa using h3,by simpa using h4⟩
theorem RowM.lt {w:Xk} {base:Nat} {v:Xl} {l:Xg} (h:RowM w base v l):∀k,v.ownBlock=some k->base<=k∧k<w.heap.size:=by
 intro k hk
 rcases h.2 with ⟨rfl,_⟩ | ⟨g,Ba,Aa,fz,rfl,hb,hg,_⟩
 ·simp [Value.ownBlock]at hk
 ·simp [Value.ownBlock]at hk
  subst hk
  exact⟨hb,(Array.getElem?_eq_some_iff.1 hg).1⟩
theorem RowM.mono {w:Xk} {base base':Nat} {v:Xl} {l:Xg} (h:RowM w base v l) (hb:base'<=base):RowM w base' v l:=by
 refine⟨h.1,?_⟩
 rcases h.2 with h' | ⟨g,cap,cur,fz,e,h1,h2⟩
 ·exact .inl h'
 ·exact .inr ⟨g,cap,cur,fz,e,by omega,h2⟩
theorem RowM.frm {w w':Xk} {base:Nat} {v:Xl} {l:Xg} {S:Xh} (h:RowM w base v l) (f:Frm w w' S) (hd:∀g∈FB v,g∉S):RowM w' base v l:=by
 refine⟨h.1,?_⟩
 rcases h.2 with h' | ⟨g,cap,cur,fz,rfl,h1,hg,h2⟩
 ·exact .inl h'
 ·have Aa:g<w.heap.size:=(Array.getElem?_eq_some_iff.1 hg).1
  exact .inr ⟨g,cap,cur,fz,rfl,h1,(f.block g Aa (hd g (by simp [FB,Value.ownBlock]))).trans hg,h2⟩
theorem RowM.keep {w w':Xk} {base:Nat} {v:Xl} {l:Xg} (h:RowM w base v l) (hB:Below w.heap.size w w'):RowM w' base v l:=h.frm (Frm.ofBelow hB []) (fun _ _=>by simp)
theorem RowM.keepBy {w w':Xk} {base:Nat} {v:Xl} {l:Xg} {row:Option Nat} (h:RowM w base v l) (hg:w.grownBy w' row) (hne:∀g,v.ownBlock=some g->row≠some g):RowM w' base v l:=
 h.frm (Frm.ofGrown hg) (fun g Aa hm=>hne g (by simpa [FB]using Aa) (by simpa using hm))
theorem RowM.shape {w:Xk} {base:Nat} {v:Xl} {l:Xg} (h:RowM w base v l):∃a c,v=.slice a l.length c:=by
 rcases h.2 with ⟨rfl,rfl⟩ | ⟨g,Ba,Aa,fz,rfl,_⟩
 ·exact⟨none,0,rfl⟩
 ·exact⟨_,_,rfl⟩
theorem zso {xs:Xj} {m:Nat} {ys:Xj} (h:xs.take m=ys) {i:Nat} (hi:i<m):xs[i]? = ys[i]? :=by
 rw [<-h,List.getElem?_take,if_pos hi]
theorem RowM.byt {w:Xk} {base:Nat} {v:Xl} {l:Xg} (h:RowM w base v l):Byt w v l:=by
 rcases h.2 with ⟨rfl,rfl⟩ | ⟨g,Aa,Ba,fz,rfl,hb,hg,hf,h1,h2,h3,h4⟩
 ·exact⟨h.1,by simp [maxLen],.inl ⟨rfl,rfl⟩⟩
 ·refine⟨h.1,by omega,?_⟩
  by_cases h0:l=[]
  ·subst h0
   exact .inr (.inl ⟨_,Aa,rfl,h2,rfl⟩)
  ·refine .inr (.inr ⟨g,0,Aa,rfl,h1,h2,h0,(Array.getElem?_eq_some_iff.1 hg).1,fun i hi=> ?_⟩)
   rw [Nat.zero_add,cell_of_row w g i Ba _ fz hg]
   have:=zso h4 hi
   rw [zfp hi]at this
   simpa using this
def strL (s:ByteArray):Xg:=s.data.toList.map (fun b=>(b.toNat:Int))
theorem zzI (s:ByteArray):okB (strL s):=by
 intro x hx
 obtain⟨b,_,rfl⟩:=List.mem_map.1 hx
 have:=b.toNat_lt
 exact⟨by omega,by omega⟩
theorem zcg (s:ByteArray):(strL s).length=s.size:=by simp [strL]
theorem zhI (w:Xk) (s:ByteArray) (hs:s.size<=1000):∃w' cap,(convert 9 22 (.string s)).run Tryz.prog w=.ok (.slice (some ⟨w.heap.size,0,none⟩) s.size cap) w'∧RowM w' w.heap.size (.slice (some ⟨w.heap.size,0,none⟩) s.size cap) (strL s)∧Below w.heap.size w w':=by
 refine⟨_,_,run_bytes_of_string w 9 22 5 s Tryz.underlying9 Tryz.underlying22 Tryz.underlying5,?_,?_⟩
 ·have Ca:=grownCap_ge w s.size 0 5
  have Ba:=grownCap_le_maxLen w s.size 0 5 (by unfold maxLen;omega)
  generalize grownCap w s.size 0 5=cap at *
  have Aa:(bytesRow s cap).size=cap:=by simp [bytesRow];omega
  refine⟨zzI s,.inr ⟨w.heap.size,cap,bytesRow s cap,_,by rw [zcg],Nat.le_refl _,heap_alloc_new w.drew _,fun j hj hh=>by simp only [Aa]at hh;omega,by rw [zcg];omega,Ba,Aa,?_⟩⟩
  rw [zcg]
  simp [bytesRow,vals,strL]
 ·exact ((Below.refl w.heap.size w).drew).alloc (by simp) _
def OwAttrM (w:Xk) (C:Xj) (x:Xg×Xg) (F:Xh):Prop:=∃a b,C=[a,b]∧RowM w 0 a x.1∧RowM w 0 b x.2∧F=FB a++FB b
def OwAttrsM (w:Xk) (v:Xl) (l:List (Xg×Xg)) (F:Xh):Prop:=OwElems w 132 2 v l (OwAttrM w) F
def OwNodeM:(n:Nat)->Xk->Xj->Tr n->Xh->Prop
 | 0=>fun _ _ _ _=>False
 | n+1=>fun w C t F=>∃a b c d Fc Fd,C=[.int .i64 t.kind,a,b,c,d]∧-9223372036854775808<=t.kind∧t.kind<=9223372036854775807∧RowM w 0 a t.name∧RowM w 0 b t.text∧
   OwAttrsM w c t.attrs Fc∧OwElems w 29 5 d t.kids (OwNodeM n w) Fd∧F=FB a++FB b++Fc++Fd
def OwKidsM (n:Nat) (w:Xk) (v:Xl) (l:List (Tr n)) (F:Xh):Prop:=OwElems w 29 5 v l (OwNodeM n w) F
theorem OwAttrsM.frm {w w':Xk} {v:Xl} {l:List (Xg×Xg)} {F S:Xh} (h:OwAttrsM w v l F) (f:Frm w w' S) (hd:∀g∈F,g∉S):OwAttrsM w' v l F:=
 OwElems.frm h f hd (fun C x G ⟨a,b,e,h1,h2,h3⟩ hG=>by
  subst h3
  exact⟨a,b,e,h1.frm f (fun g hg=>hG g (by simp [hg])),h2.frm f (fun g hg=>hG g (by simp [hg])),rfl⟩)
theorem OwNodeM.frm {n:Nat} {w w':Xk} {C:Xj} {t:Tr n} {F S:Xh} (h:OwNodeM n w C t F) (f:Frm w w' S) (hd:∀g∈F,g∉S):OwNodeM n w' C t F:=by
 induction n generalizing C F with
 | zero=>exact h
 | succ n ih=>
  obtain⟨a,b,c,d,Fc,Fd,e,k1,k2,h1,h2,h3,h4,rfl⟩:=h
  exact⟨a,b,c,d,Fc,Fd,e,k1,k2,h1.frm f (fun g hg=>hd g (by simp [hg])),h2.frm f (fun g hg=>hd g (by simp [hg])),h3.frm f (fun g hg=>hd g (by simp [hg])),
   OwElems.frm h4 f (fun g hg=>hd g (by simp [hg])) (fun C x G hr hG=>ih hr hG),rfl⟩
theorem OwNodeM.keep {n:Nat} {w w':Xk} {C:Xj} {t:Tr n} {F:Xh} (h:OwNodeM n w C t F) (hb:Below w.heap.size w w'):OwNodeM n w' C t F:=h.frm (Frm.ofBelow hb []) (fun _ _=>by simp)
theorem OwKidsM.frm {n:Nat} {w w':Xk} {v:Xl} {l:List (Tr n)} {F S:Xh} (h:OwKidsM n w v l F) (f:Frm w w' S) (hd:∀g∈F,g∉S):OwKidsM n w' v l F:=OwElems.frm h f hd (fun C x G hr hG=>OwNodeM.frm hr f hG)
theorem OwAttrsM.rd {w:Xk} {v:Xl} {l:List (Xg×Xg)} {F:Xh} (h:OwAttrsM w v l F):RdAttrs w v l:=OwElems.rd h (OwElems.len h) (fun C x G ⟨a,b,e,h1,h2,_⟩=>⟨a,b,e,h1.byt,h2.byt⟩)
theorem OwNodeM.rd {n:Nat} {w:Xk} {C:Xj} {t:Tr n} {F:Xh} (h:OwNodeM n w C t F):RdNode n w C t:=by
 induction n generalizing C F with
 | zero=>exact h
 | succ n ih=>
  obtain⟨a,b,c,d,Fc,Fd,e,k1,k2,h1,h2,h3,h4,rfl⟩:=h
  exact⟨a,b,c,d,e,k1,k2,h1.byt,h2.byt,h3.rd,OwElems.rd h4 (OwElems.len h4) (fun C x G hr=>ih hr)⟩
theorem OwKidsM.rd {n:Nat} {w:Xk} {v:Xl} {l:List (Tr n)} {F:Xh} (h:OwKidsM n w v l F):RdKids n w v l:=OwElems.rd h (OwElems.len h) (fun C x G hr=>OwNodeM.rd hr)
theorem OwAttrsM.nil (w:Xk):OwAttrsM w (.slice none 0 0) [] []:=⟨[],[],rfl,rfl,fun i hi=>by simp at hi,⟨by simp,.inl ⟨rfl,rfl⟩⟩,rfl⟩
theorem OwKidsM.nil (n:Nat) (w:Xk):OwKidsM n w (.slice none 0 0) [] []:=⟨[],[],rfl,rfl,fun i hi=>by simp at hi,⟨by simp,.inl ⟨rfl,rfl⟩⟩,rfl⟩
theorem OwElems.push {α:Type} {R:Xk->Xj->α->Xh->Prop} (hRf:∀{w w':Xk} {S:Xh} {C:Xj} {x:α} {G:Xh},R w C x G->Frm w w' S->(∀g∈G,g∉S)->R w' C x G)
  {w w':Xk} {e:Xm} {size:Nat} {v:Xl} {l:List α} {Cs:List (Xj)} {Fs:List (Xh)} {C:Xj} {y:α} {G:Xh} {g cap:Nat}
  (h1:Cs.length=l.length) (h2:Fs.length=l.length) (h3:∀i (hi:i<l.length),(Cs.getD i []).length=size∧R w (Cs.getD i []) l[i] (Fs.getD i []))
  (hN:(FB v++Fs.flatten).Nodup) (hC:C.length=size) (hy:R w C y G) (hGN:G.Nodup) (hFG:∀g∈FB v++Fs.flatten,g∉G) (hlt:∀q,q∈FB v++Fs.flatten∨q∈G->q<w.heap.size)
  (k1:w'.ownsRow 0 e size (.slice (some ⟨g,0,none⟩) (l.length+1) cap) (l.length+1) (Cs.flatten++C)) (k2:w.grownBy w' v.ownBlock) (k3:v.ownBlock=some g∨g=w.heap.size) :
  OwElems w' e size (.slice (some ⟨g,0,none⟩) (l.length+1) cap) (l++[y]) (R w') (g::(Fs.flatten++G))∧(g::(Fs.flatten++G)).Nodup∧(∀q∈g::(Fs.flatten++G),q∈FB v++Fs.flatten∨q∈G∨q=w.heap.size):=by
 have Ba:∀q∈Fs.flatten,q∉v.ownBlock.toList:=fun q hq hv=>(List.nodup_append.1 hN).2.2 q (by simpa [FB]using hv) q hq rfl
 have Aa:∀q∈G,q∉v.ownBlock.toList:=fun q hq hv=>hFG q (List.mem_append_left _ (by simpa [FB]using hv)) hq
 have hf:=Frm.ofGrown k2
 refine⟨⟨Cs++[C],Fs++[G],by simp [h1],by simp [h2],fun i hi=> ?_,?_,?_⟩,?_,?_⟩
 ·by_cases hil:i<l.length
  ·have a:=h3 i hil
   have e1:(Cs++[C]).getD i []=Cs.getD i []:=by rw [List.getD_eq_getElem?_getD,List.getD_eq_getElem?_getD,List.getElem?_append_left (by omega)]
   have e2:(Fs++[G]).getD i []=Fs.getD i []:=by rw [List.getD_eq_getElem?_getD,List.getD_eq_getElem?_getD,List.getElem?_append_left (by omega)]
   rw [e1,e2,List.getElem_append_left hil]
   exact⟨a.1,hRf a.2 hf (fun q hq=>Ba q (zaH hq))⟩
  ·have e0:i=l.length:=by simp at hi;omega
   subst e0
   have e1:(Cs++[C]).getD l.length []=C:=by rw [<-h1];simp
   have e2:(Fs++[G]).getD l.length []=G:=by rw [<-h2];simp
   rw [e1,e2]
   simp only [List.getElem_concat_length]
   exact⟨hC,hRf hy hf Aa⟩
 ·simp only [List.length_append,List.length_cons,List.length_nil,List.flatten_append,List.flatten_cons,List.flatten_nil,List.append_nil]
  exact k1
 ·simp [FB,Value.ownBlock]
 ·rw [List.nodup_cons]
  refine⟨fun hq=> ?_,List.nodup_append.2 ⟨(List.nodup_append.1 hN).2.1,hGN,fun a ha b hb Ca=>hFG a (List.mem_append_right _ ha) (Ca ▸ hb)⟩⟩
  rcases List.mem_append.1 hq with hq | hq
  ·rcases k3 with k3 | k3
   ·exact Ba g hq (by simp [k3])
   ·have:=hlt g (.inl (List.mem_append_right _ hq));omega
  ·rcases k3 with k3 | k3
   ·exact Aa g hq (by simp [k3])
   ·have:=hlt g (.inr hq);omega
 ·intro q hq
  rcases List.mem_cons.1 hq with rfl | hq
  ·rcases k3 with k3 | k3
   ·exact .inl (List.mem_append_left _ (by simp [FB,k3]))
   ·exact .inr (.inr k3)
  ·rcases List.mem_append.1 hq with hq | hq
   ·exact .inl (List.mem_append_right _ hq)
   ·exact .inr (.inl hq)
theorem zsc {α:Type} {R:Xk->Xj->α->Xh->Prop} (hRf:∀{w w':Xk} {S:Xh} {C:Xj} {x:α} {G:Xh},R w C x G->Frm w w' S->(∀g∈G,g∉S)->R w' C x G)
  {w:Xk} {ops:Array Oper} {rest:List Oper} {o:Oper} {a:Act} {Q:Exit->Act->Xk->Prop} (hgd:o.guard=none) (s x:Operand) (t:Xm)
  (ho:o.op=.call { callee:=.builtin .append,args:= #[s,x],argTypes:= #[t,t] })
  (e:Xm) (i:TypeInfo) (z:Xl) (size bytes:Nat) (ht:Tryz.prog.underlying t=some (.slice e)) (hi:Tryz.prog.info? e=some i) (hz:i.zero=some z)
  (hsize:i.size=size) (hby:i.bytes=bytes) (hzs:z.cells.size=size) (hsz:0<size)
  (v:Xl) (l:List α) (F:Xh) (hs:a.eval s=v) (h:OwElems w e size v l (R w) F) (hN:F.Nodup)
  (ad:Addr) (c:Nat) (C:Xj) (y:α) (G:Xh) (hx:a.eval x=.slice (some ad) 1 c) (hC:C.length=size) (hcell:∀j u,C[j]? = some u->w.cell? (ad.add j)=some u) (h1:∀u∈C,u.oneCell'=true)
  (hy:R w C y G) (hGN:G.Nodup) (hFG:∀g∈F,g∉G) (hlt:∀q,q∈F∨q∈G->q<w.heap.size) (h63:l.length+1<=maxLen) (hbytes:(l.length+1)*bytes<=140737488355328)
  (hK:∀g cap w' F',OwElems w' e size (.slice (some ⟨g,0,none⟩) (l.length+1) cap) (l++[y]) (R w') F'->F'.Nodup->(∀q∈F',q∈F∨q∈G∨q=w.heap.size)->Frm w w' (FB v)->g<w'.heap.size->wpList Tryz.prog ops Q rest (a.put o.dst (.slice (some ⟨g,0,none⟩) (l.length+1) cap)) w'):wpList Tryz.prog ops Q (o::rest) a w:=by
 obtain⟨Cs,Fs,e1,e2,e3,e4,rfl⟩:=h
 refine wpList_append_lies w hgd s x t ho 0 e i z size bytes ht hi hz hsize hby hzs hsz v l.length Cs.flatten hs e4 ad 1 c C hx (by omega) hcell h1 (by omega) h63 hbytes (Nat.zero_le _) w.heap.size rfl ?_
 intro g cap w' k1 k2 k3 k4
 obtain⟨m1,m2,m3⟩:=OwElems.push (R:=R) hRf e1 e2 e3 hN hC hy hGN hFG hlt k1 k2 k3
 exact hK g cap w' _ m1 m2 m3 (Frm.ofGrown k2) k4
theorem zeJ {α:Type} {R:Xk->Xj->α->Xh->Prop} (hRf:∀{w w':Xk} {S:Xh} {C:Xj} {x:α} {G:Xh},R w C x G->Frm w w' S->(∀g∈G,g∉S)->R w' C x G)
  {w:Xk} {ops:Array Oper} {o:Oper} {a:Act} {K:Act->Xk->Prop} {Q:Exit->Act->Xk->Prop} {E:Prop} (hgd:o.guard=none) (s x:Operand) (t:Xm)
  (ho:o.op=.call { callee:=.builtin .append,args:= #[s,x],argTypes:= #[t,t] })
  (e:Xm) (i:TypeInfo) (z:Xl) (size bytes:Nat) (ht:Tryz.prog.underlying t=some (.slice e)) (hi:Tryz.prog.info? e=some i) (hz:i.zero=some z)
  (hsize:i.size=size) (hby:i.bytes=bytes) (hzs:z.cells.size=size) (hsz:0<size)
  (v:Xl) (l:List α) (F:Xh) (hs:a.eval s=v) (h:OwElems w e size v l (R w) F) (hN:F.Nodup)
  (ad:Addr) (c:Nat) (C:Xj) (y:α) (G:Xh) (hx:a.eval x=.slice (some ad) 1 c) (hC:C.length=size) (hcell:∀j u,C[j]? = some u->w.cell? (ad.add j)=some u) (h1:∀u∈C,u.oneCell'=true)
  (hy:R w C y G) (hGN:G.Nodup) (hFG:∀g∈F,g∉G) (hlt:∀q,q∈F∨q∈G->q<w.heap.size) (h63:l.length+1<=maxLen) (hbytes:(l.length+1)*bytes<=140737488355328)
  (hK:∀g cap w' F',OwElems w' e size (.slice (some ⟨g,0,none⟩) (l.length+1) cap) (l++[y]) (R w') F'->F'.Nodup->(∀q∈F',q∈F∨q∈G∨q=w.heap.size)->Frm w w' (FB v)->g<w'.heap.size->K (a.put o.dst (.slice (some ⟨g,0,none⟩) (l.length+1) cap)) w'):if Region.wanted o (yielded ops a.tmps)=true then Oper.wp Tryz.prog o a w K Q else E:=by
 obtain⟨Cs,Fs,e1,e2,e3,e4,rfl⟩:=h
 refine step_append_lies w hgd s x t ho 0 e i z size bytes ht hi hz hsize hby hzs hsz v l.length Cs.flatten hs e4 ad 1 c C hx (by omega) hcell h1 (by omega) h63 hbytes (Nat.zero_le _) w.heap.size rfl ?_
 intro g cap w' k1 k2 k3 k4
 obtain⟨m1,m2,m3⟩:=OwElems.push (R:=R) hRf e1 e2 e3 hN hC hy hGN hFG hlt k1 k2 k3
 exact hK g cap w' _ m1 m2 m3 (Frm.ofGrown k2) k4
theorem zhh (n:Int):bits .and .i64 n 255=n % 256:=by
 have Aa:(BitVec.ofInt 64 255).toNat=2 ^ 8-1:=by decide
 have Ba:(BitVec.ofInt 64 n &&& BitVec.ofInt 64 255).toNat=(n % ((2 ^ 64:Nat):Int)).toNat % 2 ^ 8:=by
  rw [BitVec.toNat_and,BitVec.toNat_ofInt,Aa,Nat.and_two_pow_sub_one_eq_mod]
 show IntKind.i64.wrap ((BitVec.ofInt 64 n &&& BitVec.ofInt 64 255).toNat:Nat)=n % 256
 rw [Ba,IntKind.wrap_i64]
 omega
structure Cur (w0 w:Xk) (g:Nat) (code:Xl) (l:Xg):Prop where
 bytes:Byt w0 code l
 below:Below w0.heap.size w0 w
 new:w0.heap.size<=g
 cells:∃(i:Nat) (h:Int),i<=l.length∧w.heap[g]? = some (.cells #[code,.int .i64 i,.int .i64 h] 123 (0,0))
theorem Cur.lt {w0 w:Xk} {g:Nat} {code:Xl} {l:Xg} (h:Cur w0 w g code l):g<w.heap.size:=by
 obtain⟨i,x,_,hg⟩:=h.cells
 by_cases hlt:g<w.heap.size
 ·exact hlt
 ·rw [Array.getElem?_eq_none (by omega)]at hg;cases hg
theorem Cur.keep {w0 w w':Xk} {g:Nat} {code:Xl} {l:Xg} {row:Option Nat} (h:Cur w0 w g code l) (hg:w.grownBy w' row) (hne:some g≠row) (hr:∀k,row=some k->w0.heap.size<=k):Cur w0 w' g code l:=by
 refine⟨h.bytes,h.below.grown hg h.below.size hr,h.new,?_⟩
 obtain⟨i,x,hi,hc⟩:=h.cells
 exact⟨i,x,hi,(hg.block g h.lt hne).trans hc⟩
theorem Cur.keepAll {w0 w w':Xk} {g:Nat} {code:Xl} {l:Xg} (h:Cur w0 w g code l) (hB:Below w.heap.size w w'):Cur w0 w' g code l:=
 h.keep (Below.toGrown hB none) (by simp) (fun k hk=>by cases hk)
theorem zfT (w:Xk) (g j:Nat) (v:Xl):w.grownBy (w.setCell ⟨g,j,none⟩ v) (some g):=
 ⟨rfl,rfl,rfl,by simp,fun k _ hk=>heap_setCell_other w ⟨g,j,none⟩ k v (fun e=>hk (by simp [e]))⟩
theorem zjK {a b:Xk} {row:Option Nat} (h:a.grownBy b row) (n:Nat):a.grownBy (b.drewN n) row:=⟨h.os,h.tape,h.output,h.size,h.block⟩
theorem ztA {a b:Xk} {row:Option Nat} (h:a.grownBy b row):a.grownBy b.drew row:=⟨h.os,h.tape,h.output,h.size,h.block⟩
theorem Cur.turn {w0 w w':Xk} {g:Nat} {code:Xl} {l:Xg} (h:Cur w0 w g code l) (hw:w.grownBy w' (some g)) (i:Nat) (x:Int) (hi:i<=l.length)
  (hc:w'.heap[g]? = some (.cells #[code,.int .i64 i,.int .i64 x] 123 (0,0))):Cur w0 w' g code l:=
 ⟨h.bytes,h.below.grown hw h.below.size (fun k hk=>by cases hk;exact h.new),h.new,i,x,hi,hc⟩
set_option maxHeartbeats 1600000 in
set_option maxRecDepth 1000000 in
theorem zde (w0 w:Xk) (g:Nat) (code:Xl) (l:Xg) (h:Cur w0 w g code l) :
  Calls Tryz.prog 70 #[.pointer (some ⟨g,0,none⟩)] w fun e w'=>∃x:Int,0<=x∧x<=255∧e=.returned (.int .i64 x)∧Cur w0 w' g code l∧w.grownBy w' (some g):=by
 obtain⟨i,x,hi,hg⟩:=h.cells
 have c0:w.cell? ⟨g,0,none⟩=some code:=by rw [cell_of_row w g 0 _ _ _ hg];rfl
 have c1:w.cell? ⟨g,1,none⟩=some (.int .i64 i):=by rw [cell_of_row w g 1 _ _ _ hg];rfl
 have c2:w.cell? ⟨g,2,none⟩=some (.int .i64 x):=by rw [cell_of_row w g 2 _ _ _ hg];rfl
 have f1:w.frozen? ⟨g,1,none⟩=false:=frozen_of_row w g 1 _ _ hg
 have f2:w.frozen? ⟨g,2,none⟩=false:=frozen_of_row w g 2 _ _ hg
 by_cases hlt:i<l.length
 ·obtain⟨Fa,hm,⟨rfl,rfl⟩ | ⟨y,Ba,rfl,hc,rfl⟩ | ⟨b,Aa,Ba,rfl,h1,h2,h3,h4,h5⟩⟩:=h.bytes
  ·simp at hlt
  ·simp at hlt
  obtain⟨c,hc⟩:∃c,c=l.getD i 0:=⟨_,rfl⟩
  have Ka:w.cell? ⟨b,Aa+i,none⟩=some (.int .u8 c):=by rw [hc];exact (h.below.cell (p:=⟨b,Aa+i,none⟩) h4).trans (h5 i hlt)
  have Ca:0<=c∧c<=255:=by rw [hc,List.getD_eq_getElem?_getD];exact Fa.at _
  have Ia:b≠g:=by have:=h.new;omega
  have Ga:(i:Int)<(l.length:Int):=by omega
  unfold maxLen at hm h2
  clear hc h5
  have HG:=hide hg
  have HH:=hide h
  clear hg h
  obtain⟨Da,Ha⟩:=Ca
  go_enter Tryz.func70,Tryz.ntmps70
  go_wp2
  generalize wrap64 (wrap64 (x*6364136223846793005)+1442695040888963407)=y
  go_quiet (fail)
  go_wp2
  go_quiet (fail)
  go_wp2
  rw [zhh]
  generalize bits BinOp.xor IntKind.i64 (y / 8589934592) (y / 35184372088832)=z
  go_quiet (fail)
  go_wp2
  rw [zhh]
  go_ret
  refine⟨(z % 256+c) % 256,by omega,by omega,rfl,(zaa HH).turn ?hw (i+1) y (by omega) ?hc,?hw⟩
  case hw=>repeat (first | exact zfT _ _ _ _ | refine zjK ?_ _ | refine zaA ?_ (zfT _ _ _ _))
  case hc=>
   rw [show ((i+1:Nat):Int)=(i:Int)+1 by omega]
   exact heap_setCell_same _ g 1 _ _ _ (heap_setCell_same w g 2 _ _ _ (zaa HG))
 ·obtain⟨a,Ba,rfl,La,Ja⟩:=h.bytes.shape
  have hm:=h.bytes.2.1
  unfold maxLen at hm
  have Ga:¬ (i:Int)<(l.length:Int):=by omega
  have HG:=hide hg
  have HH:=hide h
  clear hg h
  go_enter Tryz.func70,Tryz.ntmps70
  go_wp2
  generalize wrap64 (wrap64 (x*6364136223846793005)+1442695040888963407)=y
  go_quiet (fail)
  go_wp2
  go_quiet (fail)
  go_wp2
  rw [zhh]
  generalize bits BinOp.xor IntKind.i64 (y / 8589934592) (y / 35184372088832)=z
  go_ret
  refine⟨z % 256,by omega,by omega,rfl,(zaa HH).turn ?hw i y hi ?hc,?hw⟩
  case hw=>repeat (first | exact zfT _ _ _ _ | refine zjK ?_ _ | refine zaA ?_ (zfT _ _ _ _))
  case hc=>exact heap_setCell_same w g 2 _ _ _ (zaa HG)
theorem zla {x n:Int} (hx0:0<=x) (hn:1<=n):0<=x % n∧x % n<n:=⟨Int.emod_nonneg _ (by omega),Int.emod_lt_of_pos _ (by omega)⟩
set_option maxHeartbeats 1600000 in
theorem zbv (w0 w:Xk) (g:Nat) (code:Xl) (l:Xg) (n:Int) (h:Cur w0 w g code l) (hn:1<=n) (hn1:n<=1000000000) :
  Calls Tryz.prog 52 #[.pointer (some ⟨g,0,none⟩),.int .i64 n] w fun e w'=>∃x:Int,0<=x∧x<n∧e=.returned (.int .i64 x)∧Cur w0 w' g code l∧w.grownBy w' (some g):=by
 by_cases h256:n<=256
 ·go_enter Tryz.func52,Tryz.ntmps52
  go_wp2_with fail
  refine (zde w0 w g code l h).mono ?_
  rintro e w1 ⟨x,Fa,Ka,rfl,hC,hG⟩
  have hb:=zla Fa hn
  have HB:=hide hb
  clear hb
  go_wp2
  go_ret
  exact⟨_,(zaa HB).1,(zaa HB).2,rfl,hC,hG⟩
 ·go_enter Tryz.func52,Tryz.ntmps52
  go_wp2_with fail
  refine (zde w0 w g code l h).mono ?_
  rintro e w1 ⟨x1,Fa,Ka,rfl,Ia,Ha⟩
  go_wp2_with fail
  refine (zde w0 w1 g code l Ia).mono ?_
  rintro e w2 ⟨x2,Qa,Ma,rfl,Ca,Da⟩
  go_wp2_with fail
  refine (zde w0 w2 g code l Ca).mono ?_
  rintro e w3 ⟨x3,Na,Pa,rfl,Ga,Aa⟩
  go_wp2_with fail
  refine (zde w0 w3 g code l Ga).mono ?_
  rintro e w4 ⟨x4,Oa,La,rfl,Ja,Ba⟩
  have hb:=zla (x:=x1*16777216+x2*65536+x3*256+x4) (by omega) hn
  have HB:=hide hb
  have HG:=hide (zaA (zaA (zaA Ha Da) Aa) Ba)
  clear hb Ha Da Aa Ba Ia Ca Ga
  go_wp2
  go_ret
  exact⟨_,(zaa HB).1,(zaa HB).2,rfl,Ja,zaa HG⟩
set_option maxHeartbeats 1600000 in
theorem zfg (w0 w:Xk) (g:Nat) (code:Xl) (l:Xg) (n:Int) (h:Cur w0 w g code l) (hn:1<=n) (hn1:n<=1000000000) :
  Calls Tryz.prog 54 #[.pointer (some ⟨g,0,none⟩),.int .i64 n] w fun e w'=>∃b:Bool,e=.returned (.bool b)∧Cur w0 w' g code l∧w.grownBy w' (some g):=by
 go_enter Tryz.func54,Tryz.ntmps54
 go_wp2_with fail
 refine (zbv w0 w g code l n h hn hn1).mono ?_
 rintro e w1 ⟨x,Aa,Ba,rfl,hC,hG⟩
 go_wp2
 go_ret
 exact⟨_,rfl,hC,hG⟩
theorem Cur.made (w:Xk) (code:Xl) (l:Xg) (x:Int) (h:Byt w code l):Cur w (w.alloc (.cells #[code,.int .i64 0,.int .i64 x] 123)) w.heap.size code l:=
 ⟨h,(Below.refl _ _).alloc (Nat.le_refl _) _,Nat.le_refl _,0,x,Nat.zero_le _,heap_alloc_new w _⟩
set_option maxHeartbeats 1600000 in
theorem zvC (w:Xk) (code:Xl) (l:Xg) (h:Byt w code l) :
  Calls Tryz.prog 26 #[code] w fun e w'=>e=.returned (.pointer (some ⟨w.heap.size,0,none⟩))∧Cur w w' w.heap.size code l∧Below w.heap.size w w':=by
 have hm:=h.2.1
 unfold maxLen at hm
 by_cases h0:l=[]
 ·obtain⟨a,Da,rfl,_⟩:=h.shape
  subst h0
  go_enter Tryz.func26,Tryz.ntmps26
  go_wp2
  refine wp_loop_rounds 1 ?_
  rw [rounds_succ]
  go_wp2
  go_ret
  exact⟨rfl,Cur.made _ _ _ _ h,(Below.refl _ _).alloc (Nat.le_refl _) _⟩
 ·have h':=h
  obtain⟨Ia,_,⟨rfl,rfl⟩ | ⟨x,Da,rfl,hc,rfl⟩ | ⟨b,Ga,Da,rfl,h1,h2,h3,h4,h5⟩⟩:=h'
  ·exact absurd rfl h0
  ·exact absurd rfl h0
  go_enter Tryz.func26,Tryz.ntmps26
  go_wp2
  go_loop [3,4] (fun x i=>∃(k:Nat) (y:Int),k<=l.length∧i=.int .i64 k∧x=.int .i64 y) (fun _ i=>l.length-(intOf i).toNat)
  case atStart=>exact⟨0,_,Nat.zero_le _,rfl,rfl⟩
  case round=>
   obtain⟨k,y,hk,rfl,rfl⟩:=hrel
   by_cases hlt:k<l.length
   ·obtain⟨c,Ca⟩:∃c,c=l.getD k 0:=⟨_,rfl⟩
    have Ka:w.cell? ⟨b,Ga+k,none⟩=some (.int .u8 c):=by rw [Ca];exact h5 k hlt
    have Fa:0<=c∧c<=255:=by rw [Ca,List.getD_eq_getElem?_getD];exact Ia.at _
    have Ba:(k:Int)<(l.length:Int):=by omega
    obtain⟨Ha,Ja⟩:=Fa
    clear h5 Ca
    by_cases h4k:k<4000
    ·have Aa:(k:Int)<4000:=by omega
     go_wp2
     go_round
     case rel=>exact⟨k+1,_,by omega,by go_num,rfl⟩
     case measure=>simp [intOf];omega
    ·have Aa:¬ (k:Int)<4000:=by omega
     go_wp2
     go_ret
     exact⟨rfl,Cur.made _ _ _ _ h,(Below.refl _ _).alloc (Nat.le_refl _) _⟩
   ·have Ba:decide ((k:Int)<(l.length:Int))=false:=by simp;omega
    clear h5
    go_wp2
    go_ret
    exact⟨rfl,Cur.made _ _ _ _ h,(Below.refl _ _).alloc (Nat.le_refl _) _⟩
theorem zcU {a b c:Xk} {row row':Option Nat} (h:a.grownBy b row) (k:b.grownBy c row') (hr:∀q,row'=some q->a.heap.size<=q):a.grownBy c row:=
 ⟨k.os.trans h.os,k.tape.trans h.tape,k.output.trans h.output,Nat.le_trans h.size k.size,fun i hi Aa=>(k.block i (Nat.lt_of_lt_of_le hi h.size) (fun e=>by have:=hr i e.symm;omega)).trans (h.block i hi Aa)⟩
theorem zcG {a b c:Xk} {row:Option Nat} (h:a.grownBy b row) (k:Below b.heap.size b c):a.grownBy c row:=zcU h (Below.toGrown k none) (fun q hq=>by cases hq)
set_option maxRecDepth 100000
theorem zcW {a b c:Xk} {row:Option Nat} (h:Below a.heap.size a b) (k:b.grownBy c row):a.grownBy c row:=zaA (Below.toGrown h row) k
set_option maxHeartbeats 3200000 in
theorem zlp (w0 w:Xk) (g:Nat) (code:Xl) (l:Xg) (h:Cur w0 w g code l) :
  Calls Tryz.prog 100 #[.pointer (some ⟨g,0,none⟩)] w fun e w'=>∃a c m,e=.returned (.slice a m.length c)∧RowM w' w.heap.size (.slice a m.length c) m∧m.length<=8∧Cur w0 w' g code l∧w.grownBy w' (some g):=by
 have Ma:=h.lt
 have hA:=(Below.refl w.heap.size w).alloc (Nat.le_refl _) (.cells #[.string ⟨#[120]⟩,.string ⟨#[]⟩,.string ⟨#[97,32,98]⟩,.string ⟨#[49,32,60,32,50]⟩,.string ⟨#[97,38,98]⟩,.string ⟨#[34,113,34]⟩,.string ⟨#[104,101,108,108,111]⟩,.string ⟨#[38,108,116,59]⟩,.string ⟨#[60,112,62]⟩,.string ⟨#[60,47,98,62]⟩] 9)
 have lt:=Loc.made w #[.string ⟨#[120]⟩,.string ⟨#[]⟩,.string ⟨#[97,32,98]⟩,.string ⟨#[49,32,60,32,50]⟩,.string ⟨#[97,38,98]⟩,.string ⟨#[34,113,34]⟩,.string ⟨#[104,101,108,108,111]⟩,.string ⟨#[38,108,116,59]⟩,.string ⟨#[60,112,62]⟩,.string ⟨#[60,47,98,62]⟩] 9
 have HC:=hide (zbv w0 _ g code l 10 (h.keepAll hA) (by omega) (by omega))
 have LL:=hide (And.intro hA lt)
 clear hA lt h
 go_enter Tryz.func100,Tryz.ntmps100
 go_wp2_with fail
 refine (zaa HC).mono ?_
 rintro e w1 ⟨x,Ia,Ka,rfl,Aa,hG⟩
 obtain⟨hA,lt⟩:=zaa LL
 clear LL HC
 have Ga:=lt.lt
 have Da:=lt.frm (Frm.ofGrown hG) (by simp;omega)
 have Ca:=zcW hA hG
 have La:=Ca.size
 obtain⟨k,rfl⟩:=Int.eq_ofNat_of_zero_le Ia
 obtain⟨s,hs,Fa⟩:∃s:ByteArray,w1.cell? ⟨w.heap.size,k,none⟩=some (.string s)∧s.size<=8:=by
  rw [Da.cell k]
  have hk:k<10:=by omega
  match k,hk with
  | 0,_=>exact⟨_,rfl,by decide⟩
  | 1,_=>exact⟨_,rfl,by decide⟩
  | 2,_=>exact⟨_,rfl,by decide⟩
  | 3,_=>exact⟨_,rfl,by decide⟩
  | 4,_=>exact⟨_,rfl,by decide⟩
  | 5,_=>exact⟨_,rfl,by decide⟩
  | 6,_=>exact⟨_,rfl,by decide⟩
  | 7,_=>exact⟨_,rfl,by decide⟩
  | 8,_=>exact⟨_,rfl,by decide⟩
  | 9,_=>exact⟨_,rfl,by decide⟩
 obtain⟨w2,Ja,Ha,Ba,hB⟩:=zhI w1 s (by omega)
 have KK:=hide (show ∃a c m,(Value.slice (some ⟨w1.heap.size,0,none⟩) s.size Ja)=.slice a m.length c∧RowM w2 w.heap.size (.slice a m.length c) m∧m.length<=8∧Cur w0 w2 g code l∧w.grownBy w2 (some g) from ⟨_,_,strL s,by rw [zcg],by rw [zcg];exact Ba.mono La,by rw [zcg];exact Fa,Aa.keepAll hB,zcG Ca hB⟩)
 clear hA lt Da hG Ca Aa Ba hB Ga
 have hk:(k:Int)<10:=Ka
 go_wp2_with fail
 go_ret
 obtain⟨a,c,m,e,h1⟩:=zaa KK
 exact⟨a,c,m,congrArg Ending.returned e,h1⟩
set_option maxHeartbeats 3200000 in
theorem zub (w0 w:Xk) (g:Nat) (code:Xl) (l:Xg) (h:Cur w0 w g code l) :
  Calls Tryz.prog 98 #[.pointer (some ⟨g,0,none⟩)] w fun e w'=>∃a c m,e=.returned (.slice a m.length c)∧RowM w' w.heap.size (.slice a m.length c) m∧m.length<=8∧Cur w0 w' g code l∧w.grownBy w' (some g):=by
 have Ma:=h.lt
 have hA:=(Below.refl w.heap.size w).alloc (Nat.le_refl _) (.cells #[.string ⟨#[112]⟩,.string ⟨#[98]⟩,.string ⟨#[105]⟩,.string ⟨#[100,105,118]⟩,.string ⟨#[117,108]⟩,.string ⟨#[108,105]⟩,.string ⟨#[98,114]⟩,.string ⟨#[104,49]⟩] 9)
 have lt:=Loc.made w #[.string ⟨#[112]⟩,.string ⟨#[98]⟩,.string ⟨#[105]⟩,.string ⟨#[100,105,118]⟩,.string ⟨#[117,108]⟩,.string ⟨#[108,105]⟩,.string ⟨#[98,114]⟩,.string ⟨#[104,49]⟩] 9
 have HC:=hide (zbv w0 _ g code l 8 (h.keepAll hA) (by omega) (by omega))
 have LL:=hide (And.intro hA lt)
 clear hA lt h
 go_enter Tryz.func98,Tryz.ntmps98
 go_wp2_with fail
 refine (zaa HC).mono ?_
 rintro e w1 ⟨x,Ia,Ka,rfl,Aa,hG⟩
 obtain⟨hA,lt⟩:=zaa LL
 clear LL HC
 have Ga:=lt.lt
 have Da:=lt.frm (Frm.ofGrown hG) (by simp;omega)
 have Ca:=zcW hA hG
 have La:=Ca.size
 obtain⟨k,rfl⟩:=Int.eq_ofNat_of_zero_le Ia
 obtain⟨s,hs,Fa⟩:∃s:ByteArray,w1.cell? ⟨w.heap.size,k,none⟩=some (.string s)∧s.size<=8:=by
  rw [Da.cell k]
  have hk:k<8:=by omega
  match k,hk with
  | 0,_=>exact⟨_,rfl,by decide⟩
  | 1,_=>exact⟨_,rfl,by decide⟩
  | 2,_=>exact⟨_,rfl,by decide⟩
  | 3,_=>exact⟨_,rfl,by decide⟩
  | 4,_=>exact⟨_,rfl,by decide⟩
  | 5,_=>exact⟨_,rfl,by decide⟩
  | 6,_=>exact⟨_,rfl,by decide⟩
  | 7,_=>exact⟨_,rfl,by decide⟩
 obtain⟨w2,Ja,Ha,Ba,hB⟩:=zhI w1 s (by omega)
 have KK:=hide (show ∃a c m,(Value.slice (some ⟨w1.heap.size,0,none⟩) s.size Ja)=.slice a m.length c∧RowM w2 w.heap.size (.slice a m.length c) m∧m.length<=8∧Cur w0 w2 g code l∧w.grownBy w2 (some g) from ⟨_,_,strL s,by rw [zcg],by rw [zcg];exact Ba.mono La,by rw [zcg];exact Fa,Aa.keepAll hB,zcG Ca hB⟩)
 clear hA lt Da hG Ca Aa Ba hB Ga
 have hk:(k:Int)<8:=Ka
 go_wp2_with fail
 go_ret
 obtain⟨a,c,m,e,h1⟩:=zaa KK
 exact⟨a,c,m,congrArg Ending.returned e,h1⟩
end Go.Proofs.YtgjolijncmkkhaaGreatDoor
namespace Go.Proofs.YtgjolijncmkkhaaGreatDoor
open Go.RowKit
set_option linter.unusedVariables false
def todo:List Bool->Nat
 | []=>0
 | b::l=>(if b then 0 else 1)+todo l
theorem zkq:∀(l:List Bool) (i:Nat),l[i]? = some false->todo (l.set i true)+1=todo l
 | [],i,h=>by simp at h
 | b::l,0,h=>by
  have e:b=false:=by simpa using h
  subst e
  simp only [List.set_cons_zero,todo,if_true,Bool.false_eq_true,if_false]
  omega
 | b::l,i+1,h=>by
  have ih:=zkq l i (by simpa using h)
  simp only [List.set_cons_succ,todo]
  omega
theorem znk:∀(l:List Bool),todo l=0->∀(i:Nat) (b:Bool),l[i]? = some b->b=true
 | [],_,i,b,h=>by simp at h
 | c::l,h0,0,b,h=>by
  have e:c=b:=by simpa using h
  subst e
  cases c with
  | true=>rfl
  | false=>simp [todo]at h0
 | c::l,h0,i+1,b,h=>znk l (by simp only [todo]at h0;omega) i b (by simpa using h)
theorem zpn (n:Nat):todo (List.replicate n false)=n:=by
 induction n with
 | zero=>rfl
 | succ n ih=>rw [List.replicate_succ];simp only [todo,Bool.false_eq_true,if_false];omega
theorem zao {md:Region.Mode} {ops:Array Oper} {L:Array Bool} {i:Nat} (hs:L.size=ops.size) (h:i∈Region.ready md ops L):L.toList[i]? = some false:=by
 unfold Region.ready at h
 rw [List.mem_filter,List.mem_range,Bool.and_eq_true]at h
 obtain⟨h1,h2,_⟩:=h
 have hi:i<L.size:=by omega
 rw [Array.getD_eq_getD_getElem?,Array.getElem?_eq_getElem hi]at h2
 rw [Array.getElem?_toList,Array.getElem?_eq_getElem hi]
 simpa using h2
theorem zml {md:Region.Mode} {ops:Array Oper} {L:Array Bool} (hs:L.size=ops.size) (h:todo L.toList=0):Region.ready md ops L=[]:=by
 rw [List.eq_nil_iff_forall_not_mem]
 intro i hi
 have:=znk _ h i false (zao hs hi)
 cases this
theorem zai {md:Region.Mode} {ops:Array Oper} {L:Array Bool} {i:Nat} {o:Oper} (h:i∈Region.ready md ops L) (ho:ops[i]? = some o) (j:Nat) (he:o.after.any (fun e=>Region.binds md e && e.on == j)=true):L.getD j false=true:=by
 unfold Region.ready at h
 rw [List.mem_filter,Bool.and_eq_true,ho]at h
 obtain⟨_,_,h3⟩:=h
 simp only [Option.map_some,Option.getD_some]at h3
 rw [Array.any_eq_true]at he
 obtain⟨k,hk,hb⟩:=he
 rw [Bool.and_eq_true,beq_iff_eq]at hb
 rw [Array.all_eq_true]at h3
 have:=h3 k hk
 rw [Bool.or_eq_true,hb.1,hb.2]at this
 simpa using this
theorem zft {md:Region.Mode} {ops:Array Oper} {L:Array Bool} {i:Nat} (h:i∈Region.ready md ops L):i<ops.size:=by
 unfold Region.ready at h
 rw [List.mem_filter,List.mem_range]at h
 exact h.1
theorem zcm {md:Region.Mode} {ops:Array Oper} {L:Array Bool} (hs:L.size=ops.size) (hb:(List.range ops.size).all (fun i=>((ops[i]?).map fun o=>o.after.all fun e=> !Region.binds md e || decide (e.on<i)).getD true)=true)
  (h:Region.ready md ops L=[]):∀(n i:Nat),i<n->i<ops.size->L.getD i false=true
 | 0,i,hn,_=>by omega
 | n+1,i,hn,hi=>by
  by_cases hlt:i<n
  ·exact zcm hs hb h n i hlt hi
  have e:i=n:=by omega
  subst e
  have hL:i<L.size:=by omega
  by_cases hf:L.getD i false=true
  ·exact hf
  exfalso
  have Ba:i∈Region.ready md ops L:=by
   unfold Region.ready
   rw [List.mem_filter,List.mem_range,Bool.and_eq_true]
   refine⟨hi,?_,?_⟩
   ·rw [Array.getD_eq_getD_getElem?,Array.getElem?_eq_getElem hL]at hf ⊢
    simpa using hf
   ·have Ca:=List.all_eq_true.1 hb i (List.mem_range.2 hi)
    rw [Array.getElem?_eq_getElem hi]at Ca ⊢
    simp only [Option.map_some,Option.getD_some]at Ca ⊢
    rw [Array.all_eq_true]at Ca ⊢
    intro k hk
    have Aa:=Ca k hk
    rw [Bool.or_eq_true]at Aa ⊢
    rcases Aa with Aa | Aa
    ·exact .inl Aa
    ·right
     have Da:(ops[i].after[k]).on<i:=by simpa using Aa
     exact zcm hs hb h i _ Da (by omega)
  rw [h]at Ba
  cases Ba
variable {P:Program} {ops:Array Oper} {Q:Exit->Act->Xk->Prop}
theorem ztY {o:Oper} {n l:Nat} {a:Act} {w:Xk} {K:Act->Xk->Prop} (hnd:∀c,o.op≠.defer c) (h:o.wp P a w K Q):o.wpIn (Fence.wide.inRound l) n P a w K Q:=by
 unfold Oper.wp at h
 unfold Oper.wpIn
 refine⟨fun _ _=>trivial,?_⟩
 rw [Oper.semAt_plain _ _ _ hnd]
 generalize (execOp a.eval o).run P w=r at *
 cases r with
 | ok x w'=>
  cases x<;>first
   | exact h
   | exact (h:False).elim
   | exact⟨(fun hd=>by cases hd),callsIn_wide.2 h⟩
   | exact⟨(fun hd=>by cases hd),fun c cs _=>let ⟨v,w',r,s⟩:=h c cs;⟨v,w',r,stepsIn_wide.2 s⟩⟩
 | halt x w'=>cases x<;>exact h
theorem zoC {n l:Nat} {md:Region.Mode} (hnd:∀o∈ops,∀c,o.op≠.defer c) (I:Array Bool->Act->Xk->Prop) (hsz:∀L a w,I L a w->L.size=ops.size)
  (hstep:∀L a w i o,I L a w->i∈Region.ready md ops L->ops[i]? = some o->if Region.wanted o (yielded ops a.tmps)=true then Oper.wp P o a w (I (L.setIfInBounds i true)) Q else I (L.setIfInBounds i true) (a.put o.dst undef) w)
  (hdone:∀L a w,I L a w->Region.ready md ops L=[]->Q .normal a w) :
  ∀(fuel:Nat) (L:Array Bool) (a:Act) (w:Xk),todo L.toList<=fuel->I L a w->wpAnyIn (Fence.wide.inRound l) n P md ops Q fuel L a w
 | 0,L,a,w,hf,hI=>by
  have hr:=zml (md:=md) (hsz L a w hI) (by omega)
  exact⟨hr,hdone L a w hI hr⟩
 | fuel+1,L,a,w,hf,hI=>by
  refine⟨fun hr=>hdone L a w hI hr,fun i hi=> ?_⟩
  have ho:=zkq _ _ (zao (hsz L a w hI) hi)
  have Aa:∀a' w',I (L.setIfInBounds i true) a' w'->wpAnyIn (Fence.wide.inRound l) n P md ops Q fuel (L.setIfInBounds i true) a' w':=fun a' w' h'=>
   zoC hnd I hsz hstep hdone fuel _ a' w' (by rw [Array.toList_setIfInBounds];omega) h'
  unfold wpOpIn
  cases hoi:ops[i]? with
  | none=>
   unfold Region.ready at hi
   rw [List.mem_filter,List.mem_range]at hi
   rw [Array.getElem?_eq_getElem hi.1]at hoi
   cases hoi
  | some o=>
   have hs:=hstep L a w i o hI hi hoi
   simp only []
   split
   ·rename_i hw
    rw [if_pos hw]at hs
    exact Oper.wpIn_mono Aa (ztY (hnd o (Array.mem_of_getElem? hoi)) hs)
   ·rename_i hw
    rw [if_neg hw]at hs
    exact⟨fun _ _=>trivial,Aa _ _ hs⟩
theorem zpx {n l id:Nat} {a:Act} {w:Xk} (hm:P.follows .mixedOrders=true) (hnd:∀o∈ops,∀c,o.op≠.defer c) (I:Array Bool->Act->Xk->Prop) (hsz:∀L a w,I L a w->L.size=ops.size)
  (h0:I (Array.replicate ops.size false) a w.drew)
  (hstep:∀L a w i o,I L a w->i∈Region.ready .any ops L->ops[i]? = some o->if Region.wanted o (yielded ops a.tmps)=true then Oper.wp P o a w (I (L.setIfInBounds i true)) Q else I (L.setIfInBounds i true) (a.put o.dst undef) w)
  (hdone:∀L a w,I L a w->Region.ready .any ops L=[]->Q .normal a w):(Code.region id ops true).wpIn (Fence.wide.inRound l) n P Q a w:=
 wpIn_region_any hm (zoC hnd I hsz hstep hdone _ _ _ _ (by rw [Array.toList_replicate,zpn];exact Nat.le_refl _) h0)
theorem ztv {md:Region.Mode} (I:Array Bool->Act->Xk->Prop) (hsz:∀L a w,I L a w->L.size=ops.size)
  (hstep:∀L a w i o,I L a w->i∈Region.ready md ops L->ops[i]? = some o->if Region.wanted o (yielded ops a.tmps)=true then Oper.wp P o a w (I (L.setIfInBounds i true)) Q else I (L.setIfInBounds i true) (a.put o.dst undef) w)
  (hdone:∀L a w,I L a w->Region.ready md ops L=[]->Q .normal a w) :
  ∀(fuel:Nat) (L:Array Bool) (a:Act) (w:Xk),todo L.toList<=fuel->I L a w->wpAny P md ops Q fuel L a w
 | 0,L,a,w,hf,hI=>by
  have hr:=zml (md:=md) (hsz L a w hI) (by omega)
  exact⟨hr,hdone L a w hI hr⟩
 | fuel+1,L,a,w,hf,hI=>by
  refine⟨fun hr=>hdone L a w hI hr,fun i hi=> ?_⟩
  have ho:=zkq _ _ (zao (hsz L a w hI) hi)
  have Aa:∀a' w',I (L.setIfInBounds i true) a' w'->wpAny P md ops Q fuel (L.setIfInBounds i true) a' w':=fun a' w' h'=>
   ztv I hsz hstep hdone fuel _ a' w' (by rw [Array.toList_setIfInBounds];omega) h'
  unfold wpOp
  cases hoi:ops[i]? with
  | none=>
   unfold Region.ready at hi
   rw [List.mem_filter,List.mem_range]at hi
   rw [Array.getElem?_eq_getElem hi.1]at hoi
   cases hoi
  | some o=>
   have hs:=hstep L a w i o hI hi hoi
   simp only []
   split
   ·rename_i hw
    rw [if_pos hw]at hs
    exact .inl (Oper.wp_mono Aa hs)
   ·rename_i hw
    rw [if_neg hw]at hs
    exact Aa _ _ hs
theorem zea {id:Nat} {a:Act} {w:Xk} (hm:P.follows .mixedOrders=true) (I:Array Bool->Act->Xk->Prop) (hsz:∀L a w,I L a w->L.size=ops.size)
  (h0:I (Array.replicate ops.size false) a w.drew)
  (hstep:∀L a w i o,I L a w->i∈Region.ready .any ops L->ops[i]? = some o->if Region.wanted o (yielded ops a.tmps)=true then Oper.wp P o a w (I (L.setIfInBounds i true)) Q else I (L.setIfInBounds i true) (a.put o.dst undef) w)
  (hdone:∀L a w,I L a w->Region.ready .any ops L=[]->Q .normal a w):(Code.region id ops true).wp P Q a w:=
 wp_region_any hm (ztv I hsz hstep hdone _ _ _ _ (by rw [Array.toList_replicate,zpn];exact Nat.le_refl _) h0)
end Go.Proofs.YtgjolijncmkkhaaGreatDoor
namespace Go.Proofs.YtgjolijncmkkhaaGreatDoor
open Go.RowKit
set_option linter.unusedVariables false
set_option maxRecDepth 100000
def La7 (w0 w1 w2:Xk) (g B0 j:Nat) (code:Xl) (l:Xg) (s:ByteArray) (a0:Xi) (c0:Nat) (m:List (Xg×Xg)) (F:Xh) (U11 U12:Xl) (L:Array Bool) (a:Act) (w:Xk):Prop:=
 ∃b0 b1 b2 b3 b4 b5 b6 b7 b8 b9 b10 b11 x3 x15 x16 x17 x18 x19 x20 x21 x22 x23 x24 x25,L = #[b0,b1,b2,b3,b4,b5,b6,b7,b8,b9,b10,b11]∧a={ tmps:= #[.pointer (some ⟨g,0,none⟩),undef,.slice none 0 0,x3,.slice (some ⟨B0,0,none⟩) 3 3,.int .i64 (j:Int),.slice (some ⟨B0,0,none⟩) 3 3,.int .i64 (j:Int),.slice (some ⟨B0,0,none⟩) 3 3,.int .i64 3,.bool true,U11,U12,.pointer (some ⟨g,0,none⟩),.bool true,x15,x16,x17,x18,x19,x20,x21,x22,x23,x24,x25,undef],defers:=[] }∧Cur w0 w g code l∧w1.grownBy w (some g)∧w2.heap.size<=w.heap.size∧(b10=false->OwAttrsM w (.slice a0 m.length c0) m F)∧(b11=false->x3=.slice a0 m.length c0)∧(b5=true->b7=true->∀q∈FB x20,q∉FB x22)∧(b0=true->x15=.slice a0 m.length c0)∧(b1=true->x16=.slice (some ⟨B0,0,none⟩) 3 3)∧(b2=true->x17=.int .i64 (j:Int))∧(b3=true->x18=.pointer (some ⟨B0,j,none⟩))∧(b4=true->x19=.string s)∧(b5=true->RowM w w2.heap.size x20 (strL s))∧(b6=true->x21=.pointer (some ⟨g,0,none⟩))∧(b7=true->∃l2,RowM w w2.heap.size x22 l2∧l2.length<=8)∧(b8=true->b5=true∧b7=true∧x23=.agg #[x20,x22])∧(b9=true->b8=true∧∃z,w2.heap.size<=z∧x24=.slice (some ⟨z,0,none⟩) 1 1∧Loc w z #[x20,x22] 132)∧(b10=true->b9=true∧b0=true∧∃a9 c9 l2 F9,x25=.slice a9 (m.length+1) c9∧OwAttrsM w x25 (m++[(strL s,l2)]) F9∧F9.Nodup∧Rng F9 w1.heap.size w.heap.size∧l2.length<=8)∧(b11=true->b10=true∧x3=x25)
theorem zwJ {i:Nat} (h:i<12):i=0∨i=1∨i=2∨i=3∨i=4∨i=5∨i=6∨i=7∨i=8∨i=9∨i=10∨i=11:=by omega
theorem OwAttrM.frm {w w':Xk} {S:Xh} {C:Xj} {x:Xg×Xg} {G:Xh} (h:OwAttrM w C x G) (f:Frm w w' S) (hG:∀g∈G,g∉S):OwAttrM w' C x G:=by
 obtain⟨a,b,e,h1,h2,h3⟩:=h
 subst h3
 exact⟨a,b,e,h1.frm f (fun g hg=>hG g (by simp [hg])),h2.frm f (fun g hg=>hG g (by simp [hg])),rfl⟩
theorem OwAttrM.lt {w:Xk} {C:Xj} {x:Xg×Xg} {G:Xh} (h:OwAttrM w C x G):∀g∈G,g<w.heap.size:=by
 obtain⟨a,b,_,h1,h2,rfl⟩:=h
 intro g hg
 rcases List.mem_append.1 hg with h | h
 ·exact (h1.lt g (by simpa [FB]using h)).2
 ·exact (h2.lt g (by simpa [FB]using h)).2
theorem OwElems.ltM {α:Type} {w:Xk} {e:Xm} {size:Nat} {v:Xl} {l:List α} {R:Xj->α->Xh->Prop} {F:Xh} (h:OwElems w e size v l R F) (hR:∀C x G,R C x G->∀g∈G,g<w.heap.size):∀g∈F,g<w.heap.size:=by
 obtain⟨Cs,Fs,h1,h2,h3,h4,rfl⟩:=h
 intro g hg
 rcases List.mem_append.1 hg with h | h
 ·exact (h4.lt g (by simpa [FB]using h)).2
 ·obtain⟨G,hG,Aa⟩:=List.mem_flatten.1 h
  obtain⟨i,hi,rfl⟩:=List.getElem_of_mem hG
  have:=(h3 i (by omega)).2
  rw [show Fs.getD i []=Fs[i] by simp [hi]]at this
  exact hR _ _ _ this g Aa
theorem znl:(Tryz.prog.info? 132).map (fun i=>(i.zero,i.size,i.bytes))=some (some (.agg #[.slice none 0 0,.slice none 0 0]),2,48):=by kernel_rfl
theorem Frm.someGrown {w w':Xk} {v:Xl} (f:Frm w w' (FB v)):w.grownBy w' v.ownBlock:=⟨f.os,f.tape,f.output,f.size,fun k hk hn=>f.block k hk (fun e=>hn (by simpa [FB,eq_comm]using e))⟩
theorem Cur.keepF {w0 w w':Xk} {g:Nat} {code v:Xl} {l:Xg} (h:Cur w0 w g code l) (f:Frm w w' (FB v)) (hg:g∉FB v) (hn:∀q∈FB v,w0.heap.size<=q):Cur w0 w' g code l:=
 h.keep f.someGrown (fun e=>hg (by simp [FB,<-e])) (fun k hk=>hn k (by simp [FB,hk]))
theorem zvQ {a b c:Xk} {row:Option Nat} {v:Xl} (h:a.grownBy b row) (f:Frm b c (FB v)) (hn:∀q∈FB v,a.heap.size<=q):a.grownBy c row:=zcU h f.someGrown (fun q hq=>hn q (by simp [FB,hq]))
def SmA (m:List (Xg×Xg)):Prop:=∀x∈m,x.1.length<=8∧x.2.length<=8
def zty (B:Nat) (w:Xk) (v:Xl) (m:List (Xg×Xg)):Prop:=∃F,OwAttrsM w v m F∧F.Nodup∧Rng F B w.heap.size∧SmA m
set_option maxHeartbeats 12800000 in
theorem zrP (w0 w:Xk) (g:Nat) (code:Xl) (l:Xg) (h:Cur w0 w g code l) :
  Calls Tryz.prog 99 #[.pointer (some ⟨g,0,none⟩)] w fun e w'=>∃a c m,e=.returned (.slice a m.length c)∧zty w.heap.size w' (.slice a m.length c) m∧m.length<=3∧Cur w0 w' g code l∧w.grownBy w' (some g):=by
 have Ub:=h.lt
 have Rb:=h.new
 have hA:=(Below.refl w.heap.size w).alloc (Nat.le_refl _) (.cells #[.string ⟨#[99,108,97,115,115]⟩,.string ⟨#[105,100]⟩,.string ⟨#[107]⟩] 9)
 have da:=Loc.made w #[.string ⟨#[99,108,97,115,115]⟩,.string ⟨#[105,100]⟩,.string ⟨#[107]⟩] 9
 have ba:=h.keepAll hA
 have na:w.heap.size<(w.alloc (.cells #[.string ⟨#[99,108,97,115,115]⟩,.string ⟨#[105,100]⟩,.string ⟨#[107]⟩] 9)).heap.size:=by simp
 obtain⟨i0,ja,ea,la,ga⟩:=info_parts znl
 have HI:=hide (And.intro ja (And.intro ea (And.intro la ga)))
 have LL:=hide (And.intro hA (And.intro da (And.intro ba na)))
 have Xb:=h.below.size
 clear hA da ba na ja ea la ga h
 go_enter Tryz.func99,Tryz.ntmps99
 go_wp2_with fail
 obtain⟨hA,da,ba,na⟩:=zaa LL
 clear LL
 generalize (w.alloc (.cells #[.string ⟨#[99,108,97,115,115]⟩,.string ⟨#[105,100]⟩,.string ⟨#[107]⟩] 9))=w1 at *
 go_loopw [3,5] (fun o i wr=>∃(j:Nat) (a:Xi) (c:Nat) (m:List (Xg×Xg)) (F:Xh),j<=3∧i=.int .i64 j∧o=.slice a m.length c∧OwAttrsM wr (.slice a m.length c) m F∧F.Nodup∧Rng F w1.heap.size wr.heap.size∧m.length<=j∧SmA m∧Cur w0 wr g code l∧w1.grownBy wr (some g)) (fun _ i _=>3-(intOf i).toNat)
 case atStart=>exact⟨0,none,0,[],[],Nat.zero_le _,rfl,rfl,OwAttrsM.nil _,List.nodup_nil,(fun q hq=>by simp at hq),Nat.le_refl _,(fun x hx=>by simp at hx),ba,⟨rfl,rfl,rfl,Nat.le_refl _,fun _ _ _=>rfl⟩⟩
 case round=>
  obtain⟨j,a0,c0,m,F,hj,rfl,rfl,hO,hN,hR,Vb,ka,hC,hG⟩:=hrel
  clear ba
  by_cases hlt:j<3
  ·have va:(j:Int)<3:=by omega
   go_wp2_with fail
   refine (zfg w0 wr g code l 5 hC (by omega) (by omega)).mono ?_
   rintro e w2 ⟨bb,rfl,xa,fa⟩
   have ra:∀q∈F,q∉[g]:=fun q hq aa=>by have:=(hR q hq).1;simp at aa;omega
   have wa:=OwAttrsM.frm hO (Frm.ofGrown fa) (fun q hq=>by simpa using ra q hq)
   have sa:=zaA hG fa
   have Ta:Rng F w1.heap.size w2.heap.size:=hR.mono (Nat.le_refl _) fa.size
   clear hC hG hO hR fa
   cases bb with
   | false=>
    go_wp2_with fail
    go_roundw
    case rel=>exact⟨j+1,a0,c0,m,F,by omega,by go_num,rfl,wa,hN,Ta,by omega,ka,xa,sa⟩
    case measure=>simp [intOf];omega
   | true=>
   have Hb:w.heap.size∉(some g).toList:=by simp;omega
   obtain⟨s,hs,Eb⟩:∃s:ByteArray,(#[.string ⟨#[99,108,97,115,115]⟩,.string ⟨#[105,100]⟩,.string ⟨#[107]⟩]:Array Xl)[j]? = some (.string s)∧s.size<=8:=by
    match j,hlt with
    | 0,_=>exact⟨_,rfl,by decide⟩
    | 1,_=>exact⟨_,rfl,by decide⟩
    | 2,_=>exact⟨_,rfl,by decide⟩
   go_wp2_with fail
   generalize hB0:w.heap.size=B0 at *
   have Wb:=sa.size
   refine zea (by kernel_rfl) (La7 w0 w1 w2 g B0 j code l s a0 c0 m F u11 u12) ?sz ?h0 ?step ?dn
   case sz=>
    rintro L a w ⟨b0,b1,b2,b3,b4,b5,b6,b7,b8,b9,Ha,Fa,x3,Qa,Oa,Ka,Na,Ma,Ca,Ja,Da,Ra,La,Ia,rfl,_⟩
    rfl
   case h0=>
    refine⟨false,false,false,false,false,false,false,false,false,false,false,false,_,_,_,_,_,_,_,_,_,_,_,_,rfl,rfl,xa.keepAll ((Below.refl _ _).drew),ztA sa,Nat.le_refl _,(fun _=>OwAttrsM.frm wa (Frm.ofBelow ((Below.refl _ _).drew) []) (fun _ _=>by simp)),(fun _=>rfl),(fun e=>by cases e),?_⟩
    simp
   case step=>
    obtain⟨ja,ea,la,ga⟩:=zaa HI
    intro L a w i o hI hi ho
    obtain⟨b0,b1,b2,b3,b4,b5,b6,b7,b8,b9,Ha,Fa,x3,Qa,Oa,Ka,Na,Ma,Ca,Ja,Da,Ra,La,Ia,rfl,rfl,h0,h1,h2,h3,h4,h5,f0,f1,f2,f3,f4,f5,f6,f7,f8,f9,Aa,Ga⟩:=hI
    rcases zwJ (zft hi)with rfl | rfl | rfl | rfl | rfl | rfl | rfl | rfl | rfl | rfl | rfl | rfl
    ·obtain rfl:=Option.some.inj ho
     have oa:b0=false:=by simpa using zao rfl hi
     have e3:=h4 (by
      cases Fa with
      | false=>rfl
      | true=>have:=(Aa (Ga rfl).1).2.1;rw [oa]at this;cases this)
     subst e3
     go_simp
     exact⟨true,b1,b2,b3,b4,b5,b6,b7,b8,b9,Ha,Fa,_,_,Oa,Ka,Na,Ma,Ca,Ja,Da,Ra,La,Ia,rfl,rfl,h0,h1,h2,h3,h4,h5,(fun _=>rfl),f1,f2,f3,f4,f5,f6,f7,f8,f9,(fun h=>by have:=(Aa h).2.1;rw [oa]at this;cases this),(fun h=>by have:=(Aa (Ga h).1).2.1;rw [oa]at this;cases this)⟩
    ·obtain rfl:=Option.some.inj ho
     go_simp
     exact⟨b0,true,b2,b3,b4,b5,b6,b7,b8,b9,Ha,Fa,x3,Qa,_,Ka,Na,Ma,Ca,Ja,Da,Ra,La,Ia,rfl,rfl,h0,h1,h2,h3,h4,h5,f0,(fun _=>rfl),f2,f3,f4,f5,f6,f7,f8,f9,Aa,Ga⟩
    ·obtain rfl:=Option.some.inj ho
     go_simp
     exact⟨b0,b1,true,b3,b4,b5,b6,b7,b8,b9,Ha,Fa,x3,Qa,Oa,_,Na,Ma,Ca,Ja,Da,Ra,La,Ia,rfl,rfl,h0,h1,h2,h3,h4,h5,f0,f1,(fun _=>rfl),f3,f4,f5,f6,f7,f8,f9,Aa,Ga⟩
    ·have g1:=zai hi ho 1
     have g2:=zai hi ho 2
     obtain rfl:=Option.some.inj ho
     have e1:=f1 (g1 (by kernel_rfl))
     subst e1
     have e2:=f2 (g2 (by kernel_rfl))
     subst e2
     go_simp
     exact⟨b0,b1,b2,true,b4,b5,b6,b7,b8,b9,Ha,Fa,x3,Qa,_,_,_,Ma,Ca,Ja,Da,Ra,La,Ia,rfl,rfl,h0,h1,h2,h3,h4,h5,f0,f1,f2,(fun _=>rfl),f4,f5,f6,f7,f8,f9,Aa,Ga⟩
    ·have g3:=zai hi ho 3
     obtain rfl:=Option.some.inj ho
     have e3:=f3 (g3 (by kernel_rfl))
     subst e3
     have cs:w.cell? ⟨B0,j,none⟩=some (.string s):=((da.frm (Frm.ofGrown h1) Hb).cell j).trans hs
     go_simp
     exact⟨b0,b1,b2,b3,true,b5,b6,b7,b8,b9,Ha,Fa,x3,Qa,Oa,Ka,_,_,Ca,Ja,Da,Ra,La,Ia,rfl,rfl,h0,h1,h2,h3,h4,h5,f0,f1,f2,f3,(fun _=>rfl),f5,f6,f7,f8,f9,Aa,Ga⟩
    ·have g4:=zai hi ho 4
     obtain rfl:=Option.some.inj ho
     have e4:=f4 (g4 (by kernel_rfl))
     subst e4
     have Ba:b5=false:=by simpa using zao rfl hi
     obtain⟨w',Yb,Jb,Sa,Pa⟩:=zhI w s (by omega)
     go_simp
     exact⟨b0,b1,b2,b3,b4,true,b6,b7,b8,b9,Ha,Fa,x3,Qa,Oa,Ka,Na,_,_,Ja,Da,Ra,La,Ia,rfl,rfl,h0.keepAll Pa,zcG h1 Pa,Nat.le_trans h2 Pa.size,(fun e=>OwAttrsM.frm (h3 e) (Frm.ofBelow Pa []) (fun _ _=>by simp)),h4,(fun _ e7 q hq aa=>by obtain⟨l2,r1,r2⟩:=f7 e7;have:=(Sa.lt q (by simpa [FB]using hq)).1;have:=(r1.lt q (by simpa [FB]using aa)).2;omega),f0,f1,f2,f3,f4,(fun _=>Sa.mono h2),f6,(fun h=>by obtain⟨l2,r1,r2⟩:=f7 h;exact⟨l2,r1.keep Pa,r2⟩),(fun h=>by have:=(f8 h).1;rw [Ba]at this;cases this),(fun h=>by have:=(f8 (f9 h).1).1;rw [Ba]at this;cases this),(fun h=>by have:=(f8 (f9 (Aa h).1).1).1;rw [Ba]at this;cases this),(fun h=>by have:=(f8 (f9 (Aa (Ga h).1).1).1).1;rw [Ba]at this;cases this)⟩
    ·obtain rfl:=Option.some.inj ho
     go_simp
     exact⟨b0,b1,b2,b3,b4,b5,true,b7,b8,b9,Ha,Fa,x3,Qa,Oa,Ka,Na,Ma,Ca,_,Da,Ra,La,Ia,rfl,rfl,h0,h1,h2,h3,h4,h5,f0,f1,f2,f3,f4,f5,(fun _=>rfl),f7,f8,f9,Aa,Ga⟩
    ·have g6:=zai hi ho 6
     obtain rfl:=Option.some.inj ho
     have e6:=f6 (g6 (by kernel_rfl))
     subst e6
     have Ba:b7=false:=by simpa using zao rfl hi
     go_simp
     refine (zlp w0 w g code l h0).mono ?_
     rintro e w' ⟨a2,c2,l2,rfl,Sa,Bb,Nb,Va⟩
     exact⟨b0,b1,b2,b3,b4,b5,b6,true,b8,b9,Ha,Fa,x3,Qa,Oa,Ka,Na,Ma,Ca,_,_,Ra,La,Ia,rfl,rfl,Nb,zaA h1 Va,Nat.le_trans h2 Va.size,(fun e=>OwAttrsM.frm (h3 e) (Frm.ofGrown Va) (fun q hq=>by simpa using ra q hq)),h4,(fun e5 _ q hq aa=>by have:=((f5 e5).lt q (by simpa [FB]using hq)).2;have:=(Sa.lt q (by simpa [FB]using aa)).1;omega),f0,f1,f2,f3,f4,(fun h=>(f5 h).keepBy Va (fun q hq e=>by have:=((f5 h).lt q hq).1;cases e;omega)),f6,(fun _=>⟨l2,Sa.mono h2,Bb⟩),(fun h=>by have:=(f8 h).2.1;rw [Ba]at this;cases this),(fun h=>by have:=(f8 (f9 h).1).2.1;rw [Ba]at this;cases this),(fun h=>by have:=(f8 (f9 (Aa h).1).1).2.1;rw [Ba]at this;cases this),(fun h=>by have:=(f8 (f9 (Aa (Ga h).1).1).1).2.1;rw [Ba]at this;cases this)⟩
    ·have g5:=zai hi ho 5
     have g7:=zai hi ho 7
     obtain rfl:=Option.some.inj ho
     have e5:b5=true:=g5 (by kernel_rfl)
     have e7:b7=true:=g7 (by kernel_rfl)
     subst e5 e7
     obtain⟨l2,r1,r2⟩:=f7 rfl
     obtain⟨p4,k4,Wa⟩:=(f5 rfl).shape
     obtain⟨p5,k5,Xa⟩:=r1.shape
     subst Wa Xa
     have Ba:b8=false:=by simpa using zao rfl hi
     go_simp
     exact⟨b0,b1,b2,b3,b4,true,b6,true,true,b9,Ha,Fa,x3,Qa,Oa,Ka,Na,Ma,_,Ja,_,_,La,Ia,rfl,rfl,h0,h1,h2,h3,h4,h5,f0,f1,f2,f3,f4,f5,f6,f7,(fun _=>⟨rfl,rfl,rfl⟩),(fun h=>by have:=(f9 h).1;rw [Ba]at this;cases this),(fun h=>by have:=(f9 (Aa h).1).1;rw [Ba]at this;cases this),(fun h=>by have:=(f9 (Aa (Ga h).1).1).1;rw [Ba]at this;cases this)⟩
    ·have g8:=zai hi ho 8
     obtain rfl:=Option.some.inj ho
     have e8:b8=true:=g8 (by kernel_rfl)
     obtain⟨e5,e7,Ya⟩:=f8 e8
     subst e5 e7 e8 Ya
     obtain⟨l2,r1,r2⟩:=f7 rfl
     obtain⟨p4,k4,Wa⟩:=(f5 rfl).shape
     obtain⟨p5,k5,Xa⟩:=r1.shape
     subst Wa Xa
     have Ba:b9=false:=by simpa using zao rfl hi
     have Pa:Below w.heap.size w (w.alloc (.cells #[.slice p4 (strL s).length k4,.slice p5 l2.length k5] 132)):=(Below.refl _ _).alloc (Nat.le_refl _) _
     go_simp
     exact⟨b0,b1,b2,b3,b4,true,b6,true,true,true,Ha,Fa,x3,Qa,Oa,Ka,Na,Ma,_,Ja,_,_,_,Ia,rfl,rfl,h0.keepAll Pa,zcG h1 Pa,Nat.le_trans h2 Pa.size,(fun e=>OwAttrsM.frm (h3 e) (Frm.ofBelow Pa []) (fun _ _=>by simp)),h4,h5,f0,f1,f2,f3,f4,(fun _=>(f5 rfl).keep Pa),f6,(fun _=>⟨l2,r1.keep Pa,r2⟩),(fun _=>⟨rfl,rfl,rfl⟩),(fun _=>⟨rfl,w.heap.size,h2,rfl,Loc.made w _ _⟩),(fun h=>by have:=(Aa h).1;rw [Ba]at this;cases this),(fun h=>by have:=(Aa (Ga h).1).1;rw [Ba]at this;cases this)⟩
    ·have g0:=zai hi ho 0
     have g9:=zai hi ho 9
     obtain rfl:=Option.some.inj ho
     have e0:b0=true:=g0 (by kernel_rfl)
     have e9:b9=true:=g9 (by kernel_rfl)
     have ma:=f0 e0
     obtain⟨e8,z,z1,z2,z3⟩:=f9 e9
     obtain⟨e5,e7,Ya⟩:=f8 e8
     have Ba:Ha=false:=by simpa using zao rfl hi
     subst e0 e5 e7 e8 e9 ma z2
     obtain⟨l2,r1,r2⟩:=f7 rfl
     have o1:=f5 rfl
     have q1:=o1.mono (Nat.zero_le _)
     have q2:=r1.mono (Nat.zero_le _)
     have za:=h3 Ba
     have ua:(FB Ca++FB Da).Nodup:=List.nodup_append.2 ⟨zaU _,zaU _,fun a ha b hb e=>h5 rfl rfl a ha (e ▸ hb)⟩
     have ta:∀q∈FB Ca++FB Da,w2.heap.size<=q∧q<w.heap.size:=fun q hq=>by
      rcases List.mem_append.1 hq with h | h
      ·exact o1.lt q (by simpa [FB]using h)
      ·exact r1.lt q (by simpa [FB]using h)
     refine zeJ (R:=OwAttrM) (fun h f d=>OwAttrM.frm h f d) (by rfl) (.tmp 15) (.tmp 24) 26 (by rfl) 132 i0 (.agg #[.slice none 0 0,.slice none 0 0]) 2 48 Tryz.underlying26 ja ea la ga rfl (by decide) _ m F (by rfl) za hN ⟨z,0,none⟩ 1 [Ca,Da] (strL s,l2) (FB Ca++FB Da) (by rfl) rfl (fun i u hu=>World.news_of_block z3 i u (by simpa using hu)) (by intro y hy;obtain⟨p4,Zb,Wa⟩:=o1.shape;obtain⟨p5,Tb,Xa⟩:=r1.shape;simp at hy;rcases hy with rfl | rfl;(rw [Wa];rfl);(rw [Xa];rfl)) ⟨Ca,Da,rfl,q1,q2,rfl⟩ ua (fun g hg Va=>by have:=(Ta g hg).2;have:=(ta g Va).1;omega) (fun q hq=>by rcases hq with hq | hq;(have:=(Ta q hq).2;omega);(exact (ta q hq).2)) (by unfold maxLen;omega) (by omega) ?_
     intro g9 pa w' F9 ya Qb Gb Ua ab
     have ia:∀q∈FB (.slice a0 m.length c0),q∈F:=fun q hq=>by obtain⟨_,_,_,_,_,_,rfl⟩:=za;exact List.mem_append_left _ hq
     have qa:∀q,w2.heap.size<=q->q∉FB (.slice a0 m.length c0):=fun q hq h=>by have:=(Ta q (ia q h)).2;omega
     have Ob:g∉FB (.slice a0 m.length c0):=fun h=>ra g (ia g h) (by simp)
     have Pb:Rng F9 w1.heap.size w'.heap.size:=fun q hq=>by
      refine⟨?_,OwElems.ltM ya (fun _ _ _ hr=>hr.lt) q hq⟩
      have:=h1.size
      rcases Gb q hq with h | h | h
      ·exact (Ta q h).1
      ·have:=(ta q h).1;omega
      ·omega
     exact⟨true,b1,b2,b3,b4,true,b6,true,true,true,true,Fa,x3,_,Oa,Ka,Na,Ma,Ca,Ja,Da,Ra,_,_,rfl,rfl,h0.keepF Ua Ob (fun q hq=>by have:=(Ta q (ia q hq)).1;omega),zvQ h1 Ua (fun q hq=>(Ta q (ia q hq)).1),Nat.le_trans h2 Ua.size,(fun e=>by cases e),h4,h5,(fun _=>rfl),f1,f2,f3,f4,(fun _=>o1.frm Ua (fun q hq=>qa q (o1.lt q (by simpa [FB]using hq)).1)),f6,(fun _=>⟨l2,r1.frm Ua (fun q hq=>qa q (r1.lt q (by simpa [FB]using hq)).1),r2⟩),(fun _=>⟨rfl,rfl,Ya⟩),(fun _=>⟨rfl,z,z1,rfl,z3.frm Ua (qa z z1)⟩),(fun _=>⟨rfl,rfl,_,pa,l2,F9,rfl,ya,Qb,Pb,r2⟩),(fun h=>by have:=(Ga h).1;rw [Ba]at this;cases this)⟩
    ·have Fb:=zai hi ho 10
     obtain rfl:=Option.some.inj ho
     have Ib:Ha=true:=Fb (by kernel_rfl)
     subst Ib
     obtain⟨e9,e0,Kb⟩:=Aa rfl
     obtain⟨e8,Lb⟩:=f9 e9
     obtain⟨e5,e7,Ya⟩:=f8 e8
     subst e0 e9 e8 e5 e7 Ya
     have ma:=f0 rfl
     subst ma
     clear Kb Lb
     go_simp
     exact⟨true,b1,b2,b3,b4,true,b6,true,true,true,true,true,_,_,Oa,Ka,Na,Ma,Ca,Ja,Da,_,La,Ia,rfl,rfl,h0,h1,h2,h3,(fun e=>by cases e),h5,(fun _=>rfl),f1,f2,f3,f4,f5,f6,f7,(fun _=>⟨rfl,rfl,rfl⟩),f9,Aa,(fun _=>⟨rfl,rfl⟩)⟩
   case dn=>
    intro L a w3 hI Ab
    have Za:=zcm (L:=L) (by obtain⟨b0,b1,b2,b3,b4,b5,b6,b7,b8,b9,Ha,Fa,x3,Qa,Oa,Ka,Na,Ma,Ca,Ja,Da,Ra,La,Ia,rfl,_⟩:=hI;rfl) (by kernel_rfl) Ab 12
    obtain⟨b0,b1,b2,b3,b4,b5,b6,b7,b8,b9,Ha,Fa,x3,Qa,Oa,Ka,Na,Ma,Ca,Ja,Da,Ra,La,Ia,rfl,rfl,h0,h1,h2,h3,h4,h5,f0,f1,f2,f3,f4,f5,f6,f7,f8,f9,Aa,Ga⟩:=hI
    have Db:Fa=true:=Za 11 (by omega) (by decide)
    obtain⟨Cb,e3⟩:=Ga Db
    obtain⟨_,_,a9,c9,l2,F9,Sb,r1,r2,r3,r4⟩:=Aa Cb
    subst Sb e3 hB0
    have KK:=hide (show OwAttrsM w3 (.slice a9 (m++[(strL s,l2)]).length c9) (m++[(strL s,l2)]) F9 by simpa using r1)
    have ca:SmA (m++[(strL s,l2)]):=fun x hx=>by
     rcases List.mem_append.1 hx with h | h
     ·exact ka x h
     ·simp at h;subst h;exact⟨by rw [zcg];exact Eb,r4⟩
    have HH:=hide (And.intro r2 (And.intro r3 (And.intro ca (And.intro h0 h1))))
    clear Za f0 f1 f2 f3 f4 f5 f6 f7 f8 f9 Aa Ga Ab h0 h1 h2 h3 h4 h5 r1 r2 r3 ca
    go_wp2_with fail
    go_roundw
    case rel=>
     obtain⟨r2,r3,ca,h0,h1⟩:=zaa HH
     exact⟨j+1,a9,c9,m++[(strL s,l2)],F9,by omega,by go_num,by simp,zaa KK,r2,r3,by simp;omega,ca,h0,h1⟩
    case measure=>simp [intOf];omega
  ·have va:¬ (j:Int)<3:=by omega
   have KK:=hide (show zty w.heap.size wr (.slice a0 m.length c0) m∧m.length<=3∧Cur w0 wr g code l∧w.grownBy wr (some g) from ⟨⟨F,hO,hN,hR.mono (by omega) (Nat.le_refl _),ka⟩,by omega,hC,zcW hA hG⟩)
   clear hO hN hR ka hC hG
   go_wp2_with fail
   go_ret
   exact⟨a0,c0,m,rfl,zaa KK⟩
set_option maxHeartbeats 1600000 in
theorem zse (w:Xk) (v:Xl) (l:Xg) (h:Byt w v l) :
  Calls Tryz.prog 77 #[v] w fun e w'=>(e=.returned (.bool true)∨e=.returned (.bool false))∧w'=w:=by
 have c1:=zbf w v l h
 obtain⟨a1,k1,rfl,_⟩:=h.shape
 generalize str l=s at *
 cases d1:(s.toList == [98,114])with
 | true=>
  go_enter Tryz.func77,Tryz.ntmps77
  go_wp2
  go_ret
  exact⟨.inl rfl,rfl⟩
 | false=>
  cases d2:(s.toList == [104,114])with
  | true=>
   go_enter Tryz.func77,Tryz.ntmps77
   go_wp2
   go_ret
   exact⟨.inl rfl,rfl⟩
  | false=>
   go_enter Tryz.func77,Tryz.ntmps77
   go_wp2
   go_ret
   exact⟨.inr rfl,rfl⟩
def SmT:(n:Nat)->Tr n->Prop
 | 0=>fun _=>True
 | n+1=>fun t=>t.name.length<=8∧t.text.length<=8∧t.attrs.length<=3∧SmA t.attrs∧t.kids.length<=3∧∀k∈t.kids,SmT n k
def zqj (d B:Nat) (w:Xk) (C:Xj):Prop:=∃(t:Tr d) (F:Xh),OwNodeM d w C t F∧F.Nodup∧Rng F B w.heap.size∧SmT d t
def zld (d:Nat):Prop:=∀(w0 w:Xk) (g:Nat) (code:Xl) (l:Xg),Cur w0 w g code l->Calls Tryz.prog 53 #[.pointer (some ⟨g,0,none⟩),.int .i64 d] w fun e w'=>∃k p1 n1 c1 p2 n2 c2 p3 n3 c3 p4 n4 c4,e=.returned (.agg #[.int .i64 k,.slice p1 n1 c1,.slice p2 n2 c2,.slice p3 n3 c3,.slice p4 n4 c4])∧zqj (d+1) w.heap.size w' [.int .i64 k,.slice p1 n1 c1,.slice p2 n2 c2,.slice p3 n3 c3,.slice p4 n4 c4]∧Cur w0 w' g code l∧w.grownBy w' (some g)
def Grow (d g B b4 b5:Nat) (w0 w wr:Xk) (code:Xl) (l:Xg) (pn:Xi) (cn:Nat) (nm:Xg) (pa:Xi) (ca:Nat) (at_:List (Xg×Xg)) (j:Nat) (ka:Xi) (kc:Nat) (kids:List (Tr d)):Prop:=
 ∃Fa Fk,Loc wr b4 #[.int .i64 0,.slice none 0 0,.slice none 0 0,.slice none 0 0,.slice none 0 0] 29∧Loc wr b5 #[.int .i64 0,.slice pn nm.length cn,.slice none 0 0,.slice pa at_.length ca,.slice ka kids.length kc] 29∧RowM wr 0 (.slice pn nm.length cn) nm∧OwAttrsM wr (.slice pa at_.length ca) at_ Fa∧OwKidsM d wr (.slice ka kids.length kc) kids Fk∧(FB (.slice pn nm.length cn)++Fa++Fk).Nodup∧(∀q∈FB (.slice pn nm.length cn)++Fa++Fk,B<=q∧q<wr.heap.size∧q≠b4∧q≠b5)∧nm.length<=8∧at_.length<=3∧SmA at_∧kids.length<=j∧(∀k∈kids,SmT d k)∧Cur w0 wr g code l∧w.grownBy wr (some g)
theorem zbb {w:Xk} {g:Nat} {a b c d e:Xl} {T:Xm} (h:Loc w g #[a,b,c,d,e] T) :
  w.cell? ⟨g,0,none⟩=some a∧w.cell? ⟨g,1,none⟩=some b∧w.cell? ⟨g,2,none⟩=some c∧w.cell? ⟨g,3,none⟩=some d∧w.cell? ⟨g,4,none⟩=some e:=
 ⟨h.cell 0,h.cell 1,h.cell 2,h.cell 3,h.cell 4⟩
theorem Grow.by {d g B b4 b5:Nat} {w0 w wr w':Xk} {code:Xl} {l:Xg} {pn:Xi} {cn:Nat} {nm:Xg} {pa:Xi} {ca:Nat} {at_:List (Xg×Xg)} {j:Nat} {ka:Xi} {kc:Nat} {kids:List (Tr d)}
  (h:Grow d g B b4 b5 w0 w wr code l pn cn nm pa ca at_ j ka kc kids) (hgB:g<B∧g≠b4∧g≠b5) (hC:Cur w0 w' g code l) (hG:wr.grownBy w' (some g)):Grow d g B b4 b5 w0 w w' code l pn cn nm pa ca at_ j ka kc kids:=by
 obtain⟨Fa,Fk,h1,h2,h3,h4,h5,h6,h7,h8,h9,Ba,Da,Ca,Ga,Aa⟩:=h
 have hf:=Frm.ofGrown hG
 have hn:∀q∈FB (.slice pn nm.length cn)++Fa++Fk,q∉(some g).toList:=fun q hq e=>by have:=(h7 q hq).1;simp at e;omega
 exact⟨Fa,Fk,h1.frm hf (by simp;omega),h2.frm hf (by simp;omega),h3.frm hf (fun q hq=>hn q (by simp [hq])),OwAttrsM.frm h4 hf (fun q hq=>hn q (by simp [hq])),OwKidsM.frm h5 hf (fun q hq=>hn q (by simp [hq])),h6,fun q hq=>⟨(h7 q hq).1,Nat.lt_of_lt_of_le (h7 q hq).2.1 hG.size,(h7 q hq).2.2⟩,h8,h9,Ba,Da,Ca,hC,zaA Aa hG⟩
theorem Frm.toGrown' {w w':Xk} {b:Nat} (f:Frm w w' [b]):w.grownBy w' (some b):=⟨f.os,f.tape,f.output,f.size,fun k hk hn=>f.block k hk (fun e=>hn (by simp at e;rw [e]))⟩
theorem Cur.set' {w0 w w':Xk} {g S:Nat} {code:Xl} {l:Xg} (h:Cur w0 w g code l) (hs:w.grownBy w' (some S)) (hne:g≠S) (hn:w0.heap.size<=S):Cur w0 w' g code l:=h.keep hs (by simp;exact hne) (fun k hk=>by cases hk;exact hn)
theorem box5 {w:Xk} {po:Nat} {z0 z1 z2 z3 z4:Xl} {T:Xm} (h:Loc w po #[z0,z1,z2,z3,z4] T) (a b c d e:Xl) :
  Loc (((((w.setCell ⟨po,0,none⟩ a).setCell ⟨po,1,none⟩ b).setCell ⟨po,2,none⟩ c).setCell ⟨po,3,none⟩ d).setCell ⟨po,4,none⟩ e) po #[a,b,c,d,e] T∧Frm w (((((w.setCell ⟨po,0,none⟩ a).setCell ⟨po,1,none⟩ b).setCell ⟨po,2,none⟩ c).setCell ⟨po,3,none⟩ d).setCell ⟨po,4,none⟩ e) [po]:=
 ⟨((((h.set 0 a).set 1 b).set 2 c).set 3 d).set 4 e,((((zaq _ _ _ _).trans (zaq _ _ _ _)).trans (zaq _ _ _ _)).trans (zaq _ _ _ _)).trans (zaq _ _ _ _)⟩
theorem Grow.fin {d g B b4 b5:Nat} {w0 w wr:Xk} {code:Xl} {l:Xg} {pn:Xi} {cn:Nat} {nm:Xg} {pa:Xi} {ca:Nat} {at_:List (Xg×Xg)} {j:Nat} {ka:Xi} {kc:Nat} {kids:List (Tr d)}
  (h:Grow d g B b4 b5 w0 w wr code l pn cn nm pa ca at_ j ka kc kids) (hB:w.heap.size<=B) (hb4:b4=w.heap.size) (hg4:g≠b4) (hn4:w0.heap.size<=b4) (hj:j<=3):zqj (d+1) w.heap.size (((((wr.setCell ⟨b4,0,none⟩ (.int .i64 0)).setCell ⟨b4,1,none⟩ (.slice pn nm.length cn)).setCell ⟨b4,2,none⟩ (.slice none 0 0)).setCell ⟨b4,3,none⟩ (.slice pa at_.length ca)).setCell ⟨b4,4,none⟩ (.slice ka kids.length kc)) [.int .i64 0,.slice pn nm.length cn,.slice none 0 0,.slice pa at_.length ca,.slice ka kids.length kc]∧Cur w0 (((((wr.setCell ⟨b4,0,none⟩ (.int .i64 0)).setCell ⟨b4,1,none⟩ (.slice pn nm.length cn)).setCell ⟨b4,2,none⟩ (.slice none 0 0)).setCell ⟨b4,3,none⟩ (.slice pa at_.length ca)).setCell ⟨b4,4,none⟩ (.slice ka kids.length kc)) g code l∧w.grownBy (((((wr.setCell ⟨b4,0,none⟩ (.int .i64 0)).setCell ⟨b4,1,none⟩ (.slice pn nm.length cn)).setCell ⟨b4,2,none⟩ (.slice none 0 0)).setCell ⟨b4,3,none⟩ (.slice pa at_.length ca)).setCell ⟨b4,4,none⟩ (.slice ka kids.length kc)) (some g)∧Loc (((((wr.setCell ⟨b4,0,none⟩ (.int .i64 0)).setCell ⟨b4,1,none⟩ (.slice pn nm.length cn)).setCell ⟨b4,2,none⟩ (.slice none 0 0)).setCell ⟨b4,3,none⟩ (.slice pa at_.length ca)).setCell ⟨b4,4,none⟩ (.slice ka kids.length kc)) b4 #[.int .i64 0,.slice pn nm.length cn,.slice none 0 0,.slice pa at_.length ca,.slice ka kids.length kc] 29:=by
 obtain⟨Fa,Fk,h1,h2,h3,h4,h5,h6,h7,h8,h9,Ca,Ga,Da,Aa,Ba⟩:=h
 obtain⟨s1,s2⟩:=box5 h1 (.int .i64 0) (.slice pn nm.length cn) (.slice none 0 0) (.slice pa at_.length ca) (.slice ka kids.length kc)
 have hn:∀q∈FB (.slice pn nm.length cn)++Fa++Fk,q∉[b4]:=fun q hq e=>by have:=(h7 q hq).2.2.1;simp at e;omega
 refine⟨⟨(⟨0,nm,[],at_,kids⟩:Nd (Tr d)),FB (.slice pn nm.length cn)++FB (.slice none 0 0)++Fa++Fk,⟨_,_,_,_,Fa,Fk,rfl,(by show (-9223372036854775808:Int)<=0;decide),(by show (0:Int)<=9223372036854775807;decide),h3.frm s2 (fun q hq=>hn q (by simp [hq])),zcc _ _,OwAttrsM.frm h4 s2 (fun q hq=>hn q (by simp [hq])),OwKidsM.frm h5 s2 (fun q hq=>hn q (by simp [hq])),rfl⟩,?_,?_,⟨h8,by simp,h9,Ca,by show kids.length<=3;omega,Da⟩⟩,Aa.set' (Frm.toGrown' s2) hg4 hn4,zcU Ba (Frm.toGrown' s2) (fun q hq=>by cases hq;omega),s1⟩
 ·simpa [FB,Value.ownBlock]using h6
 ·intro q hq
  have:=s2.size
  have:=h7 q (by simpa [FB,Value.ownBlock]using hq)
  omega
theorem OwNodeM.text {d:Nat} {w:Xk} {v:Xl} {l:Xg} (k:Int) (hk0 : -9223372036854775808<=k) (hk1:k<=9223372036854775807) (h:RowM w 0 v l):OwNodeM (d+1) w [.int .i64 k,.slice none 0 0,v,.slice none 0 0,.slice none 0 0] (⟨k,[],l,[],[]⟩:Nd (Tr d)) (FB v):=
 ⟨_,_,_,_,[],[],rfl,hk0,hk1,zcc _ _,h,OwAttrsM.nil _,OwKidsM.nil _ _,by simp [FB,Value.ownBlock]⟩
theorem OwNodeM.lt {n:Nat} {w:Xk} {C:Xj} {t:Tr n} {F:Xh} (h:OwNodeM n w C t F):∀g∈F,g<w.heap.size:=by
 induction n generalizing C F with
 | zero=>exact h.elim
 | succ n ih=>
  obtain⟨a,b,c,d,Fc,Fd,e,k1,k2,h1,h2,h3,h4,rfl⟩:=h
  intro g hg
  simp only [List.mem_append]at hg
  rcases hg with ((h | h) | h) | h
  ·exact (h1.lt g (by simpa [FB]using h)).2
  ·exact (h2.lt g (by simpa [FB]using h)).2
  ·exact OwElems.ltM h3 (fun _ _ _ hr=>hr.lt) g h
  ·exact OwElems.ltM h4 (fun _ _ _ hr=>ih hr) g h
theorem zkz:(Tryz.prog.info? 29).map (fun i=>(i.zero,i.size,i.bytes))=some (some (.agg #[.int .i64 0,.slice none 0 0,.slice none 0 0,.slice none 0 0,.slice none 0 0]),5,104):=by kernel_rfl
theorem zAx (d:Nat) (h0:0<d) {w:Xk} {v:Xl} {l:Xg} (h:RowM w 0 v l) (h8:l.length<=8):∃t:Tr d,OwNodeM d w [.int .i64 1,.slice none 0 0,v,.slice none 0 0,.slice none 0 0] t (FB v)∧SmT d t:=by
 cases d with
 | zero=>omega
 | succ d=>exact⟨(⟨1,[],l,[],[]⟩:Nd (Tr d)),OwNodeM.text 1 (by decide) (by decide) h,by simp,h8,by simp,(fun x hx=>by simp at hx),by simp,(fun k hk=>by simp at hk)⟩
theorem zAU (d:Nat) (hd:d<=4) (h0:0<d) (IH:∀d',d=d' + 1->zld d') (w0 w:Xk) (g:Nat) (code:Xl) (l:Xg) (h:Cur w0 w g code l):Calls Tryz.prog 53 #[.pointer (some ⟨g,0,none⟩),.int .i64 (IntKind.i64.wrap ((d:Int)-1))] w fun e w'=>∃k p1 n1 c1 p2 n2 c2 p3 n3 c3 p4 n4 c4,e=.returned (.agg #[.int .i64 k,.slice p1 n1 c1,.slice p2 n2 c2,.slice p3 n3 c3,.slice p4 n4 c4])∧zqj d w.heap.size w' [.int .i64 k,.slice p1 n1 c1,.slice p2 n2 c2,.slice p3 n3 c3,.slice p4 n4 c4]∧Cur w0 w' g code l∧w.grownBy w' (some g):=by
 cases d with
 | zero=>omega
 | succ d=>
  have e:IntKind.i64.wrap (((d+1:Nat):Int)-1)=(d:Int):=by rw [IntKind.wrap_i64];omega
  rw [e]
  exact IH d rfl w0 w g code l h
theorem Grow.push {d g B b4 b5:Nat} {w0 w wr:Xk} {code:Xl} {l:Xg} {pn:Xi} {cn:Nat} {nm:Xg} {pa:Xi} {ca:Nat} {at_:List (Xg×Xg)} {j:Nat} {ka:Xi} {kc:Nat} {kids:List (Tr d)}
  (h:Grow d g B b4 b5 w0 w wr code l pn cn nm pa ca at_ j ka kc kids) (hgB:g<B∧g≠b4∧g≠b5) (hwB:w.heap.size<=B) (hb45:b4≠b5) (hn5:w0.heap.size<=b5) (hw5:w.heap.size<=b5) (hBr:B<=wr.heap.size) :
  ∃Fk,OwKidsM d wr (.slice ka kids.length kc) kids Fk∧Fk.Nodup∧(∀q∈Fk,B<=q∧q<wr.heap.size∧q≠b4∧q≠b5)∧Loc wr b5 #[.int .i64 0,.slice pn nm.length cn,.slice none 0 0,.slice pa at_.length ca,.slice ka kids.length kc] 29∧(∀q∈FB (.slice ka kids.length kc),q∈Fk)∧
   ∀(x:Tr d) (w9:Xk) (g9 cap9 n9:Nat) (F9:Xh),SmT d x->n9=kids.length+1->Frm wr w9 (g::FB (.slice ka kids.length kc))->Cur w0 w9 g code l->OwKidsM d w9 (.slice (some ⟨g9,0,none⟩) n9 cap9) (kids++[x]) F9->F9.Nodup->(∀q∈F9,(q∈Fk∨wr.heap.size<=q)∧q<w9.heap.size)->
    Grow d g B b4 b5 w0 w (w9.setCell ⟨b5,4,none⟩ (.slice (some ⟨g9,0,none⟩) n9 cap9)) code l pn cn nm pa ca at_ (j+1) (some ⟨g9,0,none⟩) cap9 (kids++[x]):=by
 obtain⟨Fa,Fk,h1,h2,h3,h4,h5,h6,h7,h8,h9,La,Pa,Ma,Oa,Aa⟩:=h
 obtain⟨Ka,Na,Da⟩:=List.nodup_append.1 h6
 have Ba:∀q∈FB (.slice ka kids.length kc),q∈Fk:=fun q hq=>by obtain⟨_,_,_,_,_,_,rfl⟩:=h5;exact List.mem_append_left _ hq
 refine⟨Fk,h5,Na,fun q hq=>h7 q (List.mem_append_right _ hq),h2,Ba,?_⟩
 intro x w9 g9 cap9 n9 F9 hx Ja f hC hK hN hF
 have f2:=zaq w9 b5 4 (.slice (some ⟨g9,0,none⟩) n9 cap9)
 have l4:=h1.lt
 have l5:=h2.lt
 have Ha:∀q∈FB (.slice pn nm.length cn)++Fa,q∉g::FB (.slice ka kids.length kc):=fun q hq e=>by
  rcases List.mem_cons.1 e with rfl | e
  ·have:=(h7 q (List.mem_append_left _ hq)).1;omega
  ·exact Da q hq q (Ba q e) rfl
 have Ia:∀q∈FB (.slice pn nm.length cn)++Fa,q∉[b5]:=fun q hq e=>by have:=(h7 q (List.mem_append_left _ hq)).2.2.2;simp at e;exact this e
 have Ga:∀b,b≠g->(b=b4∨b=b5)->b∉g::FB (.slice ka kids.length kc):=fun b hb Qa e=>by
  rcases List.mem_cons.1 e with e | e
  ·exact hb e
  ·have:=(h7 b (List.mem_append_right _ (Ba b e))).2.2;omega
 have f9:∀q∈F9,q∉[b5]:=fun q hq e=>by
  simp at e
  subst e
  rcases (hF q hq).1 with h | h
  ·exact (h7 q (List.mem_append_right _ h)).2.2.2 rfl
  ·omega
 refine⟨Fa,F9,(h1.frm f (Ga b4 (by omega) (.inl rfl))).other b5 4 _ hb45,?_,(h3.frm f (fun q hq=>Ha q (by simp [hq]))).frm f2 (fun q hq=>Ia q (by simp [hq])),OwAttrsM.frm (OwAttrsM.frm h4 f (fun q hq=>Ha q (by simp [hq]))) f2 (fun q hq=>Ia q (by simp [hq])),?_,?_,?_,h8,h9,La,by simp;omega,?_,hC.set' (Frm.toGrown' f2) (by omega) hn5,?_⟩
 ·have:=(h2.frm f (Ga b5 (by omega) (.inr rfl))).set 4 (.slice (some ⟨g9,0,none⟩) n9 cap9)
  subst Ja
  simpa using this
 ·have:=OwKidsM.frm hK f2 f9
  subst Ja
  simpa using this
 ·refine List.nodup_append.2 ⟨Ka,hN,fun a ha b hb e=> ?_⟩
  subst e
  rcases (hF a hb).1 with h | h
  ·exact Da a ha a h rfl
  ·have:=(h7 a (List.mem_append_left _ ha)).2.1;omega
 ·intro q hq
  have s2:=f2.size
  have s1:=f.size
  rcases List.mem_append.1 hq with h | h
  ·have:=h7 q (List.mem_append_left _ h);exact⟨this.1,by omega,this.2.2⟩
  ·have h':=hF q h
   refine⟨?_,by omega,?_,fun e=>f9 q h (by simp [e])⟩
   ·rcases h'.1 with hh | hh
    ·exact (h7 q (List.mem_append_right _ hh)).1
    ·omega
   ·intro e
    rcases h'.1 with hh | hh
    ·exact (h7 q (List.mem_append_right _ hh)).2.2.1 e
    ·omega
 ·intro k hk
  rcases List.mem_append.1 hk with h | h
  ·exact Ma k h
  ·simp at h;subst h;exact hx
 ·refine zcU (row':=some b5) ?_ (Frm.toGrown' f2) (fun q hq=>by cases hq;exact hw5)
  refine⟨f.os.trans Aa.os,f.tape.trans Aa.tape,f.output.trans Aa.output,Nat.le_trans Aa.size f.size,fun k hk Ca=>(f.block k (Nat.lt_of_lt_of_le hk Aa.size) (fun e=> ?_)).trans (Aa.block k hk Ca)⟩
  rcases List.mem_cons.1 e with e | e
  ·exact Ca (by rw [e])
  ·have:=(h7 k (List.mem_append_right _ (Ba k e))).1;omega
theorem zbW {P:Program} {ops:Array Oper} {o:Oper} {a:Act} {w:Xk} {K:Act->Xk->Prop} {Q:Exit->Act->Xk->Prop} {E:Prop} (hgd:o.guard=none) (f:FuncId) (xs:List Operand) (tys:Array Xm)
  (ho:o.op=.call { callee:=.value (.func f),args:=xs.toArray,argTypes:=tys }) (he:∀args w,(callFunc f args).run P w=.ok (.enter f args) w) (args:Xj) (hx:xs.map a.eval=args) {R:Ending->Xk->Prop} (hc:Calls P f args.toArray w R)
  (h:∀e w',R e w'->∃v,e=.returned v∧K (a.put o.dst v) w'):if Region.wanted o (yielded ops a.tmps)=true then Oper.wp P o a w K Q else E:=by
 have hw:Region.wanted o (yielded ops a.tmps)=true:=by simp [Region.wanted,hgd]
 rw [if_pos hw]
 subst hx
 unfold Oper.wp execOp
 simp [ho,resolve,invoke,go_sem,he]
 refine hc.mono ?_
 intro e w' hR
 obtain⟨v,rfl,hk⟩:=h e w' hR
 exact hk
end Go.Proofs.YtgjolijncmkkhaaGreatDoor
namespace Go.Proofs.YtgjolijncmkkhaaGreatDoor
open Go.RowKit Go.Shelf
set_option linter.unusedVariables false
set_option maxRecDepth 100000
set_option maxHeartbeats 12800000 in
theorem zjX (d:Nat) (hd:d<=4) (IH:∀d',d=d' + 1->zld d'):zld d:=by
 intro w0 w g Aa l h
 have kb:=h.lt
 have eb:=h.new
 have hA:=(Below.refl w.heap.size w).alloc (Nat.le_refl _) (.cells #[.int .i64 0,.slice none 0 0,.slice none 0 0,.slice none 0 0,.slice none 0 0] 29)
 have l4:=Loc.made w #[.int .i64 0,.slice none 0 0,.slice none 0 0,.slice none 0 0,.slice none 0 0] 29
 have fa:=h.keepAll hA
 have aa:w.grownBy (w.alloc (.cells #[.int .i64 0,.slice none 0 0,.slice none 0 0,.slice none 0 0,.slice none 0 0] 29)) (some g):=Below.toGrown hA _
 have ga:w.heap.size<(w.alloc (.cells #[.int .i64 0,.slice none 0 0,.slice none 0 0,.slice none 0 0,.slice none 0 0] 29)).heap.size:=by simp
 have LL:=hide (And.intro hA (And.intro l4 (And.intro fa (And.intro aa ga))))
 clear hA l4 fa aa ga h
 go_enter Tryz.func53,Tryz.ntmps53
 go_wp2_with fail
 obtain⟨hA,l4,fa,aa,ga⟩:=zaa LL
 clear LL
 generalize (w.alloc (.cells #[.int .i64 0,.slice none 0 0,.slice none 0 0,.slice none 0 0,.slice none 0 0] 29))=w1 at *
 refine (zub w0 w1 g Aa l fa).mono ?_
 rintro e w2 ⟨pn,cn,nm,rfl,ia,Yb,Eb,la⟩
 have Lb:=l4.frm (Frm.ofGrown la) (by simp;omega)
 have Va:=zaA aa la
 go_wp2_with fail
 refine (zrP w0 w2 g Aa l Eb).mono ?_
 rintro e w3 ⟨pa,ca,Da,rfl,db,Ub,Nb,Wa⟩
 have jb:=la.size
 have Tb:∀q,(Value.slice pn nm.length cn).ownBlock=some q->some g≠some q:=fun q hq e=>by have:=(ia.lt q hq).1;cases e;omega
 have Ja:=ia.keepBy Wa Tb
 have Jb:=Lb.frm (Frm.ofGrown Wa) (by simp;omega)
 have ea:=zaA Va Wa
 have ja:Below w3.heap.size w3 (w3.alloc (.cells #[.int .i64 0,.slice pn nm.length cn,.slice none 0 0,.slice pa Da.length ca,.slice none 0 0] 29)):=(Below.refl _ _).alloc (Nat.le_refl _) _
 have s1:=Loc.made w3 #[.int .i64 0,.slice pn nm.length cn,.slice none 0 0,.slice pa Da.length ca,.slice none 0 0] 29
 have Db:=Wa.size
 have fW:Frm w3 (w3.alloc (.cells #[.int .i64 0,.slice pn nm.length cn,.slice none 0 0,.slice pa Da.length ca,.slice none 0 0] 29)) [w3.heap.size]:=Frm.ofBelow ja _
 have Vb:w3.heap.size<((w3.alloc (.cells #[.int .i64 0,.slice pn nm.length cn,.slice none 0 0,.slice pa Da.length ca,.slice none 0 0] 29))).heap.size:=by simp
 have Na:∀q,q<w3.heap.size->q∉[w3.heap.size]:=fun q hq e=>by simp at e;omega
 obtain⟨Fa,r1,r2,r3,r4⟩:=db
 have Ba:Grow d g w1.heap.size w.heap.size w3.heap.size w0 w (w3.alloc (.cells #[.int .i64 0,.slice pn nm.length cn,.slice none 0 0,.slice pa Da.length ca,.slice none 0 0] 29)) Aa l pn cn nm pa ca Da 0 none 0 []:=by
  refine⟨Fa,[],Jb.frm fW (Na _ (by omega)),s1,(Ja.mono (Nat.zero_le _)).frm fW (fun q hq=>Na q (Ja.lt q (by simpa [FB]using hq)).2),OwAttrsM.frm r1 fW (fun q hq=>Na q (r3 q hq).2),OwKidsM.nil _ _,?_,?_,Yb,Ub,r4,Nat.le_refl _,(fun k hk=>by simp at hk),?_,?_⟩
  ·rw [List.append_nil]
   exact List.nodup_append.2 ⟨zaU _,r2,fun a ha b hb e=>by have:=(ia.lt a (by simpa [FB]using ha)).2;have:=(r3 b hb).1;omega⟩
  ·intro q hq
   rw [List.append_nil]at hq
   have:=fW.size
   rcases List.mem_append.1 hq with h | h
   ·have:=Ja.lt q (by simpa [FB]using h);omega
   ·have:=r3 q h;omega
  ·exact Nb.keepAll ja
  ·exact zcG ea ja
 have HG:=hide Ba
 have Fb:Byt (w3.alloc (.cells #[.int .i64 0,.slice pn nm.length cn,.slice none 0 0,.slice pa Da.length ca,.slice none 0 0] 29)) (.slice pn nm.length cn) nm:=(Ja.frm fW (fun q hq=>Na q (Ja.lt q (by simpa [FB]using hq)).2)).byt
 have HV:=hide (zse _ _ _ Fb)
 have LL:=hide (And.intro s1 Db)
 clear ia Nb Wa ea Jb Lb l4 Ja Ba Fb fW s1 ja Vb r1 r2 r3 r4 fa Eb aa la Va hA
 go_upto_region 2 with fail
 generalize (w3.alloc (.cells #[.int .i64 0,.slice pn nm.length cn,.slice none 0 0,.slice pa Da.length ca,.slice none 0 0] 29))=w4 at *
 obtain⟨s1,Db⟩:=zaa LL
 have nb:=ga
 clear LL
 generalize w3.heap.size=b5 at *
 have y1:=s1.cell 1
 simp at y1
 go_wp2_with fail
 refine (zaa HV).mono ?_
 rintro e w5 ⟨hv,rfl⟩
 clear HV y1 s1
 have Zb:True:=trivial
 rcases hv with rfl | rfl
 ·
  have HE:=hide (Grow.fin (zaa HG) (by omega) rfl (by omega) (by omega) (by omega))
  obtain⟨_,_,q4,q5,_⟩:=(zaa HG)
  obtain⟨y0,y1,y2,y3,y4⟩:=zbb q5
  obtain⟨z0,z1,z2,z3,z4⟩:=zbb q4
  have u0:=q4.frozen 0
  have u1:=q4.frozen 1
  have u2:=q4.frozen 2
  have u3:=q4.frozen 3
  have u4:=q4.frozen 4
  clear q4 q5
  go_wp2_with fail
  obtain⟨e1,e2,e3,e4⟩:=zaa HE
  clear HE y0 y1 y2 y3 y4 z0 z1 z2 z3 z4 u0 u1 u2 u3 u4
  obtain⟨k0,k1,k2,k3,k4⟩:=zbb e4
  clear e4
  simp only [List.length_nil]at k0 k1 k2 k3 k4 e1 e2 e3
  generalize (((((w5.setCell ⟨w.heap.size,0,none⟩ (.int .i64 0)).setCell ⟨w.heap.size,1,none⟩ (.slice pn nm.length cn)).setCell ⟨w.heap.size,2,none⟩ (.slice none 0 0)).setCell ⟨w.heap.size,3,none⟩ (.slice pa Da.length ca)).setCell ⟨w.heap.size,4,none⟩ (.slice none 0 0))=wz at *
  exact bodyPost_ret (v:=.agg #[.int .i64 0,.slice pn nm.length cn,.slice none 0 0,.slice pa Da.length ca,.slice none 0 0]) (by simp [results,Tryz.results53,go_sem,k0,k1,k2,k3,k4]) rfl ⟨0,pn,nm.length,cn,none,0,0,pa,Da.length,ca,none,0,0,rfl,e1,e2,e3⟩
 go_wp2_with fail
 refine (zbv w0 _ g Aa l 4 (by obtain⟨_,_,_,_,_,_,_,_,_,_,_,_,_,_,hC,_⟩:=zaa HG;exact hC) (by omega) (by omega)).mono ?_
 rintro e w6 ⟨n,Hb,Qb,rfl,Ib,Ob⟩
 have Ba:=Grow.by (zaa HG) ⟨by omega,by omega,by omega⟩ Ib Ob
 clear HG
 obtain⟨n,rfl⟩:=Int.eq_ofNat_of_zero_le Hb
 go_wp2_with fail
 have ob:n<4:=by omega
 clear Hb Qb Ib Ob
 go_loopw [7] (fun i wr=>∃(j:Nat) (ka:Xi) (kc:Nat) (kids:List (Tr d)),j<=n∧i=.int .i64 j∧Grow d g w1.heap.size w.heap.size b5 w0 w wr Aa l pn cn nm pa ca Da j ka kc kids) (fun i _=>n-(intOf i).toNat)
 case atStart=>exact⟨0,none,0,[],Nat.zero_le _,rfl,Ba⟩
 case round=>
  clear Ba
  obtain⟨j,ka,kc,kids,hj,rfl,Ba⟩:=hrel
  by_cases hlt:j<n
  ·have ya:(j:Int)<(n:Int):=by omega
   by_cases hd0:0<d
   ·have ta:(0:Int)<(d:Int):=by omega
    have HG:=hide Ba
    have HC:Cur w0 wr g Aa l:=by obtain⟨_,_,_,_,_,_,_,_,_,_,_,_,_,_,hC,_⟩:=Ba;exact hC
    clear Ba
    go_wp2_with fail
    refine (zfg w0 wr g Aa l 2 HC (by omega) (by omega)).mono ?_
    rintro e w7 ⟨bb,rfl,va,Kb⟩
    have Ba:=Grow.by (zaa HG) ⟨by omega,by omega,by omega⟩ va Kb
    have Gb:=hide Ba
    have lb:w1.heap.size<=w7.heap.size:=by obtain⟨_,_,q4,q5,_⟩:=Ba;have:=q5.lt;omega
    clear HG Kb
    cases bb with
    | true=>
     go_wp2_with fail
     obtain⟨Fk,o1,o2,o3,o4,o5,Ga⟩:=Grow.push Ba ⟨by omega,by omega,by omega⟩ (by omega) (by omega) (by omega) (by omega) (by omega)
     have HP:=hide Ga
     clear Ga Ba
     have Ia:Below w7.heap.size w7 w7.drew:=(Below.refl _ _).drew
     have sa:=o4.lt
     have Ya:=o4.all Ia
     have Ab:g∉FB (.slice ka kids.length kc):=fun h=>by have:=(o3 g (o5 g h)).1;omega
     have Sb:w7.drew.cell? ⟨b5,4,none⟩=some (.slice ka kids.length kc):=Ya.cell 4
     have Za:=hide (zlp w0 w7.drew g Aa l (va.keepAll Ia))
     obtain⟨i0,wa,qa,za,ua⟩:=info_parts zkz
     have Bb:∀args w,(callFunc 100 args).run Tryz.prog w=.ok (.enter 100 args) w:=enters_of Tryz.func100 (by kernel_rfl) rfl
     have cb:kids.length<=3:=by obtain⟨_,_,_,_,_,_,_,_,_,_,_,_,hk,_⟩:=zaa Gb;omega
     go_region_law
      (first
       | (refine zbW (by rfl) 100 [.tmp 32] #[63] (by rfl) Bb [.pointer (some ⟨g,0,none⟩)] (by rfl) (zaa Za) ?_;clear Za;rintro e w8 ⟨pw,cw,wd,rfl,Pa,Wb,na,La⟩;obtain⟨tx,Rb,gb⟩:=zAx d hd0 (Pa.mono (Nat.zero_le _)) Wb;have Sa:=Ya.frm (Frm.ofGrown La) (by simp;omega);have ab:w8.cell? ⟨b5,4,none⟩=some (.slice ka kids.length kc):=Sa.cell 4;have Ha:Below w8.heap.size w8 (w8.alloc (.cells #[.int .i64 1,.slice none 0 0,.slice pw wd.length cw,.slice none 0 0,.slice none 0 0] 29)):=(Below.refl _ _).alloc (Nat.le_refl _) _;have Xb:(w8.alloc (.cells #[.int .i64 1,.slice none 0 0,.slice pw wd.length cw,.slice none 0 0,.slice none 0 0] 29)).cell? ⟨b5,4,none⟩=some (.slice ka kids.length kc):=(Sa.all Ha).cell 4;refine⟨_,rfl,?_⟩)
       | (refine zeJ (R:=OwNodeM d) (fun h f d=>OwNodeM.frm h f d) (by rfl) (.tmp 31) (.tmp 35) 27 (by rfl) 29 i0 (.agg #[.int .i64 0,.slice none 0 0,.slice none 0 0,.slice none 0 0,.slice none 0 0]) 5 104 Tryz.underlying27 wa qa za ua rfl (by decide) _ kids Fk (by rfl) (OwKidsM.frm (OwKidsM.frm (OwKidsM.frm o1 (Frm.ofBelow Ia []) (fun _ _=>by simp)) (Frm.ofGrown La) (fun q hq=>by have:=(o3 q hq).1;simp;omega)) (Frm.ofBelow Ha []) (fun _ _=>by simp)) o2 ⟨w8.heap.size,0,none⟩ 1 [.int .i64 1,.slice none 0 0,.slice pw wd.length cw,.slice none 0 0,.slice none 0 0] tx (FB (.slice pw wd.length cw)) (by rfl) rfl (fun i u hu=>World.news_of_block (heap_alloc_new w8 (.cells #[.int .i64 1,.slice none 0 0,.slice pw wd.length cw,.slice none 0 0,.slice none 0 0] 29)) i u (by simpa using hu)) (by intro y hy;simp at hy;rcases hy with rfl | rfl | rfl | rfl | rfl<;>rfl) (Rb.keep Ha) (zaU _) (fun q hq Ca=>by have h1:=(o3 q hq).2.1;have h3:=Ia.size;have:=Pa.lt q (by simpa [FB]using Ca);omega) (fun q Ca=>by have h1:=La.size;have h2:=Ha.size;have h3:=Ia.size;rcases Ca with Ca | Ca;(have:=(o3 q Ca).2.1;omega);(have:=Pa.lt q (by simpa [FB]using Ca);omega)) (by unfold maxLen;omega) (by omega) ?_;intro g9 Ta w9 F9 Oa da Xa Ra fb;obtain⟨n9,Qa⟩:∃n9,n9=kids.length+1:=⟨_,rfl⟩;rw [<-Qa]at Oa ⊢;have ba:=(Sa.all Ha).frm Ra (fun h=>(o3 b5 (o5 b5 h)).2.2.2 rfl);have Pb:w9.cell? ⟨b5,4,none⟩=some (.slice ka kids.length kc):=ba.cell 4;have ib:=ba.frozen 4))
     all_goals
      have Ka:∀q∈F9,(q∈Fk∨w7.heap.size<=q)∧q<w9.heap.size:=fun q hq=>by
       refine⟨?_,OwElems.ltM Oa (fun C x G h=>OwNodeM.lt h) q hq⟩
       have s8:w7.heap.size<=w8.heap.size:=La.size
       rcases Xa q hq with h | Ca | h
       ·exact .inl h
       ·have h3:=Ia.size;have:=Pa.lt q (by simpa [FB]using Ca);right;omega
       ·right;simp only [World.size_alloc]at h;omega
      have Ma:Frm w7 w9 (g::FB (.slice ka kids.length kc)):=((Frm.ofBelow Ia _).trans ((Frm.ofGrown La).mono (fun q hq=>by simp at hq;simp [hq]))).trans ((Frm.ofBelow Ha _).trans (Ra.mono (fun q hq=>List.mem_cons_of_mem _ hq)))
      have Ua:Cur w0 w9 g Aa l:=(na.keepAll Ha).keepF Ra Ab (fun q hq=>by have:=(o3 q (o5 q hq)).1;omega)
      have oa:=hide (zaa HP tx w9 g9 Ta n9 F9 gb Qa Ma Ua Oa da Ka)
      clear HP Ua Ma Ka Xa Oa da o1 o2 o3 o5
      go_wp2_with fail
      go_roundw
      case rel=>exact⟨j+1,_,_,_,by omega,by go_num,by have h:=zaa oa;rw [Qa]at h;exact h⟩
      case measure=>simp [intOf];omega
    | false=>
     go_wp2_with fail
     obtain⟨Fk,o1,o2,o3,o4,o5,Ga⟩:=Grow.push Ba ⟨by omega,by omega,by omega⟩ (by omega) (by omega) (by omega) (by omega) (by omega)
     have HP:=hide Ga
     clear Ga Ba
     have Ia:Below w7.heap.size w7 w7.drew:=(Below.refl _ _).drew
     have sa:=o4.lt
     have Ya:=o4.all Ia
     have Ab:g∉FB (.slice ka kids.length kc):=fun h=>by have:=(o3 g (o5 g h)).1;omega
     have Sb:w7.drew.cell? ⟨b5,4,none⟩=some (.slice ka kids.length kc):=Ya.cell 4
     have Za:=hide zAU d hd hd0 IH w0 w7.drew g Aa l (va.keepAll Ia)
     obtain⟨i0,wa,qa,za,ua⟩:=info_parts zkz
     have Bb:∀args w,(callFunc 53 args).run Tryz.prog w=.ok (.enter 53 args) w:=enters_of Tryz.func53 (by kernel_rfl) rfl
     have cb:kids.length<=3:=by obtain⟨_,_,_,_,_,_,_,_,_,_,_,_,hk,_⟩:=zaa Gb;omega
     go_region_law
      (first
       | (refine zbW (by rfl) 53 [.tmp 40,.tmp 42] #[63,3] (by rfl) Bb [.pointer (some ⟨g,0,none⟩),.int .i64 (IntKind.i64.wrap ((d:Int)-1))] (by rfl) (zaa Za) ?_;clear Za;rintro e w8 ⟨k1,p1,n1,c1,p2,n2,c2,p3,n3,c3,p4,n4,c4,rfl,⟨tk,Gk,xa,Cb,ma,ra⟩,na,La⟩;have Sa:=Ya.frm (Frm.ofGrown La) (by simp;omega);have ab:w8.cell? ⟨b5,4,none⟩=some (.slice ka kids.length kc):=Sa.cell 4;have Ha:Below w8.heap.size w8 (w8.alloc (.cells #[.int .i64 k1,.slice p1 n1 c1,.slice p2 n2 c2,.slice p3 n3 c3,.slice p4 n4 c4] 29)):=(Below.refl _ _).alloc (Nat.le_refl _) _;have Xb:(w8.alloc (.cells #[.int .i64 k1,.slice p1 n1 c1,.slice p2 n2 c2,.slice p3 n3 c3,.slice p4 n4 c4] 29)).cell? ⟨b5,4,none⟩=some (.slice ka kids.length kc):=(Sa.all Ha).cell 4;refine⟨_,rfl,?_⟩)
       | (refine zeJ (R:=OwNodeM d) (fun h f d=>OwNodeM.frm h f d) (by rfl) (.tmp 39) (.tmp 44) 27 (by rfl) 29 i0 (.agg #[.int .i64 0,.slice none 0 0,.slice none 0 0,.slice none 0 0,.slice none 0 0]) 5 104 Tryz.underlying27 wa qa za ua rfl (by decide) _ kids Fk (by rfl) (OwKidsM.frm (OwKidsM.frm (OwKidsM.frm o1 (Frm.ofBelow Ia []) (fun _ _=>by simp)) (Frm.ofGrown La) (fun q hq=>by have:=(o3 q hq).1;simp;omega)) (Frm.ofBelow Ha []) (fun _ _=>by simp)) o2 ⟨w8.heap.size,0,none⟩ 1 [.int .i64 k1,.slice p1 n1 c1,.slice p2 n2 c2,.slice p3 n3 c3,.slice p4 n4 c4] tk Gk (by rfl) rfl (fun i u hu=>World.news_of_block (heap_alloc_new w8 (.cells #[.int .i64 k1,.slice p1 n1 c1,.slice p2 n2 c2,.slice p3 n3 c3,.slice p4 n4 c4] 29)) i u (by simpa using hu)) (by intro y hy;simp at hy;rcases hy with rfl | rfl | rfl | rfl | rfl<;>rfl) (xa.keep Ha) (Cb) (fun q hq Ca=>by have h1:=(o3 q hq).2.1;have h3:=Ia.size;have:=ma q Ca;omega) (fun q Ca=>by have h1:=La.size;have h2:=Ha.size;have h3:=Ia.size;rcases Ca with Ca | Ca;(have:=(o3 q Ca).2.1;omega);(have:=ma q Ca;omega)) (by unfold maxLen;omega) (by omega) ?_;intro g9 Ta w9 F9 Oa da Xa Ra fb;obtain⟨n9,Qa⟩:∃n9,n9=kids.length+1:=⟨_,rfl⟩;rw [<-Qa]at Oa ⊢;have ba:=(Sa.all Ha).frm Ra (fun h=>(o3 b5 (o5 b5 h)).2.2.2 rfl);have Pb:w9.cell? ⟨b5,4,none⟩=some (.slice ka kids.length kc):=ba.cell 4;have ib:=ba.frozen 4))
     all_goals
      have Ka:∀q∈F9,(q∈Fk∨w7.heap.size<=q)∧q<w9.heap.size:=fun q hq=>by
       refine⟨?_,OwElems.ltM Oa (fun C x G h=>OwNodeM.lt h) q hq⟩
       have s8:w7.heap.size<=w8.heap.size:=La.size
       rcases Xa q hq with h | Ca | h
       ·exact .inl h
       ·have h3:=Ia.size;have:=ma q Ca;right;omega
       ·right;simp only [World.size_alloc]at h;omega
      have Ma:Frm w7 w9 (g::FB (.slice ka kids.length kc)):=((Frm.ofBelow Ia _).trans ((Frm.ofGrown La).mono (fun q hq=>by simp at hq;simp [hq]))).trans ((Frm.ofBelow Ha _).trans (Ra.mono (fun q hq=>List.mem_cons_of_mem _ hq)))
      have Ua:Cur w0 w9 g Aa l:=(na.keepAll Ha).keepF Ra Ab (fun q hq=>by have:=(o3 q (o5 q hq)).1;omega)
      have oa:=hide (zaa HP tk w9 g9 Ta n9 F9 ra Qa Ma Ua Oa da Ka)
      clear HP Ua Ma Ka Xa Oa da o1 o2 o3 o5
      go_wp2_with fail
      go_roundw
      case rel=>exact⟨j+1,_,_,_,by omega,by go_num,by have h:=zaa oa;rw [Qa]at h;exact h⟩
      case measure=>simp [intOf];omega
   ·have ta:¬ (0:Int)<(d:Int):=by omega
    have HE:=hide (Grow.fin Ba (by omega) rfl (by omega) (by omega) (by omega))
    obtain⟨_,_,q4,q5,_⟩:=Ba
    obtain⟨y0,y1,y2,y3,y4⟩:=zbb q5
    obtain⟨z0,z1,z2,z3,z4⟩:=zbb q4
    have u0:=q4.frozen 0
    have u1:=q4.frozen 1
    have u2:=q4.frozen 2
    have u3:=q4.frozen 3
    have u4:=q4.frozen 4
    clear q4 q5
    go_wp2_with fail
    obtain⟨e1,e2,e3,e4⟩:=zaa HE
    clear HE y0 y1 y2 y3 y4 z0 z1 z2 z3 z4 u0 u1 u2 u3 u4
    obtain⟨k0,k1,k2,k3,k4⟩:=zbb e4
    clear e4
    generalize (((((wr.setCell ⟨w.heap.size,0,none⟩ (.int .i64 0)).setCell ⟨w.heap.size,1,none⟩ (.slice pn nm.length cn)).setCell ⟨w.heap.size,2,none⟩ (.slice none 0 0)).setCell ⟨w.heap.size,3,none⟩ (.slice pa Da.length ca)).setCell ⟨w.heap.size,4,none⟩ (.slice ka kids.length kc))=wz at *
    exact bodyPost_ret (v:=.agg #[.int .i64 0,.slice pn nm.length cn,.slice none 0 0,.slice pa Da.length ca,.slice ka kids.length kc]) (by simp [results,Tryz.results53,go_sem,k0,k1,k2,k3,k4]) rfl ⟨0,pn,nm.length,cn,none,0,0,pa,Da.length,ca,ka,kids.length,kc,rfl,e1,e2,e3⟩
  ·have ya:¬ (j:Int)<(n:Int):=by omega
   have HE:=hide (Grow.fin Ba (by omega) rfl (by omega) (by omega) (by omega))
   obtain⟨_,_,q4,q5,_⟩:=Ba
   obtain⟨y0,y1,y2,y3,y4⟩:=zbb q5
   obtain⟨z0,z1,z2,z3,z4⟩:=zbb q4
   have u0:=q4.frozen 0
   have u1:=q4.frozen 1
   have u2:=q4.frozen 2
   have u3:=q4.frozen 3
   have u4:=q4.frozen 4
   clear q4 q5
   go_wp2_with fail
   obtain⟨e1,e2,e3,e4⟩:=zaa HE
   clear HE y0 y1 y2 y3 y4 z0 z1 z2 z3 z4 u0 u1 u2 u3 u4
   obtain⟨k0,k1,k2,k3,k4⟩:=zbb e4
   clear e4
   generalize (((((wr.setCell ⟨w.heap.size,0,none⟩ (.int .i64 0)).setCell ⟨w.heap.size,1,none⟩ (.slice pn nm.length cn)).setCell ⟨w.heap.size,2,none⟩ (.slice none 0 0)).setCell ⟨w.heap.size,3,none⟩ (.slice pa Da.length ca)).setCell ⟨w.heap.size,4,none⟩ (.slice ka kids.length kc))=wz at *
   exact bodyPost_ret (v:=.agg #[.int .i64 0,.slice pn nm.length cn,.slice none 0 0,.slice pa Da.length ca,.slice ka kids.length kc]) (by simp [results,Tryz.results53,go_sem,k0,k1,k2,k3,k4]) rfl ⟨0,pn,nm.length,cn,none,0,0,pa,Da.length,ca,ka,kids.length,kc,rfl,e1,e2,e3⟩
theorem zlV:∀d,d<=4->zld d
 | 0,h=>zjX 0 h (fun d' e=>by omega)
 | d+1,h=>zjX (d+1) h (fun d' e=>by
   obtain rfl:d=d':=by omega
   exact zlV d (by omega))
end Go.Proofs.YtgjolijncmkkhaaGreatDoor
