/- Own texts joined: DoM, PlF, SetP, Push, SetQ, SdM, SdB, SdI, OpsT, LesI, OpsM, PutV, L5fd, AppM, L5tk, L5ao, L5sa, RegI. -/
import Derived.Test.YtlpnibbdmkeklaaGreatDoorJa
import Derived.Test.YtlpnibbdmkeklaaGreatDoorJb
import Derived.Test.YtlpnibbdmkeklaaGreatDoorJc
import Derived.Test.YtlpnibbdmkeklaaGreatDoorJd
import Derived.Deep.AppendLies
import Derived.Deep.RegionHeld3
import Derived.WalkLawsBesides
import Derived.Deep.QuietTactic
import Derived.BigQuiet
import Derived.Deep.Cut
import Derived.Deep.CutRange
import Derived.OrdersIn
import Derived.OwnWalkIn
namespace Go.Proofs.YtlpnibbdmkeklaaGreatDoor
open Go.RowKit
set_option linter.unusedVariables false
def AtI (l:List PlV):Prop:=∀p∈l,SrtA p.attrs∧p.attrs.length≤4
def Kd2 (l:List PlV):Prop:=∀(k:Nat) (p:PlV),k<2→l[k]? = some p→p.kind=0
theorem zlj {l:List AtV} {n:List Int}:∀x∈l.take (posA l n),klB x.1 n=true:=by
 induction l with
 | nil=>intro x hx;simp at hx
 | cons a r ih=>
  rw [zer]
  by_cases h:klB a.1 n=true
  ·rw [if_pos h,List.take_succ_cons]
   intro x hx
   rcases List.mem_cons.1 hx with rfl | hx
   ·exact h
   ·exact ih x hx
  ·rw [if_neg h];intro x hx;simp at hx
theorem zgD {l:List AtV} {n:List Int} (hs:SrtA l) (ht:zbf l n=false):∀x∈l.drop (posA l n),klB n x.1=true:=by
 induction l with
 | nil=>intro x hx;simp at hx
 | cons a r ih=>
  obtain⟨ha,hr⟩:=List.pairwise_cons.1 hs
  rw [zer]
  rw [zgU]at ht
  by_cases h:klB a.1 n=true
  ·rw [if_pos h]at ht ⊢
   rw [List.drop_succ_cons]
   exact ih hr ht
  ·rw [if_neg h]at ht ⊢
   have hne:a.1≠n:=of_decide_eq_false ht
   have h1:=zec a.1 n
   rw [decide_eq_false hne]at h1
   have h0:klB a.1 n=false:=by simpa using h
   rw [h0]at h1
   have hna:klB n a.1=true:=by simpa using h1
   intro x hx
   rw [List.drop_zero]at hx
   rcases List.mem_cons.1 hx with rfl | hx
   ·exact hna
   ·exact zdB hna (ha x hx)
theorem zhW {l:List AtV} (h:SrtA l) (o:OpV):SrtA (chgI l o):=by
 unfold chgI
 by_cases ht:zbf l o.name=true
 ·rw [if_pos ht]
  obtain⟨hp,he⟩:=zfP ht
  by_cases hg:o.gone=true
  ·rw [if_pos hg,←List.eraseIdx_eq_take_drop_succ]
   exact List.Pairwise.sublist (List.eraseIdx_sublist ..) h
  ·rw [if_neg hg]
   have hm:(l.set (posA l o.name) (o.name,o.text)).map (·.1)=l.map (·.1):=by
    rw [List.map_set]
    apply List.ext_getElem?
    intro j
    rw [List.getElem?_set]
    split
    ·rename_i e
     subst e
     simp [hp,he]
    ·rfl
   have h2:(l.map (·.1)).Pairwise (fun a b=>klB a b=true):=List.pairwise_map.2 h
   rw [←hm]at h2
   exact List.pairwise_map.1 h2
 ·have ht':zbf l o.name=false:=by simpa using ht
  rw [if_neg ht]
  by_cases hg:o.gone=true
  ·rw [if_pos hg];exact h
  ·rw [if_neg hg]
   by_cases h4:l.length=4
   ·rw [if_pos h4];exact h
   ·rw [if_neg h4]
    refine List.pairwise_append.2 ⟨List.Pairwise.sublist (List.take_sublist ..) h,List.pairwise_cons.2 ⟨fun y hy=>zgD h ht' y hy,List.Pairwise.sublist (List.drop_sublist ..) h⟩,fun x hx y hy=> ?_⟩
    have hx':=zlj x hx
    rcases List.mem_cons.1 hy with rfl | hy
    ·exact hx'
    ·exact zdB hx' (zgD h ht' y hy)
theorem zhS {l:List AtV} (hl:l.length≤4) (o:OpV):(chgI l o).length≤4:=by
 unfold chgI
 have:=zgk l o.name
 split
 ·split
  ·simp;omega
  ·simpa using hl
 ·split
  ·exact hl
  ·split
   ·exact hl
   ·simp;omega
theorem zcE {l:List PlV} {k:Nat} {p q:PlV} (h:q∈l.set k p):q∈l∨q=p:=List.mem_or_eq_of_mem_set h
theorem AtI.do {l:List PlV} (h:AtI l) (o:OpV):AtI (doV l o):=by
 unfold doV
 split
 ·split
  ·intro p hp
   rcases List.mem_append.1 hp with hp | hp
   ·exact h p hp
   ·have e:p=newP o:=by simpa using hp
    rw [e]
    exact⟨List.Pairwise.nil,by simp [newP]⟩
  ·exact h
 ·split
  ·exact h
  ·rename_i k hk
   split
   ·exact h
   ·rename_i p hp
    have hpm:=h p (List.mem_of_getElem? hp)
    split
    ·split
     ·intro q hq
      rcases zcE hq with hq | rfl
      ·exact h q hq
      ·exact hpm
     ·exact h
    ·split
     ·split
      ·intro q hq
       rcases zcE hq with hq | rfl
       ·exact h q hq
       ·exact hpm
      ·exact h
     ·split
      ·intro q hq
       rcases zcE hq with hq | rfl
       ·exact h q hq
       ·show SrtA (setAttrs p.attrs o)∧(setAttrs p.attrs o).length≤4
        rw [zfw hpm.1 hpm.2]
        exact⟨zhW hpm.1 o,zhS hpm.2 o⟩
      ·exact h
theorem Kd2.set {l:List PlV} (h:Kd2 l) {k:Nat} {p q:PlV} (hk:l[k]? = some p) (e:q.kind=p.kind):Kd2 (l.set k q):=fun j r hj hr=>by
 rcases zcG hk hr with ⟨rfl,rfl⟩ | ⟨_,hr⟩
 ·rw [e];exact h _ p hj hk
 ·exact h j r hj hr
theorem Kd2.do {l:List PlV} (h:Kd2 l) (h2:2≤l.length) (o:OpV):Kd2 (doV l o):=by
 unfold doV
 split
 ·split
  ·intro k p hk hp
   rw [List.getElem?_append_left (by omega)]at hp
   exact h k p hk hp
  ·exact h
 ·split
  ·exact h
  ·split
   ·exact h
   ·rename_i p hp
    split
    ·split
     ·exact h.set hp rfl
     ·exact h
    ·split
     ·split
      ·exact h.set hp rfl
      ·exact h
     ·split
      ·exact h.set hp rfl
      ·exact h
theorem zef {n r:Int} (h:idB n r=true):okI (n,r):=by
 unfold idB at h
 simp only [Bool.and_eq_true,Bool.or_eq_true,decide_eq_true_eq]at h
 exact⟨WalkArith.wf_i64 (by omega),WalkArith.wf_i64 (by omega)⟩
theorem zrP {n r:Int} (h:zan n r=true):okI (n,r):=by
 unfold zan at h
 simp only [Bool.and_eq_true,decide_eq_true_eq]at h
 exact⟨WalkArith.wf_i64 (by omega),WalkArith.wf_i64 (by omega)⟩
theorem zhY {o:OpV} (h:opB o=true):o.kind=0∨o.kind=1∨o.kind=2∨o.kind=3:=by
 by_cases h0:o.kind=0
 ·exact .inl h0
 ·by_cases h1:o.kind=1
  ·exact .inr (.inl h1)
  ·by_cases h2:o.kind=2
   ·exact .inr (.inr (.inl h2))
   ·by_cases h3:o.kind=3
    ·exact .inr (.inr (.inr h3))
    ·rw [zqA h0 h1 h2 h3]at h;cases h
theorem zoJ {o:OpV} (h:opB o=true) (h0:o.kind=0):zan o.atN o.atR=true∧okI o.at'∧okI o.par∧(o.elem=0∨o.elem=1):=by
 rw [zjp h0]at h
 simp only [Bool.and_eq_true]at h
 refine⟨h.1,zrP h.1,zef h.2.1.1,?_⟩
 have h9:=h.2.1.2.2
 unfold zcy at h9
 by_cases e0:o.elem=0
 ·exact .inl e0
 ·by_cases e1:o.elem=1
  ·exact .inr e1
  ·rw [if_neg e0,if_neg e1]at h9;cases h9
theorem zrh {o:OpV} (h:opB o=true) (h1:o.kind=1):okI o.node∧okI o.par:=by
 rw [zjt h1]at h
 simp only [Bool.and_eq_true]at h
 exact⟨zef h.2.1.1,zef h.2.1.2.1⟩
theorem zrA {o:OpV} (h:opB o=true) (h1:o.kind=2):okI o.node:=by
 rw [zjs h1]at h
 simp only [Bool.and_eq_true]at h
 exact zef h.2.1.1
theorem zri {o:OpV} (h:opB o=true) (h1:o.kind=3):okI o.node∧zai o.name:=by
 rw [zjo h1]at h
 simp only [Bool.and_eq_true]at h
 exact⟨zef h.2.1.1,(zbv _).1 h.2.1.2.1⟩
theorem zsn {l:List PlV} (h:Fr l) {o:OpV} {k:Nat} (hk:posP l o.node=some k):zbX l o k=mayI l o.node o.par:=by
 unfold zbX mayI
 have hlow:=h.low hk
 have e1:decide (2≤k) = !decide (o.node=zak∨o.node=zag):=by
  by_cases h2:k<2
  ·rw [decide_eq_true (hlow.1 h2),decide_eq_false (by omega)];rfl
  ·rw [decide_eq_false (fun e=>h2 (hlow.2 e)),decide_eq_true (by omega)];rfl
 rw [e1]
 cases ht:zae l o.par with
 | false=>simp
 | true=>
  obtain⟨j,p,hj,_⟩:=zdD ht
  rw [h.under o.par o.node j hj]
set_option maxRecDepth 100000
def IntsF (w0 w:World) (v:Value) (l:List Int) (F:List Nat):Prop:=(Ints w0 v l∧F=[])∨(OwnZ w 0 v l∧F=FB v)
def BytF (w0 w:World) (v:Value) (l:List Int) (F:List Nat):Prop:=(Byt w0 v l∧F=[])∨(RowM w 0 v l∧F=FB v)
def zjq (w0:World) (C:List Value) (x:List Int×List Int) (G:List Nat):Prop:=∃a b,C=[a,b]∧Byt w0 a x.1∧Byt w0 b x.2∧G=[]
def AttrsF (w0 w:World) (v:Value) (l:List (List Int×List Int)) (F:List Nat):Prop:=(RdAttrs w0 v l∧F=[])∨OwElems w 144 2 v l (zjq w0) F
def PlF (w0 w:World) (C:List Value) (p:PlV) (F:List Nat):Prop:=∃k n t a F1 F2 F3,C=[.int .i64 p.idN,.int .i64 p.idR,.int .i64 p.parN,.int .i64 p.parR,k,.int .i64 p.kind,n,t,a]∧IntsF w0 w k p.key F1∧BytF w0 w n p.name F2∧Byt w0 t p.text∧AttrsF w0 w a p.attrs F3∧F=F1++F2++F3
def PlsF (w0 w:World) (v:Value) (l:List PlV) (F:List Nat):Prop:=OwElems w 117 9 v l (PlF w0 w) F
theorem IntsF.frm {w0 w w':World} {v:Value} {l:List Int} {F S:List Nat} (h:IntsF w0 w v l F) (f:Frm w w' S) (hd:∀g∈F,g∉S):IntsF w0 w' v l F:=by
 rcases h with h | ⟨h,rfl⟩
 ·exact .inl h
 ·exact .inr ⟨h.frm f hd,rfl⟩
theorem BytF.frm {w0 w w':World} {v:Value} {l:List Int} {F S:List Nat} (h:BytF w0 w v l F) (f:Frm w w' S) (hd:∀g∈F,g∉S):BytF w0 w' v l F:=by
 rcases h with h | ⟨h,rfl⟩
 ·exact .inl h
 ·exact .inr ⟨h.frm f hd,rfl⟩
theorem AttrsF.frm {w0 w w':World} {v:Value} {l:List (List Int×List Int)} {F S:List Nat} (h:AttrsF w0 w v l F) (f:Frm w w' S) (hd:∀g∈F,g∉S):AttrsF w0 w' v l F:=by
 rcases h with h | h
 ·exact .inl h
 ·exact .inr (OwElems.frm h f hd (fun C x G hr hG=>hr))
theorem PlF.frm {w0 w w':World} {C:List Value} {p:PlV} {F S:List Nat} (h:PlF w0 w C p F) (f:Frm w w' S) (hd:∀g∈F,g∉S):PlF w0 w' C p F:=by
 obtain⟨k,n,t,a,F1,F2,F3,e,h1,h2,h3,h4,rfl⟩:=h
 exact⟨k,n,t,a,F1,F2,F3,e,h1.frm f (fun g hg=>hd g (by simp [hg])),h2.frm f (fun g hg=>hd g (by simp [hg])),h3,h4.frm f (fun g hg=>hd g (by simp [hg])),rfl⟩
theorem PlsF.frm {w0 w w':World} {v:Value} {l:List PlV} {F S:List Nat} (h:PlsF w0 w v l F) (f:Frm w w' S) (hd:∀g∈F,g∉S):PlsF w0 w' v l F:=OwElems.frm h f hd (fun C x G hr hG=>hr.frm f hG)
theorem IntsF.rd {w0 w:World} {v:Value} {l:List Int} {F:List Nat} (h:IntsF w0 w v l F) (hb:Below w0.heap.size w0 w):Ints w v l:=by
 rcases h with ⟨h,_⟩ | ⟨h,_⟩
 ·exact h.keep hb
 ·exact h.ints
theorem BytF.rd {w0 w:World} {v:Value} {l:List Int} {F:List Nat} (h:BytF w0 w v l F) (hb:Below w0.heap.size w0 w):Byt w v l:=by
 rcases h with ⟨h,_⟩ | ⟨h,_⟩
 ·exact h.keep hb
 ·exact h.byt
theorem AttrsF.rd {w0 w:World} {v:Value} {l:List (List Int×List Int)} {F:List Nat} (h:AttrsF w0 w v l F) (hb:Below w0.heap.size w0 w):RdAttrs w v l:=by
 rcases h with ⟨h,_⟩ | h
 ·exact h.keep hb
 ·exact OwElems.rd h (OwElems.len h) (fun C x G ⟨a,b,e,h1,h2,_⟩=>⟨a,b,e,h1.keep hb,h2.keep hb⟩)
theorem PlF.rd {w0 w:World} {C:List Value} {p:PlV} {F:List Nat} (h:PlF w0 w C p F) (hb:Below w0.heap.size w0 w):RdPlC w C p:=by
 obtain⟨k,n,t,a,F1,F2,F3,e,h1,h2,h3,h4,_⟩:=h
 exact⟨k,n,t,a,e,h1.rd hb,h2.rd hb,h3.keep hb,h4.rd hb⟩
theorem PlsF.rd {w0 w:World} {v:Value} {l:List PlV} {F:List Nat} (h:PlsF w0 w v l F) (hb:Below w0.heap.size w0 w):RdPls w v l:=OwElems.rd h (OwElems.len h) (fun C x G hr=>hr.rd hb)
def StB (w0 w:World) (sb:Nat) (a:Option Addr) (c:Nat) (l:List PlV) (F:List Nat):Prop:=Loc w sb #[.slice a l.length c] 58∧PlsF w0 w (.slice a l.length c) l F∧F.Nodup∧(∀q∈F,w0.heap.size≤q∧q<w.heap.size∧q≠sb)∧w0.heap.size≤sb∧Below w0.heap.size w0 w
theorem StB.frm {w0 w w':World} {sb:Nat} {a:Option Addr} {c:Nat} {l:List PlV} {F S:List Nat} (h:StB w0 w sb a c l F) (f:Frm w w' S) (hd:∀g∈F,g∉S) (hs:sb∉S) (hS:∀q∈S,w0.heap.size≤q):StB w0 w' sb a c l F:=by
 obtain⟨h1,h2,h3,h4,h5,h6⟩:=h
 exact⟨h1.frm f hs,h2.frm f hd,h3,fun q hq=>⟨(h4 q hq).1,Nat.lt_of_lt_of_le (h4 q hq).2.1 f.size,(h4 q hq).2.2⟩,h5,h6.trans (f.below h6.size hS)⟩
theorem StB.keep {w0 w w':World} {sb:Nat} {a:Option Addr} {c:Nat} {l:List PlV} {F:List Nat} (h:StB w0 w sb a c l F) (hb:Below w.heap.size w w'):StB w0 w' sb a c l F:=h.frm (Frm.ofBelow hb []) (fun _ _=>by simp) (by simp) (fun q hq=>by cases hq)
theorem zcs {Fs:List (List Nat)} {G:List Nat} {i q:Nat} (h:q∈(Fs.set i G).flatten):q∈Fs.flatten∨q∈G:=by
 obtain⟨F,hF,hq⟩:=List.mem_flatten.1 h
 rcases List.mem_or_eq_of_mem_set hF with hF | rfl
 ·exact .inl (List.mem_flatten.2 ⟨F,hF,hq⟩)
 ·exact .inr hq
theorem zda:∀{Fs:List (List Nat)} {G:List Nat} {i:Nat},Fs.flatten.Nodup→G.Nodup→(∀q∈G,q∈Fs.getD i []∨q∉Fs.flatten)→(Fs.set i G).flatten.Nodup
 | [],_,_,_,_,_=>by simp
 | F::Fs,G,0,h,hG,hd=>by
  rw [List.flatten_cons]at h
  have h':=List.nodup_append.1 h
  rw [List.set_cons_zero,List.flatten_cons]
  refine List.nodup_append.2 ⟨hG,h'.2.1,fun a ha b hb e=> ?_⟩
  subst e
  rcases hd a ha with h1 | h1
  ·exact h'.2.2 a (by simpa using h1) a hb rfl
  ·exact h1 (by rw [List.flatten_cons];exact List.mem_append_right _ hb)
 | F::Fs,G,i+1,h,hG,hd=>by
  rw [List.flatten_cons]at h
  have h':=List.nodup_append.1 h
  rw [List.set_cons_succ,List.flatten_cons]
  refine List.nodup_append.2 ⟨h'.1,zda h'.2.1 hG (fun q hq=> ?_),fun a ha b hb e=> ?_⟩
  ·rcases hd q hq with h1 | h1
   ·exact .inl (by simpa using h1)
   ·exact .inr (fun hq'=>h1 (by rw [List.flatten_cons];exact List.mem_append_right _ hq'))
  ·subst e
   rcases zcs hb with hb | hb
   ·exact h'.2.2 a ha a hb rfl
   ·rcases hd a hb with h1 | h1
    ·exact h'.2.2 a ha a (zau (by simpa using h1)) rfl
    ·exact h1 (by rw [List.flatten_cons];exact List.mem_append_left _ ha)
theorem PlsF.one {w0 w:World} {g cap:Nat} {l:List PlV} {F:List Nat} (h:PlsF w0 w (.slice (some ⟨g,0,none⟩) l.length cap) l F) (hN:F.Nodup) (k:Nat) (hk:k<l.length) :
  ∃Cs C G,RowJ w 117 9 g l.length cap Cs k C∧PlF w0 w C l[k] G∧G.Nodup∧(∀q∈G,q∈F)∧g∈F∧g∉G∧
   ∀(w':World) (D:List Value) (p':PlV) (G':List Nat),RowJ w' 117 9 g l.length cap Cs k D→Frm w w' [g]→PlF w0 w' D p' G'→G'.Nodup→(∀q∈G',q∈G∨q∉F)→
    ∃F',PlsF w0 w' (.slice (some ⟨g,0,none⟩) (l.set k p').length cap) (l.set k p') F'∧F'.Nodup∧∀q∈F',q∈F∨q∈G':=by
 obtain⟨Cs,Fs,e1,e2,e3,e4,rfl⟩:=h
 have hC:∀i,i<Cs.length→(Cs.getD i []).length=9:=fun i hi=>(e3 i (by omega)).1
 have hgF:g∉Fs.flatten:=fun hq=>(List.nodup_append.1 hN).2.2 g (by simp [FB,Value.ownBlock]) g hq rfl
 have hNf:=(List.nodup_append.1 hN).2.1
 refine⟨Cs,Cs.getD k [],Fs.getD k [],RowJ.start e1 hC k hk e4,(e3 k hk).2,zdf hNf,fun q hq=>List.mem_append_right _ (zau hq),by simp [FB,Value.ownBlock],fun hq=>hgF (zau hq),?_⟩
 intro w' D p' G' hR f hp hGN hG'
 have hgG:g∉G':=fun hq=>by
  rcases hG' g hq with h1 | h1
  ·exact hgF (zau h1)
  ·exact h1 (by simp [FB,Value.ownBlock])
 refine⟨FB (.slice (some ⟨g,0,none⟩) l.length cap)++(Fs.set k G').flatten,⟨Cs.set k D,Fs.set k G',by simp [e1],by simp [e2],fun i hi=> ?_,?_,?_⟩,?_,?_⟩
 ·have hi':i<l.length:=by simpa using hi
  by_cases e:i=k
  ·subst e
   rw [zbD _ _ _ (by omega),zbD _ _ _ (by omega),List.getElem_set_self]
   exact⟨hR.lenD,hp⟩
  ·rw [zbt _ _ _ _ e,zbt _ _ _ _ e,List.getElem_set_ne (Ne.symm e)]
   exact⟨(e3 i hi').1,(e3 i hi').2.frm f (fun q hq hq'=>by simp at hq';subst hq';exact hgF (zau hq))⟩
 ·rw [List.length_set]
  exact hR.row
 ·rw [List.length_set]
 ·refine List.nodup_append.2 ⟨zaE _,zda hNf hGN (fun q hq=>(hG' q hq).imp id (fun h1 h2=>h1 (List.mem_append_right _ h2))),fun a ha b hb e=> ?_⟩
  have ea:a=g:=by simpa [FB,Value.ownBlock]using ha
  subst e
  subst ea
  rcases zcs hb with hb | hb
  ·exact hgF hb
  ·exact hgG hb
 ·intro q hq
  rcases List.mem_append.1 hq with hq | hq
  ·exact .inl (List.mem_append_left _ hq)
  ·rcases zcs hq with hq | hq
   ·exact .inl (List.mem_append_right _ hq)
   ·exact .inr hq
theorem OwElems.push {α:Type} {R:World→List Value→α→List Nat→Prop} (hRf:∀{w w':World} {S:List Nat} {C:List Value} {x:α} {G:List Nat},R w C x G→Frm w w' S→(∀g∈G,g∉S)→R w' C x G)
  {w w':World} {e:TypeId} {size:Nat} {v:Value} {l:List α} {Cs:List (List Value)} {Fs:List (List Nat)} {C:List Value} {y:α} {G:List Nat} {g cap:Nat}
  (h1:Cs.length=l.length) (h2:Fs.length=l.length) (h3:∀i (hi:i<l.length),(Cs.getD i []).length=size∧R w (Cs.getD i []) l[i] (Fs.getD i []))
  (hN:(FB v++Fs.flatten).Nodup) (hC:C.length=size) (hy:R w C y G) (hGN:G.Nodup) (hFG:∀g∈FB v++Fs.flatten,g∉G) (hlt:∀q,q∈FB v++Fs.flatten∨q∈G→q<w.heap.size)
  (k1:w'.ownsRow 0 e size (.slice (some ⟨g,0,none⟩) (l.length+1) cap) (l.length+1) (Cs.flatten++C)) (k2:w.grownBy w' v.ownBlock) (k3:v.ownBlock=some g∨g=w.heap.size) :
  OwElems w' e size (.slice (some ⟨g,0,none⟩) (l.length+1) cap) (l++[y]) (R w') (g::(Fs.flatten++G))∧(g::(Fs.flatten++G)).Nodup∧(∀q∈g::(Fs.flatten++G),q∈FB v++Fs.flatten∨q∈G∨q=w.heap.size):=by
 have hFd:∀q∈Fs.flatten,q∉v.ownBlock.toList:=fun q hq hv=>(List.nodup_append.1 hN).2.2 q (by simpa [FB]using hv) q hq rfl
 have hGd:∀q∈G,q∉v.ownBlock.toList:=fun q hq hv=>hFG q (List.mem_append_left _ (by simpa [FB]using hv)) hq
 have hf:=Frm.ofGrown k2
 refine⟨⟨Cs++[C],Fs++[G],by simp [h1],by simp [h2],fun i hi=> ?_,?_,?_⟩,?_,?_⟩
 ·by_cases hil:i<l.length
  ·have a:=h3 i hil
   have e1:(Cs++[C]).getD i []=Cs.getD i []:=by rw [List.getD_eq_getElem?_getD,List.getD_eq_getElem?_getD,List.getElem?_append_left (by omega)]
   have e2:(Fs++[G]).getD i []=Fs.getD i []:=by rw [List.getD_eq_getElem?_getD,List.getD_eq_getElem?_getD,List.getElem?_append_left (by omega)]
   rw [e1,e2,List.getElem_append_left hil]
   exact⟨a.1,hRf a.2 hf (fun q hq=>hFd q (zau hq))⟩
  ·have e0:i=l.length:=by simp at hi;omega
   subst e0
   have e1:(Cs++[C]).getD l.length []=C:=by rw [←h1];simp
   have e2:(Fs++[G]).getD l.length []=G:=by rw [←h2];simp
   rw [e1,e2]
   simp only [List.getElem_concat_length]
   exact⟨hC,hRf hy hf hGd⟩
 ·simp only [List.length_append,List.length_cons,List.length_nil,List.flatten_append,List.flatten_cons,List.flatten_nil,List.append_nil]
  exact k1
 ·simp [FB,Value.ownBlock]
 ·rw [List.nodup_cons]
  refine⟨fun hq=> ?_,List.nodup_append.2 ⟨(List.nodup_append.1 hN).2.1,hGN,fun a ha b hb hab=>hFG a (List.mem_append_right _ ha) (hab ▸ hb)⟩⟩
  rcases List.mem_append.1 hq with hq | hq
  ·rcases k3 with k3 | k3
   ·exact hFd g hq (by simp [k3])
   ·have:=hlt g (.inl (List.mem_append_right _ hq));omega
  ·rcases k3 with k3 | k3
   ·exact hGd g hq (by simp [k3])
   ·have:=hlt g (.inr hq);omega
 ·intro q hq
  rcases List.mem_cons.1 hq with rfl | hq
  ·rcases k3 with k3 | k3
   ·exact .inl (List.mem_append_left _ (by simp [FB,k3]))
   ·exact .inr (.inr k3)
  ·rcases List.mem_append.1 hq with hq | hq
   ·exact .inl (List.mem_append_right _ hq)
   ·exact .inr (.inl hq)
theorem zgN {α:Type} {R:World→List Value→α→List Nat→Prop} (hRf:∀{w w':World} {S:List Nat} {C:List Value} {x:α} {G:List Nat},R w C x G→Frm w w' S→(∀g∈G,g∉S)→R w' C x G)
  {w:World} {ops:Array Oper} {rest:List Oper} {o:Oper} {a:Act} {Q:Exit→Act→World→Prop} (hgd:o.guard=none) (s x:Operand) (t:TypeId)
  (ho:o.op=.call { callee:=.builtin .append,args:= #[s,x],argTypes:= #[t,t] })
  (e:TypeId) (i:TypeInfo) (z:Value) (size bytes:Nat) (ht:Tryz.prog.underlying t=some (.slice e)) (hi:Tryz.prog.info? e=some i) (hz:i.zero=some z)
  (hsize:i.size=size) (hby:i.bytes=bytes) (hzs:z.cells.size=size) (hsz:0<size)
  (v:Value) (l:List α) (F:List Nat) (hs:a.eval s=v) (h:OwElems w e size v l (R w) F) (hN:F.Nodup)
  (ad:Addr) (c:Nat) (C:List Value) (y:α) (G:List Nat) (hx:a.eval x=.slice (some ad) 1 c) (hC:C.length=size) (hcell:∀j u,C[j]? = some u→w.cell? (ad.add j)=some u) (h1:∀u∈C,u.oneCell'=true)
  (hy:R w C y G) (hGN:G.Nodup) (hFG:∀g∈F,g∉G) (hlt:∀q,q∈F∨q∈G→q<w.heap.size) (h63:l.length+1≤maxLen) (hbytes:(l.length+1)*bytes≤140737488355328)
  (hK:∀g cap w' F',OwElems w' e size (.slice (some ⟨g,0,none⟩) (l.length+1) cap) (l++[y]) (R w') F'→F'.Nodup→(∀q∈F',q∈F∨q∈G∨q=w.heap.size)→Frm w w' (FB v)→g<w'.heap.size→wpList Tryz.prog ops Q rest (a.put o.dst (.slice (some ⟨g,0,none⟩) (l.length+1) cap)) w'):wpList Tryz.prog ops Q (o::rest) a w:=by
 obtain⟨Cs,Fs,e1,e2,e3,e4,rfl⟩:=h
 refine wpList_append_lies w hgd s x t ho 0 e i z size bytes ht hi hz hsize hby hzs hsz v l.length Cs.flatten hs e4 ad 1 c C hx (by omega) hcell h1 (by omega) h63 hbytes (Nat.zero_le _) w.heap.size rfl ?_
 intro g cap w' k1 k2 k3 k4
 obtain⟨m1,m2,m3⟩:=OwElems.push (R:=R) hRf e1 e2 e3 hN hC hy hGN hFG hlt k1 k2 k3
 exact hK g cap w' _ m1 m2 m3 (Frm.ofGrown k2) k4
theorem zbO {α:Type} {R:World→List Value→α→List Nat→Prop} (hRf:∀{w w':World} {S:List Nat} {C:List Value} {x:α} {G:List Nat},R w C x G→Frm w w' S→(∀g∈G,g∉S)→R w' C x G)
  {w:World} {ops:Array Oper} {o:Oper} {a:Act} {K:Act→World→Prop} {Q:Exit→Act→World→Prop} {E:Prop} (hgd:o.guard=none) (s x:Operand) (t:TypeId)
  (ho:o.op=.call { callee:=.builtin .append,args:= #[s,x],argTypes:= #[t,t] })
  (e:TypeId) (i:TypeInfo) (z:Value) (size bytes:Nat) (ht:Tryz.prog.underlying t=some (.slice e)) (hi:Tryz.prog.info? e=some i) (hz:i.zero=some z)
  (hsize:i.size=size) (hby:i.bytes=bytes) (hzs:z.cells.size=size) (hsz:0<size)
  (v:Value) (l:List α) (F:List Nat) (hs:a.eval s=v) (h:OwElems w e size v l (R w) F) (hN:F.Nodup)
  (ad:Addr) (c:Nat) (C:List Value) (y:α) (G:List Nat) (hx:a.eval x=.slice (some ad) 1 c) (hC:C.length=size) (hcell:∀j u,C[j]? = some u→w.cell? (ad.add j)=some u) (h1:∀u∈C,u.oneCell'=true)
  (hy:R w C y G) (hGN:G.Nodup) (hFG:∀g∈F,g∉G) (hlt:∀q,q∈F∨q∈G→q<w.heap.size) (h63:l.length+1≤maxLen) (hbytes:(l.length+1)*bytes≤140737488355328)
  (hK:∀g cap w' F',OwElems w' e size (.slice (some ⟨g,0,none⟩) (l.length+1) cap) (l++[y]) (R w') F'→F'.Nodup→(∀q∈F',q∈F∨q∈G∨q=w.heap.size)→Frm w w' (FB v)→g<w'.heap.size→K (a.put o.dst (.slice (some ⟨g,0,none⟩) (l.length+1) cap)) w'):if Region.wanted o (yielded ops a.tmps)=true then Oper.wp Tryz.prog o a w K Q else E:=by
 obtain⟨Cs,Fs,e1,e2,e3,e4,rfl⟩:=h
 refine step_append_lies w hgd s x t ho 0 e i z size bytes ht hi hz hsize hby hzs hsz v l.length Cs.flatten hs e4 ad 1 c C hx (by omega) hcell h1 (by omega) h63 hbytes (Nat.zero_le _) w.heap.size rfl ?_
 intro g cap w' k1 k2 k3 k4
 obtain⟨m1,m2,m3⟩:=OwElems.push (R:=R) hRf e1 e2 e3 hN hC hy hGN hFG hlt k1 k2 k3
 exact hK g cap w' _ m1 m2 m3 (Frm.ofGrown k2) k4
theorem StB.one {w0 w:World} {sb b c:Nat} {l:List PlV} {F:List Nat} (h:StB w0 w sb (some ⟨b,0,none⟩) c l F) {k:Nat} {p:PlV} (hk:l[k]? = some p) :
  ∃Cs C G,RowJ w 117 9 b l.length c Cs k C∧PlF w0 w C p G∧G.Nodup∧b∉G∧b<w.heap.size∧b≠sb∧
   ∀(w':World) (D:List Value) (p':PlV) (G':List Nat),RowJ w' 117 9 b l.length c Cs k D→Frm w w' [b]→PlF w0 w' D p' G'→G'.Nodup→(∀q∈G',q∈G)→
    ∃F',StB w0 w' sb (some ⟨b,0,none⟩) c (l.set k p') F'∧∀q∈F',q∈F:=by
 obtain⟨h1,h2,h3,h4,h5,h6⟩:=h
 obtain⟨hlt,rfl⟩:=List.getElem?_eq_some_iff.1 hk
 obtain⟨Cs,C,G,hR,hP,hGN,hGF,hbF,hbG,hcl⟩:=h2.one h3 k hlt
 have hbl:=(h4 b hbF).2.1
 have hbs:=(h4 b hbF).2.2
 refine⟨Cs,C,G,hR,hP,hGN,hbG,hbl,hbs,fun w' D p' G' hR' f hP' hN' hG'=> ?_⟩
 obtain⟨F',g1,g2,g3⟩:=hcl w' D p' G' hR' f hP' hN' (fun q hq=>.inl (hG' q hq))
 have g4:∀q∈F',q∈F:=fun q hq=>(g3 q hq).elim id (fun h7=>hGF q (hG' q h7))
 have hs9:=f.size
 refine⟨F',⟨?_,g1,g2,fun q hq=> ?_,h5,h6.trans (f.below h6.size (fun q hq=>by simp at hq;subst hq;exact (h4 q hbF).1))⟩,g4⟩
 ·rw [List.length_set]
  exact h1.frm f (by simp;omega)
 ·have:=h4 q (g4 q hq)
  exact⟨this.1,by omega,this.2.2⟩
theorem StB.text {w0 w:World} {sb b c:Nat} {l:List PlV} {F:List Nat} (h:StB w0 w sb (some ⟨b,0,none⟩) c l F) {k:Nat} {p:PlV} (hk:l[k]? = some p) {v:Value} {t:List Int} (hv:Byt w0 v t) :
  (∃F',StB w0 (w.setCell ⟨b,k*9+7,none⟩ v) sb (some ⟨b,0,none⟩) c (l.set k { p with text:=t }) F'∧∀q∈F',q∈F)∧Frm w (w.setCell ⟨b,k*9+7,none⟩ v) [b]:=by
 obtain⟨Cs,C,G,hR,hP,hGN,hbG,hbl,hbs,hcl⟩:=h.one hk
 have f:=zab w b (k*9+7) v
 obtain⟨kv,n,t9,a,F1,F2,F3,eC,q1,q2,q3,q4,eG⟩:=hP.frm f (fun q hq e=>by simp at e;subst e;exact hbG hq)
 refine⟨hcl _ _ { p with text:=t } G (hR.put 7 (by decide) v) f ?_ hGN (fun q hq=>hq),f⟩
 subst eC
 exact⟨kv,n,v,a,F1,F2,F3,rfl,q1,q2,hv,q4,eG⟩
theorem StB.key {w0 w:World} {sb b c:Nat} {l:List PlV} {F:List Nat} (h:StB w0 w sb (some ⟨b,0,none⟩) c l F) {k:Nat} {p:PlV} (hk:l[k]? = some p) {v:Value} {t:List Int} (hv:Ints w0 v t) :
  (∃F',StB w0 (w.setCell ⟨b,k*9+4,none⟩ v) sb (some ⟨b,0,none⟩) c (l.set k { p with key:=t }) F'∧∀q∈F',q∈F)∧Frm w (w.setCell ⟨b,k*9+4,none⟩ v) [b]:=by
 obtain⟨Cs,C,G,hR,hP,hGN,hbG,hbl,hbs,hcl⟩:=h.one hk
 have f:=zab w b (k*9+4) v
 obtain⟨kv,n,t9,a,F1,F2,F3,eC,q1,q2,q3,q4,eG⟩:=hP.frm f (fun q hq e=>by simp at e;subst e;exact hbG hq)
 subst eG
 refine⟨hcl _ _ { p with key:=t } ([]++F2++F3) (hR.put 4 (by decide) v) f ?_ ?_ (fun q hq=> ?_),f⟩
 ·subst eC
  exact⟨v,n,t9,a,[],F2,F3,rfl,.inl ⟨hv,rfl⟩,q2,q3,q4,rfl⟩
 ·rw [List.append_assoc]at hGN
  exact (List.nodup_append.1 hGN).2.1
 ·rw [List.append_assoc]
  exact List.mem_append_right _ hq
theorem StB.par {w0 w:World} {sb b c:Nat} {l:List PlV} {F:List Nat} (h:StB w0 w sb (some ⟨b,0,none⟩) c l F) {k:Nat} {p:PlV} (hk:l[k]? = some p) (x y:Int) :
  (∃F',StB w0 ((w.setCell ⟨b,k*9+2,none⟩ (.int .i64 x)).setCell ⟨b,k*9+3,none⟩ (.int .i64 y)) sb (some ⟨b,0,none⟩) c (l.set k { p with parN:=x,parR:=y }) F'∧∀q∈F',q∈F)∧Frm w ((w.setCell ⟨b,k*9+2,none⟩ (.int .i64 x)).setCell ⟨b,k*9+3,none⟩ (.int .i64 y)) [b]:=by
 obtain⟨Cs,C,G,hR,hP,hGN,hbG,hbl,hbs,hcl⟩:=h.one hk
 have f:=(zab w b (k*9+2) (.int .i64 x)).trans (zab _ b (k*9+3) (.int .i64 y))
 obtain⟨kv,n,t9,a,F1,F2,F3,eC,q1,q2,q3,q4,eG⟩:=hP.frm f (fun q hq e=>by simp at e;subst e;exact hbG hq)
 refine⟨hcl _ _ { p with parN:=x,parR:=y } G ((hR.put 2 (by decide) (.int .i64 x)).put 3 (by decide) (.int .i64 y)) f ?_ hGN (fun q hq=>hq),f⟩
 subst eC
 exact⟨kv,n,t9,a,F1,F2,F3,rfl,q1,q2,q3,q4,eG⟩
theorem PlF.lt {w0 w:World} {C:List Value} {p:PlV} {G:List Nat} (h:PlF w0 w C p G):∀q∈G,q<w.heap.size:=by
 obtain⟨k,n,t,a,F1,F2,F3,e,h1,h2,h3,h4,rfl⟩:=h
 intro q hq
 rcases List.mem_append.1 hq with hq | hq
 ·rcases List.mem_append.1 hq with hq | hq
  ·rcases h1 with ⟨_,rfl⟩ | ⟨h1,rfl⟩
   ·cases hq
   ·exact (h1.rng q hq).2
  ·rcases h2 with ⟨_,rfl⟩ | ⟨h2,rfl⟩
   ·cases hq
   ·exact (h2.rng q hq).2
 ·rcases h4 with ⟨_,rfl⟩ | h4
  ·cases hq
  ·exact OwElems.lt h4 (fun C x G ⟨_,_,_,_,_,e⟩ g hg=>by rw [e]at hg;cases hg) q hq
theorem PlsF.head {w0 w:World} {v:Value} {l:List PlV} {F:List Nat} (h:PlsF w0 w v l F):∀q∈FB v,q∈F:=by
 obtain⟨Cs,Fs,h1,h2,h3,h4,rfl⟩:=h
 exact fun q hq=>List.mem_append_left _ hq
def zaK {n:Nat} (m:Nat) (i:IdV) (x:Nd (Tr n)) (j:Nat):PlV:=⟨0,m,i.1,i.2,[(j:Int)+1],x.kind,x.name,x.text,x.attrs⟩
def zaW (n:Nat) (i:IdV) (a:List PlV) (x:Nd (Tr n)×Nat):List PlV:=zaz n (0,(a.length:Int)) x.1.kids (a++[zaK a.length i x.1 x.2])
def zbg (n:Nat) (i:IdV) (ks:List (Nd (Tr n))) (acc:List PlV) (j:Nat):List PlV:=(ks.zipIdx.take j).foldl (zaW n i) acc
theorem zhI (n:Nat) (i:IdV) (ks:List (Nd (Tr n))) (acc:List PlV):zaz (n+1) i ks acc=ks.zipIdx.foldl (zaW n i) acc:=rfl
theorem zio (n:Nat) (i:IdV) (ks:List (Nd (Tr n))) (acc:List PlV) {j:Nat} (h:ks.length≤j):zbg n i ks acc j=zaz (n+1) i ks acc:=by
 rw [zhI,zbg,List.take_of_length_le (by simpa using h)]
theorem zhL (n:Nat) (i:IdV) (ks:List (Nd (Tr n))) (acc:List PlV) {j:Nat} (h:j<ks.length):zbg n i ks acc (j+1)=zaW n i (zbg n i ks acc j) (ks[j],j):=by
 have h':j<ks.zipIdx.length:=by simpa using h
 rw [zbg,List.take_succ_eq_append_getElem h',List.foldl_append]
 simp [zbg]
theorem zie {α:Type} (f:List PlV→α→List PlV) (hf:∀a x,a.length≤(f a x).length):∀(l:List α) (a:List PlV),a.length≤(l.foldl f a).length
 | [],a=>Nat.le_refl _
 | x::r,a=>Nat.le_trans (hf a x) (zie f hf r (f a x))
theorem zgX:∀(n:Nat) (i:IdV) (ks:List (Tr n)) (acc:List PlV),acc.length≤(zaz n i ks acc).length
 | 0,_,_,_=>Nat.le_refl _
 | n+1,i,ks,acc=>zie (zaW n i) (fun a x=>Nat.le_trans (by simp) (zgX n (0,(a.length:Int)) x.1.kids (a++[zaK a.length i x.1 x.2]))) (List.zipIdx (α:=Nd (Tr n)) ks) acc
theorem zeW (n:Nat) (i:IdV) (a:List PlV) (x:Nd (Tr n)×Nat):a.length+1≤(zaW n i a x).length:=Nat.le_trans (by simp) (zgX n (0,(a.length:Int)) x.1.kids (a++[zaK a.length i x.1 x.2]))
theorem zjC (n:Nat) (i:IdV) (ks:List (Nd (Tr n))) (acc:List PlV) (j:Nat):(zbg n i ks acc j).length≤(zaz (n+1) i ks acc).length:=by
 rw [zhI,zbg]
 conv=>rhs;rw [←List.take_append_drop j ks.zipIdx,List.foldl_append]
 exact zie _ (fun a x=>Nat.le_of_succ_le (zeW n i a x)) _ _
def SdR (w0 w:World) (sb:Nat) (F:List Nat) (m:List PlV) (w':World):Prop:=∃a' c' F',StB w0 w' sb a' c' m F'∧Frm w w' (sb::F)∧∀q∈F',q∈F∨w.heap.size≤q
theorem Frm.moreS {a b c:World} {S S':List Nat} (h:Frm a b S) (k:Frm b c S') (hs:∀q∈S',q∈S∨a.heap.size≤q):Frm a c S:=
 ⟨k.os.trans h.os,k.tape.trans h.tape,k.output.trans h.output,Nat.le_trans h.size k.size,fun i hi hn=>(k.block i (Nat.lt_of_lt_of_le hi h.size) (fun e=>(hs i e).elim hn (fun h'=>by omega))).trans (h.block i hi hn)⟩
theorem SdR.trans {w0 w w1 w2:World} {sb:Nat} {F F1:List Nat} {m:List PlV} (f:Frm w w1 (sb::F)) (hF:∀q∈F1,q∈F∨w.heap.size≤q) (h:SdR w0 w1 sb F1 m w2):SdR w0 w sb F m w2:=by
 obtain⟨a',c',F',h1,h2,h3⟩:=h
 refine⟨a',c',F',h1,f.moreS h2 (fun q hq=> ?_),fun q hq=> ?_⟩
 ·rcases List.mem_cons.1 hq with rfl | hq
  ·exact .inl (List.mem_cons_self ..)
  ·exact (hF q hq).imp (fun h=>List.mem_cons_of_mem _ h) id
 ·rcases h3 q hq with h | h
  ·exact hF q h
  ·exact .inr (Nat.le_trans f.size h)
theorem zcq {n:Nat} {deep:Int} {t:Tr (n+1)} {left:Int} (h:(okT (n+1) deep t left).1=true) :
  t.attrs.length≤4∧0≤left-1∧(okK (okT n (deep+1)) t.kids (left-1)).1=true∧(okT (n+1) deep t left).2=(okK (okT n (deep+1)) t.kids (left-1)).2:=by
 rw [zbj]at h ⊢
 by_cases h1:left-1<0∨20<deep
 ·rw [if_pos h1]at h;cases h
 ·rw [if_neg h1]at h ⊢
  by_cases h2:t.kind=1
  ·rw [if_pos h2]at h ⊢
   have h3:zbd t=true:=h
   unfold zbd at h3
   simp only [Bool.and_eq_true,decide_eq_true_eq]at h3
   have hk:t.kids=[]:=List.eq_nil_of_length_eq_zero h3.1.2
   rw [hk]
   exact⟨by omega,by omega,rfl,rfl⟩
  ·rw [if_neg h2]at h ⊢
   by_cases h3:zaP t=true
   ·rw [if_pos h3]at h ⊢
    refine⟨?_,by omega,h,rfl⟩
    unfold zaP at h3
    simp only [Bool.and_eq_true]at h3
    have h4:=h3.1.2
    unfold zhG at h4
    rw [Bool.and_eq_true,decide_eq_true_eq]at h4
    exact h4.1
   ·rw [if_neg h3]at h;cases h
theorem zif:∀(n:Nat) (deep:Int) (ks:List (Tr n)) (left:Int) (i:IdV) (acc:List PlV),0≤left→(okK (okT n deep) ks left).1=true→
  ((zaz n i ks acc).length:Int)+(okK (okT n deep) ks left).2=acc.length+left∧∀p∈zaz n i ks acc,p∈acc∨p.attrs.length≤4
 | 0,deep,ks,left,i,acc,h0,h=>by
  obtain rfl:ks=[]:=by
   cases ks with
   | nil=>rfl
   | cons x r=>exact x.elim
  exact⟨rfl,fun p hp=>.inl hp⟩
 | n+1,deep,ks,left,i,acc,h0,h=>by
  have key:∀(f:Nd (Tr n)→Int→Bool×Int),(∀x left,f x left=okT (n+1) deep x left)→∀(ks:List (Nd (Tr n))) (k:Nat) (acc:List PlV) (left:Int),0≤left→(okK f ks left).1=true→
    (((ks.zipIdx k).foldl (zaW n i) acc).length:Int)+(okK f ks left).2=acc.length+left∧∀p∈(ks.zipIdx k).foldl (zaW n i) acc,p∈acc∨p.attrs.length≤4:=by
   intro f hf ks
   induction ks with
   | nil=>intro k acc left _ _;exact⟨rfl,fun p hp=>.inl hp⟩
   | cons x r ih=>
    intro k acc left h0 h
    have h1':(f x left).1=true:=by
     cases hb:(f x left).1 with
     | true=>rfl
     | false=>simp [okK,hb]at h
    have e1:okK f (x::r) left=okK f r (f x left).2:=by simp [okK,h1']
    rw [e1]at h ⊢
    have h1:(okT (n+1) deep x left).1=true:=by rw [←hf];exact h1'
    have e3:=hf x left
    rw [e3]at h ⊢
    have hb:=zdA (n+1) deep x left h0
    obtain⟨p1,p2,p3,p4⟩:=zcq h1
    have hk:=zif n (deep+1) x.kids (left-1) (0,(acc.length:Int)) (acc++[zaK acc.length i x k]) p2 p3
    have hr:=ih (k+1) (zaW n i acc (x,k)) _ (hb.2.2 h1) h
    rw [List.zipIdx_cons,List.foldl_cons]
    have e2:zaW n i acc (x,k)=zaz n (0,(acc.length:Int)) x.kids (acc++[zaK acc.length i x k]):=rfl
    rw [e2]at hr ⊢
    refine⟨?_,fun p hp=> ?_⟩
    ·have h5:=hk.1
     have h6:=hr.1
     rw [←p4]at h5
     simp only [List.length_append,List.length_cons,List.length_nil]at h5
     omega
    ·rcases hr.2 p hp with h7 | h7
     ·rcases hk.2 p h7 with h8 | h8
      ·rcases List.mem_append.1 h8 with h9 | h9
       ·exact .inl h9
       ·simp at h9
        subst h9
        exact .inr p1
      ·exact .inr h8
     ·exact .inr h7
  exact key (okT (n+1) deep) (fun _ _=>rfl) ks 0 acc left h0 h
theorem zlL {n:Nat} {t:Tr (n+1)} (h:okN n t=true) (acc:List PlV) (hacc:∀p∈acc,p.attrs.length≤4):(zaz n (0,0) t.kids acc).length≤acc.length+119∧∀p∈zaz n (0,0) t.kids acc,p.attrs.length≤4:=by
 unfold okN at h
 rw [Bool.and_eq_true]at h
 obtain⟨p1,p2,p3,p4⟩:=zcq h.2
 have hk:=zif n 2 t.kids (120-1) (0,0) acc p2 p3
 have hb:=zdA (n+1) 1 t 120 (by decide)
 have h0:=hb.2.2 h.2
 rw [p4]at h0
 have e:((1:Int)+1)=2:=rfl
 rw [e]at h0
 refine⟨by have:=hk.1;omega,fun p hp=>(hk.2 p hp).elim (hacc p) id⟩
def SeedIds (l:List PlV):Prop:=∀p∈l,p.idN=0∧0≤p.idR∧p.idR<(l.length:Int)
theorem SeedIds.new {l:List PlV} (h:SeedIds l):posP l (0,(l.length:Int))=none:=posP_none.2 (fun p hp e=>by
 have:=(h p hp).2.2
 have e2:p.idR=(l.length:Int):=(Prod.mk.inj e).2
 omega)
theorem SeedIds.snoc {l:List PlV} (h:SeedIds l) {p:PlV} (h0:p.idN=0) (h1:p.idR=(l.length:Int)):SeedIds (l++[p]):=fun q hq=>by
 rw [List.length_append,List.length_singleton]
 rcases List.mem_append.1 hq with hq | hq
 ·have:=h q hq
  exact⟨this.1,this.2.1,by omega⟩
 ·have e:q=p:=by simpa using hq
  rw [e]
  exact⟨h0,by omega,by omega⟩
theorem zhj {α β:Type} (I:β→Prop) (f:β→α→β) (hf:∀a x,I a→I (f a x)):∀(l:List α) (a:β),I a→I (l.foldl f a)
 | [],a,h=>h
 | x::r,a,h=>zhj I f hf r (f a x) (hf a x h)
theorem SeedIds.K:∀(n:Nat) (i:IdV) (ks:List (Tr n)) (acc:List PlV),SeedIds acc→SeedIds (zaz n i ks acc)
 | 0,_,_,_,h=>h
 | n+1,i,ks,acc,h=>zhj SeedIds (zaW n i) (fun a x ha=>SeedIds.K n (0,(a.length:Int)) x.1.kids (a++[zaK a.length i x.1 x.2]) (ha.snoc rfl rfl)) (List.zipIdx (α:=Nd (Tr n)) ks) acc h
theorem SeedIds.J (n:Nat) (i:IdV) (ks:List (Nd (Tr n))) (acc:List PlV) (j:Nat) (h:SeedIds acc):SeedIds (zbg n i ks acc j):=zhj SeedIds (zaW n i) (fun a x ha=>SeedIds.K n (0,(a.length:Int)) x.1.kids (a++[zaK a.length i x.1 x.2]) (ha.snoc rfl rfl)) _ acc h
theorem zlV {n:Nat} {t:Tr (n+1)} {k:Tr n} (h:k∈t.kids):szT n k≤szT (n+1) t:=by
 show szT n k≤t.name.length+t.text.length+szA t.attrs+(t.kids.length+(t.kids.map (szT n)).sum)
 have:szT n k≤(t.kids.map (szT n)).sum:=by
  have hs:∀(l:List (Tr n)),k∈l→szT n k≤(l.map (szT n)).sum:=fun l=>by
   induction l with
   | nil=>intro h;cases h
   | cons y r ih=>
    intro h
    rw [List.map_cons,List.sum_cons]
    rcases List.mem_cons.1 h with rfl | h
    ·omega
    ·have:=ih h;omega
  exact hs _ h
 omega
theorem zdi {m:Nat} (h:m≤100000):okI (0,(m:Int)):=⟨WalkArith.wf_i64 (by omega),WalkArith.wf_i64 (by omega)⟩
def zhA (w:World) (C:List Value) (o:OpV):Prop:=∃k n t,C=[.int .i64 o.kind,.int .i64 o.atN,.int .i64 o.atR,.int .i64 o.nodeN,.int .i64 o.nodeR,.int .i64 o.parN,.int .i64 o.parR,k,.int .i64 o.elem,n,t,.bool o.gone]∧Ints w k o.key∧Byt w n o.name∧Byt w t o.text
def RdOps (w:World) (v:Value) (l:List OpV):Prop:=Elems w 12 v l (zhA w)
theorem RdOps.keep {w w':World} {v:Value} {l:List OpV} (h:RdOps w v l) (hb:Below w.heap.size w w'):RdOps w' v l:=
 Elems.keep h hb (fun C x _ ⟨k,n,t,e,h1,h2,h3⟩=>⟨k,n,t,e,h1.keep hb,h2.keep hb,h3.keep hb⟩)
theorem zcv {w W:World} {b off i:Nat} {o:OpV} (hW:Below w.heap.size w W) (hb:b<w.heap.size) (h:∃C:List Value,C.length=12∧(∀j,j<12→w.cell? ⟨b,off+i*12+j,none⟩=C[j]?)∧zhA w C o) :
  ∃a1 c1 a2 c2 a3 c3,W.cell? ⟨b,off+i*12,none⟩=some (.int .i64 o.kind)∧W.cell? ⟨b,off+i*12+1,none⟩=some (.int .i64 o.atN)∧W.cell? ⟨b,off+i*12+2,none⟩=some (.int .i64 o.atR)∧W.cell? ⟨b,off+i*12+3,none⟩=some (.int .i64 o.nodeN)∧W.cell? ⟨b,off+i*12+4,none⟩=some (.int .i64 o.nodeR)∧W.cell? ⟨b,off+i*12+5,none⟩=some (.int .i64 o.parN)∧W.cell? ⟨b,off+i*12+6,none⟩=some (.int .i64 o.parR)∧W.cell? ⟨b,off+i*12+7,none⟩=some (.slice a1 o.key.length c1)∧W.cell? ⟨b,off+i*12+8,none⟩=some (.int .i64 o.elem)∧W.cell? ⟨b,off+i*12+9,none⟩=some (.slice a2 o.name.length c2)∧W.cell? ⟨b,off+i*12+10,none⟩=some (.slice a3 o.text.length c3)∧W.cell? ⟨b,off+i*12+11,none⟩=some (.bool o.gone)∧
   RdOp W (zaU o (.slice a1 o.key.length c1) (.slice a2 o.name.length c2) (.slice a3 o.text.length c3)) o:=by
 obtain⟨C,_,hc,k,n,t,rfl,hk,hn,ht⟩:=h
 obtain⟨a1,c1,rfl,_,_⟩:=hk.shape
 obtain⟨a2,c2,rfl,_,_⟩:=hn.shape
 obtain⟨a3,c3,rfl,_,_⟩:=ht.shape
 have cc:∀j,j<12→W.cell? ⟨b,off+i*12+j,none⟩=w.cell? ⟨b,off+i*12+j,none⟩:=fun j hj=>hW.cell (p:=⟨b,off+i*12+j,none⟩) hb
 exact⟨a1,c1,a2,c2,a3,c3,(cc 0 (by omega)).trans (hc 0 (by omega)),(cc 1 (by omega)).trans (hc 1 (by omega)),(cc 2 (by omega)).trans (hc 2 (by omega)),(cc 3 (by omega)).trans (hc 3 (by omega)),(cc 4 (by omega)).trans (hc 4 (by omega)),(cc 5 (by omega)).trans (hc 5 (by omega)),(cc 6 (by omega)).trans (hc 6 (by omega)),(cc 7 (by omega)).trans (hc 7 (by omega)),(cc 8 (by omega)).trans (hc 8 (by omega)),(cc 9 (by omega)).trans (hc 9 (by omega)),(cc 10 (by omega)).trans (hc 10 (by omega)),(cc 11 (by omega)).trans (hc 11 (by omega)),_,_,_,rfl,hk.keep hW,hn.keep hW,ht.keep hW⟩
def szO (o:OpV):Nat:=o.key.length+o.name.length+o.text.length
def szOs (l:List OpV):Nat:=l.length+(l.map szO).sum
def sumO (l:List OpV) (k:Nat):Nat:=((l.take k).map szO).sum
theorem ziM (l:List OpV) (k:Nat) (h:k<l.length):sumO l (k+1)=sumO l k+szO l[k]:=by
 unfold sumO
 rw [List.take_succ_eq_append_getElem h]
 simp only [List.map_append,List.sum_append,List.map_cons,List.map_nil,List.sum_cons,List.sum_nil,Nat.add_zero]
theorem zpQ (l:List OpV):sumO l l.length=(l.map szO).sum:=by simp [sumO]
theorem zmh (l:List OpV) (k:Nat):sumO l k≤(l.map szO).sum:=by
 have h:(l.map szO).sum=sumO l k+((l.drop k).map szO).sum:=by
  unfold sumO
  rw [←List.sum_append,←List.map_append,List.take_append_drop]
 omega
theorem zrZ (l:List OpV) (i:Nat) (h:i<l.length):szO l[i]≤(l.map szO).sum:=by
 have h1:=ziM l i h
 have h2:=zmh l (i+1)
 omega
def zam (n r n' r':Int):Bool:=decide (n<n') || (n == n' && decide (r<r'))
theorem zgI (n r n' r':Int) :
  (zam n r n' r'=true∧decide (n<n')=true∧(n == n')=false∧n≠n')∨
  (zam n r n' r'=false∧decide (n<n')=false∧(n == n')=false∧n≠n')∨
  (n=n'∧zam n r n' r'=true∧decide (n<n')=false∧decide (r<r')=true∧r≠r')∨
  (n=n'∧zam n r n' r'=false∧decide (n<n')=false∧decide (r<r')=false):=by
 unfold zam
 simp only [Bool.or_eq_true,Bool.or_eq_false_iff,Bool.and_eq_true,Bool.and_eq_false_iff,beq_iff_eq,beq_eq_false_iff_ne,decide_eq_true_eq,decide_eq_false_iff_not]
 omega
set_option maxHeartbeats 1600000 in
theorem zfE (w:World) (n r n' r':Int) :
  Calls Tryz.prog 38 #[.agg #[.int .i64 n,.int .i64 r],.agg #[.int .i64 n',.int .i64 r']] w fun e w'=>e=.returned (.bool (zam n r n' r'))∧Below w.heap.size w w':=by
 have HB:=hide (((Below.refl w.heap.size w).alloc (Nat.le_refl _) (.cells #[.int .i64 n,.int .i64 r] 81)).alloc (by simp) (.cells #[.int .i64 n',.int .i64 r'] 81))
 rcases zgI n r n' r' with ⟨h,q1,q2,q3⟩ | ⟨h,q1,q2,q3⟩ | ⟨rfl,h,q1,q2,q3⟩ | ⟨rfl,h,q1,q2⟩
 all_goals
  have HE:=hide h
  clear h
  go_enter Tryz.func38,Tryz.ntmps38
  go_wp2
  go_ret
  exact⟨by rw [zaa HE];rfl,zaa HB⟩
theorem Loc.two {w:World} {g:Nat} {v0 v1:Value} {T:TypeId} (h:Loc w g #[v0,v1] T):w.cell? ⟨g,0,none⟩=some v0∧w.cell? ⟨g,1,none⟩=some v1:=⟨h.cell 0,h.cell 1⟩
def ordI (n r n' r':Int):Int:=if n=n'∧r=r' then 0 else if zam n r n' r' then -1 else 1
theorem zlA (n r n' r':Int):decide (ordI n r n' r' < 0)=zam n r n' r':=by
 unfold ordI
 split
 ·rename_i h
  obtain⟨rfl,rfl⟩:=h
  unfold zam
  simp
 ·split<;>simp [*]
set_option maxHeartbeats 1600000 in
theorem znk (w:World) (n r n' r':Int) :
  Calls Tryz.prog 117 #[.agg #[.int .i64 n,.int .i64 r],.agg #[.int .i64 n',.int .i64 r']] w fun e w'=>e=.returned (.int .i64 (ordI n r n' r'))∧Below w.heap.size w w':=by
 have HB:=hide (((Below.refl w.heap.size w).alloc (Nat.le_refl _) (.cells #[.int .i64 n,.int .i64 r] 81)).alloc (by simp) (.cells #[.int .i64 n',.int .i64 r'] 81))
 rcases zgI n r n' r' with ⟨h,q1,q2,q3⟩ | ⟨h,q1,q2,q3⟩ | ⟨rfl,h,q1,q2,q3⟩ | ⟨rfl,h,q1,q2⟩
 ·have HE:=hide (show ordI n r n' r' = -1 by unfold ordI;rw [if_neg (fun k=>q3 k.1),h];rfl)
  clear h
  go_enter Tryz.func117,Tryz.ntmps117
  go_wp2
  go_ret
  exact⟨by rw [zaa HE];rfl,zaa HB⟩
 ·have HE:=hide (show ordI n r n' r'=1 by unfold ordI;rw [if_neg (fun k=>q3 k.1),h];rfl)
  clear h
  go_enter Tryz.func117,Tryz.ntmps117
  go_wp2
  go_ret
  exact⟨by rw [zaa HE];rfl,zaa HB⟩
 ·have HE:=hide (show ordI n r n r' = -1 by unfold ordI;rw [if_neg (fun k=>q3 k.2),h];rfl)
  have q4:(r == r')=false:=by simpa using q3
  clear h
  go_enter Tryz.func117,Tryz.ntmps117
  go_wp2
  go_ret
  exact⟨by rw [zaa HE];rfl,zaa HB⟩
 ·by_cases h2:r=r'
  ·subst h2
   have HE:=hide (show ordI n r n r=0 by unfold ordI;rw [if_pos ⟨rfl,rfl⟩])
   clear h
   go_enter Tryz.func117,Tryz.ntmps117
   go_wp2
   go_ret
   exact⟨by rw [zaa HE];rfl,zaa HB⟩
  ·have HE:=hide (show ordI n r n r'=1 by unfold ordI;rw [if_neg (fun k=>h2 k.2),h];rfl)
   have q4:(r == r')=false:=by simpa using h2
   clear h
   go_enter Tryz.func117,Tryz.ntmps117
   go_wp2
   go_ret
   exact⟨by rw [zaa HE];rfl,zaa HB⟩
set_option maxHeartbeats 1600000 in
theorem ziF (w:World) (n r n' r':Int) :
  Calls Tryz.prog 84 #[.agg #[.int .i64 n,.int .i64 r],.agg #[.int .i64 n',.int .i64 r']] w fun e w'=>e=.returned (.bool (zam n r n' r'))∧Below w.heap.size w w':=by
 have hB:=(((Below.refl w.heap.size w).alloc (Nat.le_refl _) (.cells #[.int .i64 n,.int .i64 r] 81)).alloc (by simp) (.cells #[.int .i64 n',.int .i64 r'] 81))
 go_enter Tryz.func84,Tryz.ntmps84
 go_wp2_with fail
 refine (znk _ n r n' r').mono ?_
 rintro e w1 ⟨rfl,hB1⟩
 have hB2:=zad hB hB1
 have hl:=zlA n r n' r'
 generalize ordI n r n' r'=z at *
 go_wp2
 go_ret
 exact⟨by rw [←hl];rfl,hB2⟩
theorem RdOps.cases {w:World} {v:Value} {l:List OpV} (h:RdOps w v l):(l=[]∧∃a cap,v=.slice a 0 cap)∨(∃b off cap,v=.slice (some ⟨b,off,none⟩) l.length cap∧l≠[]∧b<w.heap.size∧∀i (hi:i<l.length),∃C:List Value,C.length=12∧(∀j,j<12→w.cell? ⟨b,off+i*12+j,none⟩=C[j]?)∧zhA w C l[i]):=by
 obtain⟨_,⟨rfl,rfl⟩ | ⟨x,cap,rfl,hc,rfl⟩ | ⟨b,off,cap,rfl,g1,g2,g3,g4,g5⟩⟩:=h
 ·exact .inl ⟨rfl,_,_,rfl⟩
 ·exact .inl ⟨rfl,_,_,rfl⟩
 ·exact .inr ⟨b,off,cap,rfl,g3,g4,g5⟩
def okAt (l:List OpV) (i:Nat):Bool:=if h:i<l.length then opB l[i] && (decide (i=0) || zam (l[i-1]'(by omega)).atN (l[i-1]'(by omega)).atR l[i].atN l[i].atR) else true
def opsB (l:List OpV):Bool:=decide (l.length≤150) && (List.range l.length).all (okAt l)
theorem zik {l:List OpV} (h:150<l.length):opsB l=false:=by unfold opsB;rw [decide_eq_false (by omega)];rfl
theorem zjD {l:List OpV} {k:Nat} (hk:k<l.length) (h:okAt l k=false):opsB l=false:=by
 unfold opsB
 rw [Bool.and_eq_false_iff]
 right
 rw [List.all_eq_false]
 exact⟨k,by simpa using hk,by simp [h]⟩
theorem zjc {l:List OpV} (hn:l.length≤150) (h:∀j,j<l.length→okAt l j=true):opsB l=true:=by
 unfold opsB
 rw [decide_eq_true hn,Bool.true_and,List.all_eq_true]
 intro j hj
 exact h j (by simpa using hj)
theorem zmb {l:List OpV} {k:Nat} (hk:k<l.length) (h:opB l[k]=false):okAt l k=false:=by unfold okAt;rw [dif_pos hk,h];rfl
theorem zpa {l:List OpV} (hk:0<l.length) (h:opB l[0]=true):okAt l 0=true:=by unfold okAt;rw [dif_pos hk,h];rfl
theorem zkL {l:List OpV} {j:Nat} (hk:j+1<l.length) (h:opB l[j+1]=true):okAt l (j+1)=zam (l[j]'(by omega)).atN (l[j]'(by omega)).atR l[j+1].atN l[j+1].atR:=by
 unfold okAt
 rw [dif_pos hk,h,Bool.true_and]
 rw [decide_eq_false (by omega),Bool.false_or]
 rfl
theorem zmw {a b c d e f:Int} (h:zam a b c d=true) (k:zam c d e f=true):zam a b e f=true:=by
 unfold zam at *
 simp only [Bool.or_eq_true,decide_eq_true_eq,Bool.and_eq_true,beq_iff_eq]at *
 omega
theorem zpw (a b:Int):zam a b a b=false:=by unfold zam;simp
def ahead (n r:Int) (p:OpV):Bool:=zam p.atN p.atR n r
def posO (l:List OpV) (n r:Int):Nat:=(l.takeWhile (ahead n r)).length
theorem zcW {l:List OpV} (h:opsB l=true):l.length≤150∧∀j,j<l.length→okAt l j=true:=by
 unfold opsB at h
 rw [Bool.and_eq_true,decide_eq_true_eq,List.all_eq_true]at h
 exact⟨h.1,fun j hj=>h.2 j (by simpa using hj)⟩
theorem zdv {l:List OpV} (h:opsB l=true) {j:Nat} (hj:j<l.length):opB l[j]=true:=by
 have:=(zcW h).2 j hj
 unfold okAt at this
 rw [dif_pos hj,Bool.and_eq_true]at this
 exact this.1
theorem ziB {l:List OpV} (h:opsB l=true) {j:Nat} (hj:j+1<l.length):zam l[j].atN l[j].atR l[j+1].atN l[j+1].atR=true:=by
 have h1:=(zcW h).2 (j+1) hj
 rw [zkL hj (zdv h hj)]at h1
 exact h1
theorem zlz {l:List OpV} (h:opsB l=true) {i j:Nat} (hij:i<j) (hj:j<l.length):zam l[i].atN l[i].atR l[j].atN l[j].atR=true:=by
 obtain⟨d,rfl⟩:∃d,j=i+1+d:=⟨j-i-1,by omega⟩
 induction d with
 | zero=>exact ziB h hj
 | succ d ih=>exact zmw (ih (by omega) (by omega)) (ziB h (j:=i+1+d) hj)
def zsx (l:List OpV) (n r:Int):Bool:=if h:posO l n r<l.length then decide (l[posO l n r].atN=n∧l[posO l n r].atR=r) else false
def zaS (l:List PlV) (i:IdV):Int:=match posP l i with
 | some k=>(k:Int)
 | none=> -1
theorem StB.cells {w0 w:World} {sb:Nat} {a:Option Addr} {c:Nat} {l:List PlV} {F:List Nat} (h:StB w0 w sb a c l F) {j:Nat} {p:PlV} (hj:l[j]? = some p) :
  ∃b k ck n cn t ct q cq,a=some ⟨b,0,none⟩∧b∈F∧w.cell? ⟨b,j*9,none⟩=some (.int .i64 p.idN)∧w.cell? ⟨b,j*9+1,none⟩=some (.int .i64 p.idR)∧w.cell? ⟨b,j*9+2,none⟩=some (.int .i64 p.parN)∧w.cell? ⟨b,j*9+3,none⟩=some (.int .i64 p.parR)∧w.cell? ⟨b,j*9+4,none⟩=some (.slice k p.key.length ck)∧w.cell? ⟨b,j*9+5,none⟩=some (.int .i64 p.kind)∧w.cell? ⟨b,j*9+6,none⟩=some (.slice n p.name.length cn)∧w.cell? ⟨b,j*9+7,none⟩=some (.slice t p.text.length ct)∧w.cell? ⟨b,j*9+8,none⟩=some (.slice q p.attrs.length cq)∧
   Byt w (.slice n p.name.length cn) p.name∧RdAttrs w (.slice q p.attrs.length cq) p.attrs∧(∀x,w.frozen? ⟨b,x,none⟩=false):=by
 obtain⟨h1,h2,h3,h4,h5,h6⟩:=h
 obtain⟨hlt,rfl⟩:=List.getElem?_eq_some_iff.1 hj
 obtain⟨Cs,Fs,l1,l2,hR,hrow,hF⟩:=h2
 obtain⟨q1,q2⟩:=hR j hlt
 have hrow':=hrow
 rcases hrow.2 with ⟨_,e0⟩ | ⟨g,cap,cur,e0,hb,hg,hnc,hcm,hcs,htake⟩
 ·omega
 injection e0 with x1 _ x3
 subst x1 x3
 have hcell:=fun x (hx:x<9)=>zaQ hrow' (fun i hi=>(hR i (by omega)).1) l1 j x hlt hx
 have hrd:=PlF.rd q2 h6
 obtain⟨k,n,t,q,e,r1,r2,r3,r4⟩:=hrd
 obtain⟨ka,kc,rfl,_,_⟩:=r1.shape
 obtain⟨na,nc,rfl,_,_⟩:=r2.shape
 obtain⟨ta,tc,rfl,_,_⟩:=r3.shape
 obtain⟨qa,qc,rfl,_,_⟩:=Elems.shape r4
 rw [e]at hcell
 exact⟨g,ka,kc,na,nc,ta,tc,qa,qc,rfl,by rw [hF];simp [FB,Value.ownBlock],hcell 0 (by decide),hcell 1 (by decide),hcell 2 (by decide),hcell 3 (by decide),hcell 4 (by decide),hcell 5 (by decide),hcell 6 (by decide),hcell 7 (by decide),hcell 8 (by decide),r2,r4,fun x=>hrow'.frozenAt x⟩
set_option maxHeartbeats 3200000 in
theorem zdQ (w0 w:World) (sb:Nat) (a:Option Addr) (c:Nat) (l:List PlV) (F:List Nat) (i:IdV) (h:StB w0 w sb a c l F) (hl:l.length≤100000) :
  Calls Tryz.prog 108 #[.pointer (some ⟨sb,0,none⟩),.agg #[.int .i64 i.1,.int .i64 i.2]] w fun e w'=>e=.returned (.int .i64 (zaS l i))∧Below w.heap.size w w':=by
 obtain⟨iN,iR⟩:=i
 have hA:=(Below.refl w.heap.size w).alloc (Nat.le_refl _) (.cells #[.int .i64 iN,.int .i64 iR] 81)
 have lb:=Loc.made w #[.int .i64 iN,.int .i64 iR] 81
 have h1:=h.keep hA
 have LL:=hide (And.intro hA (And.intro lb h1))
 have hR:∀r,zaS l (iN,iR)=r→Hid (zaS l (iN,iR)=r):=fun r e=>hide e
 clear hA lb h h1
 go_enter Tryz.func108,Tryz.ntmps108
 go_wp2_with fail
 obtain⟨hA,lb,h1⟩:=zaa LL
 clear LL
 generalize (w.alloc (.cells #[.int .i64 iN,.int .i64 iR] 81))=w1 at *
 go_loopw [5] (fun x wr=>∃j:Nat,j≤l.length∧x=.int .i64 (j:Int)∧(∀t p,t<j→l[t]? = some p→p.id≠(iN,iR))∧Below w1.heap.size w1 wr) (fun x _=>l.length-(intOf x).toNat)
 case atStart=>exact⟨0,Nat.zero_le _,rfl,fun t p ht=>by omega,Below.refl _ _⟩
 case round=>
  obtain⟨j,hj,rfl,hno,hb⟩:=hrel
  have hr:=h1.keep hb
  have y0:wr.cell? ⟨sb,0,none⟩=some (.slice a l.length c):=hr.1.cell 0
  have lbr:=lb.all hb
  have v0:wr.cell? ⟨w.heap.size,0,none⟩=some (.int .i64 iN):=lbr.cell 0
  have v1:wr.cell? ⟨w.heap.size,1,none⟩=some (.int .i64 iR):=lbr.cell 1
  have hj0:(0:Int)≤(j:Int):=by omega
  by_cases hlt:j<l.length
  ·have hlt':(j:Int)<(l.length:Int):=by omega
   obtain⟨p,hp⟩:∃p,l[j]? = some p:=⟨l[j],by simp [hlt]⟩
   obtain⟨b,k,ck,n,cn,t,ct,x,cx,rfl,_,z0,z1,_⟩:=hr.cells hp
   clear lbr hr
   by_cases e1:p.idN=iN
   ·by_cases e2:p.idR=iR
    ·have hfi:zaS l (iN,iR)=(j:Int):=by
      have:posP l (iN,iR)=some j:=by
       obtain⟨h',rfl⟩:=List.getElem?_eq_some_iff.1 hp
       exact posP_some.2 ⟨h',by simp [PlV.id,e1,e2],fun t ht=>hno t _ ht (by simp [show t<l.length by omega])⟩
      simp [zaS,this]
     have HE:=hide (And.intro hfi (zad hA hb))
     have d1:(p.idN == iN)=true:=by simpa using e1
     have d2:(p.idR == iR)=true:=by simpa using e2
     clear hfi hno e1 e2 hb hA h1 lb
     go_wp2_with fail
     go_quiet (fail)
     go_wp2_with fail
     go_ret
     exact⟨by rw [(zaa HE).1];rfl,below_drewN (zaa HE).2 _⟩
    ·have d1:(p.idN == iN)=true:=by simpa using e1
     have d2:(p.idR == iR)=false:=by simpa using e2
     have HE:=hide (show ∀t p,t<j+1→l[t]? = some p→p.id≠(iN,iR) from fun t p' ht hp'=>by
      by_cases et:t=j
      ·subst et;rw [hp]at hp';cases hp';intro e;exact e2 (Prod.mk.inj e).2
      ·exact hno t p' (by omega) hp')
     have HB:=hide hb
     clear hno e1 e2 hb
     go_wp2_with fail
     go_quiet (fail)
     go_wp2_with fail
     go_roundw
     case rel=>exact⟨j+1,by omega,by go_num,zaa HE,below_drewN (zaa HB) _⟩
     case measure=>simp [intOf];omega
   ·have d1:(p.idN == iN)=false:=by simpa using e1
    have HE:=hide (show ∀t p,t<j+1→l[t]? = some p→p.id≠(iN,iR) from fun t p' ht hp'=>by
     by_cases et:t=j
     ·subst et;rw [hp]at hp';cases hp';intro e;exact e1 (Prod.mk.inj e).1
     ·exact hno t p' (by omega) hp')
    have HB:=hide hb
    clear hno e1 hb
    go_wp2_with fail
    go_quiet (fail)
    go_wp2_with fail
    go_roundw
    case rel=>exact⟨j+1,by omega,by go_num,zaa HE,below_drewN (zaa HB) _⟩
    case measure=>simp [intOf];omega
  ·have hlt':¬ (j:Int)<(l.length:Int):=by omega
   have hfi:zaS l (iN,iR) = -1:=by
    have:posP l (iN,iR)=none:=posP_none.2 (fun p hp=>by
     obtain⟨t,ht,rfl⟩:=List.getElem_of_mem hp
     exact hno t _ (by omega) (by simp [ht]))
    simp [zaS,this]
   have HE:=hide (And.intro hfi (zad hA hb))
   clear hfi hno hb hA h1 lb hr lbr
   go_wp2_with fail
   go_ret
   exact⟨by rw [(zaa HE).1];rfl,(zaa HE).2⟩
theorem zdJ (w:World) (g j:Nat) (v:Value):w.grownBy (w.setCell ⟨g,j,none⟩ v) (some g):=⟨rfl,rfl,rfl,by simp,fun k _ hk=>heap_setCell_other w ⟨g,j,none⟩ k v (fun e=>hk (by simp [e]))⟩
theorem zqX (w:World) (v:Value) (l:List Int) (h:Byt w v l):Calls Tryz.prog 36 #[v] w fun e w'=>e=.returned (.bool (zar l))∧w'=w:=by
 cases hv:zar l with
 | true=>exact zdw w v l h ((zaT _).1 hv)
 | false=>exact zeQ w v l h (fun e=>by rw [(zaT _).2 e]at hv;cases hv)
set_option maxHeartbeats 3200000 in
theorem zgJ (w0 w:World) (sb:Nat) (a:Option Addr) (c:Nat) (l:List PlV) (F:List Nat) (i:IdV) (h:StB w0 w sb a c l F) (hl:l.length≤100000) (kI:Int) (hk:kI=zaS l i) :
  Calls Tryz.prog 109 #[.pointer (some ⟨sb,0,none⟩),.int .i64 kI] w fun e w'=>e=.returned (.bool (zae l i))∧w'=w:=by
 cases hp:posP l i with
 | none=>
  have e1:kI = -1:=by rw [hk];simp [zaS,hp]
  have e2:zae l i=false:=by simp [zae,hp]
  subst e1
  rw [e2]
  clear hk e2 h
  go_enter Tryz.func109,Tryz.ntmps109
  go_wp2_with fail
  go_ret
  exact⟨rfl,rfl⟩
 | some k=>
  obtain⟨p,hkp,hid⟩:=zbm hp
  obtain⟨hlt,_,_⟩:=posP_some.1 hp
  have e1:kI=(k:Int):=by rw [hk];simp [zaS,hp]
  have e2:zae l i=(zcJ p && !zar p.name):=by simp [zae,hp,hkp]
  subst e1
  rw [e2]
  obtain⟨b,kk,ck,n,cn,t,ct,x,cx,rfl,_,z0,z1,_,_,_,z5,z6,_,_,hby,_⟩:=h.cells hkp
  have y0:w.cell? ⟨sb,0,none⟩=some (.slice (some ⟨b,0,none⟩) l.length c):=h.1.cell 0
  have hlt':(k:Int)<(l.length:Int):=by omega
  have hk0:(0:Int)≤(k:Int):=by omega
  have HV:=hide (zqX w _ p.name hby)
  clear hk e2 h hby hid hp
  by_cases hz:p.kind=0
  ·have dz:(p.kind == 0)=true:=by simpa using hz
   have ez:zcJ p=true:=by simp [zcJ,hz]
   rw [ez]
   clear hz ez
   generalize zar p.name=bv at *
   go_enter Tryz.func109,Tryz.ntmps109
   go_wp2_with fail
   refine (zaa HV).mono ?_
   rintro e w' ⟨rfl,rfl⟩
   cases bv with
   | true=>
    go_wp2_with fail
    go_ret
    exact⟨rfl,rfl⟩
   | false=>
    go_wp2_with fail
    go_ret
    exact⟨rfl,rfl⟩
  ·have dz:(p.kind == 0)=false:=by simpa using hz
   have ez:zcJ p=false:=by simp [zcJ,hz]
   rw [ez]
   clear hz ez
   go_enter Tryz.func109,Tryz.ntmps109
   go_wp2_with fail
   go_ret
   exact⟨rfl,rfl⟩
set_option maxHeartbeats 6400000 in
theorem zkY (w0 w:World) (sb:Nat) (a:Option Addr) (c:Nat) (l:List PlV) (F:List Nat) (i by_:IdV) (h:StB w0 w sb a c l F) (hl:l.length≤100000) :
  Calls Tryz.prog 110 #[.pointer (some ⟨sb,0,none⟩),.agg #[.int .i64 i.1,.int .i64 i.2],.agg #[.int .i64 by_.1,.int .i64 by_.2]] w fun e w'=>e=.returned (.bool (zay l (l.length+1) i by_))∧Below w.heap.size w w':=by
 obtain⟨iN,iR⟩:=i
 obtain⟨bN,bR⟩:=by_
 have hA:Below w.heap.size w ((w.alloc (.cells #[.int .i64 iN,.int .i64 iR] 81)).alloc (.cells #[.int .i64 bN,.int .i64 bR] 81)):=zad ((Below.refl _ _).alloc (Nat.le_refl _) _) ((Below.refl _ _).alloc (Nat.le_refl _) _)
 have l0:=(Loc.made w #[.int .i64 iN,.int .i64 iR] 81).all (((Below.refl _ _).alloc (Nat.le_refl _) (.cells #[.int .i64 bN,.int .i64 bR] 81)))
 have l1:=Loc.made (w.alloc (.cells #[.int .i64 iN,.int .i64 iR] 81)) #[.int .i64 bN,.int .i64 bR] 81
 simp only [World.size_alloc]at l1
 have LL:=hide (And.intro hA (And.intro l0 l1))
 obtain⟨R,hR⟩:∃R,R=zay l (l.length+1) (iN,iR) (bN,bR):=⟨_,rfl⟩
 rw [←hR]
 have HR:=hide hR
 clear hA l0 l1 hR
 go_enter Tryz.func110,Tryz.ntmps110
 go_wp2_with fail
 obtain⟨hA,l0,l1⟩:=zaa LL
 clear LL
 generalize ((w.alloc (.cells #[.int .i64 iN,.int .i64 iR] 81)).alloc (.cells #[.int .i64 bN,.int .i64 bR] 81))=w1 at *
 go_loopw [7] (fun x wr=>∃(j:Nat) (cN cR:Int),j≤l.length+1∧x=.int .i64 (j:Int)∧R=zay l (l.length+1-j) (cN,cR) (bN,bR)∧Loc wr w.heap.size #[.int .i64 cN,.int .i64 cR] 81∧Loc wr (w.heap.size+1) #[.int .i64 bN,.int .i64 bR] 81∧Below w.heap.size w wr) (fun x _=>l.length+1-(intOf x).toNat)
 case atStart=>exact⟨0,iN,iR,Nat.zero_le _,rfl,zaa HR,l0,l1,hA⟩
 case round=>
  clear l0 l1 hA HR
  obtain⟨j,cN,cR,hj,rfl,hu,l0,l1,hb⟩:=hrel
  have hs:=h.keep hb
  have y0:wr.cell? ⟨sb,0,none⟩=some (.slice a l.length c):=hs.1.cell 0
  by_cases hlt:j≤l.length
  ·have hlt':(j:Int)≤(l.length:Int):=by omega
   have v0:wr.cell? ⟨w.heap.size,0,none⟩=some (.int .i64 cN):=l0.cell 0
   have v1:wr.cell? ⟨w.heap.size,1,none⟩=some (.int .i64 cR):=l0.cell 1
   have v2:wr.cell? ⟨w.heap.size+1,0,none⟩=some (.int .i64 bN):=l1.cell 0
   have v3:wr.cell? ⟨w.heap.size+1,1,none⟩=some (.int .i64 bR):=l1.cell 1
   obtain⟨f,hf⟩:∃f,l.length+1-j=f+1:=⟨l.length-j,by omega⟩
   rw [hf]at hu
   unfold zay at hu
   by_cases he:(cN,cR)=(bN,bR)
   ·rw [if_pos he]at hu
    subst hu
    obtain⟨e1,e2⟩:=Prod.mk.inj he
    have d1:(cN == bN)=true:=by simpa using e1
    have d2:(cR == bR)=true:=by simpa using e2
    have HB:=hide hb
    clear he e1 e2 hb hs l0 l1 h
    go_wp2_with fail
    go_ret
    exact⟨rfl,zaa HB⟩
   ·rw [if_neg he]at hu
    have dd:((cN == bN) && (cR == bR))=false:=by
     cases h1:(cN == bN)with
     | false=>rfl
     | true=>
      cases h2:(cR == bR)with
      | false=>rfl
      | true=>exact absurd (by rw [beq_iff_eq.1 h1,beq_iff_eq.1 h2]) he
    have HF:=hide (zdQ w0 wr sb a c l F (cN,cR) hs hl)
    have HU:=hide hu
    have HL:=hide (And.intro hb (And.intro l0 l1))
    have hd12:(cN == bN)=false∨((cN == bN)=true∧(cR == bR)=false):=by
     cases h1:(cN == bN)with
     | false=>exact .inl rfl
     | true=>rw [h1]at dd;exact .inr ⟨rfl,by simpa using dd⟩
    clear he hu hb hs l0 l1 dd
    rcases hd12 with d1 | ⟨d1,d2⟩
    all_goals
     go_wp2_with fail
     refine (zaa HF).mono ?_
     rintro e w5 ⟨rfl,hb5⟩
     obtain⟨hb,l0,l1⟩:=zaa HL
     have hbw:=zad hb hb5
     have hs5:=h.keep hbw
     have l05:=l0.all hb5
     have l15:=l1.all hb5
     have hu:=zaa HU
     clear HF HL HU hb l0 l1 hb5 y0 v0 v1 v2 v3
     cases hp:posP l (cN,cR)with
     | none=>
      have hfi:zaS l (cN,cR) = -1:=by simp [zaS,hp]
      rw [hp]at hu
      subst hu
      rw [hfi]
      have HB:=hide hbw
      clear hfi hbw hs5 l05 l15 hp h
      go_wp2_with fail
      go_ret
      exact⟨rfl,zaa HB⟩
     | some k=>
      obtain⟨p,hkp,hid⟩:=zbm hp
      obtain⟨hkl,_,_⟩:=posP_some.1 hp
      have hfi:zaS l (cN,cR)=(k:Int):=by simp [zaS,hp]
      rw [hp]at hu
      simp only [hkp]at hu
      rw [hfi]
      by_cases hk2:k<2
      ·rw [if_pos hk2]at hu
       subst hu
       have hk2':(k:Int)<2:=by omega
       have HB:=hide hbw
       clear hfi hbw hs5 l05 l15 hp h hk2
       go_wp2_with fail
       go_ret
       exact⟨rfl,zaa HB⟩
      ·rw [if_neg hk2]at hu
       have hk2':¬ (k:Int)<2:=by omega
       have hkl':(k:Int)<(l.length:Int):=by omega
       have hk0:(0:Int)≤(k:Int):=by omega
       have y0:w5.cell? ⟨sb,0,none⟩=some (.slice a l.length c):=hs5.1.cell 0
       obtain⟨b,kk,ck,n,cn,t,ct,x,cx,rfl,_,_,_,z2,z3,_⟩:=hs5.cells hkp
       have v0:w5.cell? ⟨w.heap.size,0,none⟩=some (.int .i64 cN):=l05.cell 0
       have v1:w5.cell? ⟨w.heap.size,1,none⟩=some (.int .i64 cR):=l05.cell 1
       have g0:=l05.frozen 0
       have g1:=l05.frozen 1
       have l06:=(l05.set 0 (.int .i64 p.parN)).set 1 (.int .i64 p.parR)
       have l16:=(l15.other w.heap.size 0 (.int .i64 p.parN) (by omega)).other w.heap.size 1 (.int .i64 p.parR) (by omega)
       have hb6:Below w.heap.size w ((w5.setCell ⟨w.heap.size,0,none⟩ (.int .i64 p.parN)).setCell ⟨w.heap.size,1,none⟩ (.int .i64 p.parR)):=zdX (zdX hbw (zdJ _ _ _ _) (fun q hq=>by cases hq;exact Nat.le_refl _)) (zdJ _ _ _ _) (fun q hq=>by cases hq;exact Nat.le_refl _)
       have hf':l.length+1-(j+1)=f:=by omega
       have HE:=hide (And.intro l06 (And.intro l16 hb6))
       have HU:=hide (show R=zay l (l.length+1-(j+1)) (p.parN,p.parR) (bN,bR) by rw [hf'];exact hu)
       clear hfi hbw hs5 l05 l15 l06 l16 hb6 hp hk2 hu hf'
       go_wp2_with fail
       go_roundw
       case rel=>exact⟨j+1,p.parN,p.parR,by omega,by go_num,zaa HU,(zaa HE).1,(zaa HE).2.1,(zaa HE).2.2⟩
       case measure=>simp [intOf];omega
  ·have hlt':¬ (j:Int)≤(l.length:Int):=by omega
   have e0:l.length+1-j=0:=by omega
   rw [e0]at hu
   unfold zay at hu
   subst hu
   have HB:=hide hb
   clear hb hs l0 l1 h hlt
   go_wp2_with fail
   go_ret
   exact⟨rfl,zaa HB⟩
def OwAO (w0 w:World) (B:Nat) (v:Value) (m:List (List Int×List Int)):Prop:=OwElems w 144 2 v m (zjq w0) (FB v)∧∀q∈FB v,B≤q∧q<w.heap.size
theorem zqV {w0 w:World} {v:Value} {m:List (List Int×List Int)} {F:List Nat} (h:OwElems w 144 2 v m (zjq w0) F):F=FB v:=by
 obtain⟨Cs,Fs,e1,e2,e3,e4,rfl⟩:=h
 have:Fs.flatten=[]:=List.flatten_eq_nil_iff.2 (fun G hG=>by
  obtain⟨i,hi,rfl⟩:=List.getElem_of_mem hG
  obtain⟨_,a,b,_,_,_,e⟩:=e3 i (by omega)
  rw [List.getD_eq_getElem?_getD,List.getElem?_eq_getElem hi]at e
  exact e)
 rw [this,List.append_nil]
theorem OwAO.frm {w0 w w':World} {B:Nat} {v:Value} {m:List (List Int×List Int)} {S:List Nat} (h:OwAO w0 w B v m) (f:Frm w w' S) (hd:∀q∈FB v,q∉S):OwAO w0 w' B v m:=
 ⟨OwElems.frm h.1 f hd (fun C x G hr hG=>hr),fun q hq=>⟨(h.2 q hq).1,Nat.lt_of_lt_of_le (h.2 q hq).2 f.size⟩⟩
theorem OwAO.keep {w0 w w':World} {B:Nat} {v:Value} {m:List (List Int×List Int)} (h:OwAO w0 w B v m) (hb:Below w.heap.size w w'):OwAO w0 w' B v m:=h.frm (Frm.ofBelow hb []) (fun _ _=>by simp)
theorem OwAO.nil (w0 w:World) (B:Nat):OwAO w0 w B (.slice none 0 0) []:=⟨⟨[],[],rfl,rfl,fun i hi=>by simp at hi,⟨by simp,.inl ⟨rfl,rfl⟩⟩,rfl⟩,fun q hq=>by simp [FB,Value.ownBlock]at hq⟩
theorem OwAO.shape {w0 w:World} {B:Nat} {v:Value} {m:List (List Int×List Int)} (h:OwAO w0 w B v m):∃a c,v=.slice a m.length c:=by
 obtain⟨⟨_,_,_,_,_,hr,_⟩,_⟩:=h
 exact zbx hr
theorem zqx:(Tryz.prog.info? 144).map (fun i=>(i.zero,i.size,i.bytes))=some (some (.agg #[.slice none 0 0,.slice none 0 0]),2,48):=by kernel_rfl
theorem zdF {w0 w:World} {B:Nat} {ops:Array Oper} {rest:List Oper} {o:Oper} {a:Act} {Q:Exit→Act→World→Prop} (hgd:o.guard=none) (s x:Operand)
  (ho:o.op=.call { callee:=.builtin .append,args:= #[s,x],argTypes:= #[34,34] })
  (v:Value) (m:List (List Int×List Int)) (hs:a.eval s=v) (h:OwAO w0 w B v m) (u1 u2:Value) (y:List Int×List Int) (c:Nat)
  (hx:a.eval x=.slice (some ⟨w.heap.size,0,none⟩) 1 c) (h1:Byt w0 u1 y.1) (h2:Byt w0 u2 y.2) (hB:B≤w.heap.size) (hl:m.length≤1000)
  (hK:∀g cap w',OwAO w0 w' B (.slice (some ⟨g,0,none⟩) (m.length+1) cap) (m++[y])→Frm w w' (FB v)→(g∈FB v∨w.heap.size≤g)→wpList Tryz.prog ops Q rest (a.put o.dst (.slice (some ⟨g,0,none⟩) (m.length+1) cap)) w'):wpList Tryz.prog ops Q (o::rest) a (w.alloc (.cells #[u1,u2] 144)):=by
 obtain⟨i0,hi0,hz0,hz1,hz2⟩:=info_parts zqx
 have hb:Below w.heap.size w (w.alloc (.cells #[u1,u2] 144)):=(Below.refl _ _).alloc (Nat.le_refl _) _
 have h':=h.keep hb
 have hone:∀{u:Value} {l:List Int},Byt w0 u l→u.oneCell'=true:=fun hu=>by obtain⟨_,_,rfl,_⟩:=hu.shape;rfl
 refine zgN (R:=fun _=>zjq w0) (fun h _ _=>h) hgd s x 34 ho 144 i0 (.agg #[.slice none 0 0,.slice none 0 0]) 2 48 Tryz.underlying34 hi0 hz0 hz1 hz2 rfl (by decide) v m (FB v) hs h'.1 (zaE _) ⟨w.heap.size,0,none⟩ c [u1,u2] y [] hx rfl (fun j u hu=>World.news_of_block (heap_alloc_new w (.cells #[u1,u2] 144)) j u (by simpa using hu)) (by intro u hu;simp at hu;rcases hu with rfl | rfl;exact hone h1;exact hone h2) ⟨u1,u2,rfl,h1,h2,rfl⟩ List.nodup_nil (fun _ _ h=>by cases h) (fun q hq=>by rcases hq with hq | hq;exact (h'.2 q hq).2;cases hq) (by unfold maxLen;omega) (by omega) ?_
 intro g cap w' F' k1 k2 k3 k4 k5
 have hF:=zqV k1
 subst hF
 have hg:g∈FB (.slice (some ⟨g,0,none⟩) (m.length+1) cap):=by simp [FB,Value.ownBlock]
 have hgw:g∈FB v∨w.heap.size≤g:=by
  rcases k3 g hg with h3 | h3 | h3
  ·exact .inl h3
  ·cases h3
  ·right;rw [h3];simp
 refine hK g cap w' ⟨k1,fun q hq=> ?_⟩ ((Frm.ofBelow hb _).trans k4) hgw
 have eq:q=g:=by simpa [FB,Value.ownBlock,eq_comm]using hq
 subst eq
 refine⟨?_,k5⟩
 rcases hgw with h3 | h3
 ·exact (h.2 q h3).1
 ·omega
theorem AttrsF.at {w0 w:World} {v:Value} {l:List (List Int×List Int)} {F:List Nat} (h:AttrsF w0 w v l F) (hb:Below w0.heap.size w0 w) {i:Nat} (hi:i<l.length) :
  ∃b off cap y1 d1 y2 d2,v=.slice (some ⟨b,off,none⟩) l.length cap∧b<w.heap.size∧w.cell? ⟨b,off+i*2,none⟩=some (.slice y1 l[i].1.length d1)∧w.cell? ⟨b,off+i*2+1,none⟩=some (.slice y2 l[i].2.length d2)∧Byt w0 (.slice y1 l[i].1.length d1) l[i].1∧Byt w0 (.slice y2 l[i].2.length d2) l[i].2:=by
 rcases h with ⟨h,_⟩ | ⟨Cs,Fs,e1,e2,e3,e4,_⟩
 ·obtain⟨hm,⟨_,e⟩ | ⟨_,_,_,_,e⟩ | ⟨pb,poff,cap,rfl,_,_,_,hpl,hel⟩⟩:=h
  ·subst e;simp at hi
  ·subst e;simp at hi
  obtain⟨C,hC,hcell,y1,y2,rfl,h1,h2⟩:=hel i hi
  obtain⟨a1,c1,rfl,_,_⟩:=h1.shape
  obtain⟨a2,c2,rfl,_,_⟩:=h2.shape
  have q0:=hcell 0 (by omega)
  have q1:=hcell 1 (by omega)
  exact⟨pb,poff,cap,a1,c1,a2,c2,rfl,Nat.lt_of_lt_of_le hpl hb.size,(hb.cell (p:=⟨pb,poff+i*2,none⟩) hpl).trans q0,(hb.cell (p:=⟨pb,poff+i*2+1,none⟩) hpl).trans q1,h1,h2⟩
 ·rcases e4.2 with ⟨_,e0⟩ | ⟨g,cap,cur,rfl,_,hg,_⟩
  ·omega
  obtain⟨_,y1,y2,eC,h1,h2,_⟩:=e3 i hi
  have hcell:=fun x (hx:x<2)=>zaQ e4 (fun i hi=>(e3 i (by omega)).1) e1 i x hi hx
  rw [eC]at hcell
  obtain⟨a1,c1,rfl,_,_⟩:=h1.shape
  obtain⟨a2,c2,rfl,_,_⟩:=h2.shape
  exact⟨g,0,cap,a1,c1,a2,c2,rfl,(Array.getElem?_eq_some_iff.1 hg).1,by rw [Nat.zero_add];exact hcell 0 (by decide),by rw [Nat.zero_add];exact hcell 1 (by decide),h1,h2⟩
theorem StB.same {w0 w w':World} {sb b c:Nat} {l:List PlV} {F:List Nat} (h:StB w0 w sb (some ⟨b,0,none⟩) c l F) {k:Nat} {p:PlV} (hk:l[k]? = some p) (hb:Below w.heap.size w w'):StB w0 w' sb (some ⟨b,0,none⟩) c (l.set k p) F:=by
 have e:l.set k p=l:=by
  obtain⟨hlt,rfl⟩:=List.getElem?_eq_some_iff.1 hk
  simp
 rw [e]
 exact h.keep hb
theorem StB.attrs {w0 w w':World} {sb b c:Nat} {l:List PlV} {F:List Nat} (h:StB w0 w sb (some ⟨b,0,none⟩) c l F) {k:Nat} {p:PlV} (hk:l[k]? = some p) (hb:Below w.heap.size w w') {v:Value} {m:List (List Int×List Int)} (hv:OwAO w0 w' (w.heap.size+1) v m) :
  ∃F',StB w0 (w'.setCell ⟨b,k*9+8,none⟩ v) sb (some ⟨b,0,none⟩) c (l.set k { p with attrs:=m }) F'∧Frm w (w'.setCell ⟨b,k*9+8,none⟩ v) [b]∧∀q∈F',q∈F∨w.heap.size≤q:=by
 obtain⟨h1,h2,h3,h4,h5,h6⟩:=h
 obtain⟨hlt,rfl⟩:=List.getElem?_eq_some_iff.1 hk
 obtain⟨Cs,C,G,hR,hP,hGN,hGF,hbF,hbG,hcl⟩:=h2.one h3 k hlt
 have hbl:=(h4 b hbF).2.1
 have hbs:=(h4 b hbF).2.2
 have f1:Frm w w' []:=Frm.ofBelow hb []
 have f2:=zab w' b (k*9+8) v
 have f:Frm w (w'.setCell ⟨b,k*9+8,none⟩ v) [b]:=(f1.mono (fun q hq=>by cases hq)).trans f2
 have hR9:=(hR.frm f1 (by simp)).put 8 (by decide) v
 obtain⟨kv,n,t,a,F1,F2,F3,eC,q1,q2,q3,q4,eG⟩:=hP
 have hvb:∀q∈FB v,q∉[b]:=fun q hq e=>by have:=(hv.2 q hq).1;simp at e;omega
 have hv9:=OwElems.frm hv.1 f2 hvb (fun C x G hr hG=>hr)
 have hG1:∀q∈F1++F2,q∈G:=fun q hq=>by rw [eG];exact List.mem_append_left _ hq
 have hGb:∀q∈F1++F2,q∉[b]:=fun q hq e=>by simp at e;subst e;exact hbG (hG1 q hq)
 have hP9:PlF w0 (w'.setCell ⟨b,k*9+8,none⟩ v) (C.set 8 v) { l[k]with attrs:=m } (F1++F2++FB v):=by
  subst eC
  exact⟨kv,n,t,v,F1,F2,FB v,rfl,q1.frm f (fun q hq=>hGb q (by simp [hq])),q2.frm f (fun q hq=>hGb q (by simp [hq])),q3,.inr hv9,rfl⟩
 have hN9:(F1++F2++FB v).Nodup:=by
  rw [eG]at hGN
  refine List.nodup_append.2 ⟨(List.nodup_append.1 hGN).1,zaE _,fun x hx y hy e=> ?_⟩
  subst e
  have h7:=(h4 x (hGF x (hG1 x hx))).2.1
  have h8:=(hv.2 x hy).1
  omega
 obtain⟨F',g1,g2,g3⟩:=hcl _ _ { l[k]with attrs:=m } (F1++F2++FB v) hR9 f hP9 hN9 (fun q hq=>by
  rcases List.mem_append.1 hq with hq | hq
  ·exact .inl (hG1 q hq)
  ·right;intro e;have h7:=(h4 q e).2.1;have h8:=(hv.2 q hq).1;omega)
 have hs9:=f.size
 refine⟨F',⟨?_,g1,g2,fun q hq=> ?_,h5,h6.trans (f.below h6.size (fun q hq=>by simp at hq;subst hq;exact (h4 q hbF).1))⟩,f,fun q hq=>(g3 q hq).elim .inl (fun h7=>(List.mem_append.1 h7).elim (fun h8=>.inl (hGF q (hG1 q h8))) (fun h8=>.inr (by have:=(hv.2 q h8).1;omega)))⟩
 ·rw [List.length_set]
  exact h1.frm f (by simp;omega)
 ·have hsl:=h1.lt
  rcases g3 q hq with h7 | h7
  ·have:=h4 q h7;exact⟨this.1,by omega,this.2.2⟩
  ·rcases List.mem_append.1 h7 with h7 | h7
   ·have:=h4 q (hGF q (hG1 q h7));exact⟨this.1,by omega,this.2.2⟩
   ·have h8:=hv.2 q h7
    have h9:=f2.size
    exact⟨by have:=h6.size;omega,by omega,by omega⟩
theorem znP (n t:List Int) (pt:Bool) (l:List (List Int×List Int)) (j:Nat) (hj:j<l.length):setA n t pt (l.drop j)=(if !pt && !klB l[j].1 n then [(n,t)] else [])++(if l[j].1=n then [] else [l[j]])++setA n t (pt || !klB l[j].1 n) (l.drop (j+1)):=by
 rw [List.drop_eq_getElem_cons hj]
 rfl
theorem zsp (a b:List Int):(klB a b || decide (a=b)) = !klB b a:=by
 have h1:=zec a b
 have h2:=zkI a b
 generalize klB a b=x at *
 generalize klB b a=y at *
 generalize decide (a=b)=z at *
 cases x<;>cases y<;>cases z<;>simp_all
set_option maxHeartbeats 12800000 in
theorem zjk (w0 w:World) (sb b c:Nat) (l:List PlV) (F:List Nat) (h:StB w0 w sb (some ⟨b,0,none⟩) c l F) (k:Nat) (p:PlV) (hk:l[k]? = some p) (hal:p.attrs.length≤100) (o:OpV) (k1 k2 k3:Option Addr) (d1 d2 d3:Nat) (h2:Byt w0 (.slice k2 o.name.length d2) o.name) (h3:Byt w0 (.slice k3 o.text.length d3) o.text) :
  Calls Tryz.prog 111 #[.pointer (some ⟨b,k*9,none⟩),.agg #[.int .i64 o.kind,.int .i64 o.atN,.int .i64 o.atR,.int .i64 o.nodeN,.int .i64 o.nodeR,.int .i64 o.parN,.int .i64 o.parR,.slice k1 o.key.length d1,.int .i64 o.elem,.slice k2 o.name.length d2,.slice k3 o.text.length d3,.bool o.gone]] w fun e w'=>(∃v,e=.returned v)∧(∃F',StB w0 w' sb (some ⟨b,0,none⟩) c (l.set k (zbp o p)) F'∧∀q∈F',q∈F∨w.heap.size≤q)∧Frm w w' [b]:=by
 obtain⟨b',kk,ck,n,cn,t,ct,qa,qc,eb,hbF,_,_,_,_,_,_,_,_,z8,_,_,_⟩:=h.cells hk
 obtain rfl:b=b':=by injection eb with eb;injection eb
 have hbl:=(h.2.2.2.1 b hbF).2.1
 have h06:=h.2.2.2.2.2
 have HAT:Hid (∀j (hj:j<p.attrs.length),∃b9 off cap y1 e1 y2 e2,(Value.slice qa p.attrs.length qc)=.slice (some ⟨b9,off,none⟩) p.attrs.length cap∧b9<w.heap.size∧w.cell? ⟨b9,off+j*2,none⟩=some (.slice y1 p.attrs[j].1.length e1)∧w.cell? ⟨b9,off+j*2+1,none⟩=some (.slice y2 p.attrs[j].2.length e2)∧Byt w0 (.slice y1 p.attrs[j].1.length e1) p.attrs[j].1∧Byt w0 (.slice y2 p.attrs[j].2.length e2) p.attrs[j].2):=hide (fun j hj=>by
  obtain⟨hlt,rfl⟩:=List.getElem?_eq_some_iff.1 hk
  obtain⟨Cs,C,G,hR,⟨_,_,_,a9,_,_,_,eC,_,_,_,q4,_⟩,_⟩:=h.2.1.one h.2.2.1 k hlt
  have hc:=hR.cell 8 (by decide)
  rw [z8,eC]at hc
  simp at hc
  subst hc
  exact q4.at h06 hj)
 have hA:Below w.heap.size w (w.alloc (.cells #[.int .i64 o.kind,.int .i64 o.atN,.int .i64 o.atR,.int .i64 o.nodeN,.int .i64 o.nodeR,.int .i64 o.parN,.int .i64 o.parR,.slice k1 o.key.length d1,.int .i64 o.elem,.slice k2 o.name.length d2,.slice k3 o.text.length d3,.bool o.gone] 83)):=(Below.refl _ _).alloc (Nat.le_refl _) _
 have lo:=Loc.made w #[.int .i64 o.kind,.int .i64 o.atN,.int .i64 o.atR,.int .i64 o.nodeN,.int .i64 o.nodeR,.int .i64 o.parN,.int .i64 o.parR,.slice k1 o.key.length d1,.int .i64 o.elem,.slice k2 o.name.length d2,.slice k3 o.text.length d3,.bool o.gone] 83
 have LL:=hide (And.intro hA lo)
 have HST:=hide h
 clear hA lo h eb
 go_enter Tryz.func111,Tryz.ntmps111
 go_wp2_with fail
 obtain⟨hA,lo⟩:=zaa LL
 clear LL
 generalize (w.alloc (.cells #[.int .i64 o.kind,.int .i64 o.atN,.int .i64 o.atR,.int .i64 o.nodeN,.int .i64 o.nodeR,.int .i64 o.parN,.int .i64 o.parR,.slice k1 o.key.length d1,.int .i64 o.elem,.slice k2 o.name.length d2,.slice k3 o.text.length d3,.bool o.gone] 83))=w1 at *
 go_loopw [4,5,6] (fun ov pv x wr=>∃(j:Nat) (pt:Bool) (m:List (List Int×List Int)),j≤p.attrs.length∧x=.int .i64 (j:Int)∧pv=.bool pt∧OwAO w0 wr (w.heap.size+1) ov m∧m.length≤2*j∧setA o.name o.text o.gone p.attrs=m++setA o.name o.text pt (p.attrs.drop j)∧Loc wr w.heap.size #[.int .i64 o.kind,.int .i64 o.atN,.int .i64 o.atR,.int .i64 o.nodeN,.int .i64 o.nodeR,.int .i64 o.parN,.int .i64 o.parR,.slice k1 o.key.length d1,.int .i64 o.elem,.slice k2 o.name.length d2,.slice k3 o.text.length d3,.bool o.gone] 83∧Below w.heap.size w wr) (fun _ _ x _=>p.attrs.length-(intOf x).toNat)
 case atStart=>exact⟨0,o.gone,[],Nat.zero_le _,rfl,rfl,OwAO.nil _ _ _,Nat.zero_le _,by simp,lo,hA⟩
 case round=>
  clear lo hA
  obtain⟨j,pt,m,hj,rfl,rfl,hov,hml,hset,lo,hb⟩:=hrel
  obtain⟨ov,cv,rfl⟩:=hov.shape
  have y8:wr.cell? ⟨b,k*9+8,none⟩=some (.slice qa p.attrs.length qc):=(hb.cell (p:=⟨b,k*9+8,none⟩) hbl).trans z8
  have hlo:=lo.lt
  by_cases hlt:j<p.attrs.length
  ·have hlt':(j:Int)<(p.attrs.length:Int):=by omega
   have hj0:(0:Int)≤(j:Int):=by omega
   obtain⟨b9,off,cap,y1,e1,y2,e2,hq,hb9,c0,c1,g1,g2⟩:=zaa HAT j hlt
   injection hq with hq1 _ hq3
   subst hq1 hq3
   have hstep:=znP o.name o.text pt p.attrs j hlt
   obtain⟨x,hx⟩:∃x,x=p.attrs[j]:=⟨_,rfl⟩
   rw [←hx]at c0 c1 g1 g2 hstep
   clear hx
   have c0r:=(hb.cell (p:=⟨b9,off+j*2,none⟩) hb9).trans c0
   have c1r:=(hb.cell (p:=⟨b9,off+j*2+1,none⟩) hb9).trans c1
   have hAa:Below wr.heap.size wr (wr.alloc (.cells #[.slice y1 x.1.length e1,.slice y2 x.2.length e2] 144)):=(Below.refl _ _).alloc (Nat.le_refl _) _
   have LL:=hide (And.intro (Loc.made wr #[.slice y1 x.1.length e1,.slice y2 x.2.length e2] 144) (And.intro (hov.keep hAa) (And.intro (lo.all hAa) (And.intro (zad hb hAa) (show wr.heap.size<(wr.alloc (.cells #[.slice y1 x.1.length e1,.slice y2 x.2.length e2] 144)).heap.size by simp)))))
   have hovl:=fun q hq=>(hov.2 q hq).2
   have HS:=hide (And.intro hset hstep)
   clear hov lo hb hAa c0 c1 hset hstep
   go_upto_region 7 with fail
   obtain⟨la,hov,lo,hb,hwl⟩:=zaa LL
   clear LL y8 c0r c1r
   generalize (wr.alloc (.cells #[.slice y1 x.1.length e1,.slice y2 x.2.length e2] 144))=wa at *
   have habo:wr.heap.size≠w.heap.size:=by omega
   generalize wr.heap.size=ab at *
   have o9:wa.cell? ⟨w.heap.size,9,none⟩=some (.slice k2 o.name.length d2):=lo.cell 9
   have o10:wa.cell? ⟨w.heap.size,10,none⟩=some (.slice k3 o.text.length d3):=lo.cell 10
   have a0:wa.cell? ⟨ab,0,none⟩=some (.slice y1 x.1.length e1):=la.cell 0
   have a1:wa.cell? ⟨ab,1,none⟩=some (.slice y2 x.2.length e2):=la.cell 1
   have s1:=zbG wa _ o.name (h2.keep (zad h06 hb))
   have s2:=zbG wa _ x.1 (g1.keep (zad h06 hb))
   have hA:=zfj h2.1 g1.1
   have hB:=zgh h2.1 g1.1
   have hC:=zgh g1.1 h2.1
   have HX:=hide (And.intro la (And.intro hov (And.intro lo hb)))
   clear la hov lo hb
   obtain⟨q1,hq1⟩:∃q1,q1=(!pt && !klB x.1 o.name):=⟨_,rfl⟩
   go_cut [36] from 26 to 36 (fun t wx=>t=.bool q1∧wx=wa)
   case first=>
    generalize str x.1=t2 at *
    generalize str o.name=t1 at *
    cases pt with
    | true=>
     clear hA hB hC s1 s2
     go_wp2_with fail
     go_meet
     exact⟨by rw [hq1];rfl,rfl⟩
    | false=>
     have ht:=zsp o.name x.1
     cases h7:klB o.name x.1 with
     | true=>
      rw [h7]at hA ht
      have ht':klB x.1 o.name=false:=by simpa using ht.symm
      rw [ht']at hq1
      clear hB hC h7 ht ht'
      go_wp2_with fail
      go_meet
      exact⟨by rw [hq1];rfl,rfl⟩
     | false=>
      rw [h7]at hA ht
      by_cases h8:o.name=x.1
      ·have hB':(t1.toList == t2.toList)=true:=by rw [hB];simp [h8]
       have ht':klB x.1 o.name=false:=by simpa [h8]using ht.symm
       rw [ht']at hq1
       clear hB hC h7 h8 ht ht'
       go_wp2_with fail
       go_meet
       exact⟨by rw [hq1];rfl,rfl⟩
      ·have hB':(t1.toList == t2.toList)=false:=by rw [hB];simp [h8]
       have ht':klB x.1 o.name=true:=by simpa [h8]using ht.symm
       rw [ht']at hq1
       clear hB hC h7 h8 ht ht'
       go_wp2_with fail
       go_meet
       exact⟨by rw [hq1];rfl,rfl⟩
   case rest=>
   obtain⟨rfl,hw⟩:=hcut
   subst wc
   have HQ1:=hide hq1
   clear hq1
   go_upto_if 36 with fail
   go_cut [4,5] from 37 to 44 (fun ov' pv' wx=>∃a' c' m',ov'=.slice a' m'.length c'∧m'=m++(if q1=true then [(o.name,o.text)] else [])∧pv'=.bool (pt || q1)∧OwAO w0 wx (w.heap.size+1) (.slice a' m'.length c') m'∧Loc wx w.heap.size #[.int .i64 o.kind,.int .i64 o.atN,.int .i64 o.atR,.int .i64 o.nodeN,.int .i64 o.nodeR,.int .i64 o.parN,.int .i64 o.parR,.slice k1 o.key.length d1,.int .i64 o.elem,.slice k2 o.name.length d2,.slice k3 o.text.length d3,.bool o.gone] 83∧Loc wx ab #[.slice y1 x.1.length e1,.slice y2 x.2.length e2] 144∧ab∉FB (.slice a' m'.length c')∧Below w.heap.size w wx)
   case first=>
    have hab:ab∉FB (.slice ov m.length cv):=fun hq=>by have:=hovl ab hq;omega
    cases q1 with
    | false=>
     go_wp2_with fail
     go_meet
     obtain⟨la,hov,lo,hb⟩:=zaa HX
     exact⟨ov,cv,m,rfl,by simp,by simp,hov,lo,la,hab,hb⟩
    | true=>
     have hsz:w.heap.size+1≤wa.heap.size:=by obtain⟨_,_,lo,_⟩:=zaa HX;have:=lo.lt;omega
     go_wp2_with (at_builtin;refine zdF rfl _ _ rfl _ m rfl (zaa HX).2.1 (.slice k2 o.name.length d2) (.slice k3 o.text.length d3) (o.name,o.text) 1 rfl h2 h3 hsz (by omega) ?_)
     intro g9 cap9 w9 hov9 hf9 hg9
     obtain⟨la,hov,lo,hb⟩:=zaa HX
     have lo9:=lo.frm hf9 (fun hq=>by have:=(hov.2 _ hq).1;omega)
     have la9:=la.frm hf9 hab
     have hb9:=hb.trans (hf9.below hb.size (fun q hq=>by have:=(hov.2 q hq).1;omega))
     have hal9:=la.lt
     have HE:=hide (And.intro hov9 (And.intro lo9 (And.intro la9 (And.intro hb9 (show ab∉FB (.slice (some ⟨g9,0,none⟩) (m.length+1) cap9) from fun hq=>by
      have e9:ab=g9:=by simpa [FB,Value.ownBlock,eq_comm]using hq
      rcases hg9 with h9 | h9
      ·rw [←e9]at h9;exact hab h9
      ·omega)))))
     clear la hov lo hb lo9 la9 hb9 hov9 hf9 hg9
     go_wp2_with fail
     go_meet
     have hlen:(m++[(o.name,o.text)]).length=m.length+1:=by simp
     exact⟨_,_,m++[(o.name,o.text)],by rw [hlen],by simp,by simp,by rw [hlen];exact (zaa HE).1,(zaa HE).2.1,(zaa HE).2.2.1,by rw [hlen];exact (zaa HE).2.2.2.2,(zaa HE).2.2.2.1⟩
   case rest=>
   obtain⟨ov2,cv2,m2,rfl,hm2,rfl,hov2,lo2,la2,hab2,hb2⟩:=hcut
   have hml2:m2.length≤2*j+1:=by rw [hm2,List.length_append];split<;>simp<;>omega
   have HM2:=hide hm2
   clear o9 o10 a0 a1 s1 s2 HX hm2
   have o9:wc.cell? ⟨w.heap.size,9,none⟩=some (.slice k2 o.name.length d2):=lo2.cell 9
   have a0:wc.cell? ⟨ab,0,none⟩=some (.slice y1 x.1.length e1):=la2.cell 0
   have a1:wc.cell? ⟨ab,1,none⟩=some (.slice y2 x.2.length e2):=la2.cell 1
   have s1:=zbG wc _ o.name (h2.keep (zad h06 hb2))
   have s2:=zbG wc _ x.1 (g1.keep (zad h06 hb2))
   have hwl2:=la2.lt
   obtain⟨q2,hq2⟩:∃q2,q2=decide (x.1=o.name):=⟨_,rfl⟩
   rw [←hq2]at hC
   have HX:=hide (And.intro la2 (And.intro hov2 (And.intro lo2 hb2)))
   have hsz:w.heap.size+1≤wc.heap.size:=by have:=lo2.lt;omega
   clear la2 hov2 lo2 hb2 hA hB
   have HQ:=hide (And.intro (zaa HQ1) hq2)
   clear HQ1 hq2
   generalize str x.1=t2 at *
   generalize str o.name=t1 at *
   have HS2:=hide (show ∀M,M=m2++(if q2=true then [] else [x])→setA o.name o.text o.gone p.attrs=M++setA o.name o.text (pt || q1) (p.attrs.drop (j+1)) from fun M hM=>by
    obtain⟨hq1,hq2⟩:=zaa HQ
    obtain⟨z1,z2⟩:=zaa HS
    rw [z1,z2,hM,zaa HM2,hq1,hq2]
    have e1:(pt || !klB x.1 o.name)=(pt || (!pt && !klB x.1 o.name)):=by cases pt<;>simp
    rw [e1]
    by_cases e2:x.1=o.name<;>simp [e2])
   cases q2 with
   | true=>
    go_wp2_with fail
    go_roundw
    case rel=>exact⟨j+1,pt || q1,m2,by omega,by go_num,rfl,(zaa HX).2.1,by omega,zaa HS2 m2 (by simp),(zaa HX).2.2.1,(zaa HX).2.2.2⟩
    case measure=>simp [intOf];omega
   | false=>
    go_wp2_with (at_builtin;refine zdF rfl _ _ rfl _ m2 rfl (zaa HX).2.1 (.slice y1 x.1.length e1) (.slice y2 x.2.length e2) x 1 rfl g1 g2 hsz (by omega) ?_)
    intro g9 cap9 w9 hov9 hf9 hg9
    obtain⟨la,hov,lo,hb⟩:=zaa HX
    have lo9:=lo.frm hf9 (fun hq=>by have:=(hov.2 _ hq).1;omega)
    have hb9:=hb.trans (hf9.below hb.size (fun q hq=>by have:=(hov.2 q hq).1;omega))
    have hlen:(m2++[x]).length=m2.length+1:=by simp
    rw [←hlen]at hov9
    have HE:=hide (And.intro hov9 (And.intro lo9 hb9))
    have HS3:=hide (zaa HS2 (m2++[x]) (by simp))
    have hml3:(m2++[x]).length≤2*(j+1):=by rw [hlen];omega
    rw [←hlen]
    generalize m2++[x]=m3 at *
    clear la hov lo hb lo9 hb9 hov9 hf9 hg9 HX hlen
    go_wp2_with fail
    go_roundw
    case rel=>exact⟨j+1,pt || q1,m3,by omega,by go_num,rfl,(zaa HE).1,hml3,zaa HS3,(zaa HE).2.1,(zaa HE).2.2⟩
    case measure=>simp [intOf];omega
  ·have hlt':¬ (j:Int)<(p.attrs.length:Int):=by omega
   have hje:p.attrs.drop j=[]:=List.drop_eq_nil_of_le (by omega)
   rw [hje]at hset
   have o9:wr.cell? ⟨w.heap.size,9,none⟩=some (.slice k2 o.name.length d2):=lo.cell 9
   have o10:wr.cell? ⟨w.heap.size,10,none⟩=some (.slice k3 o.text.length d3):=lo.cell 10
   have hsz:w.heap.size+1≤wr.heap.size:=by omega
   cases pt with
   | true=>
    replace hset:m=setA o.name o.text o.gone p.attrs:=by rw [hset];simp [setA]
    have yW:wr.cell? ⟨b,k*9+8,none⟩=some (.slice qa p.attrs.length qc):=(hb.cell (p:=⟨b,k*9+8,none⟩) hbl).trans z8
    obtain⟨_,_,_,_,_,_,_,_,_,eb9,_,_,_,_,_,_,_,_,_,_,_,_,hfz⟩:=((zaa HST).keep hb).cells hk
    injection eb9 with eb9
    injection eb9 with eb9 _ _
    subst eb9
    have fW:=hfz (k*9+8)
    by_cases h4:m.length≤4
    ·have h4':(m.length:Int)≤4:=by omega
     obtain⟨F',hst,hf,hFq⟩:=(zaa HST).attrs hk hb hov
     have hP:zbp o p={ p with attrs:=m }:=by unfold zbp setAttrs;rw [←hset,if_pos h4]
     have HE:=hide (show (∃F',StB w0 _ sb (some ⟨b,0,none⟩) c (l.set k (zbp o p)) F'∧∀q∈F',q∈F∨w.heap.size≤q)∧Frm w _ [b] from ⟨⟨F',by rw [hP];exact hst,hFq⟩,hf⟩)
     clear hFq
     clear hst hf hP hov hb lo hset HST hfz hk
     go_wp2_with fail
     go_end0
     exact⟨⟨_,rfl⟩,zaa HE⟩
    ·have h4':¬ (m.length:Int)≤4:=by omega
     have hP:zbp o p=p:=by unfold zbp setAttrs;rw [←hset,if_neg h4]
     have HE:=hide (show (∃F',StB w0 wr sb (some ⟨b,0,none⟩) c (l.set k (zbp o p)) F'∧∀q∈F',q∈F∨w.heap.size≤q)∧Frm w wr [b] from ⟨⟨F,by rw [hP];exact (zaa HST).same hk hb,fun q hq=>.inl hq⟩,Frm.ofBelow hb _⟩)
     clear hP hov hb lo hset HST hfz hk
     go_wp2_with fail
     go_end0
     exact⟨⟨_,rfl⟩,zaa HE⟩
   | false=>
    replace hset:m++[(o.name,o.text)]=setA o.name o.text o.gone p.attrs:=by rw [hset];simp [setA]
    have HX:=hide (And.intro hov (And.intro lo (And.intro hb hset)))
    clear hov lo hb hset
    go_wp2_with (at_builtin;refine zdF rfl _ _ rfl _ m rfl (zaa HX).1 (.slice k2 o.name.length d2) (.slice k3 o.text.length d3) (o.name,o.text) 1 rfl h2 h3 hsz (by omega) ?_)
    intro g9 cap9 w9 hov9 hf9 hg9
    obtain⟨hov,lo,hb0,hset⟩:=zaa HX
    have hb:=hb0.trans (hf9.below hb0.size (fun q hq=>by have:=(hov.2 q hq).1;omega))
    have hlen:(m++[(o.name,o.text)]).length=m.length+1:=by simp
    rw [←hlen]at hov9 ⊢
    generalize m++[(o.name,o.text)]=m3 at *
    clear hlen hf9 hg9 HX hov hb0 y8 o9 o10
    have hov:=hov9
    clear hov9
    have yW:w9.cell? ⟨b,k*9+8,none⟩=some (.slice qa p.attrs.length qc):=(hb.cell (p:=⟨b,k*9+8,none⟩) hbl).trans z8
    obtain⟨_,_,_,_,_,_,_,_,_,eb9,_,_,_,_,_,_,_,_,_,_,_,_,hfz⟩:=((zaa HST).keep hb).cells hk
    injection eb9 with eb9
    injection eb9 with eb9 _ _
    subst eb9
    have fW:=hfz (k*9+8)
    by_cases h4:m3.length≤4
    ·have h4':(m3.length:Int)≤4:=by omega
     obtain⟨F',hst,hf,hFq⟩:=(zaa HST).attrs hk hb hov
     have hP:zbp o p={ p with attrs:=m3 }:=by unfold zbp setAttrs;rw [←hset,if_pos h4]
     have HE:=hide (show (∃F',StB w0 _ sb (some ⟨b,0,none⟩) c (l.set k (zbp o p)) F'∧∀q∈F',q∈F∨w.heap.size≤q)∧Frm w _ [b] from ⟨⟨F',by rw [hP];exact hst,hFq⟩,hf⟩)
     clear hFq
     clear hst hf hP hov hb lo hset HST hfz hk
     go_wp2_with fail
     go_end0
     exact⟨⟨_,rfl⟩,zaa HE⟩
    ·have h4':¬ (m3.length:Int)≤4:=by omega
     have hP:zbp o p=p:=by unfold zbp setAttrs;rw [←hset,if_neg h4]
     have HE:=hide (show (∃F',StB w0 w9 sb (some ⟨b,0,none⟩) c (l.set k (zbp o p)) F'∧∀q∈F',q∈F∨w.heap.size≤q)∧Frm w w9 [b] from ⟨⟨F,by rw [hP];exact (zaa HST).same hk hb,fun q hq=>.inl hq⟩,Frm.ofBelow hb _⟩)
     clear hP hov hb lo hset HST hfz hk
     go_wp2_with fail
     go_end0
     exact⟨⟨_,rfl⟩,zaa HE⟩
end Go.Proofs.YtlpnibbdmkeklaaGreatDoor
namespace Go.Proofs.YtlpnibbdmkeklaaGreatDoor
open Go.RowKit
set_option linter.unusedVariables false
def todo:List Bool→Nat
 | []=>0
 | b::l=>(if b then 0 else 1)+todo l
theorem zkf:∀(l:List Bool) (i:Nat),l[i]? = some false→todo (l.set i true)+1=todo l
 | [],i,h=>by simp at h
 | b::l,0,h=>by
  have e:b=false:=by simpa using h
  subst e
  simp only [List.set_cons_zero,todo,if_true,Bool.false_eq_true,if_false]
  omega
 | b::l,i+1,h=>by
  have ih:=zkf l i (by simpa using h)
  simp only [List.set_cons_succ,todo]
  omega
theorem ziC:∀(l:List Bool),todo l=0→∀(i:Nat) (b:Bool),l[i]? = some b→b=true
 | [],_,i,b,h=>by simp at h
 | c::l,h0,0,b,h=>by
  have e:c=b:=by simpa using h
  subst e
  cases c with
  | true=>rfl
  | false=>simp [todo]at h0
 | c::l,h0,i+1,b,h=>ziC l (by simp only [todo]at h0;omega) i b (by simpa using h)
theorem zpH (n:Nat):todo (List.replicate n false)=n:=by
 induction n with
 | zero=>rfl
 | succ n ih=>rw [List.replicate_succ];simp only [todo,Bool.false_eq_true,if_false];omega
theorem zaj {md:Region.Mode} {ops:Array Oper} {L:Array Bool} {i:Nat} (hs:L.size=ops.size) (h:i∈Region.ready md ops L):L.toList[i]? = some false:=by
 unfold Region.ready at h
 rw [List.mem_filter,List.mem_range,Bool.and_eq_true]at h
 obtain⟨h1,h2,_⟩:=h
 have hi:i<L.size:=by omega
 rw [Array.getD_eq_getD_getElem?,Array.getElem?_eq_getElem hi]at h2
 rw [Array.getElem?_toList,Array.getElem?_eq_getElem hi]
 simpa using h2
theorem znp {md:Region.Mode} {ops:Array Oper} {L:Array Bool} (hs:L.size=ops.size) (h:todo L.toList=0):Region.ready md ops L=[]:=by
 rw [List.eq_nil_iff_forall_not_mem]
 intro i hi
 have:=ziC _ h i false (zaj hs hi)
 cases this
theorem zac {md:Region.Mode} {ops:Array Oper} {L:Array Bool} {i:Nat} {o:Oper} (h:i∈Region.ready md ops L) (ho:ops[i]? = some o) (j:Nat) (he:o.after.any (fun e=>Region.binds md e && e.on == j)=true):L.getD j false=true:=by
 unfold Region.ready at h
 rw [List.mem_filter,Bool.and_eq_true,ho]at h
 obtain⟨_,_,h3⟩:=h
 simp only [Option.map_some,Option.getD_some]at h3
 rw [Array.any_eq_true]at he
 obtain⟨k,hk,hb⟩:=he
 rw [Bool.and_eq_true,beq_iff_eq]at hb
 rw [Array.all_eq_true]at h3
 have:=h3 k hk
 rw [Bool.or_eq_true,hb.1,hb.2]at this
 simpa using this
theorem zcx {md:Region.Mode} {ops:Array Oper} {L:Array Bool} {i:Nat} (h:i∈Region.ready md ops L):i<ops.size:=by
 unfold Region.ready at h
 rw [List.mem_filter,List.mem_range]at h
 exact h.1
theorem zbF {md:Region.Mode} {ops:Array Oper} {L:Array Bool} (hs:L.size=ops.size) (hb:(List.range ops.size).all (fun i=>((ops[i]?).map fun o=>o.after.all fun e=> !Region.binds md e || decide (e.on<i)).getD true)=true)
  (h:Region.ready md ops L=[]):∀(n i:Nat),i<n→i<ops.size→L.getD i false=true
 | 0,i,hn,_=>by omega
 | n+1,i,hn,hi=>by
  by_cases hlt:i<n
  ·exact zbF hs hb h n i hlt hi
  have e:i=n:=by omega
  subst e
  have hL:i<L.size:=by omega
  by_cases hf:L.getD i false=true
  ·exact hf
  exfalso
  have hmem:i∈Region.ready md ops L:=by
   unfold Region.ready
   rw [List.mem_filter,List.mem_range,Bool.and_eq_true]
   refine⟨hi,?_,?_⟩
   ·rw [Array.getD_eq_getD_getElem?,Array.getElem?_eq_getElem hL]at hf ⊢
    simpa using hf
   ·have hbi:=List.all_eq_true.1 hb i (List.mem_range.2 hi)
    rw [Array.getElem?_eq_getElem hi]at hbi ⊢
    simp only [Option.map_some,Option.getD_some]at hbi ⊢
    rw [Array.all_eq_true]at hbi ⊢
    intro k hk
    have hk':=hbi k hk
    rw [Bool.or_eq_true]at hk' ⊢
    rcases hk' with hk' | hk'
    ·exact .inl hk'
    ·right
     have hlt':(ops[i].after[k]).on<i:=by simpa using hk'
     exact zbF hs hb h i _ hlt' (by omega)
  rw [h]at hmem
  cases hmem
variable {P:Program} {ops:Array Oper} {Q:Exit→Act→World→Prop}
theorem zlS {md:Region.Mode} (I:Array Bool→Act→World→Prop) (hsz:∀L a w,I L a w→L.size=ops.size)
  (hstep:∀L a w i o,I L a w→i∈Region.ready md ops L→ops[i]? = some o→if Region.wanted o (yielded ops a.tmps)=true then Oper.wp P o a w (I (L.setIfInBounds i true)) Q else I (L.setIfInBounds i true) (a.put o.dst undef) w)
  (hdone:∀L a w,I L a w→Region.ready md ops L=[]→Q .normal a w) :
  ∀(fuel:Nat) (L:Array Bool) (a:Act) (w:World),todo L.toList≤fuel→I L a w→wpAny P md ops Q fuel L a w
 | 0,L,a,w,hf,hI=>by
  have hr:=znp (md:=md) (hsz L a w hI) (by omega)
  exact⟨hr,hdone L a w hI hr⟩
 | fuel+1,L,a,w,hf,hI=>by
  refine⟨fun hr=>hdone L a w hI hr,fun i hi=> ?_⟩
  have ho:=zkf _ _ (zaj (hsz L a w hI) hi)
  have key:∀a' w',I (L.setIfInBounds i true) a' w'→wpAny P md ops Q fuel (L.setIfInBounds i true) a' w':=fun a' w' h'=>
   zlS I hsz hstep hdone fuel _ a' w' (by rw [Array.toList_setIfInBounds];omega) h'
  unfold wpOp
  cases hoi:ops[i]? with
  | none=>
   unfold Region.ready at hi
   rw [List.mem_filter,List.mem_range]at hi
   rw [Array.getElem?_eq_getElem hi.1]at hoi
   cases hoi
  | some o=>
   have hs:=hstep L a w i o hI hi hoi
   simp only []
   split
   ·rename_i hw
    rw [if_pos hw]at hs
    exact .inl (Oper.wp_mono key hs)
   ·rename_i hw
    rw [if_neg hw]at hs
    exact key _ _ hs
theorem zbN {id:Nat} {a:Act} {w:World} (hm:P.follows .mixedOrders=true) (I:Array Bool→Act→World→Prop) (hsz:∀L a w,I L a w→L.size=ops.size)
  (h0:I (Array.replicate ops.size false) a w.drew)
  (hstep:∀L a w i o,I L a w→i∈Region.ready .any ops L→ops[i]? = some o→if Region.wanted o (yielded ops a.tmps)=true then Oper.wp P o a w (I (L.setIfInBounds i true)) Q else I (L.setIfInBounds i true) (a.put o.dst undef) w)
  (hdone:∀L a w,I L a w→Region.ready .any ops L=[]→Q .normal a w):(Code.region id ops true).wp P Q a w:=
 wp_region_any hm (zlS I hsz hstep hdone _ _ _ _ (by rw [Array.toList_replicate,zpH];exact Nat.le_refl _) h0)
end Go.Proofs.YtlpnibbdmkeklaaGreatDoor
