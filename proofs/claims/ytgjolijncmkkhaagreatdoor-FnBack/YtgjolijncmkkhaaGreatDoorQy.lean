/- Own texts joined: ChunkI, CloneI, TextsI, CopyI, TidiedI, HeldA, HeldN, HeldT, LTidy, TidyI2. -/
import Derived.Test.YtgjolijncmkkhaaGreatDoorQa
import Derived.Test.YtgjolijncmkkhaaGreatDoorQb
import Derived.Test.YtgjolijncmkkhaaGreatDoorQc
import Derived.Test.YtgjolijncmkkhaaGreatDoorQe
import Derived.Test.YtgjolijncmkkhaaGreatDoorQf
import Derived.Test.YtgjolijncmkkhaaGreatDoorQp
import Derived.Test.YtgjolijncmkkhaaGreatDoorQq
import Derived.Test.YtgjolijncmkkhaaGreatDoorQx
import Derived.RegionIn
import Derived.Lib.BufferMore
import Derived.Deep.RegionLaw
import Derived.Deep.RegionHeld3
namespace Go.Proofs.YtgjolijncmkkhaaGreatDoor
open Go.RowKit Go.Shelf
set_option linter.unusedVariables false
set_option maxRecDepth 100000
abbrev Pc:Type:=Xl×Xg
def pc (b off:Nat) (l:Xg) (k:Nat):Pc:=(.slice (some ⟨b,off+30*k,none⟩) (min 30 (l.length-30*k)) (min 30 (l.length-30*k)),(l.drop (30*k)).take 30)
def pcs (b off:Nat) (l:Xg):List Pc:=(List.range ((l.length+29) / 30)).map (pc b off l)
def encP (x:Pc):Array Xl:= #[x.1]
theorem ziY (b off:Nat) (l:Xg):(pcs b off l).length=(l.length+29) / 30:=by simp [pcs]
theorem zyc (b off:Nat) (l:Xg) (j:Nat) (h:j<(l.length+29) / 30):(pcs b off l).take (j+1)=(pcs b off l).take j++[pc b off l j]:=by
 rw [List.take_succ_eq_append_getElem (by rw [ziY];exact h)]
 simp [pcs]
theorem zvq (w:Xk) (a:Xi) (n cap:Nat) :
  Calls Tryz.prog 113 #[.slice a n cap,.int .i64 30] w fun e w'=>e=.returned (.func (.func 151) #[] #[.pointer (some ⟨w.heap.size,0,none⟩),.pointer (some ⟨w.heap.size+1,0,none⟩)])∧
   w'=(w.alloc (.cells #[.slice a n cap] 22)).alloc (.cells #[.int .i64 30] 3):=by
 have Aa:∀(fn:Fn) (first cap:Array Xl) (w:Xk),(Instr.makeFunc fn first cap).run Tryz.prog w=.ok (.func fn first cap) w:=fun _ _ _ _=>rfl
 have l2:=Loc.made (w.alloc (.cells #[.slice a n cap] 22)) #[.int .i64 30] 3
 simp only [World.size_alloc]at l2
 have c2:((w.alloc (.cells #[.slice a n cap] 22)).alloc (.cells #[.int .i64 30] 3)).cell? ⟨w.heap.size+1,0,none⟩=some (.int .i64 30):=l2.cell 0
 go_enter Tryz.func113,Tryz.ntmps113
 go_wp2
 go_ret
 exact⟨rfl,rfl⟩
set_option maxHeartbeats 3200000 in
theorem zuD (w:Xk) (lp q:Nat) (Mt:Nat->Obj->Prop) (a:Xi) (b off cap:Nat) (l:Xg) (ha:l=[]∨a=some ⟨b,off,none⟩) (hcap:l.length<=cap) (hml:l.length<=1000000000)
  (hq:¬ Mt q (.cells #[.slice a l.length cap] 22 (0,0))) (hq1:¬ Mt (q+1) (.cells #[.int .i64 30] 3 (0,0)))
  (hl:Loc w q #[.slice a l.length cap] 22) (hl1:Loc w (q+1) #[.int .i64 30] 3) :
  zuH Tryz.prog 151 #[.pointer (some ⟨q,0,none⟩),.pointer (some ⟨q+1,0,none⟩)] encP (fun _=>False) Mt (pcs b off l) lp w:=by
 intro J Jx hJ hY n W hW Oa h0
 have l1:=hl.all hW
 have l2:=hl1.all hW
 refine callsIn_of_wp Tryz.func151 rfl trivial ?_ rfl
 simp only [Tryz.ntmps151,List.size_toArray,List.length_cons,List.length_nil,Nat.reduceAdd,Nat.reduceSub,Array.replicate_succ,Array.replicate_zero,List.push_toArray,List.append_toArray,List.nil_append,List.cons_append]
 have Pa:(l.length:Int)<=9223372036854775807:=by omega
 clear Oa hl hl1 hW
 have HY:=hide hY
 clear hY
 gi_wp2_with fail
 gi_loopw [4] (fun i wr=>∃j k:Nat,Hid (k=30*j)∧Hid (j<=(l.length+29) / 30)∧i=.int .i64 k∧J ((pcs b off l).take j) wr∧Frp Mt W wr) (fun i _=>(l.length+60)-(intOf i).toNat)
 case atStart=>exact⟨0,0,rfl,Nat.zero_le _,rfl,by simpa using h0,Frp.refl _ _⟩
 case round=>
  obtain⟨j,k,hk,Qa,rfl,Aa,Ba⟩:=hrel
  have c1:wr.cell? ⟨q,0,none⟩=some (.slice a l.length cap):=(l1.frp Ba hq).cell 0
  have c2:wr.cell? ⟨q+1,0,none⟩=some (.int .i64 30):=(l2.frp Ba hq1).cell 0
  by_cases hlt:k<l.length
  ·have La:(k:Int)<(l.length:Int):=by omega
   have ea:a=some ⟨b,off,none⟩:=by
    rcases ha with h | h
    ·subst h;simp at hlt
    ·exact h
   subst ea
   have d1:wr.drew.cell? ⟨q,0,none⟩=some (.slice (some ⟨b,off,none⟩) l.length cap):=c1
   have d2:wr.drew.cell? ⟨q+1,0,none⟩=some (.int .i64 30):=c2
   have Ia:j<(l.length+29) / 30:=by have:=zaa hk;omega
   have HP:=hide (zyc b off l j Ia)
   have HJ:=hide (show J ((pcs b off l).take j) wr.drew from hJ _ _ _ Aa (zgs ((Below.refl _ _).drew)))
   have k1:k<=l.length:=by omega
   have k2:l.length<=cap:=hcap
   have k3:k<=cap:=by omega
   clear Aa Ia ha
   gi_wp2_with fail
   gi_region
   obtain⟨e,he,Ha⟩:∃e:Nat,(if ((l.length-k:Nat):Int)<30 then ((l.length-k:Nat):Int) else 30)=(e:Int)∧e=min 30 (l.length-k):=⟨min 30 (l.length-k),by split<;>omega,rfl⟩
   rw [he]
   have n1:k+e<=l.length:=by omega
   have n2:k+e<=cap:=by omega
   have n3:((k:Int)+(e:Int))<=1000000000:=by omega
   have n0:0<e:=by omega
   have HX:=hide (show pc b off l j=(.slice (some ⟨b,off+k,none⟩) e e,(l.drop k).take 30) by
    have:=zaa hk
    unfold pc
    rw [<-this,<-Ha])
   have hy:=zaa HY (n-1) _ (pc b off l j) _ (zaa HJ) (by rw [<-zaa HP];exact List.take_prefix _ _)
   simp only [encP,zaa HX]at hy
   obtain⟨fn,Na,Ca,Ka,Ja,hR⟩:=hy
   clear he Ha
   gi_wp2_with fail
   refine⟨(fun h=>(by cases h)),?_⟩
   refine hR.mono ?_
   clear hR Ja
   have Fa:Hid ((pcs b off l).take j++[(.slice (some ⟨b,off+k,none⟩) e e,(l.drop k).take 30)]=(pcs b off l).take (j+1)):=by rw [zaa HP,zaa HX];rfl
   rintro e' W2 (⟨rfl,Ga,Ma⟩ | ⟨rfl,Da⟩)
   ·rw [zaa Fa]at Ga
    have F2:Frp Mt W W2:=Ba.trans ((Frp.ofBelow ((Below.refl _ _).drew) Mt).trans Ma)
    have e2:W2.cell? ⟨q+1,0,none⟩=some (.int .i64 30):=(l2.frp F2 hq1).cell 0
    clear c1 c2 d1 d2
    gi_wp2
    go_roundw
    case rel=>exact⟨j+1,k+30,(by have:=zaa hk;show k+30=30*(j+1);omega),(by have:=zaa hk;show j+1<=(l.length+29) / 30;omega),by go_num,Ga,F2⟩
    case measure=>simp [intOf];omega
   ·rw [zaa Fa]at Da
    gi_wp2
    first | go_end0 | (simp only [Exit.inBlock,Exit.then];refine bodyPost_ret (results_none rfl _ _ _) rfl ?_) | refine bodyPost_ret (results_none rfl _ _ _) rfl ?_
    exact⟨⟨_,rfl⟩,.inr ⟨_,List.take_prefix _ _,Da⟩⟩
  ·have Ra:¬ (k:Int)<(l.length:Int):=by omega
   have e:(pcs b off l).take j=pcs b off l:=List.take_of_length_le (by rw [ziY];have:=zaa hk;omega)
   rw [e]at Aa
   gi_wp2
   go_end0
   exact⟨⟨_,rfl⟩,.inl Aa⟩
end Go.Proofs.YtgjolijncmkkhaaGreatDoor
namespace Go.Proofs.YtgjolijncmkkhaaGreatDoor
open Go.RowKit
set_option linter.unusedVariables false
set_option maxRecDepth 100000
set_option maxHeartbeats 1600000 in
theorem zfU (w:Xk) (v:Xl) (l:Xg) (h:Byt w v l) (hl:l.length<=67108864) :
  Calls Tryz.prog 71 #[v] w fun e w'=>∃v',e=.returned v'∧Own w' w.heap.size v' l∧Below w.heap.size w w':=by
 by_cases hv:v=.slice none 0 0
 ·subst hv
  have Da:l=[]:=by
   obtain⟨a,c,e,_⟩:=h.shape
   injection e with _ e2 _
   exact List.eq_nil_of_length_eq_zero e2.symm
  subst Da
  have hq:=Lib.run_eql_slice_nil_nil (P:=Tryz.prog) w 0 0 Tryz.underlying22
  go_enter Tryz.func71,Tryz.ntmps71
  go_wp2_with fail
  go_ret
  exact⟨_,rfl,⟨zaI,World.ownsRow_nil _ _ _ _⟩,Below.refl _ _⟩
 ·obtain⟨x,c,rfl⟩:∃x c,v=.slice (some x) l.length c:=by
   obtain⟨_,_,⟨e,_⟩ | ⟨x,Aa,rfl,hc,rfl⟩ | ⟨p,Ga,Aa,rfl,_⟩⟩:=h
   ·exact absurd e hv
   ·exact⟨x,Aa,rfl⟩
   ·exact⟨_,Aa,rfl⟩
  have hq:=Lib.run_eql_slice_some_nil (P:=Tryz.prog) w x l.length c Tryz.underlying22
  go_enter Tryz.func71,Tryz.ntmps71
  go_wp2_with (at_builtin;refine zdU rfl _ _ rfl w.heap.size _ [] rfl (zxI w) _ l rfl (h.alloc _) ?c1 ?c2 ?_)
  case c1=>first | omega | (simp;omega)
  case c2=>simp
  intro v1 w1 Ca Ba
  have Fa:Below w.heap.size w w1:=zfm ((Below.refl _ _).alloc (Nat.le_refl _) _) Ba (fun g hg=>by simp [Value.ownBlock]at hg;omega)
  clear Ba
  go_wp2
  go_ret
  exact⟨_,rfl,Ca,Fa⟩
end Go.Proofs.YtgjolijncmkkhaaGreatDoor
namespace Go.Proofs.YtgjolijncmkkhaaGreatDoor
open Go.RowKit Go.Shelf
set_option linter.unusedVariables false
set_option maxRecDepth 100000
attribute [local go_sem] Oper.semAt_some
theorem nine {i:Nat} (h:i<10):i=0∨i=1∨i=2∨i=3∨i=4∨i=5∨i=6∨i=7∨i=8∨i=9:=by omega
def zjs:Xj:=[.int .i64 0,.slice none 0 0,.slice none 0 0,.slice none 0 0,.slice none 0 0]
def zuh (cl:Xl):Xj:=[.int .i64 1,.slice none 0 0,cl,.slice none 0 0,.slice none 0 0]
theorem zzW (A:Xj) (z0 z1 z2 z3 z4 a b c d e:Xl):(((((A++[z0,z1,z2,z3,z4]).set A.length a).set (A.length+1) b).set (A.length+2) c).set (A.length+3) d).set (A.length+4) e=A++[a,b,c,d,e]:=by
 simp
theorem zxs {w:Xk} {base g n cap k:Nat} {e:Xm} {size:Nat} {A:Xj} {z0 z1 z2 z3 z4:Xl} (h:w.ownsRow base e size (.slice (some ⟨g,0,none⟩) n cap) n (A++[z0,z1,z2,z3,z4])) (hk:k=A.length) (y0 y1 y2 y3 y4:Xl) :
  (((((w.setCell ⟨g,k,none⟩ y0).setCell ⟨g,k+1,none⟩ y1).setCell ⟨g,k+2,none⟩ y2).setCell ⟨g,k+3,none⟩ y3).setCell ⟨g,k+4,none⟩ y4).ownsRow base e size (.slice (some ⟨g,0,none⟩) n cap) n (A++[y0,y1,y2,y3,y4])∧
  w.grownBy (((((w.setCell ⟨g,k,none⟩ y0).setCell ⟨g,k+1,none⟩ y1).setCell ⟨g,k+2,none⟩ y2).setCell ⟨g,k+3,none⟩ y3).setCell ⟨g,k+4,none⟩ y4) (some g):=by
 subst hk
 obtain⟨r0,g0⟩:=h.stored A.length y0
 obtain⟨r1,g1⟩:=r0.stored (A.length+1) y1
 obtain⟨r2,g2⟩:=r1.stored (A.length+2) y2
 obtain⟨r3,g3⟩:=r2.stored (A.length+3) y3
 obtain⟨r4,g4⟩:=r3.stored (A.length+4) y4
 rw [zzW]at r4
 exact⟨r4,zaA (zaA (zaA (zaA g0 g1) g2) g3) g4⟩
theorem OwElems.pushF {α:Type} {R:Xk->Xj->α->Xh->Prop} (hRf:∀{w w':Xk} {S:Xh} {C:Xj} {x:α} {G:Xh},R w C x G->Frm w w' S->(∀g∈G,g∉S)->R w' C x G)
  {w w':Xk} {e:Xm} {size:Nat} {v:Xl} {l:List α} {Cs:List (Xj)} {Fs:List (Xh)} {C:Xj} {y:α} {G S:Xh} {g cap m:Nat}
  (h1:Cs.length=l.length) (h2:Fs.length=l.length) (h3:∀i (hi:i<l.length),(Cs.getD i []).length=size∧R w (Cs.getD i []) l[i] (Fs.getD i []))
  (hN:(FB v++Fs.flatten).Nodup) (hC:C.length=size) (hy:R w' C y G) (hGN:G.Nodup) (hG:∀q∈G,w.heap.size<=q∧q≠g) (hlt:∀q∈FB v++Fs.flatten,q<w.heap.size) (hm:m=l.length)
  (k1:w'.ownsRow 0 e size (.slice (some ⟨g,0,none⟩) (m+1) cap) (m+1) (Cs.flatten++C)) (hf:Frm w w' S) (hS:∀q∈Fs.flatten,q∉S) (k3:v.ownBlock=some g∨w.heap.size<=g) :
  OwElems w' e size (.slice (some ⟨g,0,none⟩) (m+1) cap) (l++[y]) (R w') (g::(Fs.flatten++G))∧(g::(Fs.flatten++G)).Nodup∧(∀q∈g::(Fs.flatten++G),q∈FB v++Fs.flatten∨w.heap.size<=q):=by
 subst hm
 have Aa:∀q∈Fs.flatten,q∉FB v:=fun q hq hv=>(List.nodup_append.1 hN).2.2 q hv q hq rfl
 refine⟨⟨Cs++[C],Fs++[G],by simp [h1],by simp [h2],fun i hi=> ?_,?_,?_⟩,?_,?_⟩
 ·by_cases hil:i<l.length
  ·have a:=h3 i hil
   have e1:(Cs++[C]).getD i []=Cs.getD i []:=by rw [List.getD_eq_getElem?_getD,List.getD_eq_getElem?_getD,List.getElem?_append_left (by omega)]
   have e2:(Fs++[G]).getD i []=Fs.getD i []:=by rw [List.getD_eq_getElem?_getD,List.getD_eq_getElem?_getD,List.getElem?_append_left (by omega)]
   rw [e1,e2,List.getElem_append_left hil]
   exact⟨a.1,hRf a.2 hf (fun q hq=>hS q (zaH hq))⟩
  ·have e0:i=l.length:=by simp at hi;omega
   subst e0
   have e1:(Cs++[C]).getD l.length []=C:=by rw [<-h1];simp
   have e2:(Fs++[G]).getD l.length []=G:=by rw [<-h2];simp
   rw [e1,e2]
   simp only [List.getElem_concat_length]
   exact⟨hC,hy⟩
 ·simp only [List.length_append,List.length_cons,List.length_nil,List.flatten_append,List.flatten_cons,List.flatten_nil,List.append_nil]
  exact k1
 ·simp [FB,Value.ownBlock]
 ·rw [List.nodup_cons]
  refine⟨fun hq=> ?_,List.nodup_append.2 ⟨(List.nodup_append.1 hN).2.1,hGN,fun a ha b hb Ba=> ?_⟩⟩
  ·rcases List.mem_append.1 hq with hq | hq
   ·rcases k3 with k3 | k3
    ·exact Aa g hq (by simp [FB,k3])
    ·have:=hlt g (List.mem_append_right _ hq);omega
   ·exact (hG g hq).2 rfl
  ·have:=hlt a (List.mem_append_right _ ha)
   have:=(hG b hb).1
   omega
 ·intro q hq
  rcases List.mem_cons.1 hq with rfl | hq
  ·rcases k3 with k3 | k3
   ·exact .inl (List.mem_append_left _ (by simp [FB,k3]))
   ·exact .inr k3
  ·rcases List.mem_append.1 hq with hq | hq
   ·exact .inl (List.mem_append_right _ hq)
   ·exact .inr (hG q hq).1
theorem zzJ {n:Nat} {w:Xk} {base:Nat} {cl:Xl} {l:Xg} (h:Own w base cl l):OwNode (n+1) w (zuh cl) (txtN n l) (FB cl):=
 ⟨.slice none 0 0,cl,.slice none 0 0,.slice none 0 0,[],[],rfl,by show (-9223372036854775808:Int)<=1;omega,by show (1:Int)<=9223372036854775807;omega,⟨zaI,World.ownsRow_nil _ _ _ _⟩,h.mono (Nat.zero_le _),OwElems.naught _ _ _ _,OwElems.naught _ _ _ _,by simp [FB,Value.ownBlock]⟩
theorem zth (b off:Nat):∀(n:Nat) (l:Xg),l.length<=n->(List.range ((l.length+29) / 30)).map (fun k=>(l.drop (30*k)).take 30)=cutL l
 | 0,l,h=>by
  have e:l=[]:=List.eq_nil_of_length_eq_zero (by omega)
  subst e;rfl
 | n+1,l,h=>by
  by_cases hl:l=[]
  ·subst hl;rfl
  have hp:0<l.length:=List.length_pos_iff.2 hl
  have ih:=zth b off n (l.drop 30) (by rw [List.length_drop];omega)
  rw [List.length_drop]at ih
  have e:(l.length+29) / 30=(l.length-30+29) / 30+1:=by omega
  rw [zcX l hl,<-ih,e,List.range_succ_eq_map,List.map_cons,List.map_map]
  congr 1
  refine List.map_congr_left (fun k _=> ?_)
  show (l.drop (30*(k+1))).take 30=((l.drop 30).drop (30*k)).take 30
  rw [List.drop_drop]
  congr 2
  omega
def TxA (V:Xk) (p1:Nat) (v1 pv:Xl) (m1:Nat) (pl:Xg) (t0 t1 t3 t4 t6 t7 t8:Xl) (L:Array Bool) (a:Act) (w:Xk):Prop:=
 ∃b0 b1 b2 b3 b4 b5 x9 x10 x11 x12 x13 x14,L = #[b0,b1,b2,b3,b4,b5,false,false,false,false]∧
  a={ tmps:= #[t0,t1,.pointer (some ⟨p1,0,none⟩),t3,t4,pv,t6,t7,t8,x9,x10,x11,x12,x13,x14,undef,undef,undef],defers:=[] }∧Below V.heap.size V w∧
  (b0=true->x9=v1)∧(b1=true->x10=pv)∧(b2=true->Own w V.heap.size x11 pl)∧(b3=true->b2=true∧x12=.agg #[.int .i64 1,.slice none 0 0,x11,.slice none 0 0,.slice none 0 0])∧(b4=true->x13=.int .i64 m1)∧
  (b5=true->∃z,V.heap.size<=z∧x14=.slice (some ⟨z,0,none⟩) 1 1∧Loc w z #[.int .i64 0,.slice none 0 0,.slice none 0 0,.slice none 0 0,.slice none 0 0] 29)
def TxB (V:Xk) (p1:Nat) (v1 pv:Xl) (m1:Nat) (pl:Xg) (Cs:Xj) (t0 t1 t3 t4 t6 t7 t8:Xl) (L:Array Bool) (a:Act) (w:Xk):Prop:=
 ∃b7 b8 b9 cl x14 x16 g' cap',L = #[true,true,true,true,true,true,true,b7,b8,b9]∧
  a={ tmps:= #[t0,t1,.pointer (some ⟨p1,0,none⟩),t3,t4,pv,t6,t7,t8,v1,pv,cl,.agg #[.int .i64 1,.slice none 0 0,cl,.slice none 0 0,.slice none 0 0],.int .i64 m1,x14,.slice (some ⟨g',0,none⟩) (m1+1) cap',x16,undef],defers:=[] }∧
  Frm V w (FB v1++[p1])∧(v1.ownBlock=some g'∨V.heap.size<=g')∧g'≠p1∧g' < w.heap.size∧
  (b7=true->x16=.pointer (some ⟨g',m1*5,none⟩))∧Own w V.heap.size cl pl∧
  w.ownsRow 0 29 5 (.slice (some ⟨g',0,none⟩) (m1+1) cap') (m1+1) (Cs++(if b8=true then zuh cl else zjs))∧
  Loc w p1 #[if b9=true then .slice (some ⟨g',0,none⟩) (m1+1) cap' else v1] 27
theorem zqO {w:Xk} {base b:Nat} {v u:Xl} {l:Xg} {g:Nat} {n cap:Nat} {xs:Xj} (ho:Own w b v l) (h:w.ownsRow base 29 5 (.slice (some ⟨g,0,none⟩) n cap) n xs):v.ownBlock≠some g:=by
 intro e
 obtain⟨Ca,hc⟩:=zbA ho.2 e
 obtain⟨Ba,Aa⟩:=zbA h (g:=g) rfl
 rw [hc]at Aa
 injection Aa with Aa
 injection Aa with _ Aa
 revert Aa
 decide
theorem zym {w:Xk} {b:Nat} {v:Xl} {l:Xg} {g:Nat} {cs:Array Xl} (ho:Own w b v l) (h:Loc w g cs 27):v.ownBlock≠some g:=by
 intro e
 obtain⟨Aa,hc⟩:=zbA ho.2 e
 unfold Loc at h
 rw [h]at hc
 injection hc with hc
 injection hc with _ hc
 revert hc
 decide
theorem zyZ {V w w':Xk} {v:Xl} {p g:Nat} (hF:Frm V w (FB v++[p])) (hg:v.ownBlock=some g∨V.heap.size<=g) (k:w.grownBy w' (some g)):Frm V w' (FB v++[p]):=by
 rcases hg with hg | hg
 ·exact hF.trans ((Frm.ofGrown k).mono (fun q hq=>by
   have e:g=q:=by simp at hq;exact hq.symm
   exact List.mem_append_left _ (by simp [FB,hg,e])))
 ·exact hF.new (Frm.ofGrown k) (fun q hq=>by
   have e:g=q:=by simp at hq;exact hq.symm
   rw [<-e];exact hg)
def TxI (V:Xk) (p1:Nat) (v1 pv:Xl) (m1:Nat) (pl:Xg) (Cs:Xj) (t0 t1 t3 t4 t6 t7 t8:Xl) (L:Array Bool) (a:Act) (w:Xk):Prop:=
 TxA V p1 v1 pv m1 pl t0 t1 t3 t4 t6 t7 t8 L a w∨TxB V p1 v1 pv m1 pl Cs t0 t1 t3 t4 t6 t7 t8 L a w
theorem Byt.sub {w:Xk} {b off cap:Nat} {l:Xg} (h:Byt w (.slice (some ⟨b,off,none⟩) l.length cap) l) (k e:Nat) (hk:k<l.length) (he:e=min 30 (l.length-k)):Byt w (.slice (some ⟨b,off+k,none⟩) e e) ((l.drop k).take 30):=by
 have Aa:((l.drop k).take 30).length=e:=by rw [List.length_take,List.length_drop];omega
 obtain⟨Da,hm,⟨e1,_⟩ | ⟨x,c,e1,_,e2⟩ | ⟨b',Ba,Ca,e1,h1,h2,h3,h4,h5⟩⟩:=h
 ·cases e1
 ·subst e2;simp at hk
 ·injection e1 with e1 _ e3
  injection e1 with e1
  injection e1 with e1 e2
  subst e1 e2 e3
  unfold maxLen at *
  refine⟨(Da.drop k).take 30,by rw [Aa];unfold maxLen;omega,.inr (.inr ⟨b,off+k,e,by rw [Aa],by rw [Aa];exact Nat.le_refl _,by unfold maxLen;omega,?_,h4,fun i hi=> ?_⟩)⟩
  ·intro h0
   rw [h0]at Aa
   simp at Aa
   omega
  ·rw [Aa]at hi
   have h6:=h5 (k+i) (by omega)
   rw [<-Nat.add_assoc]at h6
   rw [h6]
   congr 2
   rw [List.getD_eq_getElem?_getD,List.getD_eq_getElem?_getD,List.getElem?_take_of_lt (by omega),List.getElem?_drop]
set_option maxHeartbeats 3200000 in
theorem ziz (n:Nat) (w:Xk) (a:Xi) (m cap:Nat) (ra:Xi) (rb roff rc:Nat) (l:List (Tr (n+1))) (F:Xh) (rl:Xg) (h:OwKids (n+1) w (.slice a m cap) l F) (hN:F.Nodup) (hlt:∀g∈F,g<w.heap.size)
  (hra:rl=[]∨ra=some ⟨rb,roff,none⟩) (hrc:rl.length<=rc) (hr:∀w',Frm w w' (FB (.slice a m cap))->Byt w' (.slice ra rl.length rc) rl) (hl:l.length+rl.length<=8388608) :
  Calls Tryz.prog 73 #[.slice a m cap,.slice ra rl.length rc] w fun e w'=>∃v',e=.returned v'∧∃F',OwKids (n+1) w' v' (l++(cutL rl).map (txtN n)) F'∧F'.Nodup∧(∀q∈F',(q∈F∨w.heap.size<=q)∧q<w'.heap.size)∧Frm w w' (FB (.slice a m cap))∧(∀q∈FB v',q∈FB (.slice a m cap)∨w.heap.size<=q):=by
 refine (callsIn_wide (n:=5)).1 ?_
 refine callsIn_of_wp_marks Tryz.func73 rfl trivial ?_ rfl
 simp only [Tryz.ntmps73,List.size_toArray,List.length_cons,List.length_nil,Nat.reduceAdd,Nat.reduceSub,Array.replicate_succ,Array.replicate_zero,List.push_toArray,List.append_toArray,List.nil_append,List.cons_append]
 gi_wp2_with fail
 refine⟨trivial,?_⟩
 refine (callsIn_wide.2 (zvq _ _ _ _)).mono ?_
 rintro e W ⟨rfl,hW⟩
 have l0:Loc W w.heap.size #[.slice a m cap] 27:=by rw [hW];exact ((Loc.made w _ _).alloc _).alloc _
 obtain⟨l1,l2,Gb,ta⟩:=znV w _ _ _ _ _ _ W hW
 clear hW
 simp only [World.size_alloc]
 obtain⟨q1,q2,q3⟩:w.heap.size<w.heap.size+1∧w.heap.size+1<w.heap.size+1+1∧w.heap.size+1+1<W.heap.size:=by omega
 clear Gb
 generalize hp0:w.heap.size=p0 at *
 gi_wp2_with fail
 refine ziI (gf:=151) (lb:= #[.pointer (some ⟨p0+1,0,none⟩),.pointer (some ⟨p0+1+1,0,none⟩)]) (Bx:=fun _=>False) (Mt:=fun i o=>i=p0∨i=W.heap.size+1∨∃cs,o=.cells cs 29 (0,0)) (xs:=pcs rb roff rl) (encs:=encP) rfl (enters_of Tryz.func151 (by kernel_rfl) rfl)
  (fun _=>.inr (.inl rfl)) (fun q o hq hb hm=>hb)
  (zuD W _ (p0+1) _ ra rb roff rc rl hra hrc (by omega) (fun hm=>by
   rcases hm with h | h | ⟨cs',h⟩
   ·omega
   ·omega
   ·injection h with _ h2;revert h2;decide) (fun hm=>by
   rcases hm with h | h | ⟨cs',h⟩
   ·omega
   ·omega
   ·injection h with _ h2;revert h2;decide) l1 l2) (fun _=>rfl)
  (fun Ca V=>∃a1 m1 c1 F1,Loc V p0 #[.slice a1 m1 c1] 27∧OwKids (n+1) V (.slice a1 m1 c1) (l++Ca.map (fun x=>txtN n x.2)) F1∧F1.Nodup∧(∀q∈F1,q∈F∨W.heap.size+2<=q)∧(∀q∈FB (.slice a1 m1 c1),q∈FB (.slice a m cap)∨W.heap.size+2<=q)∧Frm w V (FB (.slice a m cap)))
  (fun Ca V=>False)
  (fun Ca A B row hs hg hr=>by
   obtain⟨a1,m1,c1,F1,h1,h2,h3,h4,h6,h5⟩:=hs
   have Ab:∀r,row=some r->r∉F1:=fun r e hF=>by
    rcases h4 r hF with h | h
    ·have:=hlt r h
     rcases hr r e with h | h<;>omega
    ·rcases hr r e with h | h<;>omega
   have hf:Frm A B row.toList:=Frm.ofGrown hg
   refine⟨a1,m1,c1,F1,h1.stay hg hr (by omega) (by omega),OwKids.frm h2 hf (fun g Wb ka=>Ab g (by simpa using ka) Wb),h3,h4,h6,h5.new hf (fun g ka=> ?_)⟩
   have e:row=some g:=by simpa using ka
   rcases hr g e with h | h<;>omega)
  (fun Ca A B row hs hg hr=>hs)
  ⟨a,m,cap,F,l0,by simpa using OwKids.frm h (Frm.ofBelow (by rw [hp0];exact ta) []) (fun _ _=>by simp),hN,fun q hq=>.inl hq,fun q hq=>.inl hq,Frm.ofBelow (by rw [hp0];exact ta) _⟩
  (fun x a' V=>a'={ tmps:= #[.slice a m cap,.slice ra rl.length rc,.pointer (some ⟨p0,0,none⟩),undef,.slice none 0 0,x.1,.slice ra rl.length rc,.func (.func 151) #[] #[.pointer (some ⟨p0+1,0,none⟩),.pointer (some ⟨p0+1+1,0,none⟩)],x.1,undef,undef,undef,undef,undef,undef,undef,undef,undef],defers:=[] })
  (fun x a' u A B row hs hg hr=>hs)
  ?assign ?body ?done ?stop
 case assign=>
  intro Ca x V K hi Yb hK
  obtain⟨xv,xl⟩:=x
  simp only [encP]at hK ⊢
  gi_wp2
  exact hK _ _ (Below.refl _ _) rfl
 case body=>
  rintro Ca x a' V ⟨a1,m1,c1,F1,h1,h2,h3,h4,h6,h5⟩ rfl pa da
  obtain⟨hk,Ib⟩:∃hk:Ca.length<(rl.length+29) / 30,x=pc rb roff rl Ca.length:=by
   have Rb:=pa.length_le
   rw [ziY,List.length_append,List.length_singleton]at Rb
   refine⟨by omega,?_⟩
   obtain⟨r,ya⟩:=pa
   have:(pcs rb roff rl)[Ca.length]? = some x:=by rw [<-ya];simp
   rw [List.getElem?_eq_getElem (by rw [ziY];omega)]at this
   simp [pcs]at this
   exact this.symm
  have gb:=hr V h5
  rcases hra with rfl | rfl
  ·simp at hk
  have wa:=gb.sub (30*Ca.length) (min 30 (rl.length-30*Ca.length)) (by omega) rfl
  have hX:x=(.slice (some ⟨rb,roff+30*Ca.length,none⟩) (min 30 (rl.length-30*Ca.length)) (min 30 (rl.length-30*Ca.length)),(rl.drop (30*Ca.length)).take 30):=Ib
  generalize min 30 (rl.length-30*Ca.length)=pn at *
  generalize roff+30*Ca.length=po at *
  have va:((rl.drop (30*Ca.length)).take 30).length<=30:=by rw [List.length_take];omega
  generalize (rl.drop (30*Ca.length)).take 30=pl at *
  subst hX
  obtain⟨Cs,Fs,e1,e2,e3,e4,e5⟩:=h2
  have Wa:m1=(l++Ca.map (fun x=>txtN n x.2)).length:=by
   obtain⟨_,_,e⟩:=zbS e4
   injection e
  rw [<-Wa]at e4
  have nb:m1<=16777216:=by rw [Wa,List.length_append,List.length_map];omega
  have ua:=hide Wa
  clear Wa
  obtain⟨i0,Zb,Kb,fb,Tb⟩:=info_parts Tryz.info29
  gi_wp2_with fail
  refine zpx (by kernel_rfl) ?nd (TxI V p0 (.slice a1 m1 c1) (.slice (some ⟨rb,po,none⟩) pn pn) m1 pl Cs.flatten (.slice a m cap) (.slice (some ⟨rb,roff,none⟩) rl.length rc) undef (.slice none 0 0) (.slice (some ⟨rb,roff,none⟩) rl.length rc) (.func (.func 151) #[] #[.pointer (some ⟨p0+1,0,none⟩),.pointer (some ⟨p0+1+1,0,none⟩)]) (.slice (some ⟨rb,po,none⟩) pn pn)) ?sz ?h0 ?step ?dn
  case nd=>
   intro o ho c hc
   simp at ho
   rcases ho with rfl | rfl | rfl | rfl | rfl | rfl | rfl | rfl | rfl | rfl<;>cases hc
  case sz=>
   rintro L a w (⟨b0,b1,b2,b3,b4,b5,x9,Na,Ga,Ja,Ka,Da,rfl,_⟩ | ⟨b7,b8,b9,cl,Da,Ta,g',Ba,rfl,_⟩)<;>rfl
  case h0=>exact .inl ⟨false,false,false,false,false,false,undef,undef,undef,undef,undef,undef,rfl,rfl,(Below.refl _ _).drew,by simp,by simp,by simp,by simp,by simp,by simp⟩
  case step=>
   intro L a w i o hI hi ho
   have Ia:i<10:=zft hi
   rcases hI with ⟨b0,b1,b2,b3,b4,b5,x9,Na,Ga,Ja,Ka,Da,rfl,rfl,hB,f0,f1,f2,f3,f4,f5⟩ | ⟨b7,b8,b9,cl,Da,Ta,g',Ba,rfl,rfl,hF,Ma,Qa,Sa,f7,Ha,Aa,Fa⟩
   ·rcases nine Ia with rfl | rfl | rfl | rfl | rfl | rfl | rfl | rfl | rfl | rfl
    ·obtain rfl:=Option.some.inj ho
     have c0:w.cell? ⟨p0,0,none⟩=some (.slice a1 m1 c1):=(h1.all hB).cell 0
     go_simp
     exact .inl ⟨true,b1,b2,b3,b4,b5,_,Na,Ga,Ja,Ka,Da,rfl,rfl,hB,fun _=>rfl,f1,f2,f3,f4,f5⟩
    ·obtain rfl:=Option.some.inj ho
     go_simp
     exact .inl ⟨b0,true,b2,b3,b4,b5,x9,_,Ga,Ja,Ka,Da,rfl,rfl,hB,f0,fun _=>rfl,f2,f3,f4,f5⟩
    ·have p1:=zai hi ho 1
     obtain rfl:=Option.some.inj ho
     have Sb:=f1 (p1 (by kernel_rfl))
     subst Sb
     have na:b2=false:=by simpa using zao rfl hi
     go_simp
     refine (zfU w _ pl (wa.keep hB) (by omega)).mono ?_
     rintro e w' ⟨v',rfl,Pb,oa⟩
     exact .inl ⟨b0,b1,true,b3,b4,b5,x9,_,v',Ja,Ka,Da,rfl,rfl,zal hB oa,f0,f1,fun _=>Pb.mono hB.size,(fun h=>by rw [(f3 h).1]at na;cases na),f4,(fun h=>by obtain⟨z,q1,q2,q3⟩:=f5 h;exact⟨z,q1,q2,q3.all oa⟩)⟩
    ·have p2:=zai hi ho 2
     obtain rfl:=Option.some.inj ho
     have e2:b2=true:=p2 (by kernel_rfl)
     obtain⟨ca,cc,cb,_,_⟩:=(f2 e2).byt.shape
     subst cb e2
     go_simp
     exact .inl ⟨b0,b1,true,true,b4,b5,x9,Na,_,_,Ka,Da,rfl,rfl,hB,f0,f1,f2,fun _=>⟨rfl,rfl⟩,f4,f5⟩
    ·have Bb:=zai hi ho 0
     obtain rfl:=Option.some.inj ho
     have e9:=f0 (Bb (by kernel_rfl))
     subst e9
     go_simp
     exact .inl ⟨b0,b1,b2,b3,true,b5,_,Na,Ga,Ja,_,Da,rfl,rfl,hB,f0,f1,f2,f3,fun _=>rfl,f5⟩
    ·obtain rfl:=Option.some.inj ho
     have qa:Below w.heap.size w (w.alloc (.cells #[.int .i64 0,.slice none 0 0,.slice none 0 0,.slice none 0 0,.slice none 0 0] 29)):=(Below.refl _ _).alloc (Nat.le_refl _) _
     go_simp
     exact .inl ⟨b0,b1,b2,b3,b4,true,x9,Na,Ga,Ja,Ka,_,rfl,rfl,zal hB qa,f0,f1,fun h=>(f2 h).keep qa,f3,f4,fun _=>⟨w.heap.size,hB.size,rfl,Loc.made w _ _⟩⟩
    ·have g0:=zai hi ho 0
     have g1:=zai hi ho 1
     have g2:=zai hi ho 2
     have g3:=zai hi ho 3
     have g4:=zai hi ho 4
     have g5:=zai hi ho 5
     obtain rfl:=Option.some.inj ho
     have s0:b0=true:=g0 (by kernel_rfl)
     have s1:b1=true:=g1 (by kernel_rfl)
     have s2:b2=true:=g2 (by kernel_rfl)
     have s3:b3=true:=g3 (by kernel_rfl)
     have s4:b4=true:=g4 (by kernel_rfl)
     have s5:b5=true:=g5 (by kernel_rfl)
     obtain⟨z,z1,z2,z3⟩:=f5 s5
     have y0:=f0 s0
     have y1:=f1 s1
     have y2:=f2 s2
     have y3:=(f3 s3).2
     have y4:=f4 s4
     subst s0 s1 s2 s3 s4 s5 y0 y1 y3 y4 z2
     have fa:=zbG e4 (Frm.ofBelow hB []) (fun _ _=>by simp)
     refine step_append_lies w rfl (.tmp 9) (.tmp 14) 27 rfl 0 29 i0 (.agg #[.int .i64 0,.slice none 0 0,.slice none 0 0,.slice none 0 0,.slice none 0 0]) 5 104 Tryz.underlying27 Zb Kb fb Tb rfl (by decide) (.slice a1 m1 c1) m1 Cs.flatten rfl fa ⟨z,0,none⟩ 1 1 zjs rfl rfl (fun j u hu=>World.news_of_block z3 j u (by simpa [zjs]using hu)) (by intro y hy;simp [zjs]at hy;rcases hy with rfl | rfl<;>rfl) (by omega) (by unfold maxLen;omega) (by omega) (Nat.zero_le _) w.heap.size rfl ?_
     intro g' Ba w' k1 k2 k3 k4
     have Ua:=h1.all hB
     have ga:=Frm.ofGrown k2
     have la:∀g,(Value.slice a1 m1 c1).ownBlock=some g->g≠p0:=fun g hg e=>by
      obtain⟨Za,hc⟩:=zbA fa hg
      subst e
      unfold Loc at Ua
      rw [Ua]at hc
      injection hc with hc
      injection hc with _ hc
      revert hc
      decide
     have ha:Loc w' p0 #[.slice a1 m1 c1] 27:=Ua.frm ga (fun hg=>la p0 (by simpa using hg) rfl)
     have Ya:Own w' V.heap.size Ga pl:=y2.frm ga (fun g hg Lb=>by
      have q1:Ga.ownBlock=some g:=by simpa [FB]using hg
      have q2:(Value.slice a1 m1 c1).ownBlock=some g:=by simpa using Lb
      obtain⟨Za,hc⟩:=zbA fa q2
      obtain⟨Fb,Pa⟩:=zbA y2.2 q1
      rw [hc]at Pa
      injection Pa with Pa
      injection Pa with _ Pa
      revert Pa
      decide)
     refine .inr ⟨false,false,false,Ga,_,undef,g',Ba,rfl,rfl,(Frm.ofBelow hB _).trans (ga.mono (fun g hg=>List.mem_append_left _ (by simpa [FB]using hg))),?_,?_,k4,by simp,Ya,k1,ha⟩
     ·rcases k3 with k3 | k3
      ·exact .inl k3
      ·right;rw [k3];exact hB.size
     ·rcases k3 with k3 | k3
      ·exact la g' k3
      ·have:=Ua.lt;omega
    all_goals
     have g6:=zai hi ho 6
     have s6:false=true:=g6 (by obtain rfl:=Option.some.inj ho;kernel_rfl)
     cases s6
   ·rcases nine Ia with rfl | rfl | rfl | rfl | rfl | rfl | rfl | rfl | rfl | rfl
    any_goals (have La:=zao rfl hi;simp at La;done)
    ·obtain rfl:=Option.some.inj ho
     go_simp
     rw [if_pos (by omega)]
     exact .inr ⟨true,b8,b9,cl,Da,_,g',Ba,rfl,rfl,hF,Ma,Qa,Sa,fun _=>rfl,Ha,Aa,Fa⟩
    ·have g7:=zai hi ho 7
     have Eb:b8=false:=by simpa using zao rfl hi
     obtain rfl:=Option.some.inj ho
     have s7:b7=true:=g7 (by kernel_rfl)
     have Nb:=f7 s7
     subst s7 Nb Eb
     have ma:Cs.flatten.length=m1*5:=e4.1
     replace Aa:w.ownsRow 0 29 5 (.slice (some ⟨g',0,none⟩) (m1+1) Ba) (m1+1) (Cs.flatten++zjs):=Aa
     have ce:∀j,j<5->w.cell? ⟨g',m1*5+j,none⟩=zjs[j]? :=fun j hj=>by
      rw [Aa.cellAt (m1*5+j) (by omega),List.getElem?_append_right (by omega),ma]
      congr 1
      omega
     have y0:w.cell? ⟨g',m1*5,none⟩=some (.int .i64 0):=ce 0 (by omega)
     have y1:w.cell? ⟨g',m1*5+1,none⟩=some (.slice none 0 0):=ce 1 (by omega)
     have y2:w.cell? ⟨g',m1*5+2,none⟩=some (.slice none 0 0):=ce 2 (by omega)
     have y3:w.cell? ⟨g',m1*5+3,none⟩=some (.slice none 0 0):=ce 3 (by omega)
     have y4:w.cell? ⟨g',m1*5+4,none⟩=some (.slice none 0 0):=ce 4 (by omega)
     clear ce
     have z0:=Aa.frozenAt (m1*5)
     have z1:=Aa.frozenAt (m1*5+1)
     have z2:=Aa.frozenAt (m1*5+2)
     have z3:=Aa.frozenAt (m1*5+3)
     have z4:=Aa.frozenAt (m1*5+4)
     obtain⟨ca,cc,Hb,_,_⟩:=Ha.byt.shape
     obtain⟨r5,Va⟩:=zxs (k:=m1*5) Aa ma.symm (.int .i64 1) (.slice none 0 0) cl (.slice none 0 0) (.slice none 0 0)
     have ia:=Ha.keepBy Va (.inr (zqO (u:=cl) Ha Aa))
     have ba:=Fa.grown Va (fun e=>Qa (by simpa using e))
     have za:=zyZ hF Ma Va
     subst Hb
     generalize pl.length=np at *
     go_simp
     exact .inr ⟨true,true,b9,_,Da,_,g',Ba,rfl,rfl,za,Ma,Qa,Nat.lt_of_lt_of_le Sa Va.size,fun _=>rfl,ia,r5,ba⟩
    ·have Ob:b9=false:=by simpa using zao rfl hi
     obtain rfl:=Option.some.inj ho
     subst Ob
     replace Fa:Loc w p0 #[.slice a1 m1 c1] 27:=Fa
     have y0:w.cell? ⟨p0,0,none⟩=some (.slice a1 m1 c1):=Fa.cell 0
     have z0:=Fa.frozen 0
     have gr:=grownBy_setCell' w p0 (.slice (some ⟨g',0,none⟩) (m1+1) Ba)
     have aa:=Ha.keepBy gr (.inr (zym Ha Fa))
     have Ra:=Aa.kept gr (.inr (fun e=>Qa (by simpa [Value.ownBlock]using e)))
     have Ub:Frm V _ (FB (.slice a1 m1 c1)++[p0]):=hF.trans ((Frm.ofGrown gr).mono (fun q hq=>List.mem_append_right _ (by simpa using hq)))
     have ea:=Fa.set 0 (.slice (some ⟨g',0,none⟩) (m1+1) Ba)
     go_simp
     exact .inr ⟨b7,b8,true,cl,Da,Ta,g',Ba,rfl,rfl,Ub,Ma,Qa,Nat.lt_of_lt_of_le Sa gr.size,f7,aa,Ra,ea⟩
  case dn=>
   intro L a w2 hI kb
   have Oa:=zcm (L:=L) (by rcases hI with ⟨b0,b1,b2,b3,b4,b5,x9,Na,Ga,Ja,Ka,Da,rfl,_⟩ | ⟨b7,b8,b9,cl,Da,Ta,g',Ba,rfl,_⟩<;>rfl) (by kernel_rfl) kb 10
   rcases hI with ⟨b0,b1,b2,b3,b4,b5,x9,Na,Ga,Ja,Ka,Da,rfl,_⟩ | ⟨b7,b8,b9,cl,Da,Ta,g',Ba,rfl,rfl,hF,Ma,Qa,Sa,f7,Ha,Aa,Fa⟩
   ·have:=Oa 6 (by omega) (by decide)
    cases this
   ·have s8:b8=true:=Oa 8 (by omega) (by decide)
    have s9:b9=true:=Oa 9 (by omega) (by decide)
    subst s8 s9
    replace Aa:w2.ownsRow 0 29 5 (.slice (some ⟨g',0,none⟩) (m1+1) Ba) (m1+1) (Cs.flatten++zuh cl):=Aa
    replace Fa:Loc w2 p0 #[.slice (some ⟨g',0,none⟩) (m1+1) Ba] 27:=Fa
    have Yb:W.heap.size+2<=V.heap.size:=da
    have xa:∀q∈F1,q<V.heap.size:=OwElems.lt (R:=OwNode (n+1) V) ⟨Cs,Fs,e1,e2,e3,by rw [<-zaa ua];exact e4,e5⟩ (fun C x G h=>OwNode.lt h)
    have Xa:∀q∈F1,q≠p0∧q≠W.heap.size∧q≠W.heap.size+1:=fun q hq=>by
     rcases h4 q hq with h | h
     ·have:=hlt q h;omega
     ·omega
    have Jb:∀q∈FB (.slice a1 m1 c1),q∈F1:=fun q hq=>by rw [e5];exact List.mem_append_left _ hq
    have La:∀i,i≠p0->i∉F1->i∉FB (.slice a1 m1 c1)++[p0]:=fun i h h' hm=>by
     rcases List.mem_append.1 hm with hm | hm
     ·exact h' (Jb i hm)
     ·exact h (by simpa using hm)
    have sa:∀i,i<V.heap.size->i≠p0->i∉F1->w2.heap[i]? = V.heap[i]? :=fun i hi h h'=>hF.block i hi (La i h h')
    obtain⟨db,Qb,eb⟩:=OwElems.pushF (R:=OwNode (n+1)) (fun h f d=>OwNode.frm h f d) (y:=txtN n pl) (G:=FB cl) e1 e2 e3 (by rw [<-e5];exact h3) rfl (zzJ Ha) (zaU _) (fun q hq=>⟨(Ha.lt q (by simpa [FB]using hq)).1,fun e=>zqO (u:=cl) Ha Aa (by rw [<-e];simpa [FB]using hq)⟩) (fun q hq=>xa q (by rw [e5];exact hq)) (zaa ua) Aa hF (fun q hq Xb=>by
     have bb:q∈F1:=by rw [e5];exact List.mem_append_right _ hq
     rcases List.mem_append.1 Xb with h | h
     ·rw [e5]at h3
      exact (List.nodup_append.1 h3).2.2 q h q hq rfl
     ·exact (Xa q bb).1 (by simpa using h)) Ma
    refine⟨⟨sa _ (by omega) (by omega) (fun h=>(Xa _ h).2.1 rfl),sa _ (by omega) (by omega) (fun h=>(Xa _ h).2.2 rfl)⟩,Frp.ofFrm hF (fun g hg o ho=> ?_),_,_,_,_,Fa,by rw [List.map_append,<-List.append_assoc];exact db,Qb,fun q hq=> ?_,fun q hq=> ?_,?_⟩
    ·rcases List.mem_append.1 hg with hg | hg
     ·obtain⟨Za,hc⟩:=zbA e4 (g:=g) (by simpa [FB]using hg)
      rw [hc]at ho
      cases ho
      exact .inr (.inr ⟨Za,rfl⟩)
     ·exact .inl (by simpa using hg)
    ·rcases eb q hq with h | h
     ·exact h4 q (by rw [e5];exact h)
     ·right;omega
    ·have e:q=g':=by simpa [FB,Value.ownBlock]using hq
     rw [e]
     rcases Ma with h | h
     ·exact h6 g' (by simp [FB,h])
     ·right;omega
    ·refine⟨hF.os.trans h5.os,hF.tape.trans h5.tape,hF.output.trans h5.output,Nat.le_trans h5.size hF.size,fun i hi hn=> ?_⟩
     have ab:=h5.size
     refine (hF.block i (by omega) (fun hm=> ?_)).trans (h5.block i hi hn)
     rcases List.mem_append.1 hm with hm | hm
     ·rcases h6 i hm with h | h
      ·exact hn h
      ·omega
     ·have:i=p0:=by simpa using hm
      omega
 case done=>
  rintro V ⟨a1,m1,c1,F1,h1,h2,h3,h4,h6,h5⟩ hD
  have y0:V.cell? ⟨p0,0,none⟩=some (.slice a1 m1 c1):=h1.cell 0
  have Vb:(pcs rb roff rl).map (fun x=>txtN n x.2)=(cutL rl).map (txtN n):=by
   rw [<-zth rb roff rl.length rl (Nat.le_refl _),pcs,List.map_map,List.map_map]
   rfl
  rw [Vb]at h2
  gi_wp2
  refine⟨by simp,.inl ⟨_,_,rfl,run_takeDeferred hD,?_⟩⟩
  have gr:=grownBy_putObj' V W.heap.size (.deferred none)
  have Cb:∀q∈F1,q∉(some W.heap.size).toList:=fun q hq hm=>by
   have e:q=W.heap.size:=by simpa using hm
   rcases h4 q hq with h | h
   ·have:=hlt q h;omega
   ·omega
  have ja:∀q∈(some W.heap.size).toList,w.heap.size<=q:=fun q hq=>by
   have e:q=W.heap.size:=by simpa using hq
   omega
  have ib:∀x,x=Value.slice a1 m1 c1->∀Y,Frm V Y (some W.heap.size).toList->V.heap.size<=Y.heap.size->∃v',Ending.returned x=.returned v'∧∃F',OwKids (n+1) Y v' (l++(cutL rl).map (txtN n)) F'∧F'.Nodup∧(∀q∈F',(q∈F∨w.heap.size<=q)∧q<Y.heap.size)∧Frm w Y (FB (.slice a m cap))∧(∀q∈FB v',q∈FB (.slice a m cap)∨w.heap.size<=q):=by
   intro x hx Y hY Db
   subst hx
   refine⟨_,rfl,F1,OwKids.frm h2 hY Cb,h3,fun q hq=>⟨?_,?_⟩,h5.new hY ja,fun q hq=>(h6 q hq).imp id (fun h=>by omega)⟩
   ·rcases h4 q hq with h | h
    ·exact .inl h
    ·right;omega
   ·exact Nat.lt_of_lt_of_le (OwElems.lt h2 (fun C x G h=>OwNode.lt h) q hq) Db
  refine⟨_,results_tmp rfl _ _ _,?_⟩
  exact ib _ rfl _ (Frm.ofGrown gr) gr.size
 case stop=>
  rintro Ca V jb h hD
  exact h.elim
end Go.Proofs.YtgjolijncmkkhaaGreatDoor
namespace Go.Proofs.YtgjolijncmkkhaaGreatDoor
open Go.RowKit
set_option linter.unusedVariables false
set_option maxRecDepth 100000
theorem zAS (w:Xk) (x y:Xl) (T:Xm):∀(j:Nat) (u:Xl),[x,y][j]? = some u->(w.alloc (.cells #[x,y] T)).cell? ((⟨w.heap.size,0,none⟩:Addr).add j)=some u:=by
 intro j u hu
 exact World.news_of_block (heap_alloc_new w (.cells #[x,y] T)) j u (by simpa using hu)
theorem zyL {w w':Xk} {b b':Nat} {u v:Xl} {l m:Xg} (h:Own w b u l) (k:Own w' b' v m) (hs:w.heap.size<=b'):(FB u++FB v).Nodup∧∀q∈FB u++FB v,q<w'.heap.size∨q<w.heap.size:=by
 refine⟨List.nodup_append.2 ⟨?_,?_,?_⟩,?_⟩
 ·unfold FB;cases u.ownBlock<;>simp
 ·unfold FB;cases v.ownBlock<;>simp
 ·intro a ha c hc e
  have h1:=(h.lt a (by simpa [FB]using ha)).2
  have h2:=(k.lt c (by simpa [FB]using hc)).1
  omega
 ·intro q hq
  rcases List.mem_append.1 hq with hq | hq
  ·exact .inr (h.lt q (by simpa [FB]using hq)).2
  ·exact .inl (k.lt q (by simpa [FB]using hq)).2
theorem zzi {w0n:Nat} {wr w2 w3:Xk} {b2:Nat} {v v2 v3:Xl} {l:List (Xg×Xg)} {x1 x2:Xg} {F:Xh} (hE:Below wr.heap.size wr w3) (h2:Own w2 b2 v2 x1) (hB3:Below w2.heap.size w2 w3) (h3:Own w3 w2.heap.size v3 x2) (hs:wr.heap.size<w2.heap.size)
  (hF:OwElems wr 132 2 v l (OwAttr wr) F) (hR:Rng F w0n wr.heap.size) (hb2:wr.heap.size<b2) {A:Array Xl} {T:Xm} :
  OwElems (w3.alloc (.cells A T)) 132 2 v l (OwAttr (w3.alloc (.cells A T))) F∧OwAttr (w3.alloc (.cells A T)) [v2,v3] (x1,x2) (FB v2++FB v3)∧(FB v2++FB v3).Nodup∧(∀g∈F,g∉FB v2++FB v3)∧(∀q,q∈F∨q∈FB v2++FB v3->q<(w3.alloc (.cells A T)).heap.size)∧(wr.heap.size∉FB v)∧(∀q∈FB v,q∈F)∧(∀q∈FB v2++FB v3,wr.heap.size<q):=by
 have Fa:Below wr.heap.size wr (w3.alloc (.cells A T)):=zal hE ((Below.refl _ _).alloc (Nat.le_refl _) _)
 have Ba:Own (w3.alloc (.cells A T)) b2 v2 x1:=(h2.keep hB3).alloc _
 have Da:Own (w3.alloc (.cells A T)) w2.heap.size v3 x2:=h3.alloc _
 have Ca:∀g∈F,g<wr.heap.size:=fun g hg=>(hR g hg).2
 obtain⟨nd,_⟩:=zyL h2 h3 (Nat.le_refl _)
 have Aa:∀q∈FB v2++FB v3,wr.heap.size<q∧q<(w3.alloc (.cells A T)).heap.size:=by
  intro q hq
  rcases List.mem_append.1 hq with hq | hq
  ·have:=Ba.lt q (by simpa [FB]using hq);omega
  ·have:=Da.lt q (by simpa [FB]using hq);have:=(h2.lt);have h5:=hs;exact⟨by have:=Ba.lt;omega,by omega⟩
 refine⟨OwAttrs.frm hF (Frm.ofBelow Fa []) (fun _ _=>by simp),⟨v2,v3,rfl,Ba.mono (Nat.zero_le _),Da.mono (Nat.zero_le _),rfl⟩,nd,fun g hg Ga=>by have:=Ca g hg;have:=(Aa g Ga).1;omega,fun q hq=> ?_,fun hq=> ?_,fun q hq=> ?_,fun q hq=>(Aa q hq).1⟩
 ·rcases hq with hq | hq
  ·have:=Ca q hq;have:=Fa.size;omega
  ·exact (Aa q hq).2
 ·obtain⟨_,_,_,_,_,h5,rfl⟩:=hF
  have:=Ca _ (List.mem_append_left _ hq)
  omega
 ·obtain⟨_,_,_,_,_,h5,rfl⟩:=hF
  exact List.mem_append_left _ hq
set_option maxHeartbeats 6400000 in
theorem zoK (w:Xk) (v:Xl) (l:List (Xg×Xg)) (h:RdAttrs w v l) (hl:l.length<=4194304) (hx:∀x∈l,x.1.length<=4194304∧x.2.length<=4194304) :
  Calls Tryz.prog 72 #[v] w fun e w'=>∃u,e=.returned u∧∃F,OwAttrs w' u l F∧F.Nodup∧Rng F w.heap.size w'.heap.size∧Below w.heap.size w w':=by
 obtain⟨ad,cd,rfl,_,_⟩:=Elems.shape h
 obtain⟨i0,hi,ia,la,ba⟩:=info_parts Tryz.info132
 have hm:(l.length:Int)<=9223372036854775807:=by omega
 go_enter Tryz.func72,Tryz.ntmps72
 go_wp2_with fail
 go_loopw [3,8] (fun b i wr=>∃j:Nat,j<=l.length∧i=.int .i64 j∧∃F,OwAttrs wr b (l.take j) F∧F.Nodup∧Rng F w.heap.size wr.heap.size∧Below w.heap.size w wr) (fun _ i _=>l.length-(intOf i).toNat)
 case atStart=>exact⟨0,Nat.zero_le _,rfl,[],⟨[],[],by simp,by simp,fun i hi=>by simp at hi,World.ownsRow_nil _ _ _ _,rfl⟩,List.nodup_nil,fun g hg=>by simp at hg,Below.refl _ _⟩
 case round=>
  obtain⟨j,hj,rfl,F,hF,hN,Fa,hB⟩:=hrel
  by_cases hjl:j<l.length
  ·have Ha:l.take (j+1)=l.take j++[l[j]]:=List.take_succ_eq_append_getElem hjl
   obtain⟨pb,Ba,rfl,Pa,ma,_,C,hC,Aa,Sa⟩:=h.at hjl
   clear ma
   have ha:=hx l[j] (List.getElem_mem hjl)
   obtain⟨x,Xa⟩:∃x,x=l[j]:=⟨_,rfl⟩
   rw [<-Xa]at Sa Ha ha
   obtain⟨y0,y1,rfl,Va,Qa⟩:=Sa
   have q0:=Aa 0 (by omega)
   have q1:=Aa 1 (by omega)
   simp only [List.getElem?_cons_zero,List.getElem?_cons_succ,Nat.add_zero]at q0 q1
   obtain⟨s0,g0,rfl,_,_⟩:=Va.shape
   obtain⟨s1,g1,rfl,_,_⟩:=Qa.shape
   have u0:wr.cell? ⟨pb,Ba+j*2,none⟩=some (.slice s0 x.1.length g0):=(hB.cell (p:=⟨pb,Ba+j*2,none⟩) Pa).trans q0
   have u1:wr.cell? ⟨pb,Ba+j*2+1,none⟩=some (.slice s1 x.2.length g1):=(hB.cell (p:=⟨pb,Ba+j*2+1,none⟩) Pa).trans q1
   have ea:(j:Int)<(l.length:Int):=by omega
   have Na:Below wr.heap.size wr (wr.alloc (.cells #[.slice s0 x.1.length g0,.slice s1 x.2.length g1] 132)):=(Below.refl _ _).alloc (Nat.le_refl _) _
   have a1:=Loc.made wr #[.slice s0 x.1.length g0,.slice s1 x.2.length g1] 132
   have HF:=hide (show OwElems wr 132 2 _ (l.take j) (OwAttr wr) F from hF)
   have La:(l.take j).length=j:=by rw [List.length_take];omega
   have oa:=hide Ha
   clear hF Ha Xa Aa
   go_wp2_with fail
   generalize (wr.alloc (.cells #[.slice s0 x.1.length g0,.slice s1 x.2.length g1] 132))=w1 at *
   have Oa:=zal hB Na
   have H1:=hide (zfU w1.drew (.slice s0 x.1.length g0) x.1 (Va.keep (Oa.drew)) (by omega))
   have Ja:=a1.all ((Below.refl w1.heap.size w1).drew)
   have z0:w1.drew.cell? ⟨wr.heap.size,0,none⟩=some (.slice s0 x.1.length g0):=Ja.cell 0
   have z1:w1.drew.cell? ⟨wr.heap.size,1,none⟩=some (.slice s1 x.2.length g1):=Ja.cell 1
   have b0:w1.cell? ⟨wr.heap.size,0,none⟩=some (.slice s0 x.1.length g0):=a1.cell 0
   have b1:w1.cell? ⟨wr.heap.size,1,none⟩=some (.slice s1 x.2.length g1):=a1.cell 1
   have HR:=hide Fa
   have ga:=hide hN
   clear Fa hN u0 u1
   go_region_held3 (fun w'=>w'.cell? ⟨wr.heap.size,0,none⟩=some (.slice s0 x.1.length g0)∧w'.cell? ⟨wr.heap.size,1,none⟩=some (.slice s1 x.2.length g1))
    (first | exact⟨by assumption,by assumption⟩ | simp [*])
    (first
     | (go_at_call 71;refine (zaa H1).mono ?_;clear H1;rintro e w2 ⟨v2,rfl,Ya,Da⟩;have a2:=Ja.all Da;have z0:w2.cell? ⟨wr.heap.size,0,none⟩=some (.slice s0 x.1.length g0):=a2.cell 0;have z1:w2.cell? ⟨wr.heap.size,1,none⟩=some (.slice s1 x.2.length g1):=a2.cell 1;have Ma:=zal Oa.drew Da;have na:Below wr.heap.size wr w2:=zal Na.drew Da;obtain⟨p2,k2,Za,_,_⟩:=Ya.byt.shape;subst Za)
     | (go_at_call 71;refine (zfU w2 (.slice s1 x.2.length g1) x.2 (Qa.keep Ma) (by omega)).mono ?_;rintro e w3 ⟨v3,rfl,Wa,Ca⟩;have a3:=a2.all Ca;have z0:w3.cell? ⟨wr.heap.size,0,none⟩=some (.slice s0 x.1.length g0):=a3.cell 0;have z1:w3.cell? ⟨wr.heap.size,1,none⟩=some (.slice s1 x.2.length g1):=a3.cell 1;have fa:=zal Ma Ca;have ca:Below wr.heap.size wr w3:=zal na Ca;obtain⟨p3,k3,da,_,_⟩:=Wa.byt.shape;subst da;have qa:(w3.alloc (.cells #[.slice p2 x.1.length k2,.slice p3 x.2.length k3] 132)).cell? ⟨wr.heap.size,0,none⟩=some (.slice s0 x.1.length g0):=(a3.alloc _).cell 0;have pa:(w3.alloc (.cells #[.slice p2 x.1.length k2,.slice p3 x.2.length k3] 132)).cell? ⟨wr.heap.size,1,none⟩=some (.slice s1 x.2.length g1):=(a3.alloc _).cell 1;have HY:=hide (zzi (A:= #[.slice p2 x.1.length k2,.slice p3 x.2.length k3]) (T:=132) ca Ya Ca Wa (Nat.lt_of_lt_of_le a1.lt Da.size) (zaa HF) (zaa HR) a1.lt))
     | (refine zeJ (R:=OwAttr) (fun h f d=>OwAttr.frm h f d) rfl (.tmp 12) (.tmp 20) 26 rfl 132 i0 (.agg #[.slice none 0 0,.slice none 0 0]) 2 48 Tryz.underlying26 hi ia la ba rfl (by decide) _ (l.take j) F (by rfl) (zaa HY).1 (zaa ga) ⟨w3.heap.size,0,none⟩ 1 [.slice p2 x.1.length k2,.slice p3 x.2.length k3] x (FB (.slice p2 x.1.length k2)++FB (.slice p3 x.2.length k3)) (by rfl) rfl (zAS w3 _ _ _) (by intro y hy;simp at hy;rcases hy with rfl | rfl<;>rfl) (zaa HY).2.1 (zaa HY).2.2.1 (zaa HY).2.2.2.1 (zaa HY).2.2.2.2.1 (by rw [La];unfold maxLen;omega) (by rw [La];omega) ?_;intro g9 Ka w9 F9 Ga ka Ta Ra ra;have a9:=(a3.alloc (.cells #[.slice p2 x.1.length k2,.slice p3 x.2.length k3] 132)).frm Ra ((zaa HY).2.2.2.2.2.1);have z0:w9.cell? ⟨wr.heap.size,0,none⟩=some (.slice s0 x.1.length g0):=a9.cell 0;have z1:w9.cell? ⟨wr.heap.size,1,none⟩=some (.slice s1 x.2.length g1):=a9.cell 1))
   have Ia:Below w.heap.size w (w3.alloc (.cells #[.slice p2 x.1.length k2,.slice p3 x.2.length k3] 132)):=zal fa ((Below.refl _ _).alloc (Nat.le_refl _) _)
   have aa:Below w.heap.size w w9:=Ia.trans (Ra.below Ia.size (fun q hq=>(zaa HR q ((zaa HY).2.2.2.2.2.2.1 q hq)).1))
   have Ua:=hide (show OwAttrs w9 (.slice (some ⟨g9,0,none⟩) (j+1) Ka) (l.take (j+1)) F9 by
    rw [zaa oa]
    rw [La]at Ga
    exact Ga)
   have ja:=hide (show Rng F9 w.heap.size w9.heap.size from fun q hq=>⟨by
    rcases Ta q hq with k | k | k
    ·exact (zaa HR q k).1
    ·have:=(zaa HY).2.2.2.2.2.2.2 q k;have:=hB.size;omega
    ·rw [k];exact Ia.size,OwAttrs.lt (zaa Ua) q hq⟩)
   clear Ga Ta
   go_wp2_with fail
   go_roundw
   case rel=>exact⟨j+1,by omega,by go_num,F9,zaa Ua,ka,zaa ja,aa⟩
   case measure=>simp [intOf];omega
  ·have e:j=l.length:=by omega
   subst e
   rw [List.take_length]at hF
   go_wp2_with fail
   go_ret
   exact⟨_,rfl,F,hF,hN,Fa,hB⟩
end Go.Proofs.YtgjolijncmkkhaaGreatDoor
namespace Go.Proofs.YtgjolijncmkkhaaGreatDoor
open Go.RowKit Go.Shelf
set_option linter.unusedVariables false
set_option maxRecDepth 100000
def TdAt (n:Nat) (t:Tr n):Prop:=∀(w:Xk) (a b c d e:Xl),RdNode n w [a,b,c,d,e] t->szT n t<=2097152->
  Calls Tryz.prog 36 #[.agg #[a,b,c,d,e]] w fun e w'=>∃(kd:Int) (a1:Xi) (n1 c1:Nat) (a2:Xi) (n2 c2:Nat) (a3:Xi) (n3 c3:Nat) (a4:Xi) (n4 c4:Nat),e=.returned (.agg #[.int .i64 kd,.slice a1 n1 c1,.slice a2 n2 c2,.slice a3 n3 c3,.slice a4 n4 c4])∧∃F,OwNode n w' [.int .i64 kd,.slice a1 n1 c1,.slice a2 n2 c2,.slice a3 n3 c3,.slice a4 n4 c4] (zaB n t) F∧F.Nodup∧Rng F w.heap.size w'.heap.size∧Below w.heap.size w w'
def mb (n:Nat) (k:Tr (n+1)):Mb (Tr (n+1)):=if k.kind=1 then .inr k.text else .inl (zaB (n+1) k)
theorem zxf (n:Nat) (t:Tr (n+2)):zaB (n+2) t=(⟨t.kind,t.name,t.text,t.attrs,(zbn [] [] (t.kids.map (mb n))).map (unMb n)⟩:Nd (Tr (n+1))):=rfl
theorem zsu (n:Nat):∀l:List (Tr (n+1)),((l.map (mb n)).map (wtK (szT (n+1)))).sum<=2*(l.length+(l.map (szT (n+1))).sum)
 | []=>by simp
 | k::l=>by
  have h0:=zsu n l
  have h1:=zpN (n+1) k
  have h2:=zmJ n k
  have h3:wtK (szT (n+1)) (mb n k)<=2*(1+szT (n+1) k):=by
   unfold mb
   split
   ·show 2*k.text.length<=_;omega
   ·show 1+szT (n+1) (zaB (n+1) k)<=_;omega
  simp only [List.map_cons,List.sum_cons,List.length_cons]
  omega
theorem zxy {w:Xk} {b:Nat} {a:Xi} {m c:Nat} {l:Xg} (h:Own w b (.slice a m c) l):l=[]∨∃g,a=some ⟨g,0,none⟩:=by
 rcases h.2.2 with ⟨e,h0⟩ | ⟨g,Ba,Aa,e,_⟩
 ·exact .inl (List.eq_nil_of_length_eq_zero h0)
 ·injection e with e
  exact .inr ⟨g,e⟩
def Way (n:Nat) (A:List (Mb (Tr (n+1)))) (r:Xg) (rest all:List (Mb (Tr (n+1)))):Prop:=
 zbn A r rest=zbn [] [] all∧(A.map (wtM (szT (n+1)))).sum+2*r.length+(rest.map (wtK (szT (n+1)))).sum<=4194304
theorem Way.len {n:Nat} {A:List (Mb (Tr (n+1)))} {r:Xg} {rest all:List (Mb (Tr (n+1)))} (h:Way n A r rest all):A.length+r.length<=4194304:=by
 have:=zsF (szT (n+1)) A
 have:=h.2
 omega
theorem Way.text {n:Nat} {A:List (Mb (Tr (n+1)))} {r l:Xg} {rest all:List (Mb (Tr (n+1)))} (h:Way n A r (.inr l::rest) all):Way n A (r++l) rest all:=by
 refine⟨h.1,?_⟩
 have:=h.2
 simp only [List.map_cons,List.sum_cons,wtK]at this
 rw [List.length_append]
 omega
theorem Way.elem {n:Nat} {A:List (Mb (Tr (n+1)))} {r:Xg} {k:Tr (n+1)} {rest all:List (Mb (Tr (n+1)))} (h:Way n A r (.inl k::rest) all):Way n (A++(cutL r).map .inr++[.inl k]) [] rest all:=by
 refine⟨h.1,?_⟩
 have h1:=h.2
 have h2:=zms (szT (n+1)) r.length r (Nat.le_refl _)
 simp only [List.map_cons,List.sum_cons,wtK]at h1
 simp only [List.map_append,List.sum_append,List.map_cons,List.map_nil,List.sum_cons,List.sum_nil,List.length_nil,wtM]
 omega
theorem zrl (n:Nat) (l:List (Xg)):(l.map (.inr:Xg->Mb (Tr (n+1)))).map (unMb n)=l.map (txtN n):=by
 rw [List.map_map]
 rfl
def Td1 (w1:Xk) (bn pr:Nat) (T0 nmv atv:Xl) (kd:Int) (ln:Xg) (la:List (Xg×Xg)) (L:Array Bool) (a:Act) (w:Xk):Prop:=
 ∃b0 b1 b2 b3 b4 b5 b6 b7 b8 b9 b10 x3 x7 x8 x9 x10 x11 x12 x13 x14 x15,L = #[b0,b1,b2,b3,b4,b5,b6,b7,b8,b9,b10]∧a={ tmps:= #[T0,.pointer (some ⟨bn,0,none⟩),.pointer (some ⟨pr,0,none⟩),x3,undef,undef,undef,x7,x8,x9,x10,x11,x12,x13,x14,x15,undef,undef,undef,undef,undef,undef,undef,undef,undef,undef,undef,undef,undef,undef,undef,undef,undef,undef,undef,undef,undef,undef,undef,undef,undef,undef,undef,undef,undef,undef,undef,undef],defers:=[] }∧Below w1.heap.size w1 w∧(b0=true->x7=.pointer (some ⟨bn,0,none⟩))∧(b1=true->x8=.int .i64 kd)∧(b2=true->x9=.pointer (some ⟨bn,1,none⟩))∧(b3=true->x10=nmv)∧(b4=true->Own w w1.heap.size x11 ln)∧(b5=true->x12=.pointer (some ⟨bn,3,none⟩))∧(b6=true->x13=atv)∧(b7=true->b4=true∧∃Fa,OwAttrs w x14 la Fa∧Fa.Nodup∧Rng Fa w1.heap.size w.heap.size∧∀q∈Fa,q∉FB x11)∧(b8=true->b4=true∧b7=true∧x15=.agg #[.int .i64 kd,x11,.slice none 0 0,x14,.slice none 0 0])∧(b9=true->∃po,x3=.pointer (some ⟨po,0,none⟩)∧w1.heap.size<=po∧Loc w po (if b10=true then #[.int .i64 kd,x11,.slice none 0 0,x14,.slice none 0 0] else #[.int .i64 0,.slice none 0 0,.slice none 0 0,.slice none 0 0,.slice none 0 0]) 29)∧(b10=true->b9=true∧b8=true)
theorem zwb {i:Nat} (h:i<11):i=0∨i=1∨i=2∨i=3∨i=4∨i=5∨i=6∨i=7∨i=8∨i=9∨i=10:=by omega
set_option maxHeartbeats 6400000 in
theorem zjL (n:Nat) (t:Tr (n+2)) (hno:t.text=[]) (H:∀k∈t.kids,k.kind≠1->TdAt (n+1) k):TdAt (n+2) t:=by
 intro w0 a b c d e Ud De
 have ya:szT (n+2) t=t.name.length+t.text.length+szA t.attrs+(t.kids.length+(t.kids.map (szT (n+1))).sum):=rfl
 obtain⟨_,_,_,_,e0,k1,k2,hb,hc,hd,he⟩:=Ud
 simp only [List.cons.injEq,and_true]at e0
 obtain⟨rfl,rfl,rfl,rfl,rfl⟩:=e0
 obtain⟨ab,cb,rfl,_,_⟩:=hb.shape
 obtain⟨ac,cc,rfl,_,_⟩:=hc.shape
 obtain⟨ad,cd,rfl,_,_⟩:=Elems.shape hd
 obtain⟨ae,ce,rfl,_,_⟩:=Elems.shape he
 obtain⟨l0,l1,sb⟩:=two w0 #[.int .i64 t.kind,.slice ab t.name.length cb,.slice ac t.text.length cc,.slice ad t.attrs.length cd,.slice ae t.kids.length ce] #[.int .i64 0,.slice none 0 0,.slice none 0 0,.slice none 0 0,.slice none 0 0] 29 29
 obtain⟨x0,x1,x2,x3,x4⟩:=l0.five
 have Id:t.attrs.length<=4194304:=by unfold szA at ya;omega
 have xd:t.name.length<=4194304:=by omega
 have Ic:∀x∈t.attrs,x.1.length<=4194304∧x.2.length<=4194304:=fun x hx=>by have:=zAu hx;omega
 have ud:t.kids.length<=2097152:=by omega
 have Ge:(t.kids.length:Int)<=9223372036854775807:=by omega
 have vc:=hide ya
 have Md:=hide hno
 clear ya hno
 go_enter Tryz.func36,Tryz.ntmps36
 go_wp2_with fail
 generalize hW1:(w0.alloc (.cells #[.int .i64 t.kind,.slice ab t.name.length cb,.slice ac t.text.length cc,.slice ad t.attrs.length cd,.slice ae t.kids.length ce] 29)).alloc (.cells #[.int .i64 0,.slice none 0 0,.slice none 0 0,.slice none 0 0,.slice none 0 0] 29)=w1 at *
 have td:w0.heap.size+2<=w1.heap.size:=by rw [<-hW1];simp
 clear hW1
 have ec:=hide Ic
 clear Ic
 refine zea (by kernel_rfl) (Td1 w1 w0.heap.size (w0.heap.size+1) (.agg #[.int .i64 t.kind,.slice ab t.name.length cb,.slice ac t.text.length cc,.slice ad t.attrs.length cd,.slice ae t.kids.length ce]) (.slice ab t.name.length cb) (.slice ad t.attrs.length cd) t.kind t.name t.attrs) ?sz ?h0 ?step ?dn
 case sz=>
   rintro L a w ⟨b0,b1,b2,b3,b4,b5,b6,b7,b8,b9,Ca,x3,x7,x8,x9,Qa,Ja,Oa,Ra,Ia,Pa,rfl,_⟩
   rfl
 case h0=>
   refine⟨false,false,false,false,false,false,false,false,false,false,false,undef,undef,undef,undef,undef,undef,undef,undef,undef,undef,rfl,rfl,(Below.refl _ _).drew,?_⟩
   simp
 case step=>
   intro L a w i o hI hi ho
   obtain⟨b0,b1,b2,b3,b4,b5,b6,b7,b8,b9,Ca,x3,x7,x8,x9,Qa,Ja,Oa,Ra,Ia,Pa,rfl,rfl,h0,f0,f1,f2,f3,f4,f5,f6,f7,f8,f9,La⟩:=hI
   have Wd:Ca=true->b4=true:=fun h=>(f8 (La h).2).1
   have tb:Ca=true->b7=true:=fun h=>(f8 (La h).2).2.1
   rcases zwb (zft hi)with rfl | rfl | rfl | rfl | rfl | rfl | rfl | rfl | rfl | rfl | rfl
   ·obtain rfl:=Option.some.inj ho
    go_simp
    exact⟨true,b1,b2,b3,b4,b5,b6,b7,b8,b9,Ca,x3,_,x8,x9,Qa,Ja,Oa,Ra,Ia,Pa,rfl,rfl,h0,(fun _=>rfl),f1,f2,f3,f4,f5,f6,f7,f8,f9,La⟩
   ·have g0:=zai hi ho 0
    obtain rfl:=Option.some.inj ho
    have e0:=f0 (g0 (by kernel_rfl))
    subst e0
    have c0:w.cell? ⟨w0.heap.size,0,none⟩=some (.int .i64 t.kind):=(l0.all h0).cell 0
    go_simp
    exact⟨b0,true,b2,b3,b4,b5,b6,b7,b8,b9,Ca,x3,_,_,x9,Qa,Ja,Oa,Ra,Ia,Pa,rfl,rfl,h0,f0,(fun _=>rfl),f2,f3,f4,f5,f6,f7,f8,f9,La⟩
   ·obtain rfl:=Option.some.inj ho
    go_simp
    exact⟨b0,b1,true,b3,b4,b5,b6,b7,b8,b9,Ca,x3,x7,x8,_,Qa,Ja,Oa,Ra,Ia,Pa,rfl,rfl,h0,f0,f1,(fun _=>rfl),f3,f4,f5,f6,f7,f8,f9,La⟩
   ·have g2:=zai hi ho 2
    obtain rfl:=Option.some.inj ho
    have e2:=f2 (g2 (by kernel_rfl))
    subst e2
    have c0:w.cell? ⟨w0.heap.size,1,none⟩=some (.slice ab t.name.length cb):=(l0.all h0).cell 1
    go_simp
    exact⟨b0,b1,b2,true,b4,b5,b6,b7,b8,b9,Ca,x3,x7,x8,_,_,Ja,Oa,Ra,Ia,Pa,rfl,rfl,h0,f0,f1,f2,(fun _=>rfl),f4,f5,f6,f7,f8,f9,La⟩
   ·have g3:=zai hi ho 3
    obtain rfl:=Option.some.inj ho
    have e3:=f3 (g3 (by kernel_rfl))
    subst e3
    have Pb:b4=false:=by simpa using zao rfl hi
    go_simp
    refine (zfU w _ t.name (hb.keep (zal sb h0)) (by omega)).mono ?_
    rintro e w' ⟨v',rfl,ib,ba⟩
    exact⟨b0,b1,b2,b3,true,b5,b6,b7,b8,b9,Ca,x3,x7,x8,x9,_,_,Oa,Ra,Ia,Pa,rfl,rfl,zal h0 ba,f0,f1,f2,f3,(fun _=>ib.mono h0.size),f5,f6,(fun h=>by rw [(f7 h).1]at Pb;cases Pb),(fun h=>by rw [(f8 h).1]at Pb;cases Pb),(fun h=>by obtain⟨po,q1,q2,q3⟩:=f9 h;refine⟨po,q1,q2,?_⟩;have Ka:Ca=false:=(by cases Ca with | false=>rfl | true=>exact absurd (Wd rfl) (by rw [Pb];simp));subst Ka;exact q3.all ba),La⟩
   ·obtain rfl:=Option.some.inj ho
    go_simp
    exact⟨b0,b1,b2,b3,b4,true,b6,b7,b8,b9,Ca,x3,x7,x8,x9,Qa,Ja,_,Ra,Ia,Pa,rfl,rfl,h0,f0,f1,f2,f3,f4,(fun _=>rfl),f6,f7,f8,f9,La⟩
   ·have g5:=zai hi ho 5
    obtain rfl:=Option.some.inj ho
    have e5:=f5 (g5 (by kernel_rfl))
    subst e5
    have c0:w.cell? ⟨w0.heap.size,3,none⟩=some (.slice ad t.attrs.length cd):=(l0.all h0).cell 3
    go_simp
    exact⟨b0,b1,b2,b3,b4,b5,true,b7,b8,b9,Ca,x3,x7,x8,x9,Qa,Ja,_,_,Ia,Pa,rfl,rfl,h0,f0,f1,f2,f3,f4,f5,(fun _=>rfl),f7,f8,f9,La⟩
   ·have g6:=zai hi ho 6
    have g4:=zai hi ho 4
    obtain rfl:=Option.some.inj ho
    have e6:=f6 (g6 (by kernel_rfl))
    have e4:b4=true:=g4 (by kernel_rfl)
    subst e6 e4
    have Cc:b7=false:=by simpa using zao rfl hi
    go_simp
    refine (zoK w _ t.attrs (RdAttrs.keep hd (zal sb h0)) Id (zaa ec)).mono ?_
    rintro e w' ⟨v',rfl,Fa,ib,zc,r',ba⟩
    exact⟨b0,b1,b2,b3,true,b5,b6,true,b8,b9,Ca,x3,x7,x8,x9,Qa,Ja,Oa,_,_,Pa,rfl,rfl,zal h0 ba,f0,f1,f2,f3,(fun h=>(f4 h).keep ba),f5,f6,(fun _=>⟨rfl,Fa,ib,zc,r'.mono h0.size (Nat.le_refl _),fun q hq Ga=>by have:=(r' q hq).1;have:=((f4 rfl).lt q (by simpa [FB]using Ga)).2;omega⟩),(fun h=>by rw [(f8 h).2.1]at Cc;cases Cc),(fun h=>by obtain⟨po,q1,q2,q3⟩:=f9 h;refine⟨po,q1,q2,?_⟩;have Ka:Ca=false:=(by cases Ca with | false=>rfl | true=>exact absurd (tb rfl) (by rw [Cc];simp));subst Ka;exact q3.all ba),La⟩
   ·have g1:=zai hi ho 1
    have g4:=zai hi ho 4
    have g7:=zai hi ho 7
    obtain rfl:=Option.some.inj ho
    have e1:=f1 (g1 (by kernel_rfl))
    have e4:b4=true:=g4 (by kernel_rfl)
    have e7:b7=true:=g7 (by kernel_rfl)
    subst e1 e4 e7
    obtain⟨p2,Ya,Nb,_,_⟩:=(f4 rfl).byt.shape
    obtain⟨_,Fa,q1,q2,q3,q4⟩:=f7 rfl
    obtain⟨p3,Ma,Ub⟩:∃p3 Ma,Ia=.slice p3 t.attrs.length Ma:=by
     obtain⟨_,_,_,_,_,e4,_⟩:=q1
     exact zbS e4
    subst Nb Ub
    go_simp
    exact⟨b0,b1,b2,b3,true,b5,b6,true,true,b9,Ca,x3,x7,_,x9,Qa,_,Oa,Ra,_,_,rfl,rfl,h0,f0,f1,f2,f3,f4,f5,f6,f7,(fun _=>⟨rfl,rfl,rfl⟩),f9,(fun h=>⟨(La h).1,rfl⟩)⟩
   ·obtain rfl:=Option.some.inj ho
    have Gc:b9=false:=by simpa using zao rfl hi
    have Ka:Ca=false:=by
     cases Ca with
     | false=>rfl
     | true=>rw [(La rfl).1]at Gc;cases Gc
    subst Ka
    have ba:Below w.heap.size w (w.alloc (.cells #[.int .i64 0,.slice none 0 0,.slice none 0 0,.slice none 0 0,.slice none 0 0] 29)):=(Below.refl _ _).alloc (Nat.le_refl _) _
    go_simp
    exact⟨b0,b1,b2,b3,b4,b5,b6,b7,b8,true,false,_,x7,x8,x9,Qa,Ja,Oa,Ra,Ia,Pa,rfl,rfl,zal h0 ba,f0,f1,f2,f3,(fun h=>(f4 h).keep ba),f5,f6,(fun h=>by obtain⟨q0,Fa,q1,q2,q3,q4⟩:=f7 h;exact⟨q0,Fa,OwAttrs.frm q1 (Frm.ofBelow ba []) (fun _ _=>by simp),q2,q3.mono (Nat.le_refl _) ba.size,q4⟩),f8,(fun _=>⟨w.heap.size,rfl,h0.size,Loc.made w _ _⟩),(fun h=>by cases h)⟩
   ·have g8:=zai hi ho 8
    have g9:=zai hi ho 9
    obtain rfl:=Option.some.inj ho
    have e9:b9=true:=g9 (by kernel_rfl)
    have e8:b8=true:=g8 (by kernel_rfl)
    obtain⟨e4,e7,fc⟩:=f8 e8
    have Ka:Ca=false:=by simpa using zao rfl hi
    subst e4 e7 e8 e9 fc Ka
    obtain⟨po,q1,q2,q3⟩:=f9 rfl
    replace q3:Loc w po #[.int .i64 0,.slice none 0 0,.slice none 0 0,.slice none 0 0,.slice none 0 0] 29:=q3
    subst q1
    obtain⟨p2,Ya,Nb,_,_⟩:=(f4 rfl).byt.shape
    obtain⟨_,Fa,r1,r2,r3,r4⟩:=f7 rfl
    obtain⟨p3,Ma,Ub⟩:∃p3 Ma,Ia=.slice p3 t.attrs.length Ma:=by
     obtain⟨_,_,_,_,_,e4,_⟩:=r1
     exact zbS e4
    subst Nb Ub
    obtain⟨y0,y1,y2,y3,y4⟩:=q3.five
    have u0:=q3.frozen 0
    have u1:=q3.frozen 1
    have u2:=q3.frozen 2
    have u3:=q3.frozen 3
    have u4:=q3.frozen 4
    obtain⟨s1,s2⟩:=zkQ q3 (.int .i64 t.kind) (.slice p2 t.name.length Ya) (.slice none 0 0) (.slice p3 t.attrs.length Ma) (.slice none 0 0)
    have s3:=h0.trans (s2.below (Nat.le_of_lt (Nat.lt_of_le_of_lt (Nat.zero_le _) (Nat.lt_of_le_of_lt q2 q3.lt)) |> fun _=>h0.size) (fun g hg=>by simp at hg;omega))
    have s4:=(f4 rfl).frm s2 (fun g hg Jb=>zhc (f4 rfl) q3 (by have e:g=po:=(by simpa using Jb);rw [<-e];simpa [FB]using hg))
    have s5:=OwAttrs.frm r1 s2 (fun g hg Jb=>zll r1 q3 (by have e:g=po:=(by simpa using Jb);rw [<-e];exact hg))
    go_simp
    exact⟨b0,b1,b2,b3,true,b5,b6,true,true,true,true,_,x7,x8,x9,Qa,_,Oa,Ra,_,_,rfl,rfl,s3,f0,f1,f2,f3,(fun _=>s4),f5,f6,(fun _=>⟨rfl,Fa,s5,r2,r3.mono (Nat.le_refl _) s2.size,r4⟩),(fun _=>⟨rfl,rfl,rfl⟩),(fun _=>⟨po,rfl,q2,s1⟩),(fun _=>⟨rfl,rfl⟩)⟩
 case dn=>
  intro L a w2 hI Qc
  have Va:=zcm (L:=L) (by obtain⟨b0,b1,b2,b3,b4,b5,b6,b7,b8,b9,Ca,x3,x7,x8,x9,Qa,Ja,Oa,Ra,Ia,Pa,rfl,_⟩:=hI;rfl) (by kernel_rfl) Qc 11
  obtain⟨b0,b1,b2,b3,b4,b5,b6,b7,b8,b9,Ca,x3,x7,x8,x9,Qa,Ja,Oa,Ra,Ia,Pa,rfl,rfl,h0,f0,f1,f2,f3,f4,f5,f6,f7,f8,f9,La⟩:=hI
  have s4:b4=true:=Va 4 (by omega) (by decide)
  have s7:b7=true:=Va 7 (by omega) (by decide)
  have s9:b9=true:=Va 9 (by omega) (by decide)
  have Gd:Ca=true:=Va 10 (by omega) (by decide)
  subst s4 s7 s9 Gd
  obtain⟨po,q1,q2,q3⟩:=f9 rfl
  replace q3:Loc w2 po #[.int .i64 t.kind,Ja,.slice none 0 0,Ia,.slice none 0 0] 29:=q3
  obtain⟨_,Fa,r1,r2,r3,r4⟩:=f7 rfl
  have r0:=f4 rfl
  subst q1
  clear Va f0 f1 f2 f3 f4 f5 f6 f7 f8 f9 La Qc
  obtain⟨p2,Ya,Nb,_,_⟩:=r0.byt.shape
  obtain⟨p3,Ma,Ub⟩:∃p3 Ma,Ia=.slice p3 t.attrs.length Ma:=by
   obtain⟨_,_,_,_,_,e4,_⟩:=r1
   exact zbS e4
  have hO:OutAt n w1.heap.size w2 po t.kind Ja (.slice none 0 0) Ia (.slice none 0 0) t.name [] t.attrs (([]:List (Mb (Tr (n+1)))).map (unMb n)) Fa []:=by
   refine⟨q3,r0.mono (Nat.zero_le _),⟨zaI,World.ownsRow_nil _ _ _ _⟩,r1,OwElems.naught _ _ _ _,?_,fun q hq=> ?_⟩
   ·show (FB Ja++[]++Fa++[]).Nodup
    rw [List.append_nil,List.append_nil]
    exact List.nodup_append.2 ⟨zaU _,r2,fun a ha b hb e=>r4 b hb (e ▸ ha)⟩
   ·have Ga:q∈FB Ja∨q∈Fa:=by simpa [FB,Value.ownBlock]using hq
    rcases Ga with h | h
    ·exact⟨(r0.lt q (by simpa [FB]using h)).1,(r0.lt q (by simpa [FB]using h)).2,fun e=>zhc r0 q3 (by rw [<-e];simpa [FB]using h)⟩
    ·exact⟨(r3 q h).1,(r3 q h).2,fun e=>zll r1 q3 (e ▸ h)⟩
  subst Nb Ub
  have Hc:Below w0.heap.size w0 w2:=zal sb h0
  have Mc:=l1.all h0
  have c4:w2.cell? ⟨w0.heap.size,4,none⟩=some (.slice ae t.kids.length ce):=(l0.all h0).cell 4
  have ja:Way n [] [] ((t.kids.map (mb n)).drop 0) (t.kids.map (mb n)):=by
   refine⟨rfl,?_⟩
   have h1:=zsu n t.kids
   have h2:=zaa vc
   simp only [List.map_nil,List.sum_nil,List.length_nil,List.drop_zero]
   omega
  have Fb:=hide ja
  have Ib:w1.heap.size<=w2.heap.size:=h0.size
  have Pd:=q3.lt
  have Bc:Hid (∀j (h:j<t.kids.length),(t.kids.map (mb n)).drop j=mb n t.kids[j]::(t.kids.map (mb n)).drop (j+1)):=fun j h=>by
   rw [List.drop_eq_getElem_cons (by simpa using h)]
   simp
  generalize hms:t.kids.map (mb n)=ms at *
  clear ja r0 r1 r2 r3 r4 q3 x0 x1 x2 x3 x4 hb hc hd h0 l0 l1
  go_wp2_with fail
  go_loopw [4,19] (fun row i wr=>∃j:Nat,j<=t.kids.length∧i=.int .i64 j∧∃r A ka km kc Fk,Own wr w1.heap.size row r∧OutAt n w1.heap.size wr po t.kind (.slice p2 t.name.length Ya) (.slice none 0 0) (.slice p3 t.attrs.length Ma) (.slice ka km kc) t.name [] t.attrs (A.map (unMb n)) Fa Fk∧Hid (∀q∈FB row,q≠po∧q∉FB (.slice p2 t.name.length Ya)++FB (.slice none 0 0)++Fa++Fk)∧Hid (Way n A r (ms.drop j) ms)∧Below w0.heap.size w0 wr∧Loc wr (w0.heap.size+1) #[.int .i64 0,.slice none 0 0,.slice none 0 0,.slice none 0 0,.slice none 0 0] 29∧w1.heap.size<=wr.heap.size) (fun _ i _=>t.kids.length-(intOf i).toNat)
  case atStart=>exact⟨0,Nat.zero_le _,rfl,[],[],none,0,0,[],⟨zaI,World.ownsRow_nil _ _ _ _⟩,hO,fun q hq=>by simp [FB,Value.ownBlock]at hq,zaa Fb,Hc,Mc,Ib⟩
  case round=>
   clear hO Hc Mc Fb c4 Ib Pd
   obtain⟨j,hj,rfl,r,A,ka,km,kc,Fk,Eb,hO,Ab,ia,la,lr,Ib⟩:=hrel
   have Vb:Fk.Nodup:=(List.nodup_append.1 hO.nodup).2.1
   have Tb:∀q∈Fk,q<wr.heap.size:=fun q hq=>(hO.rng q (List.mem_append_right _ hq)).2.1
   have Da:∀q∈FB (.slice ka km kc),q∈Fk:=fun q hq=>by
    obtain⟨_,_,_,_,_,_,rfl⟩:=hO.kids
    exact List.mem_append_left _ hq
   obtain⟨ra,rc,Ec,Wb,_⟩:=Eb.byt.shape
   obtain⟨rb,Qb⟩:∃rb,r=[]∨ra=some ⟨rb,0,none⟩:=by
    rcases zxy (Ec ▸ Eb)with h | ⟨g,h⟩
    ·exact⟨0,.inl h⟩
    ·exact⟨g,.inr h⟩
   subst Ec
   have gb:∀q∈FB (.slice ra r.length rc),q∉FB (.slice ka km kc):=fun q hq Ga=>(zaa Ab q hq).2 (List.mem_append_right _ (Da q Ga))
   by_cases hjl:j<t.kids.length
   ·have Aa:=zaa ia
    rw [zaa Bc j hjl]at Aa
    obtain⟨pb,Xa,rfl,Lb,dd,_,hC⟩:=he.at hjl
    clear dd
    obtain⟨kid,xa⟩:∃kid,kid=t.kids[j]:=⟨_,rfl⟩
    have sa:kid∈t.kids:=by rw [xa];exact List.getElem_mem hjl
    obtain⟨d0,d1,d2,d3,d4,e0,e1,e2,e3,e4,hx⟩:=ziZ hC
    rw [<-xa]at hx Aa
    replace e0:=(la.cell (p:=⟨pb,Xa+j*5,none⟩) Lb).trans e0
    replace e1:=(la.cell (p:=⟨pb,Xa+j*5+1,none⟩) Lb).trans e1
    replace e2:=(la.cell (p:=⟨pb,Xa+j*5+2,none⟩) Lb).trans e2
    replace e3:=(la.cell (p:=⟨pb,Xa+j*5+3,none⟩) Lb).trans e3
    replace e4:=(la.cell (p:=⟨pb,Xa+j*5+4,none⟩) Lb).trans e4
    obtain⟨_,_,_,_,ee,od,Ce,Fd,Vc,tc,mc⟩:=id hx
    simp only [List.cons.injEq,and_true]at ee
    obtain⟨rfl,rfl,rfl,rfl,rfl⟩:=ee
    obtain⟨Ta,aa,rfl,_,_⟩:=Fd.shape
    obtain⟨Ua,ca,rfl,_,_⟩:=Vc.shape
    obtain⟨da,Sa,rfl,_,_⟩:=Elems.shape tc
    obtain⟨ea,Za,rfl,_,_⟩:=Elems.shape mc
    have Vd:szT (n+1) kid+1<=szT (n+2) t:=zvm sa
    have Zd:=zmJ n kid
    have nb:(j:Int)<(t.kids.length:Int):=by omega
    have Zb:Below wr.heap.size wr (wr.alloc (.cells #[.int .i64 kid.kind,.slice Ta kid.name.length aa,.slice Ua kid.text.length ca,.slice da kid.attrs.length Sa,.slice ea kid.kids.length Za] 29)):=(Below.refl _ _).alloc (Nat.le_refl _) _
    have lk:=Loc.made wr #[.int .i64 kid.kind,.slice Ta kid.name.length aa,.slice Ua kid.text.length ca,.slice da kid.attrs.length Sa,.slice ea kid.kids.length Za] 29
    have Bb:=hO.keep Zb
    have eb:=zal la Zb
    have Kc:=lr.all Zb
    have ua:=Eb.alloc (.cells #[.int .i64 kid.kind,.slice Ta kid.name.length aa,.slice Ua kid.text.length ca,.slice da kid.attrs.length Sa,.slice ea kid.kids.length Za] 29)
    have HX:=hide hx
    have jc:=hide sa
    have ub:=Aa.len
    have oa:=Nat.le_trans Ib Zb.size
    obtain⟨y0,y1,y2,y3,y4⟩:=lk.five
    have oc:=hO.loc.lt
    clear hC hO lr hx sa xa ia Bc he
    by_cases hz:kid.kind=1
    ·have dz:(kid.kind == 1)=true:=by simpa using hz
     have va:Way n A (r++kid.text) (ms.drop (j+1)) ms:=by
      have e:mb n kid=.inr kid.text:=by unfold mb;rw [if_pos hz]
      rw [e]at Aa
      exact Aa.text
     have Wa:=va.len
     rw [List.length_append]at Wa
     have Fb:=hide va
     have qb:=hide ua
     clear hz va Aa Eb ua
     go_wp2_with (at_builtin;(refine zqs rfl _ _ rfl w1.heap.size _ r rfl (zaa qb) _ kid.text rfl (Vc.keep eb) (by omega) oa ?_))
     intro v7 w7 vb Zc bc
     have F7:=Frm.ofGrown Zc
     have hS:∀q∈(Value.slice ra r.length rc).ownBlock.toList,q∈FB (.slice ra r.length rc):=fun q hq=>hq
     have Uc:=Bb.frm F7 (fun h=>(zaa Ab po (hS po h)).1 rfl) (fun q hq h=>(zaa Ab q (hS q h)).2 hq)
     have zb:w0.heap.size+1∉(Value.slice ra r.length rc).ownBlock.toList:=fun h=>by
      have:=((zaa qb).lt _ (by simpa using h)).1
      omega
     have qc:=Kc.frm F7 zb
     have fa:Below w0.heap.size w0 w7:=eb.trans (F7.below eb.size (fun q hq=>by have:=((zaa qb).lt q (by simpa using hq)).1;omega))
     have Xd:Hid (∀q∈FB v7,q≠po∧q∉FB (.slice p2 t.name.length Ya)++FB (.slice none 0 0)++Fa++Fk):=fun q hq=>by
      have Ga:v7.ownBlock=some q:=by simpa [FB]using hq
      rcases bc with h | h
      ·exact zaa Ab q (by rw [h]at Ga;simpa [FB]using Ga)
      ·rw [h]at Ga
       have e:=Option.some.inj Ga
       refine⟨fun e'=> ?_,fun hm=> ?_⟩
       ·have:=Bb.loc.lt;simp only [World.size_alloc]at this e;omega
       ·have:=(Bb.rng q hm).2.1;simp only [World.size_alloc]at this e;omega
     have xb:=Nat.le_trans oa F7.size
     have Yc:=hide (And.intro vb Uc)
     obtain⟨a7,c7,Lc,_,_⟩:=vb.byt.shape
     generalize (r++kid.text).length=n7 at Lc
     subst Lc
     clear vb Uc Zc F7 bc y0 y1 y2 y3 y4 e0 e1 e2 e3 e4
     go_wp2_with fail
     go_roundw
     case rel=>exact⟨j+1,by omega,by go_num,_,A,ka,km,kc,Fk,(zaa Yc).1,(zaa Yc).2,Xd,zaa Fb,fa,qc,xb⟩
     case measure=>simp [intOf];omega
    ·have dz:(kid.kind == 1)=false:=by simpa using hz
     have va:Way n (A++(cutL r).map .inr++[.inl (zaB (n+1) kid)]) [] (ms.drop (j+1)) ms:=by
      have e:mb n kid=.inl (zaB (n+1) kid):=by unfold mb;rw [if_neg hz]
      rw [e]at Aa
      exact Aa.elem
     have Wa:=va.len
     rw [List.length_append,List.length_append,List.length_map,List.length_singleton]at Wa
     have Fb:=hide va
     have HK:=hide (H kid (zaa jc) hz)
     have Od:=hide (show szT (n+1) kid<=2097152 by omega)
     obtain⟨i0,wc,Ld,Yd,uc⟩:=info_parts Tryz.info29
     clear hz va Aa Eb H
     go_wp2_with fail
     generalize (wr.alloc (.cells #[.int .i64 kid.kind,.slice Ta kid.name.length aa,.slice Ua kid.text.length ca,.slice da kid.attrs.length Sa,.slice ea kid.kids.length Za] 29))=wa at *
     have bb:Below wa.heap.size wa wa.drew:=(Below.refl _ _).drew
     have Na:=Bb.keep bb
     have pa:=lk.all bb
     have ta:=ua.keep bb
     have ga:po∉FB (.slice ka km kc):=fun h=>(Na.rng po (List.mem_append_right _ (Da po h))).2.2 rfl
     have Rc:wr.heap.size∉FB (.slice ka km kc):=fun h=>by have:=Tb _ (Da _ h);omega
     have HP:=hide (ziz n wa.drew ka km kc ra rb 0 rc (A.map (unMb n)) Fk r Na.kids Vb (fun q hq=>(Na.rng q (List.mem_append_right _ hq)).2.1) Qb Wb (fun w' f=>(ta.frm f gb).byt) (by rw [List.length_map];omega))
     have c4:wa.drew.cell? ⟨po,4,none⟩=some (.slice ka km kc):=Na.loc.cell 4
     have jd:wa.cell? ⟨po,4,none⟩=some (.slice ka km kc):=Bb.loc.cell 4
     have k0:wa.drew.cell? ⟨wr.heap.size,0,none⟩=some (.int .i64 kid.kind):=pa.cell 0
     have k1:wa.drew.cell? ⟨wr.heap.size,1,none⟩=some (.slice Ta kid.name.length aa):=pa.cell 1
     have k2:wa.drew.cell? ⟨wr.heap.size,2,none⟩=some (.slice Ua kid.text.length ca):=pa.cell 2
     have k3:wa.drew.cell? ⟨wr.heap.size,3,none⟩=some (.slice da kid.attrs.length Sa):=pa.cell 3
     have k4:wa.drew.cell? ⟨wr.heap.size,4,none⟩=some (.slice ea kid.kids.length Za):=pa.cell 4
     have fb:=eb.drew
     have Xb:Hid (∀q∈FB (.slice ka km kc),w0.heap.size<=q):=fun q hq=>by have:=(Na.rng q (List.mem_append_right _ (Da q hq))).1;omega
     have Sd:wr.heap.size≠po:=fun e=>by have:=oc;omega
     clear y0 y1 y2 y3 y4
     have ic:∀args w,(callFunc 73 args).run Tryz.prog w=.ok (.enter 73 args) w:=enters_of Tryz.func73 (by kernel_rfl) rfl
     have bd:∀args w,(callFunc 36 args).run Tryz.prog w=.ok (.enter 36 args) w:=enters_of Tryz.func36 (by kernel_rfl) rfl
     go_region_law
      (first
       | (refine zbW (by rfl) 73 [.tmp 31,.tmp 32] #[27,22] (by rfl) ic [.slice ka km kc,.slice ra r.length rc] (by rfl) (zaa HP) ?_;clear HP;rintro e w6 ⟨v6,rfl,F6,Wc,Jd,yb,qa,Qd⟩;have c4:w6.cell? ⟨po,4,none⟩=some (.slice ka km kc):=(Na.loc.frm qa ga).cell 4;have za:=pa.frm qa Rc;have k0:w6.cell? ⟨wr.heap.size,0,none⟩=some (.int .i64 kid.kind):=za.cell 0;have k1:w6.cell? ⟨wr.heap.size,1,none⟩=some (.slice Ta kid.name.length aa):=za.cell 1;have k2:w6.cell? ⟨wr.heap.size,2,none⟩=some (.slice Ua kid.text.length ca):=za.cell 2;have k3:w6.cell? ⟨wr.heap.size,3,none⟩=some (.slice da kid.attrs.length Sa):=za.cell 3;have k4:w6.cell? ⟨wr.heap.size,4,none⟩=some (.slice ea kid.kids.length Za):=za.cell 4;have Dd:Below w0.heap.size w0 w6:=fb.trans (qa.below fb.size (zaa Xb));obtain⟨a6,n6,m6,Hd⟩:∃a6 n6 m6,v6=.slice a6 n6 m6:=(by obtain⟨_,_,_,_,_,e4,_⟩:=Wc;obtain⟨a,b,h⟩:=zbS e4;exact⟨a,_,b,h⟩);subst Hd;refine⟨_,rfl,?_⟩)
       | (refine zbW (by rfl) 36 [.tmp 34] #[29] (by rfl) bd [.agg #[.int .i64 kid.kind,.slice Ta kid.name.length aa,.slice Ua kid.text.length ca,.slice da kid.attrs.length Sa,.slice ea kid.kids.length Za]] (by rfl) (zaa HK w6 _ _ _ _ _ ((zaa HX).keep Dd) (zaa Od)) ?_;clear HK;rintro e w7 ⟨kd,a1,n1,c1,a2,n2,c2,a3,n3,c3,a4,n4,cz,rfl,G,hG,lc,rG,fa⟩;have c4:w7.cell? ⟨po,4,none⟩=some (.slice ka km kc):=((Na.loc.frm qa ga).all fa).cell 4;have Db:=za.all fa;have k0:w7.cell? ⟨wr.heap.size,0,none⟩=some (.int .i64 kid.kind):=Db.cell 0;have k1:w7.cell? ⟨wr.heap.size,1,none⟩=some (.slice Ta kid.name.length aa):=Db.cell 1;have k2:w7.cell? ⟨wr.heap.size,2,none⟩=some (.slice Ua kid.text.length ca):=Db.cell 2;have k3:w7.cell? ⟨wr.heap.size,3,none⟩=some (.slice da kid.attrs.length Sa):=Db.cell 3;have k4:w7.cell? ⟨wr.heap.size,4,none⟩=some (.slice ea kid.kids.length Za):=Db.cell 4;have Cb:Below w7.heap.size w7 (w7.alloc (.cells #[.int .i64 kd,.slice a1 n1 c1,.slice a2 n2 c2,.slice a3 n3 c3,.slice a4 n4 cz] 29)):=(Below.refl _ _).alloc (Nat.le_refl _) _;have He:(w7.alloc (.cells #[.int .i64 kd,.slice a1 n1 c1,.slice a2 n2 c2,.slice a3 n3 c3,.slice a4 n4 cz] 29)).cell? ⟨po,4,none⟩=some (.slice ka km kc):=(((Na.loc.frm qa ga).all fa).all Cb).cell 4;have Ob:=Db.all Cb;have qd:(w7.alloc (.cells #[.int .i64 kd,.slice a1 n1 c1,.slice a2 n2 c2,.slice a3 n3 c3,.slice a4 n4 cz] 29)).cell? ⟨wr.heap.size,0,none⟩=some (.int .i64 kid.kind):=Ob.cell 0;have Fe:(w7.alloc (.cells #[.int .i64 kd,.slice a1 n1 c1,.slice a2 n2 c2,.slice a3 n3 c3,.slice a4 n4 cz] 29)).cell? ⟨wr.heap.size,1,none⟩=some (.slice Ta kid.name.length aa):=Ob.cell 1;have md:(w7.alloc (.cells #[.int .i64 kd,.slice a1 n1 c1,.slice a2 n2 c2,.slice a3 n3 c3,.slice a4 n4 cz] 29)).cell? ⟨wr.heap.size,2,none⟩=some (.slice Ua kid.text.length ca):=Ob.cell 2;have yd:(w7.alloc (.cells #[.int .i64 kd,.slice a1 n1 c1,.slice a2 n2 c2,.slice a3 n3 c3,.slice a4 n4 cz] 29)).cell? ⟨wr.heap.size,3,none⟩=some (.slice da kid.attrs.length Sa):=Ob.cell 3;have sd:(w7.alloc (.cells #[.int .i64 kd,.slice a1 n1 c1,.slice a2 n2 c2,.slice a3 n3 c3,.slice a4 n4 cz] 29)).cell? ⟨wr.heap.size,4,none⟩=some (.slice ea kid.kids.length Za):=Ob.cell 4;refine⟨_,rfl,?_⟩)
       | (refine zeJ (R:=OwNode (n+1)) (fun h f d=>OwNode.frm h f d) rfl (.tmp 33) (.tmp 36) 27 rfl 29 i0 (.agg #[.int .i64 0,.slice none 0 0,.slice none 0 0,.slice none 0 0,.slice none 0 0]) 5 104 Tryz.underlying27 wc Ld Yd uc rfl (by decide) _ (A.map (unMb n)++(cutL r).map (txtN n)) F6 (by rfl) (OwKids.frm (OwKids.frm Wc (Frm.ofBelow fa []) (fun _ _=>by simp)) (Frm.ofBelow Cb []) (fun _ _=>by simp)) Jd ⟨w7.heap.size,0,none⟩ 1 [.int .i64 kd,.slice a1 n1 c1,.slice a2 n2 c2,.slice a3 n3 c3,.slice a4 n4 cz] (zaB (n+1) kid) G (by rfl) rfl (zwp w7 _ _ _ _ _ _) (by intro y hy;simp at hy;rcases hy with rfl | rfl | rfl | rfl | rfl<;>rfl) (hG.keep Cb) lc (fun g hg Jb=>by have:=(yb g hg).2;have:=(rG g Jb).1;omega) (fun q hq=>by have h1:=fa.size;have h2:=Cb.size;rcases hq with hq | hq;(have:=(yb q hq).2;omega);(have:=(rG q hq).2;omega)) (by rw [List.length_append,List.length_map,List.length_map];unfold maxLen;omega) (by rw [List.length_append,List.length_map,List.length_map];omega) ?_;intro g9 Ba w9 F9 kb xc sc Ed Ie;generalize ((A.map (unMb n)++(cutL r).map (txtN n)).length+1)=n9 at kb ⊢;have Ha:Frm wa.drew w9 (FB (.slice ka km kc)):=(qa.more (Frm.ofBelow (zal fa Cb) []) (fun _ h=>by cases h)).more Ed Qd;have c4:w9.cell? ⟨po,4,none⟩=some (.slice ka km kc):=(Na.loc.frm Ha ga).cell 4;have Gb:=pa.frm Ha Rc;have k0:w9.cell? ⟨wr.heap.size,0,none⟩=some (.int .i64 kid.kind):=Gb.cell 0;have k1:w9.cell? ⟨wr.heap.size,1,none⟩=some (.slice Ta kid.name.length aa):=Gb.cell 1;have k2:w9.cell? ⟨wr.heap.size,2,none⟩=some (.slice Ua kid.text.length ca):=Gb.cell 2;have k3:w9.cell? ⟨wr.heap.size,3,none⟩=some (.slice da kid.attrs.length Sa):=Gb.cell 3;have k4:w9.cell? ⟨wr.heap.size,4,none⟩=some (.slice ea kid.kids.length Za):=Gb.cell 4;have ed:=(Na.loc.frm Ha ga).frozen 4;have Rb:=Gb.other po 4 (.slice (some ⟨g9,0,none⟩) n9 Ba) Sd;have Ae:(w9.setCell ⟨po,4,none⟩ (.slice (some ⟨g9,0,none⟩) n9 Ba)).cell? ⟨wr.heap.size,0,none⟩=some (.int .i64 kid.kind):=Rb.cell 0;have ld:(w9.setCell ⟨po,4,none⟩ (.slice (some ⟨g9,0,none⟩) n9 Ba)).cell? ⟨wr.heap.size,1,none⟩=some (.slice Ta kid.name.length aa):=Rb.cell 1;have Ee:(w9.setCell ⟨po,4,none⟩ (.slice (some ⟨g9,0,none⟩) n9 Ba)).cell? ⟨wr.heap.size,2,none⟩=some (.slice Ua kid.text.length ca):=Rb.cell 2;have Be:(w9.setCell ⟨po,4,none⟩ (.slice (some ⟨g9,0,none⟩) n9 Ba)).cell? ⟨wr.heap.size,3,none⟩=some (.slice da kid.attrs.length Sa):=Rb.cell 3;have wd:(w9.setCell ⟨po,4,none⟩ (.slice (some ⟨g9,0,none⟩) n9 Ba)).cell? ⟨wr.heap.size,4,none⟩=some (.slice ea kid.kids.length Za):=Rb.cell 4))
     all_goals
      have Nc:∀q∈F9,(q∈Fk∨wa.drew.heap.size<=q)∧q<w9.heap.size:=fun q hq=>by
       refine⟨?_,OwElems.lt kb (fun C x G h=>OwNode.lt h) q hq⟩
       have s6:=qa.size
       have s7:=fa.size
       rcases sc q hq with h | h | h
       ·exact (yb q h).1
       ·have:=(rG q h).1;right;omega
       ·right;simp only [World.size_alloc]at h;omega
      have Fc:=Na.setKids Ha ga (fun q hq Ga=>(List.nodup_append.1 Na.nodup).2.2 q hq q (Da q Ga) rfl) kb xc Nc oa
      have Ad:Own (w9.setCell ⟨po,4,none⟩ (.slice (some ⟨g9,0,none⟩) n9 Ba)) w1.heap.size (.slice ra 0 rc) []:=((ta.frm Ha gb).frm (Frm.set w9 po 4 _) (fun q hq Ga=>(zaa Ab q hq).1 (by simpa using Ga))).cut0
      have Cd:Hid (∀q∈FB (.slice ra 0 rc),q≠po∧q∉FB (.slice p2 t.name.length Ya)++FB (.slice none 0 0)++Fa++F9):=fun q hq=>by
       rw [zBS ra 0 r.length rc]at hq
       have hd:=zaa Ab q hq
       refine⟨hd.1,fun hm=> ?_⟩
       rcases List.mem_append.1 hm with h | h
       ·exact hd.2 (List.mem_append_left _ h)
       ·rcases (Nc q h).1 with h' | h'
        ·exact hd.2 (List.mem_append_right _ h')
        ·have:=(ta.lt q (by simpa [FB]using hq)).2;omega
      have Bd:Below w0.heap.size w0 w9:=fb.trans (Ha.below fb.size (zaa Xb))
      have Kb:=Bd.setCell (p:=⟨po,4,none⟩) (by show w0.heap.size<=po;omega) (.slice (some ⟨g9,0,none⟩) n9 Ba)
      have wb:w0.heap.size+1∉FB (.slice ka km kc):=fun h=>by
       have:=(Na.rng _ (List.mem_append_right _ (Da _ h))).1
       omega
      have Td:=((Kc.all bb).frm Ha wb).other po 4 (.slice (some ⟨g9,0,none⟩) n9 Ba) (by omega)
      have lb:w1.heap.size<=(w9.setCell ⟨po,4,none⟩ (.slice (some ⟨g9,0,none⟩) n9 Ba)).heap.size:=by
       have h1:=Ha.size
       have h2:wa.heap.size=wa.drew.heap.size:=rfl
       simp only [World.size_setCell]
       omega
      have gc:=hide (show OutAt n w1.heap.size (w9.setCell ⟨po,4,none⟩ (.slice (some ⟨g9,0,none⟩) n9 Ba)) po t.kind (.slice p2 t.name.length Ya) (.slice none 0 0) (.slice p3 t.attrs.length Ma) (.slice (some ⟨g9,0,none⟩) n9 Ba) t.name [] t.attrs ((A++(cutL r).map (Sum.inr:Xg->Mb (Tr (n+1)))++[(Sum.inl (zaB (n+1) kid):Mb (Tr (n+1)))]).map (unMb n)) Fa F9 by
       rw [List.map_append,List.map_append,zrl]
       exact Fc)
      clear Fc Na Bb
      generalize r.length=rn at *
      go_wp2_with fail
      go_roundw
      case rel=>exact⟨j+1,by omega,by go_num,[],_,_,_,_,F9,Ad,zaa gc,Cd,zaa Fb,Kb,Td,lb⟩
      case measure=>simp [intOf];omega
   ·have ob:Way n A r [] ms:=by
     have:=zaa ia
     rwa [List.drop_of_length_le (by rw [<-hms];simp;omega)]at this
    have ub:=ob.len
    have HP:=hide (ziz n wr ka km kc ra rb 0 rc (A.map (unMb n)) Fk r hO.kids Vb Tb Qb Wb (fun w' f=>(Eb.frm f gb).byt) (by rw [List.length_map];omega))
    have ma:zaB (n+2) t=(⟨t.kind,t.name,[],t.attrs,A.map (unMb n)++(cutL r).map (txtN n)⟩:Nd (Tr (n+1))):=by
     rw [zxf,zaa Md,hms,<-ob.1]
     simp only [zbn,List.map_append,zrl]
     rfl
    have HT:=hide ma
    have y4:wr.cell? ⟨po,4,none⟩=some (.slice ka km kc):=hO.loc.cell 4
    have ga:po∉FB (.slice ka km kc):=fun h=>(hO.rng po (List.mem_append_right _ (Da po h))).2.2 rfl
    have nb:¬ (j:Int)<(t.kids.length:Int):=by omega
    have Xb:w0.heap.size+1∉FB (.slice ka km kc):=fun h=>by
     have:=(hO.rng _ (List.mem_append_right _ (Da _ h))).1
     omega
    clear ma ia ob Bc he H
    generalize r.length=rn at *
    go_wp2_with fail
    refine (zaa HP).mono ?_
    clear HP
    rintro e w5 ⟨v5,rfl,F5,jb,Oc,Sc,Sb,yc⟩
    have db:=hO.setKids Sb ga (fun q hq Ga=>(List.nodup_append.1 hO.nodup).2.2 q hq q (Da q Ga) rfl) jb Oc Sc Ib
    have dc:=hO.loc.frm Sb ga
    have Tc:=lr.frm Sb Xb
    obtain⟨a5,m5,Xc⟩:∃a5 m5,v5=.slice a5 (A.map (unMb n)++(cutL r).map (txtN n)).length m5:=by
     obtain⟨_,_,_,_,_,e4,_⟩:=jb
     exact zbS e4
    generalize (A.map (unMb n)++(cutL r).map (txtN n)).length=n5 at Xc
    subst Xc
    have u4:w5.cell? ⟨po,4,none⟩=some (.slice ka km kc):=dc.cell 4
    have v4:=dc.frozen 4
    have Dc:po≠w0.heap.size+1:=by omega
    have na:=Tc.other po 4 (.slice a5 n5 m5) (fun e=>Dc e.symm)
    obtain⟨pd,zd,vd,fd,gd⟩:=db.loc.five
    obtain⟨g0,g1,g2,g3,g4⟩:=na.five
    have i0:=na.frozen 0
    have i1:=na.frozen 1
    have i2:=na.frozen 2
    have i3:=na.frozen 3
    have i4:=na.frozen 4
    obtain⟨lX,fX⟩:=zkQ na (.int .i64 t.kind) (.slice p2 t.name.length Ya) (.slice none 0 0) (.slice p3 t.attrs.length Ma) (.slice a5 n5 m5)
    have Yb:=db.frm fX (by simpa using Dc) (fun q hq Ga=>by
     have:=(db.rng q hq).1
     have e:q=w0.heap.size+1:=by simpa using Ga
     omega)
    have Jc:Below w0.heap.size w0 w5:=la.trans (Sb.below la.size (fun q hq=>by have:=(hO.rng q (List.mem_append_right _ (Da q hq))).1;omega))
    have Kb:=(Jc.setCell (p:=⟨po,4,none⟩) (by show w0.heap.size<=po;omega) (.slice a5 n5 m5))
    have Hb:=Kb.trans (fX.below Kb.size (fun q hq=>by have e:q=w0.heap.size+1:=(by simpa using hq);omega))
    have fin:=Yb.node k1 k2
    have HF:=hide (And.intro fin (And.intro Yb.nodup (And.intro Yb.rng Hb)))
    clear fin Yb Kb Hb fX Jc na Tc db hO jb Oc Sc Sb yc
    go_wp2_with fail
    obtain⟨fin,nd,rg,nc⟩:=zaa HF
    exact bodyPost_ret (v:=.agg #[.int .i64 t.kind,.slice p2 t.name.length Ya,.slice none 0 0,.slice p3 t.attrs.length Ma,.slice a5 n5 m5]) (by simp [results,Tryz.results36,go_sem,g0,g1,g2,g3,g4]) rfl ⟨t.kind,p2,_,Ya,none,0,0,p3,_,Ma,a5,n5,m5,rfl,_,by rw [zaa HT];exact fin,nd,fun q hq=>⟨by have:=(rg q hq).1;omega,(rg q hq).2.1⟩,nc⟩
end Go.Proofs.YtgjolijncmkkhaaGreatDoor
namespace Go.Proofs.YtgjolijncmkkhaaGreatDoor
open Go.RowKit
set_option linter.unusedVariables false
set_option maxRecDepth 100000
theorem zvX:∀(n:Nat) (t:Tr n),NoT n t->TdAt n t
 | 0,t,_=>t.elim
 | 1,t,h=>by
  intro w a b c d e Ca Da
  have hk:=ztk (t:=t)
  have Aa:RdNode 2 w [a,b,c,d,e] (up1 t):=by
   obtain⟨a1,b1,c1,d1,e0,k1,k2,hb,hc,hd,he⟩:=Ca
   rw [hk]at he
   exact⟨a1,b1,c1,d1,e0,k1,k2,hb,hc,hd,zvl he⟩
  have Ba:szT 2 (up1 t)<=2097152:=by
   have h1:szT 2 (up1 t)=t.name.length+t.text.length+szA t.attrs+(([]:List (Tr 1)).length+(([]:List (Tr 1)).map (szT 1)).sum):=rfl
   have h2:szT 1 t=t.name.length+t.text.length+szA t.attrs+(t.kids.length+(t.kids.map (szT 0)).sum):=rfl
   rw [h1]
   simp only [List.length_nil,List.map_nil,List.sum_nil]
   omega
  refine (zjL 0 (up1 t) h (fun k hm=>by cases hm) w a b c d e Aa Ba).mono ?_
  rintro e' w' ⟨kd,a1,n1,c1,a2,n2,c2,a3,n3,c3,a4,n4,c4,rfl,F,hO,nd,rg,hB⟩
  refine⟨kd,a1,n1,c1,a2,n2,c2,a3,n3,c3,a4,n4,c4,rfl,F,?_,nd,rg,hB⟩
  obtain⟨a',b',c',d',Fc,Fd,e1,k1,k2,o1,o2,o3,o4,o5⟩:=hO
  refine⟨a',b',c',d',Fc,Fd,e1,k1,k2,o1,o2,o3,?_,o5⟩
  show OwElems w' 29 5 d' t.kids (OwNode 0 w') Fd
  rw [hk]
  exact zrW (show OwElems w' 29 5 d' ([]:List (Tr 1)) (OwNode 1 w') Fd from o4)
 | n+2,t,h=>zjL n t h.1 (fun k hm hk=>zvX (n+1) k (h.2 k hm hk))
set_option maxHeartbeats 3200000 in
theorem zpt (n:Nat) (w:Xk) (a b c d e:Xl) (t:Tr (n+1)) (h:RdNode (n+1) w [a,b,c,d,e] t) (hsz:szT (n+1) t<=2097152) :
  Calls Tryz.prog 15 #[.agg #[a,b,c,d,e]] w fun e w'=>∃(kd:Int) (a1:Xi) (n1 c1:Nat) (a2:Xi) (n2 c2:Nat) (a3:Xi) (n3 c3:Nat) (a4:Xi) (n4 c4:Nat),e=.returned (.agg #[.int .i64 kd,.slice a1 n1 c1,.slice a2 n2 c2,.slice a3 n3 c3,.slice a4 n4 c4])∧∃F,OwNode (n+1) w' [.int .i64 kd,.slice a1 n1 c1,.slice a2 n2 c2,.slice a3 n3 c3,.slice a4 n4 c4] (zbc n t) F∧F.Nodup∧Rng F w.heap.size w'.heap.size∧Below w.heap.size w w':=by
 obtain⟨z,ab,nb,cb,ac,nc,cc,ad,nd,cd,ae,ne,ce,rfl,rfl,rfl,rfl,rfl⟩:=zjg h
 obtain⟨l0,l1,Ba⟩:=two w #[.int .i64 z,.slice ab nb cb,.slice ac nc cc,.slice ad nd cd,.slice ae ne ce] #[.int .i64 0,.slice none 0 0,.slice none 0 0,.slice none 0 0,.slice none 0 0] 29 29
 have c1:=zcO n _ _ _ _ _ _ t (h.keep Ba) hsz
 obtain⟨x0,x1,x2,x3,x4⟩:=l0.five
 by_cases hk:okN n t=true
 ·have hf:zbc n t=zaB (n+1) t:=by unfold zbc;exact if_pos hk
  have HT:=hide (zvX (n+1) t (zBM hk))
  rw [hk]at c1
  rw [hf]
  clear hk hf
  go_enter Tryz.func15,Tryz.ntmps15
  go_wp2_with fail
  refine c1.mono ?_
  rintro e w1 ⟨rfl,hb⟩
  have Aa:=Ba.trans (hb.mono Ba.size)
  obtain⟨y0,y1,y2,y3,y4⟩:=(l0.all hb).five
  have l2:=l1.all hb
  clear x0 x1 x2 x3 x4
  go_wp2_with fail
  refine (zaa HT w1 _ _ _ _ _ (h.keep Aa) hsz).mono ?_
  rintro e w2 ⟨kd,a1,n1,c1,a2,n2,c2,a3,n3,c3,a4,n4,c4,rfl,G,hO,Ka,rg,hB⟩
  have l3:=l2.all hB
  obtain⟨g0,g1,g2,g3,g4⟩:=l3.five
  have i0:=l3.frozen 0
  have i1:=l3.frozen 1
  have i2:=l3.frozen 2
  have i3:=l3.frozen 3
  have i4:=l3.frozen 4
  obtain⟨lX,fX⟩:=zkQ l3 (.int .i64 kd) (.slice a1 n1 c1) (.slice a2 n2 c2) (.slice a3 n3 c3) (.slice a4 n4 c4)
  have Ma:=l2.lt
  have Ha:=hO.frm fX (fun q hq Ja=>by
   have:=(rg q hq).1
   have e:q=w.heap.size+1:=by simpa using Ja
   omega)
  have Fa:=zal Aa hB
  have Ca:=Fa.trans (fX.below Fa.size (fun q hq=>by have e:q=w.heap.size+1:=(by simpa using hq);omega))
  have Ia:=Aa.size
  have Da:Rng G w.heap.size _:=rg.mono Ia fX.size
  have HF:=hide (And.intro Ha (And.intro Da Ca))
  clear Ha Da Ca hO rg fX hB Fa y0 y1 y2 y3 y4
  go_wp2_with fail
  obtain⟨fin,Da,La⟩:=zaa HF
  exact bodyPost_ret (v:=.agg #[.int .i64 kd,.slice a1 n1 c1,.slice a2 n2 c2,.slice a3 n3 c3,.slice a4 n4 c4]) (by simp [results,Tryz.results15,go_sem,g0,g1,g2,g3,g4]) rfl ⟨kd,a1,n1,c1,a2,n2,c2,a3,n3,c3,a4,n4,c4,rfl,G,fin,Ka,Da,La⟩
 ·have hf:zbc n t=(⟨0,[],[],[],[]⟩:Nd (Tr n)):=by unfold zbc;exact if_neg hk
  have Ga:okN n t=false:=by simpa using hk
  rw [Ga]at c1
  rw [hf]
  clear hk Ga hf
  go_enter Tryz.func15,Tryz.ntmps15
  go_wp2_with fail
  refine c1.mono ?_
  rintro e w1 ⟨rfl,hb⟩
  have Aa:=Ba.trans (hb.mono Ba.size)
  have l3:=l1.all hb
  obtain⟨g0,g1,g2,g3,g4⟩:=l3.five
  have i0:=l3.frozen 0
  have i1:=l3.frozen 1
  have i2:=l3.frozen 2
  have i3:=l3.frozen 3
  have i4:=l3.frozen 4
  obtain⟨lX,fX⟩:=zkQ l3 (.int .i64 0) (.slice none 0 0) (.slice none 0 0) (.slice none 0 0) (.slice none 0 0)
  have Ca:=Aa.trans (fX.below Aa.size (fun q hq=>by have e:q=w.heap.size+1:=(by simpa using hq);omega))
  have fin:∀W:Xk,OwNode (n+1) W [.int .i64 0,.slice none 0 0,.slice none 0 0,.slice none 0 0,.slice none 0 0] (⟨0,[],[],[],[]⟩:Nd (Tr n)) []:=fun W=>
   ⟨.slice none 0 0,.slice none 0 0,.slice none 0 0,.slice none 0 0,[],[],rfl,by show (-9223372036854775808:Int)<=0;omega,by show (0:Int)<=9223372036854775807;omega,⟨zaI,World.ownsRow_nil _ _ _ _⟩,⟨zaI,World.ownsRow_nil _ _ _ _⟩,OwElems.naught _ _ _ _,OwElems.naught _ _ _ _,by simp [FB,Value.ownBlock]⟩
  have HF:=hide Ca
  clear Ca fX x0 x1 x2 x3 x4
  go_wp2_with fail
  exact bodyPost_ret (v:=.agg #[.int .i64 0,.slice none 0 0,.slice none 0 0,.slice none 0 0,.slice none 0 0]) (by simp [results,Tryz.results15,go_sem,g0,g1,g2,g3,g4]) rfl ⟨0,none,0,0,none,0,0,none,0,0,none,0,0,rfl,[],fin _,List.nodup_nil,Rng.nil _ _,zaa HF⟩
end Go.Proofs.YtgjolijncmkkhaaGreatDoor
