/- Own texts joined: EvV, EvY, EvZ, EvA, EvB, EvC, EvD, EvE, EvF. -/
import Derived.Test.YtgjolijncmkkhaaGreatDoorQa
import Derived.Test.YtgjolijncmkkhaaGreatDoorQj
import Derived.Laws.BytesString
namespace Go.Proofs.YtgjolijncmkkhaaGreatDoor
open Go.RowKit
set_option linter.unusedVariables false
variable {P:Program} {ρ0:Rn}
theorem zqo {t:Xm} {z:Xl} (h:(P.info? t).bind (·.zero)=some z) (w:Xk):(zeroValue t).run P w=.ok z w:=by
 cases hi:P.info? t with
 | none=>rw [hi]at h;cases h
 | some i=>
  rw [hi]at h
  simp only [Option.bind_some]at h
  simp [zeroValue,typeInfo,hi,h]
theorem zna {ρ:Rn} {v v':Xl} {b:Bool} (h:VL ρ v v'):VL ρ (.tuple ⟨[v,.bool b]⟩) (.tuple #[v',.bool b]):=
 VL.tuple.2 ⟨[v',.bool b],rfl,v',[.bool b],rfl,h,.bool b,[],rfl,VL.bool.2 rfl,rfl⟩
theorem zmw {e:En} {m:Operand->Xl} (he:EnvR ρ0 e m) (x:Operand) (xt t:Xm) (ok:Bool) :
  Sim P ρ0 (zbM P x t ok e) (Instr.typeAssert (m x) xt t ok) fun ρ a v=>VL ρ a v:=by
 unfold zbM
 split
 ·exact .fail
 ·rename_i d hni hu
  split
  ·rename_i u v hx
   obtain⟨v',e1,hv⟩:=VL.iface.1 (he x _ hx)
   rw [e1]
   have hrun:∀w,(Instr.typeAssert (.iface u v') xt t ok).run P w=(if u=t then (Pure.pure (if ok then .tuple #[v',.bool true] else v'):Sem Xl) else
     (if ok then do Pure.pure (.tuple #[<-zeroValue t,.bool false]) else runtimePanic (.typeAssertion (some xt) (some u) t ""))).run P w:=by
    intro w
    simp only [Instr.typeAssert,Sem.run_bind,run_underlying hu,Result.andThen]
   unfold zjw
   split
   ·rename_i hb
    have hut:=Nat.eq_of_beq_eq_true hb
    refine Sim.of (v:=.tuple #[v',.bool true]) (fun w=> ?_) fun ρ hρ=>zna (hv.grow hρ)
    rw [hrun,if_pos hut];rfl
   ·rename_i hb
    have hut:=Nat.eq_of_beq_eq_true hb
    refine Sim.of (v:=v') (fun w=> ?_) fun ρ hρ=>hv.grow hρ
    rw [hrun,if_pos hut];rfl
   ·rename_i hb
    have hut:¬ u=t:=fun h=>by subst h;rw [Nat.beq_refl]at hb;cases hb
    split
    ·rename_i z hz
     split
     ·rename_i hp
      refine Sim.of (v:=.tuple #[z,.bool false]) (fun w=> ?_) fun ρ hρ=>zna (zdg hp)
      rw [hrun,if_neg hut]
      simp only [if_true,Sem.run_bind,zqo hz,Result.andThen,Sem.run_pure]
     ·exact .fail
    ·exact .fail
   ·exact .fail
  ·exact .fail
 ·exact .fail
theorem zgU {w:Xk} {r:Nat} {es:Array MapEntry} {c:Nat} (h:w.heap[r]? = some (.map es c)):(getObj r).run P w=.ok (.map es c) w:=by
 simp only [getObj,Sem.run,h]
theorem zuB {w:Xk} {r:Nat} {es:Array MapEntry} {c:Nat} (h:w.heap[r]? = some (.map es c)) (o:Obj):(setObj r o).run P w=.ok () { w with heap:=w.heap.setIfInBounds r o }:=by
 simp only [setObj,Sem.run,h]
theorem zkb {ok b:Bool} {v x:Xl} {s s':Hp} (h:Tells (zgv ok v b) s x s'):zaL v=true∧x=(if ok then .tuple ⟨[v,.bool b]⟩ else v)∧s'=s:=by
 unfold zgv at h
 split at h
 ·rename_i hp;obtain⟨rfl,rfl⟩:=zad h;exact⟨hp,rfl,rfl⟩
 ·rename_i hp;obtain⟨rfl,rfl⟩:=zad h;exact⟨hp,rfl,rfl⟩
 ·exact (zag h).elim
theorem znZ {ρ:Rn} {ok b:Bool} {v:Xl} (hp:zaL v=true):VL ρ (if ok then .tuple ⟨[v,.bool b]⟩ else v) (if ok then .tuple #[v,.bool b] else v):=by
 cases ok
 ·exact zdg hp
 ·exact zna (zdg hp)
theorem ztT {e:En} {m:Operand->Xl} (he:EnvR ρ0 e m) (t:Xm) (x ix:Operand) (ok:Bool):Sim P ρ0 (zdz P t x ix ok e) (Instr.lookup t (m x) (m ix) ok) fun ρ a v=>VL ρ a v:=by
 unfold zdz
 split
 ·rename_i r k hx hk
  split
  ·rename_i hp
   have Da:=zfH he hk hp
   intro w0 B s s' v ρ w hρ ht H Ga
   obtain⟨p,Fa,e1⟩:=VL.map.1 ((he x _ hx).grow hρ)
   obtain⟨o,s1,h1,h2,_⟩:=zac (zcY r) ht
   obtain⟨g1,g2,g3⟩:=zgn h1
   unfold zlc at h2
   split at h2
   ·rename_i es c kt el hu
    obtain⟨q,hq,hm⟩:=H.obj r _ g1
    rw [Fa]at hq;cases hq
    have H':HR w0 B ρ s1.f w:=H.congr fun id=>by rw [g2]
    split at h2
    ·rename_i u i v1 Ca Ba
     obtain⟨Aa,rfl,rfl⟩:=zkb h2
     refine⟨_,w,ρ,?_,H',.rfl,znZ Aa⟩
     rw [e1,Da]
     simp only [Instr.lookup,Sem.run_bind,run_underlying hu,Result.andThen,zgU hm,Sem.run_pure,zco _ _ Ca,zco _ _ Ba]
    ·rename_i u Ca Ba
     split at h2
     ·rename_i z hz
      obtain⟨Aa,rfl,rfl⟩:=zkb h2
      refine⟨_,w,ρ,?_,H',.rfl,znZ Aa⟩
      rw [e1,Da]
      simp only [Instr.lookup,Sem.run_bind,run_underlying hu,Result.andThen,zgU hm,Sem.run_pure,zco _ _ Ca,zco _ _ Ba,zqo hz]
     ·exact (zag h2).elim
    ·exact (zag h2).elim
   ·exact (zag h2).elim
  ·exact .fail
 ·exact .fail
theorem zhO {e:En} {m:Operand->Xl} (he:EnvR ρ0 e m) (t:Xm) (x k y:Operand) :
  Sim P ρ0 (zbh P t x k y e) (do Instr.mapUpdate t (m x) (m k) (m y);Pure.pure Next.skip) OpR:=by
 unfold zbh
 split
 ·rename_i r kv v hx hk hy
  split
  ·rename_i hp
   rw [Bool.and_eq_true]at hp
   have Da:=zfH he hk hp.1
   have Ga:=zfH he hy hp.2
   intro w0 B s s' u ρ w hρ ht H Ja
   obtain⟨p,Ba,e1⟩:=VL.map.1 ((he x _ hx).grow hρ)
   obtain⟨o,s1,h1,h2,_⟩:=zac (zcY r) ht
   obtain⟨g1,g2,g3⟩:=zgn h1
   unfold zpb at h2
   split at h2
   ·rename_i es c kt el hu
    obtain⟨q,hq,hm⟩:=H.obj r _ g1
    rw [Ba]at hq;cases hq
    split at h2
    ·rename_i u1 Ia Ha
     rw [forceL_eq,forceN_eq]at h2
     obtain⟨u2,s2,h3,h4,_⟩:=zac (zcv _ _) h2
     obtain⟨Fa,g4,g5⟩:=zeK h3
     obtain⟨rfl,rfl⟩:=zad h4
     have hB:B<=p.blk:=H.own r _ p g1 Fa Ba
     have Ca:p.blk<w.heap.size:=by
      rcases Nat.lt_or_ge p.blk w.heap.size with h | h
      ·exact h
      ·rw [Array.getElem?_eq_none h]at hm;cases hm
     refine⟨.skip,{ w with heap:=w.heap.setIfInBounds p.blk (.map ⟨es++[{ key:=kv,val:=v,born:=c }]⟩ (c+1)) },ρ,?_,?_,.rfl,.inr ⟨rfl,rfl⟩⟩
     ·rw [e1,Da,Ga]
      have Aa:(⟨es⟩:Array MapEntry).push { key:=kv,val:=v,born:=c }=⟨es++[{ key:=kv,val:=v,born:=c }]⟩:=by apply Array.ext';simp
      simp only [Instr.mapUpdate,Sem.run_bind,run_underlying hu,Result.andThen,zgU hm,zco _ _ Ia,zco _ _ Ha,zuB hm,Sem.run_pure,Aa]
     ·rw [g4,g2]
      refine H.set g1 Ba (H.below.trans ⟨rfl,rfl,rfl,by simp,fun j hj=> ?_⟩) (fun j hj=> ?_) ⟨p,Ba,?_⟩
      ·simp only [Array.getElem?_setIfInBounds];rw [if_neg (by omega)]
      ·simp only [Array.getElem?_setIfInBounds];rw [if_neg (fun h=>hj h.symm)]
      ·simp [Ca]
    ·exact (zag h2).elim
   ·exact (zag h2).elim
  ·exact .fail
 ·exact .fail
theorem znK (off:Nat):∀(vs:Xj) (j:Nat) (l:Xj),off+j+vs.length<=l.length->
  ((vs.zipIdx j).foldl (fun (cs:Array Xl) (x:Xl×Nat)=>cs.setIfInBounds (off+x.2) x.1) ⟨l⟩).toList=l.take (off+j)++(vs++l.drop (off+j+vs.length))
 | [],j,l,h=>by simp
 | v::vs,j,l,h=>by
  simp only [List.length_cons]at h
  simp only [List.zipIdx_cons,List.foldl_cons]
  have e:(⟨l⟩:Array Xl).setIfInBounds (off+j) v=⟨l.set (off+j) v⟩:=by apply Array.ext';simp
  rw [e,znK off vs (j+1) (l.set (off+j) v) (by rw [List.length_set];omega)]
  simp only [List.length_cons]
  have h1:(l.set (off+j) v).take (off+(j+1))=l.take (off+j)++[v]:=by
   apply List.ext_getElem?
   intro i
   rw [List.getElem?_take,List.getElem?_set]
   by_cases hi:i<off+j
   ·rw [if_pos (by omega),if_neg (by omega),List.getElem?_append_left (by rw [List.length_take];omega),List.getElem?_take,if_pos hi]
   ·by_cases hi2:i=off+j
    ·subst hi2
     rw [if_pos (by omega),if_pos rfl,if_pos (by omega),List.getElem?_append_right (by rw [List.length_take];omega),List.length_take,show off+j-min (off+j) l.length=0 by omega]
     rfl
    ·rw [if_neg (by omega),List.getElem?_eq_none (by rw [List.length_append,List.length_take];simp;omega)]
  have h2:(l.set (off+j) v).drop (off+(j+1)+vs.length)=l.drop (off+j+(vs.length+1)):=by
   apply List.ext_getElem?
   intro i
   rw [List.getElem?_drop,List.getElem?_drop,List.getElem?_set,if_neg (by omega)]
   congr 1
   omega
  rw [h1,h2]
  simp
theorem zpz {place:Nat->Option (Nat×Nat)}:∀(parts:List (Nat×Xl)) (parts':List (Nat×Xl)) (l l' k:Xj) (s s':Hp),
  LR (VL ρ0) l l'->parts'.map (·.1)=parts.map (·.1)->LR (VL ρ0) (parts.map (·.2)) (parts'.map (·.2))->Tells (zev place l parts) s k s'->s'=s∧∃k',Instr.fill place ⟨l'⟩ parts'=some ⟨k'⟩∧LR (VL ρ0) k k'
 | [],parts',l,l',k,s,s',hl,h1,h2,ht=>by
  have:parts'=[]:=by simpa using h1
  subst this
  unfold zev at ht
  obtain⟨rfl,rfl⟩:=zad ht
  exact⟨rfl,l',rfl,hl⟩
 | (i,v)::parts,[],l,l',k,s,s',hl,h1,h2,ht=>by simp at h1
 | (i,v)::parts,(i',v')::parts',l,l',k,s,s',hl,h1,h2,ht=>by
  simp only [List.map_cons,List.cons.injEq]at h1
  obtain⟨rfl,h1⟩:=h1
  obtain⟨u',tl,e,hv,Ha⟩:=h2
  simp only [List.map_cons,List.cons.injEq]at e
  obtain⟨rfl,rfl⟩:=e
  unfold zev at ht
  split at ht
  ·rename_i Aa Da Ga
   split at ht
   ·rename_i vs Ka
    split at ht
    ·rename_i Ca
     obtain⟨l2,s1,t1,t2,_⟩:=zac (zff _ _ _) ht
     obtain⟨p1,rfl,rfl⟩:=zjE t1
     have hc:=zhi hv Ka
     have Fa:=hc.len
     rw [Array.length_toList]at Fa
     have La:v'.cells.size=Da:=by rw [Fa];exact Nat.eq_of_beq_eq_true Ca
     have Ma:=hl.len
     have Ba:=znK Aa v'.cells.toList 0 l' (by rw [Array.length_toList];omega)
     have hrel:LR (VL ρ0) (l.take Aa++(vs++l.drop (Aa+vs.length))) (l'.take Aa++(v'.cells.toList++l'.drop (Aa+vs.length))):=(hl.take Aa).app (hc.app (hl.drop _))
     obtain⟨rfl,k',Ja,Ia⟩:=zpz parts parts' _ _ k _ s' hrel h1 Ha t2
     refine⟨rfl,k',?_,Ia⟩
     rw [<-Ja]
     simp only [Instr.fill,Ga]
     rw [if_neg]
     ·congr 1
      apply Array.ext'
      rw [show (v'.cells.zipIdx.foldl (fun cs x=>match x with | (c,j)=>cs.setIfInBounds (Aa+j) c) (⟨l'⟩:Array Xl)).toList=_ from ?_]
      rw [<-Array.foldl_toList,Array.toList_zipIdx]
      simp only [Nat.add_zero]at Ba
      rw [Array.length_toList,Fa]at Ba
      exact Ba
     ·simp only [La,ne_eq,not_true_eq_false,decide_false,Bool.false_or,decide_eq_true_eq,List.size_toArray]
      omega
    ·exact (zag ht).elim
   ·exact (zag ht).elim
  ·exact (zag ht).elim
end Go.Proofs.YtgjolijncmkkhaaGreatDoor
namespace Go.Proofs.YtgjolijncmkkhaaGreatDoor
open Go.RowKit
set_option linter.unusedVariables false
variable {P:Program} {ρ0:Rn}
theorem zqk (l:Xj):∀(n i:Nat),(reps l n)[i]? = if i<n*l.length then l[i % l.length]? else none
 | 0,i=>by simp [reps]
 | n+1,i=>by
  rw [reps]
  by_cases h:i<l.length
  ·rw [List.getElem?_append_left h,if_pos (by rw [Nat.succ_mul];omega),Nat.mod_eq_of_lt h]
  ·rw [List.getElem?_append_right (by omega),zqk l n]
   by_cases h2:i<(n+1)*l.length
   ·rw [if_pos h2,if_pos (by rw [Nat.succ_mul]at h2;omega)]
    congr 1
    rw [<-Nat.mod_eq_sub_mod (by omega)]
   ·rw [if_neg h2,if_neg (by rw [Nat.succ_mul]at h2;omega)]
theorem zeh (l:Xj):∀n,(reps l n).length=n*l.length
 | 0=>by simp [reps]
 | n+1=>by rw [reps,List.length_append,zeh l n,Nat.succ_mul];omega
theorem zgX (z:Array Xl) (n:Nat):(Array.range (n*z.size)).map (fun i=>z[i % z.size]!)=⟨reps z.toList n⟩:=by
 apply Array.ext'
 apply List.ext_getElem?
 intro i
 rw [zqk,Array.length_toList]
 simp only [Array.toList_map,Array.toList_range,List.getElem?_map]
 by_cases h:i<n*z.size
 ·rw [if_pos h,List.getElem?_range h]
  have hz:0<z.size:=by
   rcases Nat.eq_zero_or_pos z.size with h0 | h0
   ·rw [h0]at h;simp at h
   ·exact h0
  have Aa:i % z.size<z.size:=Nat.mod_lt _ hz
  simp [Aa]
 ·rw [if_neg h,List.getElem?_eq_none (by simpa using Nat.le_of_not_lt h)]
  rfl
theorem zfB {ρ:Rn} {l:Xj} (h:LR (VL ρ) l l):∀n,LR (VL ρ) (reps l n) (reps l n)
 | 0=>rfl
 | n+1=>h.app (zfB h n)
theorem zng:∀(fs:List Field) (pl:List (Nat×Nat)),zpf P fs=some pl->∀w,(fs.mapM fun f=>do Pure.pure (f.offset,<-Go.sizeOf f.type):Sem (List (Nat×Nat))).run P w=.ok pl w
 | [],pl,h,w=>by cases h;rfl
 | f::fs,pl,h,w=>by
  unfold zpf at h
  split at h
  ·rename_i n l hz hl
   cases h
   simp only [List.mapM_cons,Sem.run_bind,zaQ hz,Result.andThen,Sem.run_pure,zng fs l hl w]
  ·cases h
theorem zsK {α β:Type}:∀(l:List α) (k:List β),k.length=l.length->(l.zip k).map (·.1)=l
 | [],[],_=>rfl
 | x::l,y::k,h=>by simp [zsK l k (by simpa using h)]
theorem ztj {α β:Type}:∀(l:List α) (k:List β),k.length=l.length->(l.zip k).map (·.2)=k
 | [],[],_=>rfl
 | x::l,y::k,h=>by simp [ztj l k (by simpa using h)]
theorem Sim.fill {γ δ:Type} {place:Nat->Option (Nat×Nat)} {l l':Xj} {parts:Array (Nat×Operand)} {m:Operand->Xl} {vs:Xj} {G:Xj->M γ} {c:Sem δ} {R:Rn->γ->δ->Prop}
  (hl:LR (VL ρ0) l l') (hvs:LR (VL ρ0) vs ((parts.toList.map (·.2)).map m))
  (h:∀k k',Instr.fill place ⟨l'⟩ (parts.map fun (i,x)=>(i,m x)).toList=some ⟨k'⟩->LR (VL ρ0) k k'->Sim P ρ0 (G k) c R):Sim P ρ0 (zaj (zev place l ((parts.toList.map (·.1)).zip vs)) G) c R:=by
 intro w0 B s s' a ρ w hρ ht H Ba
 obtain⟨k,s1,t1,t2,_⟩:=zac (zdi _ _ _) ht
 have Aa:vs.length=(parts.toList.map (·.1)).length:=by have:=hvs.len;simpa using this.symm
 obtain⟨rfl,k',hk,Ca⟩:=zpz (ρ0:=ρ0) ((parts.toList.map (·.1)).zip vs) (parts.map fun (i,x)=>(i,m x)).toList l l' k s s1 hl
  (by rw [zsK _ _ Aa];simp) (by
   have e:(parts.map fun (i,x)=>(i,m x)).toList.map (·.2)=(parts.toList.map (·.2)).map m:=by simp [Function.comp_def]
   rw [ztj _ _ Aa,e];exact hvs) t1
 exact h k k' hk Ca w0 B _ s' a ρ w hρ t2 H Ba
theorem zvL {e:En} {m:Operand->Xl} (he:EnvR ρ0 e m) (t:Xm) (parts:Array (Nat×Operand)) :
  Sim P ρ0 (zej P t parts e) (Instr.build t (parts.map fun (i,x)=>(i,m x))) fun ρ a v=>VL ρ a v:=by
 unfold zej
 refine Sim.aevs he _ (fun _=> ?_) fun vs Ga=> ?_
 ·split
  ·exact zab (zdi _ _ _) fun _=>zaf _
  ·exact zae
 ·split
  ·rename_i pl z hb
   unfold zvE at hb
   split at hb
   ·rename_i fs z' hu hz
    split at hb
    ·rename_i Ca ha
     cases hb
     obtain⟨zv,Fa,rfl,Aa⟩:=zcy hz
     refine Sim.fill (l':=zv.cells.toList) (zcb Fa) Ga fun k k' hk Ba=> ?_
     refine Sim.of (v:=.agg ⟨k'⟩) (fun w=> ?_) fun ρ hρ=>VL.agg.2 ⟨k',rfl,Ba.grow hρ⟩
     have Ha:(fs.mapM fun f=>do Pure.pure (f.offset,<-Go.sizeOf f.type):Sem (Array (Nat×Nat))).run P w=.ok ⟨Ca⟩ w:=by
      rw [Array.mapM_eq_mapM_toList,Sem.run_map,zng _ _ ha w];rfl
     have Ia:(fun (i:Nat)=>(⟨Ca⟩:Array (Nat×Nat))[i]?)=fun (i:Nat)=>Ca[i]? :=by funext i;simp
     have Da:(⟨zv.cells.toList⟩:Array Xl)=zv.cells:=by apply Array.ext';rfl
     rw [Da]at hk
     simp only [Instr.build,Sem.run_bind,Aa,Result.andThen,run_underlying hu,Ha,Ia,hk,Sem.run_pure]
    ·cases hb
   ·rename_i n el z' hu hz
    split at hb
    ·rename_i n' hs
     cases hb
     obtain⟨zv,Fa,rfl,Aa⟩:=zcy hz
     refine Sim.fill (l':=zv.cells.toList) (zcb Fa) Ga fun k k' hk Ba=> ?_
     refine Sim.of (v:=.agg ⟨k'⟩) (fun w=> ?_) fun ρ hρ=>VL.agg.2 ⟨k',rfl,Ba.grow hρ⟩
     have Da:(⟨zv.cells.toList⟩:Array Xl)=zv.cells:=by apply Array.ext';rfl
     rw [Da]at hk
     simp only [Instr.build,Sem.run_bind,Aa,Result.andThen,run_underlying hu,zaQ hs,hk,Sem.run_pure]
    ·cases hb
   ·cases hb
  ·exact .fail
theorem zmP {e:En} {m:Operand->Xl} (he:EnvR ρ0 e m) (t:Xm) (len:Nat) (parts:Array (Nat×Operand)) :
  Sim P ρ0 (zbP P t len parts e) (Instr.buildSlice t len (parts.map fun (i,x)=>(i,m x))) fun ρ a v=>VL ρ a v:=by
 unfold zbP
 refine Sim.aevs he _ (fun _=> ?_) fun vs La=> ?_
 ·repeat' (first | exact zae | (rw [forceL_eq]) | exact zab (zdi _ _ _) (fun _=>zab (zaM _ _ _) fun _=>zaf _) | split)
 ·split
  ·rename_i el Ha
   split
   ·rename_i n z hs hz
    split
    ·rename_i hc
     rw [Bool.and_eq_true,Bool.and_eq_true]at hc
     have Ma:=Nat.le_of_ble_eq_true hc.1.1
     have Na:=Nat.le_of_ble_eq_true hc.1.2
     have Ka:=Nat.eq_of_beq_eq_true hc.2
     rw [forceL_eq]
     obtain⟨zv,Ia,rfl,Ja⟩:=zcy hz
     have Ca:zv.cells.size=n:=by rw [<-Ka,Array.length_toList]
     refine Sim.fill (l':=reps zv.cells.toList len) (zfB (zcb Ia) len) La fun k k' hk Ga=> ?_
     intro w0 B s s' v ρ w hρ ht H Fa
     obtain⟨id,s1,t1,t2,_⟩:=zac (zaM _ _ _) ht
     obtain⟨rfl,rfl⟩:=zad t2
     obtain⟨a,w',ρ',hr,H',hE,p,h1,h2,h3,rfl⟩:=zji (P:=P) Ga w0 B s s' id ρ w hρ t1 H Fa
     refine⟨_,w',ρ',?_,H',hE,zps h1 h2 h3 (Nat.le_refl _) (by omega)⟩
     have Ba:len*n=0->(Array.range (len*n)).map (fun i=>(#[]:Array Xl)[i % (#[]:Array Xl).size]!)=(⟨reps zv.cells.toList len⟩:Array Xl):=by
      intro h0
      have:reps zv.cells.toList len=[]:=List.eq_nil_of_length_eq_zero (by rw [zeh,Array.length_toList,Ca,h0])
      rw [this,h0];simp
     have Aa:(Array.range (len*n)).map (fun i=>zv.cells[i % zv.cells.size]!)=(⟨reps zv.cells.toList len⟩:Array Xl):=by
      rw [<-Ca,zgX]
     have Da:Instr.fill (fun i=>some (i*n,n)) ⟨reps zv.cells.toList len⟩ (parts.map fun x=>(x.1,m x.2)).toList=some ⟨k'⟩:=hk
     simp only [Instr.buildSlice,Sem.run_bind,run_underlying (zcS Ha),Result.andThen,zaQ hs]
     rw [if_neg (by omega)]
     by_cases h0:len*n=0
     ·rw [if_pos h0]
      simp only [Sem.run_bind,Sem.run_pure,Result.andThen,Ba h0,Da,hr]
     ·rw [if_neg h0]
      simp only [Sem.run_bind,Ja,Sem.run_pure,Result.andThen,Aa,Da,hr]
    ·exact .fail
   ·exact .fail
  ·exact .fail
theorem zmy {m:Nat} (h:m<=4096):IntKind.wrap .i64 (m:Int)=(m:Int):=zlM m (by omega)
theorem zoJ {e:En} {m:Operand->Xl} (he:EnvR ρ0 e m) (t:Xm) (l c:Operand) :
  Sim P ρ0 (zcf P t l c e) (Instr.makeSlice t (m l) (m c)) fun ρ a v=>VL ρ a v:=by
 unfold zcf
 split
 ·rename_i n k el hl hc La
  split
  ·rename_i Ba Aa z hs hb hz
   split
   ·rename_i Ca
    simp only [Bool.and_eq_true]at Ca
    obtain⟨⟨h1,h2⟩,h3,h4⟩:=Ca
    have h1:=Nat.le_of_ble_eq_true h1
    have h2:=Nat.le_of_ble_eq_true h2
    have h3:=Nat.le_of_ble_eq_true h3
    have h4:=Nat.eq_of_beq_eq_true h4
    rw [forceL_eq,VL.int.1 (he l _ hl),VL.int.1 (he c _ hc)]
    obtain⟨zv,Na,rfl,Oa⟩:=zcy hz
    have Ia:zv.cells.size=Ba:=by rw [<-h4,Array.length_toList]
    intro w0 B s s' v ρ w hρ ht H Ka
    obtain⟨id,s1,t1,t2,_⟩:=zac (zaM _ _ _) ht
    obtain⟨rfl,rfl⟩:=zad t2
    obtain⟨a,w',ρ',hr,H',hE,p,p1,p2,p3,rfl⟩:=zji (P:=P) (zfB (zcb Na) k) w0 B s s' id ρ w hρ t1 H Ka
    refine⟨_,w',ρ',?_,H',hE,zps p1 p2 p3 h1 (by omega)⟩
    obtain⟨ti,Pa,Ma⟩:∃ti,P.info? el=some ti∧ti.bytes=Aa:=by
     cases hi:P.info? el with
     | none=>rw [hi]at hb;cases hb
     | some ti=>rw [hi]at hb;cases hb;exact⟨ti,rfl,rfl⟩
    have Fa:∀w,(typeInfo el).run P w=.ok ti w:=fun w=>by simp [typeInfo,Pa]
    have Ha:k*Ba=0->(Array.range (k*Ba)).map (fun i=>(#[]:Array Xl)[i % (#[]:Array Xl).size]!)=(⟨reps zv.cells.toList k⟩:Array Xl):=by
     intro h0
     have:reps zv.cells.toList k=[]:=List.eq_nil_of_length_eq_zero (by rw [zeh,Array.length_toList,Ia,h0])
     rw [this,h0];simp
    have Da:(Array.range (k*Ba)).map (fun i=>zv.cells[i % zv.cells.size]!)=(⟨reps zv.cells.toList k⟩:Array Xl):=by
     rw [<-Ia,zgX]
    have Ja:Aa*k<=4096*4096:=Nat.mul_le_mul h3 h2
    have Ga:(Aa:Int)*(k:Int)=((Aa*k:Nat):Int):=by simp
    simp only [Instr.makeSlice,asInt,asIntOf,Sem.run_bind,run_underlying (zcS La),Result.andThen,Sem.run_pure,Fa,Ma,Int.ofNat_eq_natCast,zmy h2,zmy (Nat.le_trans h1 h2),Ga]
    rw [if_neg (by simp;omega)]
    simp only [Sem.run_bind,run_askRoom,Result.andThen,Int.toNat_natCast,zaQ hs]
    by_cases h0:k*Ba=0
    ·rw [if_pos h0]
     simp only [Sem.run_bind,Sem.run_pure,Result.andThen,Ha h0,hr]
    ·rw [if_neg h0]
     simp only [Sem.run_bind,Oa,Sem.run_pure,Result.andThen,Da,hr]
   ·exact .fail
  ·exact .fail
 ·exact .fail
theorem zAH {t:Xm} {x x':Xl} (hx:VL ρ0 x x') (ts:Array Xm) (ty:Xm) (args:Array Xl) (h0:ts[0]? = some t) (h1:args[0]? = some x') :
  Sim P ρ0 (zmj P t x) (Builtin.len_ ts ty args) fun ρ a v=>VL ρ a v:=by
 unfold zmj
 split
 ·rename_i el a n c hu
  have:∃a' c',x'=.slice a' n c':=by
   cases a with
   | none=>obtain⟨rfl,rfl,e⟩:=VL.nils.1 hx;exact⟨_,_,e⟩
   | some a=>obtain⟨_,_,p,_,a',c',e,_⟩:=VL.slice.1 hx;exact⟨_,_,e⟩
  obtain⟨a',c',rfl⟩:=this
  refine Sim.of (v:=goInt n) (fun w=> ?_) fun ρ hρ=>VL.int.2 rfl
  simp only [Builtin.len_,h0,h1,Sem.run_bind,run_underlying hu,Result.andThen,Sem.run_pure]
 ·rename_i n el hu
  refine Sim.of (v:=goInt n) (fun w=> ?_) fun ρ hρ=>VL.int.2 rfl
  simp only [Builtin.len_,h0,h1,Sem.run_bind,run_underlying hu,Result.andThen,Sem.run_pure]
 ·rename_i b hu
  rw [forceN_eq]
  have e:=VL.string.1 hx
  subst e
  refine Sim.of (v:=goInt b.size) (fun w=> ?_) fun ρ hρ=>VL.int.2 rfl
  simp only [Builtin.len_,h0,h1,Sem.run_bind,run_underlying hu,Result.andThen,Sem.run_pure]
 ·exact .fail
end Go.Proofs.YtgjolijncmkkhaaGreatDoor
namespace Go.Proofs.YtgjolijncmkkhaaGreatDoor
open Go.RowKit
set_option linter.unusedVariables false
variable {P:Program} {ρ0:Rn}
theorem zkl {t:Xm} (h:isU8 P t=true):P.underlying t=some (.int .u8):=by
 unfold isU8 at h
 split at h
 ·rename_i h';exact h'
 ·cases h
theorem zkx {ρ:Rn}:∀(l:List UInt8),LR (VL ρ) (l.map fun x=>Value.int .u8 x.toNat) (l.map fun x=>Value.int .u8 x.toNat)
 | []=>rfl
 | x::l=>⟨_,_,rfl,VL.int.2 rfl,zkx l⟩
theorem zrG (src dst:Xm) (b:ByteArray):Sim P ρ0 (zgu P src dst b) (convert src dst (.string b)) fun ρ a v=>VL ρ a v:=by
 unfold zgu
 split
 ·rename_i el Qa
  split
  ·rename_i hc
   simp only [Bool.and_eq_true]at hc
   obtain⟨⟨h8,Ka⟩,La⟩:=hc
   have h8:=zkl h8
   have La:=Nat.le_of_ble_eq_true La
   obtain⟨ds,Oa⟩:=Option.isSome_iff_exists.1 Ka
   have Ha:=zcS Qa
   rw [forceL_eq]
   intro w0 B s s' v ρ w hρ ht H Ma
   obtain⟨id,s1,t1,t2,_⟩:=zac (zaM _ _ _) ht
   rw [forceN_eq]at t2
   obtain⟨rfl,rfl⟩:=zad t2
   obtain⟨h1,rfl,Sa,e1,e2⟩:=zdE t1
   have hn:=Ma s.n (Nat.le_refl _) (by omega)
   obtain⟨Aa,Da⟩:∃Aa,Aa=(Question.appendCap b.size 0 el).cut (w.tape w.drawn (.appendCap b.size 0 el)):=⟨_,rfl⟩
   have Va:b.size<=Aa:=by rw [Da];simp only [Question.cut];omega
   have Na:Aa<=9223372036854775807:=by
    rw [Da]
    simp only [Question.cut]
    have:=Nat.mod_lt (w.tape w.drawn (.appendCap b.size 0 el)) (show 0<2 ^ 63-b.size by omega)
    omega
   obtain⟨row,Ba⟩:∃row:Xj,row=b.data.toList.map fun x=>Value.int .u8 x.toNat:=⟨_,rfl⟩
   have Ta:row.length=b.size:=by rw [Ba,List.length_map];rfl
   obtain⟨rest,Ca⟩:∃rest:Xj,rest=List.replicate (Aa-b.size) (.int .u8 0):=⟨_,rfl⟩
   have Pa:rest.length=Aa-b.size:=by rw [Ca];simp
   have Ga:(convert src dst (.string b)).run P w=(Conv.stringToBytes el b).run P w:=by
    simp only [convert,Sem.run_bind,run_underlying Oa,run_underlying Ha,Result.andThen,run_underlying h8]
   have Ia:(b.data.map fun x=>Value.int .u8 x.toNat)++Array.replicate (Aa-b.size) (Value.int .u8 0)=(⟨row++rest⟩:Array Xl):=by
    apply Array.ext'
    rw [Ba,Ca];simp
   have Ja:(Conv.stringToBytes el b).run P w=.ok (.slice (some ⟨w.heap.size,0,none⟩) b.size Aa)
     { w with heap:=w.heap.push (.cells ⟨row++rest⟩ el ((row++rest).length,(row++rest).length+1)),drawn:=w.drawn+1 }:=by
    have hf:(Question.appendCap b.size 0 el).forced=false:=rfl
    simp only [Conv.stringToBytes,Sem.run_bind,run_choose,hf,Bool.false_eq_true,if_false,Result.andThen,<-Da,Ia,newRow,run_newObj,Sem.run_pure,markStringish,run_shape]
    have Fa:({ w with heap:=w.heap.push (.cells ⟨row++rest⟩ el),drawn:=w.drawn+1 }:Xk).shape? w.heap.size=some (el,(row++rest).length):=by
     simp [World.shape?]
    rw [Fa]
    simp only [run_freeze]
    congr 1
    unfold World.freeze
    rw [if_neg (by omega)]
    simp only [World.mk.injEq,and_true]
    apply Array.ext
    ·simp
    ·intro i Ua Ra
     simp only [Array.getElem_modify]
     split
     ·rename_i hi
      subst hi
      simp
     ·rename_i hi
      rw [Array.getElem_push_lt (by simp at Ra;omega),Array.getElem_push_lt]
   refine⟨_,_,ρ.put s.n ⟨w.heap.size,0,row.length,1,Aa-b.size⟩,Ga.trans Ja,?_,?_,?_⟩
   ·rw [e1,<-Ba]
    refine zjv (t':=el) (rest:=rest) (fz:=((row++rest).length,(row++rest).length+1)) 1 (Aa-b.size) H hn Sa (by rw [Ba];exact zkx _) (fun h=>by cases h) (fun _=>rfl) (by rw [Pa];omega)
     (zdT H.below (Nat.le_trans H.base H.below.size) _).drew ?_ (fun x hx=> ?_) ⟨.inr (Nat.le_refl _),fun _ h=>by cases h⟩
    ·simp
    ·simp only []
     rw [Array.getElem?_push,if_neg (by omega)]
   ·rw [e2];exact .put hn _
   ·rw [<-Ba]
    refine VL.slice.2 ⟨rfl,Nat.le_refl _,_,if_pos rfl,⟨w.heap.size,0,none⟩,Aa,by rw [Ta],?_,fun _=>rfl,Na⟩
    simp only [Nat.mul_one,Nat.zero_add,if_true]
    omega
  ·exact .fail
 ·exact zcP
theorem ziD:∀(vs:Xj) (bs:List UInt8),bytesOf vs=some bs->∃ns:Xg,vs=ns.map (Value.int .u8)∧bs=ns.map fun n=>UInt8.ofNat n.toNat
 | [],bs,h=>by cases h;exact⟨[],rfl,rfl⟩
 | v::vs,bs,h=>by
  unfold bytesOf at h
  split at h
  ·rename_i e;cases e
  ·rename_i n l e
   cases e
   split at h
   ·rename_i Aa hb
    cases h
    obtain⟨ns,rfl,rfl⟩:=ziD _ _ hb
    exact⟨n::ns,rfl,rfl⟩
   ·cases h
  ·cases h
theorem zqf {ρ:Rn}:∀(ns:Xg) (l:Xj),LR (VL ρ) (ns.map (Value.int .u8)) l->l=ns.map (Value.int .u8)
 | [],l,h=>h
 | n::ns,l,⟨v',t,e,hv,ht⟩=>by rw [e,VL.int.1 hv,zqf ns t ht];rfl
theorem zoi:∀(ns:Xg) (s:List UInt8),(ns.foldl (fun (r:ByteArray) n=>r.push (UInt8.ofNat n.toNat)) ⟨⟨s⟩⟩)=⟨⟨s++ns.map fun n=>UInt8.ofNat n.toNat⟩⟩
 | [],s=>by simp
 | n::ns,s=>by
  have e:(⟨⟨s⟩⟩:ByteArray).push (UInt8.ofNat n.toNat)=⟨⟨s++[UInt8.ofNat n.toNat]⟩⟩:=by
   show (⟨(⟨s⟩:Array UInt8).push (UInt8.ofNat n.toNat)⟩:ByteArray)=_
   congr 1
   apply Array.ext'
   simp
  simp only [List.foldl_cons,List.map_cons]
  rw [e,zoi ns]
  simp
theorem zuj {src dst:Xm} {a:Addr} {n c:Nat} {v':Xl} (hv:VL ρ0 (.slice (some a) n c) v'):Sim P ρ0 (zhP P src dst a n c) (convert src dst v') fun ρ a v=>VL ρ a v:=by
 obtain⟨Va,ca,p,hp,a',c',e1,e2,e3,_⟩:=VL.slice.1 hv
 subst e1
 unfold zhP
 split
 ·rename_i el Na hd
  split
  ·rename_i h8
   have Aa:∀w,(convert src dst (.slice (some a') n c')).run P w=(Conv.bytesToString (.slice (some a') n c')).run P w:=fun w=>by
    simp only [convert,Sem.run_bind,run_underlying (zcS Na),run_underlying hd,Result.andThen,run_underlying (zkl h8)]
   split
   ·rename_i hn
    have hn:=Nat.eq_of_beq_eq_true hn
    subst hn
    refine Sim.of (v:=.string ⟨⟨[]⟩⟩) (fun w=> ?_) fun ρ _=>VL.string.2 rfl
    rw [Aa,run_bytesToString w a' 0 c' [] rfl]
    rfl
   ·rename_i hn
    have hn:n≠0:=fun h=>by subst h;cases hn
    have Ha:=e3 (by omega)
    have Ja:VL ρ0 (.pointer (some a)) (.pointer (some a')):=VL.ptr.2 ⟨Va,p,hp,by rw [Ha]⟩
    intro w0 B s s' v ρ w hρ ht H Pa
    obtain⟨vs,s1,t1,t2,_⟩:=zac (zan _ _) ht
    obtain⟨Za,w',ρ',hr,H',hE,l',rfl,hl,Ua⟩:=zht (P:=P) Ja w0 B s s1 vs ρ w hρ t1 H (Pa.left (t2.le (zlB _)))
    unfold zpj at t2
    split at t2
    ·rename_i bs Ra
     rw [forceL_eq]at t2
     obtain⟨rfl,rfl⟩:=zad t2
     obtain⟨ns,rfl,rfl⟩:=ziD _ _ Ra
     have:=zqf ns l' hl
     subst this
     have hw:w'=w:=by
      have h2:=hr
      obtain⟨b,La,l,t,fl,rfl,f1,f2,f3,f4,f5⟩:=zaY t1
      obtain⟨q,hq,q2,q3,q4,c2,Da,Ba,q5,q6,q7,q8⟩:=H.obj b _ f1
      rw [show ρ b=some p from hρ _ _ hp]at hq;cases hq
      rw [Ha]at h2
      have Ya:p.sz=l.length:=q2
      have hx:∃cs:Xj,(loadCells ⟨p.blk,p.off+La,none⟩ cs.length).run P w=.ok cs.toArray w∧cs.length=n:=by
       refine⟨(c2.toList.drop (p.off+La)).take n,zqr q5 _ _ fun j x hj=> ?_,?_⟩
       ·rw [List.getElem?_take]at hj
        split at hj
        ·rw [List.getElem?_drop,Array.getElem?_toList]at hj;exact hj
        ·cases hj
       ·rw [List.length_take,List.length_drop,Array.length_toList];omega
      obtain⟨cs,Qa,Xa⟩:=hx
      rw [Xa]at Qa
      rw [Qa]at h2
      cases h2;rfl
     subst hw
     refine⟨_,w',ρ',?_,H',hE,VL.string.2 rfl⟩
     rw [Aa,run_bytesToString w' a' n c' ns hr,show (ByteArray.empty)=(⟨⟨[]⟩⟩:ByteArray) from rfl,zoi]
     simp
    ·exact (zag t2).elim
  ·exact .fail
 ·rename_i el ba Na hd
  split
  ·rename_i b La hc
   simp only [Bool.and_eq_true]at hc
   obtain⟨⟨Ka,h8⟩,Ma⟩:=hc
   have Ka:=Nat.eq_of_beq_eq_true Ka
   have Ma:=zcZ Ma
   have h8:=zkl h8
   have Ha:=e3 (by omega)
   split
   rotate_left
   ·exact .fail
   rename_i Fa
   have Fa:=Nat.le_of_ble_eq_true Fa
   intro w0 B s s' v ρ w hρ ht H Pa
   obtain⟨cc,s1,t1,t2,_⟩:=zac (zau _) ht
   split at t2
   ·exact (zag t2).elim
   rename_i Ga
   have Ga:cc.2.1≠154:=fun h=>by rw [h]at Ga;cases Ga
   obtain⟨rfl,rfl⟩:=zad t2
   obtain⟨f1,f2,f3⟩:=zaW t1
   obtain⟨q,hq,q2,q3,q4,c2,Da,Ba,q5,q6,q7,q8⟩:=H.obj b _ f1
   rw [show ρ b=some p from hρ _ _ hp]at hq;cases hq
   have Aa:(convert src dst (.slice (some a') n c')).run P w=.ok (.slice (some a') n c') (w.freeze ⟨p.blk,c2.size,none⟩ 1):=by
    have Ca:w.shape? p.blk=some (Da,c2.size):=by simp [World.shape?,q5]
    simp only [convert,Sem.run_bind,run_underlying hd,Result.andThen,run_underlying h8,Ka,beq_self_eq_true,markStringish,Ha,run_shape,Ca,run_freeze,Sem.run_pure]
   refine⟨_,_,ρ,Aa,?_,.rfl,(hv.grow hρ)⟩
   have Oa:p.blk<w.heap.size:=by
    rcases Nat.lt_or_ge p.blk w.heap.size with h | h
    ·exact h
    ·rw [Array.getElem?_eq_none h]at q5;cases q5
   have Ia:(w.freeze ⟨p.blk,c2.size,none⟩ 1)={ w with heap:=w.heap.setIfInBounds p.blk (.cells c2 Da (if Ba.1 == Ba.2 then (c2.size,c2.size+1) else (min Ba.1 c2.size,max Ba.2 (c2.size+1)))) }:=by
    unfold World.freeze
    rw [if_neg (by omega)]
    simp only [World.mk.injEq,and_true]
    apply Array.ext
    ·simp
    ·intro i aa Ta
     simp only [Array.getElem_modify]
     have hg:w.heap[p.blk]=.cells c2 Da Ba:=by
      have:=q5
      rw [Array.getElem?_eq_getElem Oa]at this
      exact Option.some.inj this
     split
     ·rename_i hi
      subst hi
      rw [hg]
      simp
     ·rename_i hi
      rw [Array.getElem_setIfInBounds_ne (by simpa using Ta) hi]
   have H1:HR w0 B ρ (s.f.put b (some (.cells ⟨cc.1⟩ cc.2.1 cc.2.2))) (w.freeze ⟨p.blk,c2.size,none⟩ 1):=by
    have hB:B<=p.blk:=H.own b _ p f1 Fa (hρ _ _ hp)
    rw [Ia]
    refine H.set f1 (hρ _ _ hp) (H.below.trans ⟨rfl,rfl,rfl,by simp,fun j hj=> ?_⟩) (fun j hj=> ?_) ⟨p,hρ _ _ hp,q2,q3,q4,c2,Da,(if Ba.1 == Ba.2 then (c2.size,c2.size+1) else (min Ba.1 c2.size,max Ba.2 (c2.size+1))),?_,q6,?_,q8⟩
    ·simp only [Array.getElem?_setIfInBounds];rw [if_neg (by omega)]
    ·simp only [Array.getElem?_setIfInBounds];rw [if_neg (fun h=>hj h.symm)]
    ·simp [Oa]
    ·intro _
     refine⟨?_,fun h _=>absurd h Ga⟩
     split
     ·exact .inr (Nat.le_refl _)
     ·rename_i Sa
      rcases (q7 Fa).1 with q7 | q7
      ·simp [q7]at Sa
      ·exact .inr (by simp only [];omega)
   refine H1.congr fun id=> ?_
   rw [f2]
   unfold Hf.put
   split
   ·rename_i Wa;rw [<-Wa,f1]
   ·rfl
  ·exact .fail
 ·exact .fail
end Go.Proofs.YtgjolijncmkkhaaGreatDoor
namespace Go.Proofs.YtgjolijncmkkhaaGreatDoor
open Go.RowKit
set_option linter.unusedVariables false
variable {P:Program} {ρ0:Rn}
theorem zfw {w:Xk} {b:Nat} {c:Array Xl} {t:Xm} {fz:Nat×Nat} (h:w.heap[b]? = some (.cells c t fz)):w.shape? b=some (t,c.size):=by simp [World.shape?,h]
theorem zrA {src dst:Xm} {b off:Nat} {v':Xl} (hv:VL ρ0 (.pointer (some ⟨b,off,none⟩)) v'):Sim P ρ0 (zgP P src dst b off) (convert src dst v') fun ρ a v=>VL ρ a v:=by
 obtain⟨_,p,hp,e1⟩:=VL.ptr.1 hv
 subst e1
 unfold zgP
 split
 ·rename_i t hs hd
  split
  ·rename_i k hz
   intro w0 B s s' v ρ w hρ ht H Ca
   obtain⟨cc,s1,t1,t2,_⟩:=zac (zau _) ht
   obtain⟨f1,f2,f3⟩:=zaW t1
   split at t2
   ·rename_i Aa
    obtain⟨rfl,rfl⟩:=zad t2
    have Aa:=zcZ Aa
    obtain⟨q,hq,q2,q3,q4,c2,Fa,Ga,q5,q6,q7,q8⟩:=H.obj b _ f1
    rw [show ρ b=some p from hρ _ _ hp]at hq;cases hq
    have Da:p.sz=cc.1.length:=q2
    refine⟨_,w,ρ,?_,H.congr fun id=>by rw [f2],.rfl,hv.grow hρ⟩
    have Ba:¬ (p.off+off ≥ c2.size):=by omega
    simp only [convert,Sem.run_bind,run_underlying hs,run_underlying hd,Result.andThen,Conv.unsafePointer,Conv.seenAt,viewAt,run_shape,zfw q5,Option.isSome_some,if_true,Sem.run_pure,cellsIn,zaQ hz]
    simp [Ba]
   ·exact (zag t2).elim
  ·exact .fail
 ·exact .fail
theorem zrU {e:En} {m:Operand->Xl} (he:EnvR ρ0 e m) (src dst:Xm) (x:Operand):Sim P ρ0 (zcM P src dst x e) (convert src dst (m x)) fun ρ a v=>VL ρ a v:=by
 unfold zcM
 split
 ·rename_i b hx
  rw [VL.string.1 (he x _ hx)]
  exact zrG src dst b
 ·rename_i a n c hx
  exact zuj (he x _ hx)
 ·rename_i b Aa hx
  exact zrA (he x _ hx)
 ·rename_i v _ _ _ hx
  split
  ·rename_i hp
   rw [zfH he hx hp]
   exact zcP
  ·exact .fail
 ·exact .fail
theorem zgt {ρ:Rn} {b off n c:Nat} {v':Xl} (h:VL ρ (zbD b off n c) v'):n<=c∧∃p a' c',ρ b=some p∧v'=.slice (some a') n c'∧c'=c+(if off+c*p.es=p.sz then p.sl else 0)∧(c'≠0->a'=⟨p.blk,p.off+off,none⟩)∧c'<=9223372036854775807:=by
 obtain⟨_,Aa,p,hp,a',c',e1,e2,e3,e4⟩:=VL.slice.1 h
 exact⟨Aa,p,a',c',hp,e1,e2,e3,e4⟩
theorem zhA {fl es sl sz off c len:Nat} (h3:fl=0->sl=0) (h4:fl≠0->es=fl) (hz:sz=len) (hc:(Nat.beq fl 0 || !(Nat.beq (off+c*fl) len))=true) :
  (if off+c*es=sz then sl else 0)=0:=by
 by_cases h:fl=0
 ·rw [h3 h];simp
 ·rw [if_neg]
  intro he
  rw [h4 h,hz]at he
  rw [he,Nat.beq_refl,Bool.not_true,Bool.or_false]at hc
  exact h (Nat.eq_of_beq_eq_true hc)
theorem zAr {t:Xm} {x x':Xl} (hx:VL ρ0 x x') (ts:Array Xm) (ty:Xm) (args:Array Xl) (h0:ts[0]? = some t) (h1:args[0]? = some x') :
  Sim P ρ0 (zkD P t x) (Builtin.cap_ ts ty args) fun ρ a v=>VL ρ a v:=by
 unfold zkD
 split
 ·rename_i el l c hu
  obtain⟨rfl,rfl,e⟩:=VL.nils.1 hx
  subst e
  refine Sim.of (v:=goInt 0) (fun w=> ?_) fun ρ hρ=>VL.int.2 rfl
  simp only [Builtin.cap_,h0,h1,Sem.run_bind,run_underlying hu,Result.andThen,Sem.run_pure]
  rfl
 ·rename_i el b Fa l c hu
  obtain⟨Ha,p,a',c',hp,rfl,e2,e3,_⟩:=zgt hx
  intro w0 B s s' v ρ w hρ ht H Ca
  obtain⟨d,s1,t1,t2,_⟩:=zac (zau _) ht
  obtain⟨f1,f2,f3⟩:=zaW t1
  obtain⟨q,hq,q2,q3,q4,c2,Da,Ga,q5,q6,q7,q8⟩:=H.obj b _ f1
  rw [show ρ b=some p from hρ _ _ hp]at hq;cases hq
  have Ba:p.sz=d.1.length:=q2
  have Aa:(Builtin.cap_ ts ty args).run P w=.ok (goInt c') w:=by
   simp only [Builtin.cap_,h0,h1,Sem.run_bind,run_underlying hu,Result.andThen,Sem.run_pure]
  split at t2
  ·rename_i hc
   obtain⟨rfl,rfl⟩:=zad t2
   refine⟨_,w,ρ,Aa,H.congr fun id=>by rw [f2],.rfl,VL.int.2 ?_⟩
   have:c'=c:=by rw [e2,zhA q3 q4 Ba hc];rfl
   rw [this];rfl
  ·obtain⟨rfl,rfl⟩:=zad t2
   exact⟨_,w,ρ,Aa,H.congr fun id=>by rw [f2],.rfl,.junk⟩
 ·exact .fail
theorem zkH {vs:Xj} {l:Xj} (h:LR (VL ρ0) vs l) (hp:vs.all zaL=true):l=vs:=by
 induction vs generalizing l with
 | nil=>exact h
 | cons v vs ih=>
  obtain⟨v',t,e,hv,ht⟩:=h
  rw [List.all_cons,Bool.and_eq_true]at hp
  rw [e,(zcs hp.1).1 hv,ih ht hp.2]
theorem zhT {ρ:Rn} {a:Addr} {n c:Nat} {v':Xl} (h:VL ρ (.slice (some a) n c) v') (hn:n≠0):∃a' c',v'=.slice (some a') n c'∧VL ρ (.pointer (some a)) (.pointer (some a')):=by
 obtain⟨Aa,Ba,p,hp,a',c',e1,e2,e3,_⟩:=VL.slice.1 h
 exact⟨a',c',e1,VL.ptr.2 ⟨Aa,p,hp,by rw [e3 (by omega)]⟩⟩
theorem zoj {z n:Nat} {x x':Xl} (hx:VL ρ0 x x') (hlen:∀m,lenK x=some m->n<=m) :
  Sim P ρ0 (zeR z n x) (Builtin.firstCells z n x') fun ρ l arr=>∃l',arr=⟨l'⟩∧LR (VL ρ) l l'∧(z≠0->(∀b,x≠.string b)->l.length=n*z):=by
 unfold zeR
 split
 ·rename_i a k c
  split
  ·rename_i hn
   have hn:=Nat.eq_of_beq_eq_true hn
   subst hn
   obtain⟨_,_,p,_,a',c',e1,_⟩:=VL.slice.1 hx
   subst e1
   refine Sim.of (v:=(#[]:Array Xl)) (fun w=> ?_) fun ρ _=>⟨[],rfl,rfl,fun _ _=>by simp⟩
   simp [Builtin.firstCells,loadCells,loadCellsFrom]
  ·rename_i hn
   have hn:n≠0:=fun h=>by subst h;cases hn
   have hk:=hlen k rfl
   obtain⟨a',c',rfl,hp⟩:=zhT hx (by omega)
   refine (zht hp).mono fun ρ vs arr _ h=> ?_
   obtain⟨l',e,hl,hlen⟩:=h
   exact⟨l',e,hl,fun _ _=>hlen⟩
 ·rename_i k c
  split
  ·rename_i hn
   have hn:=Nat.eq_of_beq_eq_true hn
   subst hn
   obtain⟨_,_,e1⟩:=VL.nils.1 hx
   subst e1
   exact Sim.of (v:=(#[]:Array Xl)) (fun w=>rfl) fun ρ _=>⟨[],rfl,rfl,fun _ _=>by simp⟩
  ·exact .fail
 ·rename_i b
  have e:=VL.string.1 hx
  subst e
  rw [forceL_eq]
  have hk:n<=b.size:=hlen b.size rfl
  refine Sim.of (v:=(⟨(b.data.toList.take n).map fun x=>Value.int .u8 x.toNat⟩:Array Xl)) (fun w=> ?_) fun ρ _=>⟨_,rfl,zkx _,fun _ Aa=>absurd rfl (Aa b)⟩
  simp only [Builtin.firstCells,Sem.run_pure]
  congr 1
  apply Array.ext'
  simp only [Array.toList_map]
  congr 1
  rw [ByteArray.data_extract]
  simp
 ·exact .fail
theorem zkn {x x':Xl} {n:Nat} (hx:VL ρ0 x x') (h:lenK x=some n) (w:Xk):(Builtin.lenOf x').run P w=.ok n w:=by
 unfold lenK at h
 split at h
 ·rename_i a k c
  cases h
  cases a with
  | none=>obtain⟨rfl,_,e⟩:=VL.nils.1 hx;subst e;rfl
  | some a=>obtain⟨_,_,p,_,a',c',e,_⟩:=VL.slice.1 hx;subst e;rfl
 ·cases h
  have e:=VL.string.1 hx
  subst e;rfl
 ·cases h
theorem zdO (z:Array Xl) (n:Nat):Builtin.zeroCells z n=⟨reps z.toList n⟩:=zgX z n
theorem zwg {t:Xm} {x x':Xl} (hx:VL ρ0 x x') (ts:Array Xm) (ty:Xm) (args:Array Xl) (h0:ts[0]? = some t) (h1:args[0]? = some x') :
  Sim P ρ0 (zgx P t x) (Builtin.clear_ ts ty args) fun ρ a v=>VL ρ a v:=by
 have Aa:∀ρ:Rn,VL ρ unV (.tuple #[]):=fun ρ=>VL.tuple.2 ⟨[],rfl,rfl⟩
 unfold zgx
 split
 ·rename_i el a n c hu
  split
  ·rename_i hn
   have hn:=Nat.eq_of_beq_eq_true hn
   subst hn
   obtain⟨_,_,p,_,a',c',e1,_⟩:=VL.slice.1 hx
   subst e1
   refine Sim.of (v:=.tuple #[]) (fun w=> ?_) fun ρ _=>Aa ρ
   simp [Builtin.clear_,h0,h1,run_underlying hu]
  ·rename_i hn
   have hn:n≠0:=fun h=>by subst h;cases hn
   obtain⟨a',c',rfl,hp⟩:=zhT hx hn
   split
   ·rename_i z hz
    rw [forceL_eq]
    obtain⟨zv,Ca,rfl,Da⟩:=zcy hz
    intro w0 B s s' v ρ w hρ ht H Ba
    obtain⟨u,s1,t1,t2,_⟩:=zac (zaF _ _) ht
    obtain⟨rfl,rfl⟩:=zad t2
    obtain⟨u',w',ρ',hr,H',hE,_⟩:=zeO (P:=P) hp (zfB (zcb Ca) n) w0 B s s' u ρ w hρ t1 H Ba
    refine⟨.tuple #[],w',ρ',?_,H',hE,Aa ρ'⟩
    cases n with
    | zero=>exact (hn rfl).elim
    | succ n=>
     simp only [Builtin.clear_,h0,h1,Sem.run_bind,run_underlying hu,Result.andThen,Da,zdO]
     rw [hr]
     rfl
   ·exact .fail
 ·exact .fail
theorem zxC {t:Xm} {x x' y y':Xl} (hx:VL ρ0 x x') (hy:VL ρ0 y y') (ts:Array Xm) (ty:Xm) (args:Array Xl) (h0:ts[0]? = some t) (h1:args[0]? = some x') (h2:args[1]? = some y') :
  Sim P ρ0 (zhS P t x y) (Builtin.copy_ ts ty args) fun ρ a v=>VL ρ a v:=by
 unfold zhS
 split
 ·rename_i z a n c m Ba hm
  cases hel:zcj P t with
  | none=>rw [hel]at Ba;cases Ba
  | some el=>
   rw [hel]at Ba
   have hz:szOf P el=some z:=Ba
   rw [forceN_eq]
   obtain⟨_,_,p,_,a0,c0,e1,_⟩:=VL.slice.1 hx
   subst e1
   intro w0 B s s' v ρ w hρ ht H Da
   obtain⟨vs,s1,t1,t2,Fa⟩:=zac (zeC _ _ _) ht
   have Ga:s1.n<=s'.n:=t2.le (by split;exact zaf _;exact zab (zaF _ _) fun _=>zaf _)
   obtain⟨Ka,w1,ρ1,Ca,H1,Aa,l',rfl,hl,_⟩:=zoj (P:=P) (z:=z) (n:=Nat.min m n) hy (fun k hk=>by rw [hm]at hk;cases hk;exact Nat.min_le_left _ _) w0 B s s1 vs ρ w hρ t1 H (Da.left Ga)
   split at t2
   ·rename_i hk
    have hk:=Nat.eq_of_beq_eq_true hk
    obtain⟨rfl,rfl⟩:=zad t2
    have Ha:l'=[]:=by
     have Ia:vs=[]:=by
      rw [hk]at t1
      unfold zeR at t1
      split at t1
      ·exact (zad t1).1
      ·exact (zad t1).1
      ·rw [forceL_eq]at t1
       have:=(zad t1).1
       simpa using this
      ·exact (zag t1).elim
     subst Ia
     exact hl
    subst Ha
    rw [hk]at Ca
    refine⟨goInt 0,w1,ρ1,?_,H1,Aa,VL.int.2 rfl⟩
    simp only [Builtin.copy_,h0,h1,h2,Sem.run_bind,run_underlying (zcS hel),Result.andThen,zkn hy hm,zaQ hz,hk,Ca,storeCells,Sem.run_pure]
    try rfl
   ·rename_i hk
    have hk:Nat.min m n≠0:=fun h=>by rw [h]at hk;cases hk
    obtain⟨u,s2,t3,t4,_⟩:=zac (zaF _ _) t2
    obtain⟨rfl,rfl⟩:=zad t4
    have Ja:n≠0:=fun h=>by subst h;exact hk (Nat.min_zero m)
    obtain⟨a',c',e5,hp⟩:=zhT (hx.grow (hρ.trans Aa.le)) Ja
    cases e5
    obtain⟨u',w',ρ',hr,H',hE,_⟩:=zeO (P:=P) hp hl w0 B s1 s' u ρ1 w1 .rfl t3 H1 (Da.right Fa Aa)
    refine⟨goInt (Nat.min m n),w',ρ',?_,H',Aa.trans hE Fa Ga,VL.int.2 rfl⟩
    simp only [Builtin.copy_,h0,h1,h2,Sem.run_bind,run_underlying (zcS hel),Result.andThen,zkn hy hm,zaQ hz,Ca,hr,Sem.run_pure]
 ·exact .fail
end Go.Proofs.YtgjolijncmkkhaaGreatDoor
namespace Go.Proofs.YtgjolijncmkkhaaGreatDoor
open Go.RowKit
set_option linter.unusedVariables false
variable {P:Program} {ρ0:Rn}
def OR (ρ:Rn) (x x':Option Xl):Prop:=match x with
 | none=>x'=none
 | some v=>∃v',x'=some v'∧VL ρ v v'
theorem ziq {x x':Option Xl} {d top i:Nat} (hx:OR ρ0 x x') (h:ziv x d top=some i) :
  (x=none∧x'=none∧i=d)∨(∃v',x.isSome=true∧x'=some v'∧i<=top∧∀y code w,i<=y->(Instr.sliceBound v' y code).run P w=.ok i w):=by
 unfold ziv at h
 split at h
 ·cases h
  exact .inl ⟨rfl,hx,rfl⟩
 ·rename_i k j
  split at h
  ·rename_i hb
   cases h
   obtain⟨v',e,hv⟩:=hx
   have:=VL.int.1 hv
   subst this
   refine .inr ⟨_,rfl,e,Nat.le_of_ble_eq_true hb,fun y code w hy=> ?_⟩
   simp only [Instr.sliceBound,asIntOf,Sem.run_bind,Sem.run_pure,Result.andThen,Int.ofNat_eq_natCast]
   rw [if_pos ⟨Int.natCast_nonneg _,by omega⟩]
   rfl
  ·cases h
 ·cases h
theorem zkZ {len cap cap' l h m:Nat} {lo hi mx lo' hi' mx':Option Xl} (hlo:OR ρ0 lo lo') (hhi:OR ρ0 hi hi') (hmx:OR ρ0 mx mx') (hb:zjj len cap lo hi mx=some (l,h,m)) (hlc:len<=cap) (hcc:cap<=cap') (isS:Bool) (w:Xk) :
  (Instr.sliceBounds isS len cap' lo' hi' mx').run P w=.ok (l,h,if mx.isNone then cap' else m) w∧l<=h∧h<=m∧m<=cap∧(mx.isNone=true->m=cap):=by
 unfold zjj at hb
 split at hb
 ·rename_i m0 Ha
  split at hb
  ·rename_i h0 Fa
   split at hb
   ·rename_i l0 Ga
    split at hb
    ·rename_i Ba
     cases hb
     have b1:=ziq (P:=P) hmx Ha
     have b2:=ziq (P:=P) hhi Fa
     have b3:=ziq (P:=P) hlo Ga
     have Aa:l<=h:=by
      rcases b3 with ⟨_,_,e⟩ | ⟨_,_,_,e,_⟩<;>omega
     rcases b1 with ⟨e1,e2,e3⟩ | ⟨vm,e1,e2,e3,e4⟩
     ·subst e1 e2 e3
      have Ca:h<=m:=by rcases b2 with ⟨_,_,e⟩ | ⟨_,_,_,e,_⟩<;>omega
      refine⟨?_,Aa,Ca,Nat.le_refl _,fun _=>rfl⟩
      rcases b2 with ⟨f1,f2,f3⟩ | ⟨vh,f1,f2,f3,f4⟩
      ·subst f1 f2 f3
       rcases b3 with ⟨g1,g2,g3⟩ | ⟨vl,g1,g2,g3,g4⟩
       ·subst g1 g2 g3
        simp [Instr.sliceBounds]
       ·subst g2
        simp [Instr.sliceBounds,g4 h _ w Aa]
      ·subst f2
       rcases b3 with ⟨g1,g2,g3⟩ | ⟨vl,g1,g2,g3,g4⟩
       ·subst g1 g2 g3
        simp [Instr.sliceBounds,f4 cap' _ w (by omega)]
       ·subst g2
        simp [Instr.sliceBounds,f4 cap' _ w (by omega),g4 h _ w Aa]
     ·subst e2
      have Da:mx.isNone=false:=by cases mx with | none=>cases e1 | some v=>rfl
      rcases b2 with ⟨f1,f2,f3⟩ | ⟨vh,f1,f2,f3,f4⟩
      ·subst f1
       rw [Da]at Ba;cases Ba
      ·subst f2
       refine⟨?_,Aa,f3,e3,fun hc=>by rw [Da]at hc;cases hc⟩
       rw [Da]
       rcases b3 with ⟨g1,g2,g3⟩ | ⟨vl,g1,g2,g3,g4⟩
       ·subst g1 g2 g3
        simp [Instr.sliceBounds,e4 cap' _ w (by omega),f4 m _ w f3]
       ·subst g2
        simp [Instr.sliceBounds,e4 cap' _ w (by omega),f4 m _ w f3,g4 h _ w Aa]
    ·cases hb
   ·cases hb
  ·cases hb
 ·cases hb
theorem OR.plain {x x':Option Xl} (h:OR ρ0 x x') (hp:x.all zaL=true):x'=x:=by
 cases x with
 | none=>exact h
 | some v=>obtain⟨v',e,hv⟩:=h;rw [e,(zcs hp).1 hv]
theorem zus {t:Xm} {x x':Xl} {lo hi mx lo' hi' mx':Option Xl} (hx:VL ρ0 x x') (hlo:OR ρ0 lo lo') (hhi:OR ρ0 hi hi') (hmx:OR ρ0 mx mx') :
  Sim P ρ0 (zia P t x lo hi mx) (Instr.sliceAt t x' lo' hi' mx') fun ρ a v=>VL ρ a v:=by
 have Ja:∀y,VL ρ0 y x'->Sim P ρ0 (zfk P t y lo hi mx) (Instr.sliceAt t x' lo' hi' mx') fun ρ a v=>VL ρ a v:=by
  intro y hy
  unfold zfk
  split
  ·rename_i hp
   simp only [Bool.and_eq_true]at hp
   rw [(zcs hp.1).1 hy,hlo.plain hp.2.1,hhi.plain hp.2.2.1,hmx.plain hp.2.2.2]
   exact zcP
  ·exact .fail
 unfold zia
 split
 ·rename_i n el hu
  split
  ·rename_i b off Ba hz
   obtain⟨_,p,hp,e1⟩:=VL.ptr.1 hx
   subst e1
   unfold zhm
   intro w0 B s s' v ρ w hρ ht H Qa
   obtain⟨cc,s1,t1,t2,_⟩:=zac (zau _) ht
   obtain⟨f1,f2,f3⟩:=zaW t1
   obtain⟨q,hq,q2,q3,q4,c2,Pa,Za,q5,q6,q7,q8⟩:=H.obj b _ f1
   rw [show ρ b=some p from hρ _ _ hp]at hq;cases hq
   split at t2
   ·rename_i l h m Ca hb
    rw [Bool.and_eq_true]at Ca
    have ca:=Nat.le_of_ble_eq_true Ca.2
    have Ca:=Ca.1
    rw [forceN_eq,forceN_eq,forceN_eq]at t2
    obtain⟨rfl,rfl⟩:=zad t2
    have Ua:=q3 (Nat.eq_of_beq_eq_true Ca)
    obtain⟨hr,h1,h2,h3,h4⟩:=zkZ (P:=P) hlo hhi hmx hb (Nat.le_refl _) (Nat.le_refl _) false w
    have hm:(if mx.isNone then n else m)=m:=by
     split
     ·rename_i hc;exact (h4 hc).symm
     ·rfl
    rw [hm]at hr
    refine⟨.slice (some (if m=l then ⟨p.blk,p.off+off,none⟩ else (⟨p.blk,p.off+off,none⟩:Addr).add (l*Ba))) (h-l) (m-l),w,ρ,?_,H.congr fun id=>by rw [f2],.rfl,?_⟩
    ·simp only [Instr.sliceAt,Sem.run_bind,run_underlying hu,Result.andThen,zcV,hr,zaQ hz,Sem.run_pure]
    ·refine VL.slice.2 ⟨rfl,by omega,p,hρ _ _ hp,_,_,rfl,by rw [Ua];simp,fun _=> ?_,by omega⟩
     rw [zmt]
     by_cases Ia:m=l
     ·simp [Ia]
     ·simp only [Ia,if_false,decide_false,Bool.false_eq_true,zcB]
      rw [Nat.add_assoc]
   ·exact (zag t2).elim
  ·exact .fail
 ·rename_i el hu
  split
  ·rename_i b off len Wa Ba hz
   obtain⟨Ya,p,a',c',hp,rfl,e2,e3,e4⟩:=zgt hx
   unfold zjo
   intro w0 B s s' v ρ w hρ ht H Qa
   obtain⟨cc,s1,t1,t2,_⟩:=zac (zau _) ht
   obtain⟨f1,f2,f3⟩:=zaW t1
   obtain⟨q,hq,q2,q3,q4,c2,Pa,Za,q5,q6,q7,q8⟩:=H.obj b _ f1
   rw [show ρ b=some p from hρ _ _ hp]at hq;cases hq
   have Oa:p.sz=cc.1.length:=q2
   split at t2
   ·rename_i l h m Ca hb
    rw [Bool.or_eq_true]at Ca
    have Sa:Wa<=c':=by rw [e2];omega
    obtain⟨hr,h1,h2,h3,h4⟩:=zkZ (P:=P) hlo hhi hmx hb Ya Sa true w
    obtain⟨m',Da⟩:∃m',m'=if mx.isNone then c' else m:=⟨_,rfl⟩
    rw [<-Da]at hr
    have Fa:(Instr.sliceAt t (.slice (some a') len c') lo' hi' mx').run P w=.ok (.slice (if m'=l then some a' else some (a'.add (l*Ba))) (h-l) (m' - l)) w:=by
     simp only [Instr.sliceAt,Instr.slice,Sem.run_bind,run_underlying hu,Result.andThen,hr,zaQ hz,Sem.run_pure,Option.map_some]
    have H':HR w0 B ρ s1.f w:=H.congr fun id=>by rw [f2]
    split at t2
    ·rename_i Aa
     rw [forceN_eq,forceN_eq,forceN_eq]at t2
     obtain⟨rfl,rfl⟩:=zad t2
     refine⟨_,w,ρ,Fa,H',.rfl,?_⟩
     have Ia:m<=m':=by
      rw [Da]
      split
      ·rename_i hc;have:=h4 hc;omega
      ·exact Nat.le_refl _
     have La:m'=m+(if off+l*Ba+(m-l)*p.es=p.sz then p.sl else 0):=by
      by_cases hz0:cc.2.2.1=0
      ·have Ta:=q3 hz0
       rw [Ta]at e2 ⊢
       simp only [ite_self,Nat.add_zero]at e2 ⊢
       rw [Da]
       split
       ·rename_i hc;rw [h4 hc];exact e2
       ·rfl
      ·have Ka:p.es=Ba:=by
        rcases Ca with Ca | Ca
        ·exact (hz0 (Nat.eq_of_beq_eq_true Ca)).elim
        ·rw [q4 hz0];exact Nat.eq_of_beq_eq_true Ca
       have Ha:off+l*Ba+(m-l)*p.es=off+m*p.es:=by
        rw [Ka,Nat.add_assoc,<-Nat.add_mul,show l+(m-l)=m by omega]
       rw [Ha,Da]
       split
       ·rename_i hc
        rw [h4 hc];exact e2
       ·rename_i hc
        rw [Bool.or_eq_true]at Aa
        rcases Aa with Aa | Aa
        ·rw [Aa]at hc;exact (hc rfl).elim
        ·have Va:cc.2.2.1=Ba:=by rw [<-q4 hz0,Ka]
         have:=zhA (off:=off) (c:=m) q3 q4 Oa (by rw [Va]at Aa ⊢;exact Aa)
         rw [this];rfl
     have Ra:∃Ga,(if m'=l then some a' else some (a'.add (l*Ba)))=some Ga∧(m'≠l->Ga=a'.add (l*Ba)):=by
      by_cases hc:m'=l
      ·exact⟨a',by rw [if_pos hc],fun h=>absurd hc h⟩
      ·exact⟨_,by rw [if_neg hc],fun _=>rfl⟩
     obtain⟨Ga,Ma,Xa⟩:=Ra
     rw [Ma]
     have ba:m'<=c':=by rw [Da];split<;>omega
     refine VL.slice.2 ⟨rfl,by omega,p,hρ _ _ hp,Ga,m' - l,rfl,?_,fun aa=> ?_,by omega⟩
     ·simp only []
      omega
     ·have Na:c'≠0:=by
       have:m'<=c':=by rw [Da];split<;>omega
       omega
      rw [Xa (by omega),e3 Na,zcB,Nat.add_assoc]
    ·obtain⟨rfl,rfl⟩:=zad t2
     exact⟨_,w,ρ,Fa,H',.rfl,.junk⟩
   ·exact (zag t2).elim
  ·rename_i l c n hz
   exact Ja _ hx
  ·exact .fail
 ·exact Ja _ hx
 ·exact .fail
theorem zwh {e:En} {m:Operand->Xl} (he:EnvR ρ0 e m) (t:Xm) (x:Operand) (lo hi mx:Option Operand) :
  Sim P ρ0 (zes P t x lo hi mx e) (Instr.sliceAt t (m x) (lo.map m) (hi.map m) (mx.map m)) fun ρ a v=>VL ρ a v:=by
 have Aa:∀{γ δ:Type} (y:Option Operand) (G:Option Xl->M γ) (c:Sem δ) (R:Rn->γ->δ->Prop),(∀v,OR ρ0 v (y.map m)->Sim P ρ0 (G v) c R)->Sim P ρ0 (zaj (mopt e y) G) c R:=by
  intro γ δ y G c R h w0 B s s' a ρ w hρ ht H Ba
  obtain⟨v,s1,t1,t2,_⟩:=zac (znN _ _) ht
  unfold mopt at t1
  split at t1
  ·obtain⟨rfl,rfl⟩:=zad t1
   exact h none rfl w0 B _ s' a ρ w hρ t2 H Ba
  ·split at t1
   ·rename_i v' hv
    obtain⟨rfl,rfl⟩:=zad t1
    exact h (some v') ⟨_,rfl,he _ _ hv⟩ w0 B _ s' a ρ w hρ t2 H Ba
   ·exact (zag t1).elim
 unfold zes
 refine Sim.aev1 fun v hv=>Aa _ _ _ _ fun Ga Ca=>Aa _ _ _ _ fun Ha Fa=>Aa _ _ _ _ fun Ia Da=> ?_
 exact zus (he x v hv) Ca Fa Da
end Go.Proofs.YtgjolijncmkkhaaGreatDoor
namespace Go.Proofs.YtgjolijncmkkhaaGreatDoor
open Go.RowKit
set_option linter.unusedVariables false
variable {P:Program} {ρ0:Rn}
structure ApT (P:Program) (t el:Xm) (z:Nat) (zv:Xl) (ti:TypeInfo):Prop where
 u:P.underlying t=some (.slice el)
 i:P.info? el=some ti
 s:szOf P el=some z
 b:ti.bytes<=4096
 z0:z≠0
 p:zaL zv=true
 l:zv.cells.size=z
 r:∀w,(zeroValue el).run P w=.ok zv w
theorem zxB {t el:Xm} {z:Nat} {zero:Xj} (h:appT P t=some (el,z,zero)):∃zv ti,ApT P t el z zv ti∧zero=zv.cells.toList:=by
 unfold appT at h
 split at h
 ·cases h
 ·rename_i Da Ba
  split at h
  ·rename_i Ca Aa zr hs hb hz
   split at h
   ·rename_i hc
    cases h
    rw [Bool.and_eq_true]at hc
    obtain⟨zv,hp,rfl,hr⟩:=zcy hz
    cases hi:P.info? el with
    | none=>rw [hi]at hb;cases hb
    | some ti=>
     rw [hi]at hb
     cases hb
     refine⟨zv,ti,⟨zcS Ba,hi,hs,Nat.le_of_ble_eq_true hc.1,by omega,hp,?_,hr⟩,rfl⟩
     have:=Nat.eq_of_beq_eq_true hc.2
     rw [Array.length_toList]at this
     exact this
   ·cases h
  ·cases h
theorem zgY {t:Xm} {ti:TypeInfo} (h:P.info? t=some ti) (w:Xk):(typeInfo t).run P w=.ok ti w:=by simp [typeInfo,h]
def zdW (el:Xm) (z n:Nat) (zeros:Bool) (y:Xl):Sem (Array Xl):=
 if !zeros then Builtin.firstCells z n y else if n*z=0 then Pure.pure #[] else do Pure.pure (Builtin.zeroCells (<-zeroValue el).cells n)
def zzp (P:Program) (zeros:Bool) (y:Xl) (n:Nat):Prop:=if zeros then (∃k,y=.int k (Int.ofNat n))∧n<=4096 else ∀w,(Builtin.lenOf y).run P w=.ok n w
theorem zxF {x:Option Xm} {zeros:Bool} (h:intT P x=some zeros):(x=none∧zeros=false)∨∃t d,x=some t∧P.underlying t=some d∧((zeros=true∧∃k,d=.int k)∨(zeros=false∧∀k,d≠.int k)):=by
 unfold intT at h
 split at h
 ·rename_i t
  split at h
  ·rename_i k hu
   cases h
   exact .inr ⟨t,_,rfl,hu,.inl ⟨rfl,k,rfl⟩⟩
  ·rename_i d Aa hu
   cases h
   exact .inr ⟨t,d,rfl,hu,.inr ⟨rfl,fun k e=>Aa k e⟩⟩
  ·cases h
 ·cases h;exact .inl ⟨rfl,rfl⟩
theorem zhs {need cap:Nat} (h1:cap<need) (h2:need<=8192):Builtin.nextslicecap need cap<=100000:=by
 unfold Builtin.nextslicecap
 split
 ·omega
 ·split
  ·omega
  ·simp only [Builtin.growBy]
   repeat' split
   all_goals omega
def appS (el:Xm) (ti:TypeInfo) (z n:Nat) (zeros:Bool) (base:Xi) (len cap:Nat) (y:Xl):Sem Xl:=
 if len+n<=cap then do
  let new <-zdW el z n zeros y
  match base with
  | some a=>do storeCells (a.add (len*z)) new.toList;Pure.pure (.slice base (len+n) cap)
  | none=>Pure.pure (.slice base (len+n) cap)
 else do
  let Aa <-choose (.appendCap (len+n) cap el)
  askRoom (Aa*ti.bytes)
  let Ba <-Builtin.firstCells z len (.slice base len cap)
  let new <-zdW el z n zeros y
  let zr <-zeroValue el
  let a <-newRow el (Ba++new++Builtin.zeroCells zr.cells (Aa-(len+n)))
  Pure.pure (.slice (some a) (len+n) Aa)
theorem zmv {t el:Xm} {z n len cap:Nat} {zv:Xl} {ti:TypeInfo} {ts:Array Xm} {ty:Xm} {args:Array Xl} {base:Xi} {y:Xl} {zeros:Bool} (A:ApT P t el z zv ti) (h0:ts[0]? = some t)
  (ha:args[0]? = some (.slice base len cap)) (hy:args[1]? = some y) (hz:intT P ts[1]? = some zeros) (hn:zzp P zeros y n) (hs:len+n<=cap∨len+n<=8192) (w:Xk) :
  (Builtin.append_ ts ty args).run P w=(appS el ti z n zeros base len cap y).run P w:=by
 have Aa:∀c,c<=100000->¬ (c*ti.bytes > 2 ^ 48):=fun c hc=>by
  have:=Nat.mul_le_mul hc A.b
  omega
 have Ba:¬ (((len+n:Nat):Int) > IntKind.i64.max∧(zeros=true∨ti.bytes=0))∨len+n<=cap:=by
  rcases hs with hs | hs
  ·exact .inr hs
  ·left
   rintro⟨h,_⟩
   have:IntKind.i64.max=9223372036854775807:=rfl
   rw [this]at h
   omega
 rcases zxF hz with ⟨h1,rfl⟩ | ⟨xt,d,h1,hd,⟨rfl,k,rfl⟩ | ⟨rfl,Ha⟩⟩
 ·have Fa:∀w,(Builtin.lenOf y).run P w=.ok n w:=hn
  simp only [Builtin.append_,h0,h1,ha,hy,Sem.run_bind,run_underlying A.u,Result.andThen,zaQ A.s,Sem.run_pure,Bool.false_eq_true,if_false,Fa,Sem.run_ite,appS,zdW,Bool.not_false,if_true]
  by_cases hc:len+n<=cap
  ·rw [if_pos hc,if_pos hc]
   cases base<;>simp only [Sem.run_bind,Result.andThen]
  ·rw [if_neg hc,if_neg hc]
   have Da:=zhs (need:=len+n) (cap:=cap) (by omega) (hs.resolve_left hc)
   simp only [zgY A.i]
   rw [if_neg (by simpa using Ba.resolve_right hc),if_neg (Aa _ Da)]
 ·obtain⟨⟨k,rfl⟩,Ga⟩:=(hn:(∃k,y=.int k (Int.ofNat n))∧n<=4096)
  have hw:=zmy Ga
  have hb:n*ti.bytes<=4096*4096:=Nat.mul_le_mul Ga A.b
  have Ca:(n:Int)*(ti.bytes:Int)=((n*ti.bytes:Nat):Int):=by simp
  simp only [Builtin.append_,h0,h1,ha,hy,Sem.run_bind,run_underlying A.u,run_underlying hd,Result.andThen,zaQ A.s,Sem.run_pure,if_true,asInt,asIntOf,Int.ofNat_eq_natCast,hw,Sem.run_ite,zgY A.i,Ca,appS,zdW,Bool.not_true,Bool.false_eq_true,if_false,Int.toNat_natCast]
  rw [if_neg (by omega),if_neg (by omega)]
  by_cases hc:len+n<=cap
  ·rw [if_pos hc,if_pos hc]
   cases base<;>simp only [Sem.run_bind,Result.andThen]
  ·rw [if_neg hc,if_neg hc]
   have Da:=zhs (need:=len+n) (cap:=cap) (by omega) (hs.resolve_left hc)
   rw [if_neg (by simpa using Ba.resolve_right hc),if_neg (Aa _ Da)]
 ·have Fa:∀w,(Builtin.lenOf y).run P w=.ok n w:=hn
  cases d with
  | int k=>exact (Ha k rfl).elim
  | _=>
   simp only [Builtin.append_,h0,h1,ha,hy,Sem.run_bind,run_underlying A.u,Result.andThen,zaQ A.s,Sem.run_pure,Bool.false_eq_true,if_false,Fa,Sem.run_ite,appS,zdW,Bool.not_false,if_true,run_underlying hd]
   by_cases hc:len+n<=cap
   ·rw [if_pos hc,if_pos hc]
    cases base<;>simp only [Sem.run_bind,Result.andThen]
   ·rw [if_neg hc,if_neg hc]
    have Da:=zhs (need:=len+n) (cap:=cap) (by omega) (hs.resolve_left hc)
    simp only [zgY A.i]
    rw [if_neg (by simpa using Ba.resolve_right hc),if_neg (Aa _ Da)]
end Go.Proofs.YtgjolijncmkkhaaGreatDoor
namespace Go.Proofs.YtgjolijncmkkhaaGreatDoor
open Go.RowKit
set_option linter.unusedVariables false
variable {P:Program} {ρ0:Rn}
def zoX (P:Program) (w0:Xk) (B:Nat) (ρ1:Rn) (h:Hf) (c:Sem (Array Xl)) (new:Xj):Prop:=
 ∀w,HR w0 B ρ1 h w->∃l',c.run P w=.ok ⟨l'⟩ w∧LR (VL ρ1) new l'
theorem zzQ {w0 w:Xk} {B:Nat} {ρ:Rn} {h:Hf} {b off len z c':Nat} {a':Addr} {l:Xj} {t:Xm} {fl:Nat×Nat} {p:Pl} (H:HR w0 B ρ h w) (hp:ρ b=some p) (e1:h b=some (.cells ⟨l⟩ t fl)) (e2:off+len*z<=l.length)
  (hlc:len<=c') (ha:c'≠0->a'=⟨p.blk,p.off+off,none⟩):∃l',(Builtin.firstCells z len (.slice (some a') len c')).run P w=.ok ⟨l'⟩ w∧LR (VL ρ) ((l.drop off).take (len*z)) l':=by
 by_cases h0:len=0
 ·subst h0
  refine⟨[],by simp [Builtin.firstCells,loadCells,loadCellsFrom],?_⟩
  rw [Nat.zero_mul]
  rfl
 ·obtain⟨l',h1,h2,_⟩:=zsJ (P:=P) H hp e1 e2
  refine⟨l',?_,h2⟩
  rw [ha (by omega)]
  exact h1
theorem zvv {w0 w:Xk} {B:Nat} {ρ:Rn} {h:Hf} {n len cap z k:Nat} {el:Xm} {ti:TypeInfo} {zv:Xl} {t:Xm} {zeros:Bool} {base:Xi} {y:Xl} {old old' new:Xj} (A:ApT P t el z zv ti)
  (H:HR w0 B ρ h w) (hk:ρ k=none) (h16:16<=k) (hold:(Builtin.firstCells z len (.slice base len cap)).run P { w with drawn:=w.drawn+1 }=.ok ⟨old'⟩ { w with drawn:=w.drawn+1 })
  (hor:LR (VL ρ) old old') (hnew:zoX P w0 B ρ h (zdW el z n zeros y) new) (hlen:old.length+new.length=(len+n)*z) (hc:¬ len+n<=cap) (hsm:len+n<=8192) :
  ∃v' w' ρ',(appS el ti z n zeros base len cap y).run P w=.ok v' w'∧HR w0 B ρ' (h.put k (some (.cells ⟨old++new⟩ el (z,1)))) w'∧Ext ρ ρ' k (k+1)∧VL ρ' (zbD k 0 (len+n) (len+n)) v':=by
 obtain⟨l',Ha,Ga⟩:=hnew _ (H.drew (w.drawn+1))
 obtain⟨nc,Ca⟩:∃nc,nc=(Question.appendCap (len+n) cap el).cut (w.tape w.drawn (.appendCap (len+n) cap el)):=⟨_,rfl⟩
 have Ja:len+n<=nc:=by rw [Ca];simp only [Question.cut];omega
 have Da:nc<=9223372036854775807:=by
  rw [Ca]
  simp only [Question.cut]
  have:=Nat.mod_lt (w.tape w.drawn (.appendCap (len+n) cap el)) (show 0<2 ^ 63-(len+n) by omega)
  omega
 obtain⟨rest,Aa⟩:∃rest,rest=reps zv.cells.toList (nc-(len+n)):=⟨_,rfl⟩
 have Ia:rest.length=(nc-(len+n))*z:=by rw [Aa,zeh,Array.length_toList,A.l]
 have Ba:(appS el ti z n zeros base len cap y).run P w=.ok (.slice (some ⟨w.heap.size,0,none⟩) (len+n) nc) { w with heap:=w.heap.push (.cells ⟨(old'++l')++rest⟩ el),drawn:=w.drawn+1 }:=by
  have hf:(Question.appendCap (len+n) cap el).forced=false:=rfl
  unfold appS
  rw [if_neg hc]
  have Fa:(⟨old'⟩:Array Xl) ++ ⟨l'⟩ ++ ⟨rest⟩=⟨(old'++l')++rest⟩:=by apply Array.ext';simp
  simp only [Sem.run_bind,run_choose,hf,Bool.false_eq_true,if_false,Result.andThen,<-Ca,run_askRoom,hold,Ha,A.r,newRow,run_newObj,Sem.run_pure,zdO,<-Aa,Fa]
 refine⟨_,_,ρ.put k ⟨w.heap.size,0,(old++new).length,z,nc-(len+n)⟩,Ba,?_,.put hk _,?_⟩
 ·refine zjv (t':=el) (rest:=rest) (fz:=(0,0)) z (nc-(len+n)) H hk h16 (hor.app Ga) (fun h0=>absurd h0 A.z0) (fun _=>rfl) (by rw [Ia];exact Nat.le_refl _)
   (zdT H.below (Nat.le_trans H.base H.below.size) _).drew ?_ (fun x hx=> ?_) ⟨.inl rfl,fun _ _=>rfl⟩
  ·simp
  ·simp only []
   rw [Array.getElem?_push,if_neg (by omega)]
 ·refine VL.slice.2 ⟨rfl,Nat.le_refl _,_,if_pos rfl,⟨w.heap.size,0,none⟩,nc,rfl,?_,fun _=>rfl,Da⟩
  simp only [List.length_append,hlen,Nat.zero_add,if_true]
  omega
theorem zwL {t el:Xm} {z n b off len cap:Nat} {zv:Xl} {ti:TypeInfo} {zeros:Bool} {y:Xl} {new:Xj} {p:Pl} {a':Addr} {c':Nat} (A:ApT P t el z zv ti)
  {w0 w:Xk} {B:Nat} {s s':Hp} {v:Xl} {ρ:Rn} (ht:Tells (zlx el z b off len cap n new) s v s') (H:HR w0 B ρ s.f w) (hfr:Free ρ s.n s'.n) (hp:ρ b=some p) (hlc:len<=cap)
  (e2:c'=cap+(if off+cap*p.es=p.sz then p.sl else 0)) (e3:c'≠0->a'=⟨p.blk,p.off+off,none⟩) (hcm:c'<=9223372036854775807) (hnl:new.length=n*z)
  (hnew0:zoX P w0 B ρ s.f (zdW el z n zeros y) new) :
  ∃v' w' ρ',(appS el ti z n zeros (some a') len c' y).run P w=.ok v' w'∧HR w0 B ρ' s'.f w'∧Ext ρ ρ' s.n s'.n∧VL ρ' v v'∧(len+n<=c'∨len+n<=8192):=by
 unfold zlx at ht
 rw [forceN_eq]at ht
 have qa:cap<=c':=by rw [e2];omega
 split at ht
 ·rename_i aa
  have aa:=Nat.le_of_ble_eq_true aa
  have Ca:len+n<=c':=by omega
  have hval:∀ρ',ρ.le ρ'->VL ρ' (zbD b off (len+n) cap) (.slice (some a') (len+n) c'):=fun ρ' hρ'=>VL.slice.2 ⟨rfl,aa,p,hρ' _ _ hp,a',c',rfl,e2,e3,hcm⟩
  obtain⟨l',La,Da⟩:=hnew0 w H
  unfold zoY at ht
  split at ht
  ·rename_i Na
   have Na:=Nat.eq_of_beq_eq_true Na
   obtain⟨rfl,rfl⟩:=zad ht
   have ja:l'=[]:=by
    have:=Da.len
    rw [hnl,Na,Nat.zero_mul]at this
    exact List.eq_nil_of_length_eq_zero this
   refine⟨_,w,ρ,?_,H,.rfl,hval ρ .rfl,.inl Ca⟩
   unfold appS
   rw [if_pos Ca]
   simp only [Sem.run_bind,La,Result.andThen,ja,storeCells,Sem.run_pure]
  ·rename_i Na
   have Na:n≠0:=fun h=>by subst h;cases Na
   obtain⟨u,s1,t1,t2,_⟩:=zac (zaF _ _) ht
   obtain⟨rfl,rfl⟩:=zad t2
   have ha:=e3 (by omega)
   have Ya:VL ρ (.pointer (some ⟨b,off+len*z,none⟩)) (.pointer (some (a'.add (len*z)))):=VL.ptr.2 ⟨rfl,p,hp,by rw [ha,zcB,Nat.add_assoc]⟩
   obtain⟨u',w',ρ',hr,H',hE,_⟩:=zeO (P:=P) Ya Da w0 B s s' u ρ w .rfl t1 H hfr
   refine⟨_,w',ρ',?_,H',hE,hval ρ' hE.le,.inl Ca⟩
   unfold appS
   rw [if_pos Ca]
   simp only [Sem.run_bind,La,Result.andThen,hr,Sem.run_pure]
 ·rename_i Ha
  have Ha:¬ len+n<=cap:=fun h=>by rw [Nat.ble_eq_true_of_le h]at Ha;cases Ha
  unfold zlD at ht
  split at ht
  ·exact (zag ht).elim
  ·rename_i ea
   have ea:=Nat.le_of_ble_eq_true ea
   obtain⟨cc,s1,t1,t2,xa⟩:=zac (zau _) ht
   obtain⟨f1,f2,f3⟩:=zaW t1
   obtain⟨q,hq,q2,q3,q4,c2,la,wa,q5,q6,q7,q8⟩:=H.obj b _ f1
   rw [hp]at hq;cases hq
   have da:p.sz=cc.1.length:=q2
   have H1:HR w0 B ρ s1.f w:=H.congr fun id=>by rw [f2]
   have grown:∀(s2 s3:Hp) (v:Xl),Tells (zfx el z off len (len+n) cc.1 new) s2 v s3->(∀id o,s2.f id=some o->s.f id=some o)->s2.n=s.n->s3.n=s'.n->¬ len+n<=c'->
     ∃v' w' ρ',(appS el ti z n zeros (some a') len c' y).run P w=.ok v' w'∧HR w0 B ρ' s3.f w'∧Ext ρ ρ' s.n s'.n∧VL ρ' v v':=by
    intro s2 s3 v hg Aa ga za oa
    unfold zfx at hg
    obtain⟨ka,s4,g1,g2,_⟩:=zac (zce _ _ _) hg
    obtain⟨k1,rfl,e4⟩:=zdL g1
    rw [forceL_eq,e4]at g2
    obtain⟨id,s5,g3,g4,_⟩:=zac (zaM _ _ _) g2
    obtain⟨rfl,e5⟩:=zad g4
    rw [<-e5]at g3
    obtain⟨k2,rfl,Oa,k3,k4⟩:=zdE g3
    obtain⟨Ia,na,va⟩:=zzQ (P:=P) (H.drew (w.drawn+1)) hp f1 k1 (Nat.le_trans hlc qa) e3
    have Ga:ρ s2.n=none:=hfr s2.n (by omega) (by omega)
    have hH:HR w0 B ρ s2.f w:=H.drop Aa
    obtain⟨l',La,Da⟩:=hnew0 _ (H.drew (w.drawn+1))
    have Ma:((cc.1.drop off).take (len*z)).length+new.length=(len+n)*z:=by
     rw [List.length_take,List.length_drop,hnl,Nat.add_mul];omega
    obtain⟨nc,Ja⟩:∃nc,nc=(Question.appendCap (len+n) c' el).cut (w.tape w.drawn (.appendCap (len+n) c' el)):=⟨_,rfl⟩
    have Ab:len+n<=nc:=by rw [Ja];simp only [Question.cut];omega
    have ba:nc<=9223372036854775807:=by
     rw [Ja]
     simp only [Question.cut]
     have:=Nat.mod_lt (w.tape w.drawn (.appendCap (len+n) c' el)) (show 0<2 ^ 63-(len+n) by omega)
     omega
    obtain⟨rest,Fa⟩:∃rest,rest=reps zv.cells.toList (nc-(len+n)):=⟨_,rfl⟩
    have ta:rest.length=(nc-(len+n))*z:=by rw [Fa,zeh,Array.length_toList,A.l]
    have Xa:(appS el ti z n zeros (some a') len c' y).run P w=.ok (.slice (some ⟨w.heap.size,0,none⟩) (len+n) nc) { w with heap:=w.heap.push (.cells ⟨(Ia++l')++rest⟩ el),drawn:=w.drawn+1 }:=by
     have hf:(Question.appendCap (len+n) c' el).forced=false:=rfl
     unfold appS
     rw [if_neg oa]
     have Wa:(⟨Ia⟩:Array Xl) ++ ⟨l'⟩ ++ ⟨rest⟩=⟨(Ia++l')++rest⟩:=by apply Array.ext';simp
     simp only [Sem.run_bind,run_choose,hf,Bool.false_eq_true,if_false,Result.andThen,<-Ja,run_askRoom,na,La,A.r,newRow,run_newObj,Sem.run_pure,zdO,<-Fa,Wa]
    refine⟨_,_,ρ.put s2.n ⟨w.heap.size,0,((cc.1.drop off).take (len*z)++new).length,z,nc-(len+n)⟩,Xa,?_,?_,?_⟩
    ·rw [k3]
     refine zjv (t':=el) (rest:=rest) (fz:=(0,0)) z (nc-(len+n)) hH Ga Oa (va.app Da) (fun h0=>absurd h0 A.z0) (fun _=>rfl) (by rw [ta];exact Nat.le_refl _)
      (zdT H.below (Nat.le_trans H.base H.below.size) _).drew ?_ (fun x hx=> ?_) ⟨.inl rfl,fun _ _=>rfl⟩
     ·simp
     ·simp only []
      rw [Array.getElem?_push,if_neg (by omega)]
    ·have hx:s'.n=s2.n+1:=by omega
     rw [hx,<-ga]
     exact .put Ga _
    ·refine VL.slice.2 ⟨rfl,Nat.le_refl _,_,if_pos rfl,⟨w.heap.size,0,none⟩,nc,rfl,?_,fun _=>rfl,ba⟩
     simp only [List.length_append,Ma,Nat.zero_add,if_true]
     omega
   split at t2
   ·rename_i hc
    have pa:c'=cap:=by rw [e2,zhA q3 q4 da hc];rfl
    obtain⟨v',w',ρ',hr,H',hE,hv⟩:=grown s1 s' v t2 (fun id o e=>by rw [f2]at e;exact e) f3 rfl (by omega)
    exact⟨v',w',ρ',hr,H',hE,hv,.inr (by omega)⟩
   ·rename_i hc
    split at t2
    ·rename_i Qa
     have Qa:=Nat.eq_of_beq_eq_true Qa
     obtain⟨u,s2,t3,t4,ga⟩:=zac (zcv _ _) t2
     obtain⟨Oa,g1,g2⟩:=zeK t3
     have Aa:∀id o,s2.f id=some o->s.f id=some o:=fun id o e=>by
      rw [g1,f2]at e
      unfold Hf.put at e
      split at e
      ·cases e
      ·exact e
     by_cases hplace:len+n<=c'
     ·
      have Ka:off+cap*z=cc.1.length:=by
       rw [Qa,Bool.or_eq_false_iff,Bool.not_eq_false']at hc
       exact Nat.eq_of_beq_eq_true hc.2
      have fa:p.es=z:=by rw [q4 (by rw [Qa];exact A.z0),Qa]
      have sa:c'=cap+p.sl:=by rw [e2,fa,da,if_pos Ka]
      have ha:=e3 (by omega)
      have hB:B<=p.blk:=H.own b _ p f1 Oa hp
      obtain⟨l',La,Da⟩:=hnew0 w H
      have Va:l'.length=n*z:=by rw [Da.len,hnl]
      have ma:off+c' * z=cc.1.length+p.sl*z:=by rw [sa,Nat.add_mul];omega
      have ia:(len+n)*z<=c' * z:=Nat.mul_le_mul_right z hplace
      rw [fa]at q6
      unfold zfx at t4
      obtain⟨ka,s4,k0,k5,_⟩:=zac (zce _ _ _) t4
      obtain⟨k1,rfl,e4⟩:=zdL k0
      rw [forceL_eq,e4]at k5
      obtain⟨id,s5,k6,k7,_⟩:=zac (zaM _ _ _) k5
      obtain⟨rfl,e5⟩:=zad k7
      rw [<-e5]at k6
      obtain⟨Ra,rfl,Ua,kf,kn⟩:=zdE k6
      rw [List.all_append,Bool.and_eq_true]at Ra
      obtain⟨w',c3,hr,ua,ca,tw,hk⟩:=zgo (P:=P) (o:=p.off+off+len*z) l' 0 w c2 q5 (by rw [Va,Nat.add_mul]at *;omega) (q7 Oa).no (zgH Da Ra.2)
      have Ga:ρ s2.n=none:=hfr s2.n (by omega) (by omega)
      refine⟨.slice (some a') (len+n) c',w',ρ.put s2.n ⟨p.blk,p.off+off,(len+n)*z,z,c' - (len+n)⟩,?_,?_,?_,?_,.inl hplace⟩
      ·unfold appS
       rw [if_pos hplace]
       simp only [Sem.run_bind,La,Result.andThen,ha,zcB]
       rw [show (storeCells ⟨p.blk,p.off+off+len*z,none⟩ l')=storeCells ⟨p.blk,p.off+off+len*z,none⟩ l' 0 from rfl,hr]
       rfl
      ·rw [kf]
       refine (H.drop Aa).new Ga Ua hB (fun id o p' ho Ta=> ?_) (H.below.trans ⟨tw.os,tw.tape,tw.output,by rw [tw.size];exact Nat.le_refl _,fun k hk=>tw.other k (by omega)⟩) (fun id o p' ho Ta=> ?_) ?_
       ·have Za:id≠b:=fun e=>by rw [g1,e]at ho;unfold Hf.put at ho;rw [if_pos rfl]at ho;cases ho
        exact H.sep id b _ _ p' p Za (Aa _ _ ho) f1 Ta hp
       ·have Za:id≠b:=fun e=>by rw [g1,e]at ho;unfold Hf.put at ho;rw [if_pos rfl]at ho;cases ho
        exact tw.other _ (H.sep id b _ _ _ _ Za (Aa _ _ ho) f1 Ta hp)
       ·have Ma:((cc.1.drop off).take (len*z)).length=len*z:=by rw [List.length_take,List.length_drop];omega
        refine⟨_,if_pos rfl,?_,fun h0=>absurd h0 A.z0,fun _=>rfl,c3,la,wa,ua,?_,(fun _=>⟨by rw [ca];exact (q7 Oa).1,fun _ h0=>absurd h0 A.z0⟩),fun k v ra=> ?_⟩
        ·simp only [List.size_toArray,List.length_append,Ma,hnl,Nat.add_mul]
        ·rw [ca]
         simp only []
         have:(len+n)*z+(c' - (len+n))*z=c' * z:=by rw [<-Nat.add_mul];congr 1;omega
         omega
        ·have Ba:((cc.1.drop off).take (len*z)++new)[k]? = some v:=by simpa using ra
         rw [hk]
         by_cases hlt:k<len*z
         ·rw [List.getElem?_append_left (by rw [Ma];exact hlt),List.getElem?_take,if_pos hlt,List.getElem?_drop]at Ba
          rw [if_neg (by simp only [];omega)]
          obtain⟨v',Pa,Sa⟩:=q8 (off+k) v (by simpa using Ba)
          exact⟨v',by rw [<-Pa];congr 1;simp only [];omega,Sa.grow (Rn.put_le Ga _)⟩
         ·rw [List.getElem?_append_right (by rw [Ma];omega),Ma]at Ba
          obtain⟨v',Pa,Sa⟩:=Da.at Ba
          have ya:k-len*z<l'.length:=by
           rcases Nat.lt_or_ge (k-len*z) l'.length with h | h
           ·exact h
           ·rw [List.getElem?_eq_none h]at Pa;cases Pa
          rw [if_pos (by simp only [];omega)]
          exact⟨v',by rw [<-Pa];congr 1;simp only [];omega,Sa.grow (Rn.put_le Ga _)⟩
      ·have hx:s'.n=s2.n+1:=kn
       have hy:s2.n=s.n:=by omega
       rw [hx,<-hy]
       exact .put Ga _
      ·refine VL.slice.2 ⟨rfl,Nat.le_refl _,_,if_pos rfl,a',c',rfl,?_,fun _=>by rw [ha];rfl,hcm⟩
       simp only [Nat.zero_add,if_true]
       omega
     ·obtain⟨v',w',ρ',hr,H',hE,hv⟩:=grown s2 s' v t4 Aa (by omega) rfl hplace
      exact⟨v',w',ρ',hr,H',hE,hv,.inr (by omega)⟩
    ·exact (zag t2).elim
theorem zhC:∀(n i:Nat) (a:Addr) (acc arr:Array Xl) (w w':Xk),(loadCellsFrom a i n acc).run P w=.ok arr w'->w'=w
 | 0,i,a,acc,arr,w,w',h=>by simp only [loadCellsFrom,Sem.run_pure,Result.ok.injEq]at h;exact h.2.symm
 | n+1,i,a,acc,arr,w,w',h=>by
  simp only [loadCellsFrom,Sem.run_bind]at h
  have hl:∀r,(load (a.add i)).run P w=r->(∃v,r=.ok v w)∨∃e,r=.halt e w:=by
   intro r hr
   rw [run_load]at hr
   split at hr
   ·exact .inl ⟨_,hr.symm⟩
   ·split at hr
    ·exact .inl ⟨_,hr.symm⟩
    ·exact .inr ⟨_,hr.symm⟩
  rcases hl _ rfl with ⟨v,hv⟩ | ⟨e,he⟩
  ·rw [hv]at h
   exact zhC n (i+1) a _ arr w w' h
  ·rw [he]at h;cases h
theorem zrE {z n:Nat} {y:Xl} {arr:Array Xl} {w w':Xk} (h:(Builtin.firstCells z n y).run P w=.ok arr w'):w'=w:=by
 unfold Builtin.firstCells at h
 split at h
 ·exact zhC _ _ _ _ _ _ _ h
 ·simp only [Sem.run_pure,Result.ok.injEq]at h;exact h.2.symm
 ·simp only [Sem.run_pure,Result.ok.injEq]at h;exact h.2.symm
 ·cases h
theorem ztM {t:Xm} {x x' y y':Xl} (hx:VL ρ0 x x') (hy:VL ρ0 y y') (ts:Array Xm) (ty:Xm) (args:Array Xl) (h0:ts[0]? = some t) (h1:args[0]? = some x') (h2:args[1]? = some y') :
  Sim P ρ0 (zgw P t ts[1]? x y) (Builtin.append_ ts ty args) fun ρ a v=>VL ρ a v:=by
 unfold zgw
 split
 ·exact .fail
 ·rename_i el z Na hA
  obtain⟨zv,ti,A,rfl⟩:=zxB hA
  have Ga:∀(Aa:Bool) (n:Nat) (new:Xj) (w0:Xk) (B:Nat) (s s':Hp) (v:Xl) (ρ:Rn) (w:Xk),ρ0.le ρ->intT P ts[1]? = some Aa->zzp P Aa y' n->
    Tells (zje el z x n new) s v s'->HR w0 B ρ s.f w->Free ρ s.n s'.n->zoX P w0 B ρ s.f (zdW el z n Aa y') new->
    ∃v' w' ρ',(Builtin.append_ ts ty args).run P w=.ok v' w'∧HR w0 B ρ' s'.f w'∧Ext ρ ρ' s.n s'.n∧VL ρ' v v':=by
   intro Aa n new w0 B s s' v ρ w hρ hz hn ht H Da Ba
   unfold zje at ht
   split at ht
   ·exact (zag ht).elim
   ·rename_i Ia
    have Ja:=Nat.eq_of_beq_eq_true Ia
    split at ht
    ·obtain⟨_,_,e1⟩:=VL.nils.1 hx
     subst e1
     unfold zmh at ht
     split at ht
     ·rename_i Fa
      have Fa:=Nat.eq_of_beq_eq_true Fa
      obtain⟨rfl,rfl⟩:=zad ht
      subst Fa
      obtain⟨l',Oa,Sa⟩:=Ba w H
      refine⟨.slice none 0 0,w,ρ,?_,H,.rfl,VL.nils.2 ⟨rfl,rfl,rfl⟩⟩
      rw [zmv A h0 h1 h2 hz hn (.inl (Nat.le_refl _)) w]
      unfold appS
      rw [if_pos (Nat.le_refl _)]
      simp only [Sem.run_bind,Oa,Result.andThen,Sem.run_pure]
     ·rename_i Fa
      have Fa:n≠0:=fun h=>by subst h;cases Fa
      split at ht
      ·rename_i Ca
       have Ca:=Nat.le_of_ble_eq_true Ca
       obtain⟨id,s1,t1,t2,_⟩:=zac (zaM _ _ _) ht
       obtain⟨rfl,rfl⟩:=zad t2
       obtain⟨_,rfl,Ma,k3,k4⟩:=zdE t1
       have Ka:ρ s.n=none:=Da s.n (Nat.le_refl _) (by omega)
       obtain⟨v',w',ρ',hr,H',hE,hv⟩:=zvv (P:=P) (base:=none) (len:=0) (cap:=0) (old:=[]) (old':=[]) A H Ka Ma rfl rfl Ba (by simp [Ja]) (by omega) (by omega)
       refine⟨v',w',ρ',?_,by rw [k3];exact H',by rw [k4];exact hE,by simpa using hv⟩
       rw [zmv A h0 h1 h2 hz hn (.inr (by omega)) w]
       exact hr
      ·exact (zag ht).elim
    ·rename_i b Pa len cap
     obtain⟨Qa,p,a',c',hp,e1,e2,e3,e4⟩:=zgt (hx.grow hρ)
     subst e1
     obtain⟨v',w',ρ',hr,H',hE,hv,Ca⟩:=zwL (P:=P) A ht H Da hp Qa e2 e3 e4 Ja Ba
     refine⟨v',w',ρ',?_,H',hE,hv⟩
     rw [zmv A h0 h1 h2 hz hn Ca w]
     exact hr
    ·exact (zag ht).elim
  split
  ·exact .fail
  ·rename_i hz
   split
   ·rename_i k n
    split
    ·rename_i Ca
     have Ca:=Nat.le_of_ble_eq_true Ca
     rw [forceL_eq]
     have e1:=VL.int.1 hy
     subst e1
     intro w0 B s s' v ρ w hρ ht H Da
     refine Ga true n _ w0 B s s' v ρ w hρ hz ⟨⟨k,rfl⟩,Ca⟩ ht H Da fun w _=>⟨reps zv.cells.toList n,?_,zfB (zcb A.p) n⟩
     unfold zdW
     simp only [Bool.not_true,Bool.false_eq_true,if_false]
     by_cases hc:n*z=0
     ·rw [if_pos hc]
      have:reps zv.cells.toList n=[]:=List.eq_nil_of_length_eq_zero (by rw [zeh,Array.length_toList,A.l,hc])
      rw [this];rfl
     ·rw [if_neg hc]
      simp only [Sem.run_bind,A.r,Result.andThen,Sem.run_pure,zdO]
    ·exact .fail
   ·exact .fail
  ·rename_i hz
   split
   ·rename_i n hn
    intro w0 B s s' v ρ w hρ ht H Da
    obtain⟨new,s1,t1,t2,Ra⟩:=zac (zeC _ _ _) ht
    have Ha:s1.f=s.f∧s1.n=s.n:=by
     unfold zeR at t1
     split at t1
     ·split at t1
      ·obtain⟨_,rfl⟩:=zad t1;exact⟨rfl,rfl⟩
      ·obtain⟨b,Pa,l,t,fl,_,_,_,_,g1,g2⟩:=zaY t1
       exact⟨g1,g2⟩
     ·split at t1
      ·obtain⟨_,rfl⟩:=zad t1;exact⟨rfl,rfl⟩
      ·exact (zag t1).elim
     ·rw [forceL_eq]at t1
      obtain⟨_,rfl⟩:=zad t1;exact⟨rfl,rfl⟩
     ·exact (zag t1).elim
    have Ba:zoX P w0 B ρ s1.f (zdW el z n false y') new:=by
     intro w1 H1
     rw [Ha.1]at H1
     obtain⟨Ta,w2,ρ2,hr,H2,hE,l',rfl,hl,_⟩:=zoj (P:=P) (z:=z) (n:=n) hy (fun m hm=>by rw [hn]at hm;cases hm;exact Nat.le_refl _) w0 B s s1 new ρ w1 hρ t1 H1 (fun id h1 h2=>by omega)
     have hρ2:ρ2=ρ:=by funext id;exact hE.out id (by omega)
     subst hρ2
     have La:w2=w1:=zrE hr
     subst La
     refine⟨l',?_,hl⟩
     unfold zdW
     simpa using hr
    obtain⟨v',w',ρ',hr,H',hE,hv⟩:=Ga false n new w0 B s1 s' v ρ w hρ hz (fun w=>zkn hy hn w) t2 (by rw [Ha.1];exact H) (by rw [Ha.2];exact Da) Ba
    exact⟨v',w',ρ',hr,H',by rw [<-Ha.2];exact hE,hv⟩
   ·exact .fail
end Go.Proofs.YtgjolijncmkkhaaGreatDoor
namespace Go.Proofs.YtgjolijncmkkhaaGreatDoor
open Go.RowKit
set_option linter.unusedVariables false
variable {P:Program}
def Went (P:Program) (r:Result Next) (K:Xl->Xk->Prop):Prop:=match r with
 | .ok (.value v) w=>K v w
 | .ok .skip w=>K undef w
 | .ok (.enter f args) w=>Calls P f args w fun e w'=>∃v,e=.returned v∧K v w'
 | _=>False
def Post (w0:Xk) (B:Nat) (ρ:Rn) (s s':Hp) (v:Xl) (v':Xl) (w':Xk):Prop:=∃ρ',HR w0 B ρ' s'.f w'∧Ext ρ ρ' s.n s'.n∧VL ρ' v v'
theorem zlG {ρ:Rn}:VL ρ unV undef:=VL.tuple.2 ⟨[],rfl,rfl⟩
theorem zAR {ρ0:Rn} {F:M Xl} {c:Sem Next} (h:Sim P ρ0 F c OpR) {w0 w:Xk} {B:Nat} {s s':Hp} {v:Xl} (ht:Tells F s v s') (H:HR w0 B ρ0 s.f w) (hfr:Free ρ0 s.n s'.n):Went P (c.run P w) (Post w0 B ρ0 s s' v):=by
 obtain⟨nx,w',ρ',hr,H',hE,hR⟩:=h w0 B s s' v ρ0 w .rfl ht H hfr
 rw [hr]
 rcases hR with ⟨v',rfl,hv⟩ | ⟨rfl,rfl⟩
 ·exact⟨ρ',H',hE,hv⟩
 ·exact⟨ρ',H',hE,zlG⟩
def zcF (P:Program) (E:zas):Prop:=∀(f:FuncId) (vs:Xj) (s s':Hp) (v:Xl),E f vs s=some (v,s')->
 ∀(w0:Xk) (B:Nat) (ρ:Rn) (w:Xk) (vs':Xj),HR w0 B ρ s.f w->LR (VL ρ) vs vs'->Free ρ s.n s'.n->Went P ((callFunc f ⟨vs'⟩).run P w) (Post w0 B ρ s s' v)
theorem zeY {C:Hp->Option (Xl×Hp)} {s s':Hp} {v:Xl} (h:Tells (zdk C) s v s'):C s=some (v,s'):=by
 have e:=h.pair
 have e2:(match C s with | some (v,s)=>some (v,s) | none=>none)=some (v,s'):=e
 cases hc:C s with
 | none=>rw [hc]at e2;cases e2
 | some x=>rw [hc]at e2;obtain⟨a,b⟩:=x;cases e2;rfl
section
variable {ρ0:Rn} {e:En} {m:Operand->Xl}
theorem zfb (he:EnvR ρ0 e m):∀(l:List Operand) {s s':Hp} {vs:Xj},Tells (aevs e l) s vs s'->s'=s∧LR (VL ρ0) vs (l.map m)
 | [],s,s',vs,h=>by obtain⟨rfl,rfl⟩:=zad h;exact⟨rfl,rfl⟩
 | x::l,s,s',vs,h=>by
  unfold aevs at h
  split at h
  ·rename_i v hv
   obtain⟨ws,s1,h1,h2,_⟩:=zac (zaV e l) h
   obtain⟨rfl,hl⟩:=zfb he l h1
   obtain⟨rfl,rfl⟩:=zad h2
   exact⟨rfl,m x,l.map m,rfl,he x v hv,hl⟩
  ·exact (zag h).elim
theorem zud {E:zas} (hE:zbg E) (hC:zcF P E) (he:EnvR ρ0 e m) (f:Operand) (args:Array Operand) (ats:Array Xm) (o:Oper) (ho:o.op=.call { callee:=.value f,args,argTypes:=ats })
  {w0 w:Xk} {B:Nat} {s s':Hp} {v:Xl} (ht:Tells (zfn E f args e) s v s') (H:HR w0 B ρ0 s.f w) (hfr:Free ρ0 s.n s'.n):Went P ((execOp m o).run P w) (Post w0 B ρ0 s s' v):=by
 unfold zfn at ht
 obtain⟨fv,s1,t1,t2,_⟩:=zac (zbo _) ht
 obtain⟨Ca,rfl⟩:=zcn t1
 obtain⟨vs,s2,t3,t4,_⟩:=zac (zaV _ _) t2
 obtain⟨rfl,Da⟩:=zfb he _ t3
 split at t4
 ·rename_i g us hg
  unfold zsr at hg
  split at hg
  ·rename_i g' a b
   cases hg
   rw [forceL_eq]at t4
   obtain⟨_,a',b',e1,ha,hb⟩:=VL.func.1 (he f _ Ca)
   have Aa:=hC _ _ _ _ _ (zeY t4) w0 B ρ0 w (a'++(args.toList.map m++b')) H (ha.app (Da.app hb)) hfr
   have hx:(execOp m o).run P w=(callFunc g ⟨a'++(args.toList.map m++b')⟩).run P w:=by
    have Ba:(⟨a'⟩:Array Xl)++args.map m ++ ⟨b'⟩=⟨a'++(args.toList.map m++b')⟩:=by apply Array.ext';simp
    simp only [execOp,ho,resolve,Deferred.ofValue,e1,Sem.run_bind,Sem.run_pure,Result.andThen,invoke,Ba]
   rw [hx];exact Aa
  ·cases hg
 ·exact (zag t4).elim
theorem zut {E:zas} (hE:zbg E) (hC:zcF P E) (he:EnvR ρ0 e m) (r:Operand) (name:String) (args:Array Operand) (ats:Array Xm) (o:Oper) (ho:o.op=.call { callee:=.invoke r name,args,argTypes:=ats })
  {w0 w:Xk} {B:Nat} {s s':Hp} {v:Xl} (ht:Tells (zfi P E r name args e) s v s') (H:HR w0 B ρ0 s.f w) (hfr:Free ρ0 s.n s'.n):Went P ((execOp m o).run P w) (Post w0 B ρ0 s s' v):=by
 unfold zfi at ht
 split at ht
 ·rename_i t x hr
  obtain⟨vs,s2,t3,t4,_⟩:=zac (zaV _ _) ht
  obtain⟨rfl,Ia⟩:=zfb he _ t3
  split at t4
  ·rename_i g hg
   obtain⟨x',e1,hx⟩:=VL.iface.1 (he r _ hr)
   have Ca:=hC _ _ _ _ _ (zeY t4) w0 B ρ0 w (x'::args.toList.map m) H ⟨x',_,rfl,hx,Ia⟩ hfr
   unfold zpQ at hg
   split at hg
   ·rename_i i hi
    split at hg
    ·rename_i mt hm
     split at hg
     ·cases hg
     ·rename_i g' d La Aa Ja hu
      cases hg
      have Ba:(method (P.types.size+Made.depth) t x' name).run P w=.ok (g,x') w:=by
       have Ka:0<Made.depth:=by decide
       have hd:P.types.size+Made.depth=(P.types.size+(Made.depth-1))+1:=by omega
       have Ha:mt.path.toList=[]:=by simpa using Aa
       rw [hd]
       simp only [method,Sem.run_bind,zgY hi,Result.andThen,hm,Ha,follow,Sem.run_pure,Aa,Ja,receiverAt,run_underlying hu]
       cases d<;>first
        | rfl
        | exact (La _ rfl).elim
      have Da:(execOp m o).run P w=(callFunc g ⟨x'::args.toList.map m⟩).run P w:=by
       have Ga : #[x']++(args.map m)=⟨x'::args.toList.map m⟩:=by apply Array.ext';simp
       have Fa:(#[Value.iface t x']++args.map m).extract 1 (#[Value.iface t x']++args.map m).size=args.map m:=by
        apply Array.ext'
        simp
        exact List.take_of_length_le (by simp)
       have h0:(#[Value.iface t x']++args.map m)[0]? = some (.iface t x'):=by rw [Array.getElem?_append_left (by simp)];rfl
       simp only [execOp,ho,resolve,e1,Sem.run_bind,Sem.run_pure,Result.andThen,invoke,h0,Fa,callMethod,run_program,Ba,Ga]
      rw [Da];exact Ca
     ·cases hg
    ·cases hg
   ·cases hg
  ·exact (zag t4).elim
 ·exact (zag ht).elim
end
end Go.Proofs.YtgjolijncmkkhaaGreatDoor
namespace Go.Proofs.YtgjolijncmkkhaaGreatDoor
open Go.RowKit
set_option linter.unusedVariables false
variable {P:Program}
def DefR (ρ:Rn) (d d':Deferred):Prop:=∃g a b a' b',d={ target:=.fn (.func g) ⟨b⟩,args:=⟨a⟩ }∧d'={ target:=.fn (.func g) ⟨b'⟩,args:=⟨a'⟩ }∧LR (VL ρ) a a'∧LR (VL ρ) b b'
def DsR (ρ:Rn):List Deferred->List Deferred->Prop
 | [],l=>l=[]
 | d::l,l'=>∃d' t,l'=d'::t∧DefR ρ d d'∧DsR ρ l t
theorem DefR.grow {ρ ρ':Rn} (hρ:ρ.le ρ') {d d':Deferred} (h:DefR ρ d d'):DefR ρ' d d':=by
 obtain⟨g,a,b,a',b',e1,e2,h1,h2⟩:=h
 exact⟨g,a,b,a',b',e1,e2,h1.grow hρ,h2.grow hρ⟩
theorem DsR.grow {ρ ρ':Rn} (hρ:ρ.le ρ'):∀{l l':List Deferred},DsR ρ l l'->DsR ρ' l l'
 | [],_,h=>h
 | d::l,_,⟨d',t,e,hd,ht⟩=>⟨d',t,e,hd.grow hρ,DsR.grow hρ ht⟩
structure ActR (ρ:Rn) (N:Nat) (t:TT) (ds:List Deferred) (a:Act):Prop where
 size:a.tmps.size=N
 le:N<=256
 tm:∀k,k<=255->VL ρ (zaD t k) (a.tmps.getD k undef)
 df:DsR ρ ds a.defers
theorem ActR.grow {ρ ρ':Rn} (hρ:ρ.le ρ') {N:Nat} {t:TT} {ds:List Deferred} {a:Act} (h:ActR ρ N t ds a):ActR ρ' N t ds a:=
 ⟨h.size,h.le,fun k hk=>(h.tm k hk).grow hρ,h.df.grow hρ⟩
def Glo' (ρ:Rn):Prop:=∀g,g<16->∃p,ρ g=some p∧p.blk=g∧p.off=0
theorem zwt {ρ:Rn} {N:Nat} {t:TT} {ds:List Deferred} {a:Act} (h:ActR ρ N t ds a) (hg:Glo' ρ):EnvR ρ (aev t) a.eval:=by
 intro x v hx
 cases x with
 | tmp k=>
  unfold aev at hx
  simp only []at hx
  split at hx
  ·rename_i hb
   cases hx
   exact h.tm k (Nat.le_of_ble_eq_true hb)
  ·cases hx
 | const c=>
  unfold aev at hx
  simp only []at hx
  split at hx
  ·rename_i hp;cases hx;exact zdg hp
  ·cases hx
 | global g=>
  unfold aev at hx
  simp only []at hx
  split at hx
  ·rename_i hb
   cases hx
   obtain⟨p,h1,h2,h3⟩:=hg g (by have:=Nat.le_of_ble_eq_true hb;omega)
   exact VL.ptr.2 ⟨rfl,p,h1,by rw [h2,h3];rfl⟩
  ·cases hx
 | func f=>cases hx;exact VL.func.2 ⟨trivial,[],[],rfl,rfl,rfl⟩
theorem ActR.put {ρ:Rn} {N:Nat} {t:TT} {ds:List Deferred} {a:Act} (h:ActR ρ N t ds a) {d:Nat} {v v':Xl} (hd:d<N) (hv:VL ρ v v'):ActR ρ N (tset8 t d v id) ds (a.put (some d) v'):=by
 refine⟨by simp [Act.put,h.size],h.le,fun k hk=> ?_,h.df⟩
 have Aa:=h.le
 rw [zdG _ _ _ _ (by omega) hk]
 simp only [Act.put,Array.getD_eq_getD_getElem?,Array.getElem?_setIfInBounds]
 by_cases hdk:d=k
 ·rw [if_pos hdk,if_pos hdk,if_pos (by rw [h.size];exact hd)]
  exact hv
 ·rw [if_neg hdk,if_neg hdk,<-Array.getD_eq_getD_getElem?]
  exact h.tm k hk
theorem ziJ {N:Nat} {t t':TT} {d:Option Tmp} {v:Xl} {s s':Hp} (h:Tells (putK N t d v) s t' s'):s'=s∧((d=none∧t'=t)∨∃k,d=some k∧k<N∧t'=tset8 t k v id):=by
 unfold putK at h
 split at h
 ·obtain⟨rfl,rfl⟩:=zad h;exact⟨rfl,.inl ⟨rfl,rfl⟩⟩
 ·rename_i k
  split at h
  ·rename_i hb
   rw [tset8_eq]at h
   obtain⟨rfl,rfl⟩:=zad h
   exact⟨rfl,.inr ⟨k,rfl,zcZ hb,rfl⟩⟩
  ·exact (zag h).elim
theorem zxi {o:Oper} {a:Act} {next:Act->Xk->Prop} {Q:Exit->Act->Xk->Prop} {r:Result Next} {K:Xl->Xk->Prop} (h:Went P r K) (hk:∀v w,K v w->next (a.put o.dst v) w):o.upon P a next Q r:=by
 unfold Went at h
 split at h
 ·exact hk _ _ h
 ·exact hk _ _ h
 ·refine Calls.mono h fun e w' he=> ?_
  obtain⟨v,rfl,hv⟩:=he
  exact hk _ _ hv
 ·exact h.elim
section
variable {ρ0:Rn} {e:En} {m:Operand->Xl} {o:Oper}
theorem zBg (he:EnvR ρ0 e m) (x:Operand) (ho:o.op=.move x):Sim P ρ0 (zdV x e) (execOp m o) OpR:=by
 unfold execOp
 rw [ho]
 exact zho he x
theorem zyt (he:EnvR ρ0 e m) (x:Operand) (ho:o.op=.assign x):Sim P ρ0 (zdV x e) (execOp m o) OpR:=by
 unfold execOp
 rw [ho]
 exact zho he x
theorem zBF (he:EnvR ρ0 e m) (c:Operand) (a:Operand) (b:Operand) (ho:o.op=.pick c a b):Sim P ρ0 (zfP c a b e) (execOp m o) OpR:=by
 unfold execOp
 rw [ho]
 exact zxp he c a b
theorem zzL (he:EnvR ρ0 e m) (t:Xm) (ho:o.op=.alloc t):Sim P ρ0 (zeq P t) (execOp m o) OpR:=by
 unfold execOp
 rw [ho]
 exact Sim.value (zvj t)
theorem zCb (he:EnvR ρ0 e m) (t:Xm) (x:Operand) (ho:o.op=.box t x):Sim P ρ0 (zgT t x e) (execOp m o) OpR:=by
 unfold execOp
 rw [ho]
 exact Sim.value (zzX he t x)
theorem zAV (he:EnvR ρ0 e m) (t:Xm) (parts:Array (Nat×Operand)) (ho:o.op=.build t parts):Sim P ρ0 (zej P t parts e) (execOp m o) OpR:=by
 unfold execOp
 rw [ho]
 exact Sim.value (zvL he t parts)
theorem zpK (he:EnvR ρ0 e m) (t:Xm) (len:Nat) (parts:Array (Nat×Operand)) (ho:o.op=.buildSlice t len parts):Sim P ρ0 (zbP P t len parts e) (execOp m o) OpR:=by
 unfold execOp
 rw [ho]
 exact Sim.value (zmP he t len parts)
theorem zBb (he:EnvR ρ0 e m) (t:Xm) (a:Operand) (ho:o.op=.load t a):Sim P ρ0 (zfz P t a e) (execOp m o) OpR:=by
 unfold execOp
 rw [ho]
 exact Sim.value (zzf he t a)
theorem zAc (he:EnvR ρ0 e m) (t:Xm) (a:Operand) (x:Operand) (ho:o.op=.store t a x):Sim P ρ0 (zep P t a x e) (execOp m o) OpR:=by
 unfold execOp
 rw [ho]
 exact zvh he t a x
theorem zAO (he:EnvR ρ0 e m) (op:BinOp) (t:Xm) (x:Operand) (y:Operand) (yt:Xm) (ho:o.op=.binOp op t x y yt):Sim P ρ0 (zhl P op t x y e) (execOp m o) OpR:=by
 unfold execOp
 rw [ho]
 exact Sim.value (zAK he op t x y)
theorem zBw (he:EnvR ρ0 e m) (op:UnOp) (ut:Xm) (x:Operand) (ho:o.op=.unOp op ut x):Sim P ρ0 (zfs P op x e) (execOp m o) OpR:=by
 unfold execOp
 rw [ho]
 exact Sim.value (zBR he op x)
theorem zwy (he:EnvR ρ0 e m) (src:Xm) (dst:Xm) (x:Operand) (ho:o.op=.convert src dst x):Sim P ρ0 (zcM P src dst x e) (execOp m o) OpR:=by
 unfold execOp
 rw [ho]
 exact Sim.value (zrU he src dst x)
theorem zlX (he:EnvR ρ0 e m) (t:Xm) (x:Operand) (ho:o.op=.makeInterface t x):Sim P ρ0 (zbm P t x e) (execOp m o) OpR:=by
 unfold execOp
 rw [ho]
 exact Sim.value (zjD he t x)
theorem ztB (he:EnvR ρ0 e m) (fn:Fn) (a:Array Operand) (b:Array Operand) (ho:o.op=.makeFunc fn a b):Sim P ρ0 (zcp fn a b e) (execOp m o) OpR:=by
 unfold execOp
 rw [ho]
 exact Sim.value (zrc he fn a b)
theorem zwW (he:EnvR ρ0 e m) (t:Xm) (r:Option Operand) (ho:o.op=.makeMap t r):Sim P ρ0 (zcQ r) (execOp m o) OpR:=by
 unfold execOp
 rw [ho]
 exact Sim.value (zsa t r m)
theorem zrV (he:EnvR ρ0 e m) (t:Xm) (l:Operand) (c:Operand) (ho:o.op=.makeSlice t l c):Sim P ρ0 (zcf P t l c e) (execOp m o) OpR:=by
 unfold execOp
 rw [ho]
 exact Sim.value (zoJ he t l c)
theorem zAW (he:EnvR ρ0 e m) (t:Xm) (x:Operand) (lo:Option Operand) (hi:Option Operand) (mx:Option Operand) (ho:o.op=.slice t x lo hi mx):Sim P ρ0 (zes P t x lo hi mx e) (execOp m o) OpR:=by
 unfold execOp
 rw [ho]
 exact Sim.value (zwh he t x lo hi mx)
theorem zrw (he:EnvR ρ0 e m) (t:Xm) (x:Operand) (f:Nat) (ho:o.op=.fieldAddr t x f):Sim P ρ0 (zbZ P t x f e) (execOp m o) OpR:=by
 unfold execOp
 rw [ho]
 exact Sim.value (zoN he t x f)
theorem zzO (he:EnvR ρ0 e m) (t:Xm) (x:Operand) (f:Nat) (ho:o.op=.field t x f):Sim P ρ0 (zen P t x f e) (execOp m o) OpR:=by
 unfold execOp
 rw [ho]
 exact Sim.value (zwx he t x f)
theorem zsd (he:EnvR ρ0 e m) (t:Xm) (x:Operand) (ix:Operand) (ho:o.op=.indexAddr t x ix):Sim P ρ0 (zca P t x ix e) (execOp m o) OpR:=by
 unfold execOp
 rw [ho]
 exact Sim.value (zoM he t x ix)
theorem zAe (he:EnvR ρ0 e m) (t:Xm) (x:Operand) (ix:Operand) (ho:o.op=.index t x ix):Sim P ρ0 (zer P t x ix e) (execOp m o) OpR:=by
 unfold execOp
 rw [ho]
 exact Sim.value (zvb he t x ix)
theorem zxq (he:EnvR ρ0 e m) (t:Xm) (x:Operand) (ix:Operand) (ok:Bool) (ho:o.op=.lookup t x ix ok):Sim P ρ0 (zdz P t x ix ok e) (execOp m o) OpR:=by
 unfold execOp
 rw [ho]
 exact Sim.value (ztT he t x ix ok)
theorem zsl (he:EnvR ρ0 e m) (t:Xm) (x:Operand) (k:Operand) (y:Operand) (ho:o.op=.mapUpdate t x k y):Sim P ρ0 (zbh P t x k y e) (execOp m o) OpR:=by
 unfold execOp
 rw [ho]
 exact zhO he t x k y
theorem zyN (he:EnvR ρ0 e m) (t:Xm) (x:Operand) (k:Operand) (y:Operand) (ho:o.op=.insert t x k y):Sim P ρ0 (zbh P t x k y e) (execOp m o) OpR:=by
 unfold execOp
 rw [ho]
 exact zhO he t x k y
theorem zqD (he:EnvR ρ0 e m) (x:Operand) (xt:Xm) (t:Xm) (ok:Bool) (ho:o.op=.typeAssert x xt t ok):Sim P ρ0 (zbM P x t ok e) (execOp m o) OpR:=by
 unfold execOp
 rw [ho]
 exact Sim.value (zmw he x xt t ok)
theorem zvT (he:EnvR ρ0 e m) (x:Operand) (i:Nat) (ho:o.op=.extract x i):Sim P ρ0 (zcT x i e) (execOp m o) OpR:=by
 unfold execOp
 rw [ho]
 exact Sim.value (zrY he x i)
theorem zvD (he:EnvR ρ0 e m) (b:Builtin) (args:Array Operand) (ts:Array Xm) (ho:o.op=.call { callee:=.builtin b,args,argTypes:=ts }):Sim P ρ0 (zdM P o.type b args ts e) (execOp m o) OpR:=by
 unfold zdM
 refine Sim.aevs he _ (fun _=>zjR _ _ _ _ _) fun vs Ba=> ?_
 have hx:execOp m o=builtin b ts o.type (args.map fun | .const _=>true | _=>false) (args.map m):=by
  unfold execOp
  rw [ho]
  rfl
 rw [hx]
 have Ca:(args.map m)=⟨args.toList.map m⟩:=by apply Array.ext';simp
 rw [Ca]
 generalize args.toList.map m=us at *
 generalize (args.map fun | .const _=>true | _=>false)=cs
 obtain⟨tl⟩:=ts
 show Sim P ρ0 (zix P o.type b tl vs) _ _
 clear ho hx
 unfold zix
 split
 ·rename_i t tr x xr
  obtain⟨x',ur,e1,Aa,_⟩:=Ba
  subst e1
  exact Sim.value (zAH Aa _ _ _ rfl rfl)
 ·rename_i t tr x xr
  obtain⟨x',ur,e1,Aa,_⟩:=Ba
  subst e1
  exact Sim.value (zAr Aa _ _ _ rfl rfl)
 ·rename_i t tr x y
  obtain⟨x',ur,e1,Aa,y',Fa,e2,Da,e3⟩:=Ba
  subst e1 e2
  have hh:tr.head? = (⟨t::tr⟩:Array Xm)[1]? :=by cases tr<;>rfl
  rw [hh]
  exact Sim.value (ztM Aa Da _ _ _ rfl rfl rfl)
 ·unfold biPl
  split
  ·rename_i hp
   rw [zkH Ba hp]
   exact Sim.value zcP
  ·exact .fail
 ·unfold biPl
  split
  ·rename_i hp
   rw [zkH Ba hp]
   exact Sim.value zcP
  ·exact .fail
 ·rename_i t tr x
  obtain⟨x',ur,e1,Aa,_⟩:=Ba
  subst e1
  exact Sim.value (zwg Aa _ _ _ rfl rfl)
 ·rename_i t tr x y
  obtain⟨x',ur,e1,Aa,y',Fa,e2,Da,e3⟩:=Ba
  subst e1 e2
  exact Sim.value (zxC Aa Da _ _ _ rfl rfl rfl)
 ·exact .fail
end
end Go.Proofs.YtgjolijncmkkhaaGreatDoor
