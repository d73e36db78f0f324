/- Own texts joined: InA, InAO, DlA, OwOne, FoU, FoH, BsA, WtA, ChA, FoD. -/
import Derived.Test.YtlpnibbdmkeklaaGreatDoorJa
import Derived.Test.YtlpnibbdmkeklaaGreatDoorJb
import Derived.Test.YtlpnibbdmkeklaaGreatDoorJc
import Derived.Test.YtlpnibbdmkeklaaGreatDoorJd
import Derived.Test.YtlpnibbdmkeklaaGreatDoorJe
import Derived.Test.YtlpnibbdmkeklaaGreatDoorJf
import Derived.Test.YtlpnibbdmkeklaaGreatDoorJg
import Derived.Test.YtlpnibbdmkeklaaGreatDoorJh
import Derived.Test.YtlpnibbdmkeklaaGreatDoorJi
import Derived.Test.YtlpnibbdmkeklaaGreatDoorJj
import Derived.Test.YtlpnibbdmkeklaaGreatDoorJk
import Derived.Lib.AppendZerosOnto
import Derived.Lib.Overlaps
import Derived.Lib.Walk
import Derived.Laws.Externs
import Derived.Laws.NewBlocks
import Derived.Deep.RegionLaw
import Derived.Deep.AppendLies
import Derived.Deep.CutBlock
import Derived.Deep.RegionHeld3
import Derived.Deep.QuietTactic
import Derived.BigQuiet
namespace Go.Proofs.YtlpnibbdmkeklaaGreatDoor
open Go.RowKit
set_option linter.unusedVariables false
set_option maxRecDepth 100000
def zgz (w:Xe) (v:Xf) (n:Nat) (ys:Xd) (e:Ending) (w':Xe):Prop:=
 ∃g cap,e=.returned (.slice (some ⟨g,0,none⟩) (n+1) cap)∧w'.ownsRow 0 144 2 (.slice (some ⟨g,0,none⟩) (n+1) cap) (n+1) ys∧Frm w w' (FB v)∧(v.ownBlock=some g∨w.heap.size<=g)∧g<w'.heap.size
theorem zeW {w:Xe} {g:Nat} {C:Xd} {T:Xg} (h:Loc w g C.toArray T) (j:Nat) (u:Xf) (hj:C[j]? = some u):w.cell? ((⟨g,0,none⟩:Addr).add j)=some u:=by
 rw [zbc,Nat.zero_add,h.cell j]
 simpa using hj
set_option maxHeartbeats 6400000 in
theorem zqx (w:Xe) (v:Xf) (n vb:Nat) (xs C:Xd) (h:w.ownsRow 0 144 2 v n xs) (hC:C.length=2) (hl:Loc w vb C.toArray 144) (h1:∀u∈C,u.oneCell'=true) (hn:n<=100000) :
  Calls Tryz.prog 152 #[v,.int .i64 n,.slice (some ⟨vb,0,none⟩) 1 1] w (zgz w v n (xs++C)):=by
 obtain⟨i0,hi,hz0,hz1,hz2⟩:=info_parts Tryz.info144
 have hcell:=zeW hl
 have H:=hide h
 have hsh:v=.slice none 0 0∧n=0∨∃g cap,v=.slice (some ⟨g,0,none⟩) n cap∧n<=cap:=by
  rcases h.2 with ⟨rfl,rfl⟩ | ⟨g,cap,cur,rfl,_,_,hc,_⟩
  ·exact .inl ⟨rfl,rfl⟩
  ·exact .inr ⟨g,cap,rfl,hc⟩
 clear h
 rcases hsh with ⟨rfl,rfl⟩ | ⟨g,cap,rfl,hnc⟩
 ·go_enter Tryz.func152,Tryz.ntmps152
  go_wp2_with (at_builtin;refine wpList_append_lies w rfl _ _ 34 rfl 0 144 i0 _ 2 48 Tryz.underlying34 hi hz0 hz1 hz2 rfl (by decide) _ 0 xs rfl (zaa H) ⟨vb,0,none⟩ 1 1 C rfl (by omega) hcell h1 (by omega) (by unfold maxLen;omega) (by omega) (Nat.zero_le _) w.heap.size rfl ?_;intro g cap w' k1 k2 k3 k4)
  go_ret
  exact⟨g,cap,rfl,k1,Frm.ofGrown k2,k3.imp id (fun e=>by omega),k4⟩
 ·go_enter Tryz.func152,Tryz.ntmps152
  go_wp2_with (at_builtin;refine wpList_append_lies w rfl _ _ 34 rfl 0 144 i0 _ 2 48 Tryz.underlying34 hi hz0 hz1 hz2 rfl (by decide) _ n xs rfl (zaa H) ⟨vb,0,none⟩ 1 1 C rfl (by omega) hcell h1 (by omega) (by unfold maxLen;omega) (by omega) (Nat.zero_le _) w.heap.size rfl ?_;intro g' cap' w' k1 k2 k3 k4)
  all_goals (go_ret;exact⟨g',cap',rfl,k1,Frm.ofGrown k2,k3.imp id (fun e=>by omega),k4⟩)
theorem zfA {w:Xe} {g n cap:Nat} {xs:Xd} (h:w.ownsRow 0 144 2 (.slice (some ⟨g,0,none⟩) n cap) n xs) :
  ∃R:Xd,Loc w g R.toArray 144∧n<=cap∧cap<=maxLen∧R.length=cap*2∧R.take (n*2)=xs:=by
 rcases h.2 with ⟨h,_⟩ | ⟨g',cap',cur,h,_,hg,a,b,c,d⟩
 ·cases h
 ·cases h
  exact⟨cur.toList,by simpa [Loc]using hg,a,b,by simpa using c,d⟩
theorem zfG {w:Xe} {g n cap:Nat} {R xs:Xd} (h:Loc w g R.toArray 144) (a:n<=cap) (b:cap<=maxLen) (c:R.length=cap*2) (d:R.take (n*2)=xs):w.ownsRow 0 144 2 (.slice (some ⟨g,0,none⟩) n cap) n xs:=by
 refine⟨?_,.inr ⟨g,cap,R.toArray,rfl,Nat.zero_le _,h,a,b,by simpa using c,by simpa using d⟩⟩
 have:n*2<=cap*2:=Nat.mul_le_mul_right _ a
 rw [<-d,List.length_take];omega
set_option maxHeartbeats 8000000 in
theorem zoa (w:Xe) (g n cap i vb:Nat) (xs C:Xd) (h:w.ownsRow 0 144 2 (.slice (some ⟨g,0,none⟩) n cap) n xs) (hC:C.length=2) (hl:Loc w vb C.toArray 144) (h1:∀u∈C,u.oneCell'=true) (hx1:∀u∈xs,u.oneCell'=true) (hn:n<=100000) (hi:i<n) (hroom:cap<n+1) :
  Calls Tryz.prog 152 #[.slice (some ⟨g,0,none⟩) n cap,.int .i64 i,.slice (some ⟨vb,0,none⟩) 1 1] w (zgz w (.slice (some ⟨g,0,none⟩) n cap) n (xs.take (i*2)++(C++xs.drop (i*2)))):=by
 obtain⟨i0,hi0,hz0,hzs,hzb⟩:=info_parts Tryz.info144
 have hsz:(Tryz.prog.info? 144).map (·.size)=some 2:=by rw [hi0];simp [hzs]
 have hxl:=h.1
 obtain⟨R0,hg,hnc,hcm,hcs,htk⟩:=zfA h
 have hcells:∀j u,xs[j]? = some u->w.cell? ⟨g,j,none⟩=some u:=fun j u hj=>by
  rw [hg.cell j]
  rw [<-htk,List.getElem?_take]at hj
  split at hj
  ·simpa using hj
  ·cases hj
 have hin:i*2<=n*2:=Nat.mul_le_mul_right _ (by omega)
 have hold:(Builtin.firstCells i0.size i (.slice (some ⟨g,0,none⟩) i cap)).run Tryz.prog w.drew=.ok (xs.take (i*2)).toArray w.drew:=by
  rw [hzs]
  exact run_firstCells_some w.drew 2 i ⟨g,0,none⟩ i cap (xs.take (i*2)) (by rw [List.length_take];omega) (fun j v hj=>by
   rw [zbc,Nat.zero_add]
   rw [List.getElem?_take]at hj
   split at hj
   ·exact hcells j v hj
   ·cases hj)
 have hik:i+(n+1-i)=n+1:=by omega
 have hkk:(n:Int)+1-(i:Int)=((n+1-i:Nat):Int):=by omega
 obtain⟨z,hz⟩:∃z:Xf,z=.agg #[.slice none 0 0,.slice none 0 0]:=⟨_,rfl⟩
 have hzc:z.cells.size=2:=by rw [hz];rfl
 rw [<-hz]at hz0
 obtain⟨G,hG⟩:∃G,G=grownCap w (n+1) cap 144:=⟨_,rfl⟩
 obtain⟨R,hR⟩:∃R:Xd,R=((xs.take (i*2)).toArray++Builtin.zeroCells z.cells (n+1-i)++Builtin.zeroCells z.cells (G-(n+1))).toList:=⟨_,rfl⟩
 have hrz:∀ty,(Builtin.append_ #[34,3] ty #[.slice (some ⟨g,0,none⟩) i cap,.int .i64 ((n:Int)+1-(i:Int))]).run Tryz.prog w=.ok (.slice (some ⟨w.heap.size,0,none⟩) (n+1) G) (w.drew.alloc (.cells R.toArray 144)):=by
  intro ty
  have h:=Lib.run_append_grow_zeros w 34 3 ty 144 i0 z .i64 .i64 Tryz.underlying34 Tryz.underlying3 hi0 hz0 (some ⟨g,0,none⟩) i cap (xs.take (i*2)) hold (n+1-i) (by omega) (by omega) (by omega) (by omega) (by rw [hzb];omega) (by rw [hzb,hik];exact growslice_fits hroom (by omega))
  rw [hik,<-hG]at h
  rw [hkk,hR,Array.toArray_toList]
  exact h
 have hGn:n+1<=G:=by rw [hG];exact grownCap_ge w _ _ _
 have hGm:G<=maxLen:=by rw [hG];exact grownCap_le_maxLen w (n+1) cap 144 (by unfold maxLen;omega)
 have hRl:R.length=G*2:=by
  rw [hR]
  simp [Builtin.zeroCells,hzc,List.length_take]
  omega
 have hRt:R.take (i*2)=xs.take (i*2):=by
  rw [hR]
  simp [List.take_append,List.length_take]
  have e:i*2-min (i*2) xs.length=0:=by omega
  rw [e]
  simp [List.take_take]
 have hdl:(xs.drop (i*2)).length=(n-i)*2:=by rw [List.length_drop];omega
 have hGi:¬ (G=i):=by omega
 have hGim:¬ (G=i+1):=by omega
 have hci:¬ (cap=i):=by omega
 have hG63:G<=9223372036854775807:=by unfold maxLen at hGm;omega
 have hW1:((w.alloc (.cells R.toArray 144)).drew).heap[w.heap.size]? = some (.cells R.toArray 144 (0,0)):=heap_alloc_new w _
 have hlv:Loc (w.alloc (.cells R.toArray 144)).drew vb C.toArray 144:=hl.alloc _
 have hgo:Loc (w.alloc (.cells R.toArray 144)).drew g R0.toArray 144:=hg.alloc _
 have hfa:Frm w (w.alloc (.cells R.toArray 144)).drew []:=⟨rfl,rfl,rfl,by simp [World.drew],fun k hk _=>heap_alloc_old w _ hk⟩
 have hglt:=hg.lt
 have hvlt:=hl.lt
 clear hold hkk hik hR hG h hcells
 go_enter Tryz.func152,Tryz.ntmps152
 go_wp2_with (first
  | (at_builtin;refine Lib.wpList_append_run _ rfl _ _ _ _ rfl _ _ rfl rfl _ _ (hrz _) ?_)
  | (refine zfJ rfl _ _ 34 34 rfl 144 2 Tryz.underlying34 hsz w.heap.size (i*2) (n+1-i) (G-i) ⟨vb,0,none⟩ 1 1 ?_ ?_ R 144 ?_ C 1 (by simp only [Nat.min_def];split<;>omega) (by omega) ?_ (by omega) h1 ?_;rfl;rfl;exact hW1;exact zeW hlv;intro w2 hg2 hf2))
 have hg2':=zaa hg2
 have hgo2:=hgo.frm hf2 (by simp;omega)
 have hcells2:∀j u,(xs.drop (i*2))[j]? = some u->w2.cell? ((⟨g,i*2,none⟩:Addr).add j)=some u:=fun j u hj=>by
  rw [zbc,hgo2.cell]
  rw [List.getElem?_drop,<-htk,List.getElem?_take]at hj
  split at hj
  ·simpa using hj
  ·cases hj
 have hsl:(splice R (i*2) C).length=G*2:=by rw [length_splice _ _ _ (by omega)];exact hRl
 have hd1:∀u∈xs.drop (i*2),u.oneCell'=true:=fun u hu=>hx1 u (List.mem_of_mem_drop hu)
 have HM:=hide (show n-i=Nat.min (n-i) (n-i) by simp only [Nat.min_def];split<;>omega)
 have hb1:(0:Int)<=(i:Int)+1:=by omega
 have hin':i<=n:=by omega
 have hb3:(i:Int)<=(n:Int):=by omega
 have hgd:w2.drew.heap[w.heap.size]? = some (.cells (splice R (i*2) C).toArray 144 (0,0)):=hg2'
 have hcd:∀j u,(xs.drop (i*2))[j]? = some u->w2.drew.cell? ((⟨g,i*2,none⟩:Addr).add j)=some u:=hcells2
 have hw1:IntKind.i64.wrap ((i:Int)+1)=(i:Int)+1:=by rw [IntKind.wrap_i64];omega
 have htn:((i:Int)+1).toNat=i+1:=by omega
 clear hrz hW1 hlv
 go_region_law (refine zhU rfl _ _ 34 34 rfl 144 2 Tryz.underlying34 hsz w.heap.size ((i+1)*2) (n-i) (G-(i+1)) ⟨g,i*2,none⟩ (n-i) (cap-i) (by simp [Act.eval,Act.put]) (by simp [Act.eval,Act.put]) (splice R (i*2) C) 144 hgd (xs.drop (i*2)) (n-i) (zaa HM) hdl hcd (by omega) hd1 ?_;intro w3 hg3 hf3)
 go_wp2
 go_ret
 have hfin:=zsl R C (xs.drop (i*2)) (i*2) 2 ((n-i)*2) hC hdl (by omega)
 rw [hRt]at hfin
 have hg3':Loc w3 w.heap.size (splice (splice R (i*2) C) (i*2+2) (xs.drop (i*2))).toArray 144:=by
  have:=zaa hg3
  rw [show (i+1)*2=i*2+2 by omega]at this
  exact this
 refine⟨w.heap.size,G,rfl,zfG hg3' hGn hGm (by rw [length_splice _ _ _ (by omega)];exact hsl) ?_,?_,.inr (Nat.le_refl _),hg3'.lt⟩
 ·rw [<-hfin];congr 1;omega
 ·have f2:Frm w w2 []:=hfa.new hf2 (fun q hq=>by simp at hq;omega)
  have f3:Frm w w3 []:=f2.new (⟨hf3.os,hf3.tape,hf3.output,hf3.size,hf3.block⟩:Frm w2 w3 [w.heap.size]) (fun q hq=>by simp at hq;omega)
  exact f3.mono (fun q hq=>by simp at hq)
theorem zhA {w:Xe} {g:Nat} {C:Xd} {T:Xg} (h:Loc w g C.toArray T):w.shape? g=some (T,C.length):=by
 unfold Loc at h
 simp [World.shape?,h]
set_option maxHeartbeats 8000000 in
theorem znL (w:Xe) (g n cap i vb:Nat) (xs C:Xd) (h:w.ownsRow 0 144 2 (.slice (some ⟨g,0,none⟩) n cap) n xs) (hC:C.length=2) (hl:Loc w vb C.toArray 144) (h1:∀u∈C,u.oneCell'=true) (hx1:∀u∈xs,u.oneCell'=true) (hn:n<=100000) (hi:i<n) (hroom:n+1<=cap) (hvb:vb≠g) :
  Calls Tryz.prog 152 #[.slice (some ⟨g,0,none⟩) n cap,.int .i64 i,.slice (some ⟨vb,0,none⟩) 1 1] w (zgz w (.slice (some ⟨g,0,none⟩) n cap) n (xs.take (i*2)++(C++xs.drop (i*2)))):=by
 obtain⟨i0,hi0,hz0,hzs,hzb⟩:=info_parts Tryz.info144
 have hsz:(Tryz.prog.info? 144).map (·.size)=some 2:=by rw [hi0];simp [hzs]
 have hsz':∀w,(sizeOf 144).run Tryz.prog w=.ok 2 w:=fun w=>by simp [sizeOf,typeInfo,hi0,hzs]
 have hxl:=h.1
 obtain⟨R0,hg,hnc,hcm,hcs,htk⟩:=zfA h
 have hov:∀lb cb,(callFunc 169 #[.slice (some ⟨vb,0,none⟩) 1 1,.slice (some ⟨g,(i+1)*2,none⟩) lb cb]).run Tryz.prog w=.ok (.value (.bool false)) w:=fun lb cb=>by
  rw [run_callFunc_extern Tryz.func169 (by kernel_rfl) (by kernel_rfl) (by kernel_rfl) (e:=Extern.SlicesOverlaps.overlaps #[34,34] #[4]) (by kernel_rfl),
   Lib.run_overlaps_apart w 34 4 144 Tryz.underlying34 2 hsz' ⟨vb,0,none⟩ ⟨g,(i+1)*2,none⟩ 1 1 lb cb hvb _ _ _ _ (zhA hl) (zhA hg) (by rw [hcs];omega) (hl.frozen 0) (hl.frozen _)]
  rfl
 have hin:i*2<=n*2:=Nat.mul_le_mul_right _ (by omega)
 have hRt:R0.take (i*2)=xs.take (i*2):=by rw [<-htk,List.take_take,Nat.min_eq_left (by omega)]
 have hdl:(xs.drop (i*2)).length=(n-i)*2:=by rw [List.length_drop];omega
 have hd1:∀u∈xs.drop (i*2),u.oneCell'=true:=fun u hu=>hx1 u (List.mem_of_mem_drop hu)
 have hcells:∀j u,(xs.drop (i*2))[j]? = some u->w.drew.cell? ((⟨g,i*2,none⟩:Addr).add j)=some u:=fun j u hj=>by
  have:w.cell? ((⟨g,i*2,none⟩:Addr).add j)=some u:=by
   rw [zbc,hg.cell]
   rw [List.getElem?_drop,<-htk,List.getElem?_take]at hj
   split at hj
   ·simpa using hj
   ·cases hj
  exact this
 have hgd:w.drew.heap[g]? = some (.cells R0.toArray 144 (0,0)):=hg
 have hfd:Frm w w.drew []:=⟨rfl,rfl,rfl,Nat.le_refl _,fun _ _ _=>rfl⟩
 have hld:Loc w.drew vb C.toArray 144:=hl
 have HM:=hide (show n-i=Nat.min (n+1-i) (n-i) by simp only [Nat.min_def];split<;>omega)
 have HM2:=hide (show 1=Nat.min 1 (n+1-i) by simp only [Nat.min_def];split<;>omega)
 have hw1:IntKind.i64.wrap ((i:Int)+1)=(i:Int)+1:=by rw [IntKind.wrap_i64];omega
 have htn:((i:Int)+1).toNat=i+1:=by omega
 have hb1:(0:Int)<=(i:Int)+1:=by omega
 have hin':i<=n:=by omega
 have hb3:(i:Int)<=(n:Int):=by omega
 have hb2:¬ (cap=i+1):=by omega
 have hb4:¬ (cap=i):=by omega
 have hb5:(i:Int)<=(n:Int)+1:=by omega
 have hc63:cap<=9223372036854775807:=by unfold maxLen at hcm;omega
 have hlen:=length_splice R0 ((i+1)*2) (xs.drop (i*2)) (by omega)
 clear h
 go_enter Tryz.func152,Tryz.ntmps152
 go_wp2_with (simp only [hov])
 go_region_law (refine zhU rfl _ _ 34 34 rfl 144 2 Tryz.underlying34 hsz g ((i+1)*2) (n-i) (cap-(i+1)) ⟨g,i*2,none⟩ (n+1-i) (cap-i) (by simp [Act.eval,Act.put]) (by simp [Act.eval,Act.put]) R0 144 hgd (xs.drop (i*2)) (n-i) (zaa HM) hdl hcells (by omega) hd1 ?_;intro w3 hg3 hf3)
 have hg3':=zaa hg3
 have hl3:Loc w3 vb C.toArray 144:=hld.frm hf3 (by simpa using hvb)
 go_wp2_with (refine zfJ rfl _ _ 34 34 rfl 144 2 Tryz.underlying34 hsz g (i*2) (n+1-i) (cap-i) ⟨vb,0,none⟩ 1 1 ?_ ?_ (splice R0 ((i+1)*2) (xs.drop (i*2))) 144 ?_ C 1 (zaa HM2) (by omega) ?_ (by omega) h1 ?_;rfl;rfl;exact hg3';exact zeW hl3;intro w4 hg4 hf4)
 go_ret
 have hfin:=zsA R0 C (xs.drop (i*2)) (i*2) 2 ((n-i)*2) hC hdl (by omega)
 rw [hRt]at hfin
 have hg4':Loc w4 g (splice (splice R0 (i*2+2) (xs.drop (i*2))) (i*2) C).toArray 144:=by
  have:=zaa hg4
  rw [show (i+1)*2=i*2+2 by omega]at this
  exact this
 refine⟨g,cap,rfl,zfG hg4' hroom hcm ?_ ?_,?_,.inl rfl,hg4'.lt⟩
 ·rw [show (i+1)*2=i*2+2 by omega]at hlen
  rw [length_splice _ _ _ (by omega),hlen];exact hcs
 ·rw [<-hfin];congr 1;omega
 ·exact ((hfd.mono (fun q hq=>by simp at hq)).trans hf3).trans hf4
theorem zds (size:Nat):∀(Cs:List (Xd)) (i:Nat),(∀k,k<Cs.length->(Cs.getD k []).length=size)->i<=Cs.length->(Cs.take i).flatten=Cs.flatten.take (i*size)∧(Cs.drop i).flatten=Cs.flatten.drop (i*size)
 | Cs,0,_,_=>by simp
 | [],i+1,_,h=>by simp at h
 | C::Cs,i+1,hl,h=>by
  have h0:C.length=size:=by simpa using hl 0 (by simp)
  obtain⟨a,b⟩:=zds size Cs i (fun k hk=>by simpa using hl (k+1) (by simpa using hk)) (by simpa using h)
  have e:(i+1)*size=C.length+i*size:=by rw [h0,Nat.succ_mul];omega
  constructor
  ·rw [List.take_succ_cons,List.flatten_cons,List.flatten_cons,e,List.take_length_add_append,a]
  ·rw [List.drop_succ_cons,List.flatten_cons,e,List.drop_length_add_append,b]
theorem zjp {α:Type} (l:List (List α)) (x:List α) (i k:Nat) (hi:i<=l.length):(l.take i++(x::l.drop i)).getD k []=if k<i then l.getD k [] else if k=i then x else l.getD (k-1) []:=by
 have hl:(l.take i).length=i:=by simp;omega
 rw [List.getD_eq_getElem?_getD,List.getElem?_append,hl]
 by_cases h1:k<i
 ·rw [if_pos h1,if_pos h1,List.getElem?_take,if_pos h1,List.getD_eq_getElem?_getD]
 ·rw [if_neg h1,if_neg h1]
  by_cases h2:k=i
  ·subst h2;simp
  ·rw [if_neg h2,show k-i=(k-i-1)+1 by omega,List.getElem?_cons_succ,List.getElem?_drop,List.getD_eq_getElem?_getD]
   congr 2
   omega
theorem zpW {α:Type} (l:List α) (x:α) (i k:Nat) (hi:i<=l.length) (hk:k<(l.take i++(x::l.drop i)).length):(∃h:k<l.length,k<i∧(l.take i++(x::l.drop i))[k]=l[k])∨(k=i∧(l.take i++(x::l.drop i))[k]=x)∨(∃h:k-1<l.length,i<k∧(l.take i++(x::l.drop i))[k]=l[k-1]):=by
 have hl:(l.take i).length=i:=by simp;omega
 have hk':k<l.length+1:=by simp at hk;omega
 by_cases h1:k<i
 ·refine .inl ⟨by omega,h1,?_⟩
  rw [List.getElem_append_left (by omega),List.getElem_take]
 ·by_cases h2:k=i
  ·subst h2
   refine .inr (.inl ⟨rfl,?_⟩)
   rw [List.getElem_append_right (by omega)]
   simp [hl]
  ·refine .inr (.inr ⟨by omega,by omega,?_⟩)
   have:(l.take i++(x::l.drop i))[k]? = l[k-1]? :=by
    rw [List.getElem?_append_right (by omega),hl,show k-i=(k-i-1)+1 by omega,List.getElem?_cons_succ,List.getElem?_drop]
    congr 1
    omega
   rw [List.getElem?_eq_getElem hk,List.getElem?_eq_getElem (by omega)]at this
   exact Option.some.inj this
theorem flat_ins_memA {Fs:List (Xb)} {G:Xb} {i q:Nat}:q∈(Fs.take i++(G::Fs.drop i)).flatten↔q∈Fs.flatten∨q∈G:=by
 have e:Fs.flatten=(Fs.take i).flatten++(Fs.drop i).flatten:=by rw [<-List.flatten_append,List.take_append_drop]
 rw [List.flatten_append,List.flatten_cons,e]
 simp only [List.mem_append]
 constructor
 ·rintro (h | h | h)
  ·exact .inl (.inl h)
  ·exact .inr h
  ·exact .inl (.inr h)
 ·rintro ((h | h) | h)
  ·exact .inl h
  ·exact .inr (.inr h)
  ·exact .inr (.inl h)
theorem zhD {Fs:List (Xb)} {G:Xb} {i:Nat} (h:Fs.flatten.Nodup) (hG:G.Nodup) (hd:∀q∈Fs.flatten,q∉G):(Fs.take i++(G::Fs.drop i)).flatten.Nodup:=by
 have e:Fs.flatten=(Fs.take i).flatten++(Fs.drop i).flatten:=by rw [<-List.flatten_append,List.take_append_drop]
 rw [e]at h hd
 have h':=List.nodup_append.1 h
 rw [List.flatten_append,List.flatten_cons]
 refine List.nodup_append.2 ⟨h'.1,List.nodup_append.2 ⟨hG,h'.2.1,fun a ha b hb e=>hd b (List.mem_append_right _ hb) (e ▸ ha)⟩,fun a ha b hb e=> ?_⟩
 rcases List.mem_append.1 hb with hb | hb
 ·exact hd a (List.mem_append_left _ ha) (e ▸ hb)
 ·exact h'.2.2 a ha b hb e
theorem zes {w:Xe} {C:Xd} {o:Xa×Xa} {F:Xb} (h:OwAttr w C o F):∀u∈C,u.oneCell'=true:=by
 obtain⟨a,b,rfl,h1,h2,_⟩:=h
 obtain⟨p4,k4,rfl,_,_⟩:=h1.byt.shape
 obtain⟨p5,k5,rfl,_,_⟩:=h2.byt.shape
 intro u hu
 simp at hu
 rcases hu with rfl | rfl<;>rfl
theorem zfw {w:Xe} {C:Xd} {o:Xa×Xa} {F:Xb} (h:OwAttr w C o F):C.length=2:=by
 obtain⟨a,b,rfl,_⟩:=h;rfl
theorem zqX (w:Xe) (v:Xf) (l:List (Xa×Xa)) (F:Xb) (i vb:Nat) (C:Xd) (o:Xa×Xa) (G:Xb) (h:OwAttrs w v l F) (hN:F.Nodup) (hi:i<=l.length) (hn:l.length<=100000)
  (hl:Loc w vb C.toArray 144) (ho:OwAttr w C o G) (hG:G.Nodup) (hFG:∀q∈F,q∉G) (hvF:vb∉F) :
  Calls Tryz.prog 152 #[v,.int .i64 i,.slice (some ⟨vb,0,none⟩) 1 1] w fun e w'=>∃u F',e=.returned u∧OwAttrs w' u (l.take i++(o::l.drop i)) F'∧F'.Nodup∧(∀q∈F',q∈F∨q∈G∨(w.heap.size<=q∧q<w'.heap.size))∧Frm w w' (FB v):=by
 have hlt:=h.lt
 have hR:=h.rd
 obtain⟨Cs,Fs,e1,e2,e3,e4,rfl⟩:=h
 have hC:∀k,k<Cs.length->(Cs.getD k []).length=2:=fun k hk=>(e3 k (by omega)).1
 have hx1:∀u∈Cs.flatten,u.oneCell'=true:=by
  intro u hu
  obtain⟨D,hD,hu⟩:=List.mem_flatten.1 hu
  obtain⟨k,hk,rfl⟩:=List.getElem_of_mem hD
  have e':Cs.getD k []=Cs[k]:=by simp [List.getD_eq_getElem?_getD,hk]
  have:=(e3 k (by omega)).2
  rw [e']at this
  exact zes this u hu
 have hmain:Calls Tryz.prog 152 #[v,.int .i64 i,.slice (some ⟨vb,0,none⟩) 1 1] w (zgz w v l.length (Cs.flatten.take (i*2)++(C++Cs.flatten.drop (i*2)))):=by
  by_cases hin:i=l.length
  ·have e:i*2=Cs.flatten.length:=by rw [e4.1,hin]
   rw [e,List.take_length,List.drop_length,List.append_nil,hin]
   exact zqx w v l.length vb _ C e4 (zfw ho) hl (zes ho) hn
  ·rcases e4.2 with ⟨rfl,h0⟩ | ⟨g,cap,cur,rfl,_,hg,hnc,_⟩
   ·omega
   ·by_cases hroom:cap<l.length+1
    ·exact zoa w g l.length cap i vb _ C e4 (zfw ho) hl (zes ho) hx1 hn (by omega) hroom
    ·exact znL w g l.length cap i vb _ C e4 (zfw ho) hl (zes ho) hx1 hn (by omega) (by omega) (fun e=>hvF (List.mem_append_left _ (by simp [FB,Value.ownBlock,e])))
 refine hmain.mono ?_
 rintro e w' ⟨g,cap,rfl,k1,k2,k3,k4⟩
 have hFd:∀q∈Fs.flatten,q∉FB v:=fun q hq hv=>(List.nodup_append.1 hN).2.2 q hv q hq rfl
 have hGd:∀q∈G,q∉FB v:=fun q hq hv=>hFG q (List.mem_append_left _ hv) hq
 obtain⟨t1,t2⟩:=zds 2 Cs i hC (by omega)
 refine⟨_,FB (.slice (some ⟨g,0,none⟩) (l.length+1) cap)++(Fs.take i++(G::Fs.drop i)).flatten,rfl,⟨Cs.take i++(C::Cs.drop i),Fs.take i++(G::Fs.drop i),by simp;omega,by simp;omega,fun k hk=> ?_,?_,?_⟩,?_,?_,k2⟩
 ·rw [zjp Cs C i k (by omega),zjp Fs G i k (by omega)]
  rcases zpW l o i k hi hk with ⟨h,hlt',e⟩ | ⟨rfl,e⟩ | ⟨h,hlt',e⟩
  ·rw [e,if_pos hlt',if_pos hlt']
   exact⟨(e3 k h).1,(e3 k h).2.frm k2 (fun q hq=>hFd q (zav hq))⟩
  ·rw [e,if_neg (Nat.lt_irrefl _),if_pos rfl,if_neg (Nat.lt_irrefl _),if_pos rfl]
   exact⟨zfw ho,ho.frm k2 hGd⟩
  ·rw [e,if_neg (by omega),if_neg (by omega),if_neg (by omega),if_neg (by omega)]
   exact⟨(e3 _ h).1,(e3 _ h).2.frm k2 (fun q hq=>hFd q (zav hq))⟩
 ·have e:(l.take i++(o::l.drop i)).length=l.length+1:=by simp;omega
  rw [e,List.flatten_append,List.flatten_cons,t1,t2]
  exact k1
 ·have e:(l.take i++(o::l.drop i)).length=l.length+1:=by simp;omega
  rfl
 ·refine List.nodup_append.2 ⟨zaF _,zhD (List.nodup_append.1 hN).2.1 hG (fun q hq=>hFG q (List.mem_append_right _ hq)),fun a ha b hb e=> ?_⟩
  have ea:a=g:=by simpa [FB,Value.ownBlock]using ha
  subst e
  subst ea
  rcases flat_ins_memA.1 hb with hb | hb
  ·rcases k3 with k3 | k3
   ·exact hFd a hb (by simp [FB,k3])
   ·have:=hlt a (List.mem_append_right _ hb);omega
  ·rcases k3 with k3 | k3
   ·exact hGd a hb (by simp [FB,k3])
   ·obtain⟨kk,nn,_,a1,a2,rfl⟩:=ho
    have:a<w.heap.size:=by
     rcases List.mem_append.1 hb with hb | hb
     ·exact (a1.rng a hb).2
     ·exact (a2.rng a hb).2
    omega
 ·intro q hq
  rcases List.mem_append.1 hq with hq | hq
  ·have eq:q=g:=by simpa [FB,Value.ownBlock]using hq
   subst eq
   rcases k3 with k3 | k3
   ·exact .inl (List.mem_append_left _ (by simp [FB,k3]))
   ·exact .inr (.inr ⟨k3,k4⟩)
  ·rcases flat_ins_memA.1 hq with hq | hq
   ·exact .inl (List.mem_append_right _ hq)
   ·exact .inr (.inl hq)
theorem zdM {α:Type} (L cs:List α) (o:Nat) (h:o+cs.length<=L.length):(splice L o cs).length=L.length:=by unfold splice;simp;omega
theorem zeL {α:Type} (L cs:List α) (o:Nat) (h:o+cs.length<=L.length):(splice L o cs).take o=L.take o:=by
 unfold splice
 rw [List.take_append_of_le_length (by simp;omega),List.take_take,Nat.min_self]
theorem zjK {α:Type} (L cs:List α) (o:Nat) (h:o+cs.length<=L.length):(splice L o cs).take (o+cs.length)=L.take o++cs:=by
 unfold splice
 rw [<-List.append_assoc,List.take_append_of_le_length (by simp;omega),List.take_of_length_le (by simp;omega)]
theorem zno {P:Program} (w:Xe) (t ty e:Xg) (i:TypeInfo) (s g n cap:Nat) (ht:P.underlying t=some (.slice e)) (hi:P.info? e=some i) (hs:i.size=s) (cur:Xd) (T:Xg) (hg:Loc w g cur.toArray T)
  (ad:Addr) (m c:Nat) (cs:Xd) (hcl:cs.length=m*s) (hsrc:∀j v,cs[j]? = some v->w.cell? (ad.add j)=some v) (hroom:n+m<=cap) (hfit:n*s+cs.length<=cur.length) (h1:∀v∈cs,v.oneCell'=true) :
  (Builtin.append_ #[t,t] ty #[.slice (some ⟨g,0,none⟩) n cap,.slice (some ad) m c]).run P w=.ok (.slice (some ⟨g,0,none⟩) (n+m) cap) (w.setRow g (splice cur (n*s) cs).toArray):=by
 subst hs
 have hfc:=run_firstCells_some (P:=P) w i.size m ad m c cs hcl hsrc
 have hst:=run_storeCells_at P g (n*i.size) T cs 0 cur.toArray w hg (by simpa using hfit) h1
 simp [Builtin.append_,run_underlying ht,sizeOf,typeInfo,hi,Builtin.lenOf,hroom,hfc,Addr.add_lit]
 simp at hst
 rw [hst]
 simp [splice]
theorem zha {P:Program} {w:Xe} {ops:Array Oper} {o:Oper} {a:Act} {K:Act->Xe->Prop} {Q:Exit->Act->Xe->Prop} {E:Prop} (hgd:o.guard=none) (x1 x2:Operand) (t:Xg)
  (ho:o.op=.call { callee:=.builtin .append,args:= #[x1,x2],argTypes:= #[t,t] }) (e:Xg) (i:TypeInfo) (s g n cap:Nat) (ht:P.underlying t=some (.slice e)) (hi:P.info? e=some i) (hs:i.size=s) (cur:Xd) (T:Xg) (hg:Loc w g cur.toArray T)
  (ad:Addr) (m c:Nat) (cs:Xd) (hcl:cs.length=m*s) (hsrc:∀j v,cs[j]? = some v->w.cell? (ad.add j)=some v) (hroom:n+m<=cap) (hfit:n*s+cs.length<=cur.length) (h1:∀v∈cs,v.oneCell'=true)
  (he1:a.eval x1=.slice (some ⟨g,0,none⟩) n cap) (he2:a.eval x2=.slice (some ad) m c)
  (h:∀w',Hid (Loc w' g (splice cur (n*s) cs).toArray T)->Frm w w' [g]->K (a.put o.dst (.slice (some ⟨g,0,none⟩) (n+m) cap)) w'):if Region.wanted o (yielded ops a.tmps)=true then Oper.wp P o a w K Q else E:=by
 have hw:Region.wanted o (yielded ops a.tmps)=true:=by simp [Region.wanted,hgd]
 rw [if_pos hw]
 have hrun:=zno (P:=P) w t o.type e i s g n cap ht hi hs cur T hg ad m c cs hcl hsrc hroom hfit h1
 unfold Oper.wp
 simp [execOp,ho,resolve,invoke,builtin,he1,he2,hrun,Result.andThen]
 exact h _ (show _=_ by simpa [splice]using setRow_heap w g _ _ T _ hg) (zdZ _ _ _)
theorem zhN (w:Xe) (ty:Xg) (g off c:Nat) (cur:Xd) (T:Xg) (hg:Loc w g cur.toArray T) (hfit:off+2<=cur.length) :
  ∃w',(Builtin.clear_ #[34] ty #[.slice (some ⟨g,off,none⟩) 1 c]).run Tryz.prog w=.ok (.tuple #[]) w'∧Loc w' g (splice cur off [.slice none 0 0,.slice none 0 0]).toArray T∧Frm w w' [g]:=by
 have hst:=run_storeCells_at Tryz.prog g off T [.slice none 0 0,.slice none 0 0] 0 cur.toArray w hg (by simpa using hfit) (by intro v hv;simp at hv;rw [hv];rfl)
 have hv:∀w,(zeroValue 144).run Tryz.prog w=.ok (.agg #[.slice none 0 0,.slice none 0 0]) w:=fun _=>by kernel_rfl
 have hzc:(Builtin.zeroCells (Value.agg #[.slice none 0 0,.slice none 0 0]).cells 1) = #[.slice none 0 0,.slice none 0 0]:=by kernel_rfl
 refine⟨w.setRow g (splice cur off [.slice none 0 0,.slice none 0 0]).toArray,?_,(show _=_ by simpa [splice]using setRow_heap w g _ _ T _ hg),zdZ _ _ _⟩
 simp [Builtin.clear_,run_underlying Tryz.underlying34,hv,hzc]
 simp at hst
 rw [hst]
 simp [splice]
set_option maxHeartbeats 6400000 in
theorem zrr (w:Xe) (g n cap i:Nat) (R:Xd) (hg:Loc w g R.toArray 144) (hn:n<=100000) (hnc:n<=cap) (hcm:cap<=maxLen) (hR:R.length=cap*2) (h1:∀u∈R.take (n*2),u.oneCell'=true) (hi:i<n) :
  Calls Tryz.prog 141 #[.slice (some ⟨g,0,none⟩) n cap,.int .i64 (i:Int),.int .i64 ((i:Int)+1)] w fun e w'=>e=.returned (.slice (some ⟨g,0,none⟩) (n-1) cap)∧(∃R':Xd,Loc w' g R'.toArray 144∧R'.length=cap*2∧R'.take ((n-1)*2)=R.take (i*2)++(R.take (n*2)).drop ((i+1)*2))∧Frm w w' [g]:=by
 refine zaf ?_
 intro Q HQ
 obtain⟨i0,hi0,hz0,hz1,hz2⟩:=info_parts Tryz.info144
 have hi1:(0:Int)<=(i:Int):=by omega
 have hi2:(i:Int)+1<=(n:Int):=by omega
 have hi3:(n:Int)<=(cap:Int):=by omega
 have hne:((i:Int) == (i:Int)+1)=false:=by simp;omega
 obtain⟨cs,hcs⟩:∃cs,cs=(R.take (n*2)).drop ((i+1)*2):=⟨_,rfl⟩
 have hcl:cs.length=(n-(i+1))*2:=by rw [hcs,List.length_drop,List.length_take,Nat.min_eq_left (by rw [hR];exact Nat.mul_le_mul_right _ hnc),Nat.sub_mul]
 have hc1:∀v∈cs,v.oneCell'=true:=fun v hv=>h1 v (List.mem_of_mem_drop (by rw [<-hcs];exact hv))
 have hgd:Loc w.drew g R.toArray 144:=hg.all ((Below.refl _ _).drew)
 have hfit:i*2+cs.length<=R.length:=by rw [hcl,hR];omega
 have hic:i<=cap:=by omega
 have hic1:i+1<=n:=by omega
 have hic2:i+1<=cap:=by omega
 have hi4:(0:Int)<=(i:Int)+1:=by omega
 by_cases hce:cap=i+1
 ·obtain rfl:n=i+1:=by omega
  subst hce
  have hii:i<=i+1:=by omega
  have hk1:(i:Int)<=(i:Int)+1:=by omega
  clear hfit hcl hcs hc1 cs
  go_enter Tryz.func141,Tryz.ntmps141
  go_wp2_with fail
  go_region_law (refine zha rfl _ _ 34 rfl 144 i0 2 g i (i+1) Tryz.underlying34 hi0 hz1 R 144 hgd ⟨g,0,none⟩ 0 0 [] rfl (fun j v h=>by simp at h) (by omega) (by rw [hR];simp;omega) (fun v h=>by cases h) (by simp [Act.eval,Act.put]) (by simp [Act.eval,Act.put]) ?_;intro w5 H5 f5)
  have HF5:=hide f5
  clear f5
  have hkd:i+1-i=1:=by omega
  have hkcap:¬ i+1=i:=by omega
  have HL5:Loc w5 g (splice R (i*2) []).toArray 144:=zaa H5
  have hsl:(splice R (i*2) []).length=(i+1)*2:=by rw [zdM _ _ _ (by simp [hR];omega),hR]
  obtain⟨w6,hrun6,H6,f6⟩:=zhN w5 0 g (i*2) 1 _ _ HL5 (by rw [hsl];omega)
  have H6:=hide H6
  have HE:=hide (zaa HQ (.returned (.slice (some ⟨g,0,none⟩) i (i+1))) w6 ⟨rfl,⟨splice (splice R (i*2) []) (i*2) [.slice none 0 0,.slice none 0 0],zaa H6,by rw [zdM _ _ _ (by rw [hsl];simp;omega),hsl],by rw [show (i+1-1)*2=i*2 by omega,zeL _ _ _ (by rw [hsl];simp;omega),zeL _ _ _ (by simp [hR];omega),List.drop_of_length_le (by rw [List.length_take];omega),List.append_nil]⟩,((Frm.ofBelow ((Below.refl _ _).drew) _).trans (zaa HF5)).trans f6⟩)
  clear HQ H6 f6 HF5 H5 HL5
  go_wp2_with fail
  exact zaa HE
 ·have hsrc:∀j v,cs[j]? = some v->w.drew.cell? ((⟨g,(i+1)*2,none⟩:Addr).add j)=some v:=fun j v hj=>by
   have hlt:j<cs.length:=(List.getElem?_eq_some_iff.1 hj).1
   rw [zbc,hgd.cell]
   rw [hcs,List.getElem?_drop,List.getElem?_take,if_pos (by rw [hcl]at hlt;omega)]at hj
   simpa using hj
  go_enter Tryz.func141,Tryz.ntmps141
  go_wp2_with fail
  go_region_law (refine zha rfl _ _ 34 rfl 144 i0 2 g i cap Tryz.underlying34 hi0 hz1 R 144 hgd ⟨g,(i+1)*2,none⟩ (n-(i+1)) (cap-(i+1)) cs hcl hsrc (by omega) hfit hc1 (by simp [Act.eval,Act.put]) (by simp [Act.eval,Act.put, *]) ?_;intro w5 H5 f5)
  have HF5:=hide f5
  clear f5 hsrc
  generalize hk:i+(n-(i+1))=k
  have hkn:k+1=n:=by omega
  have HK:=hide hk
  clear hk
  have hk1:(k:Int)<=(n:Int):=by omega
  have hk0:(0:Int)<=(k:Int):=by omega
  have hkc:k<=n:=by omega
  have hkd:n-k=1:=by omega
  have hkcap:¬ cap=k:=by omega
  have HKN:=hide hkn
  have HL5:Loc w5 g (splice R (i*2) cs).toArray 144:=zaa H5
  have hsl:(splice R (i*2) cs).length=cap*2:=by rw [zdM _ _ _ hfit,hR]
  clear hkn
  obtain⟨w6,hrun6,H6,f6⟩:=zhN w5 0 g (k*2) (cap-k) _ _ HL5 (by rw [hsl];have:=zaa HKN;omega)
  have H6:=hide H6
  have hsub:n-1=k:=by have:=zaa HKN;omega
  have HE:=hide (zaa HQ (.returned (.slice (some ⟨g,0,none⟩) k cap)) w6 ⟨by rw [hsub],⟨splice (splice R (i*2) cs) (k*2) [.slice none 0 0,.slice none 0 0],zaa H6,by rw [zdM _ _ _ (by rw [hsl];simp;have:=zaa HKN;omega),hsl],by rw [hsub,zeL _ _ _ (by rw [hsl];simp;have:=zaa HKN;omega),show k*2=i*2+cs.length by rw [hcl];have:=zaa HKN;omega,zjK _ _ _ hfit,<-hcs]⟩,((Frm.ofBelow ((Below.refl _ _).drew) _).trans (zaa HF5)).trans f6⟩)
  clear HQ H6 f6 HF5 H5 HL5
  go_wp2_with fail
  exact zaa HE
theorem OwElems.one {α:Type} {R:Xe->Xd->α->Xb->Prop} (hRf:∀{w w':Xe} {S:Xb} {C:Xd} {x:α} {G:Xb},R w C x G->Frm w w' S->(∀g∈G,g∉S)->R w' C x G)
  {w:Xe} {T:Xg} {size g cap:Nat} {l:List α} {F:Xb} (h:OwElems w T size (.slice (some ⟨g,0,none⟩) l.length cap) l (R w) F) (hN:F.Nodup) (k:Nat) (hk:k<l.length) :
  ∃Cs C G,RowJ w T size g l.length cap Cs k C∧R w C l[k] G∧G.Nodup∧(∀q∈G,q∈F)∧g∈F∧g∉G∧
   ∀(w':Xe) (S:Xb) (D:Xd) (p':α) (G':Xb),RowJ w' T size g l.length cap Cs k D->Frm w w' S->(∀q∈F,q∉G->q≠g->q∉S)->R w' D p' G'->G'.Nodup->(∀q∈G',q∈G∨q∉F)->
    ∃F',OwElems w' T size (.slice (some ⟨g,0,none⟩) (l.set k p').length cap) (l.set k p') (R w') F'∧F'.Nodup∧∀q∈F',q∈F∨q∈G':=by
 obtain⟨Cs,Fs,e1,e2,e3,e4,rfl⟩:=h
 have hC:∀i,i<Cs.length->(Cs.getD i []).length=size:=fun i hi=>(e3 i (by omega)).1
 have hgF:g∉Fs.flatten:=fun hq=>(List.nodup_append.1 hN).2.2 g (by simp [FB,Value.ownBlock]) g hq rfl
 have hNf:=(List.nodup_append.1 hN).2.1
 refine⟨Cs,Cs.getD k [],Fs.getD k [],RowJ.start e1 hC k hk e4,(e3 k hk).2,zdh hNf,fun q hq=>List.mem_append_right _ (zav hq),by simp [FB,Value.ownBlock],fun hq=>hgF (zav hq),?_⟩
 intro w' S D p' G' hR f hS hp hGN hG'
 have hgG:g∉G':=fun hq=>by
  rcases hG' g hq with h1 | h1
  ·exact hgF (zav h1)
  ·exact h1 (by simp [FB,Value.ownBlock])
 refine⟨FB (.slice (some ⟨g,0,none⟩) l.length cap)++(Fs.set k G').flatten,⟨Cs.set k D,Fs.set k G',by simp [e1],by simp [e2],fun i hi=> ?_,?_,?_⟩,?_,?_⟩
 ·have hi':i<l.length:=by simpa using hi
  by_cases e:i=k
  ·subst e
   rw [zbH _ _ _ (by omega),zbH _ _ _ (by omega),List.getElem_set_self]
   exact⟨hR.lenD,hp⟩
  ·rw [zbw _ _ _ _ e,zbw _ _ _ _ e,List.getElem_set_ne (Ne.symm e)]
   exact⟨(e3 i hi').1,hRf (e3 i hi').2 f (fun q hq=>hS q (List.mem_append_right _ (zav hq)) (zbP hNf e q hq) (fun e9=>hgF (by rw [<-e9];exact zav hq)))⟩
 ·rw [List.length_set]
  exact hR.row
 ·rw [List.length_set]
 ·refine List.nodup_append.2 ⟨zaF _,zdn hNf hGN (fun q hq=>(hG' q hq).imp id (fun h1 h2=>h1 (List.mem_append_right _ h2))),fun a ha b hb e=> ?_⟩
  have ea:a=g:=by simpa [FB,Value.ownBlock]using ha
  subst e
  subst ea
  rcases zcw hb with hb | hb
  ·exact hgF hb
  ·exact hgG hb
 ·intro q hq
  rcases List.mem_append.1 hq with hq | hq
  ·exact .inl (List.mem_append_left _ hq)
  ·rcases zcw hq with hq | hq
   ·exact .inl (List.mem_append_right _ hq)
   ·exact .inr hq
theorem zen {Fs:List (Xb)} {i q:Nat} (h:q∈(Fs.eraseIdx i).flatten):q∈Fs.flatten:=by
 obtain⟨G,hG,hq⟩:=List.mem_flatten.1 h
 exact List.mem_flatten.2 ⟨G,List.mem_of_mem_eraseIdx hG,hq⟩
theorem zeT:∀{Fs:List (Xb)} {i:Nat},Fs.flatten.Nodup->(Fs.eraseIdx i).flatten.Nodup
 | [],_,h=>by simp
 | A::r,0,h=>by
  rw [List.flatten_cons]at h
  exact (List.nodup_append.1 h).2.1
 | A::r,i+1,h=>by
  rw [List.flatten_cons]at h
  obtain⟨h1,h2,h3⟩:=List.nodup_append.1 h
  rw [List.eraseIdx_cons_succ,List.flatten_cons]
  exact List.nodup_append.2 ⟨h1,zeT h2,fun a ha b hb=>h3 a ha b (zen hb)⟩
theorem zkB {α:Type} (l:List (List α)) (i k:Nat):(l.eraseIdx i).getD k []=if k<i then l.getD k [] else l.getD (k+1) []:=by
 simp only [List.getD_eq_getElem?_getD,List.getElem?_eraseIdx]
 split<;>rfl
theorem zqq (w:Xe) (v:Xf) (l:List AtV) (F:Xb) (i:Nat) (h:OwAttrs w v l F) (hN:F.Nodup) (hi:i<l.length) (hn:l.length<=100000) :
  Calls Tryz.prog 141 #[v,.int .i64 (i:Int),.int .i64 ((i:Int)+1)] w fun e w'=>∃u F',e=.returned u∧OwAttrs w' u (l.eraseIdx i) F'∧F'.Nodup∧(∀q∈F',q∈F)∧Frm w w' (FB v):=by
 obtain⟨Cs,Fs,e1,e2,e3,e4,rfl⟩:=h
 obtain⟨g,cap,rfl,_,_⟩:=e4.form (by omega)
 obtain⟨R,hg,hnc,hcm,hR,htk⟩:=zfA e4
 have hC:∀i,i<Cs.length->(Cs.getD i []).length=2:=fun i hi=>(e3 i (by omega)).1
 have hx1:∀u∈Cs.flatten,u.oneCell'=true:=by
  intro u hu
  obtain⟨D,hD,hu⟩:=List.mem_flatten.1 hu
  obtain⟨k,hk,rfl⟩:=List.getElem_of_mem hD
  have e':Cs.getD k []=Cs[k]:=by simp [List.getD_eq_getElem?_getD,hk]
  have:=(e3 k (by omega)).2
  rw [e']at this
  exact zes this u hu
 have hgF:g∉Fs.flatten:=fun hq=>(List.nodup_append.1 hN).2.2 g (by simp [FB,Value.ownBlock]) g hq rfl
 have hNf:=(List.nodup_append.1 hN).2.1
 refine (zrr w g l.length cap i R hg hn hnc hcm hR (by rw [htk];exact hx1) hi).mono ?_
 rintro e w' ⟨rfl,⟨R',hg',hR',htk'⟩,f⟩
 have hll:(l.eraseIdx i).length=l.length-1:=by rw [List.length_eraseIdx,if_pos hi]
 obtain⟨t1,_⟩:=zds 2 Cs i hC (by omega)
 obtain⟨_,t2⟩:=zds 2 Cs (i+1) hC (by omega)
 have hrow:w'.ownsRow 0 144 2 (.slice (some ⟨g,0,none⟩) (l.length-1) cap) (l.length-1) (Cs.eraseIdx i).flatten:=by
  refine zfG hg' (by omega) hcm hR' ?_
  rw [htk',htk,List.eraseIdx_eq_take_drop_succ,List.flatten_append,t1,t2,<-htk,List.take_take,Nat.min_eq_left (by omega)]
 refine⟨_,FB (.slice (some ⟨g,0,none⟩) (l.length-1) cap)++(Fs.eraseIdx i).flatten,rfl,⟨Cs.eraseIdx i,Fs.eraseIdx i,?_,?_,fun k hk=> ?_,?_,?_⟩,?_,?_,f⟩
 ·rw [hll,List.length_eraseIdx,if_pos (by omega),e1]
 ·rw [hll,List.length_eraseIdx,if_pos (by omega),e2]
 ·rw [zkB,zkB,List.getElem_eraseIdx]
  have hk':k<l.length-1:=by omega
  by_cases hki:k<i
  ·simp only [hki,if_true,dite_true]
   exact⟨(e3 k (by omega)).1,OwAttr.frm (e3 k (by omega)).2 f (fun q hq e=>by simp at e;subst e;exact hgF (zav hq))⟩
  ·simp only [hki,if_false,dite_false]
   exact⟨(e3 (k+1) (by omega)).1,OwAttr.frm (e3 (k+1) (by omega)).2 f (fun q hq e=>by simp at e;subst e;exact hgF (zav hq))⟩
 ·rw [hll];exact hrow
 ·rfl
 ·refine List.nodup_append.2 ⟨zaF _,zeT hNf,fun a ha b hb e=> ?_⟩
  have ea:a=g:=by simpa [FB,Value.ownBlock]using ha
  subst e
  subst ea
  exact hgF (zen hb)
 ·intro q hq
  rcases List.mem_append.1 hq with hq | hq
  ·exact List.mem_append_left _ hq
  ·exact List.mem_append_right _ (zen hq)
end Go.Proofs.YtlpnibbdmkeklaaGreatDoor
namespace Go.Proofs.YtlpnibbdmkeklaaGreatDoor
open Go.RowKit Go.Maps
set_option linter.unusedVariables false
set_option maxRecDepth 100000
theorem FoS.upd {B:Nat} {w:Xe} {g mb gr c:Nat} {l:List PlV} {F:Xb} (h:FoS B w g mb (some ⟨gr,0,none⟩) c l F) {k:Nat} (hk:k<l.length) :
  ∃Cs C G,RowJ w 117 9 gr l.length c Cs k C∧OwPlM w C l[k] G∧G.Nodup∧(∀q∈G,q∈F)∧gr∈F∧gr∉G∧
   ∀(w':Xe) (S:Xb) (D:Xd) (p':PlV) (G':Xb),RowJ w' 117 9 gr l.length c Cs k D->Frm w w' S->(∀q∈S,q=gr∨q∈G)->OwPlM w' D p' G'->G'.Nodup->(∀q∈G',q∈G∨(q∉F∧B<=q))->p'.id=l[k].id->okI p'.par->
    ∃F',FoS B w' g mb (some ⟨gr,0,none⟩) c (l.set k p') F'∧∀q∈F',q∈F∨q∈G':=by
 obtain⟨Cs,C,G,hR,hC,hGN,hGF,hgF,hgG,hcl⟩:=OwElems.one (R:=OwPlM) (fun h f d=>OwPlM.frm h f d) h.row h.nd k hk
 refine⟨Cs,C,G,hR,hC,hGN,hGF,hgF,hgG,?_⟩
 intro w' S D p' G' hR' f hS hp hN' hG' hid hpar
 have hlt:=OwPlsM.lt h.row
 have hSF:∀q∈S,q∈F:=fun q hq=>by
  rcases hS q hq with e | e
  ·rw [e];exact hgF
  ·exact hGF q e
 obtain⟨F',g1,g2,g3⟩:=hcl w' S D p' G' hR' f (fun q _ hq1 hq2 hq3=>by rcases hS q hq3 with e | e;(exact hq2 e);(exact hq1 e)) hp hN' (fun q hq=>(hG' q hq).imp id (fun h1=>h1.1))
 have g4:=g3
 have hget:l[k]? = some l[k]:=by simp [hk]
 refine⟨F',⟨?_,?_,g1,g2,fun q hq=> ?_,h.geg,h.gem,fun q hq=> ?_,by rw [List.length_set];exact h.len⟩,g4⟩
 ·rw [List.length_set]
  exact h.set.frm f (fun e=>h.gF (hSF g e)) (fun q hq=>.inr (OwPlsM.typ h.row q (hSF q hq)).cells)
 ·exact (h.map.frm f (fun e=>h.mF (hSF mb e))).ids (zim hget hid).symm
 ·rcases g4 q hq with e | e
  ·exact h.ge q e
  ·rcases hG' q e with e | e
   ·exact h.ge q (hGF q e)
   ·exact e.2
 ·rcases List.mem_or_eq_of_mem_set hq with e | e
  ·exact h.ids q e
  ·rw [e]
   exact⟨by rw [hid];exact (h.ids l[k] (List.getElem_mem hk)).1,hpar⟩
theorem zmx {X T T' Y:Xb} (h:(X++T++Y).Nodup) (hT:T'.Nodup) (hd:∀q∈T',q∉X++T++Y):(X++T'++Y).Nodup:=by
 rw [List.append_assoc]at h ⊢
 obtain⟨h1,h2,h3⟩:=List.nodup_append.1 h
 obtain⟨h4,h5,h6⟩:=List.nodup_append.1 h2
 refine List.nodup_append.2 ⟨h1,List.nodup_append.2 ⟨hT,h5,fun a ha b hb e=>hd a ha (by rw [e];exact List.mem_append_right _ hb)⟩,fun a ha b hb e=> ?_⟩
 rcases List.mem_append.1 hb with hb | hb
 ·exact hd b hb (by rw [<-e];exact List.mem_append_left _ (List.mem_append_left _ ha))
 ·exact h3 a ha b (List.mem_append_right _ hb) e
theorem zqh {l:List PlV} {o:OpV} (h0:o.kind≠0) (hp:posP l o.node=none):doV l o=l:=by
 unfold doV
 rw [if_neg h0,hp]
theorem zhu {l:List PlV} {o:OpV} {k:Nat} (h0:o.kind≠0) (hp:posP l o.node=some k) (hk:k<l.length):doV l o=if o.kind=1 then (if zcb l o k then l.set k (zdz o l[k]) else l) else if o.kind=2 then (if 2<=k∧l[k].kind=1 then l.set k (zfp o l[k]) else l) else (if k≠1∧l[k].kind=0 then l.set k (zbs o l[k]) else l):=by
 unfold doV
 rw [if_neg h0,hp]
 simp only [List.getElem?_eq_getElem hk]
def newT (o:OpV):Tr 1:=(⟨o.elem,o.name,o.text,[],[]⟩:Nd (Tr 0))
theorem zrs (o:OpV):szT 1 (newT o)=o.name.length+o.text.length:=by
 show o.name.length+o.text.length+szA []+(0+0)=_
 rfl
theorem zlY {α:Type} (w:Xe) (size:Nat) (R:Xd->α->Prop):Elems w size (.slice none 0 0) ([]:List α) R:=⟨Nat.zero_le _,.inl ⟨rfl,rfl⟩⟩
theorem zrO {w:Xe} {a b c:Xf} {x:Xa} {Fa:Xb} {m:Nat} (hz:OwnZ w m a x) (h:(FB b++FB c++Fa).Nodup) (hlt:∀q∈FB b++FB c++Fa,q<m):(FB a++FB b++FB c++Fa).Nodup:=by
 rw [List.append_assoc,List.append_assoc]
 rw [List.append_assoc]at h hlt
 exact List.nodup_append.2 ⟨zaF _,h,fun q hq q' hq' e=>by
  have h1:=(hz.lt q (by simpa [FB]using hq)).1
  have h2:=hlt q' hq'
  omega⟩
theorem zjI (w:Xe) (o:OpV) (k2 k3:Xc) (d2 d3:Nat) (h2:Byt w (.slice k2 o.name.length d2) o.name) (h3:Byt w (.slice k3 o.text.length d3) o.text) (hs2:o.name.length<=1000000) (hs3:o.text.length<=1000000) (hel:o.elem=0∨o.elem=1) :
  Calls Tryz.prog 86 #[.agg #[.int .i64 o.atN,.int .i64 o.atR],.agg #[.int .i64 o.elem,.slice k2 o.name.length d2,.slice k3 o.text.length d3,.slice none 0 0,.slice none 0 0]] w fun e w'=>∃p2 q2 p3 q3 p4 q4 Fa,e=.returned (.agg #[.int .i64 o.atN,.int .i64 o.atR,.int .i64 0,.int .i64 0,.slice none 0 0,.int .i64 o.elem,.slice p2 o.name.length q2,.slice p3 o.text.length q3,.slice p4 0 q4])∧
   Own w' 0 (.slice p2 o.name.length q2) o.name∧Own w' 0 (.slice p3 o.text.length q3) o.text∧OwAttrs w' (.slice p4 0 q4) [] Fa∧(FB (.slice p2 o.name.length q2)++FB (.slice p3 o.text.length q3)++Fa).Nodup∧(∀q∈FB (.slice p2 o.name.length q2)++FB (.slice p3 o.text.length q3)++Fa,w.heap.size<=q)∧Below w.heap.size w w':=by
 have hrd:RdNode 1 w [.int .i64 o.elem,.slice k2 o.name.length d2,.slice k3 o.text.length d3,.slice none 0 0,.slice none 0 0] (newT o):=
  ⟨_,_,_,_,rfl,by show _<=o.elem;omega,by show o.elem<=_;omega,h2,h3,zlY _ _ _,zlY _ _ _⟩
 exact zeM 0 w (o.atN,o.atR) (newT o) _ _ _ _ hrd (by rw [zrs];omega)
set_option maxHeartbeats 12800000 in
theorem zor {B:Nat} {w0 w:Xe} {g mb:Nat} {a:Xc} {c:Nat} {l:List PlV} {F:Xb} (h:FoS B w g mb a c l F) (hB0:w0.heap.size<=B) (hw0:Below w0.heap.size w0 w) (o:OpV) (k1 k2 k3:Xc) (d1 d2 d3:Nat)
  (h1:Ints w0 (.slice k1 o.key.length d1) o.key) (h2:Byt w0 (.slice k2 o.name.length d2) o.name) (h3:Byt w0 (.slice k3 o.text.length d3) o.text) (hs1:o.key.length<=1000000) (hs2:o.name.length<=1000000) (hs3:o.text.length<=1000000)
  (hat:okI o.at') (hpar:okI o.par) (hel:o.elem=0∨o.elem=1) (hnew:posP l o.at'=none) (hlen:l.length+1<=100000) :
  Calls Tryz.prog 120 #[.pointer (some ⟨g,0,none⟩),.agg #[.int .i64 o.kind,.int .i64 o.atN,.int .i64 o.atR,.int .i64 o.nodeN,.int .i64 o.nodeR,.int .i64 o.parN,.int .i64 o.parR,.slice k1 o.key.length d1,.int .i64 o.elem,.slice k2 o.name.length d2,.slice k3 o.text.length d3,.bool o.gone]] w fun e w'=>e=.returned (.tuple #[])∧FoT B w g mb (if zae l o.par=true then l++[newP o] else l) F w':=by
 refine zaf ?_
 intro Q HQ
 have hA:Below w.heap.size w (w.alloc (.cells #[.int .i64 o.kind,.int .i64 o.atN,.int .i64 o.atR,.int .i64 o.nodeN,.int .i64 o.nodeR,.int .i64 o.parN,.int .i64 o.parR,.slice k1 o.key.length d1,.int .i64 o.elem,.slice k2 o.name.length d2,.slice k3 o.text.length d3,.bool o.gone] 83)):=(Below.refl _ _).alloc (Nat.le_refl _) _
 have lb:=Loc.made w #[.int .i64 o.kind,.int .i64 o.atN,.int .i64 o.atR,.int .i64 o.nodeN,.int .i64 o.nodeR,.int .i64 o.parN,.int .i64 o.parR,.slice k1 o.key.length d1,.int .i64 o.elem,.slice k2 o.name.length d2,.slice k3 o.text.length d3,.bool o.gone] 83
 have hq1:=h.keep hA
 have HT:=hide (ziK hq1 o.par hpar)
 unfold OpV.par zaq at HT
 have b5:=lb.cell 5
 have b6:=lb.cell 6
 have hgl:=h.set.lt
 have hml:=h.map.lt
 have hFl:=OwPlsM.lt h.row
 have hge:∀q∈g::mb::F,B<=q:=fun q hq=>by rcases List.mem_cons.1 hq with rfl | hq;(exact h.geg);(rcases List.mem_cons.1 hq with rfl | hq;(exact h.gem);(exact h.ge q hq))
 have LL:=hide (And.intro hA (And.intro lb (And.intro hw0 (And.intro h1 (And.intro h2 h3)))))
 have HV:=hide (And.intro hat (And.intro hpar (And.intro hel hnew)))
 have HGE:=hide hge
 clear hA lb h hq1 hw0 h1 h2 h3 hat hpar hel hnew hge
 go_enter Tryz.func120,Tryz.ntmps120
 go_wp2_with fail
 refine (zaa HT).mono ?_
 rintro e w2 ⟨rfl,hs,hf2⟩
 obtain⟨hA,lb,hw0,h1,h2,h3⟩:=zaa LL
 have hfa:Frm w w2 [g]:=(Frm.ofBelow hA [g]).trans hf2
 have lb2:=lb.frm hf2 (by simp;omega)
 have hw2:Below w0.heap.size w0 w2:=hw0.trans (hfa.below hw0.size (fun q hq=>by have e9:q=g:=(by simpa using hq);have:=zaa HGE g (by simp);omega))
 clear LL HT lb hf2 hA hw0 b5 b6
 cases ht:zae l (o.parN,o.parR)with
 | false=>
  have ht':zae l o.par=false:=ht
  have HE:=hide (zaa HQ (.returned (.tuple #[])) w2 ⟨rfl,a,c,F,by rw [ht'];exact hs,hfa.mono (fun q hq=>by have e9:q=g:=(by simpa using hq);simp [e9]),fun q hq=>.inl hq⟩)
  clear HQ hs hfa lb2 hw2 h1 h2 h3 ht ht'
  go_wp2_with fail
  go_end0
  exact zaa HE
 | true=>
  have ht':zae l o.par=true:=ht
  have HTK:=hide ht'
  clear ht ht'
  obtain⟨hat,hpar,hel,hnew⟩:=zaa HV
  have HP:=hide (zjI w2 o k2 k3 d2 d3 (h2.keep hw2) (h3.keep hw2) hs2 hs3 hel)
  have c1:=lb2.cell 1
  have c2:=lb2.cell 2
  have c8:=lb2.cell 8
  have c9:=lb2.cell 9
  have c10:=lb2.cell 10
  have HX:=hide (And.intro hs (And.intro hfa (And.intro lb2 (And.intro hw2 h1))))
  clear hs hfa lb2 hw2 h1 h2 h3
  go_upto_region 3 with (go_at_call 86;refine (zaa HP).mono ?_;rintro e w3 ⟨p2,q2,p3,q3,p4,q4,Fa,rfl,o2,o3,o4,hnd,hrg,hb3⟩)
  obtain⟨hs,hfa,lb2,hw2,h1⟩:=zaa HX
  have hb4:Below w3.heap.size w3 (w3.alloc (.cells #[.int .i64 o.atN,.int .i64 o.atR,.int .i64 0,.int .i64 0,.slice none 0 0,.int .i64 o.elem,.slice p2 o.name.length q2,.slice p3 o.text.length q3,.slice p4 0 q4] 117)):=(Below.refl _ _).alloc (Nat.le_refl _) _
  have lp:=Loc.made w3 #[.int .i64 o.atN,.int .i64 o.atR,.int .i64 0,.int .i64 0,.slice none 0 0,.int .i64 o.elem,.slice p2 o.name.length q2,.slice p3 o.text.length q3,.slice p4 0 q4] 117
  have hb24:=zad hb3 hb4
  have hs4:=hs.keep hb24
  have HB24:=hide (Frm.ofBelow hb24 [])
  have lb4:=lb2.all hb24
  have hw4:=hw2.trans (hb24.mono hw2.size)
  have e2:Own (w3.alloc (.cells #[.int .i64 o.atN,.int .i64 o.atR,.int .i64 0,.int .i64 0,.slice none 0 0,.int .i64 o.elem,.slice p2 o.name.length q2,.slice p3 o.text.length q3,.slice p4 0 q4] 117)) 0 (.slice p2 o.name.length q2) o.name:=o2.keep hb4
  have e3:Own (w3.alloc (.cells #[.int .i64 o.atN,.int .i64 o.atR,.int .i64 0,.int .i64 0,.slice none 0 0,.int .i64 o.elem,.slice p2 o.name.length q2,.slice p3 o.text.length q3,.slice p4 0 q4] 117)) 0 (.slice p3 o.text.length q3) o.text:=o3.keep hb4
  have e4:OwAttrs (w3.alloc (.cells #[.int .i64 o.atN,.int .i64 o.atR,.int .i64 0,.int .i64 0,.slice none 0 0,.int .i64 o.elem,.slice p2 o.name.length q2,.slice p3 o.text.length q3,.slice p4 0 q4] 117)) (.slice p4 0 q4) [] Fa:=OwAttrs.frm o4 (Frm.ofBelow hb4 []) (fun _ _=>by simp)
  have hlt3:∀q∈FB (.slice p2 o.name.length q2)++FB (.slice p3 o.text.length q3)++Fa,q<w3.heap.size:=fun q hq=>by
   rcases List.mem_append.1 hq with hq | hq
   ·rcases List.mem_append.1 hq with hq | hq
    ·exact (o2.lt q (by simpa [FB]using hq)).2
    ·exact (o3.lt q (by simpa [FB]using hq)).2
   ·exact OwAttrs.lt o4 q hq
  have hrg':∀q∈FB (.slice p2 o.name.length q2)++FB (.slice p3 o.text.length q3)++Fa,w2.heap.size<=q:=hrg
  have hnd':(FB (.slice p2 o.name.length q2)++FB (.slice p3 o.text.length q3)++Fa).Nodup:=hnd
  have hs24:=hb3.size
  have hbl2:=lb2.lt
  have hsz4:(w3.alloc (.cells #[.int .i64 o.atN,.int .i64 o.atR,.int .i64 0,.int .i64 0,.slice none 0 0,.int .i64 o.elem,.slice p2 o.name.length q2,.slice p3 o.text.length q3,.slice p4 0 q4] 117)).heap.size=w3.heap.size+1:=by simp
  clear HX HP hs hb3 hb4 hb24 lb2 hw2 o2 o3 o4 hrg hnd c1 c2 c8 c9 c10
  generalize w3.alloc (.cells #[.int .i64 o.atN,.int .i64 o.atR,.int .i64 0,.int .i64 0,.slice none 0 0,.int .i64 o.elem,.slice p2 o.name.length q2,.slice p3 o.text.length q3,.slice p4 0 q4] 117)=w4 at *
  generalize w3.heap.size=pb at *
  have hd:Below w4.heap.size w4 w4.drew:=(Below.refl _ _).drew
  have HKP:=hide (fun (W:Xe) (hW:Below w4.heap.size w4 W)=>lp.all hW)
  have HC:=hide (zgI w4.drew _ o.key (h1.keep (hw4.trans (hd.mono hw4.size))) (by omega))
  have d5:w4.drew.cell? ⟨w.heap.size,5,none⟩=some (.int .i64 o.parN):=(lb4.all hd).cell 5
  have d6:w4.drew.cell? ⟨w.heap.size,6,none⟩=some (.int .i64 o.parR):=(lb4.all hd).cell 6
  have d7:w4.drew.cell? ⟨w.heap.size,7,none⟩=some (.slice k1 o.key.length d1):=(lb4.all hd).cell 7
  have hnp:w.heap.size≠pb:=by have:=lb4.lt;have:=hfa.size;have:=hbl2;omega
  have HK:=hide (fun (W:Xe) (hW:Below w4.heap.size w4 W)=>And.intro (lb4.all hW) (lp.all hW))
  have HY:=hide (And.intro hs4 (And.intro hfa (And.intro hw4 (And.intro e2 (And.intro e3 (And.intro e4 (And.intro hlt3 (And.intro hrg' hnd'))))))))
  clear hs4 hfa hw4 e2 e3 e4 hlt3 hrg' hnd' lb4 lp h1
  go_region_held3 (fun w'=>w'.cell? ⟨w.heap.size,5,none⟩=some (.int .i64 o.parN)∧w'.cell? ⟨w.heap.size,6,none⟩=some (.int .i64 o.parR)∧w'.cell? ⟨w.heap.size,7,none⟩=some (.slice k1 o.key.length d1))
   (first | exact⟨by assumption,by assumption,by assumption⟩ | simp [*])
   (first
    | (go_at_call 122;refine (zaa HC).mono ?_;clear HC;rintro e w5 ⟨a5,c5,rfl,ho5,hb5⟩;have hK5:=zad hd hb5;have lb5:=(zaa HK w5 hK5).1;have lp5:=(zaa HK w5 hK5).2;have x5:=lb5.cell 5;have x6:=lb5.cell 6;have x7:=lb5.cell 7;have y2:=lp5.cell 2;have y3:=lp5.cell 3;have y4:=lp5.cell 4;have z2:=lp5.frozen 2;have z3:=lp5.frozen 3;have z4:=lp5.frozen 4;have lbS:=(lb5.other pb 2 (.int .i64 o.parN) hnp).other pb 3 (.int .i64 o.parR) hnp;have lpS:=(lp5.set 2 (.int .i64 o.parN)).set 3 (.int .i64 o.parR);have s5:=lbS.cell 5;have s6:=lbS.cell 6;have s7:=lbS.cell 7;have v4:=lpS.cell 4;have u4:=lpS.frozen 4;have lbT:=lbS.other pb 4 (.slice a5 o.key.length c5) hnp;have t5:=lbT.cell 5;have t6:=lbT.cell 6;have t7:=lbT.cell 7;have lpT:=lpS.set 4 (.slice a5 o.key.length c5);have HLL:=hide (And.intro lbT lpT);clear lb5 lp5 lbS lpS lbT lpT))
  all_goals
   obtain⟨lbT,lpT⟩:=zaa HLL
   obtain⟨hs4,hfa,hw4,e2,e3,e4,hlt3,hrg',hnd'⟩:=zaa HY
   clear x5 x6 x7 y2 y3 y4 z2 z3 z4 s5 s6 s7 v4 u4 t5 t6 t7 HLL HY HK d5 d6 d7
   have fs:Frm w5 (((w5.setCell ⟨pb,2,none⟩ (.int .i64 o.parN)).setCell ⟨pb,3,none⟩ (.int .i64 o.parR)).setCell ⟨pb,4,none⟩ (.slice a5 o.key.length c5)) [pb]:=((zab _ pb 2 _).trans (zab _ pb 3 _)).trans (zab _ pb 4 _)
   have hsz:(((w5.setCell ⟨pb,2,none⟩ (.int .i64 o.parN)).setCell ⟨pb,3,none⟩ (.int .i64 o.parR)).setCell ⟨pb,4,none⟩ (.slice a5 o.key.length c5)).heap.size=w5.heap.size:=by simp
   generalize (((w5.setCell ⟨pb,2,none⟩ (.int .i64 o.parN)).setCell ⟨pb,3,none⟩ (.int .i64 o.parR)).setCell ⟨pb,4,none⟩ (.slice a5 o.key.length c5))=w6 at *
   have hs45:=hK5.size
   have hs0:=hfa.size
   have hp5:∀q,q<pb->q∉[pb]:=fun q hq e=>by have e9:q=pb:=(by simpa using e);omega
   have hFl2:∀q∈F,q<pb:=fun q hq=>by have:=hFl q hq;omega
   have lp5:Loc w5 pb _ 117:=(zaa HKP w5 hK5)
   have hs6:=(hs4.keep hK5).frm fs (hp5 g (by omega)) (hp5 mb (by omega)) (fun q hq=>hp5 q (hFl2 q hq)) (fun q hq=>by have e9:q=pb:=(by simpa using hq);rw [e9];exact Cells.ofL lp5)
   have o5:OwnZ w6 w4.heap.size (.slice a5 o.key.length c5) o.key:=⟨ho5.1,zap ho5.2 fs (fun q hq e=>by have e9:q=pb:=(by simpa using e);have h9:=(ho5.lt q (by simpa [FB]using hq)).1;have h8:w4.heap.size<=q:=h9;omega)⟩
   have o2:=(e2.keep hK5).frm fs (fun q hq=>hp5 q (hlt3 q (by simp [hq])))
   have o3:=(e3.keep hK5).frm fs (fun q hq=>hp5 q (hlt3 q (by simp [hq])))
   have o4:=OwAttrs.frm (OwAttrs.frm e4 (Frm.ofBelow hK5 []) (fun _ _=>by simp)) fs (fun q hq=>hp5 q (hlt3 q (by simp [hq])))
   have hG:∀q∈FB (.slice a5 o.key.length c5)++FB (.slice p2 o.name.length q2)++FB (.slice p3 o.text.length q3)++Fa,w2.heap.size<=q:=fun q hq=>by
    rw [List.append_assoc,List.append_assoc]at hq
    rcases List.mem_append.1 hq with hq | hq
    ·have:=(o5.lt q (by simpa [FB]using hq)).1;omega
    ·exact hrg' q (by rw [List.append_assoc];exact hq)
   have hgB:=hs4.geg
   have HA:=hide (zgF hs6 (newP o) a5 p2 p3 p4 c5 q2 q3 q4 _ ⟨_,_,_,_,Fa,rfl,o5.mono (Nat.zero_le _),o2.rowm,o3,o4,rfl⟩ (zrO o5 hnd' (fun q hq=>by have:=hlt3 q hq;omega)) (fun q hq=>by have:=hG q hq;omega) (fun q hq hq'=>by have:=hG q hq';have:=hFl q hq;omega) hat hpar hnew hlen)
   have c0:=lpT.cell 0
   have c1:=lpT.cell 1
   have c2:=lpT.cell 2
   have c3:=lpT.cell 3
   have c4:=lpT.cell 4
   have c5_:=lpT.cell 5
   have c6:=lpT.cell 6
   have c7:=lpT.cell 7
   have c8:=lpT.cell 8
   have HZ:=hide (And.intro hfa (And.intro (Frm.ofBelow hK5 (g::mb::F)) (And.intro fs hG)))
   clear lbT lpT hs6 o5 o2 o3 o4 hG hs4 e2 e3 e4 hfa fs lp5 ho5
   go_wp2_with (go_at_call 58;refine (zaa HA).mono ?_;rintro e w7 ⟨rfl,a7,c7_,F7,hs7,hf7,hF7⟩)
   obtain⟨hfa,hfk,fs,hG⟩:=zaa HZ
   have HE:=hide (zaa HQ (.returned (.tuple #[])) w7 ⟨rfl,a7,c7_,F7,by rw [zaa HTK];exact hs7,(((hfa.mono (fun q hq=>by have e9:q=g:=(by simpa using hq);simp [e9])).moreS (zaa HB24) (fun q hq=>by cases hq)).moreS hfk (fun q hq=>.inl hq)).moreS ((fs.mono (S':=[pb]) (fun q hq=>hq))) (fun q hq=>by have e9:q=pb:=(by simpa using hq);right;omega) |>.moreS hf7 (fun q hq=>.inl hq),fun q hq=>by
    rcases hF7 q hq with e | e | e
    ·exact .inl e
    ·have:=hG q e;right;omega
    ·right;omega⟩)
   clear HQ HZ HA hs7 hf7 hF7 hfa hfk fs hG
   go_end0
   exact zaa HE
end Go.Proofs.YtlpnibbdmkeklaaGreatDoor
namespace Go.Proofs.YtlpnibbdmkeklaaGreatDoor
open Go.RowKit
set_option linter.unusedVariables false
set_option maxRecDepth 100000
theorem zhE (w:Xe) (x:AtV) (a1 a2 a3:Xc) (c1 c2 c3:Nat) (n:Xa) (h1:Byt w (.slice a1 x.1.length c1) x.1) (h2:Byt w (.slice a3 n.length c3) n) :
  Calls Tryz.prog 140 #[.agg #[.slice a1 x.1.length c1,.slice a2 x.2.length c2],.slice a3 n.length c3] w fun e w'=>e=.returned (.int .i64 (cmpB x.1 n))∧Below w.heap.size w w':=by
 have hA:=(Below.refl w.heap.size w).alloc (Nat.le_refl _) (.cells #[.slice a1 x.1.length c1,.slice a2 x.2.length c2] 144)
 have lb:=Loc.made w #[.slice a1 x.1.length c1,.slice a2 x.2.length c2] 144
 have b0:=lb.cell 0
 have HC:=hide (zkK (w.alloc (.cells #[.slice a1 x.1.length c1,.slice a2 x.2.length c2] 144)) _ _ x.1 n (h1.keep hA) (h2.keep hA))
 have HB:=hide hA
 clear hA lb h1 h2
 generalize cmpB x.1 n=z at *
 go_enter Tryz.func140,Tryz.ntmps140
 go_wp2_with fail
 refine (zaa HC).mono ?_
 rintro e w1 ⟨rfl,hw1⟩
 subst w1
 go_wp2_with fail
 go_ret
 exact⟨rfl,zaa HB⟩
set_option maxHeartbeats 6400000 in
theorem zgQ (w:Xe) (v:Xf) (l:List AtV) (n:Xa) (a3:Xc) (c3:Nat) (h:RdAttrs w v l) (hn:Byt w (.slice a3 n.length c3) n) (hs:SrtA l) (hl:l.length<=100000) :
  Calls Tryz.prog 139 #[v,.slice a3 n.length c3,.func (.func 140) #[] #[]] w fun e w'=>e=.returned (.tuple #[.int .i64 (posA l n:Int),.bool (zbk l n)])∧Below w.heap.size w w':=by
 refine zaf ?_
 intro Q HQ
 have HS:=hide hs
 have HR:=hide h
 have HN:=hide hn
 obtain⟨av,cv,rfl,_,_⟩:=Elems.shape h
 clear h hs hn
 go_enter Tryz.func139,Tryz.ntmps139
 go_wp2_with fail
 go_loopw [9,10,11] (fun i j _ wr=>∃a b:Nat,a<=b∧b<=l.length∧i=.int .i64 a∧j=.int .i64 b∧Hid ((∀k (hk:k<l.length),k<a->zbv n l[k]=true)∧(∀k (hk:k<l.length),b<=k->zbv n l[k]=false))∧Below w.heap.size w wr) (fun i j _ _=>(intOf j).toNat-(intOf i).toNat)
 case atStart=>exact⟨0,l.length,Nat.zero_le _,Nat.le_refl _,rfl,rfl,hide ⟨fun k _ hk=>by omega,fun k hk hb=>by omega⟩,Below.refl _ _⟩
 case round=>
  obtain⟨a,b,hab,hbl,rfl,rfl,HI,hB⟩:=hrel
  by_cases hlt:a<b
  ·have hlt':(a:Int)<(b:Int):=by omega
   obtain⟨m,hm⟩:∃m:Nat,m=(a+b) / 2:=⟨_,rfl⟩
   have hml:m<l.length:=by omega
   have hma:a<=m:=by omega
   have hmb:m<b:=by omega
   have hmz:((a:Int)+(b:Int)) / 2=(m:Int):=by omega
   have HMZ:=hide (And.intro hmz (And.intro hml (And.intro hma hmb)))
   have HBB:=hide hB
   clear hmz hml hma hmb hm hB
   go_upto_region 5 with fail
   obtain⟨hmz,hml,hma,hmb⟩:=zaa HMZ
   clear HMZ
   rw [hmz]
   clear hmz
   have hm0:(0:Int)<=(m:Int):=by omega
   have hml':(m:Int)<(l.length:Int):=by omega
   obtain⟨pb,poff,epv,hpl,_,_,C,hCl,hcell,hxa⟩:=Elems.at (zaa HR) hml
   obtain⟨y0,y1,eC,hx1,hx2⟩:=hxa
   obtain⟨a1,c1,rfl,_⟩:=hx1.shape
   obtain⟨a2,c2,rfl,_⟩:=hx2.shape
   subst epv
   have hB:=zaa HBB
   have u0:wr.cell? ⟨pb,poff+m*2,none⟩=some (.slice a1 l[m].1.length c1):=by have h7:=hcell 0 (by decide);rw [eC]at h7;simp only [List.getElem?_cons_zero,Nat.add_zero]at h7;exact (hB.cell (p:=⟨pb,poff+m*2,none⟩) hpl).trans h7
   have u1:wr.cell? ⟨pb,poff+m*2+1,none⟩=some (.slice a2 l[m].2.length c2):=by have h7:=hcell 1 (by decide);rw [eC]at h7;simp only [List.getElem?_cons_succ,List.getElem?_cons_zero]at h7;exact (hB.cell (p:=⟨pb,poff+m*2+1,none⟩) hpl).trans h7
   have hn:=zaa HN
   have HC:=hide (zhE wr l[m] a1 a2 a3 c1 c2 c3 n (hx1.keep hB) (hn.keep hB))
   clear hcell eC hB
   have hzz:=zsC hx1.1 hn.1
   have HD:=hide (And.intro (fun (ha:zbv n l[m]=true)=>(show ((∀k (hk:k<l.length),k<m+1->zbv n l[k]=true)∧(∀k (hk:k<l.length),b<=k->zbv n l[k]=false)) from ⟨fun k hk hkm=>zgV (zaa HS) (by omega) hml ha,(zaa HI).2⟩)) (fun (ha:zbv n l[m]=false)=>(show ((∀k (hk:k<l.length),k<a->zbv n l[k]=true)∧(∀k (hk:k<l.length),m<=k->zbv n l[k]=false)) from ⟨(zaa HI).1,fun k hk hkm=>by
    cases hak:zbv n l[k]with
    | false=>rfl
    | true=>have:=zgV (zaa HS) hkm hk hak;rw [ha]at this;cases this⟩)))
   have hza:decide (cmpB l[m].1 n<0)=zbv n l[m]:=hzz
   clear hzz hx1 hx2 hn
   generalize zbv n l[m]=am at *
   generalize cmpB l[m].1 n=z at *
   generalize l[m]=o at *
   go_wp2_with fail
   refine (zaa HC).mono ?_
   rintro e w2 ⟨rfl,hb2⟩
   have hB3:=zad (zaa HBB) hb2
   clear u0 u1 HC hb2
   cases am with
   | true=>
    have hz1:z<0:=by simpa using hza
    clear hza
    have HD1:=hide ((zaa HD).1 rfl)
    clear HD HI
    go_wp2_with fail
    go_roundw
    case rel=>exact⟨m+1,b,by omega,hbl,by go_num,rfl,HD1,hB3⟩
    case measure=>simp [intOf];omega
   | false=>
    have hz1:¬ z<0:=by simpa using hza
    clear hza
    have HD1:=hide ((zaa HD).2 rfl)
    clear HD HI
    go_wp2_with fail
    go_roundw
    case rel=>exact⟨a,m,hma,by omega,rfl,rfl,HD1,hB3⟩
    case measure=>simp [intOf];omega
  ·have e:b=a:=by omega
   subst e
   have hpos:posA l n=b:=zrW hbl (zaa HI).1 (fun hk=>(zaa HI).2 b hk (Nat.le_refl _))
   have HBB:=hide hB
   clear HI hB
   by_cases hbn:b<l.length
   ·have hth:zbk l n=decide (l[b].1=n):=by unfold zbk;simp only [hpos,hbn,dite_true]
    have hm0:(0:Int)<=(b:Int):=by omega
    have hml':(b:Int)<(l.length:Int):=by omega
    have hbb:¬ (b:Int)<(b:Int):=by omega
    have hml:=hbn
    obtain⟨pb,poff,epv,hpl,_,_,C,hCl,hcell,hxa⟩:=Elems.at (zaa HR) hml
    obtain⟨y0,y1,eC,hx1,hx2⟩:=hxa
    obtain⟨a1,c1,rfl,_⟩:=hx1.shape
    obtain⟨a2,c2,rfl,_⟩:=hx2.shape
    subst epv
    have hB:=zaa HBB
    have u0:wr.cell? ⟨pb,poff+b*2,none⟩=some (.slice a1 l[b].1.length c1):=by have h7:=hcell 0 (by decide);rw [eC]at h7;simp only [List.getElem?_cons_zero,Nat.add_zero]at h7;exact (hB.cell (p:=⟨pb,poff+b*2,none⟩) hpl).trans h7
    have u1:wr.cell? ⟨pb,poff+b*2+1,none⟩=some (.slice a2 l[b].2.length c2):=by have h7:=hcell 1 (by decide);rw [eC]at h7;simp only [List.getElem?_cons_succ,List.getElem?_cons_zero]at h7;exact (hB.cell (p:=⟨pb,poff+b*2+1,none⟩) hpl).trans h7
    have hn:=zaa HN
    have HC:=hide (zhE wr l[b] a1 a2 a3 c1 c2 c3 n (hx1.keep hB) (hn.keep hB))
    clear hcell eC hB
    have hz0:=zpY hx1.1 hn.1
    have HT:=hide (And.intro hpos (hth.trans hz0.symm))
    clear hth hz0 hpos hx1 hx2 hn
    generalize cmpB l[b].1 n=z at *
    generalize l[b]=o at *
    go_wp2_with fail
    refine (zaa HC).mono ?_
    rintro e w2 ⟨rfl,hb2⟩
    have HE:=hide (zaa HQ (.returned (.tuple #[.int .i64 (posA l n:Int),.bool (zbk l n)])) w2 ⟨rfl,zad (zaa HBB) hb2⟩)
    rw [(zaa HT).1,(zaa HT).2]at HE
    clear HQ HT HBB HC hb2 u0 u1
    go_wp2_with fail
    exact zaa HE
   ·have hth:zbk l n=false:=by unfold zbk;simp only [hpos,hbn,dite_false]
    have hbe:b=l.length:=by omega
    subst hbe
    have HE:=hide (zaa HQ (.returned (.tuple #[.int .i64 (posA l n:Int),.bool (zbk l n)])) wr ⟨rfl,zaa HBB⟩)
    rw [hpos,hth]at HE
    clear hpos hth hbn HQ HBB
    have hbb:¬ (l.length:Int)<(l.length:Int):=by omega
    go_wp2_with fail
    exact zaa HE
set_option maxHeartbeats 6400000 in
theorem zjN (w:Xe) (av:Xc) (cv:Nat) (l:List AtV) (F:Xb) (n t:Xa) (a1 a2:Xc) (c1 c2:Nat) (G:Xb) (h:OwAttrs w (.slice av l.length cv) l F) (hN:F.Nodup) (hs:SrtA l) (hl:l.length<=4)
  (hG:OwAttr w [.slice a1 n.length c1,.slice a2 t.length c2] (n,t) G) (hGN:G.Nodup) (hFG:∀q∈F,q∉G) (ht:zbk l n=false) (hnm:zah n) :
  Calls Tryz.prog 142 #[.slice av l.length cv,.agg #[.slice a1 n.length c1,.slice a2 t.length c2]] w fun e w'=>∃u F',e=.returned u∧OwAttrs w' u (if l.length=4 then l else l.take (posA l n)++((n,t)::l.drop (posA l n))) F'∧F'.Nodup∧(∀q∈F',q∈F∨q∈G∨w.heap.size<=q)∧Frm w w' F:=by
 refine zaf ?_
 intro Q HQ
 have hA:Below w.heap.size w (w.alloc (.cells #[.slice a1 n.length c1,.slice a2 t.length c2] 144)):=(Below.refl _ _).alloc (Nat.le_refl _) _
 have lb:=Loc.made w #[.slice a1 n.length c1,.slice a2 t.length c2] 144
 have b0:=lb.cell 0
 have b1:=lb.cell 1
 have h1:OwAttrs (w.alloc (.cells #[.slice a1 n.length c1,.slice a2 t.length c2] 144)) _ l F:=OwAttrs.frm h (Frm.ofBelow hA []) (fun _ _=>by simp)
 have hG1:OwAttr (w.alloc (.cells #[.slice a1 n.length c1,.slice a2 t.length c2] 144)) _ (n,t) G:=OwAttr.frm hG (Frm.ofBelow hA []) (fun _ _=>by simp)
 have hnb:Byt (w.alloc (.cells #[.slice a1 n.length c1,.slice a2 t.length c2] 144)) (.slice a1 n.length c1) n:=by obtain⟨x,y,e,q1,_⟩:=hG1;cases e;exact q1.byt
 have hvF:∀q∈FB (.slice av l.length cv),q∈F:=fun q hq=>by
  obtain⟨_,_,_,_,_,_,e⟩:=h
  rw [e]
  exact List.mem_append_left _ hq
 have HS:=hide (zgQ _ _ l n a1 c1 (OwAttrs.rd h1) hnb hs (by omega))
 rw [ht]at HS
 have hlt:=OwAttrs.lt h
 have hpl:=zgE l n
 have HX:=hide (And.intro hA (And.intro lb (And.intro h1 (And.intro hG1 (And.intro hnb (And.intro hvF hlt))))))
 clear hA lb h1 hG1 hnb h hG ht hs hvF hlt
 go_enter Tryz.func142,Tryz.ntmps142
 go_wp2_with fail
 refine (zaa HS).mono ?_
 rintro e w2 ⟨rfl,hb2⟩
 obtain⟨hA,lb,h1,hG1,hnb,hvF,hlt⟩:=zaa HX
 have h2:OwAttrs w2 _ l F:=OwAttrs.frm h1 (Frm.ofBelow hb2 []) (fun _ _=>by simp)
 have hG2:OwAttr w2 _ (n,t) G:=OwAttr.frm hG1 (Frm.ofBelow hb2 []) (fun _ _=>by simp)
 have lb2:=lb.all hb2
 have hnb2:=hnb.keep hb2
 have hA2:=zad hA hb2
 clear HS HX hA lb h1 hG1 hnb hb2 b0 b1
 have b0:=lb2.cell 0
 have b1:=lb2.cell 1
 by_cases h4:l.length=4
 ·have HE:=hide (zaa HQ (.returned (.slice av l.length cv)) w2 ⟨_,F,rfl,by rw [if_pos h4];exact h2,hN,fun q hq=>.inl hq,Frm.ofBelow hA2 _⟩)
  rw [h4]at HE
  have h4':(l.length:Int)=4:=by omega
  clear h2 hG2 lb2 hnb2 hA2 HQ hpl
  go_wp2_with fail
  exact zaa HE
 ·have h4':¬ (l.length:Int)=4:=by omega
  have hA3:Below w2.heap.size w2 (w2.alloc (.cells #[.slice a1 n.length c1,.slice a2 t.length c2] 144)):=(Below.refl _ _).alloc (Nat.le_refl _) _
  have lv:=Loc.made w2 #[.slice a1 n.length c1,.slice a2 t.length c2] 144
  have h3:OwAttrs (w2.alloc (.cells #[.slice a1 n.length c1,.slice a2 t.length c2] 144)) _ l F:=OwAttrs.frm h2 (Frm.ofBelow hA3 []) (fun _ _=>by simp)
  have hG3:OwAttr (w2.alloc (.cells #[.slice a1 n.length c1,.slice a2 t.length c2] 144)) _ (n,t) G:=OwAttr.frm hG2 (Frm.ofBelow hA3 []) (fun _ _=>by simp)
  have hl2:=OwAttrs.lt h2
  have HI:=hide (zqX _ _ l F (posA l n) w2.heap.size [.slice a1 n.length c1,.slice a2 t.length c2] (n,t) G h3 hN hpl (by omega) lv hG3 hGN hFG (fun e=>by have:=hl2 _ e;omega))
  have HY:=hide (And.intro (zad hA2 hA3) (And.intro hnb2 (And.intro hvF (show w.heap.size<=(w2.alloc (.cells #[.slice a1 n.length c1,.slice a2 t.length c2] 144)).heap.size from (zad hA2 hA3).size))))
  clear h2 hG2 lb2 hA2 hA3 lv h3 hG3 hl2 hvF hlt hnb2
  generalize hpp:posA l n=pp at *
  go_wp2_with (go_at_call 114;refine (zjo w2 _ n (zaa HY).2.1 hnm).mono ?_;rintro e w9 ⟨rfl,rfl⟩)
  refine (zaa HI).mono ?_
  rintro e w4 ⟨u,F4,rfl,h4_,hN4,hM4,hf4⟩
  obtain⟨hb3,_,hvF,hsz⟩:=zaa HY
  obtain⟨au,cu,rfl,_⟩:=Elems.shape (OwAttrs.rd h4_)
  have HE:=hide (zaa HQ (.returned (.slice au _ cu)) w4 ⟨_,F4,rfl,by rw [if_neg h4];exact h4_,hN4,fun q hq=>by rcases hM4 q hq with e | e | e;(exact .inl e);(exact .inr (.inl e));(exact .inr (.inr (by omega))),(Frm.ofBelow hb3 F).trans (hf4.mono hvF)⟩)
  clear h4_ hN4 hM4 hf4 hb3 HI HY HQ
  generalize (l.take pp++((n,t)::l.drop pp)).length=len4 at HE ⊢
  go_wp2_with fail
  exact zaa HE
theorem zsx {a:Nat} {w3 w4:Xe} {u v:Xf} {l m:Xa} (h:Own w3 a u l) (k:Own w4 w3.heap.size v m):(FB u++FB v).Nodup:=
 List.nodup_append.2 ⟨zaF _,zaF _,fun x hx b hb' e=>by
  have h1:=(h.lt x (by simpa [FB]using hx)).2
  have h2:=(k.lt b (by simpa [FB]using hb')).1
  omega⟩
theorem zrD {a b:Nat} {w3 w4:Xe} {u v:Xf} {l m:Xa} {F:Xb} (hF:∀q∈F,q<a) (h:Own w3 a u l) (k:Own w4 b v m) (hb:a<=b):∀q∈F,q∉FB u++FB v:=fun q hq e=>by
 have h0:=hF q hq
 rcases List.mem_append.1 e with e | e
 ·have:=(h.lt q (by simpa [FB]using e)).1;omega
 ·have:=(k.lt q (by simpa [FB]using e)).1;omega
set_option maxHeartbeats 6400000 in
theorem zmm (w:Xe) (av:Xc) (cv:Nat) (l:List AtV) (F:Xb) (o:OpV) (k1 k2 k3:Xc) (d1 d2 d3:Nat) (h:OwAttrs w (.slice av l.length cv) l F) (hN:F.Nodup) (hs:SrtA l) (hl:l.length<=4)
  (h2:Byt w (.slice k2 o.name.length d2) o.name) (h3:Byt w (.slice k3 o.text.length d3) o.text) (hnl:o.name.length<=67108864) (htl:o.text.length<=67108864) (hnm:zah o.name) :
  Calls Tryz.prog 124 #[.slice av l.length cv,.agg #[.int .i64 o.kind,.int .i64 o.atN,.int .i64 o.atR,.int .i64 o.nodeN,.int .i64 o.nodeR,.int .i64 o.parN,.int .i64 o.parR,.slice k1 o.key.length d1,.int .i64 o.elem,.slice k2 o.name.length d2,.slice k3 o.text.length d3,.bool o.gone]] w fun e w'=>∃a' c' F',e=.returned (.slice a' (chgI l o).length c')∧OwAttrs w' (.slice a' (chgI l o).length c') (chgI l o) F'∧F'.Nodup∧(∀q∈F',q∈F∨w.heap.size<=q)∧Frm w w' F:=by
 refine zaf ?_
 intro Q HQ
 have hA:Below w.heap.size w (w.alloc (.cells #[.int .i64 o.kind,.int .i64 o.atN,.int .i64 o.atR,.int .i64 o.nodeN,.int .i64 o.nodeR,.int .i64 o.parN,.int .i64 o.parR,.slice k1 o.key.length d1,.int .i64 o.elem,.slice k2 o.name.length d2,.slice k3 o.text.length d3,.bool o.gone] 83)):=(Below.refl _ _).alloc (Nat.le_refl _) _
 have lb:=Loc.made w #[.int .i64 o.kind,.int .i64 o.atN,.int .i64 o.atR,.int .i64 o.nodeN,.int .i64 o.nodeR,.int .i64 o.parN,.int .i64 o.parR,.slice k1 o.key.length d1,.int .i64 o.elem,.slice k2 o.name.length d2,.slice k3 o.text.length d3,.bool o.gone] 83
 have b9:=lb.cell 9
 have h1:OwAttrs (w.alloc (.cells #[.int .i64 o.kind,.int .i64 o.atN,.int .i64 o.atR,.int .i64 o.nodeN,.int .i64 o.nodeR,.int .i64 o.parN,.int .i64 o.parR,.slice k1 o.key.length d1,.int .i64 o.elem,.slice k2 o.name.length d2,.slice k3 o.text.length d3,.bool o.gone] 83)) _ l F:=OwAttrs.frm h (Frm.ofBelow hA []) (fun _ _=>by simp)
 have hvF:∀q∈FB (.slice av l.length cv),q∈F:=fun q hq=>by
  obtain⟨_,_,_,_,_,_,e⟩:=h
  rw [e]
  exact List.mem_append_left _ hq
 have HS:=hide (zgQ _ _ l o.name k2 d2 (OwAttrs.rd h1) (h2.keep hA) hs (by omega))
 have hlt:=OwAttrs.lt h
 have HX:=hide (And.intro hA (And.intro lb (And.intro h1 (And.intro (h2.keep hA) (And.intro (h3.keep hA) (And.intro hvF (And.intro hlt hs)))))))
 have hpl:=zgE l o.name
 clear hA lb h1 h h2 h3 hs hvF hlt
 go_enter Tryz.func124,Tryz.ntmps124
 go_wp2_with fail
 refine (zaa HS).mono ?_
 rintro e w2 ⟨rfl,hb2⟩
 obtain⟨hA,lb,h1,hn1,ht1,hvF,hlt,hs⟩:=zaa HX
 have h2:OwAttrs w2 _ l F:=OwAttrs.frm h1 (Frm.ofBelow hb2 []) (fun _ _=>by simp)
 have lb2:=lb.all hb2
 have hn2:=hn1.keep hb2
 have ht2:=ht1.keep hb2
 have hA2:=zad hA hb2
 clear HS HX hA lb h1 hn1 ht1 hb2 b9
 have b9:=lb2.cell 9
 have b10:=lb2.cell 10
 have b11:=lb2.cell 11
 cases ht:zbk l o.name with
 | true=>
  obtain⟨hpp,hpe⟩:=zfU ht
  cases hg:o.gone with
  | true=>
   rw [hg]at b11
   have hch:chgI l o=l.eraseIdx (posA l o.name):=by unfold chgI;rw [ht,hg,List.eraseIdx_eq_take_drop_succ];rfl
   have HD:=hide (zqq w2 _ l F (posA l o.name) h2 hN hpp (by omega))
   have hwr:IntKind.i64.wrap ((posA l o.name:Int)+1)=(posA l o.name:Int)+1:=by rw [IntKind.wrap_i64];omega
   have HY:=hide (And.intro hA2 (And.intro hvF (And.intro hch hlt)))
   clear h2 lb2 hn2 ht2 hA2 hvF hch hs ht hpe hlt
   generalize posA l o.name=pp at *
   go_wp2_with fail
   refine (zaa HD).mono ?_
   rintro e w3 ⟨u,F3,rfl,h3_,hN3,hM3,hf3⟩
   obtain⟨hA2,hvF,hch,hlt⟩:=zaa HY
   obtain⟨au,cu,rfl,_⟩:=Elems.shape (OwAttrs.rd h3_)
   have HE:=hide (zaa HQ (.returned (.slice au (chgI l o).length cu)) w3 ⟨au,cu,F3,rfl,by rw [hch];exact h3_,hN3,fun q hq=>.inl (hM3 q hq),(Frm.ofBelow hA2 F).trans (hf3.mono hvF)⟩)
   rw [hch]at HE
   clear h3_ hN3 hM3 hf3 hA2 hvF hch hlt HD HY HQ
   generalize (l.eraseIdx pp).length=len4 at HE ⊢
   go_wp2_with fail
   exact zaa HE
  | false=>
   rw [hg]at b11
   have hch:chgI l o=l.set (posA l o.name) (o.name,o.text):=by unfold chgI;rw [ht,hg];rfl
   obtain⟨gr,rfl,hgrF⟩:∃gr,av=some ⟨gr,0,none⟩∧gr∈F:=by
    obtain⟨Cs,Fs,e1,e2,e3,e4,e5⟩:=h2
    obtain⟨g,cap,e,_,_⟩:=e4.form (by omega)
    injection e with e _ _
    subst e
    exact⟨g,rfl,by rw [e5];exact List.mem_append_left _ (by simp [FB,Value.ownBlock])⟩
   have HC:=hide (zeH w2 _ o.text ht2 htl)
   have hp0:(0:Int)<=(posA l o.name:Int):=by omega
   have hp1:(posA l o.name:Int)<(l.length:Int):=by omega
   have HY:=hide (And.intro hA2 (And.intro hvF (And.intro hch (And.intro hlt h2))))
   clear h2 lb2 hn2 ht2 hA2 hvF hch hs ht hlt
   go_wp2_with fail
   refine (zaa HC).mono ?_
   rintro e w3 ⟨au,cu,rfl,hou,hb3⟩
   obtain⟨hA2,hvF,hch,hlt,h2⟩:=zaa HY
   have h3_:OwAttrs w3 _ l F:=OwAttrs.frm h2 (Frm.ofBelow hb3 []) (fun _ _=>by simp)
   have hl2:=OwAttrs.lt h2
   obtain⟨Cs,C,G,hR,hC,hGN,hGF,hgF,hgG,hcl⟩:=OwElems.one (R:=OwAttr) (fun h f d=>OwAttr.frm h f d) h3_ hN (posA l o.name) hpp
   obtain⟨x0,x1,eC,q0,q1,eG⟩:=hC
   have cc:=hR.cell 1 (by omega)
   rw [eC]at cc
   obtain⟨_,_,e1_,_⟩:=q1.byt.shape
   rw [e1_]at cc
   have cf:=hR.frozen (posA l o.name*2+1)
   have fs:=zab w3 gr (posA l o.name*2+1) (.slice au o.text.length cu)
   have hnew:∀q∈FB (.slice au o.text.length cu),w2.heap.size<=q:=fun q hq=>(hou.lt q (by simpa [FB]using hq)).1
   have hgl:=hl2 gr hgF
   obtain⟨F',g1,g2,g3⟩:=hcl _ [gr] [x0,.slice au o.text.length cu] (o.name,o.text) (FB x0++FB (.slice au o.text.length cu)) (by have:=hR.put 1 (by omega) (.slice au o.text.length cu);rw [eC]at this;exact this) fs (fun q _ _ hne=>by simpa using hne)
    ⟨x0,_,rfl,by rw [show (o.name,o.text).1=l[posA l o.name].1 from hpe.symm];exact q0.frm fs (fun q hq e=>by have e9:q=gr:=(by simpa using e);exact hgG (by rw [eG,<-e9];exact List.mem_append_left _ hq)),(hou.mono (Nat.zero_le _)).frm fs (fun q hq e=>by have e9:q=gr:=(by simpa using e);have:=hnew q hq;omega),rfl⟩
    (List.nodup_append.2 ⟨zaF _,zaF _,fun a ha b hb e=>by have:=hnew b hb;have:=hl2 a (hGF a (by rw [eG];exact List.mem_append_left _ ha));omega⟩)
    (fun q hq=>by
     rcases List.mem_append.1 hq with hq | hq
     ·exact .inl (by rw [eG];exact List.mem_append_left _ hq)
     ·exact .inr (fun e=>by have:=hnew q hq;have:=hl2 q e;omega))
   have hsz2:=hA2.size
   have HE:=hide (zaa HQ (.returned (.slice (some ⟨gr,0,none⟩) (chgI l o).length cv)) _ ⟨_,_,F',rfl,by rw [hch];exact g1,g2,fun q hq=>by
    rcases g3 q hq with e | e
    ·exact .inl e
    ·rcases List.mem_append.1 e with e | e
     ·exact .inl (hGF q (by rw [eG];exact List.mem_append_left _ e))
     ·have:=hnew q e;right;omega,((Frm.ofBelow hA2 F).trans (Frm.ofBelow hb3 F)).trans (fs.mono (fun q hq=>by have e9:q=gr:=(by simpa using hq);rw [e9];exact hgF))⟩)
   rw [hch,List.length_set]at HE
   clear h3_ h2 hR hcl q0 q1 g1 g2 g3 fs hou hb3 HC HY HQ hA2 hvF hch hlt hnew
   go_wp2_with fail
   exact zaa HE
 | false=>
  cases hg:o.gone with
  | true=>
   rw [hg]at b11
   have hch:chgI l o=l:=by unfold chgI;rw [ht,hg];rfl
   have HE:=hide (zaa HQ (.returned (.slice av (chgI l o).length cv)) w2 ⟨_,_,F,rfl,by rw [hch];exact h2,hN,fun q hq=>.inl hq,Frm.ofBelow hA2 _⟩)
   rw [hch]at HE
   clear h2 lb2 hn2 ht2 hA2 hvF hch hs ht hlt HQ
   go_wp2_with fail
   exact zaa HE
  | false=>
   rw [hg]at b11
   have hch:chgI l o=if l.length=4 then l else l.take (posA l o.name)++((o.name,o.text)::l.drop (posA l o.name)):=by unfold chgI;rw [ht,hg];rfl
   obtain⟨L5,hL5⟩:∃L5,L5=if l.length=4 then l else l.take (posA l o.name)++((o.name,o.text)::l.drop (posA l o.name)):=⟨_,rfl⟩
   rw [<-hL5]at hch
   have HL5:=hide hL5
   clear hL5
   have hd:Below w2.heap.size w2 w2.drew:=(Below.refl _ _).drew
   have hdA:=hA2.drew
   have HC1:=hide (zeH w2.drew _ o.name (hn2.keep hd) hnl)
   have d9:w2.drew.cell? ⟨w.heap.size,9,none⟩=some (.slice k2 o.name.length d2):=(lb2.all hd).cell 9
   have d10:w2.drew.cell? ⟨w.heap.size,10,none⟩=some (.slice k3 o.text.length d3):=(lb2.all hd).cell 10
   have HY:=hide (And.intro hA2 (And.intro hvF (And.intro hch (And.intro hlt (And.intro h2 (And.intro lb2 (And.intro ht2 (And.intro hs ht))))))))
   have hbF:w.heap.size∉F:=fun e=>by have:=hlt _ e;omega
   have HK:=hide (fun (W:Xe) (hW:Below w2.heap.size w2 W)=>lb2.all hW)
   clear h2 lb2 hn2 ht2 hA2 hvF hch hs ht hlt hdA
   go_wp2_with fail
   go_region_held3 (fun w'=>w'.cell? ⟨w.heap.size,9,none⟩=some (.slice k2 o.name.length d2)∧w'.cell? ⟨w.heap.size,10,none⟩=some (.slice k3 o.text.length d3))
    (first | exact⟨by assumption,by assumption⟩ | simp [*])
    (first
     | (go_at_call 123;refine (zaa HC1).mono ?_;clear HC1;rintro e w3 ⟨a5,c5,rfl,ho5,hb5⟩;have hK5:=zad hd hb5;have e9:=(zaa HK w3 hK5).cell 9;have e10:=(zaa HK w3 hK5).cell 10)
     | (go_at_call 123;refine (zeH w3 _ o.text ((zaa HY).2.2.2.2.2.2.1.keep hK5) htl).mono ?_;rintro e w4 ⟨a6,c6,rfl,ho6,hb6⟩;have hK6:=zad hK5 hb6;have e9':=(zaa HK w4 hK6).cell 9;have e10':=(zaa HK w4 hK6).cell 10)
     | (go_at_call 142;refine (zjN w4 av cv l F o.name o.text a5 a6 c5 c6 (FB (.slice a5 o.name.length c5)++FB (.slice a6 o.text.length c6)) (OwAttrs.frm (zaa HY).2.2.2.2.1 (Frm.ofBelow hK6 []) (fun _ _=>by simp)) hN (zaa HY).2.2.2.2.2.2.2.1 hl ⟨_,_,rfl,(ho5.keep hb6).mono (Nat.zero_le _),ho6.mono (Nat.zero_le _),rfl⟩ (zsx ho5 ho6) (zrD (a:=w2.heap.size) (OwAttrs.lt (zaa HY).2.2.2.2.1) ho5 ho6 hK5.size) (zaa HY).2.2.2.2.2.2.2.2 hnm).mono ?_;rintro e w5 ⟨u,F5,rfl,h5_,hN5,hM5,hf5⟩;rw [<-zaa HL5]at h5_;obtain⟨au,cu,rfl,_⟩:=Elems.shape (OwAttrs.rd h5_);have e9'':=((zaa HK w4 hK6).frm hf5 hbF).cell 9;have e10'':=((zaa HK w4 hK6).frm hf5 hbF).cell 10))
   all_goals
    have s2:=(zaa HY).1.size
    have s5:=hK5.size
    have HE:=hide (zaa HQ (.returned (.slice au (chgI l o).length cu)) w5 ⟨_,_,F5,rfl,by rw [(zaa HY).2.2.1];exact h5_,hN5,fun q hq=>by
     rcases hM5 q hq with e | e | e
     ·exact .inl e
     ·right
      rcases List.mem_append.1 e with e | e
      ·have:=(ho5.lt q (by simpa [FB]using e)).1
       have:w2.heap.size<=q:=this
       omega
      ·have:=(ho6.lt q (by simpa [FB]using e)).1
       omega
     ·right
      have:=hK6.size
      omega,((Frm.ofBelow (zaa HY).1 F).trans (Frm.ofBelow hK6 F)).trans hf5⟩)
    rw [(zaa HY).2.2.1]at HE
    clear h5_ hN5 hM5 hf5 ho5 ho6 HY HQ HK
    go_wp2_with fail
    exact zaa HE
end Go.Proofs.YtlpnibbdmkeklaaGreatDoor
namespace Go.Proofs.YtlpnibbdmkeklaaGreatDoor
open Go.RowKit Go.Maps
set_option linter.unusedVariables false
set_option maxRecDepth 100000
set_option maxHeartbeats 3200000 in
theorem zta {B:Nat} {w0 w:Xe} {g mb:Nat} {a:Xc} {c:Nat} {l:List PlV} {F:Xb} (h:FoS B w g mb a c l F) (hB0:w0.heap.size<=B) (hw0:Below w0.heap.size w0 w) (o:OpV) (k1 k2 k3:Xc) (d1 d2 d3:Nat)
  (h1:Ints w0 (.slice k1 o.key.length d1) o.key) (h2:Byt w0 (.slice k2 o.name.length d2) o.name) (h3:Byt w0 (.slice k3 o.text.length d3) o.text) (hs1:o.key.length<=1000000) (hs2:o.name.length<=1000000) (hs3:o.text.length<=1000000) (ho:opB o=true) (hk:o.kind=0) (hnew:posP l o.at'=none) (hlen:l.length+1<=100000) :
  Calls Tryz.prog 88 #[.pointer (some ⟨g,0,none⟩),.agg #[.int .i64 o.kind,.int .i64 o.atN,.int .i64 o.atR,.int .i64 o.nodeN,.int .i64 o.nodeR,.int .i64 o.parN,.int .i64 o.parR,.slice k1 o.key.length d1,.int .i64 o.elem,.slice k2 o.name.length d2,.slice k3 o.text.length d3,.bool o.gone]] w fun e w'=>e=.returned (.tuple #[])∧FoT B w g mb (doV l o) F w':=by
 refine zaf ?_
 intro Q HQ
 have hA:Below w.heap.size w (w.alloc (.cells #[.int .i64 o.kind,.int .i64 o.atN,.int .i64 o.atR,.int .i64 o.nodeN,.int .i64 o.nodeR,.int .i64 o.parN,.int .i64 o.parR,.slice k1 o.key.length d1,.int .i64 o.elem,.slice k2 o.name.length d2,.slice k3 o.text.length d3,.bool o.gone] 83)):=(Below.refl _ _).alloc (Nat.le_refl _) _
 have lb:=Loc.made w #[.int .i64 o.kind,.int .i64 o.atN,.int .i64 o.atR,.int .i64 o.nodeN,.int .i64 o.nodeR,.int .i64 o.parN,.int .i64 o.parR,.slice k1 o.key.length d1,.int .i64 o.elem,.slice k2 o.name.length d2,.slice k3 o.text.length d3,.bool o.gone] 83
 have hq1:=h.keep hA
 have b0:=lb.cell 0
 obtain⟨_,hat,hpar,hel⟩:=znY ho hk
 have hdo:doV l o=if zae l o.par=true then l++[newP o] else l:=by unfold doV;rw [if_pos hk]
 have HD:=hide (zor hq1 hB0 (hw0.trans (hA.mono hw0.size)) o k1 k2 k3 d1 d2 d3 h1 h2 h3 hs1 hs2 hs3 hat hpar hel hnew hlen)
 rw [hk]at b0
 have b1:=lb.cell 1
 have b2:=lb.cell 2
 have b3:=lb.cell 3
 have b4:=lb.cell 4
 have b5:=lb.cell 5
 have b6:=lb.cell 6
 have b7:=lb.cell 7
 have b8:=lb.cell 8
 have b9:=lb.cell 9
 have b10:=lb.cell 10
 have b11:=lb.cell 11
 have HX:=hide (And.intro hA hdo)
 clear h hq1 hA lb hw0 h1 h2 h3 hdo ho hat hpar hnew
 go_enter Tryz.func88,Tryz.ntmps88
 rw [hk]at HD HX
 go_wp2_with fail
 refine (zaa HD).mono ?_
 rintro e w2 ⟨rfl,a',c',F',hs,hf,hF⟩
 have hsz:=(zaa HX).1.size
 have HE:=hide (zaa HQ (.returned (.tuple #[])) w2 ⟨rfl,a',c',F',by rw [(zaa HX).2];exact hs,(Frm.ofBelow (zaa HX).1 _).trans hf,fun q hq=>(hF q hq).imp id (fun h=>by omega)⟩)
 clear HQ HD hs hf hF HX
 go_wp2_with fail
 go_end0
 exact zaa HE
theorem zit {B:Nat} {w0 w:Xe} {g mb:Nat} {a:Xc} {c:Nat} {l:List PlV} {F:Xb} (h:FoS B w g mb a c l F) (hB0:w0.heap.size<=B) (hw0:Below w0.heap.size w0 w) (o:OpV) (k1 k2 k3:Xc) (d1 d2 d3:Nat)
  (h1:Ints w0 (.slice k1 o.key.length d1) o.key) (h2:Byt w0 (.slice k2 o.name.length d2) o.name) (h3:Byt w0 (.slice k3 o.text.length d3) o.text) (hs1:o.key.length<=1000000) (hs2:o.name.length<=1000000) (hs3:o.text.length<=1000000) (ho:opB o=true) (hk:o.kind=1∨o.kind=2∨o.kind=3) (hno:okI o.node) (hp:posP l o.node=none) :
  Calls Tryz.prog 88 #[.pointer (some ⟨g,0,none⟩),.agg #[.int .i64 o.kind,.int .i64 o.atN,.int .i64 o.atR,.int .i64 o.nodeN,.int .i64 o.nodeR,.int .i64 o.parN,.int .i64 o.parR,.slice k1 o.key.length d1,.int .i64 o.elem,.slice k2 o.name.length d2,.slice k3 o.text.length d3,.bool o.gone]] w fun e w'=>e=.returned (.tuple #[])∧FoT B w g mb (doV l o) F w':=by
 refine zaf ?_
 intro Q HQ
 have hA:Below w.heap.size w (w.alloc (.cells #[.int .i64 o.kind,.int .i64 o.atN,.int .i64 o.atR,.int .i64 o.nodeN,.int .i64 o.nodeR,.int .i64 o.parN,.int .i64 o.parR,.slice k1 o.key.length d1,.int .i64 o.elem,.slice k2 o.name.length d2,.slice k3 o.text.length d3,.bool o.gone] 83)):=(Below.refl _ _).alloc (Nat.le_refl _) _
 have lb:=Loc.made w #[.int .i64 o.kind,.int .i64 o.atN,.int .i64 o.atR,.int .i64 o.nodeN,.int .i64 o.nodeR,.int .i64 o.parN,.int .i64 o.parR,.slice k1 o.key.length d1,.int .i64 o.elem,.slice k2 o.name.length d2,.slice k3 o.text.length d3,.bool o.gone] 83
 have hq1:=h.keep hA
 have b0:=lb.cell 0
 have b3:=lb.cell 3
 have b4:=lb.cell 4
 have HF:=hide (zco hq1 o.node hno)
 unfold OpV.node zaq at HF
 have hgl:=h.set.lt
 have hml:=h.map.lt
 have hFl:=OwPlsM.lt h.row
 have hdo:doV l o=l:=zqh (by omega) hp
 have hk':(o.kind == 0)=false:=by simp;omega
 have hk0:¬ o.kind=0:=by omega
 have HX:=hide (And.intro hA (And.intro hdo (And.intro hq1 hp)))
 clear h hq1 hA lb hw0 h1 h2 h3 hdo ho hno hp hk hk'
 go_enter Tryz.func88,Tryz.ntmps88
 go_wp2_with fail
 refine (zaa HF).mono ?_
 rintro e w2 ⟨hn,_,hb2⟩
 obtain⟨hA,hdo,hq1,hp⟩:=zaa HX
 obtain rfl:=hn hp
 have HE:=hide (zaa HQ (.returned (.tuple #[])) w2 ⟨rfl,a,c,F,by rw [hdo];exact hq1.keep hb2,Frm.ofBelow (zad hA hb2) _,fun q hq=>.inl hq⟩)
 clear HQ HF hn hb2 HX hA hdo hq1 hp
 go_wp2_with fail
 go_end0
 exact zaa HE
set_option maxHeartbeats 6400000 in
theorem zro {B:Nat} {w0 w:Xe} {g mb:Nat} {a:Xc} {c:Nat} {l:List PlV} {F:Xb} (h:FoS B w g mb a c l F) (hB0:w0.heap.size<=B) (hw0:Below w0.heap.size w0 w) (o:OpV) (k1 k2 k3:Xc) (d1 d2 d3:Nat)
  (h1:Ints w0 (.slice k1 o.key.length d1) o.key) (h2:Byt w0 (.slice k2 o.name.length d2) o.name) (h3:Byt w0 (.slice k3 o.text.length d3) o.text) (hs1:o.key.length<=1000000) (hs2:o.name.length<=1000000) (hs3:o.text.length<=1000000) (ho:opB o=true) (hk:o.kind=2) (hno:okI o.node) (hK2:Kd2 l) (k:Nat) (hp:posP l o.node=some k) :
  Calls Tryz.prog 88 #[.pointer (some ⟨g,0,none⟩),.agg #[.int .i64 o.kind,.int .i64 o.atN,.int .i64 o.atR,.int .i64 o.nodeN,.int .i64 o.nodeR,.int .i64 o.parN,.int .i64 o.parR,.slice k1 o.key.length d1,.int .i64 o.elem,.slice k2 o.name.length d2,.slice k3 o.text.length d3,.bool o.gone]] w fun e w'=>e=.returned (.tuple #[])∧FoT B w g mb (doV l o) F w':=by
 refine zaf ?_
 intro Q HQ
 have hA:Below w.heap.size w (w.alloc (.cells #[.int .i64 o.kind,.int .i64 o.atN,.int .i64 o.atR,.int .i64 o.nodeN,.int .i64 o.nodeR,.int .i64 o.parN,.int .i64 o.parR,.slice k1 o.key.length d1,.int .i64 o.elem,.slice k2 o.name.length d2,.slice k3 o.text.length d3,.bool o.gone] 83)):=(Below.refl _ _).alloc (Nat.le_refl _) _
 have lb:=Loc.made w #[.int .i64 o.kind,.int .i64 o.atN,.int .i64 o.atR,.int .i64 o.nodeN,.int .i64 o.nodeR,.int .i64 o.parN,.int .i64 o.parR,.slice k1 o.key.length d1,.int .i64 o.elem,.slice k2 o.name.length d2,.slice k3 o.text.length d3,.bool o.gone] 83
 have hq1:=h.keep hA
 have b0:=lb.cell 0
 have b3:=lb.cell 3
 have b4:=lb.cell 4
 have HF:=hide (zco hq1 o.node hno)
 unfold OpV.node zaq at HF
 have hgl:=h.set.lt
 have hml:=h.map.lt
 have hFl:=OwPlsM.lt h.row
 have hkl:k<l.length:=(posP_some.1 hp).1
 have hdo:=zhu (o:=o) (by omega) hp hkl
 have hk0:¬ o.kind=0:=by omega
 have HX:=hide (And.intro hA (And.intro hdo (And.intro hq1 (And.intro hp (And.intro lb (And.intro (hw0.trans (hA.mono hw0.size)) (And.intro h1 (And.intro h2 h3))))))))
 have HKK:=hide hk
 clear hk
 clear h hq1 hA lb hw0 h1 h2 h3 hdo ho hno hp
 go_enter Tryz.func88,Tryz.ntmps88
 go_wp2_with fail
 refine (zaa HF).mono ?_
 rintro e w2 ⟨_,hs2_,hb2⟩
 obtain⟨hA,hdo,hq1,hp,lb,hw0,h1,h2,h3⟩:=zaa HX
 obtain⟨gr,rfl,rfl⟩:=hs2_ k hp
 have hs:=hq1.keep hb2
 have lb2:=lb.all hb2
 have hw2:=hw0.trans (hb2.mono hw0.size)
 have hA2:=zad hA hb2
 have hB2_:B<=w2.heap.size:=by have:=hs.geg;have:=hs.set.lt;omega
 have hge:∀q∈g::mb::F,B<=q:=fun q hq=>by rcases List.mem_cons.1 hq with rfl | hq;(exact hs.geg);(rcases List.mem_cons.1 hq with rfl | hq;(exact hs.gem);(exact hs.ge q hq))
 clear HX HF hs2_ hb2 hA hq1 lb hw0 b0 b3 b4
 have b0:=lb2.cell 0
 have hk:=zaa HKK
 rw [hk]at b0
 obtain⟨Cs,C,G,hR,hC,_,_,_,_,_⟩:=hs.upd hkl
 have hc5:w2.cell? ⟨gr,k*9+5,none⟩=some (.int .i64 l[k].kind):=by
  obtain⟨_,_,_,_,_,eC,_⟩:=hC
  have:=hR.cell 5 (by omega)
  rw [eC]at this
  exact this
 clear hR hC
 by_cases h1k:l[k].kind=1
 ·have h2k:2<=k:=by
   rcases Nat.lt_or_ge k 2 with e | e
   ·have:=hK2 k l[k] e (by simp [hkl]);omega
   ·exact e
  have hdo2:doV l o=l.set k (zfp o l[k]):=by rw [hdo,if_neg (by omega),if_pos hk,if_pos ⟨h2k,h1k⟩]
  have HC:=hide (zeH w2 _ o.text (h3.keep hw2) (by omega))
  have b10:=lb2.cell 10
  have HY:=hide (And.intro hs (And.intro hA2 hdo2))
  rw [h1k]at hc5
  clear hs hA2 hdo2 hdo hw2 lb2 h1 h2 h3 h1k
  go_wp2_with fail
  refine (zaa HC).mono ?_
  rintro e w3 ⟨a5,c5,rfl,ho5,hb3⟩
  obtain⟨hs,hA2,hdo2⟩:=zaa HY
  have hs3_:=hs.keep hb3
  obtain⟨Cs,C,G,hR,hC,hGN,hGF,hgF,hgG,hcl⟩:=hs3_.upd hkl
  obtain⟨K,N,T,A,Fa,eC,q1,q2,q3,q4,eG⟩:=hC
  have cc:=hR.cell 7 (by omega)
  rw [eC]at cc
  obtain⟨_,_,eT,_⟩:=q3.byt.shape
  rw [eT]at cc
  have cf:=hR.frozen (k*9+7)
  have fs:=zab w3 gr (k*9+7) (.slice a5 o.text.length c5)
  have hlt3:=OwPlsM.lt hs.row
  have hnew:∀q∈FB (.slice a5 o.text.length c5),w2.heap.size<=q:=fun q hq=>(ho5.lt q (by simpa [FB]using hq)).1
  have hgl3:=hlt3 gr hgF
  have hng:∀q∈G,q∉[gr]:=fun q hq e=>by have e9:q=gr:=(by simpa using e);exact hgG (by rw [<-e9];exact hq)
  obtain⟨F',g1,g2⟩:=hcl _ [gr] _ (zfp o l[k]) (FB K++FB N++FB (.slice a5 o.text.length c5)++Fa) (hR.put 7 (by omega) (.slice a5 o.text.length c5)) fs (fun q hq=>.inl (by simpa using hq))
   (by rw [eC];exact⟨K,N,_,A,Fa,rfl,⟨q1.1,zap q1.2 fs (fun q hq=>hng q (by rw [eG];simp [hq]))⟩,q2.frm fs (fun q hq=>hng q (by rw [eG];simp [hq])),(ho5.mono (Nat.zero_le _)).frm fs (fun q hq e=>by have e9:q=gr:=(by simpa using e);have:=hnew q hq;omega),OwAttrs.frm q4 fs (fun q hq=>hng q (by rw [eG];simp [hq])),rfl⟩)
   (zmx (by rw [<-eG];exact hGN) (zaF _) (fun q hq e=>by have:=hnew q hq;have:=hlt3 q (hGF q (by rw [eG];exact e));omega))
   (fun q hq=>by
    rcases List.mem_append.1 hq with hq | hq
    ·rcases List.mem_append.1 hq with hq | hq
     ·exact .inl (by rw [eG];exact List.mem_append_left _ (List.mem_append_left _ hq))
     ·exact .inr ⟨fun e=>by have:=hnew q hq;have:=hlt3 q e;omega,by have:=hnew q hq;omega⟩
    ·exact .inl (by rw [eG];exact List.mem_append_right _ hq))
   rfl (hs.ids l[k] (List.getElem_mem hkl)).2
  have hsz2:=hA2.size
  have HE:=hide (zaa HQ (.returned (.tuple #[])) _ ⟨rfl,_,_,F',by rw [hdo2];exact g1,((Frm.ofBelow hA2 _).trans (Frm.ofBelow hb3 _)).trans (fs.mono (fun q hq=>by have e9:q=gr:=(by simpa using hq);rw [e9];simp [hgF])),fun q hq=>by
   rcases g2 q hq with e | e
   ·exact .inl e
   ·rcases List.mem_append.1 e with e | e
    ·rcases List.mem_append.1 e with e | e
     ·exact .inl (hGF q (by rw [eG];exact List.mem_append_left _ (List.mem_append_left _ e)))
     ·have:=hnew q e;right;omega
    ·exact .inl (hGF q (by rw [eG];exact List.mem_append_right _ e))⟩)
  clear HQ HC HY hs hs3_ hA2 hdo2 hR hcl q1 q2 q3 q4 g1 g2 fs ho5 hb3 hnew hng hGN hGF
  go_wp2_with fail
  go_end0
  exact zaa HE
 ·have hdo2:doV l o=l:=by rw [hdo,if_neg (by omega),if_pos hk,if_neg (fun e=>h1k e.2)]
  have HE:=hide (zaa HQ (.returned (.tuple #[])) w2 ⟨rfl,_,_,F,by rw [hdo2];exact hs,Frm.ofBelow hA2 _,fun q hq=>.inl hq⟩)
  clear hs hA2 hdo2 hdo hw2 lb2 h1 h2 h3 HQ
  go_wp2_with fail
  go_end0
  exact zaa HE
set_option maxHeartbeats 12800000 in
theorem zrQ {B:Nat} {w0 w:Xe} {g mb:Nat} {a:Xc} {c:Nat} {l:List PlV} {F:Xb} (h:FoS B w g mb a c l F) (hB0:w0.heap.size<=B) (hw0:Below w0.heap.size w0 w) (o:OpV) (k1 k2 k3:Xc) (d1 d2 d3:Nat)
  (h1:Ints w0 (.slice k1 o.key.length d1) o.key) (h2:Byt w0 (.slice k2 o.name.length d2) o.name) (h3:Byt w0 (.slice k3 o.text.length d3) o.text) (hs1:o.key.length<=1000000) (hs2:o.name.length<=1000000) (hs3:o.text.length<=1000000) (ho:opB o=true) (hk:o.kind=3) (hno:okI o.node) (hnm:zah o.name) (hFr:Fr l) (hAt:AtI l) (hG:Glo w) (k:Nat) (hp:posP l o.node=some k) :
  Calls Tryz.prog 88 #[.pointer (some ⟨g,0,none⟩),.agg #[.int .i64 o.kind,.int .i64 o.atN,.int .i64 o.atR,.int .i64 o.nodeN,.int .i64 o.nodeR,.int .i64 o.parN,.int .i64 o.parR,.slice k1 o.key.length d1,.int .i64 o.elem,.slice k2 o.name.length d2,.slice k3 o.text.length d3,.bool o.gone]] w fun e w'=>e=.returned (.tuple #[])∧FoT B w g mb (doV l o) F w':=by
 refine zaf ?_
 intro Q HQ
 have hA:Below w.heap.size w (w.alloc (.cells #[.int .i64 o.kind,.int .i64 o.atN,.int .i64 o.atR,.int .i64 o.nodeN,.int .i64 o.nodeR,.int .i64 o.parN,.int .i64 o.parR,.slice k1 o.key.length d1,.int .i64 o.elem,.slice k2 o.name.length d2,.slice k3 o.text.length d3,.bool o.gone] 83)):=(Below.refl _ _).alloc (Nat.le_refl _) _
 have lb:=Loc.made w #[.int .i64 o.kind,.int .i64 o.atN,.int .i64 o.atR,.int .i64 o.nodeN,.int .i64 o.nodeR,.int .i64 o.parN,.int .i64 o.parR,.slice k1 o.key.length d1,.int .i64 o.elem,.slice k2 o.name.length d2,.slice k3 o.text.length d3,.bool o.gone] 83
 have hq1:=h.keep hA
 have b0:=lb.cell 0
 have b3:=lb.cell 3
 have b4:=lb.cell 4
 have HF:=hide (zco hq1 o.node hno)
 unfold OpV.node zaq at HF
 have hgl:=h.set.lt
 have hml:=h.map.lt
 have hFl:=OwPlsM.lt h.row
 have hkl:k<l.length:=(posP_some.1 hp).1
 have hdo:=zhu (o:=o) (by omega) hp hkl
 have hk0:¬ o.kind=0:=by omega
 have HX:=hide (And.intro hA (And.intro hdo (And.intro hq1 (And.intro hp (And.intro lb (And.intro (hw0.trans (hA.mono hw0.size)) (And.intro h1 (And.intro h2 h3))))))))
 have HGL:=hide hG
 clear hG
 have HKK:=hide hk
 clear hk
 clear h hq1 hA lb hw0 h1 h2 h3 hdo ho hno hp
 go_enter Tryz.func88,Tryz.ntmps88
 go_wp2_with fail
 refine (zaa HF).mono ?_
 rintro e w2 ⟨_,hs2_,hb2⟩
 obtain⟨hA,hdo,hq1,hp,lb,hw0,h1,h2,h3⟩:=zaa HX
 obtain⟨gr,rfl,rfl⟩:=hs2_ k hp
 have hs:=hq1.keep hb2
 have lb2:=lb.all hb2
 have hw2:=hw0.trans (hb2.mono hw0.size)
 have hA2:=zad hA hb2
 have hB2_:B<=w2.heap.size:=by have:=hs.geg;have:=hs.set.lt;omega
 have hge:∀q∈g::mb::F,B<=q:=fun q hq=>by rcases List.mem_cons.1 hq with rfl | hq;(exact hs.geg);(rcases List.mem_cons.1 hq with rfl | hq;(exact hs.gem);(exact hs.ge q hq))
 clear HX HF hs2_ hb2 hA hq1 lb hw0 b0 b3 b4
 have b0:=lb2.cell 0
 have hk:=zaa HKK
 rw [hk]at b0
 obtain⟨y0,y1,y2,y3⟩:=(zaa HGL).keep hA2
 have htr:l[k].id=zag↔k=1:=by
  have hgk:l[k]? = some l[k]:=by simp [hkl]
  obtain⟨p1,hp1⟩:∃p1,l[1]? = some p1:=⟨l[1]'(by have:=hFr.two;omega),by simp [show 1<l.length by have:=hFr.two;omega]⟩
  constructor
  ·intro e
   have:=zbr hFr.uniq hgk
   rw [e,<-hFr.trash p1 hp1,zbr hFr.uniq hp1]at this
   exact (Option.some.inj this).symm
  ·intro e
   subst e
   exact hFr.trash _ hgk
 obtain⟨Cs,C,G,hR,hC,_,_,_,_,_⟩:=hs.upd hkl
 obtain⟨_,_,_,_,_,eC,_⟩:=hC
 have c0:w2.cell? ⟨gr,k*9,none⟩=_:=hR.cell 0 (by omega)
 have c1:=hR.cell 1 (by omega)
 have c5:=hR.cell 5 (by omega)
 rw [eC]at c0 c1 c5
 clear hR eC
 by_cases hz:l[k].kind=0
 ·have w5_:(l[k].kind == 0)=true:=by simpa using hz
  by_cases htk:k=1
  ·have hid:=htr.2 htk
   have hdo2:doV l o=l:=by rw [hdo,if_neg (by omega),if_neg (by omega),if_neg (fun e=>e.1 htk)]
   have w1_:(l[k].idN == 0)=true:=by have:=(Prod.mk.inj hid).1;simpa using this
   have w2_:(l[k].idR == 1)=true:=by have:=(Prod.mk.inj hid).2;simpa using this
   have HE:=hide (fun n_=>zaa HQ (.returned (.tuple #[])) (w2.drewN n_) ⟨rfl,_,_,F,by rw [hdo2];exact hs.keep (below_drewN (Below.refl _ _) _),Frm.ofBelow (zad hA2 (below_drewN (Below.refl _ _) _)) _,fun q hq=>.inl hq⟩)
   clear hs hA2 hdo2 hdo hw2 lb2 h1 h2 h3 HQ hid htk hz htr
   go_wp2_with fail
   go_quiet (fail)
   go_wp2_with fail
   go_end0
   exact zaa HE _
  ·have hdo2:doV l o=l.set k (zbs o l[k]):=by rw [hdo,if_neg (by omega),if_neg (by omega),if_pos ⟨htk,hz⟩]
   have hid:l[k].id≠zag:=fun e=>htk (htr.1 e)
   have HY:=hide (And.intro hs (And.intro hA2 (And.intro hdo2 (And.intro lb2 (And.intro hw2 (And.intro h2 h3))))))
   by_cases e1:l[k].idN=0
   ·have e2:¬ l[k].idR=1:=fun e=>hid (Prod.ext e1 e)
    have w1_:(l[k].idN == 0)=true:=by simpa using e1
    have w2_:(l[k].idR == 1)=false:=by simpa using e2
    clear hs hA2 hdo2 hdo hw2 lb2 h1 h2 h3 hid htk hz htr e1 e2
    go_wp2_with fail
    go_quiet (fail)
    go_upto_region 14 with fail
    generalize hWq:w2.drewN _=wq
    obtain⟨hs,hA2,hdo2,lb2,hw2,hn2,ht2⟩:=zaa HY
    have hbq:Below w2.heap.size w2 wq:=by rw [<-hWq];exact below_drewN (Below.refl _ _) _
    clear hWq
    have hbd:=hbq.drew
    have hs5:=hs.keep hbd
    have lb5:=lb2.all hbd
    have hw5:=hw2.trans (hbd.mono hw2.size)
    obtain⟨Cs,C,G,hR,hC,hGN,hGF,hgF,hgG,hcl⟩:=hs5.upd hkl
    obtain⟨K,N,T,A,Fa,eC,q1,q2,q3,q4,eG⟩:=hC
    obtain⟨a1,ca,rfl,_⟩:=Elems.shape (OwAttrs.rd q4)
    have c8:=hR.cell 8 (by omega)
    rw [eC]at c8
    have hFaG:∀q∈Fa,q∈G:=fun q hq=>by rw [eG];exact List.mem_append_right _ hq
    have hgFa:gr∉Fa:=fun e=>hgG (hFaG gr e)
    have hFaN:Fa.Nodup:=by rw [eG]at hGN;exact (List.nodup_append.1 hGN).2.1
    have hat:=hAt l[k] (List.getElem_mem hkl)
    have HC:=hide (zmm wq.drew a1 ca l[k].attrs Fa o k1 k2 k3 d1 d2 d3 q4 hFaN hat.1 hat.2 (hn2.keep hw5) (ht2.keep hw5) (by omega) (by omega) hnm)
    have e0:=lb5.cell 0
    have e1:=lb5.cell 1
    have e2:=lb5.cell 2
    have e3:=lb5.cell 3
    have e4:=lb5.cell 4
    have e5:=lb5.cell 5
    have e6:=lb5.cell 6
    have e7:=lb5.cell 7
    have e8:=lb5.cell 8
    have e9:=lb5.cell 9
    have e10:=lb5.cell 10
    have e11:=lb5.cell 11
    have HR:=hide hR
    have HCL:=hide hcl
    have HZ:=hide (And.intro hs5 (And.intro hA2 (And.intro hdo2 (And.intro hbd (And.intro q1 (And.intro q2 (And.intro q3 (And.intro eG (And.intro hGN hGF)))))))))
    have hlen3:o.kind=3:=hk
    rw [hk]at HC e0
    clear hs hA2 hdo2 lb2 hw2 hn2 ht2 hs5 lb5 hw5 hR hcl q1 q2 q3 q4 eG hGN hGF hbd hbq HY
    go_region_with (go_at_call 124;refine (zaa HC).mono ?_;rintro e w6 ⟨a6,c6,F6,rfl,h6,hN6,hM6,hf6⟩;have hR6:=(zaa HR).frm hf6 hgFa;have cc:=hR6.cell 8 (by omega);rw [eC]at cc;have cf:=hR6.frozen (k*9+8);have HR6:=hide hR6;clear hR6)
    all_goals
     obtain⟨hs5,hA2,hdo2,hbd,q1,q2,q3,eG,hGN,hGF⟩:=zaa HZ
     have fs:=zab w6 gr (k*9+8) (.slice a6 (chgI l[k].attrs o).length c6)
     have hlt5:=OwPlsM.lt hs5.row
     have hFF:Frm wq.drew _ (Fa++[gr]):=(hf6.mono (fun q hq=>List.mem_append_left _ hq)).trans (fs.mono (S':=Fa++[gr]) (fun q hq=>List.mem_append_right _ hq))
     have hnG:∀q∈FB K++FB N++FB T,q∉Fa++[gr]:=fun q hq e=>by
      rcases List.mem_append.1 e with e | e
      ·rw [eG]at hGN
       exact (List.nodup_append.1 hGN).2.2 q hq q e rfl
      ·have e9_:q=gr:=by simpa using e
       exact hgG (by rw [eG,<-e9_];exact List.mem_append_left _ hq)
     have hgl5:=hlt5 gr hgF
     have hB5:B<=wq.drew.heap.size:=by have:=hs5.geg;have:=hs5.set.lt;omega
     have hF6g:gr∉F6:=fun e=>by rcases hM6 gr e with e | e;(exact hgFa e);omega
     have hat':zbg l[k].attrs o=chgI l[k].attrs o:=zhz (hAt l[k] (List.getElem_mem hkl)).1 (hAt l[k] (List.getElem_mem hkl)).2 o
     obtain⟨F',g1,g2⟩:=(zaa HCL) _ (Fa++[gr]) _ (zbs o l[k]) (FB K++FB N++FB T++F6) ((zaa HR6).put 8 (by omega) (.slice a6 (chgI l[k].attrs o).length c6)) hFF (fun q hq=>by rcases List.mem_append.1 hq with e | e;(exact .inr (hFaG q e));(exact .inl (by simpa using e)))
      (by
       rw [eC]
       refine⟨K,N,T,_,F6,rfl,⟨q1.1,zap q1.2 hFF (fun q hq=>hnG q (by simp [hq]))⟩,q2.frm hFF (fun q hq=>hnG q (by simp [hq])),q3.frm hFF (fun q hq=>hnG q (by simp [hq])),?_,rfl⟩
       show OwAttrs _ _ (zbg l[k].attrs o) F6
       rw [hat']
       exact OwAttrs.frm h6 fs (fun q hq e=>by have e9_:q=gr:=(by simpa using e);exact hF6g (by rw [<-e9_];exact hq)))
      (by
       rw [eG]at hGN
       refine List.nodup_append.2 ⟨(List.nodup_append.1 hGN).1,hN6,fun q hq q' hq' e=> ?_⟩
       rcases hM6 q' hq' with e' | e'
       ·exact (List.nodup_append.1 hGN).2.2 q hq q' e' e
       ·have:=hlt5 q (hGF q (by rw [eG];exact List.mem_append_left _ hq));omega)
      (fun q hq=>by
       rcases List.mem_append.1 hq with hq | hq
       ·exact .inl (by rw [eG];exact List.mem_append_left _ hq)
       ·rcases hM6 q hq with e | e
        ·exact .inl (hFaG q e)
        ·exact .inr ⟨fun e'=>by have:=hlt5 q e';omega,by omega⟩)
      rfl (hs5.ids l[k] (List.getElem_mem hkl)).2
     have hsz2:=hA2.size
     have hsz5:=hbd.size
     have HE:=hide (zaa HQ (.returned (.tuple #[])) _ ⟨rfl,_,_,F',by rw [hdo2];exact g1,((Frm.ofBelow hA2 _).trans (Frm.ofBelow hbd _)).trans (hFF.mono (fun q hq=>by rcases List.mem_append.1 hq with e | e;(simp [hGF q (hFaG q e)]);(have e9_:q=gr:=(by simpa using e);rw [e9_];simp [hgF]))),fun q hq=>by
      rcases g2 q hq with e | e
      ·exact .inl e
      ·rcases List.mem_append.1 e with e | e
       ·exact .inl (hGF q (by rw [eG];exact List.mem_append_left _ e))
       ·rcases hM6 q e with e | e
        ·exact .inl (hGF q (hFaG q e))
        ·right;omega⟩)
     clear HQ HC HZ HR HCL HR6 hs5 hA2 hdo2 q1 q2 q3 g1 g2 fs hFF hnG h6 hN6 hM6 hf6
     go_wp2_with fail
     go_end0
     exact zaa HE
   ·have w1_:(l[k].idN == 0)=false:=by simpa using e1
    clear hs hA2 hdo2 hdo hw2 lb2 h1 h2 h3 hid htk hz htr e1
    go_wp2_with fail
    go_quiet (fail)
    go_upto_region 14 with fail
    generalize hWq:w2.drewN _=wq
    obtain⟨hs,hA2,hdo2,lb2,hw2,hn2,ht2⟩:=zaa HY
    have hbq:Below w2.heap.size w2 wq:=by rw [<-hWq];exact below_drewN (Below.refl _ _) _
    clear hWq
    have hbd:=hbq.drew
    have hs5:=hs.keep hbd
    have lb5:=lb2.all hbd
    have hw5:=hw2.trans (hbd.mono hw2.size)
    obtain⟨Cs,C,G,hR,hC,hGN,hGF,hgF,hgG,hcl⟩:=hs5.upd hkl
    obtain⟨K,N,T,A,Fa,eC,q1,q2,q3,q4,eG⟩:=hC
    obtain⟨a1,ca,rfl,_⟩:=Elems.shape (OwAttrs.rd q4)
    have c8:=hR.cell 8 (by omega)
    rw [eC]at c8
    have hFaG:∀q∈Fa,q∈G:=fun q hq=>by rw [eG];exact List.mem_append_right _ hq
    have hgFa:gr∉Fa:=fun e=>hgG (hFaG gr e)
    have hFaN:Fa.Nodup:=by rw [eG]at hGN;exact (List.nodup_append.1 hGN).2.1
    have hat:=hAt l[k] (List.getElem_mem hkl)
    have HC:=hide (zmm wq.drew a1 ca l[k].attrs Fa o k1 k2 k3 d1 d2 d3 q4 hFaN hat.1 hat.2 (hn2.keep hw5) (ht2.keep hw5) (by omega) (by omega) hnm)
    have e0:=lb5.cell 0
    have e1:=lb5.cell 1
    have e2:=lb5.cell 2
    have e3:=lb5.cell 3
    have e4:=lb5.cell 4
    have e5:=lb5.cell 5
    have e6:=lb5.cell 6
    have e7:=lb5.cell 7
    have e8:=lb5.cell 8
    have e9:=lb5.cell 9
    have e10:=lb5.cell 10
    have e11:=lb5.cell 11
    have HR:=hide hR
    have HCL:=hide hcl
    have HZ:=hide (And.intro hs5 (And.intro hA2 (And.intro hdo2 (And.intro hbd (And.intro q1 (And.intro q2 (And.intro q3 (And.intro eG (And.intro hGN hGF)))))))))
    have hlen3:o.kind=3:=hk
    rw [hk]at HC e0
    clear hs hA2 hdo2 lb2 hw2 hn2 ht2 hs5 lb5 hw5 hR hcl q1 q2 q3 q4 eG hGN hGF hbd hbq HY
    go_region_with (go_at_call 124;refine (zaa HC).mono ?_;rintro e w6 ⟨a6,c6,F6,rfl,h6,hN6,hM6,hf6⟩;have hR6:=(zaa HR).frm hf6 hgFa;have cc:=hR6.cell 8 (by omega);rw [eC]at cc;have cf:=hR6.frozen (k*9+8);have HR6:=hide hR6;clear hR6)
    all_goals
     obtain⟨hs5,hA2,hdo2,hbd,q1,q2,q3,eG,hGN,hGF⟩:=zaa HZ
     have fs:=zab w6 gr (k*9+8) (.slice a6 (chgI l[k].attrs o).length c6)
     have hlt5:=OwPlsM.lt hs5.row
     have hFF:Frm wq.drew _ (Fa++[gr]):=(hf6.mono (fun q hq=>List.mem_append_left _ hq)).trans (fs.mono (S':=Fa++[gr]) (fun q hq=>List.mem_append_right _ hq))
     have hnG:∀q∈FB K++FB N++FB T,q∉Fa++[gr]:=fun q hq e=>by
      rcases List.mem_append.1 e with e | e
      ·rw [eG]at hGN
       exact (List.nodup_append.1 hGN).2.2 q hq q e rfl
      ·have e9_:q=gr:=by simpa using e
       exact hgG (by rw [eG,<-e9_];exact List.mem_append_left _ hq)
     have hgl5:=hlt5 gr hgF
     have hB5:B<=wq.drew.heap.size:=by have:=hs5.geg;have:=hs5.set.lt;omega
     have hF6g:gr∉F6:=fun e=>by rcases hM6 gr e with e | e;(exact hgFa e);omega
     have hat':zbg l[k].attrs o=chgI l[k].attrs o:=zhz (hAt l[k] (List.getElem_mem hkl)).1 (hAt l[k] (List.getElem_mem hkl)).2 o
     obtain⟨F',g1,g2⟩:=(zaa HCL) _ (Fa++[gr]) _ (zbs o l[k]) (FB K++FB N++FB T++F6) ((zaa HR6).put 8 (by omega) (.slice a6 (chgI l[k].attrs o).length c6)) hFF (fun q hq=>by rcases List.mem_append.1 hq with e | e;(exact .inr (hFaG q e));(exact .inl (by simpa using e)))
      (by
       rw [eC]
       refine⟨K,N,T,_,F6,rfl,⟨q1.1,zap q1.2 hFF (fun q hq=>hnG q (by simp [hq]))⟩,q2.frm hFF (fun q hq=>hnG q (by simp [hq])),q3.frm hFF (fun q hq=>hnG q (by simp [hq])),?_,rfl⟩
       show OwAttrs _ _ (zbg l[k].attrs o) F6
       rw [hat']
       exact OwAttrs.frm h6 fs (fun q hq e=>by have e9_:q=gr:=(by simpa using e);exact hF6g (by rw [<-e9_];exact hq)))
      (by
       rw [eG]at hGN
       refine List.nodup_append.2 ⟨(List.nodup_append.1 hGN).1,hN6,fun q hq q' hq' e=> ?_⟩
       rcases hM6 q' hq' with e' | e'
       ·exact (List.nodup_append.1 hGN).2.2 q hq q' e' e
       ·have:=hlt5 q (hGF q (by rw [eG];exact List.mem_append_left _ hq));omega)
      (fun q hq=>by
       rcases List.mem_append.1 hq with hq | hq
       ·exact .inl (by rw [eG];exact List.mem_append_left _ hq)
       ·rcases hM6 q hq with e | e
        ·exact .inl (hFaG q e)
        ·exact .inr ⟨fun e'=>by have:=hlt5 q e';omega,by omega⟩)
      rfl (hs5.ids l[k] (List.getElem_mem hkl)).2
     have hsz2:=hA2.size
     have hsz5:=hbd.size
     have HE:=hide (zaa HQ (.returned (.tuple #[])) _ ⟨rfl,_,_,F',by rw [hdo2];exact g1,((Frm.ofBelow hA2 _).trans (Frm.ofBelow hbd _)).trans (hFF.mono (fun q hq=>by rcases List.mem_append.1 hq with e | e;(simp [hGF q (hFaG q e)]);(have e9_:q=gr:=(by simpa using e);rw [e9_];simp [hgF]))),fun q hq=>by
      rcases g2 q hq with e | e
      ·exact .inl e
      ·rcases List.mem_append.1 e with e | e
       ·exact .inl (hGF q (by rw [eG];exact List.mem_append_left _ e))
       ·rcases hM6 q e with e | e
        ·exact .inl (hGF q (hFaG q e))
        ·right;omega⟩)
     clear HQ HC HZ HR HCL HR6 hs5 hA2 hdo2 q1 q2 q3 g1 g2 fs hFF hnG h6 hN6 hM6 hf6
     go_wp2_with fail
     go_end0
     exact zaa HE
 ·have hdo2:doV l o=l:=by rw [hdo,if_neg (by omega),if_neg (by omega),if_neg (fun e=>hz e.2)]
  have w5_:(l[k].kind == 0)=false:=by simpa using hz
  have HE:=hide (fun n_=>zaa HQ (.returned (.tuple #[])) (w2.drewN n_) ⟨rfl,_,_,F,by rw [hdo2];exact hs.keep (below_drewN (Below.refl _ _) _),Frm.ofBelow (zad hA2 (below_drewN (Below.refl _ _) _)) _,fun q hq=>.inl hq⟩)
  clear hs hA2 hdo2 hdo hw2 lb2 h1 h2 h3 HQ hz htr
  go_wp2_with fail
  go_quiet (fail)
  go_wp2_with fail
  go_end0
  exact zaa HE _
end Go.Proofs.YtlpnibbdmkeklaaGreatDoor
