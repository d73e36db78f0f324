/- Own texts joined: KdW, KdC, KdS, FqF, KdO, NdI, CloneI, ToT2, ToT3, Apart, CopyI, CopyL, L5rd, L5rk, KlS, L5ah, L5kd, StepC. -/
import Derived.Test.YtlpnibbdmkeklaaGreatDoorJa
import Derived.Test.YtlpnibbdmkeklaaGreatDoorJb
import Derived.Test.YtlpnibbdmkeklaaGreatDoorJc
import Derived.Test.YtlpnibbdmkeklaaGreatDoorJd
import Derived.Test.YtlpnibbdmkeklaaGreatDoorJe
import Derived.Test.YtlpnibbdmkeklaaGreatDoorJf
import Derived.Test.YtlpnibbdmkeklaaGreatDoorJg
import Derived.Test.YtlpnibbdmkeklaaGreatDoorJh
import Derived.Shelf.SlSortCmp.WholeK
import Derived.Deep.RegionHeld3
import Derived.Shelf.SlSortCmp.NoneTotal
import Derived.Shelf.Lay
import Derived.Ground.SlsfProg
import Derived.Lib.BufferMore
import Derived.Deep.RegionLaw
import Derived.Test.YtlpnibbdmkeklaaGreatDoorChecked
import Derived.Deep.QuietTactic
import Derived.BigQuiet
import Derived.Shelf.Abstract
namespace Go.Proofs.YtlpnibbdmkeklaaGreatDoor
open Go.RowKit
set_option linter.unusedVariables false
set_option maxRecDepth 100000
def KdE (w0:World):Type:={x:PlV×List Value // RdPlC w0 x.2 x.1}
def KdE.mk {w0:World} (p:PlV) (C:List Value) (h:RdPlC w0 C p):KdE w0:=⟨(p,C),h⟩
def KdE.enc {w0:World} (x:KdE w0):List Value:=x.1.2
def KdE.pl {w0:World} (x:KdE w0):PlV:=x.1.1
theorem RdPlC.nine {w:World} {C:List Value} {p:PlV} (h:RdPlC w C p):C.length=9:=by
 obtain⟨k,n,t,a,rfl,_⟩:=h
 rfl
theorem RdPlC.ones {w:World} {C:List Value} {p:PlV} (h:RdPlC w C p):∀v∈C,v.oneCell'=true:=by
 obtain⟨k,n,t,a,rfl,h1,h2,h3,h4⟩:=h
 obtain⟨a1,c1,rfl,_,_⟩:=h1.shape
 obtain⟨a2,c2,rfl,_,_⟩:=h2.shape
 obtain⟨a3,c3,rfl,_,_⟩:=h3.shape
 obtain⟨a4,c4,rfl,_,_⟩:=Elems.shape h4
 intro v hv
 simp only [List.mem_cons,List.not_mem_nil,or_false]at hv
 rcases hv with rfl | rfl | rfl | rfl | rfl | rfl | rfl | rfl | rfl<;>rfl
theorem KdE.nine {w0:World} (x:KdE w0):x.enc.length=9:=x.2.nine
def cmpE {w0:World} (x y:KdE w0):Int:=cmpP x.pl y.pl
theorem ltE {w0:World} (x y:KdE w0):ltOf cmpE x y=zaw x.pl y.pl:=zrL _ _
theorem swoE (w0:World):Go.Sort.SWO (ltOf (cmpE (w0:=w0))) where
 irrefl x:=by rw [ltE];exact zjh _
 trans x y z h1 h2:=by rw [ltE]at *;exact zdt h1 h2
 ntrans x y z h1 h2:=by rw [ltE]at *;exact zjW h1 h2
theorem ziI {w0 w:World} [Inhabited (KdE w0)] {g m:Nat} (d:Array (KdE w0)) (os:Array Obj):Frm w (sortWorldK KdE.enc 9 w g 0 m d os) [g]:=by
 refine⟨rfl,rfl,rfl,size_sortWorldK_c _ _ _ _ _ _ _ _,fun i hi hn=> ?_⟩
 have hig:g≠i:=fun e=>hn (by rw [e];simp)
 unfold sortWorldK Go.Sort.grow
 have hsz:i<(Go.Sort.putRowK (KdE.enc (w0:=w0)) 9 (Go.Sort.ahead w m) g 0 d).heap.size:=by rw [Go.Sort.size_putRowK];exact hi
 show ((Go.Sort.putRowK KdE.enc 9 (Go.Sort.ahead w m) g 0 d).heap++os)[i]? = _
 rw [Array.getElem?_append_left hsz]
 simp [Go.Sort.putRowK,Go.Sort.putRow,Go.Sort.mapBlock,Go.Sort.ahead,Array.getElem?_modify,hig]
theorem zmp {w0:World} [Inhabited (KdE w0)] (d:Array (KdE w0)):(Go.Sort.flatK KdE.enc 9 d).toList=(d.toList.map KdE.enc).flatten:=by
 have hC:∀i,i<(d.toList.map KdE.enc).length→((d.toList.map (KdE.enc (w0:=w0))).getD i []).length=9:=fun i hi=>by
  have hi':i<d.size:=by simpa using hi
  simp [hi',KdE.nine]
 have hl:∀L:List (List Value),(∀i,i<L.length→(L.getD i []).length=9)→L.flatten.length=L.length*9:=by
  intro L
  induction L with
  | nil=>intro _;rfl
  | cons a L ih=>
   intro h
   have h0:=h 0 (by simp)
   simp only [List.getD_cons_zero]at h0
   rw [List.flatten_cons,List.length_append,h0,ih (fun i hi=>by have:=h (i+1) (by simpa using hi);simpa using this),List.length_cons]
   omega
 apply List.ext_getElem?
 intro t
 by_cases ht:t<d.size*9
 ·have h9:t / 9<d.size:=by omega
  have e:=zhZ (d.toList.map KdE.enc) 9 hC (t / 9) (t % 9) (by simpa using h9) (by omega)
  rw [show t / 9*9+t % 9=t by omega]at e
  rw [e]
  have hg:=Go.Sort.get_flatK (KdE.enc (w0:=w0)) 9 d t ht
  have hs:t<(Go.Sort.flatK (KdE.enc (w0:=w0)) 9 d).size:=by rw [Go.Sort.size_flatK];exact ht
  rw [Array.getElem?_toList,Array.getElem?_eq_getElem hs]
  rw [getElem!_pos _ t hs]at hg
  rw [hg]
  have hn:=KdE.nine d[t / 9]
  have hm:t % 9<d[t / 9].enc.length:=by rw [hn];omega
  simp [h9,getElem!_pos,hm]
 ·rw [List.getElem?_eq_none (by simp;omega),List.getElem?_eq_none (by rw [hl _ hC];simp;omega)]
theorem zjj {w0 w:World} [Inhabited (KdE w0)] {e:TypeId} {g n cap m:Nat} {xs:List Value} (h:w.ownsRow 0 e 9 (.slice (some ⟨g,0,none⟩) n cap) n xs) (d:Array (KdE w0)) (hd:d.size=n) (os:Array Obj) :
  (sortWorldK KdE.enc 9 w g 0 m d os).ownsRow 0 e 9 (.slice (some ⟨g,0,none⟩) n cap) n (d.toList.map KdE.enc).flatten:=by
 rcases h.2 with ⟨e0,_⟩ | ⟨g',cap',cur,e0,hb,hg,hn,hm,hs,ht⟩
 ·cases e0
 ·injection e0 with e1 _ e3
  injection e1 with e1
  injection e1 with e1
  subst e1;subst e3
  have hlt:g<w.heap.size:=by
   rcases Nat.lt_or_ge g w.heap.size with h' | h'
   ·exact h'
   ·rw [Array.getElem?_eq_none h']at hg;cases hg
  refine⟨by rw [←zmp];simp [hd],.inr ⟨g,cap,Go.Sort.putCells id 0 (Go.Sort.flatK KdE.enc 9 d) cur,rfl,hb,?_,by omega,hm,by simpa [Go.Sort.putCells]using hs,?_⟩⟩
  ·unfold sortWorldK Go.Sort.grow
   have hsz:g<(Go.Sort.putRowK (KdE.enc (w0:=w0)) 9 (Go.Sort.ahead w m) g 0 d).heap.size:=by rw [Go.Sort.size_putRowK];exact hlt
   show ((Go.Sort.putRowK KdE.enc 9 (Go.Sort.ahead w m) g 0 d).heap++os)[g]? = _
   rw [Array.getElem?_append_left hsz]
   simp [Go.Sort.putRowK,Go.Sort.putRow,Go.Sort.mapBlock,Go.Sort.ahead,Array.getElem?_modify,hg,Go.Sort.onCells]
  ·rw [←zmp]
   apply List.ext_getElem?
   intro j
   have hcap:n*9≤cap*9:=Nat.mul_le_mul_right 9 hn
   rw [List.getElem?_take,Array.getElem?_toList,Array.getElem?_toList]
   by_cases hj:j<n*9
   ·have hjc:j<cur.size:=by omega
    have hjf:j<(Go.Sort.flatK (KdE.enc (w0:=w0)) 9 d).size:=by rw [Go.Sort.size_flatK,hd];exact hj
    rw [if_pos hj]
    simp only [Go.Sort.putCells,Array.getElem?_mapIdx,Array.getElem?_eq_getElem hjc,Option.map_some,Nat.zero_add,Nat.sub_zero,id]
    rw [if_pos ⟨Nat.zero_le _,hjf⟩,getElem!_pos _ j hjf,Array.getElem?_eq_getElem hjf]
   ·rw [if_neg hj,Array.getElem?_eq_none (by rw [Go.Sort.size_flatK,hd];omega)]
theorem PlsQ.row {w0 w:World} {g c:Nat} {l:List PlV} {F:List Nat} (h:PlsQ w0 w (.slice (some ⟨g,0,none⟩) l.length c) l F):∃d:List (KdE w0),d.map KdE.pl=l∧w.ownsRow 0 117 9 (.slice (some ⟨g,0,none⟩) l.length c) l.length (d.map KdE.enc).flatten∧F=[g]:=by
 obtain⟨Cs,Fs,h1,h2,h3,h4,h5⟩:=h
 have hF:Fs.flatten=[]:=by
  rw [List.flatten_eq_nil_iff]
  intro G hG
  obtain⟨i,hi,rfl⟩:=List.getElem_of_mem hG
  have:=(h3 i (by omega)).2.2
  simpa [hi]using this
 have hC:∀i (hi:i<l.length),RdPlC w0 (Cs.getD i []) l[i]:=fun i hi=>(h3 i hi).2.1
 refine⟨List.ofFn (fun i:Fin l.length=>KdE.mk l[i.1] (Cs.getD i.1 []) (hC i.1 i.2)),?_,?_,by rw [h5,hF];rfl⟩
 ·apply List.ext_getElem
  ·rw [List.length_map,List.length_ofFn]
  ·intro i hi hi'
   rw [List.getElem_map,List.getElem_ofFn]
   rfl
 ·have e:(List.ofFn (fun i:Fin l.length=>KdE.mk l[i.1] (Cs.getD i.1 []) (hC i.1 i.2))).map KdE.enc=Cs:=by
   apply List.ext_getElem
   ·rw [List.length_map,List.length_ofFn,h1]
   ·intro i hi hi'
    rw [List.getElem_map,List.getElem_ofFn]
    show Cs.getD i []=_
    simp [hi']
  rw [e]
  exact h4
theorem zps {w0 w:World} {g c:Nat} {d:List (KdE w0)} (h:w.ownsRow 0 117 9 (.slice (some ⟨g,0,none⟩) d.length c) d.length (d.map KdE.enc).flatten):PlsQ w0 w (.slice (some ⟨g,0,none⟩) (d.map KdE.pl).length c) (d.map KdE.pl) [g]:=by
 refine⟨d.map KdE.enc,List.replicate d.length [],by simp,by simp,fun i hi=> ?_,by simpa using h,?_⟩
 ·have hi':i<d.length:=by simpa using hi
  have hr:(List.replicate d.length ([]:List Nat)).getD i []=[]:=by simp [hi']
  rw [hr]
  have hc:(d.map KdE.enc).getD i []=d[i].enc:=by simp [hi']
  rw [hc]
  refine⟨KdE.nine _,?_,rfl⟩
  simp only [List.getElem_map]
  exact d[i].2
 ·simp [FB,Value.ownBlock]
theorem PlsQ.holds {w0 w:World} [Inhabited (KdE w0)] {g c n:Nat} {d:List (KdE w0)} {e:TypeId} (h:w.ownsRow 0 e 9 (.slice (some ⟨g,0,none⟩) n c) n (d.map KdE.enc).flatten) (hn:d.length=n):Go.Sort.HoldsK KdE.enc 9 w g 0 d.toArray:=by
 intro j hj
 rw [Go.Sort.size_flatK]at hj
 have hj':j<n*9:=by simpa [hn]using hj
 refine⟨?_,?_⟩
 ·rw [Nat.zero_add,h.cellAt j hj',show (d.map (KdE.enc (w0:=w0)))=(d.toArray.toList.map KdE.enc) from rfl,←zmp]
  have hs:j<(Go.Sort.flatK (KdE.enc (w0:=w0)) 9 d.toArray).size:=by rw [Go.Sort.size_flatK];exact hj
  rw [Array.getElem?_toList,Array.getElem?_eq_getElem hs,getElem!_pos _ j hs]
  rfl
 ·rw [Nat.zero_add]
  exact h.frozenAt j
def Gw (w w':World):Prop:=∃n os,w'=Go.Sort.grow (w.drewN n) os
theorem Gw.refl (w:World):Gw w w:=⟨0,#[],by rw [Go.Sort.grow_empty];rfl⟩
theorem Gw.alloc {w w':World} (h:Gw w w') (o:Obj):Gw w (w'.alloc o):=by
 obtain⟨n,os,rfl⟩:=h
 exact⟨n,os ++ #[o],by rw [Go.Sort.alloc_eq_grow,Go.Sort.grow_grow]⟩
theorem Gw.drew {w w':World} (h:Gw w w'):Gw w w'.drew:=by
 obtain⟨n,os,rfl⟩:=h
 exact⟨n+1,os,rfl⟩
set_option maxHeartbeats 3200000 in
theorem zns (w:World) (p q:PlV) (k1 n1 t1 a1 k2 n2 t2 a2:Option Addr) (ck1 cn1 ct1 ca1 ck2 cn2 ct2 ca2:Nat) (h1:Ints w (.slice k1 p.key.length ck1) p.key) (h2:Ints w (.slice k2 q.key.length ck2) q.key) :
  Calls Tryz.prog 128 #[.agg #[.int .i64 p.idN,.int .i64 p.idR,.int .i64 p.parN,.int .i64 p.parR,.slice k1 p.key.length ck1,.int .i64 p.kind,.slice n1 p.name.length cn1,.slice t1 p.text.length ct1,.slice a1 p.attrs.length ca1],.agg #[.int .i64 q.idN,.int .i64 q.idR,.int .i64 q.parN,.int .i64 q.parR,.slice k2 q.key.length ck2,.int .i64 q.kind,.slice n2 q.name.length cn2,.slice t2 q.text.length ct2,.slice a2 q.attrs.length ca2]] w fun e w'=>e=.returned (.int .i64 (cmpP p q))∧Gw w w':=by
 refine zaf ?_
 intro Q HQ
 have hA:Below w.heap.size w ((w.alloc (.cells #[.int .i64 p.idN,.int .i64 p.idR,.int .i64 p.parN,.int .i64 p.parR,.slice k1 p.key.length ck1,.int .i64 p.kind,.slice n1 p.name.length cn1,.slice t1 p.text.length ct1,.slice a1 p.attrs.length ca1] 117)).alloc (.cells #[.int .i64 q.idN,.int .i64 q.idR,.int .i64 q.parN,.int .i64 q.parR,.slice k2 q.key.length ck2,.int .i64 q.kind,.slice n2 q.name.length cn2,.slice t2 q.text.length ct2,.slice a2 q.attrs.length ca2] 117)):=zad ((Below.refl _ _).alloc (Nat.le_refl _) _) ((Below.refl _ _).alloc (Nat.le_refl _) _)
 have l0:=(Loc.made w #[.int .i64 p.idN,.int .i64 p.idR,.int .i64 p.parN,.int .i64 p.parR,.slice k1 p.key.length ck1,.int .i64 p.kind,.slice n1 p.name.length cn1,.slice t1 p.text.length ct1,.slice a1 p.attrs.length ca1] 117).alloc (.cells #[.int .i64 q.idN,.int .i64 q.idR,.int .i64 q.parN,.int .i64 q.parR,.slice k2 q.key.length ck2,.int .i64 q.kind,.slice n2 q.name.length cn2,.slice t2 q.text.length ct2,.slice a2 q.attrs.length ca2] 117)
 have l1:=Loc.made (w.alloc (.cells #[.int .i64 p.idN,.int .i64 p.idR,.int .i64 p.parN,.int .i64 p.parR,.slice k1 p.key.length ck1,.int .i64 p.kind,.slice n1 p.name.length cn1,.slice t1 p.text.length ct1,.slice a1 p.attrs.length ca1] 117)) #[.int .i64 q.idN,.int .i64 q.idR,.int .i64 q.parN,.int .i64 q.parR,.slice k2 q.key.length ck2,.int .i64 q.kind,.slice n2 q.name.length cn2,.slice t2 q.text.length ct2,.slice a2 q.attrs.length ca2] 117
 simp only [World.size_alloc]at l1
 have HK:=hide (fun W (hW:Below w.heap.size w W)=>zpy W _ _ p.key q.key (h1.keep hW) (h2.keep hW))
 have hv:cmpP p q=if cmpK p.key q.key=0 then ordI p.idN p.idR q.idN q.idR else cmpK p.key q.key:=rfl
 rw [hv]at HQ
 have hG:Gw w ((w.alloc (.cells #[.int .i64 p.idN,.int .i64 p.idR,.int .i64 p.parN,.int .i64 p.parR,.slice k1 p.key.length ck1,.int .i64 p.kind,.slice n1 p.name.length cn1,.slice t1 p.text.length ct1,.slice a1 p.attrs.length ca1] 117)).alloc (.cells #[.int .i64 q.idN,.int .i64 q.idR,.int .i64 q.parN,.int .i64 q.parR,.slice k2 q.key.length ck2,.int .i64 q.kind,.slice n2 q.name.length cn2,.slice t2 q.text.length ct2,.slice a2 q.attrs.length ca2] 117)):=((Gw.refl w).alloc _).alloc _
 have HA:=hide (And.intro hA (And.intro hG (And.intro l0 l1)))
 clear h1 h2 hA l0 l1 hv hG
 generalize cmpK p.key q.key=z at *
 have HO:=hide (fun W b c c0 c1=>zoa W b c z (ordI p.idN p.idR q.idN q.idR) c0 c1)
 generalize (if z=0 then ordI p.idN p.idR q.idN q.idR else z)=r at *
 go_enter Tryz.func128,Tryz.ntmps128
 go_wp2_with fail
 obtain⟨hA,hG,l0,l1⟩:=zaa HA
 clear HA
 generalize ((w.alloc (.cells #[.int .i64 p.idN,.int .i64 p.idR,.int .i64 p.parN,.int .i64 p.parR,.slice k1 p.key.length ck1,.int .i64 p.kind,.slice n1 p.name.length cn1,.slice t1 p.text.length ct1,.slice a1 p.attrs.length ca1] 117)).alloc (.cells #[.int .i64 q.idN,.int .i64 q.idR,.int .i64 q.parN,.int .i64 q.parR,.slice k2 q.key.length ck2,.int .i64 q.kind,.slice n2 q.name.length cn2,.slice t2 q.text.length ct2,.slice a2 q.attrs.length ca2] 117))=w1 at *
 have x0:=l0.cell 0
 have x1:=l0.cell 1
 have x4:=l0.cell 4
 have y0:=l1.cell 0
 have y1:=l1.cell 1
 have y4:=l1.cell 4
 simp at x0 x1 x4 y0 y1 y4
 have HG:=hide (And.intro hA hG)
 have hlt0:=l0.lt
 have hlt1:=l1.lt
 clear hA hG l0 l1
 have hi:∀(W:World),Below w1.heap.size w1 W→Gw w W→Calls Tryz.prog 117 #[.agg #[.int .i64 p.idN,.int .i64 p.idR],.agg #[.int .i64 q.idN,.int .i64 q.idR]] W fun e w'=>e=.returned (.int .i64 (ordI p.idN p.idR q.idN q.idR))∧Below w1.heap.size w1 w'∧Gw w w':=fun W hW gW=>
  (zky W p.idN p.idR q.idN q.idR).mono fun e w' ⟨h1,h2⟩=>⟨h1,by rw [h2];exact (hW.alloc hW.size _).alloc (by have:=hW.size;simp;omega) _,by rw [h2];exact (gW.alloc _).alloc _⟩
 have HI:=hide hi
 clear hi
 go_region_held3 (fun w'=>w'.cell? ⟨w.heap.size,0,none⟩=some (.int .i64 p.idN)∧w'.cell? ⟨w.heap.size,1,none⟩=some (.int .i64 p.idR)∧w'.cell? ⟨w.heap.size,4,none⟩=some (.slice k1 p.key.length ck1)∧w'.cell? ⟨w.heap.size+1,0,none⟩=some (.int .i64 q.idN)∧w'.cell? ⟨w.heap.size+1,1,none⟩=some (.int .i64 q.idR)∧w'.cell? ⟨w.heap.size+1,4,none⟩=some (.slice k2 q.key.length ck2))
  (first | exact⟨by assumption,by assumption,by assumption,by assumption,by assumption,by assumption⟩ | exact⟨by simp [*],by simp [*],by simp [*],by simp [*],by simp [*],by simp [*]⟩ | exact⟨(World.cell?_alloc_lt _ _ _ (by assumption)).trans (by assumption),(World.cell?_alloc_lt _ _ _ (by assumption)).trans (by assumption),(World.cell?_alloc_lt _ _ _ (by assumption)).trans (by assumption),(World.cell?_alloc_lt _ _ _ (by assumption)).trans (by assumption),(World.cell?_alloc_lt _ _ _ (by assumption)).trans (by assumption),(World.cell?_alloc_lt _ _ _ (by assumption)).trans (by assumption)⟩)
  (first
   | (go_at_call 130;refine (zaa HK _ ((zaa HG).1.drew)).mono ?_;rintro e w2 ⟨rfl,rfl⟩)
   | (go_at_call 117;refine (zaa HI _ ((Below.refl _ _).drew) ((zaa HG).2.drew)).mono ?_;rintro e w3 ⟨rfl,hE,gE⟩;have hw0:=Nat.lt_of_lt_of_le hlt0 hE.size;have hw1:=Nat.lt_of_lt_of_le hlt1 hE.size;have z0:=(hE.cell hlt0).trans x0;have z1:=(hE.cell hlt0).trans x1;have z4:=(hE.cell hlt0).trans x4;have u0:=(hE.cell hlt1).trans y0;have u1:=(hE.cell hlt1).trans y1;have u4:=(hE.cell hlt1).trans y4)
   | (go_at_call 129;refine (zaa HO _ _ _ (World.cell?_alloc_new _ _ _ _) (World.cell?_alloc_new _ _ _ _)).mono ?_;rintro e w4 ⟨rfl,rfl⟩))
 go_wp2_with fail
 exact zaa HQ _ _ ⟨rfl,gE.alloc _⟩
open Go.Shelf in
shelf_lay_g SlLaysF0.n6 Slsf 6 at Tryz 127 as Tryz.sortPl
theorem zoe {w0 w:World} [Inhabited (KdE w0)] (hB0:Below w0.heap.size w0 w) (g n:Nat) (hg:w0.heap.size≤g):CmpLays Tryz.prog 128 #[] (KdE.enc (w0:=w0)) 9 cmpE g 0 n w:=by
 intro m os dk hdk x y
 have hW:Below w0.heap.size w0 (sortWorldK KdE.enc 9 w g 0 m dk os):=hB0.trans ((ziI dk os).below hB0.size (fun i hi=>by simp at hi;omega))
 obtain⟨⟨p,C⟩,hp⟩:=x
 obtain⟨⟨q,D⟩,hq⟩:=y
 obtain⟨k,n,t,a,e1,h1,h2,h3,h4⟩:=hp
 obtain⟨k',n',t',a',e2,h1',h2',h3',h4'⟩:=hq
 dsimp only at e1 e2 h1 h2 h3 h4 h1' h2' h3' h4'
 subst e1
 subst e2
 obtain⟨a1,c1,rfl,_,_⟩:=h1.shape
 obtain⟨a2,c2,rfl,_,_⟩:=h2.shape
 obtain⟨a3,c3,rfl,_,_⟩:=h3.shape
 obtain⟨a4,c4,rfl,_,_⟩:=Elems.shape h4
 obtain⟨b1,f1,rfl,_,_⟩:=h1'.shape
 obtain⟨b2,f2,rfl,_,_⟩:=h2'.shape
 obtain⟨b3,f3,rfl,_,_⟩:=h3'.shape
 obtain⟨b4,f4,rfl,_,_⟩:=Elems.shape h4'
 exact zns _ p q a1 a2 a3 a4 b1 b2 b3 b4 c1 c2 c3 c4 f1 f2 f3 f4 (h1.keep hW) (h1'.keep hW)
set_option maxHeartbeats 1600000 in
theorem znf (w0 w:World) (g c:Nat) (ks:List PlV) (F:List Nat) (h:PlsQ w0 w (.slice (some ⟨g,0,none⟩) ks.length c) ks F) (hn:ks≠[]) (hl:ks.length≤100000) (hB0:Below w0.heap.size w0 w) (hg:w0.heap.size≤g) :
  Calls Tryz.prog 127 #[.slice (some ⟨g,0,none⟩) ks.length c,.func (.func 128) #[] #[]] w fun e w'=>e=.returned (.tuple #[])∧∃ks':List PlV,ks'.Perm ks∧(∀i j (hi:i<ks'.length) (hj:j<ks'.length),i<j→zaw ks'[j] ks'[i]=false)∧PlsQ w0 w' (.slice (some ⟨g,0,none⟩) ks'.length c) ks' [g]∧Frm w w' [g]:=by
 have hlen9:=OwElems.len h
 obtain⟨d,hd,hrow,rfl⟩:=h.row
 have hlen:d.length=ks.length:=by rw [←hd];simp
 have hne:d≠[]:=fun e=>hn (by rw [←hd,e];rfl)
 haveI:Inhabited (KdE w0):=⟨d.head hne⟩
 have hH:=PlsQ.holds hrow hlen
 have hblk:g<w.heap.size:=(hrow.lt g rfl).2
 have eg:∀args w,(callFunc 128 args).run Tryz.prog w=.ok (.enter 128 args) w:=enters_of Tryz.func128 (by kernel_rfl) rfl
 have hcon:=AnyQ.slices_SortFunc Tryz.sortPl 9 Tryz.isAgg117 Tryz.sizeOf117 KdE.enc KdE.nine (fun x=>x.2.ones) cmpE (swoE w0) 128 #[] g 0 c d.toArray w eg (zoe hB0 g _ hg) hH hblk (by simp;omega)
 change Calls Tryz.prog 127 _ _ _ at hcon
 rw [show d.toArray.size=ks.length by simpa using hlen]at hcon
 refine hcon.mono ?_
 rintro e w' ⟨rfl,d',n,os,hp,hs,rfl⟩
 have hds:d'.size=ks.length:=by rw [hp.1];simpa using hlen
 have hperm:d'.toList.Perm d:=by
  have:=hp.2.2
  rw [←hds]at this
  have e1:d'.extract 0 d'.size=d':=by simp
  have e2:d.toArray.extract 0 d'.size=d.toArray:=by rw [show d'.size=d.toArray.size from hp.1];simp
  rw [e1,e2]at this
  simpa using this
 refine⟨rfl,d'.toList.map KdE.pl,?_,?_,?_,ziI d' os⟩
 ·rw [←hd]
  exact hperm.map _
 ·intro i j hi hj hij
  have hi':i<d'.size:=by simpa using hi
  have hj':j<d'.size:=by simpa using hj
  have:=hs i j (Nat.zero_le _) hij (by omega)
  rw [ltE,getElem!_pos d' j hj',getElem!_pos d' i hi']at this
  simpa using this
 ·have:=zps (w:=sortWorldK KdE.enc 9 w g 0 n d' os) (g:=g) (c:=c) (d:=d'.toList) (by
   rw [show d'.toList.length=ks.length by simpa using hds]
   exact zjj hrow d' hds os)
  exact this
theorem zgH (w:World) (a:Option Addr) (c:Nat) :
  Calls Tryz.prog 127 #[.slice a 0 c,.func (.func 128) #[] #[]] w fun e w'=>e=.returned (.tuple #[])∧w'=w:=
 AnyF.slices_SortFunc_none Tryz.sortPl a c _ w
end Go.Proofs.YtlpnibbdmkeklaaGreatDoor
namespace Go.Proofs.YtlpnibbdmkeklaaGreatDoor
open Go.RowKit Go.Maps
set_option linter.unusedVariables false
set_option maxRecDepth 100000
theorem FoQ.at {w0:World} {w:World} {g mb:Nat} {a:Option Addr} {c:Nat} {l:List PlV} {F:List Nat} (h:FoQ w0 w g mb a c l F) (hl:0<l.length):∃gr,a=some ⟨gr,0,none⟩∧gr∈F:=by
 obtain⟨Cs,Fs,e1,e2,e3,e4,rfl⟩:=h.row
 obtain⟨gr,cap,e,_,_⟩:=e4.form hl
 injection e with e _ _
 subst e
 exact⟨gr,rfl,List.mem_append_left _ (by simp [FB,Value.ownBlock])⟩
set_option maxHeartbeats 1600000 in
theorem zcc {w0:World} {w:World} {g mb:Nat} {a:Option Addr} {c:Nat} {l:List PlV} {F:List Nat} (h:FoQ w0 w g mb a c l F) (i:IdV) (hi:okI i) :
  Calls Tryz.prog 54 #[.pointer (some ⟨g,0,none⟩),zap i] w fun e w'=>(posP l i=none→e=.returned (.pointer none))∧(∀k,posP l i=some k→∃gr,a=some ⟨gr,0,none⟩∧e=.returned (.pointer (some ⟨gr,k*9,none⟩)))∧Below w.heap.size w w':=by
 have hA:Below w.heap.size w (w.alloc (.cells #[.int .i64 i.1,.int .i64 i.2] 81)):=(Below.refl _ _).alloc (Nat.le_refl _) _
 have lb:=Loc.made w #[.int .i64 i.1,.int .i64 i.2] 81
 have hd:Below (w.alloc (.cells #[.int .i64 i.1,.int .i64 i.2] 81)).heap.size (w.alloc (.cells #[.int .i64 i.1,.int .i64 i.2] 81)) (w.alloc (.cells #[.int .i64 i.1,.int .i64 i.2] 81)).drew:=(Below.refl _ _).drew
 have h1:=h.keep hA
 have h2:=h1.keep hd
 obtain⟨cs,lg,hc0,hc1⟩:=h2.set.loc
 obtain⟨ci,hrun,hci⟩:=h2.map.look hi
 have g0:=lg.cell 0
 have g1:=lg.cell 1
 rw [hc0]at g0
 rw [hc1]at g1
 have hbw:=zad hA hd
 have hat:=h.at
 have hlen:=h.len
 have hP:∀k,posP l i=some k→k<l.length:=fun k hk=>(posP_some.1 hk).1
 unfold zap at *
 have LL:=hide (And.intro hbw (And.intro hat (And.intro hci hP)))
 have lbd:=lb.all hd
 have b0:=lbd.cell 0
 have b1:=lbd.cell 1
 clear h h1 h2 hA hd lb lbd lg hc0 hc1 hbw hat hci hP hi
 refine zaf ?_
 intro Q HQ
 generalize hp:posP l i=po at *
 go_enter Tryz.func54,Tryz.ntmps54
 go_wp2_with fail
 go_region
 cases po with
 | none=>
  go_wp2_with fail
  exact zaa HQ _ _ ⟨fun _=>rfl,fun k hk=>(by cases hk),(zaa LL).1⟩
 | some k=>
  have hkl:=(zaa LL).2.2.2 k rfl
  have hck:=(zaa LL).2.2.1 k rfl
  obtain⟨gr,rfl,_⟩:=(zaa LL).2.1 (by omega)
  subst hck
  have hk0:(0:Int)≤(k:Int):=by omega
  have hkl':(k:Int)<(l.length:Int):=by omega
  go_wp2_with fail
  exact zaa HQ _ _ ⟨fun h=>(by cases h),fun k' hk=>(by cases hk;exact⟨gr,rfl,rfl⟩),(zaa LL).1⟩
theorem FoQ.own {w0 w:World} {g mb gr:Nat} {c:Nat} {l:List PlV} {F:List Nat} (h:FoQ w0 w g mb (some ⟨gr,0,none⟩) c l F) {k:Nat} (hk:k<l.length) :
  ∃(k1:Option Addr) (ck:Nat) (n1:Option Addr) (cn:Nat) (t1:Option Addr) (ct:Nat) (a1:Option Addr) (ca:Nat) (Fa:List Nat),w.cell? ⟨gr,k*9,none⟩=some (.int .i64 l[k].idN)∧w.cell? ⟨gr,k*9+1,none⟩=some (.int .i64 l[k].idR)∧w.cell? ⟨gr,k*9+2,none⟩=some (.int .i64 l[k].parN)∧w.cell? ⟨gr,k*9+3,none⟩=some (.int .i64 l[k].parR)∧w.cell? ⟨gr,k*9+4,none⟩=some (.slice k1 l[k].key.length ck)∧w.cell? ⟨gr,k*9+5,none⟩=some (.int .i64 l[k].kind)∧w.cell? ⟨gr,k*9+6,none⟩=some (.slice n1 l[k].name.length cn)∧w.cell? ⟨gr,k*9+7,none⟩=some (.slice t1 l[k].text.length ct)∧w.cell? ⟨gr,k*9+8,none⟩=some (.slice a1 l[k].attrs.length ca)∧
   Ints w0 (.slice k1 l[k].key.length ck) l[k].key∧Byt w0 (.slice n1 l[k].name.length cn) l[k].name∧Byt w0 (.slice t1 l[k].text.length ct) l[k].text∧RdAttrs w0 (.slice a1 l[k].attrs.length ca) l[k].attrs:=by
 obtain⟨Cs,Fs,e1,e2,e3,e4,rfl⟩:=h.row
 obtain⟨_,⟨K,N,T,A,eC,o1,o2,o3,o4⟩,eF⟩:=e3 k hk
 obtain⟨k1,ck,rfl,_⟩:=o1.shape
 obtain⟨n1,cn,rfl,_⟩:=o2.shape
 obtain⟨t1,ct,rfl,_⟩:=o3.shape
 obtain⟨a1,ca,rfl,_⟩:=Elems.shape o4
 have hcl:=fun r (hr:r<9)=>zaQ e4 (fun i hi=>(e3 i (by omega)).1) e1 k r hk hr
 rw [eC]at hcl
 have d:=fun r hr=>hcl r hr
 have d0:=d 0 (by omega)
 have d1:=d 1 (by omega)
 have d2:=d 2 (by omega)
 have d3:=d 3 (by omega)
 have d4:=d 4 (by omega)
 have d5:=d 5 (by omega)
 have d6:=d 6 (by omega)
 have d7:=d 7 (by omega)
 have d8:=d 8 (by omega)
 exact⟨k1,ck,n1,cn,t1,ct,a1,ca,[],d0,d1,d2,d3,d4,d5,d6,d7,d8,o1,o2,o3,o4⟩
end Go.Proofs.YtlpnibbdmkeklaaGreatDoor
namespace Go.Proofs.YtlpnibbdmkeklaaGreatDoor
open Go.RowKit
set_option linter.unusedVariables false
set_option maxRecDepth 100000
theorem zej {cs:Array Value} {w:World} {g:Nat} {T:TypeId} (h:Loc w g cs T) (v0 v1 v2 v3 v4 v5 v6 v7 v8:Value) (e:cs = #[v0,v1,v2,v3,v4,v5,v6,v7,v8]):w.cell? ⟨g,0,none⟩=some v0∧w.cell? ⟨g,1,none⟩=some v1∧w.cell? ⟨g,2,none⟩=some v2∧w.cell? ⟨g,3,none⟩=some v3∧w.cell? ⟨g,4,none⟩=some v4∧w.cell? ⟨g,5,none⟩=some v5∧w.cell? ⟨g,6,none⟩=some v6∧w.cell? ⟨g,7,none⟩=some v7∧w.cell? ⟨g,8,none⟩=some v8:=by
 subst e
 exact⟨h.cell 0,h.cell 1,h.cell 2,h.cell 3,h.cell 4,h.cell 5,h.cell 6,h.cell 7,h.cell 8⟩
set_option maxHeartbeats 6400000 in
theorem zhJ {w0 w:World} {g mb gr:Nat} {c:Nat} {l:List PlV} {F:List Nat} (h:FoQ w0 w g mb (some ⟨gr,0,none⟩) c l F) (hB0:Below w0.heap.size w0 w) (h2:2≤l.length) (hu:(l.map PlV.id).Nodup) (id:IdV) :
  Calls Tryz.prog 95 #[.pointer (some ⟨g,0,none⟩),.agg #[.int .i64 id.1,.int .i64 id.2]] w fun e w'=>∃av cv ks F',e=.returned (.slice av (List.length ks) cv)∧PlsQ w0 w' (.slice av (List.length ks) cv) ks F'∧Rng F' w.heap.size w'.heap.size∧ks.map some=(zao l id).map (fun k=>l[k]?)∧Below w.heap.size w w':=by
 refine zaf ?_
 intro Q HQ
 obtain⟨iN,iR⟩:=id
 obtain⟨i0,hi0,hz0,hz1,hz2⟩:=info_parts zed
 have hA:=(Below.refl w.heap.size w).alloc (Nat.le_refl _) (.cells #[.int .i64 iN,.int .i64 iR] 81)
 have lb:=Loc.made w #[.int .i64 iN,.int .i64 iR] 81
 have h1:=h.keep hA
 obtain⟨cs,lg,hc0,_⟩:=h1.set.loc
 have g0:(w.alloc (.cells #[.int .i64 iN,.int .i64 iR] 81)).cell? ⟨g,0,none⟩=some (.slice (some ⟨gr,0,none⟩) l.length c):=(lg.cell 0).trans hc0
 have hcap:l.length≤c:=by
  obtain⟨_,_,_,_,_,hrow,_⟩:=h.row
  rcases hrow.2 with ⟨e,_⟩ | ⟨g',cap',cur,e,_,_,hn,_⟩
  ·cases e
  ·injection e with _ _ e3;omega
 have hl:=h.len
 have LL:=hide (And.intro hA (And.intro lb (And.intro h1 (And.intro hB0 hu))))
 clear hA lb h1 lg hc0 h hu hB0
 have z2:(2:Int)≤(l.length:Int):=by omega
 have zc:(l.length:Int)≤(c:Int):=by omega
 have HNO:=hide (fun (hm:l.length≤2) (hu:(l.map PlV.id).Nodup)=>(show ([]:List PlV).map some=(zao l (iN,iR)).map (fun k=>l[k]?) from zgP hu (iN,iR) (by rw [zcw l _ hm]) (fun i j hi=>by cases hi)))
 by_cases hc2:c=2
 ·have hl2:l.length-2=0:=by omega
  have hl3:l.length≤2:=by omega
  subst hc2
  go_enter Tryz.func95,Tryz.ntmps95
  go_wp2_with fail
  obtain⟨hA,lb,h1,hB0,hu⟩:=zaa LL
  clear g0 h1
  refine wp_loop_rounds 1 ?_
  rw [rounds_succ]
  go_wp2_with fail
  refine (zgH _ _ _).mono ?_
  rintro e w2 ⟨rfl,rfl⟩
  have HE:=hide (zaa HQ _ _ ⟨none,0,[],[],rfl,⟨[],[],rfl,rfl,fun i hi=>(by cases hi),World.ownsRow_nil _ _ _ _,rfl⟩,fun q hq=>(by cases hq),zaa HNO hl3 hu,hA⟩)
  clear lb hu hB0 hA
  go_wp2_with fail
  exact zaa HE
 go_enter Tryz.func95,Tryz.ntmps95
 go_wp2_with fail
 obtain⟨hA,lb,h1,hB0,hu⟩:=zaa LL
 clear LL g0
 generalize (w.alloc (.cells #[.int .i64 iN,.int .i64 iR] 81))=w1 at *
 have hlw:w.heap.size<w1.heap.size:=lb.lt
 have hB01:=hB0.trans (hA.mono hB0.size)
 obtain⟨m,hm⟩:∃m,l.length=m+2:=⟨l.length-2,by omega⟩
 have hm2:l.length-2=m:=by omega
 rw [hm2]
 have HMM:=hide hm
 clear hm hm2
 go_loopw [5,14] (fun v i wr=>∃(j:Nat) (av:Option Addr) (cv:Nat) (Fk:List Nat),j≤m∧i=.int .i64 (j:Int)∧v=.slice av (zax l (iN,iR) (j+2)).length cv∧PlsQ w0 wr (.slice av (zax l (iN,iR) (j+2)).length cv) (zax l (iN,iR) (j+2)) Fk∧Fk.Nodup∧Rng Fk w1.heap.size wr.heap.size∧Below w1.heap.size w1 wr) (fun _ i _=>m-(intOf i).toNat)
 case atStart=>
  refine⟨0,none,0,[],Nat.zero_le _,rfl,by rw [zcw l _ (Nat.le_refl _)];rfl,?_,List.nodup_nil,fun q hq=>(by cases hq),Below.refl _ _⟩
  rw [zcw l _ (Nat.le_refl _)]
  exact⟨[],[],rfl,rfl,fun i hi=>(by cases hi),World.ownsRow_nil _ _ _ _,rfl⟩
 case round=>
  obtain⟨j,av,cv,Fk,hj,rfl,rfl,hK,hKn,hKr,hB⟩:=hrel
  have lbr:=lb.all hB
  have b0:wr.cell? ⟨w.heap.size,0,none⟩=some (.int .i64 iN):=lbr.cell 0
  have b1:wr.cell? ⟨w.heap.size,1,none⟩=some (.int .i64 iR):=lbr.cell 1
  have hm:=zaa HMM
  have hkl:(zax l (iN,iR) (j+2)).length≤100000:=by
   have:(zax l (iN,iR) (j+2)).length≤((l.take (j+2)).drop 2).length:=List.length_filter_le _ _
   rw [List.length_drop,List.length_take]at this
   omega
  by_cases hlt:j<m
  ·have hj2:j+2<l.length:=by omega
   obtain⟨k1,ck,n1,cn,t1,ct,a1,ca,-,e0,e1,e2,e3,e4,e5,e6,e7,e8,r1,r2,r3,r4⟩:=(h1.keep hB).own hj2
   rw [show (j+2)*9=18+j*9 by omega]at e0 e1 e2 e3 e4 e5 e6 e7 e8
   have hst:=zgL l (iN,iR) (show 2≤j+2 by omega) hj2
   generalize l[j+2]=p at *
   clear hm
   have hlt':(j:Int)<(m:Int):=by omega
   have hj0:(0:Int)≤(j:Int):=by omega
   have lx:=Loc.made wr #[.int .i64 p.idN,.int .i64 p.idR,.int .i64 p.parN,.int .i64 p.parR,.slice k1 p.key.length ck,.int .i64 p.kind,.slice n1 p.name.length cn,.slice t1 p.text.length ct,.slice a1 p.attrs.length ca] 117
   have hx:=(Below.refl wr.heap.size wr).alloc (Nat.le_refl _) (.cells #[.int .i64 p.idN,.int .i64 p.idR,.int .i64 p.parN,.int .i64 p.parR,.slice k1 p.key.length ck,.int .i64 p.kind,.slice n1 p.name.length cn,.slice t1 p.text.length ct,.slice a1 p.attrs.length ca] 117)
   obtain⟨x0,x1,x2,x3,x4,x5,x6,x7,x8⟩:=zej lx _ _ _ _ _ _ _ _ _ rfl
   have hbw:w.heap.size<wr.heap.size:=Nat.lt_of_lt_of_le hlw hB.size
   have c0:=(hx.cell (p:=⟨w.heap.size,0,none⟩) hbw).trans b0
   have c1:=(hx.cell (p:=⟨w.heap.size,1,none⟩) hbw).trans b1
   clear b0 b1 lbr
   have HR:=hide (show PlQ w0 wr [.int .i64 p.idN,.int .i64 p.idR,.int .i64 p.parN,.int .i64 p.parR,.slice k1 p.key.length ck,.int .i64 p.kind,.slice n1 p.name.length cn,.slice t1 p.text.length ct,.slice a1 p.attrs.length ca] p [] from ⟨⟨_,_,_,_,rfl,r1,r2,r3,r4⟩,rfl⟩)
   have HX:=hide hx
   have HK:=hide (And.intro hK (And.intro hKn (And.intro hKr hB)))
   clear r1 r2 r3 r4 hx lx hK hKn hKr hB
   have HST:=hide hst
   have HKL:=hide hkl
   clear hst hkl
   by_cases q1:p.parN=iN
   ·by_cases q2:p.parR=iR
    ·have d1:(p.parN == iN)=true:=by simpa using q1
     have d2:(p.parR == iR)=true:=by simpa using q2
     have hlx:zax l (iN,iR) (j+1+2)=zax l (iN,iR) (j+2)++[p]:=by
      rw [show j+1+2=j+2+1 by omega,zaa HST,if_pos (show p.par=(iN,iR) by show (p.parN,p.parR)=_;rw [q1,q2])]
     clear q1 q2 HST
     have HLX:=hide hlx
     clear hlx
     obtain⟨hK,hKn,hKr,hB⟩:=zaa HK
     have hx:=zaa HX
     have hAe:=(Below.refl (wr.alloc (.cells #[.int .i64 p.idN,.int .i64 p.idR,.int .i64 p.parN,.int .i64 p.parR,.slice k1 p.key.length ck,.int .i64 p.kind,.slice n1 p.name.length cn,.slice t1 p.text.length ct,.slice a1 p.attrs.length ca] 117)).heap.size (wr.alloc (.cells #[.int .i64 p.idN,.int .i64 p.idR,.int .i64 p.parN,.int .i64 p.parR,.slice k1 p.key.length ck,.int .i64 p.kind,.slice n1 p.name.length cn,.slice t1 p.text.length ct,.slice a1 p.attrs.length ca] 117))).alloc (Nat.le_refl _) (.cells #[.int .i64 p.idN,.int .i64 p.idR,.int .i64 p.parN,.int .i64 p.parR,.slice k1 p.key.length ck,.int .i64 p.kind,.slice n1 p.name.length cn,.slice t1 p.text.length ct,.slice a1 p.attrs.length ca] 117)
     have lE:=Loc.made (wr.alloc (.cells #[.int .i64 p.idN,.int .i64 p.idR,.int .i64 p.parN,.int .i64 p.parR,.slice k1 p.key.length ck,.int .i64 p.kind,.slice n1 p.name.length cn,.slice t1 p.text.length ct,.slice a1 p.attrs.length ca] 117)) #[.int .i64 p.idN,.int .i64 p.idR,.int .i64 p.parN,.int .i64 p.parR,.slice k1 p.key.length ck,.int .i64 p.kind,.slice n1 p.name.length cn,.slice t1 p.text.length ct,.slice a1 p.attrs.length ca] 117
     have hb2:=zad hx hAe
     have hFr:=PlsQ.lt hK
     have hs2:=hb2.size
     have HP:=hide (show PlsQ w0 ((wr.alloc (.cells #[.int .i64 p.idN,.int .i64 p.idR,.int .i64 p.parN,.int .i64 p.parR,.slice k1 p.key.length ck,.int .i64 p.kind,.slice n1 p.name.length cn,.slice t1 p.text.length ct,.slice a1 p.attrs.length ca] 117)).alloc (.cells #[.int .i64 p.idN,.int .i64 p.idR,.int .i64 p.parN,.int .i64 p.parR,.slice k1 p.key.length ck,.int .i64 p.kind,.slice n1 p.name.length cn,.slice t1 p.text.length ct,.slice a1 p.attrs.length ca] 117)) (.slice av (zax l (iN,iR) (j+2)).length cv) (zax l (iN,iR) (j+2)) Fk∧(∀i u,([.int .i64 p.idN,.int .i64 p.idR,.int .i64 p.parN,.int .i64 p.parR,.slice k1 p.key.length ck,.int .i64 p.kind,.slice n1 p.name.length cn,.slice t1 p.text.length ct,.slice a1 p.attrs.length ca]:List Value)[i]? = some u→((wr.alloc (.cells #[.int .i64 p.idN,.int .i64 p.idR,.int .i64 p.parN,.int .i64 p.parR,.slice k1 p.key.length ck,.int .i64 p.kind,.slice n1 p.name.length cn,.slice t1 p.text.length ct,.slice a1 p.attrs.length ca] 117)).alloc (.cells #[.int .i64 p.idN,.int .i64 p.idR,.int .i64 p.parN,.int .i64 p.parR,.slice k1 p.key.length ck,.int .i64 p.kind,.slice n1 p.name.length cn,.slice t1 p.text.length ct,.slice a1 p.attrs.length ca] 117)).cell? ((⟨(wr.alloc (.cells #[.int .i64 p.idN,.int .i64 p.idR,.int .i64 p.parN,.int .i64 p.parR,.slice k1 p.key.length ck,.int .i64 p.kind,.slice n1 p.name.length cn,.slice t1 p.text.length ct,.slice a1 p.attrs.length ca] 117)).heap.size,0,none⟩:Addr).add i)=some u)∧PlQ w0 ((wr.alloc (.cells #[.int .i64 p.idN,.int .i64 p.idR,.int .i64 p.parN,.int .i64 p.parR,.slice k1 p.key.length ck,.int .i64 p.kind,.slice n1 p.name.length cn,.slice t1 p.text.length ct,.slice a1 p.attrs.length ca] 117)).alloc (.cells #[.int .i64 p.idN,.int .i64 p.idR,.int .i64 p.parN,.int .i64 p.parR,.slice k1 p.key.length ck,.int .i64 p.kind,.slice n1 p.name.length cn,.slice t1 p.text.length ct,.slice a1 p.attrs.length ca] 117)) [.int .i64 p.idN,.int .i64 p.idR,.int .i64 p.parN,.int .i64 p.parR,.slice k1 p.key.length ck,.int .i64 p.kind,.slice n1 p.name.length cn,.slice t1 p.text.length ct,.slice a1 p.attrs.length ca] p []∧(∀q,q∈Fk∨q∈([]:List Nat)→q<((wr.alloc (.cells #[.int .i64 p.idN,.int .i64 p.idR,.int .i64 p.parN,.int .i64 p.parR,.slice k1 p.key.length ck,.int .i64 p.kind,.slice n1 p.name.length cn,.slice t1 p.text.length ct,.slice a1 p.attrs.length ca] 117)).alloc (.cells #[.int .i64 p.idN,.int .i64 p.idR,.int .i64 p.parN,.int .i64 p.parR,.slice k1 p.key.length ck,.int .i64 p.kind,.slice n1 p.name.length cn,.slice t1 p.text.length ct,.slice a1 p.attrs.length ca] 117)).heap.size) from
      ⟨PlsQ.frm hK (Frm.ofBelow hb2 []) (fun _ _=>by simp),fun i u hiu=>by rw [zaX,Nat.zero_add,lE.cell i];simpa using hiu,zaa HR,fun q hq=>by
       rcases hq with hq | hq
       ·have:=hFr q hq;omega
       ·cases hq⟩)
     have HB2:=hide (And.intro (zad hB hb2) hb2.size)
     have hsz:(wr.alloc (.cells #[.int .i64 p.idN,.int .i64 p.idR,.int .i64 p.parN,.int .i64 p.parR,.slice k1 p.key.length ck,.int .i64 p.kind,.slice n1 p.name.length cn,.slice t1 p.text.length ct,.slice a1 p.attrs.length ca] 117)).heap.size=wr.heap.size+1:=by simp
     clear hAe lE hb2 hFr hs2 hx hK
     rw [hsz]at HP
     go_wp2_with (at_builtin;refine zgN (R:=PlQ w0) (fun h f d=>PlQ.frm h f d) rfl _ _ 56 rfl 117 i0 (.agg #[.int .i64 0,.int .i64 0,.int .i64 0,.int .i64 0,.slice none 0 0,.int .i64 0,.slice none 0 0,.slice none 0 0,.slice none 0 0]) 9 136 Tryz.underlying56 hi0 hz0 hz1 hz2 rfl (by decide) _ (zax l (iN,iR) (j+2)) Fk rfl (zaa HP).1 hKn ⟨wr.heap.size+1,0,none⟩ 1 [.int .i64 p.idN,.int .i64 p.idR,.int .i64 p.parN,.int .i64 p.parR,.slice k1 p.key.length ck,.int .i64 p.kind,.slice n1 p.name.length cn,.slice t1 p.text.length ct,.slice a1 p.attrs.length ca] p [] ?hx rfl (zaa HP).2.1 ?o1 (zaa HP).2.2.1 List.nodup_nil (fun _ _=>by simp) (zaa HP).2.2.2 ?o2 ?o3 ?_)
     case hx=>rfl
     case o1=>intro y hy;simp at hy;rcases hy with rfl | rfl | rfl | rfl | rfl | rfl | rfl | rfl | rfl<;>rfl
     case o2=>unfold maxLen;have:=zaa HKL;omega
     case o3=>have:=zaa HKL;omega
     intro g9 cap9 w9 F9 hF9 hN9 hM9 hf9 hg9
     obtain⟨hW4,hs4⟩:=zaa HB2
     have hvF:∀q∈FB (.slice av (zax l (iN,iR) (j+2)).length cv),q∈Fk:=fun q hq=>by
      obtain⟨_,_,_,_,_,_,e⟩:=(zaa HP).1
      rw [e]
      exact List.mem_append_left _ hq
     have hB1s:=hB.size
     have hW9:Below w1.heap.size w1 w9:=hW4.trans (hf9.below hW4.size (fun q hq=>(hKr q (hvF q hq)).1))
     have HO9:=hide (show PlsQ w0 w9 (.slice (some ⟨g9,0,none⟩) (zax l (iN,iR) (j+1+2)).length cap9) (zax l (iN,iR) (j+1+2)) F9 by
      rw [zaa HLX]
      have:((zax l (iN,iR) (j+2))++[p]).length=(zax l (iN,iR) (j+2)).length+1:=by simp
      rw [this]
      exact hF9)
     have HL9:=hide (show (zax l (iN,iR) (j+2)).length+1=(zax l (iN,iR) (j+1+2)).length by rw [zaa HLX];simp)
     have HR9:=hide (show Rng F9 w1.heap.size w9.heap.size from fun q hq=>⟨(hM9 q hq).elim (fun k=>(hKr q k).1) (fun k=>by rw [k];omega),PlsQ.lt (zaa HO9) q hq⟩)
     have HN9:=hide hN9
     have HW9:=hide hW9
     rw [zaa HL9]
     clear hF9 hM9 hN9 hf9 hW4 hvF hW9 HP HK HX x0 x1 x2 x3 x4 x5 x6 x7 x8 c0 c1 e0 e1 e2 e3 e4 e5 e6 e7 e8 hB hKr hs4 hB1s
     go_wp2_with fail
     go_roundw
     case rel=>exact⟨j+1,some ⟨g9,0,none⟩,cap9,F9,by omega,by go_num,rfl,zaa HO9,zaa HN9,zaa HR9,zaa HW9⟩
     case measure=>simp [intOf];omega
    ·have d1:(p.parN == iN)=true:=by simpa using q1
     have d2:(p.parR == iR)=false:=by simpa using q2
     have hne:¬ p.par=(iN,iR):=fun e=>q2 (Prod.mk.inj e).2
     clear q1 q2
     have hlx:zax l (iN,iR) (j+1+2)=zax l (iN,iR) (j+2):=by rw [show j+1+2=j+2+1 by omega,zaa HST,if_neg hne,List.append_nil]
     have HLX:=hide hlx
     clear hlx hne HST
     go_wp2_with fail
     go_roundw
     case rel=>
      obtain⟨hK,hKn,hKr,hB⟩:=zaa HK
      exact⟨j+1,av,cv,Fk,by omega,by go_num,by rw [zaa HLX],by rw [zaa HLX];exact PlsQ.frm hK (Frm.ofBelow (zaa HX) []) (fun _ _=>by simp),hKn,hKr.mono (Nat.le_refl _) (zaa HX).size,zad hB (zaa HX)⟩
     case measure=>simp [intOf];omega
   ·have d1:(p.parN == iN)=false:=by simpa using q1
    have hne:¬ p.par=(iN,iR):=fun e=>q1 (Prod.mk.inj e).1
    clear q1
    have hlx:zax l (iN,iR) (j+1+2)=zax l (iN,iR) (j+2):=by rw [show j+1+2=j+2+1 by omega,zaa HST,if_neg hne,List.append_nil]
    have HLX:=hide hlx
    clear hlx hne HST
    go_wp2_with fail
    go_roundw
    case rel=>
     obtain⟨hK,hKn,hKr,hB⟩:=zaa HK
     exact⟨j+1,av,cv,Fk,by omega,by go_num,by rw [zaa HLX],by rw [zaa HLX];exact PlsQ.frm hK (Frm.ofBelow (zaa HX) []) (fun _ _=>by simp),hKn,hKr.mono (Nat.le_refl _) (zaa HX).size,zad hB (zaa HX)⟩
    case measure=>simp [intOf];omega
  ·have e:j=m:=by omega
   have hnl:¬ (j:Int)<(m:Int):=by omega
   have hAr:=zad hA hB
   have hsw:=hB.size
   have hB0r:Below w0.heap.size w0 wr:=hB01.trans (hB.mono hB01.size)
   have HS:=hide (fun (ks:List PlV)=>zgP (ks:=ks) hu (iN,iR))
   have hkr:zax l (iN,iR) (j+2)=zax l (iN,iR) l.length:=by rw [e,hm]
   rw [hkr]at hK hkl
   clear hm e
   by_cases hk0:zax l (iN,iR) l.length=[]
   ·have HE:=hide (zaa HQ (.returned (.slice av 0 cv)) wr ⟨av,cv,[],Fk,rfl,by rw [hk0]at hK;exact hK,hKr.mono (by omega) (Nat.le_refl _),zaa HS [] (by rw [hk0]) (fun i j hi=>by cases hi),hAr⟩)
    rw [hkr,hk0]
    clear hK hu hB0r hB01 hB lb h1 b0 b1 lbr
    go_wp2_with fail
    refine (zgH _ _ _).mono ?_
    rintro e w2 ⟨rfl,rfl⟩
    go_wp2_with fail
    exact zaa HE
   ·obtain⟨gk,hav⟩:∃gk,av=some ⟨gk,0,none⟩:=by
     obtain⟨_,_,_,_,_,hrow,_⟩:=hK
     rcases hrow.2 with ⟨_,e0⟩ | ⟨g',cap',cur,e0,_⟩
     ·exact absurd (List.length_eq_zero_iff.1 e0) hk0
     ·injection e0 with e1 _ _;exact⟨g',e1⟩
    subst hav
    have hgk:gk∈Fk:=by
     obtain⟨_,_,_,_,_,_,e⟩:=hK
     rw [e]
     exact List.mem_append_left _ (by simp [FB,Value.ownBlock])
    have hgr:=hKr gk hgk
    have HP:=hide (znf w0 wr gk cv _ Fk hK hk0 hkl hB0r (by have:=hB01.size;omega))
    rw [hkr]
    have hpl:∀ks:List PlV,ks.Perm (zax l (iN,iR) l.length)→ks.length=(zax l (iN,iR) l.length).length:=fun ks h=>h.length_eq
    have HL:=hide hpl
    have HAR:=hide hAr
    clear hpl hAr hK hu hB0r hB01 hB lb h1 b0 b1 lbr
    generalize zax l (iN,iR) l.length=kr at *
    go_wp2_with fail
    refine (zaa HP).mono ?_
    rintro e w2 ⟨rfl,ks,hp,hs,hQ,hf⟩
    have hA2:=(zaa HAR).trans (hf.below (by have:=(zaa HAR).size;omega) (fun q hq=>by simp at hq;omega))
    have hlk:=zaa HL ks hp
    have HE:=hide (zaa HQ (.returned (.slice (some ⟨gk,0,none⟩) ks.length cv)) w2 ⟨_,_,ks,[gk],rfl,hQ,fun q hq=>by simp at hq;have:=hf.size;omega,zaa HS ks hp hs,hA2⟩)
    rw [hlk]at HE
    clear hA2 hlk hQ hf hs hp HL HP
    go_wp2_with fail
    exact zaa HE
set_option maxHeartbeats 1600000 in
theorem zfh (w:World) (p:PlV) (k n t a:Option Addr) (ck cn ct ca:Nat) :
  Calls Tryz.prog 57 #[.agg #[.int .i64 p.idN,.int .i64 p.idR,.int .i64 p.parN,.int .i64 p.parR,.slice k p.key.length ck,.int .i64 p.kind,.slice n p.name.length cn,.slice t p.text.length ct,.slice a p.attrs.length ca]] w fun e w'=>e=.returned (.agg #[.int .i64 p.kind,.slice n p.name.length cn,.slice t p.text.length ct,.slice a p.attrs.length ca,.slice none 0 0])∧Below w.heap.size w w':=by
 have hA:=((Below.refl w.heap.size w).alloc (Nat.le_refl _) (.cells #[.int .i64 p.idN,.int .i64 p.idR,.int .i64 p.parN,.int .i64 p.parR,.slice k p.key.length ck,.int .i64 p.kind,.slice n p.name.length cn,.slice t p.text.length ct,.slice a p.attrs.length ca] 117)).alloc (by simp) (.cells #[.int .i64 p.kind,.slice n p.name.length cn,.slice t p.text.length ct,.slice a p.attrs.length ca,.slice none 0 0] 37)
 have HA:=hide hA
 clear hA
 go_enter Tryz.func57,Tryz.ntmps57
 go_wp2
 exact bodyPost_ret (v:=.agg #[.int .i64 p.kind,.slice n p.name.length cn,.slice t p.text.length ct,.slice a p.attrs.length ca,.slice none 0 0]) (by simp [results,Tryz.results57,go_sem]) rfl ⟨rfl,zaa HA⟩
theorem znF {p:PlV}:zbb p=(decide ((zaG p).kids.length=0) && zbw (zaG p)):=by
 have hk:(zaG p).kids=[]:=rfl
 unfold zbb
 rw [zbj,if_neg (by omega),hk]
 by_cases h1:(zaG p).kind=1
 ·rw [if_pos h1,zff h1];simp
 ·rw [if_neg h1,zdK h1]
  by_cases h2:zaP (zaG p)=true
  ·rw [if_pos h2,h2];rfl
  ·rw [if_neg h2];simp [h2]
set_option maxHeartbeats 1600000 in
theorem znY (w0 w:World) (p:PlV) (n t a:Option Addr) (cn ct ca:Nat) (h1:Byt w0 (.slice n p.name.length cn) p.name) (h2:Byt w0 (.slice t p.text.length ct) p.text) (h3:RdAttrs w0 (.slice a p.attrs.length ca) p.attrs) (hb:Below w0.heap.size w0 w) (hK : -9223372036854775808≤p.kind∧p.kind≤9223372036854775807) :
  Calls Tryz.prog 56 #[.agg #[.int .i64 p.kind,.slice n p.name.length cn,.slice t p.text.length ct,.slice a p.attrs.length ca,.slice none 0 0]] w fun e w'=>e=.returned (.bool (zbb p))∧Below w.heap.size w w':=by
 refine zaf ?_
 intro Q HQ
 have hN:RdNode 1 w0 [.int .i64 p.kind,.slice n p.name.length cn,.slice t p.text.length ct,.slice a p.attrs.length ca,.slice none 0 0] (zaG p):=⟨_,_,_,_,rfl,hK.1,hK.2,h1,h2,h3,Nat.zero_le _,.inl ⟨rfl,rfl⟩⟩
 have hA:Below w.heap.size w ((w.alloc (.cells #[.int .i64 p.kind,.slice n p.name.length cn,.slice t p.text.length ct,.slice a p.attrs.length ca,.slice none 0 0] 37)).alloc (.cells vs0 110)):=((Below.refl w.heap.size w).alloc (Nat.le_refl _) _).alloc (by simp) _
 have lv:=Loc.made (w.alloc (.cells #[.int .i64 p.kind,.slice n p.name.length cn,.slice t p.text.length ct,.slice a p.attrs.length ca,.slice none 0 0] 37)) vs0 110
 simp only [World.size_alloc]at lv
 have hs:=hb.size
 have hlp:=znF (p:=p)
 have hk0:decide ((zaG p).kids.length=0)=true:=rfl
 rw [hk0,Bool.true_and]at hlp
 have HX:=hide (And.intro hA (And.intro lv (And.intro hN hb)))
 have HL:=hide hlp
 clear hA lv hN h1 h2 h3 hb hK hlp hk0
 go_enter Tryz.func56,Tryz.ntmps56
 go_wp2_with fail
 obtain⟨hA,lv,hN,hb⟩:=zaa HX
 refine (ziN w.heap.size 0 w0 _ _ _ _ _ _ (zaG p) (w.heap.size+1) hN (hb.trans (hA.mono hs)) (by omega) (.inl lv) hA.size).mono ?_
 rintro e w2 ⟨rfl,-,hf⟩
 rw [←zaa HL]
 have HE:=hide (zaa HQ _ w2 ⟨rfl,hA.trans (hf.below hA.size (fun q hq=>by simp at hq;omega))⟩)
 clear hA lv hN hb hf HX
 generalize zbb p=b at *
 go_wp2_with fail
 exact zaa HE
set_option maxHeartbeats 1600000 in
theorem zdC (w:World) (v:Value) (l:List Int) (h:Byt w v l) (hl:l.length≤67108864) :
  Calls Tryz.prog 123 #[v] w fun e w'=>∃v',e=.returned v'∧Own w' w.heap.size v' l∧Below w.heap.size w w':=by
 by_cases hv:v=.slice none 0 0
 ·subst hv
  have hl0:l=[]:=by
   obtain⟨a,c,e,_⟩:=h.shape
   injection e with _ e2 _
   exact List.eq_nil_of_length_eq_zero e2.symm
  subst hl0
  have hq:=Lib.run_eql_slice_nil_nil (P:=Tryz.prog) w 0 0 Tryz.underlying22
  go_enter Tryz.func123,Tryz.ntmps123
  go_wp2_with fail
  go_ret
  exact⟨_,rfl,⟨zbJ,World.ownsRow_nil _ _ _ _⟩,Below.refl _ _⟩
 ·obtain⟨x,c,rfl⟩:∃x c,v=.slice (some x) l.length c:=by
   obtain⟨_,_,⟨e,_⟩ | ⟨x,cap,rfl,hc,rfl⟩ | ⟨p,off,cap,rfl,_⟩⟩:=h
   ·exact absurd e hv
   ·exact⟨x,cap,rfl⟩
   ·exact⟨_,cap,rfl⟩
  have hq:=Lib.run_eql_slice_some_nil (P:=Tryz.prog) w x l.length c Tryz.underlying22
  go_enter Tryz.func123,Tryz.ntmps123
  go_wp2_with (at_builtin;refine zcZ rfl _ _ rfl w.heap.size _ [] rfl (zkD w) _ l rfl (h.alloc _) ?c1 ?c2 ?_)
  case c1=>first | omega | (simp;omega)
  case c2=>simp
  intro v1 w1 ho1 hg1
  have hB1:Below w.heap.size w w1:=zdX ((Below.refl _ _).alloc (Nat.le_refl _) _) hg1 (fun g hg=>by simp [Value.ownBlock]at hg;omega)
  clear hg1
  go_wp2
  go_ret
  exact⟨_,rfl,ho1,hB1⟩
theorem Tryz.info144:(Tryz.prog.info? 144).map (fun i=>(i.zero,i.size,i.bytes))=some (some (.agg #[.slice none 0 0,.slice none 0 0]),2,48):=by kernel_rfl
theorem Tryz.info37:(Tryz.prog.info? 37).map (fun i=>(i.zero,i.size,i.bytes))=some (some (.agg #[.int .i64 0,.slice none 0 0,.slice none 0 0,.slice none 0 0,.slice none 0 0]),5,104):=by kernel_rfl
theorem zrt {l:List (List Int×List Int)} {k:Nat} (h:k<l.length):l[k].1.length+l[k].2.length≤szA l:=by
 have h1:=zdR (fun x:List Int×List Int=>x.1.length+x.2.length) l k h
 have h2:=zfq (fun x:List Int×List Int=>x.1.length+x.2.length) l (k+1)
 unfold szA
 omega
theorem zrB {n:Nat} {l:List (Tr n)} {k:Nat} (h:k<l.length):szT n l[k]≤szK n l:=by
 have h1:=zdR (szT n) l k h
 have h2:=zfq (szT n) l (k+1)
 unfold szK
 omega
set_option maxHeartbeats 3200000 in
theorem zlc (w:World) (v:Value) (l:List (List Int×List Int)) (h:RdAttrs w v l) (hs:szA l≤2097152) :
  Calls Tryz.prog 43 #[v] w fun e w'=>∃a c,e=.returned (.slice a l.length c)∧∃F,OwAttrs w' (.slice a l.length c) l F∧F.Nodup∧Rng F w.heap.size w'.heap.size∧Below w.heap.size w w':=by
 obtain⟨i0,hi,hz0,hz1,hz2⟩:=info_parts Tryz.info144
 have hm:=h.1
 have hlen:l.length≤2097152:=by unfold szA at hs;omega
 by_cases h0:l=[]
 ·obtain⟨a,cap,rfl,_⟩:=Elems.shape h
  subst h0
  go_enter Tryz.func43,Tryz.ntmps43
  go_wp2_with (at_make;refine wpList_make_full _ rfl _ _ 34 rfl w.heap.size 144 i0 _ 2 Tryz.underlying34 hi hz0 hz1 .i64 .i64 _ _ 0 rfl rfl rfl rfl ?c1 ?c2 ?c3 ?_)
  case c1=>rw [hz2];omega
  case c2=>exact Nat.zero_le _
  case c3=>exact Nat.le_refl _
  intro w1 hown hgrow
  have hB1:=Below.ofGrown hgrow
  have hH:=(Half.start (α:=List Int×List Int) (l:=[]) (R:=OwAttr w1) (w.heap.size+1) (zbk hown 0 (Nat.zero_le _))).whole rfl (by omega)
  have HH:=hide hH
  clear hown hgrow hH
  go_wp2_with fail
  refine wp_loop_rounds 1 ?_
  rw [rounds_succ]
  go_wp2_with fail
  go_ret
  obtain⟨F,hF,hnd,hr⟩:=zaa HH
  exact⟨_,_,rfl,F,hF,hnd,hr,hB1⟩
 obtain⟨_,⟨_,e⟩ | ⟨_,_,_,_,e⟩ | ⟨b,off,cap,rfl,g1,g2,g3,g4,g5⟩⟩:=h
 ·exact absurd e h0
 ·exact absurd e h0
 go_enter Tryz.func43,Tryz.ntmps43
 go_wp2_with (at_make;refine wpList_make_full _ rfl _ _ 34 rfl w.heap.size 144 i0 _ 2 Tryz.underlying34 hi hz0 hz1 .i64 .i64 _ _ l.length rfl rfl rfl rfl ?c1 ?c2 ?c3 ?_)
 case c1=>rw [hz2];omega
 case c2=>exact hm
 case c3=>exact Nat.le_refl _
 intro w1 hown hgrow
 have hB1:=Below.ofGrown hgrow
 have hH:=Half.start (α:=List Int×List Int) (l:=l) (R:=OwAttr w1) (w.heap.size+1) (zbk hown 0 (Nat.zero_le _))
 have hlt1:=(hown.lt w.heap.size rfl).2
 clear hown hgrow
 go_wp2_with fail
 go_loopw [4] (fun i wr=>∃k:Nat,k≤l.length∧i=.int .i64 k∧Half wr 144 2 w.heap.size l.length l (OwAttr wr) (w.heap.size+1) k∧Below w.heap.size w wr∧w.heap.size+1≤wr.heap.size) (fun i _=>l.length-(intOf i).toNat)
 case atStart=>exact⟨0,Nat.zero_le _,rfl,hH,hB1,by omega⟩
 case round=>
  obtain⟨k,hk,rfl,hr,hB,hsz⟩:=hrel
  clear hH hB1 hlt1
  by_cases hlt:k<l.length
  ·obtain⟨c0,c1,e0,e1,hc⟩:=zeP (g5 k hlt)
   obtain⟨_,_,ee,hc0,hc1⟩:=hc
   simp only [List.cons.injEq,and_true]at ee
   obtain⟨rfl,rfl⟩:=ee
   replace e0:=(hB.cell (p:=⟨b,off+k*2,none⟩) g4).trans e0
   replace e1:=(hB.cell (p:=⟨b,off+k*2+1,none⟩) g4).trans e1
   have hlt':(k:Int)<(l.length:Int):=by omega
   clear g5
   go_wp2_with fail
   refine (zmR wr _ _ l[k] (hc0.keep hB) (hc1.keep hB) (by have:=zrt hlt;omega)).mono ?_
   rintro e w2 ⟨a1,k1,a2,k2,rfl,G,hO,hnd,hrg,hB2⟩
   have hrow:∃xs:List Value,w2.ownsRow 0 144 2 (.slice (some ⟨w.heap.size,0,none⟩) l.length l.length) l.length xs:=by
    obtain⟨_,_,xs,_,_,_,h4,_⟩:=hr.laid
    exact⟨xs,zah h4 (Frm.ofBelow hB2 []) (fun _ _=>by simp)⟩
   obtain⟨xs,hx⟩:=hrow
   have hxl:=hx.1
   have q0:w2.cell? ⟨w.heap.size,k*2,none⟩=some (xs[k*2]'(by omega)):=by rw [hx.cellAt (k*2) (by omega),List.getElem?_eq_getElem (by omega)]
   have q1:w2.cell? ⟨w.heap.size,k*2+1,none⟩=some (xs[k*2+1]'(by omega)):=by rw [hx.cellAt (k*2+1) (by omega),List.getElem?_eq_getElem (by omega)]
   have f0:=hx.frozenAt (k*2)
   have f1:=hx.frozenAt (k*2+1)
   generalize xs[k*2]'(by omega)=y0 at q0
   generalize xs[k*2+1]'(by omega)=y1 at q1
   have hf:Frm w2 ((w2.setCell ⟨w.heap.size,k*2,none⟩ (.slice a1 l[k].1.length k1)).setCell ⟨w.heap.size,k*2+1,none⟩ (.slice a2 l[k].2.length k2)) [w.heap.size]:=(zab w2 _ _ _).trans (zab _ _ _ _)
   have hstep:Half ((w2.setCell ⟨w.heap.size,k*2,none⟩ (.slice a1 l[k].1.length k1)).setCell ⟨w.heap.size,k*2+1,none⟩ (.slice a2 l[k].2.length k2)) 144 2 w.heap.size l.length l (OwAttr ((w2.setCell ⟨w.heap.size,k*2,none⟩ (.slice a1 l[k].1.length k1)).setCell ⟨w.heap.size,k*2+1,none⟩ (.slice a2 l[k].2.length k2))) (w.heap.size+1) (k+1):=by
    refine hr.step hlt (by omega) hsz hB2 [.slice a1 l[k].1.length k1,.slice a2 l[k].2.length k2] G rfl ?_ hnd hrg ?_ hf ?_
    ·obtain⟨_,_,e,o1,o2,rfl⟩:=hO
     exact⟨_,_,e,o1.frm hf (fun g hg=>by have:=hrg g (by simp [hg]);simp;omega),o2.frm hf (fun g hg=>by have:=hrg g (by simp [hg]);simp;omega),rfl⟩
    ·rintro C x G' ⟨u1,u2,e,o1,o2,rfl⟩ hne
     have hfb:=(Frm.ofBelow hB2 [w.heap.size]).trans hf
     exact⟨_,_,e,o1.frm hfb (fun g hg=>by have:=hne g (by simp [hg]);simp;omega),o2.frm hfb (fun g hg=>by have:=hne g (by simp [hg]);simp;omega),rfl⟩
    ·intro zs hz
     have hzl:=hz.1
     have t1:=(hz.stored (k*2) (.slice a1 l[k].1.length k1)).1
     have t2:=(t1.stored (k*2+1) (.slice a2 l[k].2.length k2)).1
     exact⟨_,t2,zkk zs (k*2) _ _ (by omega)⟩
   have HS:=hide hstep
   have HB:=hide (hB.trans ((hB2.mono hB.size).trans (hf.below (by have:=hB2.size;have:=hB.size;omega) (fun g hg=>by simp at hg;omega))))
   have hs2:=hB2.size
   clear hstep hf hx hO hr hB2 hB e0 e1 hc0 hc1 hrg hnd
   go_wp2_with fail
   go_roundw
   case rel=>exact⟨k+1,by omega,by go_num,zaa HS,zaa HB,by simp;omega⟩
   case measure=>simp [intOf];omega
  ·have e:k=l.length:=by omega
   subst e
   have HW:=hide (hr.whole rfl (by omega))
   clear hr g5
   go_wp2_with fail
   go_ret
   obtain⟨F,hF,hnd,hrg⟩:=zaa HW
   exact⟨_,_,rfl,F,hF,hnd,hrg,hB⟩
theorem zrp (w:World) (x y:Value) (T:TypeId):∀(j:Nat) (u:Value),[x,y][j]? = some u→(w.alloc (.cells #[x,y] T)).cell? ((⟨w.heap.size,0,none⟩:Addr).add j)=some u:=by
 intro j u hu
 exact World.news_of_block (heap_alloc_new w (.cells #[x,y] T)) j u (by simpa using hu)
theorem zpz {w w':World} {b b':Nat} {u v:Value} {l m:List Int} (h:Own w b u l) (k:Own w' b' v m) (hs:w.heap.size≤b'):(FB u++FB v).Nodup∧∀q∈FB u++FB v,q<w'.heap.size∨q<w.heap.size:=by
 refine⟨List.nodup_append.2 ⟨?_,?_,?_⟩,?_⟩
 ·unfold FB;cases u.ownBlock<;>simp
 ·unfold FB;cases v.ownBlock<;>simp
 ·intro a ha c hc e
  have h1:=(h.lt a (by simpa [FB]using ha)).2
  have h2:=(k.lt c (by simpa [FB]using hc)).1
  omega
 ·intro q hq
  rcases List.mem_append.1 hq with hq | hq
  ·exact .inr (h.lt q (by simpa [FB]using hq)).2
  ·exact .inl (k.lt q (by simpa [FB]using hq)).2
theorem zqc {w0n:Nat} {wr w2 w3:World} {b2:Nat} {v v2 v3:Value} {l:List (List Int×List Int)} {x1 x2:List Int} {F:List Nat} (hE:Below wr.heap.size wr w3) (h2:Own w2 b2 v2 x1) (hB3:Below w2.heap.size w2 w3) (h3:Own w3 w2.heap.size v3 x2) (hs:wr.heap.size<w2.heap.size)
  (hF:OwElems wr 144 2 v l (OwAttr wr) F) (hR:Rng F w0n wr.heap.size) (hb2:wr.heap.size<b2) {A:Array Value} {T:TypeId} :
  OwElems (w3.alloc (.cells A T)) 144 2 v l (OwAttr (w3.alloc (.cells A T))) F∧OwAttr (w3.alloc (.cells A T)) [v2,v3] (x1,x2) (FB v2++FB v3)∧(FB v2++FB v3).Nodup∧(∀g∈F,g∉FB v2++FB v3)∧(∀q,q∈F∨q∈FB v2++FB v3→q<(w3.alloc (.cells A T)).heap.size)∧(wr.heap.size∉FB v)∧(∀q∈FB v,q∈F)∧(∀q∈FB v2++FB v3,wr.heap.size<q):=by
 have hE4:Below wr.heap.size wr (w3.alloc (.cells A T)):=zad hE ((Below.refl _ _).alloc (Nat.le_refl _) _)
 have h24:Own (w3.alloc (.cells A T)) b2 v2 x1:=(h2.keep hB3).alloc _
 have h34:Own (w3.alloc (.cells A T)) w2.heap.size v3 x2:=h3.alloc _
 have hFl:∀g∈F,g<wr.heap.size:=fun g hg=>(hR g hg).2
 obtain⟨nd,_⟩:=zpz h2 h3 (Nat.le_refl _)
 have hge:∀q∈FB v2++FB v3,wr.heap.size<q∧q<(w3.alloc (.cells A T)).heap.size:=by
  intro q hq
  rcases List.mem_append.1 hq with hq | hq
  ·have:=h24.lt q (by simpa [FB]using hq);omega
  ·have:=h34.lt q (by simpa [FB]using hq);have:=(h2.lt);have h5:=hs;exact⟨by have:=h24.lt;omega,by omega⟩
 refine⟨OwAttrs.frm hF (Frm.ofBelow hE4 []) (fun _ _=>by simp),⟨v2,v3,rfl,h24.mono (Nat.zero_le _),h34.mono (Nat.zero_le _),rfl⟩,nd,fun g hg hg'=>by have:=hFl g hg;have:=(hge g hg').1;omega,fun q hq=> ?_,fun hq=> ?_,fun q hq=> ?_,fun q hq=>(hge q hq).1⟩
 ·rcases hq with hq | hq
  ·have:=hFl q hq;have:=hE4.size;omega
  ·exact (hge q hq).2
 ·obtain⟨_,_,_,_,_,h5,rfl⟩:=hF
  have:=hFl _ (List.mem_append_left _ hq)
  omega
 ·obtain⟨_,_,_,_,_,h5,rfl⟩:=hF
  exact List.mem_append_left _ hq
set_option maxHeartbeats 6400000 in
theorem zjm (w:World) (v:Value) (l:List (List Int×List Int)) (h:RdAttrs w v l) (hl:l.length≤4194304) (hx:∀x∈l,x.1.length≤4194304∧x.2.length≤4194304) :
  Calls Tryz.prog 126 #[v] w fun e w'=>∃u,e=.returned u∧∃F,OwAttrs w' u l F∧F.Nodup∧Rng F w.heap.size w'.heap.size∧Below w.heap.size w w':=by
 obtain⟨ad,cd,rfl,_,_⟩:=Elems.shape h
 obtain⟨i0,hi,hz0,hz1,hz2⟩:=info_parts Tryz.info144
 have hm:(l.length:Int)≤9223372036854775807:=by omega
 go_enter Tryz.func126,Tryz.ntmps126
 go_wp2_with fail
 go_loopw [3,8] (fun b i wr=>∃j:Nat,j≤l.length∧i=.int .i64 j∧∃F,OwAttrs wr b (l.take j) F∧F.Nodup∧Rng F w.heap.size wr.heap.size∧Below w.heap.size w wr) (fun _ i _=>l.length-(intOf i).toNat)
 case atStart=>exact⟨0,Nat.zero_le _,rfl,[],⟨[],[],by simp,by simp,fun i hi=>by simp at hi,World.ownsRow_nil _ _ _ _,rfl⟩,List.nodup_nil,fun g hg=>by simp at hg,Below.refl _ _⟩
 case round=>
  obtain⟨j,hj,rfl,F,hF,hN,hRg,hB⟩:=hrel
  by_cases hjl:j<l.length
  ·have hst:l.take (j+1)=l.take j++[l[j]]:=List.take_succ_eq_append_getElem hjl
   obtain⟨pb,poff,rfl,hpl,hun,_,C,hC,hcell,hra⟩:=h.at hjl
   clear hun
   have hxl:=hx l[j] (List.getElem_mem hjl)
   obtain⟨x,hxx⟩:∃x,x=l[j]:=⟨_,rfl⟩
   rw [←hxx]at hra hst hxl
   obtain⟨y0,y1,rfl,hy0,hy1⟩:=hra
   have q0:=hcell 0 (by omega)
   have q1:=hcell 1 (by omega)
   simp only [List.getElem?_cons_zero,List.getElem?_cons_succ,Nat.add_zero]at q0 q1
   obtain⟨s0,g0,rfl,_,_⟩:=hy0.shape
   obtain⟨s1,g1,rfl,_,_⟩:=hy1.shape
   have u0:wr.cell? ⟨pb,poff+j*2,none⟩=some (.slice s0 x.1.length g0):=(hB.cell (p:=⟨pb,poff+j*2,none⟩) hpl).trans q0
   have u1:wr.cell? ⟨pb,poff+j*2+1,none⟩=some (.slice s1 x.2.length g1):=(hB.cell (p:=⟨pb,poff+j*2+1,none⟩) hpl).trans q1
   have hjl':(j:Int)<(l.length:Int):=by omega
   have hB1:Below wr.heap.size wr (wr.alloc (.cells #[.slice s0 x.1.length g0,.slice s1 x.2.length g1] 144)):=(Below.refl _ _).alloc (Nat.le_refl _) _
   have a1:=Loc.made wr #[.slice s0 x.1.length g0,.slice s1 x.2.length g1] 144
   have HF:=hide (show OwElems wr 144 2 _ (l.take j) (OwAttr wr) F from hF)
   have hlj:(l.take j).length=j:=by rw [List.length_take];omega
   have HST:=hide hst
   clear hF hst hxx hcell
   go_wp2_with fail
   generalize (wr.alloc (.cells #[.slice s0 x.1.length g0,.slice s1 x.2.length g1] 144))=w1 at *
   have hW1:=zad hB hB1
   have H1:=hide (zdC w1.drew (.slice s0 x.1.length g0) x.1 (hy0.keep (hW1.drew)) (by omega))
   have ad0:=a1.all ((Below.refl w1.heap.size w1).drew)
   have z0:w1.drew.cell? ⟨wr.heap.size,0,none⟩=some (.slice s0 x.1.length g0):=ad0.cell 0
   have z1:w1.drew.cell? ⟨wr.heap.size,1,none⟩=some (.slice s1 x.2.length g1):=ad0.cell 1
   have b0:w1.cell? ⟨wr.heap.size,0,none⟩=some (.slice s0 x.1.length g0):=a1.cell 0
   have b1:w1.cell? ⟨wr.heap.size,1,none⟩=some (.slice s1 x.2.length g1):=a1.cell 1
   have HR:=hide hRg
   have HNd:=hide hN
   clear hRg hN u0 u1
   go_region_held3 (fun w'=>w'.cell? ⟨wr.heap.size,0,none⟩=some (.slice s0 x.1.length g0)∧w'.cell? ⟨wr.heap.size,1,none⟩=some (.slice s1 x.2.length g1))
    (first | exact⟨by assumption,by assumption⟩ | simp [*])
    (first
     | (go_at_call 123;refine (zaa H1).mono ?_;clear H1;rintro e w2 ⟨v2,rfl,ho2,hB2⟩;have a2:=ad0.all hB2;have z0:w2.cell? ⟨wr.heap.size,0,none⟩=some (.slice s0 x.1.length g0):=a2.cell 0;have z1:w2.cell? ⟨wr.heap.size,1,none⟩=some (.slice s1 x.2.length g1):=a2.cell 1;have hW2:=zad hW1.drew hB2;have hE2:Below wr.heap.size wr w2:=zad hB1.drew hB2;obtain⟨p2,k2,hv2,_,_⟩:=ho2.byt.shape;subst hv2)
     | (go_at_call 123;refine (zdC w2 (.slice s1 x.2.length g1) x.2 (hy1.keep hW2) (by omega)).mono ?_;rintro e w3 ⟨v3,rfl,ho3,hB3⟩;have a3:=a2.all hB3;have z0:w3.cell? ⟨wr.heap.size,0,none⟩=some (.slice s0 x.1.length g0):=a3.cell 0;have z1:w3.cell? ⟨wr.heap.size,1,none⟩=some (.slice s1 x.2.length g1):=a3.cell 1;have hW3:=zad hW2 hB3;have hE3:Below wr.heap.size wr w3:=zad hE2 hB3;obtain⟨p3,k3,hv3,_,_⟩:=ho3.byt.shape;subst hv3;have z0':(w3.alloc (.cells #[.slice p2 x.1.length k2,.slice p3 x.2.length k3] 144)).cell? ⟨wr.heap.size,0,none⟩=some (.slice s0 x.1.length g0):=(a3.alloc _).cell 0;have z1':(w3.alloc (.cells #[.slice p2 x.1.length k2,.slice p3 x.2.length k3] 144)).cell? ⟨wr.heap.size,1,none⟩=some (.slice s1 x.2.length g1):=(a3.alloc _).cell 1;have HY:=hide (zqc (A:= #[.slice p2 x.1.length k2,.slice p3 x.2.length k3]) (T:=144) hE3 ho2 hB3 ho3 (Nat.lt_of_lt_of_le a1.lt hB2.size) (zaa HF) (zaa HR) a1.lt))
     | (refine zbO (R:=OwAttr) (fun h f d=>OwAttr.frm h f d) rfl (.tmp 12) (.tmp 20) 34 rfl 144 i0 (.agg #[.slice none 0 0,.slice none 0 0]) 2 48 Tryz.underlying34 hi hz0 hz1 hz2 rfl (by decide) _ (l.take j) F (by rfl) (zaa HY).1 (zaa HNd) ⟨w3.heap.size,0,none⟩ 1 [.slice p2 x.1.length k2,.slice p3 x.2.length k3] x (FB (.slice p2 x.1.length k2)++FB (.slice p3 x.2.length k3)) (by rfl) rfl (zrp w3 _ _ _) (by intro y hy;simp at hy;rcases hy with rfl | rfl<;>rfl) (zaa HY).2.1 (zaa HY).2.2.1 (zaa HY).2.2.2.1 (zaa HY).2.2.2.2.1 (by rw [hlj];unfold maxLen;omega) (by rw [hlj];omega) ?_;intro g9 cap9 w9 F9 hF9 hN9 hM9 hf9 hg9;have a9:=(a3.alloc (.cells #[.slice p2 x.1.length k2,.slice p3 x.2.length k3] 144)).frm hf9 ((zaa HY).2.2.2.2.2.1);have z0:w9.cell? ⟨wr.heap.size,0,none⟩=some (.slice s0 x.1.length g0):=a9.cell 0;have z1:w9.cell? ⟨wr.heap.size,1,none⟩=some (.slice s1 x.2.length g1):=a9.cell 1))
   have hW4:Below w.heap.size w (w3.alloc (.cells #[.slice p2 x.1.length k2,.slice p3 x.2.length k3] 144)):=zad hW3 ((Below.refl _ _).alloc (Nat.le_refl _) _)
   have hW9:Below w.heap.size w w9:=hW4.trans (hf9.below hW4.size (fun q hq=>(zaa HR q ((zaa HY).2.2.2.2.2.2.1 q hq)).1))
   have HO9:=hide (show OwAttrs w9 (.slice (some ⟨g9,0,none⟩) (j+1) cap9) (l.take (j+1)) F9 by
    rw [zaa HST]
    rw [hlj]at hF9
    exact hF9)
   have HR9:=hide (show Rng F9 w.heap.size w9.heap.size from fun q hq=>⟨by
    rcases hM9 q hq with k | k | k
    ·exact (zaa HR q k).1
    ·have:=(zaa HY).2.2.2.2.2.2.2 q k;have:=hB.size;omega
    ·rw [k];exact hW4.size,OwAttrs.lt (zaa HO9) q hq⟩)
   clear hF9 hM9
   go_wp2_with fail
   go_roundw
   case rel=>exact⟨j+1,by omega,by go_num,F9,zaa HO9,hN9,zaa HR9,hW9⟩
   case measure=>simp [intOf];omega
  ·have e:j=l.length:=by omega
   subst e
   rw [List.take_length]at hF
   go_wp2_with fail
   go_ret
   exact⟨_,rfl,F,hF,hN,hRg,hB⟩
def Cl1 (w1:World) (bn pr:Nat) (T0 nmv txv atv:Value) (kd:Int) (ln lt:List Int) (la:List (List Int×List Int)) (L:Array Bool) (a:Act) (w:World):Prop:=
 ∃b0 b1 b2 b3 b4 b5 b6 b7 b8 b9 b10 b11 b12 x3 x4 x5 x6 x7 x8 x9 x10 x11 x12 x13 x14,L = #[b0,b1,b2,b3,b4,b5,b6,b7,b8,b9,b10,b11,b12]∧a={ tmps:= #[T0,.pointer (some ⟨bn,0,none⟩),.pointer (some ⟨pr,0,none⟩),x3,x4,x5,x6,x7,x8,x9,x10,x11,x12,x13,x14],defers:=[] }∧Frm w1 w [pr]∧Loc w pr (if b12=true then #[.int .i64 kd,x7,x10,x13,.slice none 0 0] else #[.int .i64 0,.slice none 0 0,.slice none 0 0,.slice none 0 0,.slice none 0 0]) 37∧(b0=true→x3=.pointer (some ⟨bn,0,none⟩))∧(b1=true→x4=.int .i64 kd)∧(b2=true→x5=.pointer (some ⟨bn,1,none⟩))∧(b3=true→x6=nmv)∧(b4=true→Own w w1.heap.size x7 ln)∧(b5=true→x8=.pointer (some ⟨bn,2,none⟩))∧(b6=true→x9=txv)∧(b7=true→b4=true∧Own w w1.heap.size x10 lt∧∀q∈FB x10,q∉FB x7)∧(b8=true→x11=.pointer (some ⟨bn,3,none⟩))∧(b9=true→x12=atv)∧(b10=true→b7=true∧∃Fa,OwAttrs w x13 la Fa∧Fa.Nodup∧Rng Fa w1.heap.size w.heap.size∧∀q∈Fa,q∉FB x7∧q∉FB x10)∧(b11=true→b10=true∧x14=.agg #[.int .i64 kd,x7,x10,x13,.slice none 0 0])∧(b12=true→b11=true)
theorem zol {i:Nat} (h:i<13):i=0∨i=1∨i=2∨i=3∨i=4∨i=5∨i=6∨i=7∨i=8∨i=9∨i=10∨i=11∨i=12:=by omega
set_option maxHeartbeats 6400000 in
theorem zeg (n:Nat) (w0:World) (a b c d e:Value) (t:Tr (n+1)) (hrd:RdNode (n+1) w0 [a,b,c,d,e] t) (hsz:szT (n+1) t≤2097152) :
  Calls Tryz.prog 94 #[.agg #[a,b,c,d,e]] w0 fun e w'=>∃p2 k2 p3 k3 p4 k4,e=.returned (.agg #[.int .i64 t.kind,.slice p2 t.name.length k2,.slice p3 t.text.length k3,.slice p4 t.attrs.length k4,.slice none 0 0])∧
   ∃Fa,Own w' 0 (.slice p2 t.name.length k2) t.name∧Own w' 0 (.slice p3 t.text.length k3) t.text∧OwAttrs w' (.slice p4 t.attrs.length k4) t.attrs Fa∧(FB (.slice p2 t.name.length k2)++FB (.slice p3 t.text.length k3)++Fa).Nodup∧Rng (FB (.slice p2 t.name.length k2)++FB (.slice p3 t.text.length k3)++Fa) (w0.heap.size+2) w'.heap.size∧Below w0.heap.size w0 w':=by
 have hszT:szT (n+1) t=t.name.length+t.text.length+szA t.attrs+(t.kids.length+(t.kids.map (szT n)).sum):=rfl
 obtain⟨_,_,_,_,e0,k1,k2,hb,hc,hd,he⟩:=hrd
 simp only [List.cons.injEq,and_true]at e0
 obtain⟨rfl,rfl,rfl,rfl,rfl⟩:=e0
 obtain⟨ab,cb,rfl,_,_⟩:=hb.shape
 obtain⟨ac,cc,rfl,_,_⟩:=hc.shape
 obtain⟨ad,cd,rfl,_,_⟩:=Elems.shape hd
 obtain⟨ae,ce,rfl,_,_⟩:=Elems.shape he
 obtain⟨l0,l1,hB1⟩:=two w0 #[.int .i64 t.kind,.slice ab t.name.length cb,.slice ac t.text.length cc,.slice ad t.attrs.length cd,.slice ae t.kids.length ce] #[.int .i64 0,.slice none 0 0,.slice none 0 0,.slice none 0 0,.slice none 0 0] 37 37
 have hal:t.attrs.length≤4194304:=by unfold szA at hszT;omega
 have hnl:t.name.length≤4194304:=by omega
 have htl:t.text.length≤4194304:=by omega
 have hax:∀x∈t.attrs,x.1.length≤4194304∧x.2.length≤4194304:=fun x hx=>by have:=zqW hx;omega
 clear hszT
 go_enter Tryz.func94,Tryz.ntmps94
 go_wp2_with fail
 generalize hW1:(w0.alloc (.cells #[.int .i64 t.kind,.slice ab t.name.length cb,.slice ac t.text.length cc,.slice ad t.attrs.length cd,.slice ae t.kids.length ce] 37)).alloc (.cells #[.int .i64 0,.slice none 0 0,.slice none 0 0,.slice none 0 0,.slice none 0 0] 37)=w1 at *
 have hs1:w0.heap.size+2≤w1.heap.size:=by rw [←hW1];simp
 clear hW1
 have HAX:=hide hax
 clear hax
 have hbp:w0.heap.size∉[w0.heap.size+1]:=by simp
 have hBw:∀{w:World},Frm w1 w [w0.heap.size+1]→Below w0.heap.size w0 w:=fun f=>hB1.trans (f.below hB1.size (fun q hq=>by simp at hq;omega))
 refine zbN (by kernel_rfl) (Cl1 w1 w0.heap.size (w0.heap.size+1) (.agg #[.int .i64 t.kind,.slice ab t.name.length cb,.slice ac t.text.length cc,.slice ad t.attrs.length cd,.slice ae t.kids.length ce]) (.slice ab t.name.length cb) (.slice ac t.text.length cc) (.slice ad t.attrs.length cd) t.kind t.name t.text t.attrs) ?sz ?h0 ?step ?dn
 case sz=>
   rintro L a w ⟨b0,b1,b2,b3,b4,b5,b6,b7,b8,b9,b10,b11,b12,x3,x4,x5,x6,x7,x8,x9,x10,x11,x12,x13,x14,rfl,_⟩
   rfl
 case h0=>
   refine⟨false,false,false,false,false,false,false,false,false,false,false,false,false,undef,undef,undef,undef,undef,undef,undef,undef,undef,undef,undef,undef,rfl,rfl,Frm.ofBelow ((Below.refl _ _).drew) _,l1.all ((Below.refl _ _).drew),?_⟩
   simp
 case step=>
   intro L a w i o hI hi ho
   obtain⟨b0,b1,b2,b3,b4,b5,b6,b7,b8,b9,b10,b11,b12,x3,x4,x5,x6,x7,x8,x9,x10,x11,x12,x13,x14,rfl,rfl,h0,h1,f0,f1,f2,f3,f4,f5,f6,f7,f8,f9,f10,f11,f12⟩:=hI
   rcases zol (zcx hi)with rfl | rfl | rfl | rfl | rfl | rfl | rfl | rfl | rfl | rfl | rfl | rfl | rfl
   ·obtain rfl:=Option.some.inj ho
    go_simp
    exact⟨true,b1,b2,b3,b4,b5,b6,b7,b8,b9,b10,b11,b12,_,x4,x5,x6,x7,x8,x9,x10,x11,x12,x13,x14,rfl,rfl,h0,h1,(fun _=>rfl),f1,f2,f3,f4,f5,f6,f7,f8,f9,f10,f11,f12⟩
   ·have g0:=zac hi ho 0
    obtain rfl:=Option.some.inj ho
    have e0:=f0 (g0 (by kernel_rfl))
    subst e0
    have c0:w.cell? ⟨w0.heap.size,0,none⟩=some (.int .i64 t.kind):=(l0.frm h0 hbp).cell 0
    go_simp
    exact⟨b0,true,b2,b3,b4,b5,b6,b7,b8,b9,b10,b11,b12,_,_,x5,x6,x7,x8,x9,x10,x11,x12,x13,x14,rfl,rfl,h0,h1,f0,(fun _=>rfl),f2,f3,f4,f5,f6,f7,f8,f9,f10,f11,f12⟩
   ·obtain rfl:=Option.some.inj ho
    go_simp
    exact⟨b0,b1,true,b3,b4,b5,b6,b7,b8,b9,b10,b11,b12,x3,x4,_,x6,x7,x8,x9,x10,x11,x12,x13,x14,rfl,rfl,h0,h1,f0,f1,(fun _=>rfl),f3,f4,f5,f6,f7,f8,f9,f10,f11,f12⟩
   ·have g2:=zac hi ho 2
    obtain rfl:=Option.some.inj ho
    have e2:=f2 (g2 (by kernel_rfl))
    subst e2
    have c0:w.cell? ⟨w0.heap.size,1,none⟩=some (.slice ab t.name.length cb):=(l0.frm h0 hbp).cell 1
    go_simp
    exact⟨b0,b1,b2,true,b4,b5,b6,b7,b8,b9,b10,b11,b12,x3,x4,_,_,x7,x8,x9,x10,x11,x12,x13,x14,rfl,rfl,h0,h1,f0,f1,f2,(fun _=>rfl),f4,f5,f6,f7,f8,f9,f10,f11,f12⟩
   ·have g3:=zac hi ho 3
    obtain rfl:=Option.some.inj ho
    have e3:=f3 (g3 (by kernel_rfl))
    subst e3
    have hb4:b4=false:=by simpa using zaj rfl hi
    have hb12:b12=false:=by
     cases b12 with
     | false=>rfl
     | true=>have:=(f7 (f10 (f11 (f12 rfl)).1).1).1;rw [hb4]at this;cases this
    subst hb12
    go_simp
    refine (zdC w _ t.name (hb.keep (hBw h0)) (by omega)).mono ?_
    rintro e w' ⟨v',rfl,ho',hb'⟩
    exact⟨b0,b1,b2,b3,true,b5,b6,b7,b8,b9,b10,b11,false,x3,x4,x5,_,_,x8,x9,x10,x11,x12,x13,x14,rfl,rfl,h0.trans (Frm.ofBelow hb' _),h1.all hb',f0,f1,f2,f3,(fun _=>ho'.mono h0.size),f5,f6,(fun h=>by rw [(f7 h).1]at hb4;cases hb4),f8,f9,(fun h=>by have:=(f7 (f10 h).1).1;rw [hb4]at this;cases this),(fun h=>by have:=(f7 (f10 (f11 h).1).1).1;rw [hb4]at this;cases this),f12⟩
   ·obtain rfl:=Option.some.inj ho
    go_simp
    exact⟨b0,b1,b2,b3,b4,true,b6,b7,b8,b9,b10,b11,b12,x3,x4,x5,x6,x7,_,x9,x10,x11,x12,x13,x14,rfl,rfl,h0,h1,f0,f1,f2,f3,f4,(fun _=>rfl),f6,f7,f8,f9,f10,f11,f12⟩
   ·have g5:=zac hi ho 5
    obtain rfl:=Option.some.inj ho
    have e5:=f5 (g5 (by kernel_rfl))
    subst e5
    have c0:w.cell? ⟨w0.heap.size,2,none⟩=some (.slice ac t.text.length cc):=(l0.frm h0 hbp).cell 2
    go_simp
    exact⟨b0,b1,b2,b3,b4,b5,true,b7,b8,b9,b10,b11,b12,x3,x4,x5,x6,x7,_,_,x10,x11,x12,x13,x14,rfl,rfl,h0,h1,f0,f1,f2,f3,f4,f5,(fun _=>rfl),f7,f8,f9,f10,f11,f12⟩
   ·have g6:=zac hi ho 6
    have g4:=zac hi ho 4
    obtain rfl:=Option.some.inj ho
    have e6:=f6 (g6 (by kernel_rfl))
    have e4:b4=true:=g4 (by kernel_rfl)
    subst e6 e4
    have hb7:b7=false:=by simpa using zaj rfl hi
    have hb12:b12=false:=by
     cases b12 with
     | false=>rfl
     | true=>have:=(f10 (f11 (f12 rfl)).1).1;rw [hb7]at this;cases this
    subst hb12
    go_simp
    refine (zdC w _ t.text (hc.keep (hBw h0)) (by omega)).mono ?_
    rintro e w' ⟨v',rfl,ho',hb'⟩
    exact⟨b0,b1,b2,b3,true,b5,b6,true,b8,b9,b10,b11,false,x3,x4,x5,x6,x7,x8,_,_,x11,x12,x13,x14,rfl,rfl,h0.trans (Frm.ofBelow hb' _),h1.all hb',f0,f1,f2,f3,(fun h=>(f4 h).keep hb'),f5,f6,(fun _=>⟨rfl,ho'.mono h0.size,fun q hq hq'=>by have:=(ho'.lt q (by simpa [FB]using hq)).1;have:=((f4 rfl).lt q (by simpa [FB]using hq')).2;omega⟩),f8,f9,(fun h=>by rw [(f10 h).1]at hb7;cases hb7),(fun h=>by have:=(f10 (f11 h).1).1;rw [hb7]at this;cases this),f12⟩
   ·obtain rfl:=Option.some.inj ho
    go_simp
    exact⟨b0,b1,b2,b3,b4,b5,b6,b7,true,b9,b10,b11,b12,x3,x4,x5,x6,x7,x8,x9,x10,_,x12,x13,x14,rfl,rfl,h0,h1,f0,f1,f2,f3,f4,f5,f6,f7,(fun _=>rfl),f9,f10,f11,f12⟩
   ·have g8:=zac hi ho 8
    obtain rfl:=Option.some.inj ho
    have e8:=f8 (g8 (by kernel_rfl))
    subst e8
    have c0:w.cell? ⟨w0.heap.size,3,none⟩=some (.slice ad t.attrs.length cd):=(l0.frm h0 hbp).cell 3
    go_simp
    exact⟨b0,b1,b2,b3,b4,b5,b6,b7,b8,true,b10,b11,b12,x3,x4,x5,x6,x7,x8,x9,x10,_,_,x13,x14,rfl,rfl,h0,h1,f0,f1,f2,f3,f4,f5,f6,f7,f8,(fun _=>rfl),f10,f11,f12⟩
   ·have g9:=zac hi ho 9
    have g7:=zac hi ho 7
    obtain rfl:=Option.some.inj ho
    have e9:=f9 (g9 (by kernel_rfl))
    have e7:b7=true:=g7 (by kernel_rfl)
    have e4:=(f7 e7).1
    subst e9 e7 e4
    have hb10:b10=false:=by simpa using zaj rfl hi
    have hb12:b12=false:=by
     cases b12 with
     | false=>rfl
     | true=>have:=(f11 (f12 rfl)).1;rw [hb10]at this;cases this
    subst hb12
    go_simp
    refine (zjm w _ t.attrs (RdAttrs.keep hd (hBw h0)) hal (zaa HAX)).mono ?_
    rintro e w' ⟨v',rfl,Fa,ho',nd',r',hb'⟩
    exact⟨b0,b1,b2,b3,true,b5,b6,true,b8,b9,true,b11,false,x3,x4,x5,x6,x7,x8,x9,x10,x11,_,_,x14,rfl,rfl,h0.trans (Frm.ofBelow hb' _),h1.all hb',f0,f1,f2,f3,(fun h=>(f4 h).keep hb'),f5,f6,(fun h=>⟨(f7 h).1,(f7 h).2.1.keep hb',(f7 h).2.2⟩),f8,f9,(fun _=>⟨rfl,Fa,ho',nd',r'.mono h0.size (Nat.le_refl _),fun q hq=>⟨fun hq'=>by have:=(r' q hq).1;have:=((f4 rfl).lt q (by simpa [FB]using hq')).2;omega,fun hq'=>by have:=(r' q hq).1;have:=((f7 rfl).2.1.lt q (by simpa [FB]using hq')).2;omega⟩⟩),(fun h=>by rw [(f11 h).1]at hb10;cases hb10),f12⟩
   ·have g1:=zac hi ho 1
    have g10:=zac hi ho 10
    obtain rfl:=Option.some.inj ho
    have e1:=f1 (g1 (by kernel_rfl))
    have e10:b10=true:=g10 (by kernel_rfl)
    have e7:=(f10 e10).1
    have e4:=(f7 e7).1
    subst e1 e10 e7 e4
    obtain⟨p2,k2',hv2,_,_⟩:=(f4 rfl).byt.shape
    obtain⟨p3,k3',hv3,_,_⟩:=(f7 rfl).2.1.byt.shape
    obtain⟨_,Fa,q1,q2,q3,q4⟩:=f10 rfl
    obtain⟨p4,k4',hv4⟩:∃p4 k4',x13=.slice p4 t.attrs.length k4':=by
     obtain⟨_,_,_,_,_,e4,_⟩:=q1
     exact zbx e4
    subst hv2 hv3 hv4
    go_simp
    exact⟨b0,b1,b2,b3,true,b5,b6,true,b8,b9,true,true,b12,x3,_,x5,x6,_,x8,x9,_,x11,x12,_,_,rfl,rfl,h0,h1,f0,f1,f2,f3,f4,f5,f6,f7,f8,f9,f10,(fun _=>⟨rfl,rfl⟩),(fun h=>rfl)⟩
   ·have g11:=zac hi ho 11
    obtain rfl:=Option.some.inj ho
    have e11:b11=true:=g11 (by kernel_rfl)
    obtain⟨e10,e14⟩:=f11 e11
    have e7:=(f10 e10).1
    have e4:=(f7 e7).1
    have hb12:b12=false:=by simpa using zaj rfl hi
    subst e4 e7 e10 e11 e14 hb12
    replace h1:Loc w (w0.heap.size+1) #[.int .i64 0,.slice none 0 0,.slice none 0 0,.slice none 0 0,.slice none 0 0] 37:=h1
    obtain⟨p2,k2',hv2,_,_⟩:=(f4 rfl).byt.shape
    obtain⟨p3,k3',hv3,_,_⟩:=(f7 rfl).2.1.byt.shape
    obtain⟨_,Fa,r1,r2,r3,r4⟩:=f10 rfl
    obtain⟨p4,k4',hv4⟩:∃p4 k4',x13=.slice p4 t.attrs.length k4':=by
     obtain⟨_,_,_,_,_,e4,_⟩:=r1
     exact zbx e4
    subst hv2 hv3 hv4
    obtain⟨y0,y1,y2,y3,y4⟩:=h1.five
    have u0:=h1.frozen 0
    have u1:=h1.frozen 1
    have u2:=h1.frozen 2
    have u3:=h1.frozen 3
    have u4:=h1.frozen 4
    obtain⟨s1,s2⟩:=zby h1 (.int .i64 t.kind) (.slice p2 t.name.length k2') (.slice p3 t.text.length k3') (.slice p4 t.attrs.length k4') (.slice none 0 0)
    have s3:=h0.trans s2
    have s4:=(f4 rfl).frm s2 (fun g hg hg'=>by have:=((f4 rfl).lt g (by simpa [FB]using hg)).1;simp at hg';omega)
    have s5:=(f7 rfl).2.1.frm s2 (fun g hg hg'=>by have:=((f7 rfl).2.1.lt g (by simpa [FB]using hg)).1;simp at hg';omega)
    have s6:=OwAttrs.frm r1 s2 (fun g hg hg'=>by have:=(r3 g hg).1;simp at hg';omega)
    go_simp
    exact⟨b0,b1,b2,b3,true,b5,b6,true,b8,b9,true,true,true,x3,x4,x5,x6,_,x8,x9,_,x11,x12,_,_,rfl,rfl,s3,s1,f0,f1,f2,f3,(fun _=>s4),f5,f6,(fun _=>⟨rfl,s5,(f7 rfl).2.2⟩),f8,f9,(fun _=>⟨rfl,Fa,s6,r2,r3.mono (Nat.le_refl _) s2.size,r4⟩),(fun _=>⟨rfl,rfl⟩),(fun _=>rfl)⟩
 case dn=>
  intro L a w2 hI hre
  have hall:=zbF (L:=L) (by obtain⟨b0,b1,b2,b3,b4,b5,b6,b7,b8,b9,b10,b11,b12,x3,x4,x5,x6,x7,x8,x9,x10,x11,x12,x13,x14,rfl,_⟩:=hI;rfl) (by kernel_rfl) hre 13
  obtain⟨b0,b1,b2,b3,b4,b5,b6,b7,b8,b9,b10,b11,b12,x3,x4,x5,x6,x7,x8,x9,x10,x11,x12,x13,x14,rfl,rfl,h0,h1,f0,f1,f2,f3,f4,f5,f6,f7,f8,f9,f10,f11,f12⟩:=hI
  have s12:b12=true:=hall 12 (by omega) (by decide)
  have e11:=f12 s12
  obtain⟨e10,e14⟩:=f11 e11
  have e7:=(f10 e10).1
  have e4:=(f7 e7).1
  subst s12 e11 e10 e7 e4
  replace h1:Loc w2 (w0.heap.size+1) #[.int .i64 t.kind,x7,x10,x13,.slice none 0 0] 37:=h1
  have r0:=f4 rfl
  obtain⟨_,r1,r1d⟩:=f7 rfl
  obtain⟨_,Fa,r2,r3,r4,r5⟩:=f10 rfl
  have hB2:=hBw h0
  clear hall f0 f1 f2 f3 f4 f5 f6 f7 f8 f9 f10 f11 f12 hre h0
  obtain⟨p2,k2',hv2,_,_⟩:=r0.byt.shape
  obtain⟨p3,k3',hv3,_,_⟩:=r1.byt.shape
  obtain⟨p4,k4',hv4⟩:∃p4 k4',x13=.slice p4 t.attrs.length k4':=by
   obtain⟨_,_,_,_,_,e4,_⟩:=r2
   exact zbx e4
  subst hv2 hv3 hv4
  obtain⟨g0,g1,g2,g3,g4⟩:=h1.five
  have nd:(FB (.slice p2 t.name.length k2')++FB (.slice p3 t.text.length k3')++Fa).Nodup:=by
   refine List.nodup_append.2 ⟨List.nodup_append.2 ⟨zaE _,zaE _,fun a ha b hb e=>r1d b hb (e ▸ ha)⟩,r3,fun a ha b hb e=> ?_⟩
   subst e
   rcases List.mem_append.1 ha with ha | ha
   ·exact (r5 a hb).1 ha
   ·exact (r5 a hb).2 ha
  have rg:Rng (FB (.slice p2 t.name.length k2')++FB (.slice p3 t.text.length k3')++Fa) (w0.heap.size+2) w2.heap.size:=((r0.rng.mono hs1 (Nat.le_refl _)).app (r1.rng.mono hs1 (Nat.le_refl _))).app (r4.mono hs1 (Nat.le_refl _))
  have HF:=hide (And.intro (r0.mono (base':=0) (Nat.zero_le _)) (And.intro (r1.mono (base':=0) (Nat.zero_le _)) (And.intro r2 (And.intro nd (And.intro rg hB2)))))
  clear r0 r1 r1d r2 r3 r4 r5 nd rg hB2
  go_wp2_with fail
  obtain⟨q1,q2,q3,q4,q5,q6⟩:=zaa HF
  exact bodyPost_ret (v:=.agg #[.int .i64 t.kind,.slice p2 t.name.length k2',.slice p3 t.text.length k3',.slice p4 t.attrs.length k4',.slice none 0 0]) (by simp [results,Tryz.results94,go_sem,g0,g1,g2,g3,g4]) rfl ⟨p2,k2',p3,k3',p4,k4',rfl,q1,q2,Fa,q3,by rw [←List.append_assoc];exact q4,by rw [←List.append_assoc];exact q5,q6⟩
def StR (w:World) (sb:Nat) (a:Option Addr) (c:Nat) (l:List PlV) (F:List Nat):Prop:=Loc w sb #[.slice a l.length c] 58∧PlsR w (.slice a l.length c) l F
theorem StR.keep {w w':World} {sb:Nat} {a:Option Addr} {c:Nat} {l:List PlV} {F:List Nat} (h:StR w sb a c l F) (hb:Below w.heap.size w w'):StR w' sb a c l F:=⟨h.1.all hb,h.2.keep hb⟩
theorem StR.cells {w:World} {sb:Nat} {a:Option Addr} {c:Nat} {l:List PlV} {F:List Nat} (h:StR w sb a c l F) {j:Nat} {p:PlV} (hj:l[j]? = some p) :
  ∃b k ck n cn t ct q cq,a=some ⟨b,0,none⟩∧b∈F∧w.cell? ⟨b,j*9,none⟩=some (.int .i64 p.idN)∧w.cell? ⟨b,j*9+1,none⟩=some (.int .i64 p.idR)∧w.cell? ⟨b,j*9+2,none⟩=some (.int .i64 p.parN)∧w.cell? ⟨b,j*9+3,none⟩=some (.int .i64 p.parR)∧w.cell? ⟨b,j*9+4,none⟩=some (.slice k p.key.length ck)∧w.cell? ⟨b,j*9+5,none⟩=some (.int .i64 p.kind)∧w.cell? ⟨b,j*9+6,none⟩=some (.slice n p.name.length cn)∧w.cell? ⟨b,j*9+7,none⟩=some (.slice t p.text.length ct)∧w.cell? ⟨b,j*9+8,none⟩=some (.slice q p.attrs.length cq)∧
   Byt w (.slice n p.name.length cn) p.name∧RdAttrs w (.slice q p.attrs.length cq) p.attrs∧(∀x,w.frozen? ⟨b,x,none⟩=false)∧Ints w (.slice k p.key.length ck) p.key:=by
 obtain⟨h1,h2⟩:=h
 obtain⟨hlt,rfl⟩:=List.getElem?_eq_some_iff.1 hj
 obtain⟨Cs,Fs,l1,l2,hR,hrow,hF⟩:=h2
 obtain⟨q1,q2⟩:=hR j hlt
 have hrow':=hrow
 rcases hrow.2 with ⟨_,e0⟩ | ⟨g,cap,cur,e0,hb,hg,hnc,hcm,hcs,htake⟩
 ·omega
 injection e0 with x1 _ x3
 subst x1 x3
 have hcell:=fun x (hx:x<9)=>zaQ hrow' (fun i hi=>(hR i (by omega)).1) l1 j x hlt hx
 have hrd:=q2.1
 obtain⟨k,n,t,q,e,r1,r2,r3,r4⟩:=hrd
 obtain⟨ka,kc,rfl,_,_⟩:=r1.shape
 obtain⟨na,nc,rfl,_,_⟩:=r2.shape
 obtain⟨ta,tc,rfl,_,_⟩:=r3.shape
 obtain⟨qa,qc,rfl,_,_⟩:=Elems.shape r4
 rw [e]at hcell
 exact⟨g,ka,kc,na,nc,ta,tc,qa,qc,rfl,by rw [hF];simp [FB,Value.ownBlock],hcell 0 (by decide),hcell 1 (by decide),hcell 2 (by decide),hcell 3 (by decide),hcell 4 (by decide),hcell 5 (by decide),hcell 6 (by decide),hcell 7 (by decide),hcell 8 (by decide),r2,r4,fun x=>hrow'.frozenAt x,r1⟩
set_option maxHeartbeats 1600000 in
set_option maxRecDepth 1000000 in
theorem zlG (w:World) (u v:Value) (a b:List Int) (hu:Ints w u a) (hv:Ints w v b) :
  Calls Tryz.prog 147 #[u,v] w fun e w'=>e=.returned (.bool (klB a b))∧Below w.heap.size w w':=by
 have hma:=hu.2.1
 have hmb:=hv.2.1
 unfold maxLen at hma hmb
 by_cases h0:a=[]∨b=[]
 ·have HE:=hide (zml h0)
  have h0':a.length=0∨b.length=0:=by rcases h0 with rfl | rfl<;>simp
  obtain⟨a1,c1,rfl,_⟩:=hu.shape
  obtain⟨a2,c2,rfl,_⟩:=hv.shape
  clear hu hv h0
  generalize a.length=n at *
  generalize b.length=m at *
  rcases h0' with rfl | rfl
  all_goals
   go_enter Tryz.func147,Tryz.ntmps147
   go_wp2
   refine wp_loop_rounds 1 ?_
   rw [rounds_succ]
   go_wp2
   all_goals
    go_ret
    exact⟨by rw [zaa HE];simp,Below.refl _ _⟩
 have ha0:a≠[]:=fun h=>h0 (.inl h)
 have hb0:b≠[]:=fun h=>h0 (.inr h)
 obtain⟨hoka,_,⟨rfl,rfl⟩ | ⟨x,cap,rfl,hc,rfl⟩ | ⟨p,off,cap,rfl,h1,h2,h3,h4,h5⟩⟩:=hu
 ·exact absurd rfl ha0
 ·exact absurd rfl ha0
 obtain⟨hokb,_,⟨rfl,rfl⟩ | ⟨x,cap,rfl,hc,rfl⟩ | ⟨q,off',cap',rfl,g1,g2,g3,g4,g5⟩⟩:=hv
 ·exact absurd rfl hb0
 ·exact absurd rfl hb0
 generalize hA:a.length=n at *
 generalize hC:b.length=m at *
 clear h0
 go_enter Tryz.func147,Tryz.ntmps147
 go_wp2
 go_loopw [5] (fun i wr=>∃k:Nat,k≤n∧k≤m∧i=.int .i64 k∧Hid (klB a b=klB (a.drop k) (b.drop k))∧Below w.heap.size w wr) (fun i _=>n-(intOf i).toNat)
 case atStart=>exact⟨0,Nat.zero_le _,Nat.zero_le _,rfl,hide rfl,Below.refl _ _⟩
 case round=>
  obtain⟨k,hk,hk',rfl,ht,hB⟩:=hrel
  by_cases hlt:k<n∧k<m
  ·obtain⟨hka,hkb⟩:=hlt
   obtain⟨x,hx⟩:∃x,x=a.getD k 0:=⟨_,rfl⟩
   obtain⟨y,hy⟩:∃y,y=b.getD k 0:=⟨_,rfl⟩
   have c1:wr.cell? ⟨p,off+k,none⟩=some (.int .i64 x):=by rw [hx];exact (hB.cell (p:=⟨p,off+k,none⟩) h4).trans (h5 k hka)
   have c2:wr.cell? ⟨q,off' + k,none⟩=some (.int .i64 y):=by rw [hy];exact (hB.cell (p:=⟨q,off' + k,none⟩) g4).trans (g5 k hkb)
   have HX:=hide hx
   have HY:=hide hy
   have hlt':(k:Int)<(n:Int):=by omega
   have hlt2:(k:Int)<(m:Int):=by omega
   clear hx hy h5 g5
   by_cases hxy:x=y
   ·have HT:=hide ((zaa ht).trans (zpR (by omega) (by omega) (by rw [←zaa HX,←zaa HY];exact hxy)))
    have hne:(x != y)=false:=by simp [hxy]
    clear hxy
    go_wp2
    go_quiet (fail)
    go_wp2
    go_roundw
    case rel=>exact⟨k+1,by omega,by omega,by go_num,HT,below_drewN hB _⟩
    case measure=>simp [intOf];omega
   ·have HD:=hide ((zaa ht).trans (zpf (by omega) (by omega) (by rw [←zaa HX,←zaa HY];exact hxy)))
    rw [←zaa HX,←zaa HY]at HD
    have hne:(x != y)=true:=by simp [hxy]
    clear hxy ht
    go_wp2
    go_quiet (fail)
    go_wp2
    go_quiet (fail)
    go_wp2
    go_ret
    exact⟨by rw [zaa HD];rfl,below_drewN (below_drewN hB _) _⟩
  ·have HD:=hide ((zaa ht).trans (zpX (by omega) (by omega) (by omega)))
   rw [hA,hC]at HD
   clear h5 g5 ht
   rcases (show k=n∨(k<n∧k=m) by omega)with rfl | ⟨hlt',rfl⟩
   ·go_wp2
    go_ret
    exact⟨by rw [zaa HD];simp,hB⟩
   ·have hlt2:(k:Int)<(n:Int):=by omega
    go_wp2
    go_ret
    exact⟨by rw [zaa HD];simp,hB⟩
set_option maxHeartbeats 3200000 in
theorem zgB (w:World) (p q:PlV) (k1 n1 t1 a1 k2 n2 t2 a2:Option Addr) (ck1 cn1 ct1 ca1 ck2 cn2 ct2 ca2:Nat) (h1:Ints w (.slice k1 p.key.length ck1) p.key) (h2:Ints w (.slice k2 q.key.length ck2) q.key) :
  Calls Tryz.prog 133 #[.agg #[.int .i64 p.idN,.int .i64 p.idR,.int .i64 p.parN,.int .i64 p.parR,.slice k1 p.key.length ck1,.int .i64 p.kind,.slice n1 p.name.length cn1,.slice t1 p.text.length ct1,.slice a1 p.attrs.length ca1],.agg #[.int .i64 q.idN,.int .i64 q.idR,.int .i64 q.parN,.int .i64 q.parR,.slice k2 q.key.length ck2,.int .i64 q.kind,.slice n2 q.name.length cn2,.slice t2 q.text.length ct2,.slice a2 q.attrs.length ca2]] w fun e w'=>e=.returned (.bool (zaw p q))∧Below w.heap.size w w':=by
 have hA:Below w.heap.size w ((w.alloc (.cells #[.int .i64 p.idN,.int .i64 p.idR,.int .i64 p.parN,.int .i64 p.parR,.slice k1 p.key.length ck1,.int .i64 p.kind,.slice n1 p.name.length cn1,.slice t1 p.text.length ct1,.slice a1 p.attrs.length ca1] 117)).alloc (.cells #[.int .i64 q.idN,.int .i64 q.idR,.int .i64 q.parN,.int .i64 q.parR,.slice k2 q.key.length ck2,.int .i64 q.kind,.slice n2 q.name.length cn2,.slice t2 q.text.length ct2,.slice a2 q.attrs.length ca2] 117)):=zad ((Below.refl _ _).alloc (Nat.le_refl _) _) ((Below.refl _ _).alloc (Nat.le_refl _) _)
 have l0:=(Loc.made w #[.int .i64 p.idN,.int .i64 p.idR,.int .i64 p.parN,.int .i64 p.parR,.slice k1 p.key.length ck1,.int .i64 p.kind,.slice n1 p.name.length cn1,.slice t1 p.text.length ct1,.slice a1 p.attrs.length ca1] 117).alloc (.cells #[.int .i64 q.idN,.int .i64 q.idR,.int .i64 q.parN,.int .i64 q.parR,.slice k2 q.key.length ck2,.int .i64 q.kind,.slice n2 q.name.length cn2,.slice t2 q.text.length ct2,.slice a2 q.attrs.length ca2] 117)
 have l1:=Loc.made (w.alloc (.cells #[.int .i64 p.idN,.int .i64 p.idR,.int .i64 p.parN,.int .i64 p.parR,.slice k1 p.key.length ck1,.int .i64 p.kind,.slice n1 p.name.length cn1,.slice t1 p.text.length ct1,.slice a1 p.attrs.length ca1] 117)) #[.int .i64 q.idN,.int .i64 q.idR,.int .i64 q.parN,.int .i64 q.parR,.slice k2 q.key.length ck2,.int .i64 q.kind,.slice n2 q.name.length cn2,.slice t2 q.text.length ct2,.slice a2 q.attrs.length ca2] 117
 simp only [World.size_alloc]at l1
 have HK:=hide (fun W (hW:Below w.heap.size w W)=>zlG W _ _ p.key q.key (h1.keep hW) (h2.keep hW))
 have HK2:=hide (fun W (hW:Below w.heap.size w W)=>zlG W _ _ q.key p.key (h2.keep hW) (h1.keep hW))
 have hv:zaw p q=(klB p.key q.key || (!klB q.key p.key && zam p.idN p.idR q.idN q.idR)):=rfl
 rw [hv]
 have x4:=l0.cell 4
 have y4:=l1.cell 4
 have LL:=hide (And.intro hA (And.intro l0 l1))
 clear h1 h2 hA l0 l1 hv
 generalize klB p.key q.key=b1 at *
 generalize klB q.key p.key=b2 at *
 go_enter Tryz.func133,Tryz.ntmps133
 go_wp2_with fail
 obtain⟨hA,l0,l1⟩:=zaa LL
 clear LL
 refine (zaa HK _ hA).mono ?_
 rintro e w1 ⟨rfl,hB⟩
 replace hA:=zad hA hB
 replace l0:=l0.all hB
 replace l1:=l1.all hB
 clear HK x4 y4 hB
 cases b1 with
 | true=>
  have HE:=hide hA
  clear hA l0 l1
  go_wp2_with fail
  go_ret
  exact⟨rfl,zaa HE⟩
 | false=>
  have x4:=l0.cell 4
  have y4:=l1.cell 4
  have LL:=hide (And.intro hA (And.intro l0 l1))
  clear hA l0 l1
  go_wp2_with fail
  obtain⟨hA,l0,l1⟩:=zaa LL
  clear LL
  refine (zaa HK2 _ hA).mono ?_
  rintro e w2 ⟨rfl,hB⟩
  replace hA:=zad hA hB
  replace l0:=l0.all hB
  replace l1:=l1.all hB
  clear HK2 x4 y4 hB
  cases b2 with
  | true=>
   have HE:=hide hA
   clear hA l0 l1
   go_wp2_with fail
   go_ret
   exact⟨rfl,zaa HE⟩
  | false=>
   have x0:=l0.cell 0
   have x1:=l0.cell 1
   have y0:=l1.cell 0
   have y1:=l1.cell 1
   have LL:=hide hA
   clear hA l0 l1
   go_wp2_with fail
   refine (zfE w2 _ _ _ _).mono ?_
   rintro e w3 ⟨rfl,hB⟩
   have HE:=hide (zad (zaa LL) hB)
   clear LL hB x0 x1 y0 y1
   go_wp2_with fail
   go_ret
   exact⟨rfl,zaa HE⟩
theorem zaq {w w':World} (hB:Below w.heap.size w w') {p:Addr} {v:Value} (h:w.cell? p=some v):w'.cell? p=some v:=(hB.cell (zaI h)).trans h
def natZ (l:List Nat):List Int:=l.map (fun n:Nat=>(n:Int))
theorem zco (l:List Nat):(natZ l).length=l.length:=by simp [natZ]
theorem zqe (a b:List Nat):natZ (a++b)=natZ a++natZ b:=by simp [natZ]
theorem OwnZ.set {w:World} {base g n c:Nat} {xs:List Int} (h:OwnZ w base (.slice (some ⟨g,0,none⟩) n c) xs) (j:Nat) (y:Int) (hy : -9223372036854775808≤y∧y≤9223372036854775807):OwnZ (w.setCell ⟨g,j,none⟩ (.int .i64 y)) base (.slice (some ⟨g,0,none⟩) n c) (xs.set j y):=by
 have hn:n=xs.length:=by
  obtain⟨_,_,e,_⟩:=h.ints.shape
  injection e
 subst hn
 have hst:=(h.2.stored j (.int .i64 y)).1
 refine⟨fun x hx=> ?_,?_⟩
 ·rcases List.mem_or_eq_of_mem_set hx with h' | rfl
  ·exact h.1 x h'
  ·exact hy
 ·have e:valz (xs.set j y)=(valz xs).set j (.int .i64 y):=by simp [valz,List.map_set]
  rw [e,List.length_set]
  exact hst
theorem OwnZ.cellz {w:World} {base g n c:Nat} {xs:List Int} (h:OwnZ w base (.slice (some ⟨g,0,none⟩) n c) xs) {j:Nat} (hj:j<xs.length):w.cell? ⟨g,j,none⟩=some (.int .i64 (xs.getD j 0)):=by
 have hn:n=xs.length:=by
  obtain⟨_,_,e,_⟩:=h.ints.shape
  injection e
 subst hn
 rw [h.2.cellAt j (by omega),zeM hj]
theorem OwnZ.frz {w:World} {base g n c:Nat} {xs:List Int} (h:OwnZ w base (.slice (some ⟨g,0,none⟩) n c) xs) (j:Nat):w.frozen? ⟨g,j,none⟩=false:=by
 have hn:n=xs.length:=by
  obtain⟨_,_,e,_⟩:=h.ints.shape
  injection e
 subst hn
 exact h.2.frozenAt j
def rowK (out:List Nat) (k:Nat) (y:Nat):List Nat:=out.take k++y::out.drop k
theorem zeX (out:List Nat) {k:Nat} (hk:k≤out.length) (y:Nat):(rowK out k y).length=out.length+1:=by
 unfold rowK
 simp only [List.length_append,List.length_cons,List.length_take,List.length_drop]
 omega
theorem znb (out:List Nat) {k:Nat} (hk:k+1≤out.length) (y:Nat):(natZ (rowK out (k+1) y)).getD k 0=((out.getD k 0:Nat):Int):=by
 unfold rowK natZ
 have h1:k<(out.take (k+1)).length:=by rw [List.length_take];omega
 rw [List.map_append,List.getD_eq_getElem?_getD,List.getElem?_append_left (by simpa using h1)]
 simp [show k<out.length by omega]
theorem zmD (out:List Nat) {k:Nat} (hk:k+1≤out.length) (y:Nat):(natZ (rowK out (k+1) y)).set (k+1) ((out.getD k 0:Nat):Int)=natZ (rowK out k (out.getD k 0)):=by
 have hd:out.drop k=out.getD k 0::out.drop (k+1):=by
  rw [List.drop_eq_getElem_cons (by omega)]
  simp [show k<out.length by omega]
 have ht:out.take (k+1)=out.take k++[out.getD k 0]:=by
  rw [List.take_succ_eq_append_getElem (by omega)]
  simp [show k<out.length by omega]
 unfold rowK natZ
 rw [hd,ht]
 have e:(out.take k++[out.getD k 0]).length=k+1:=by simp;omega
 rw [List.map_append,List.map_cons,List.set_append_right _ _ (by simp;omega)]
 simp only [List.length_map,e,Nat.sub_self,List.set_cons_zero]
 simp
theorem zpJ (out:List Nat) {k:Nat} (hk:k≤out.length) (y i:Nat):(natZ (rowK out k y)).set k (i:Int)=natZ (rowK out k i):=by
 unfold rowK natZ
 rw [List.map_append,List.map_cons,List.set_append_right _ _ (by simp;omega)]
 simp only [List.length_map,List.length_take]
 rw [show min k out.length=k by omega,Nat.sub_self,List.set_cons_zero]
 simp
theorem zbZ (l:List PlV) (id:IdV) {n:Nat} (h:n≤2):zaR l id n=[]:=by
 unfold zaR
 rw [show n-2=0 by omega]
 rfl
theorem zfD {l:List PlV} (id:IdV):∀{n:Nat},∀x∈zaR l id n,x<n
 | 0,x,hx=>by rw [zbZ l id (by omega)]at hx;cases hx
 | n+1,x,hx=>by
  by_cases h2:2≤n
  ·rw [zdr l id h2]at hx
   unfold zde at hx
   by_cases hk:zbU l id n=true
   ·rw [if_pos hk]at hx
    rcases List.mem_cons.1 ((zfR _ _ _).mem_iff.1 hx)with rfl | hx
    ·omega
    ·have:=zfD id x hx;omega
   ·rw [if_neg hk]at hx
    have:=zfD id x hx;omega
  ·rw [zbZ l id (by omega)]at hx;cases hx
theorem zcz {l:List PlV} (id:IdV):∀(n:Nat),(zaR l id n).length≤n
 | 0=>by rw [zbZ l id (by omega)];simp
 | n+1=>by
  by_cases h2:2≤n
  ·rw [zdr l id h2]
   unfold zde
   have:=zcz (l:=l) id n
   by_cases hk:zbU l id n=true
   ·rw [if_pos hk,(zfR _ _ _).length_eq];simp;omega
   ·rw [if_neg hk];omega
  ·rw [zbZ l id (by omega)];simp
set_option maxHeartbeats 12800000 in
theorem zhu (w:World) (sb:Nat) (a:Option Addr) (c:Nat) (l:List PlV) (F:List Nat) (id:IdV) (h:StR w sb a c l F) (hl:l.length≤100000) :
  Calls Tryz.prog 112 #[.pointer (some ⟨sb,0,none⟩),.agg #[.int .i64 id.1,.int .i64 id.2]] w fun e w'=>∃v,e=.returned v∧OwnZ w' w.heap.size v (natZ (zao l id))∧Below w.heap.size w w':=by
 refine zaf ?_
 intro Q HQ
 obtain⟨iN,iR⟩:=id
 have hA:=(Below.refl w.heap.size w).alloc (Nat.le_refl _) (.cells #[.int .i64 iN,.int .i64 iR] 81)
 have lb:=Loc.made w #[.int .i64 iN,.int .i64 iR] 81
 have LL:=hide (And.intro hA (And.intro lb h))
 clear hA lb h
 go_enter Tryz.func112,Tryz.ntmps112
 go_wp2_with fail
 obtain⟨hA,lb,h⟩:=zaa LL
 clear LL
 generalize (w.alloc (.cells #[.int .i64 iN,.int .i64 iR] 81))=w1 at *
 go_loopw [5,6] (fun o i wr=>∃(j:Nat) (av:Option Addr) (cv:Nat),2≤j∧(j≤l.length∨j=2)∧i=.int .i64 (j:Int)∧o=.slice av (zaR l (iN,iR) j).length cv∧OwnZ wr (w.heap.size+1) (.slice av (zaR l (iN,iR) j).length cv) (natZ (zaR l (iN,iR) j))∧Below w.heap.size w wr∧Loc wr w.heap.size #[.int .i64 iN,.int .i64 iR] 81) (fun _ i _=>l.length-(intOf i).toNat)
 case atStart=>exact⟨2,none,0,Nat.le_refl _,.inr rfl,rfl,rfl,zeZ _ _,hA,lb⟩
 case round=>
  clear hA lb
  obtain⟨j,av,cv,hj2,hjl,rfl,rfl,ho,hb,lb⟩:=hrel
  have hs:=h.keep hb
  have y0:wr.cell? ⟨sb,0,none⟩=some (.slice a l.length c):=hs.1.cell 0
  by_cases hlt:j<l.length
  case neg=>
   have hlt':¬ (j:Int)<(l.length:Int):=by omega
   have e:zaR l (iN,iR) j=zao l (iN,iR):=by
    rcases hjl with hjl | hjl
    ·rw [show j=l.length by omega];rfl
    ·unfold zao
     rw [zbZ l _ (by omega),zbZ l _ (by omega)]
   rw [e]at ho
   rw [e]
   have HE:=hide (zaa HQ _ wr ⟨_,rfl,ho.mono (by omega),hb⟩)
   clear ho hb lb hs h e hlt HQ
   go_wp2_with fail
   exact zaa HE
  have hlt':(j:Int)<(l.length:Int):=by omega
  obtain⟨p,hp⟩:∃p,l[j]? = some p:=⟨l[j],by simp [hlt]⟩
  obtain⟨b,k1,ck1,n1,cn1,t1,ct1,q1,cq1,rfl,_,e10,e11,e12,e13,e14,e15,e16,e17,e18,_,_,_,hkey1⟩:=hs.cells hp
  have v0:wr.cell? ⟨w.heap.size,0,none⟩=some (.int .i64 iN):=lb.cell 0
  have v1:wr.cell? ⟨w.heap.size,1,none⟩=some (.int .i64 iR):=lb.cell 1
  have hj0:(0:Int)≤(j:Int):=by omega
  have hsucc:=zdr l (iN,iR) hj2
  have HN:=hide hsucc
  have HO:=hide (And.intro ho (And.intro hb lb))
  clear hsucc ho hb lb hs hlt
  by_cases hpar:p.par=(iN,iR)
  case neg=>
   have hk:zbU l (iN,iR) j=false:=by unfold zbU;rw [hp];simp [hpar]
   have HR:=hide (show zaR l (iN,iR) (j+1)=zaR l (iN,iR) j by rw [zaa HN];unfold zde;rw [hk];rfl)
   have hd:(p.parN == iN)=false∨((p.parN == iN)=true∧(p.parR == iR)=false):=by
    cases h1:(p.parN == iN)with
    | false=>exact .inl rfl
    | true=>
     refine .inr ⟨rfl,?_⟩
     cases h2:(p.parR == iR)with
     | false=>rfl
     | true=>exact absurd (show (p.parN,p.parR)=(iN,iR) by rw [beq_iff_eq.1 h1,beq_iff_eq.1 h2]) hpar
   clear hpar hk hp h HN hkey1 e10 e11 e14 e15 e16 e17 e18
   rcases hd with d1 | ⟨d1,d2⟩
   all_goals
    go_wp2_with fail
    go_quiet (fail)
    go_wp2_with fail
    go_roundw
    case rel=>
     obtain⟨ho,hb,lb⟩:=zaa HO
     exact⟨j+1,av,cv,by omega,.inl (by omega),by go_num,by rw [zaa HR],by rw [zaa HR];exact ho.keep (below_drewN (Below.refl _ _) _),below_drewN hb _,lb.all (below_drewN (Below.refl _ _) _)⟩
    case measure=>simp [intOf];omega
  have hk:zbU l (iN,iR) j=true:=by unfold zbU;rw [hp];simp [hpar]
  have HR:=hide (show zaR l (iN,iR) (j+1)=insR (zaY l) j (zaR l (iN,iR) j) by rw [zaa HN];unfold zde;rw [hk];rfl)
  have d1:(p.parN == iN)=true:=by simpa using (Prod.mk.inj hpar).1
  have d2:(p.parR == iR)=true:=by simpa using (Prod.mk.inj hpar).2
  have HK:=hide (And.intro (zcz (l:=l) (iN,iR) j) (zfD (l:=l) (iN,iR) (n:=j)))
  generalize zaR l (iN,iR) j=out at *
  clear hpar hk HN hkey1 e10 e11 e14 e15 e16 e17 e18
  go_wp2_with fail
  go_quiet (fail)
  obtain⟨ho,hb,lb⟩:=zaa HO
  clear HO
  generalize hwd:wr.drewN _=wd at *
  have hbd:Below w.heap.size w wd:=by rw [←hwd];exact below_drewN hb _
  have hod:OwnZ wd (w.heap.size+1) (.slice av out.length cv) (natZ out):=by rw [←hwd];exact ho.keep (below_drewN (Below.refl _ _) _)
  have lbd:Loc wd w.heap.size #[.int .i64 iN,.int .i64 iR] 81:=by rw [←hwd];exact lb.all (below_drewN (Below.refl _ _) _)
  clear hwd ho hb lb v0 v1 y0 d1 d2 e12 e13
  have hol:=(zaa HK).1
  have hY:=hide (zqQ wd (j:Int) (by omega) (by omega))
  go_wp2_with (at_builtin;refine zgT rfl _ _ rfl (w.heap.size+1) _ (natZ out) rfl (hod.alloc _) _ [(j:Int)] rfl (zaa hY) ?c1 ?c2 ?_)
  case c1=>rw [zco];simp;omega
  case c2=>have:=hbd.size;simp;omega
  intro v5 w5 ho5 hg5
  have hle:(natZ out++[(j:Int)]).length=out.length+1:=by simp [natZ]
  obtain⟨g5,c5,e5,_⟩:=ho5.2.form (by rw [hle];omega)
  subst e5
  rw [hle]at ho5
  have hge5:w.heap.size+1≤g5:=(ho5.lt g5 rfl).1
  have hb5:Below w.heap.size w w5:=zdX (zad hbd ((Below.refl _ _).alloc (Nat.le_refl _) _)) hg5 (fun q hq=>by have:=(hod.lt q hq).1;omega)
  have lb5:Loc w5 w.heap.size #[.int .i64 iN,.int .i64 iR] 81:=(lbd.alloc _).frm (Frm.ofGrown hg5) (fun hm=>by
   have hm':w.heap.size∈FB (.slice av out.length cv):=hm
   have:=(hod.lt w.heap.size (by simpa [FB]using hm')).1
   omega)
  clear hY hg5 hod lbd hbd
  rw [hle]
  clear hle
  go_wp2_with fail
  go_loopw [7] (fun kk wr=>∃(k y:Nat),k≤out.length∧kk=.int .i64 (k:Int)∧Hid (cutK (zaY l) j out out.length=cutK (zaY l) j out k)∧OwnZ wr (w.heap.size+1) (.slice (some ⟨g5,0,none⟩) (out.length+1) c5) (natZ (rowK out k y))∧Below w.heap.size w wr∧Loc wr w.heap.size #[.int .i64 iN,.int .i64 iR] 81) (fun kk _=>(intOf kk).toNat)
  case atStart=>exact⟨out.length,j,Nat.le_refl _,rfl,hide rfl,by
   have e:rowK out out.length j=out++[j]:=by unfold rowK;simp
   rw [e,zqe]
   exact ho5,hb5,lb5⟩
  case round=>
   clear ho5 hb5 lb5
   obtain⟨k,y,hk,rfl,HC,hr,hbr,lbr⟩:=hrel
   have HX:=hide (show cutK (zaY l) j out out.length=k→∀wq,Below wr.heap.size wr wq→OwnZ (wq.setCell ⟨g5,k,none⟩ (.int .i64 (j:Int))) (w.heap.size+1) (.slice (some ⟨g5,0,none⟩) (zaR l (iN,iR) (j+1)).length c5) (natZ (zaR l (iN,iR) (j+1)))∧Below w.heap.size w (wq.setCell ⟨g5,k,none⟩ (.int .i64 (j:Int)))∧Loc (wq.setCell ⟨g5,k,none⟩ (.int .i64 (j:Int))) w.heap.size #[.int .i64 iN,.int .i64 iR] 81∧out.length+1=(zaR l (iN,iR) (j+1)).length from fun hcut wq hq=>by
    have e:zaR l (iN,iR) (j+1)=rowK out k j:=by rw [zaa HR];unfold insR rowK;rw [hcut]
    have e2:(rowK out k j).length=out.length+1:=zeX out hk j
    rw [e,e2]
    have h1:=(hr.keep hq).set k (j:Int) (by omega)
    rw [zpJ out hk]at h1
    exact⟨h1,zdX (zad hbr hq) (zdJ _ _ _ _) (fun q hq=>by cases hq;omega),(lbr.all hq).other _ _ _ (by omega),rfl⟩)
   cases k with
   | zero=>
    have hcut:cutK (zaY l) j out out.length=0:=zaa HC
    have hc0:=hr.cellz (j:=0) (by rw [zco,zeX out hk];omega)
    have hf0:=hr.frz 0
    have HR0:=hide hr
    clear HC
    go_wp2_with fail
    go_quiet (fail)
    have hc0':(wr.drewN nq).cell? ⟨g5,0,none⟩=_:=hc0
    have hf0':(wr.drewN nq).frozen? ⟨g5,0,none⟩=false:=hf0
    obtain⟨x1,x2,x3,x4⟩:=zaa HX hcut (wr.drewN nq) (below_drewN (Below.refl _ _) _)
    have HY:=hide (And.intro x1 (And.intro x2 (And.intro x3 x4)))
    clear x1 x2 x3 x4 HX hr hbr lbr hcut
    go_wp2_with fail
    go_roundw
    case rel=>
     obtain⟨x1,x2,x3,x4⟩:=zaa HY
     exact⟨j+1,_,c5,by omega,.inl (by omega),by go_num,by rw [←x4],x1,x2,x3⟩
    case measure=>simp [intOf];omega
   | succ k=>
    obtain⟨x,hx⟩:∃x,x=out.getD k 0:=⟨_,rfl⟩
    have hxj:x<j:=by
     rw [hx,zhP (by omega)]
     exact (zaa HK).2 _ (List.getElem_mem _)
    have hxl:x<l.length:=by omega
    obtain⟨q,hq⟩:∃q,l[x]? = some q:=⟨l[x],by simp [hxl]⟩
    have hs:=h.keep hbr
    obtain⟨b1_,k1,ck1,n1,cn1,t1,ct1,q1,cq1,hbe1,_,e10,e11,e12,e13,e14,e15,e16,e17,e18,_,_,_,hkey1⟩:=hs.cells hp
    obtain⟨b2_,k2,ck2,n2,cn2,t2,ct2,q2,cq2,hbe2,_,e20,e21,e22,e23,e24,e25,e26,e27,e28,_,_,_,hkey2⟩:=hs.cells hq
    injection hbe1 with hbe1
    injection hbe1 with hbe1 _ _
    injection hbe2 with hbe2
    injection hbe2 with hbe2 _ _
    subst hbe1 hbe2
    have y0:wr.cell? ⟨sb,0,none⟩=some (.slice (some ⟨b,0,none⟩) l.length c):=hs.1.cell 0
    have hcx:=hr.cellz (j:=k) (by rw [zco,zeX out hk];omega)
    rw [znb out (by omega),←hx]at hcx
    have hck:=hr.cellz (j:=k+1) (by rw [zco,zeX out hk];omega)
    have hfk:=hr.frz (k+1)
    have hcut:=zaa HC
    have hah:zaY l j x=zaw p q:=by unfold zaY;rw [hp,hq]
    rw [show cutK (zaY l) j out (k+1)=if zaY l j (out.getD k 0)=true then cutK (zaY l) j out k else k+1 from rfl,←hx,hah]at hcut
    have HA:=hide (zgB wr p q k1 n1 t1 q1 k2 n2 t2 q2 ck1 cn1 ct1 cq1 ck2 cn2 ct2 cq2 hkey1 hkey2)
    have hkd:Below wr.heap.size wr wr.drew:=(Below.refl _ _).drew
    replace HA:=hide (zgB wr.drew p q k1 n1 t1 q1 k2 n2 t2 q2 ck1 cn1 ct1 cq1 ck2 cn2 ct2 cq2 (hkey1.keep hkd) (hkey2.keep hkd))
    generalize hK:k+1=K at *
    have hgt:decide (0<K)=true:=by simp;omega
    have hkm:IntKind.i64.wrap ((K:Int)-1)=(k:Int):=by
     rw [IntKind.wrap_i64]
     omega
    have hk0:(0:Int)≤(k:Int):=by omega
    generalize hM:out.length+1=M at *
    have hkn:(k:Int)<(M:Int):=by omega
    have hKn:(K:Int)<(M:Int):=by omega
    have hK0:(0:Int)≤(K:Int):=by omega
    have hx0:(0:Int)≤(x:Int):=by omega
    have hxl':(x:Int)<(l.length:Int):=by omega
    have HZ:=hide (And.intro hr (And.intro hbr (And.intro lbr (And.intro hcut (And.intro hx (And.intro hk (And.intro hkd (And.intro hK hM))))))))
    clear hr hbr lbr hcut hx hk hkd hK hM hs hkey1 hkey2 hah hp hq HC hxj hxl
    go_wp2_with fail
    go_region_held3 (fun w'=>w'.cell? ⟨sb,0,none⟩=some (.slice (some ⟨b,0,none⟩) l.length c)∧w'.cell? ⟨g5,k,none⟩=some (.int .i64 (x:Int))∧w'.cell? ⟨b,j*9,none⟩=some (.int .i64 p.idN)∧w'.cell? ⟨b,j*9+1,none⟩=some (.int .i64 p.idR)∧w'.cell? ⟨b,j*9+2,none⟩=some (.int .i64 p.parN)∧w'.cell? ⟨b,j*9+3,none⟩=some (.int .i64 p.parR)∧w'.cell? ⟨b,j*9+4,none⟩=some (.slice k1 p.key.length ck1)∧w'.cell? ⟨b,j*9+5,none⟩=some (.int .i64 p.kind)∧w'.cell? ⟨b,j*9+6,none⟩=some (.slice n1 p.name.length cn1)∧w'.cell? ⟨b,j*9+7,none⟩=some (.slice t1 p.text.length ct1)∧w'.cell? ⟨b,j*9+8,none⟩=some (.slice q1 p.attrs.length cq1)∧w'.cell? ⟨b,x*9,none⟩=some (.int .i64 q.idN)∧w'.cell? ⟨b,x*9+1,none⟩=some (.int .i64 q.idR)∧w'.cell? ⟨b,x*9+2,none⟩=some (.int .i64 q.parN)∧w'.cell? ⟨b,x*9+3,none⟩=some (.int .i64 q.parR)∧w'.cell? ⟨b,x*9+4,none⟩=some (.slice k2 q.key.length ck2)∧w'.cell? ⟨b,x*9+5,none⟩=some (.int .i64 q.kind)∧w'.cell? ⟨b,x*9+6,none⟩=some (.slice n2 q.name.length cn2)∧w'.cell? ⟨b,x*9+7,none⟩=some (.slice t2 q.text.length ct2)∧w'.cell? ⟨b,x*9+8,none⟩=some (.slice q2 q.attrs.length cq2))
     (first | exact⟨by assumption,by assumption,by assumption,by assumption,by assumption,by assumption,by assumption,by assumption,by assumption,by assumption,by assumption,by assumption,by assumption,by assumption,by assumption,by assumption,by assumption,by assumption,by assumption,by assumption⟩ | simp [*])
     (first | (go_at_call 133;refine (zaa HA).mono ?_;rintro e w7 ⟨rfl,hB7⟩;have hE7:=zad (zaa HZ).2.2.2.2.2.2.1 hB7;have y0:=zaq hE7 y0;have hcx:=zaq hE7 hcx;have e10:=zaq hE7 e10;have e11:=zaq hE7 e11;have e12:=zaq hE7 e12;have e13:=zaq hE7 e13;have e14:=zaq hE7 e14;have e15:=zaq hE7 e15;have e16:=zaq hE7 e16;have e17:=zaq hE7 e17;have e18:=zaq hE7 e18;have e20:=zaq hE7 e20;have e21:=zaq hE7 e21;have e22:=zaq hE7 e22;have e23:=zaq hE7 e23;have e24:=zaq hE7 e24;have e25:=zaq hE7 e25;have e26:=zaq hE7 e26;have e27:=zaq hE7 e27;have e28:=zaq hE7 e28))
    obtain⟨hr,hbr,lbr,hcut,hx,hk,hkd,hK,hM⟩:=zaa HZ
    have hr7:=hr.keep hE7
    have hb7:=zad hbr hE7
    have lb7:=lbr.all hE7
    have hck7:=zaq hE7 hck
    have hfk7:=hr7.frz K
    clear hr hbr lbr hkd HZ HA hck hfk y0 e10 e11 e12 e13 e14 e15 e16 e17 e18 e20 e21 e22 e23 e24 e25 e26 e27 e28
    cases hbb:zaw p q with
    | false=>
     rw [hbb]at hcut
     have hcut':cutK (zaY l) j out out.length=K:=hcut.trans (by first | (simp;done) | (simp;exact hK))
     obtain⟨x1,x2,x3,x4⟩:=zaa HX hcut' w7 hE7
     have HY:=hide (And.intro x1 (And.intro x2 (And.intro x3 x4)))
     clear x1 x2 x3 x4 HX hr7 hb7 lb7 hcut hcut' hx hbb hE7 hB7 hcx
     go_wp2_with fail
     go_roundw
     case rel=>
      obtain⟨x1,x2,x3,x4⟩:=zaa HY
      exact⟨j+1,_,c5,by omega,.inl (by omega),by go_num,by rw [←x4],x1,x2,x3⟩
     case measure=>simp [intOf];omega
    | true=>
     rw [hbb]at hcut
     have HCn:=hide (show cutK (zaY l) j out out.length=cutK (zaY l) j out k from hcut.trans (by simp))
     have h9:=hr7.set K ((x:Nat):Int) (by omega)
     rw [←hK,hx,zmD out (by omega)]at h9
     rw [hK]at h9
     rw [←hx]at h9
     have HY:=hide (And.intro h9 (And.intro (zdX hb7 (zdJ w7 g5 K (.int .i64 (x:Int))) (fun q hq=>by cases hq;omega)) (lb7.other g5 K (.int .i64 (x:Int)) (by omega))))
     have HKL:=hide (show k≤out.length by omega)
     have hKk:=hide hK
     clear HX h9 hr7 hb7 lb7 hcut hbb hE7 hB7 hx hK hM
     go_wp2_with fail
     go_roundw
     case rel=>
      obtain⟨x1,x2,x3⟩:=zaa HY
      exact⟨k,_,zaa HKL,by first | rfl | go_num,HCn,x1,x2,x3⟩
     case measure=>have:=zaa hKk;simp [intOf];omega
theorem ziO {P:Program} {ops:Array Oper} {o:Oper} {a:Act} {w:World} {K:Act→World→Prop} {Q:Exit→Act→World→Prop} {E:Prop} (hgd:o.guard=none) (f:FuncId) (xs:List Operand) (tys:Array TypeId)
  (ho:o.op=.call { callee:=.value (.func f),args:=xs.toArray,argTypes:=tys }) (he:∀args w,(callFunc f args).run P w=.ok (.enter f args) w) (args:List Value) (hx:xs.map a.eval=args) {R:Ending→World→Prop} (hc:Calls P f args.toArray w R)
  (h:∀e w',R e w'→∃v,e=.returned v∧K (a.put o.dst v) w'):if Region.wanted o (yielded ops a.tmps)=true then Oper.wp P o a w K Q else E:=by
 have hw:Region.wanted o (yielded ops a.tmps)=true:=by simp [Region.wanted,hgd]
 rw [if_pos hw]
 subst hx
 unfold Oper.wp execOp
 simp [ho,resolve,invoke,go_sem,he]
 refine hc.mono ?_
 intro e w' hR
 obtain⟨v,rfl,hk⟩:=h e w' hR
 exact hk
end Go.Proofs.YtlpnibbdmkeklaaGreatDoor
