/- Own texts joined: PutW, SayW, AppR, NodeS, Tool, MkupS, TagW, NodeW, PlM, BaseZ, NameB, KeyS, IdS, OpS. -/
import Derived.Test.YtlpnibbdmkeklaaGreatDoorJa
import Derived.Lib.AppendStr
import Derived.Deep.RegionLaw
import Derived.Deep.RegionHeld3
import Derived.Test.YtlpnibbdmkeklaaGreatDoorChecked
namespace Go.Proofs.YtlpnibbdmkeklaaGreatDoor
open Go.RowKit
set_option linter.unusedVariables false
set_option maxRecDepth 100000
def MtW (B g:Nat) (i:Nat) (o:Obj):Prop:=(i=g∧∃cs,o=.cells cs 127 (0,0))∨MtB B i o
def Wr (B:Nat) (w:Xe) (g:Nat) (L:Xa):Prop:=∃o,Own w B o L∧WSet B o w g
theorem WSet.loc {B:Nat} {o:Xf} {w:Xe} {g:Nat} (h:WSet B o w g):∃cs,Loc w g cs 127∧cs[0]? = some o∧w.cell? ⟨g,0,none⟩=some o∧w.frozen? ⟨g,0,none⟩=false:=by
 rcases h with h | ⟨m,_,h,_⟩
 ·exact⟨_,h,rfl,h.cell 0,h.frozen 0⟩
 ·exact⟨_,h,rfl,h.cell 0,h.frozen 0⟩
theorem zeZ {B b:Nat} {v:Xf} {l:Xa} {w:Xe} {g:Nat} {cs:Array Xf} (ho:Own w b v l) (h:Loc w g cs 127):v.ownBlock≠some g:=by
 intro e
 obtain⟨cur,hc⟩:=zeU ho.2 e
 unfold Loc at h
 rw [h]at hc
 injection hc with hc
 injection hc with _ hc
 revert hc
 decide
theorem zol {w:Xe} {m:Nat} (h:w.heap[m]? = some zaL):m<w.heap.size:=by
 by_cases hm:m<w.heap.size
 ·exact hm
 ·rw [Array.getElem?_eq_none (by omega)]at h;cases h
theorem zqP {b:Nat} {v:Xf} {l:Xa} {w:Xe} {m:Nat} (ho:Own w b v l) (h:w.heap[m]? = some zaL):v.ownBlock≠some m:=by
 intro e
 obtain⟨cur,hc⟩:=zeU ho.2 e
 rw [h]at hc
 injection hc with hc
 cases hc
theorem zhH {w w':Xe} {K:Nat} {row:Option Nat} {cs:Array Xf} {T:Xg} (hK:Loc w K cs T) (hg:w.grownBy w' row) (hn:row≠some K):Loc w' K cs T:=by
 unfold Loc at hK ⊢
 rw [hg.block K (Array.getElem?_eq_some_iff.1 hK).1 (fun e=>hn e.symm)]
 exact hK
theorem WSet.grown {B b:Nat} {o v:Xf} {l:Xa} {w w':Xe} {g:Nat} (h:WSet B o w g) (ho:Own w b v l) (hg:w.grownBy w' v.ownBlock):WSet B o w' g:=by
 rcases h with h | ⟨m,hm,h,h2⟩
 ·exact .inl (zhH h hg (zeZ (B:=B) ho h))
 ·exact .inr ⟨m,hm,zhH h hg (zeZ (B:=B) ho h),(hg.block m (zol h2) (fun e=>zqP ho h2 e.symm)).trans h2⟩
theorem WSet.set {B:Nat} {o:Xf} {w:Xe} {g:Nat} (h:WSet B o w g) (v:Xf):WSet B v (w.setCell ⟨g,0,none⟩ v) g:=by
 rcases h with h | ⟨m,hm,h,h2⟩
 ·exact .inl (h.set 0 v)
 ·refine .inr ⟨m,hm,h.set 0 v,(heap_setCell_other w ⟨g,0,none⟩ m v (fun e=> ?_)).trans h2⟩
  have e':m=g:=e
  subst e'
  unfold Loc at h
  rw [h]at h2
  injection h2 with h2
  cases h2
theorem WSet.keep {B:Nat} {o:Xf} {w w':Xe} {g:Nat} (h:WSet B o w g) (hb:Below w.heap.size w w'):WSet B o w' g:=by
 rcases h with h | ⟨m,hm,h,h2⟩
 ·exact .inl (h.all hb)
 ·exact .inr ⟨m,hm,h.all hb,(hb.block m (zol h2)).trans h2⟩
theorem Wr.keep {B:Nat} {w w':Xe} {g:Nat} {L:Xa} (h:Wr B w g L) (hb:Below w.heap.size w w'):Wr B w' g L:=by
 obtain⟨o,h1,h2⟩:=h
 exact⟨o,h1.keep hb,h2.keep hb⟩
theorem FrpW.ofB {B g:Nat} {a b:Xe} (h:Frp (MtB B) a b):Frp (MtW B g) a b:=⟨h.os,h.tape,h.output,h.size,fun i o hi hm=>h.block i o hi (fun k=>hm (.inr k))⟩
theorem FrpW.ofFrm {B g:Nat} {a b:Xe} {cs:Array Xf} (hl:Loc a g cs 127) (h:Frm a b [g]):Frp (MtW B g) a b:=
 Frp.ofFrm h (fun i hi o ho=>by
  have e:i=g:=by simpa using hi
  subst e
  unfold Loc at hl
  rw [hl]at ho
  cases ho
  exact .inl ⟨rfl,cs,rfl⟩)
theorem FrpW.toBelow {B g:Nat} {a b:Xe} {S:Nat} (h:Frp (MtW B g) a b) (hS:S<=a.heap.size) (hB:S<=B) (hg:S<=g):Below S a b:=h.below hS (fun i o hi hm=>by
 rcases hm with ⟨e,_⟩ | ⟨h1,_⟩<;>omega)
theorem zie {B g i:Nat} {cs:Array Xf} {T:Xg} (h1:T≠127) (h2:T≠5):¬ MtW B g i (.cells cs T (0,0)):=by
 rintro (⟨_,cs',h⟩ | ⟨_,cs',h⟩)
 ·injection h with _ h;exact h1 h
 ·injection h with _ h;exact h2 h
theorem zoN {B g:Nat} {w w':Xe} {o v:Xf} {L m:Xa} (ho:Own w B o L) (hs:WSet B o w g) (ho':Own w' B v m) (hg:w.grownBy w' o.ownBlock) :
  (w'.cell? ⟨g,0,none⟩=some o∧w'.frozen? ⟨g,0,none⟩=false)∧Wr B (w'.setCell ⟨g,0,none⟩ v) g m∧Frp (MtW B g) w (w'.setCell ⟨g,0,none⟩ v):=by
 have hs':=hs.grown ho hg
 obtain⟨cs,hl,_,c0,f0⟩:=hs'.loc
 have hne:=zeZ (B:=B) ho' hl
 refine⟨⟨c0,f0⟩,⟨v,ho'.frm (Frm.set w' g 0 v) (fun i hi hi'=> ?_),hs'.set v⟩,(FrpW.ofB (Frp.ofAppend ho hg)).trans (FrpW.ofFrm hl (Frm.set w' g 0 v))⟩
 have e1:i=g:=by simpa using hi'
 have e2:v.ownBlock=some i:=by simpa [FB]using hi
 exact hne (by rw [e2,e1])
def zaM (p:ByteArray×Xa):Prop:=Lib.strCells p.1=vals p.2∧okB p.2
theorem zho {l:Xa} (h:okB l):zaM (str l,l):=by
 refine⟨?_,h⟩
 show Lib.strCells (str l)=vals l
 unfold Lib.strCells vals
 rw [zbW,List.map_map]
 refine List.map_congr_left (fun x hx=> ?_)
 have:=h x hx
 show Value.int .u8 ((UInt8.ofNat x.toNat).toNat:Int)=Value.int .u8 x
 rw [UInt8.toNat_ofNat',Value.int.injEq]
 refine⟨rfl,?_⟩
 omega
theorem zsM {a:ByteArray×Xa} (ha:zaM a):∀p∈[a],zaM p:=fun p hp=>by simp at hp;subst hp;exact ha
theorem zsX {a b:ByteArray×Xa} (ha:zaM a) (hb:zaM b):∀p∈[a,b],zaM p:=fun p hp=>by
 simp at hp
 rcases hp with rfl | rfl
 ·exact ha
 ·exact hb
theorem zsP {a b c:ByteArray×Xa} (ha:zaM a) (hb:zaM b) (hc:zaM c):∀p∈[a,b,c],zaM p:=fun p hp=>by
 simp at hp
 rcases hp with rfl | rfl | rfl
 ·exact ha
 ·exact hb
 ·exact hc
theorem znj (ws:List (ByteArray×Xa)) (j:Nat) (h:j<ws.length):((ws.take (j+1)).map (·.2)).flatten=((ws.take j).map (·.2)).flatten++ws[j].2:=by
 rw [List.take_succ_eq_append_getElem h,List.map_append,List.flatten_append]
 simp
theorem zqG (ws:List (ByteArray×Xa)) (j:Nat):((ws.take j).map (·.2)).flatten.length<=(ws.map (·.2)).flatten.length:=by
 have:(ws.map (·.2)).flatten=((ws.take j).map (·.2)).flatten++((ws.drop j).map (·.2)).flatten:=by rw [<-List.flatten_append,<-List.map_append,List.take_append_drop]
 rw [this,List.length_append]
 omega
set_option maxHeartbeats 3200000 in
theorem zig (B g k cap:Nat) (w:Xe) (L:Xa) (ws:List (ByteArray×Xa)) (hw:Wr B w g L) (hB:B<=w.heap.size) (hk:Loc w k (ws.map (fun p=>Value.string p.1)).toArray 9) (hs:∀p∈ws,zaM p)
  (hn:ws.length<=1000) (hlen:L.length+(ws.map (·.2)).flatten.length<=100000000) :
  Calls Tryz.prog 99 #[.pointer (some ⟨g,0,none⟩),.slice (some ⟨k,0,none⟩) ws.length cap] w fun e w'=>e=.returned (.tuple #[])∧Wr B w' g (L++(ws.map (·.2)).flatten)∧Frp (MtW B g) w w':=by
 have hn':(ws.length:Int)<=9223372036854775807:=by omega
 have hnw:¬ MtW B g k (.cells (ws.map (fun p=>Value.string p.1)).toArray 9 (0,0)):=zie (by decide) (by decide)
 go_enter Tryz.func99,Tryz.ntmps99
 go_wp2_with fail
 go_loopw [8] (fun i wr=>∃j:Nat,j<=ws.length∧i=.int .i64 j∧Wr B wr g (L++((ws.take j).map (·.2)).flatten)∧Frp (MtW B g) w wr) (fun i _=>ws.length-(intOf i).toNat)
 case atStart=>exact⟨0,Nat.zero_le _,rfl,by simpa using hw,Frp.refl _ _⟩
 case round=>
  obtain⟨j,hj,rfl,hr,hb⟩:=hrel
  by_cases hjl:j<ws.length
  ·have hst:=znj ws j hjl
   have hle:=zqG ws (j+1)
   obtain⟨p,hp⟩:∃p,p=ws[j]:=⟨_,rfl⟩
   have hpo:zaM p:=by rw [hp];exact hs _ (List.getElem_mem hjl)
   have hc:wr.cell? ⟨k,j,none⟩=some (.string p.1):=by
    rw [(hk.frp hb hnw).cell j]
    simp [hjl,hp]
   obtain⟨s,m⟩:=p
   rw [<-hp]at hst
   replace hst:((ws.take (j+1)).map (·.2)).flatten=((ws.take j).map (·.2)).flatten++m:=hst
   replace hc:wr.cell? ⟨k,j,none⟩=some (.string s):=hc
   obtain⟨hsm,hmo⟩:=hpo
   replace hsm:Lib.strCells s=vals m:=hsm
   replace hmo:okB m:=hmo
   have hBr:B<=wr.heap.size:=Nat.le_trans hB hb.size
   have hl2:(L++((ws.take j).map (·.2)).flatten).length+m.length<=100000000:=by
    rw [hst]at hle
    simp only [List.length_append]at hle ⊢
    omega
   have hjl':(j:Int)<(ws.length:Int):=by omega
   obtain⟨M,hM⟩:∃M,M=L++((ws.take j).map (·.2)).flatten:=⟨_,rfl⟩
   have HL:=hide (show L++((ws.take (j+1)).map (·.2)).flatten=M++m by rw [hst,hM,List.append_assoc])
   rw [<-hM]at hr hl2
   obtain⟨o,hr1,hr2⟩:=hr
   obtain⟨ab,cb,hbv,_,_⟩:=hr1.byt.shape
   subst hbv
   obtain⟨cs,_,_,c0,f0⟩:=hr2.loc
   have HR:=hide hr1
   have HS:=hide hr2
   have HM:=hide hsm
   have HO:=hide hmo
   clear hr1 hr2 hst hp hle hM hsm hmo hs hk hw
   go_wp2_with (at_builtin;refine zdy rfl _ _ rfl B _ M rfl (zaa HR) _ m rfl (zaa HM) (zaa HO) (by omega) hBr ?_)
   intro v2 w2 ho2 hg2
   obtain⟨⟨c2,f2⟩,W2,F2⟩:=zoN (zaa HR) (zaa HS) ho2 hg2
   have HW:=hide (show Wr B (w2.setCell ⟨g,0,none⟩ v2) g (L++((ws.take (j+1)).map (·.2)).flatten) by rw [zaa HL];exact W2)
   obtain⟨a2,cc2,hv2,_,_⟩:=ho2.byt.shape
   generalize (M++m).length=N2 at hv2
   subst hv2
   clear ho2 hg2 W2
   go_wp2_with fail
   go_roundw
   case rel=>exact⟨j+1,by omega,by go_num,zaa HW,hb.trans F2⟩
   case measure=>simp [intOf];omega
  ·have e:j=ws.length:=by omega
   subst e
   rw [List.take_length]at hr
   clear hk hs hw
   go_wp2_with fail
   go_end0
   exact⟨rfl,hr,hb⟩
theorem zqf:zaM (⟨#[38,97,109,112,59]⟩,[38,97,109,112,59]):=⟨rfl,zmj⟩
theorem zss:zaM (⟨#[38,108,116,59]⟩,[38,108,116,59]):=⟨rfl,zpc⟩
theorem zoP:zaM (⟨#[38,113,117,111,116,59]⟩,[38,113,117,111,116,59]):=⟨rfl,zkL⟩
theorem zeR (B g cap:Nat) (w:Xe) (L:Xa) (s:ByteArray) (m:Xa) (hw:Wr B w g L) (hB:B<=w.heap.size) (hs:zaM (s,m)) (hlen:L.length+m.length<=100000000) :
  Calls Tryz.prog 99 #[.pointer (some ⟨g,0,none⟩),.slice (some ⟨w.heap.size,0,none⟩) 1 cap] (w.alloc (.cells #[.string s] 9)) fun e w'=>e=.returned (.tuple #[])∧Wr B w' g (L++m)∧Frp (MtW B g) w w':=by
 have hb:Below w.heap.size w (w.alloc (.cells #[.string s] 9)):=(Below.refl _ _).alloc (Nat.le_refl _) _
 have h:=zig B g w.heap.size cap _ L [(s,m)] (hw.keep hb) (Nat.le_trans hB hb.size) (Loc.made w #[.string s] 9) (zsM hs) (by simp) (by simpa using hlen)
 refine h.mono ?_
 rintro e w' ⟨rfl,h1,h2⟩
 exact⟨rfl,by simpa using h1,(Frp.ofBelow hb _).trans h2⟩
set_option maxHeartbeats 3200000 in
theorem zla (w0 w:Xe) (B g:Nat) (u:Xf) (L t:Xa) (q:Bool) (hw:Wr B w g L) (hB:B<=w.heap.size) (hu:Byt w0 u t) (hW:Below w0.heap.size w0 w) (h0:w0.heap.size<=B) (hg0:w0.heap.size<=g) (hlen:L.length+(say q t).length<=100000000) :
  Calls Tryz.prog 97 #[.pointer (some ⟨g,0,none⟩),u,.bool q] w fun e w'=>e=.returned (.tuple #[])∧Wr B w' g (L++say q t)∧Frp (MtW B g) w w':=by
 obtain⟨au,cu,rfl,_,_⟩:=hu.shape
 have hml:=hu.2.1
 unfold maxLen at hml
 have hm':(t.length:Int)<=9223372036854775807:=by omega
 go_enter Tryz.func97,Tryz.ntmps97
 go_wp2_with fail
 go_loopw [10] (fun i wr=>∃j:Nat,j<=t.length∧i=.int .i64 j∧Wr B wr g (L++say q (t.take j))∧Frp (MtW B g) w wr) (fun i _=>t.length-(intOf i).toNat)
 case atStart=>exact⟨0,Nat.zero_le _,rfl,by simpa [say]using hw,Frp.refl _ _⟩
 case round=>
  obtain⟨j,hj,rfl,hr,hb⟩:=hrel
  by_cases hjl:j<t.length
  ·have hst:=zkj q t j hjl
   have hle:=zoW q t (j+1)
   obtain⟨hok,_,⟨_,e⟩ | ⟨_,_,_,_,e⟩ | ⟨p,off,cap,e,h1,h2,h3,h4,h5⟩⟩:=hu
   ·subst e;simp at hjl
   ·subst e;simp at hjl
   injection e with e1 _ e3
   subst e1 e3
   have hc:=h5 j hjl
   obtain⟨x,hx⟩:∃x,x=t[j]:=⟨_,rfl⟩
   rw [zcq hjl,<-hx]at hc
   rw [<-hx]at hst
   have hx1:0<=x:=by rw [hx];exact (hok _ (List.getElem_mem hjl)).1
   have hx2:x<=255:=by rw [hx];exact (hok _ (List.getElem_mem hjl)).2
   have hW2:Below w0.heap.size w0 wr:=hW.trans (FrpW.toBelow hb hW.size h0 hg0)
   have hcx:wr.cell? ⟨p,off+j,none⟩=some (.int .u8 x):=(hW2.cell (p:=⟨p,off+j,none⟩) h4).trans hc
   have hBr:B<=wr.heap.size:=Nat.le_trans hB hb.size
   have hl2:(L++say q (t.take j)).length+(sayB q x).length<=100000000:=by
    rw [hst]at hle
    simp only [List.length_append]at hle ⊢
    omega
   have hjl':(j:Int)<(t.length:Int):=by omega
   obtain⟨M,hM⟩:∃M,M=L++say q (t.take j):=⟨_,rfl⟩
   have HL:=hide (show L++say q (t.take (j+1))=M++sayB q x by rw [hst,hM,List.append_assoc])
   rw [<-hM]at hr hl2
   have hl3:M.length<=100000000:=by omega
   have HR:=hide hr
   clear hr hst hx hc hle h5 hM hw hW hW2
   by_cases k1:x=38
   ·have d1:(x == 38)=true:=by simpa using k1
    have HY:=hide (show sayB q x=[38,97,109,112,59] by unfold sayB;rw [if_pos k1])
    clear k1
    have HP:=hide (zeR B g 1 wr M _ _ (zaa HR) hBr zqf (by rw [zaa HY]at hl2;exact hl2))
    clear hl2
    go_wp2_with fail
    refine (zaa HP).mono ?_
    rintro e w2 ⟨rfl,W2,F2⟩
    have HO:=hide (show Wr B w2 g (L++say q (t.take (j+1))) by rw [zaa HL,zaa HY];exact W2)
    clear W2
    go_wp2_with fail
    go_roundw
    case rel=>exact⟨j+1,by omega,by go_num,zaa HO,hb.trans F2⟩
    case measure=>simp [intOf];omega
   ·have d1:(x == 38)=false:=by simpa using k1
    by_cases k2:x=60
    ·have d2:(x == 60)=true:=by simpa using k2
     have HY:=hide (show sayB q x=[38,108,116,59] by unfold sayB;rw [if_neg k1,if_pos k2])
     clear k1 k2
     have HP:=hide (zeR B g 1 wr M _ _ (zaa HR) hBr zss (by rw [zaa HY]at hl2;exact hl2))
     clear hl2
     go_wp2_with fail
     refine (zaa HP).mono ?_
     rintro e w2 ⟨rfl,W2,F2⟩
     have HO:=hide (show Wr B w2 g (L++say q (t.take (j+1))) by rw [zaa HL,zaa HY];exact W2)
     clear W2
     go_wp2_with fail
     go_roundw
     case rel=>exact⟨j+1,by omega,by go_num,zaa HO,hb.trans F2⟩
     case measure=>simp [intOf];omega
    ·have d2:(x == 60)=false:=by simpa using k2
     by_cases k3:x=34∧q=true
     ·have d3:(x == 34)=true:=by simpa using k3.1
      have HY:=hide (show sayB q x=[38,113,117,111,116,59] by unfold sayB;rw [if_neg k1,if_neg k2,if_pos k3])
      obtain⟨_,hq⟩:=k3
      subst hq
      clear k1 k2
      have HP:=hide (zeR B g 1 wr M _ _ (zaa HR) hBr zoP (by rw [zaa HY]at hl2;exact hl2))
      clear hl2
      go_wp2_with fail
      refine (zaa HP).mono ?_
      rintro e w2 ⟨rfl,W2,F2⟩
      have HO:=hide (show Wr B w2 g (L++say true (t.take (j+1))) by rw [zaa HL,zaa HY];exact W2)
      clear W2
      go_wp2_with fail
      go_roundw
      case rel=>exact⟨j+1,by omega,by go_num,zaa HO,hb.trans F2⟩
      case measure=>simp [intOf];omega
     ·have HY:=hide (show sayB q x=[x] by unfold sayB;rw [if_neg k1,if_neg k2,if_neg k3])
      have d3:((x == 34)=true∧q=false)∨(x == 34)=false:=by
       by_cases h34:x=34
       ·left
        refine⟨by simpa using h34,?_⟩
        cases q with
        | true=>exact absurd ⟨h34,rfl⟩ k3
        | false=>rfl
       ·right;simpa using h34
      clear k1 k2 k3
      obtain⟨o,hr1,hr2⟩:=zaa HR
      obtain⟨ab,cb,hbv,_,_⟩:=hr1.byt.shape
      subst hbv
      obtain⟨cs,_,_,c0,f0⟩:=hr2.loc
      have hba:Below wr.heap.size wr (wr.alloc (.cells #[.int .u8 x] 5)):=(Below.refl _ _).alloc (Nat.le_refl _) _
      have HR1:=hide (hr1.alloc (.cells #[.int .u8 x] 5))
      have HR2:=hide (hr2.keep hba)
      have Fa:Frp (MtW B g) wr (wr.alloc (.cells #[.int .u8 x] 5)):=Frp.ofBelow hba _
      clear hr1 hr2 HR hba hl2
      rcases d3 with ⟨d3,rfl⟩ | d3
      all_goals
       go_wp2_with (at_builtin;(refine zcH rfl _ _ rfl B _ M rfl (zaa HR1) _ [x] rfl (zcZ wr x hx1 hx2) (by first | omega | (simp;omega)) (by first | exact hBr | (simp;omega)) ?_))
       intro v2 w2 ho2 hg2
       obtain⟨⟨c2,f2⟩,W2,F2⟩:=zoN (zaa HR1) (zaa HR2) ho2 hg2
       rw [<-zaa HY,<-zaa HL]at W2
       have HO:=hide W2
       obtain⟨a2,cc2,hv2,_,_⟩:=ho2.byt.shape
       generalize (M++[x]).length=N2 at hv2
       subst hv2
       clear ho2 hg2 W2
       go_wp2_with fail
       go_roundw
       case rel=>exact⟨j+1,by omega,by go_num,zaa HO,(hb.trans Fa).trans F2⟩
       case measure=>simp [intOf];omega
  ·have e:j=t.length:=by omega
   subst e
   rw [List.take_length]at hr
   clear hu hw
   go_wp2_with fail
   go_end0
   exact⟨rfl,hr,hb⟩
theorem zci {w:Xe} {ops:Array Oper} {o:Oper} {a:Act} {K:Act->Xe->Prop} {Q:Exit->Act->Xe->Prop} {E:Prop} (hgd:o.guard=none) (s x:Operand)
  (ho:o.op=.call { callee:=.builtin .append,args:= #[s,x],argTypes:= #[22,22] })
  (base:Nat) (v:Xf) (l:Xa) (hs:a.eval s=v) (hown:Own w base v l) (u:Xf) (m:Xa) (hx:a.eval x=u) (hu:Byt w u m)
  (hlen:l.length+m.length<=134217728) (hbase:base<=w.heap.size)
  (h:∀v' w',Own w' base v' (l++m)->w.grownBy w' v.ownBlock->K (a.put o.dst v') w'):if Region.wanted o (yielded ops a.tmps)=true then Oper.wp Tryz.prog o a w K Q else E:=by
 have hw:Region.wanted o (yielded ops a.tmps)=true:=by simp [Region.wanted,hgd]
 rw [if_pos hw]
 obtain⟨i0,hi,hz0,hz1,hz2⟩:=info_parts Tryz.info5
 have hfull:∀(ad:Addr) (c:Nat),a.eval x=.slice (some ad) m.length c->(∀j,j<m.length->w.cell? (ad.add j)=some (.int .u8 (m.getD j 0)))->Oper.wp Tryz.prog o a w K Q:=by
  intro ad c hx' hc
  refine wp_append_own w s x 22 ho base 5 i0 (.int .u8 0) 1 1 Tryz.underlying22 hi hz0 hz1 hz2 rfl (by decide) v l.length (vals l) hs hown.2 ad m.length c (vals m) hx' (by rw [zcA];omega) ?_ (zku m) (by unfold maxLen;omega) (by omega) hbase ?_
  ·intro j y hj
   have hlt:j<m.length:=by
    by_cases hlt:j<m.length
    ·exact hlt
    ·rw [List.getElem?_eq_none (by rw [zcA];omega)]at hj;cases hj
   rw [zdm hlt]at hj
   rw [hc j hlt];exact hj
  ·intro v' w' h1 h2 _
   refine h v' w' ⟨hown.1.app hu.1,?_⟩ h2
   rw [zcP,List.length_append];exact h1
 obtain⟨hok,hm,⟨rfl,rfl⟩ | ⟨y,cap,rfl,hc,rfl⟩ | ⟨b,off,cap,rfl,h1,h2,h3,h4,h5⟩⟩:=hu
 ·have hrun:=run_append_owned_none (P:=Tryz.prog) (w:=w) base 22 o.type 5 i0 1 Tryz.underlying22 hi v l.length (vals l) hown.2
  unfold Oper.wp
  simp [execOp,ho,resolve,invoke,builtin,hs,hx,hrun,Result.andThen]
  exact h v w (by rw [List.append_nil];exact hown) (World.grownBy.refl _ _)
 ·exact hfull y cap hx (fun j hj=>by simp at hj)
 ·exact hfull ⟨b,off,none⟩ cap hx (fun j hj=>by rw [zbc];exact h5 j hj)
theorem zgm {w:Xe} {ops:Array Oper} {o:Oper} {a:Act} {K:Act->Xe->Prop} {Q:Exit->Act->Xe->Prop} {E:Prop} (hgd:o.guard=none) (s x:Operand)
  (ho:o.op=.call { callee:=.builtin .append,args:= #[s,x],argTypes:= #[22,9] })
  (base:Nat) (v:Xf) (l:Xa) (hs:a.eval s=v) (hown:Own w base v l) (t:ByteArray) (m:Xa) (hx:a.eval x=.string t) (hm:Lib.strCells t=vals m) (hok:okB m)
  (hlen:l.length+m.length<=134217728) (hbase:base<=w.heap.size)
  (h:∀v' w',Own w' base v' (l++m)->w.grownBy w' v.ownBlock->K (a.put o.dst v') w'):if Region.wanted o (yielded ops a.tmps)=true then Oper.wp Tryz.prog o a w K Q else E:=by
 have hw:Region.wanted o (yielded ops a.tmps)=true:=by simp [Region.wanted,hgd]
 rw [if_pos hw]
 obtain⟨i0,hi,hz0,hz1,hz2⟩:=info_parts Tryz.info5
 have hsz:t.size=m.length:=by rw [<-Lib.strCells_length,hm,zcA]
 obtain⟨v',w',hr,h2,h3,_⟩:=Lib.run_append_own_string (P:=Tryz.prog) w base 22 9 o.type 5 i0 Tryz.underlying22 Tryz.underlying9 hi hz0 hz1 hz2 v l.length (vals l) hown.2 t (by rw [hsz];unfold maxLen;omega) (by omega) hbase
 unfold Oper.wp execOp
 simp only [ho,resolve,invoke,builtin,Sem.run_bind,Sem.run_pure,Result.andThen_ok,List.map_toArray,List.map_cons,List.map_nil,hs,hx,hr]
 refine h v' w' ⟨hown.1.app hok,?_⟩ h3
 rw [zcP,List.length_append,<-hsz,<-hm];exact h2
def okK {α:Type} (f:α->Int->Bool×Int):List α->Int->Bool×Int
 | [],left=>(true,left)
 | x::r,left=>if (f x left).1=true then okK f r (f x left).2 else (false,(f x left).2)
def zaj (l:Xa):Bool:=decide (l=[98,114]) || decide (l=[104,114])
theorem zaS (l:Xa):zaj l=true↔Void l:=by unfold zaj Void;rw [Bool.or_eq_true,decide_eq_true_eq,decide_eq_true_eq]
def znJ (l:List (Xa×Xa)) (i:Nat):Bool:=zbD (l.getD i ([],[])).1 && zbt (l.getD i ([],[])).2 && (decide (i=0) || zeb (l.getD (i-1) ([],[])).1 (l.getD i ([],[])).1)
theorem zjr (l:List (Xa×Xa)) (i:Nat):znJ l i=true↔zcc l i:=by
 unfold znJ zcc
 rw [Bool.and_eq_true,Bool.and_eq_true,zby,zbE,Bool.or_eq_true,decide_eq_true_eq,and_assoc]
 constructor
 ·rintro⟨h1,h2,h3⟩
  exact⟨h1,h2,fun h=>h3.resolve_left (by omega)⟩
 ·rintro⟨h1,h2,h3⟩
  refine⟨h1,h2,?_⟩
  by_cases h:i=0
  ·exact .inl h
  ·exact .inr (h3 (by omega))
def zhW (l:List (Xa×Xa)):Bool:=decide (l.length<=4) && (List.range l.length).all (znJ l)
theorem zmV (l:List (Xa×Xa)):zhW l=true↔zal l:=by
 unfold zhW zal
 rw [Bool.and_eq_true,decide_eq_true_eq,List.all_eq_true]
 constructor
 ·rintro⟨h1,h2⟩;exact⟨h1,fun i hi=>(zjr l i).1 (h2 i (List.mem_range.2 hi))⟩
 ·rintro⟨h1,h2⟩;exact⟨h1,fun i hi=>(zjr l i).2 (h2 i (List.mem_range.1 hi))⟩
def zkM {α:Type} (t:Nd α):Prop:=t.name.length=0∧t.attrs.length=0∧t.kids.length=0∧zat t.text
def zbi {α:Type} (t:Nd α):Bool:=decide (t.name.length=0) && decide (t.attrs.length=0) && decide (t.kids.length=0) && zbt t.text
theorem zbb {α:Type} (t:Nd α):zbi t=true↔zkM t:=by
 unfold zbi zkM
 rw [Bool.and_eq_true,Bool.and_eq_true,Bool.and_eq_true,zbE,decide_eq_true_eq,decide_eq_true_eq,decide_eq_true_eq,and_assoc,and_assoc]
def zgl {α:Type} (t:Nd α):Prop:=t.kind=0∧zah t.name∧t.text.length=0∧zal t.attrs∧¬ (Void t.name∧0<t.kids.length)
def zaT {α:Type} (t:Nd α):Bool:=decide (t.kind=0) && zbD t.name && decide (t.text.length=0) && zhW t.attrs && !(zaj t.name && decide (0<t.kids.length))
theorem zbh {α:Type} (t:Nd α):zaT t=true↔zgl t:=by
 unfold zaT zgl
 rw [Bool.and_eq_true,Bool.and_eq_true,Bool.and_eq_true,Bool.and_eq_true,zby,zmV,decide_eq_true_eq,decide_eq_true_eq,Bool.not_eq_true',<-Bool.not_eq_true,Bool.and_eq_true,zaS,decide_eq_true_eq,and_assoc,and_assoc,and_assoc]
def okT:(n:Nat)->Int->Tr n->Int->Bool×Int
 | 0=>fun _ t _=>t.elim
 | n+1=>fun deep t left=>if left-1<0∨20<deep then (false,left-1) else if t.kind=1 then (zbi t,left-1) else if zaT t=true then okK (okT n (deep+1)) t.kids (left-1) else (false,left-1)
theorem zbo (n:Nat) (deep:Int) (t:Tr (n+1)) (left:Int):okT (n+1) deep t left=if left-1<0∨20<deep then (false,left-1) else if t.kind=1 then (zbi t,left-1) else if zaT t=true then okK (okT n (deep+1)) t.kids (left-1) else (false,left-1):=rfl
theorem zqF {α:Type} {f:α->Int->Bool×Int} {l:List α} {k:Nat} {left:Int} (h:k<l.length):okK f (l.drop k) left=if (f l[k] left).1=true then okK f (l.drop (k+1)) (f l[k] left).2 else (false,(f l[k] left).2):=by
 rw [List.drop_eq_getElem_cons h];rfl
theorem znU {α:Type} {f:α->Int->Bool×Int} (hf:∀x left,0<=left->-1<=(f x left).2∧(f x left).2<=left∧((f x left).1=true->0<=(f x left).2)) (l:List α) (left:Int) (h0:0<=left) : -1<=(okK f l left).2∧(okK f l left).2<=left∧((okK f l left).1=true->0<=(okK f l left).2):=by
 induction l generalizing left with
 | nil=>exact⟨by simp [okK];omega,by simp [okK],fun _=>by simpa [okK]using h0⟩
 | cons x r ih=>
  have h:=hf x left h0
  rw [okK]
  by_cases hb:(f x left).1=true
  ·rw [if_pos hb]
   have:=ih (f x left).2 (h.2.2 hb)
   exact⟨this.1,by omega,this.2.2⟩
  ·rw [if_neg hb]
   exact⟨h.1,h.2.1,fun e=>by cases e⟩
theorem zdH (n:Nat) (deep:Int) (t:Tr n) (left:Int) (h0:0<=left) : -1<=(okT n deep t left).2∧(okT n deep t left).2<=left∧((okT n deep t left).1=true->0<=(okT n deep t left).2):=by
 induction n generalizing deep left with
 | zero=>exact t.elim
 | succ n ih=>
  unfold okT
  by_cases h1:left-1<0∨20<deep
  ·rw [if_pos h1];exact⟨by simp;omega,by simp;omega,fun e=>by cases e⟩
  ·rw [if_neg h1]
   by_cases h2:t.kind=1
   ·rw [if_pos h2];exact⟨by simp;omega,by simp;omega,fun _=>by simp;omega⟩
   ·rw [if_neg h2]
    by_cases h3:zaT t=true
    ·rw [if_pos h3]
     have:=znU (f:=okT n (deep+1)) (fun x l hl=>ih (deep+1) x l hl) t.kids (left-1) (by omega)
     exact⟨this.1,by omega,this.2.2⟩
    ·rw [if_neg h3];exact⟨by simp;omega,by simp;omega,fun e=>by cases e⟩
theorem zdJ (w:Xe) (v:Xf) (l:Xa) (h:Byt w v l) (hn:Void l):Calls Tryz.prog 36 #[v] w fun e w'=>e=.returned (.bool true)∧w'=w:=by
 refine (ziH w v l h).mono ?_
 rintro e w' ⟨rfl,h⟩
 exact⟨by simp [hn],h⟩
theorem zfu (w:Xe) (v:Xf) (l:Xa) (h:Byt w v l) (hn:¬ Void l):Calls Tryz.prog 36 #[v] w fun e w'=>e=.returned (.bool false)∧w'=w:=by
 refine (ziH w v l h).mono ?_
 rintro e w' ⟨rfl,h⟩
 exact⟨by simp [hn],h⟩
theorem zfj (w:Xe) (v:Xf) (l:List (Xa×Xa)) (h:RdAttrs w v l) (hn:zal l):Calls Tryz.prog 104 #[v] w fun e w'=>e=.returned (.bool true)∧Below w.heap.size w w':=by
 refine (zhI w v l h).mono ?_
 rintro e w' ⟨rfl,h⟩
 exact⟨by simp [hn],h⟩
theorem zpm (w:Xe) (v:Xf) (l:List (Xa×Xa)) (h:RdAttrs w v l) (hn:¬ zal l):Calls Tryz.prog 104 #[v] w fun e w'=>e=.returned (.bool false)∧Below w.heap.size w w':=by
 refine (zhI w v l h).mono ?_
 rintro e w' ⟨rfl,h⟩
 exact⟨by simp [hn],h⟩
def zfg (n:Nat):Prop:=∀(w0 w:Xe) (a b c d e:Xf) (t:Tr n) (deep left:Int) (g:Nat),RdNode n w0 [a,b,c,d,e] t->Below w0.heap.size w0 w->w0.heap.size<=g->Loc w g #[.int .i64 left] 3->0<=left->left<=1000000->0<=deep->deep<=1000->
  Calls Tryz.prog 73 #[.agg #[a,b,c,d,e],.int .i64 deep,.pointer (some ⟨g,0,none⟩)] w fun e w'=>e=.returned (.bool (okT n deep t left).1)∧Loc w' g #[.int .i64 (okT n deep t left).2] 3∧Frm w w' [g]
theorem zrX (w:Xe) (g:Nat) (left x:Int) (A:Array Xf) (T:Xg) (h:Loc w g #[.int .i64 left] 3):Loc ((w.setCell ⟨g,0,none⟩ (.int .i64 x)).alloc (.cells A T)) g #[.int .i64 x] 3∧Loc ((w.setCell ⟨g,0,none⟩ (.int .i64 x)).alloc (.cells A T)) w.heap.size A T∧Frm w ((w.setCell ⟨g,0,none⟩ (.int .i64 x)).alloc (.cells A T)) [g]:=by
 refine⟨(h.set 0 _).alloc _,?_,(zab _ _ _ _).trans (Frm.ofBelow ((Below.refl _ _).alloc (Nat.le_refl _) _) [g])⟩
 have:=Loc.made (w.setCell ⟨g,0,none⟩ (.int .i64 x)) A T
 simpa using this
set_option maxHeartbeats 3200000 in
theorem zlE (n:Nat) (H:zfg n):zfg (n+1):=by
 intro w0 w a b c d e t deep left g hr hB hg hl h0 h1 hd0 hd1
 have hr':=hr
 obtain⟨_,_,_,_,e0,k1,k2,hb,hc,hd,he⟩:=hr
 simp only [List.cons.injEq,and_true]at e0
 obtain⟨rfl,rfl,rfl,rfl,rfl⟩:=e0
 obtain⟨ab,cb,rfl,_,_⟩:=hb.shape
 obtain⟨ac,cc,rfl,_,_⟩:=hc.shape
 obtain⟨ad,cd,rfl,_,_⟩:=Elems.shape hd
 obtain⟨ae,ce,rfl,_,_⟩:=Elems.shape he
 obtain⟨lg,lb,hf⟩:=zrX w g left (left-1) #[.int .i64 t.kind,.slice ab t.name.length cb,.slice ac t.text.length cc,.slice ad t.attrs.length cd,.slice ae t.kids.length ce] 37 hl
 have hgl:=hl.lt
 have hgc:=hl.cell 0
 have hgf:=hl.frozen 0
 simp at hgc
 have hne:w.heap.size≠g:=by omega
 by_cases hA:left-1<0
 ·have HE:=hide (show okT (n+1) deep t left=(false,left-1) by unfold okT;rw [if_pos (.inl hA)])
  have HP:=hide (And.intro lg hf)
  clear lg lb hf hl
  go_enter Tryz.func73,Tryz.ntmps73
  go_wp2_with fail
  go_ret
  exact⟨by rw [zaa HE];rfl,by rw [zaa HE];exact (zaa HP).1,(zaa HP).2⟩
 have hA':decide (left-1<0)=false:=by simpa using hA
 by_cases hD:20<deep
 ·have HE:=hide (show okT (n+1) deep t left=(false,left-1) by unfold okT;rw [if_pos (.inr hD)])
  have HP:=hide (And.intro lg hf)
  clear lg lb hf hl
  go_enter Tryz.func73,Tryz.ntmps73
  go_wp2_with fail
  go_ret
  exact⟨by rw [zaa HE];rfl,by rw [zaa HE];exact (zaa HP).1,(zaa HP).2⟩
 have hD':¬ 20<deep:=hD
 have hBW:=hB.trans (hf.below hB.size (fun q hq=>by simp at hq;omega))
 by_cases hK:t.kind=1
 ·have hEq:okT (n+1) deep t left=(zbi t,left-1):=by unfold okT;rw [if_neg (by omega),if_pos hK]
  have dk:(t.kind == 1)=true:=by simp [hK]
  have HP:=hide (And.intro lg hf)
  have HBW:=hide hBW
  clear lg lb hf hl hBW
  by_cases q1:t.name.length=0
  ·have d1:((t.name.length:Int) == 0)=true:=beq_iff_eq.2 (by omega)
   by_cases q2:t.attrs.length=0
   ·have d2:((t.attrs.length:Int) == 0)=true:=beq_iff_eq.2 (by omega)
    by_cases q3:t.kids.length=0
    ·have d3:((t.kids.length:Int) == 0)=true:=beq_iff_eq.2 (by omega)
     by_cases q4:zat t.text
     ·have HE:=hide (hEq.trans (by rw [(zbb t).2 ⟨q1,q2,q3,q4⟩]:(zbi t,left-1)=(true,left-1)))
      have HQ:=hide q4
      clear hEq q1 q2 q3 q4 hK
      go_enter Tryz.func73,Tryz.ntmps73
      go_wp2_with fail
      refine (zdF _ _ t.text (hc.keep (zaa HBW)) (zaa HQ)).mono ?_
      rintro e w1 ⟨rfl,rfl⟩
      go_wp2_with fail
      go_ret
      exact⟨by rw [zaa HE];rfl,by rw [zaa HE];exact (zaa HP).1,(zaa HP).2⟩
     ·have HE:=hide (hEq.trans (by rw [Bool.eq_false_iff.2 (fun h=>q4 ((zbb t).1 h).2.2.2)]:(zbi t,left-1)=(false,left-1)))
      have HQ:=hide q4
      clear hEq q1 q2 q3 q4 hK
      go_enter Tryz.func73,Tryz.ntmps73
      go_wp2_with fail
      refine (zht _ _ t.text (hc.keep (zaa HBW)) (zaa HQ)).mono ?_
      rintro e w1 ⟨rfl,rfl⟩
      go_wp2_with fail
      go_ret
      exact⟨by rw [zaa HE];rfl,by rw [zaa HE];exact (zaa HP).1,(zaa HP).2⟩
    ·have d3:((t.kids.length:Int) == 0)=false:=beq_eq_false_iff_ne.2 (by omega)
     have HE:=hide (hEq.trans (by rw [Bool.eq_false_iff.2 (fun h=>q3 ((zbb t).1 h).2.2.1)]:(zbi t,left-1)=(false,left-1)))
     clear hEq q1 q2 q3 hK
     go_enter Tryz.func73,Tryz.ntmps73
     go_wp2_with fail
     go_ret
     exact⟨by rw [zaa HE];rfl,by rw [zaa HE];exact (zaa HP).1,(zaa HP).2⟩
   ·have d2:((t.attrs.length:Int) == 0)=false:=beq_eq_false_iff_ne.2 (by omega)
    have HE:=hide (hEq.trans (by rw [Bool.eq_false_iff.2 (fun h=>q2 ((zbb t).1 h).2.1)]:(zbi t,left-1)=(false,left-1)))
    clear hEq q1 q2 hK
    go_enter Tryz.func73,Tryz.ntmps73
    go_wp2_with fail
    go_ret
    exact⟨by rw [zaa HE];rfl,by rw [zaa HE];exact (zaa HP).1,(zaa HP).2⟩
  ·have d1:((t.name.length:Int) == 0)=false:=beq_eq_false_iff_ne.2 (by omega)
   have HE:=hide (hEq.trans (by rw [Bool.eq_false_iff.2 (fun h=>q1 ((zbb t).1 h).1)]:(zbi t,left-1)=(false,left-1)))
   clear hEq q1 hK
   go_enter Tryz.func73,Tryz.ntmps73
   go_wp2_with fail
   go_ret
   exact⟨by rw [zaa HE];rfl,by rw [zaa HE];exact (zaa HP).1,(zaa HP).2⟩
 have dk:(t.kind == 1)=false:=by simpa using hK
 have hbad:¬ zgl t->okT (n+1) deep t left=(false,left-1):=fun h=>by unfold okT;rw [if_neg (by omega),if_neg hK,if_neg (fun e=>h ((zbh t).1 e))]
 have hgood:zgl t->okT (n+1) deep t left=okK (okT n (deep+1)) t.kids (left-1):=fun h=>by rw [zbo,if_neg (by omega),if_neg hK,if_pos ((zbh t).2 h)]
 have HP:=hide (And.intro lg (And.intro lb hf))
 have HBW:=hide hBW
 clear lg lb hf hl hBW hK
 by_cases z0:t.kind=0
 ·have dz:(t.kind != 0)=false:=by simp [z0]
  by_cases z1:zah t.name
  ·by_cases z2:t.text.length=0
   ·by_cases z3:zal t.attrs
    ·have H1:=hide z1
     have H3:=hide z3
     by_cases z4:Void t.name
     ·have H4:=hide z4
      by_cases z5:0<t.kids.length
      ·have HE:=hide (hbad (fun h=>h.2.2.2.2 ⟨z4,z5⟩))
       clear hbad hgood z0 z1 z3 z4 hc hr' he
       generalize t.text.length=nT at *
       generalize t.kids.length=nK at *
       subst z2
       have hkd:decide (0<nK)=true:=by simp;omega
       go_enter Tryz.func73,Tryz.ntmps73
       go_wp2_with fail
       refine (zbI _ _ t.name (hb.keep (zaa HBW)) (zaa H1)).mono ?_
       rintro e w1 ⟨rfl,rfl⟩
       go_wp2_with fail
       refine (zfj _ _ t.attrs (hd.keep (zaa HBW)) (zaa H3)).mono ?_
       rintro e w1 ⟨rfl,hB1⟩
       have lb:=(zaa HP).2.1.all hB1
       have u1:=lb.cell 1
       have u4:=lb.cell 4
       simp at u1 u4
       have hBW1:=(zaa HBW).trans (hB1.mono (zaa HBW).size)
       have HQ:=hide (And.intro ((zaa HP).1.all hB1) ((zaa HP).2.2.trans (Frm.ofBelow hB1 [g])))
       clear lb hB1
       go_wp2_with fail
       refine (zdJ _ _ t.name (hb.keep hBW1) (zaa H4)).mono ?_
       rintro e w2 ⟨rfl,rfl⟩
       go_wp2_with fail
       go_ret
       exact⟨by rw [zaa HE];rfl,by rw [zaa HE];exact (zaa HQ).1,(zaa HQ).2⟩
      ·have HE:=hide (hgood ⟨z0,z1,z2,z3,fun h=>z5 h.2⟩)
       have hk0:t.kids.length=0:=by omega
       have hke:t.kids=[]:=List.eq_nil_of_length_eq_zero hk0
       have HK:=hide (show okK (okT n (deep+1)) t.kids (left-1)=(true,left-1) by rw [hke];rfl)
       clear he z5 hke
       generalize t.kids.length=nK at *
       subst hk0
       clear hbad hgood z0 z1 z3 z4 hc hr'
       generalize t.text.length=nT at *
       subst z2
       go_enter Tryz.func73,Tryz.ntmps73
       go_wp2_with fail
       refine (zbI _ _ t.name (hb.keep (zaa HBW)) (zaa H1)).mono ?_
       rintro e w1 ⟨rfl,rfl⟩
       go_wp2_with fail
       refine (zfj _ _ t.attrs (hd.keep (zaa HBW)) (zaa H3)).mono ?_
       rintro e w1 ⟨rfl,hB1⟩
       have lb:=(zaa HP).2.1.all hB1
       have u1:=lb.cell 1
       have u4:=lb.cell 4
       simp at u1 u4
       have hBW1:=(zaa HBW).trans (hB1.mono (zaa HBW).size)
       have HQ:=hide (And.intro ((zaa HP).1.all hB1) (And.intro lb ((zaa HP).2.2.trans (Frm.ofBelow hB1 [g]))))
       clear lb hB1
       go_wp2_with fail
       refine (zdJ _ _ t.name (hb.keep hBW1) (zaa H4)).mono ?_
       rintro e w2 ⟨rfl,rfl⟩
       go_wp2_with fail
       refine wp_loop_rounds 1 ?_
       rw [rounds_succ]
       go_wp2_with fail
       go_ret
       exact⟨by rw [zaa HE,zaa HK];rfl,by rw [zaa HE,zaa HK];exact (zaa HQ).1,(zaa HQ).2.2⟩
     ·have H4:=hide z4
      have HE:=hide (hgood ⟨z0,z1,z2,z3,fun h=>z4 h.1⟩)
      clear hbad hgood z0 z1 z3 z4 hc hr'
      generalize t.text.length=nT at *
      subst z2
      go_enter Tryz.func73,Tryz.ntmps73
      go_wp2_with fail
      refine (zbI _ _ t.name (hb.keep (zaa HBW)) (zaa H1)).mono ?_
      rintro e w1 ⟨rfl,rfl⟩
      go_wp2_with fail
      refine (zfj _ _ t.attrs (hd.keep (zaa HBW)) (zaa H3)).mono ?_
      rintro e w1 ⟨rfl,hB1⟩
      have lb:=(zaa HP).2.1.all hB1
      have u1:=lb.cell 1
      have u4:=lb.cell 4
      simp at u1 u4
      have hBW1:=(zaa HBW).trans (hB1.mono (zaa HBW).size)
      have HQ:=hide (And.intro ((zaa HP).1.all hB1) (And.intro lb ((zaa HP).2.2.trans (Frm.ofBelow hB1 [g]))))
      clear lb hB1
      go_wp2_with fail
      refine (zfu _ _ t.name (hb.keep hBW1) (zaa H4)).mono ?_
      rintro e w2 ⟨rfl,rfl⟩
      go_wp2_with fail
      go_loopw [7] (fun i wr=>∃(k:Nat) (lk:Int),k<=t.kids.length∧i=.int .i64 k∧0<=lk∧lk<=1000000∧Loc wr g #[.int .i64 lk] 3∧Loc wr w.heap.size #[.int .i64 t.kind,.slice ab t.name.length cb,.slice ac 0 cc,.slice ad t.attrs.length cd,.slice ae t.kids.length ce] 37∧Frm w wr [g]∧Hid (okK (okT n (deep+1)) t.kids (left-1)=okK (okT n (deep+1)) (t.kids.drop k) lk)) (fun i _=>t.kids.length-(intOf i).toNat)
      case atStart=>exact⟨0,left-1,Nat.zero_le _,rfl,by omega,by omega,(zaa HQ).1,(zaa HQ).2.1,(zaa HQ).2.2,hide rfl⟩
      case round=>
       obtain⟨k,lk,hk,rfl,hl0,hl1,rg,rb,rf,HK⟩:=hrel
       have v4:=rb.cell 4
       simp at v4
       have hmk:=Elems.shape he
       have hBr:Below w0.heap.size w0 wr:=hB.trans (rf.below hB.size (fun q hq=>by simp at hq;omega))
       by_cases hlt:k<t.kids.length
       ·have hkm:=he.1
        obtain⟨_,⟨_,e⟩ | ⟨_,_,_,_,e⟩ | ⟨b,off,cap,e,g1,g2,g3,g4,g5⟩⟩:=he
        ·rw [e]at hlt;simp at hlt
        ·rw [e]at hlt;simp at hlt
        simp only [Value.slice.injEq,true_and]at e
        obtain⟨rfl,rfl⟩:=e
        obtain⟨c0,c1,c2,c3,c4,e0,e1,e2,e3,e4,hx⟩:=zej (g5 k hlt)
        replace e0:=(hBr.cell (p:=⟨b,off+k*5,none⟩) g4).trans e0
        replace e1:=(hBr.cell (p:=⟨b,off+k*5+1,none⟩) g4).trans e1
        replace e2:=(hBr.cell (p:=⟨b,off+k*5+2,none⟩) g4).trans e2
        replace e3:=(hBr.cell (p:=⟨b,off+k*5+3,none⟩) g4).trans e3
        replace e4:=(hBr.cell (p:=⟨b,off+k*5+4,none⟩) g4).trans e4
        have hlt':(k:Int)<(t.kids.length:Int):=by omega
        have hob:=zdH n (deep+1) t.kids[k] lk hl0
        have hkd:=zqF (f:=okT n (deep+1)) (left:=lk) hlt
        have HR:=hide (And.intro rg (And.intro rb rf))
        have HKD:=hide hkd
        have HOB:=hide hob
        unfold maxLen at hkm
        clear g5 rg rb rf hkd hob HQ u1 u4
        go_wp2_with fail
        refine (H w0 wr c0 c1 c2 c3 c4 t.kids[k] (deep+1) lk g hx hBr hg (zaa HR).1 hl0 hl1 (by omega) (by omega)).mono ?_
        rintro e w3 ⟨rfl,hg3,hf3⟩
        have rb3:=(zaa HR).2.1.frm hf3 (by simp;omega)
        have rf3:=(zaa HR).2.2.trans hf3
        have HR3:=hide (And.intro hg3 (And.intro rb3 rf3))
        clear hg3 hf3 rb3 rf3 e0 e1 e2 e3 e4 hx v4 HR
        generalize okT n (deep+1) t.kids[k] lk=res at *
        obtain⟨rb,rl⟩:=res
        cases rb with
        | true=>
         have q1:0<=rl:=(zaa HOB).2.2 rfl
         have q2:rl<=lk:=(zaa HOB).2.1
         have HF:=hide ((zaa HK).trans ((zaa HKD).trans (if_pos rfl)))
         clear HOB HKD HK
         go_wp2_with fail
         go_roundw
         case rel=>exact⟨k+1,rl,by omega,by go_num,q1,by omega,(zaa HR3).1,(zaa HR3).2.1,(zaa HR3).2.2,HF⟩
         case measure=>simp [intOf];omega
        | false=>
         have HF:=hide ((zaa HK).trans ((zaa HKD).trans (if_neg (by simp))))
         go_wp2_with fail
         go_ret
         exact⟨by rw [zaa HE,zaa HF];rfl,by rw [zaa HE,zaa HF];exact (zaa HR3).1,(zaa HR3).2.2⟩
       ·have HF:=hide ((zaa HK).trans (show okK (okT n (deep+1)) (t.kids.drop k) lk=(true,lk) by rw [List.drop_of_length_le (by omega)];rfl))
        have hlt':¬ (k:Int)<(t.kids.length:Int):=by omega
        have HR:=hide (And.intro rg (And.intro rb rf))
        clear rg rb rf he HQ u1 u4 HK
        go_wp2_with fail
        go_ret
        exact⟨by rw [zaa HE,zaa HF];rfl,by rw [zaa HE,zaa HF];exact (zaa HR).1,(zaa HR).2.2⟩
    ·have HE:=hide (hbad (fun h=>z3 h.2.2.2.1))
     have H1:=hide z1
     have H3:=hide z3
     clear hbad hgood z0 z1 z3 hc hr'
     generalize t.text.length=nT at *
     subst z2
     go_enter Tryz.func73,Tryz.ntmps73
     go_wp2_with fail
     refine (zbI _ _ t.name (hb.keep (zaa HBW)) (zaa H1)).mono ?_
     rintro e w1 ⟨rfl,rfl⟩
     go_wp2_with fail
     refine (zpm _ _ t.attrs (hd.keep (zaa HBW)) (zaa H3)).mono ?_
     rintro e w1 ⟨rfl,hB1⟩
     go_wp2_with fail
     go_ret
     exact⟨by rw [zaa HE];rfl,by rw [zaa HE];exact (zaa HP).1.all hB1,(zaa HP).2.2.trans (Frm.ofBelow hB1 [g])⟩
   ·have HE:=hide (hbad (fun h=>z2 h.2.2.1))
    have H1:=hide z1
    clear hbad hgood z0 z1 hc hr'
    generalize t.text.length=nT at *
    have hkp:0<nT:=by omega
    have hkd:decide (0<nT)=true:=by simp;omega
    clear z2
    go_enter Tryz.func73,Tryz.ntmps73
    go_wp2_with fail
    refine (zbI _ _ t.name (hb.keep (zaa HBW)) (zaa H1)).mono ?_
    rintro e w1 ⟨rfl,rfl⟩
    go_wp2_with fail
    go_ret
    exact⟨by rw [zaa HE];rfl,by rw [zaa HE];exact (zaa HP).1,(zaa HP).2.2⟩
  ·have HE:=hide (hbad (fun h=>z1 h.2.1))
   have H1:=hide z1
   clear hbad hgood z0 z1
   go_enter Tryz.func73,Tryz.ntmps73
   go_wp2_with fail
   refine (zhi _ _ t.name (hb.keep (zaa HBW)) (zaa H1)).mono ?_
   rintro e w1 ⟨rfl,rfl⟩
   go_wp2_with fail
   go_ret
   exact⟨by rw [zaa HE];rfl,by rw [zaa HE];exact (zaa HP).1,(zaa HP).2.2⟩
 ·have dz:(t.kind != 0)=true:=by simp [z0]
  have HE:=hide (hbad (fun h=>z0 h.1))
  clear hbad hgood z0
  go_enter Tryz.func73,Tryz.ntmps73
  go_wp2_with fail
  go_ret
  exact⟨by rw [zaa HE];rfl,by rw [zaa HE];exact (zaa HP).1,(zaa HP).2.2⟩
theorem znC (n:Nat):zfg n:=by
 induction n with
 | zero=>exact fun _ _ _ _ _ _ _ t=>t.elim
 | succ n ih=>exact zlE n ih
def okN (n:Nat) (t:Tr (n+1)):Bool:=decide (t.kind=0) && (okT (n+1) 1 t 120).1
set_option maxHeartbeats 1600000 in
theorem zps (n:Nat) (w:Xe) (a b c d e:Xf) (t:Tr (n+1)) (h:RdNode (n+1) w [a,b,c,d,e] t) :
  Calls Tryz.prog 35 #[.agg #[a,b,c,d,e]] w fun e w'=>e=.returned (.bool (okN n t))∧Below w.heap.size w w':=by
 have h':=h
 obtain⟨_,_,_,_,e0,k1,k2,hb,hc,hd,he⟩:=h
 simp only [List.cons.injEq,and_true]at e0
 obtain⟨rfl,rfl,rfl,rfl,rfl⟩:=e0
 obtain⟨ab,cb,rfl,_,_⟩:=hb.shape
 obtain⟨ac,cc,rfl,_,_⟩:=hc.shape
 obtain⟨ad,cd,rfl,_,_⟩:=Elems.shape hd
 obtain⟨ae,ce,rfl,_,_⟩:=Elems.shape he
 have hA:Below w.heap.size w ((w.alloc (.cells #[.int .i64 t.kind,.slice ab t.name.length cb,.slice ac t.text.length cc,.slice ad t.attrs.length cd,.slice ae t.kids.length ce] 37)).alloc (.cells #[.int .i64 120] 3)):=((Below.refl _ _).alloc (Nat.le_refl _) _).alloc (by simp) _
 have lg:=Loc.made (w.alloc (.cells #[.int .i64 t.kind,.slice ab t.name.length cb,.slice ac t.text.length cc,.slice ad t.attrs.length cd,.slice ae t.kids.length ce] 37)) #[.int .i64 120] 3
 simp only [World.size_alloc]at lg
 by_cases hk:t.kind=0
 ·have dk:(t.kind == 0)=true:=by simp [hk]
  have HE:=hide (show okN n t=(okT (n+1) 1 t 120).1 by unfold okN;simp [hk])
  have HP:=hide (And.intro hA lg)
  clear hA lg hk
  go_enter Tryz.func35,Tryz.ntmps35
  go_wp2_with fail
  refine (znC (n+1) w _ _ _ _ _ _ t 1 120 (w.heap.size+1) h' (zaa HP).1 (by omega) (zaa HP).2 (by omega) (by omega) (by omega) (by omega)).mono ?_
  rintro e w1 ⟨rfl,hg1,hf1⟩
  have HB:=hide ((zaa HP).1.trans (hf1.below (zaa HP).1.size (fun q hq=>by simp at hq;omega)))
  clear hg1 hf1
  go_wp2_with fail
  go_ret
  exact⟨by rw [zaa HE];rfl,zaa HB⟩
 ·have dk:(t.kind == 0)=false:=by simpa using hk
  have HE:=hide (show okN n t=false by unfold okN;simp [hk])
  have HP:=hide hA
  clear hA lg hk
  go_enter Tryz.func35,Tryz.ntmps35
  go_wp2_with fail
  go_ret
  exact⟨by rw [zaa HE];rfl,zaa HP⟩
theorem two (w:Xe) (A Z:Array Xf) (TA T:Xg):Loc ((w.alloc (.cells A TA)).alloc (.cells Z T)) w.heap.size A TA∧Loc ((w.alloc (.cells A TA)).alloc (.cells Z T)) (w.heap.size+1) Z T∧Below w.heap.size w ((w.alloc (.cells A TA)).alloc (.cells Z T)):=by
 refine⟨(Loc.made w A TA).alloc _,?_,((Below.refl _ _).alloc (Nat.le_refl _) _).alloc (by simp) _⟩
 have:=Loc.made (w.alloc (.cells A TA)) Z T
 simp only [World.size_alloc]at this
 exact this
theorem Elems.at {α:Type} {w:Xe} {size m:Nat} {a:Xc} {cap k:Nat} {l:List α} {R:Xd->α->Prop} (h:Elems w size (.slice a m cap) l R) (hk:k<l.length) :
  ∃b off,a=some ⟨b,off,none⟩∧b<w.heap.size∧m=l.length∧m<=cap∧∃C:Xd,C.length=size∧(∀j,j<size->w.cell? ⟨b,off+k*size+j,none⟩=C[j]?)∧R C l[k]:=by
 obtain⟨_,⟨_,e⟩ | ⟨_,_,_,_,e⟩ | ⟨b,off,c,e,g1,g2,g3,g4,g5⟩⟩:=h
 ·subst e;simp at hk
 ·subst e;simp at hk
 ·injection e with e1 e2 e3
  subst e1 e2 e3
  exact⟨b,off,rfl,g4,rfl,g1,g5 k hk⟩
theorem Loc.five {w:Xe} {g:Nat} {a b c d e:Xf} {T:Xg} (h:Loc w g #[a,b,c,d,e] T) :
  w.cell? ⟨g,0,none⟩=some a∧w.cell? ⟨g,1,none⟩=some b∧w.cell? ⟨g,2,none⟩=some c∧w.cell? ⟨g,3,none⟩=some d∧w.cell? ⟨g,4,none⟩=some e:=
 ⟨h.cell 0,h.cell 1,h.cell 2,h.cell 3,h.cell 4⟩
def zcG (x:Xa×Xa):Xa:=[32]++x.1++[61,34]++say true x.2++[34]
def zau (l:List (Xa×Xa)):Xa:=(l.map zcG).flatten
def mkup:(n:Nat)->Tr n->Xa
 | 0=>fun _=>[]
 | n+1=>fun t=>if t.kind=1 then say false t.text else [60]++t.name++zau t.attrs++[62]++(if zaj t.name=true then [] else (t.kids.map (mkup n)).flatten++[60,47]++t.name++[62])
theorem zgg (n:Nat) (t:Tr (n+1)):mkup (n+1) t=if t.kind=1 then say false t.text else [60]++t.name++zau t.attrs++[62]++(if zaj t.name=true then [] else (t.kids.map (mkup n)).flatten++[60,47]++t.name++[62]):=rfl
theorem zdO {α β:Type} (f:α->List β) (l:List α) (j:Nat) (h:j<l.length):((l.take (j+1)).map f).flatten=((l.take j).map f).flatten++f l[j]:=by
 rw [List.take_succ_eq_append_getElem h,List.map_append,List.flatten_append]
 simp
theorem zeV {α β:Type} (f:α->List β) (l:List α) (j:Nat):((l.take j).map f).flatten.length<=(l.map f).flatten.length:=by
 have:(l.map f).flatten=((l.take j).map f).flatten++((l.drop j).map f).flatten:=by rw [<-List.flatten_append,<-List.map_append,List.take_append_drop]
 rw [this,List.length_append]
 omega
def zlf (n:Nat):Prop:=∀(w0 w:Xe) (B:Nat) (v:Xf) (l:Xa) (a b c d e:Xf) (t:Tr n),RdNode n w0 [a,b,c,d,e] t->Below w0.heap.size w0 w->w0.heap.size<=B->B<=w.heap.size->Own w B v l->l.length+(mkup n t).length<=100000000->
  Calls Tryz.prog 40 #[v,.agg #[a,b,c,d,e]] w fun e w'=>∃v',e=.returned v'∧Own w' B v' (l++mkup n t)∧Frp (MtB B) w w'
theorem zaE (B g:Nat) (cs:Array Xf):¬ MtB B g (.cells cs 37 (0,0)):=by
 rintro⟨_,cs',h⟩
 injection h with _ h2
 revert h2
 decide
theorem zsS:okB [60]:=fun x hx=>by simp at hx;omega
theorem zoF:okB [61,34]:=fun x hx=>by simp at hx;omega
theorem zic:okB [60,47]:=fun x hx=>by simp at hx;omega
theorem zrp {w:Xe} {B K:Nat} {v:Xf} {l:Xa} {x:Xf} (ho:Own w B v l) (h2:2<=l.length) (hK:Loc w K #[x] 5):v.ownBlock≠some K:=by
 intro e
 rcases ho.2.2 with ⟨rfl,_⟩ | ⟨g,cap,cur,rfl,_,hg,h3,_,h5,_⟩
 ·cases e
 ·cases e
  unfold Loc at hK
  rw [hK]at hg
  injection hg with hg
  injection hg with hg
  subst hg
  simp at h5
  omega
theorem zfS {w w':Xe} {K:Nat} {row:Option Nat} {cs:Array Xf} {T:Xg} (hK:Loc w K cs T) (hg:w.grownBy w' row) (hn:row≠some K):Loc w' K cs T:=by
 unfold Loc at hK ⊢
 rw [hg.block K (Array.getElem?_eq_some_iff.1 hK).1 (fun e=>hn e.symm)]
 exact hK
theorem zmg {w:Xe} {B:Nat} {v:Xf} {l:Xa} (ho:Own w B v l):v.ownBlock≠some w.heap.size:=fun e=>by
 have:=(ho.2.lt _ e).2
 omega
theorem zrY {w:Xe} {K:Nat} {x:Int} (hK:Loc w K #[.int .u8 x] 5) (h0:0<=x) (h1:x<=255):Byt w (.slice (some ⟨K,0,none⟩) 1 1) [x]:=by
 refine⟨fun y hy=>by simp at hy;omega,by simp [maxLen],.inr (.inr ⟨K,0,1,rfl,by simp,by simp [maxLen],by simp,hK.lt,fun i hi=> ?_⟩)⟩
 have e:i=0:=by simpa using hi
 subst e
 exact hK.cell 0
set_option maxHeartbeats 6400000 in
theorem zrm (n:Nat) (H:zlf n):zlf (n+1):=by
 intro w0 w B v l a b c d e t hrd hW h0 hB ho hlen
 obtain⟨_,_,_,_,e0,k1,k2,hb,hc,hd,he⟩:=hrd
 simp only [List.cons.injEq,and_true]at e0
 obtain⟨rfl,rfl,rfl,rfl,rfl⟩:=e0
 obtain⟨ab,cb,rfl,_,_⟩:=hb.shape
 obtain⟨ac,cc,rfl,_,_⟩:=hc.shape
 obtain⟨ad,cd,rfl,_,_⟩:=Elems.shape hd
 obtain⟨ae,ce,rfl,_,_⟩:=Elems.shape he
 obtain⟨av,cv,rfl,_,_⟩:=ho.byt.shape
 have hB1:Below w.heap.size w (w.alloc (.cells #[.int .i64 t.kind,.slice ab t.name.length cb,.slice ac t.text.length cc,.slice ad t.attrs.length cd,.slice ae t.kids.length ce] 37)):=(Below.refl _ _).alloc (Nat.le_refl _) _
 have l1:=Loc.made w #[.int .i64 t.kind,.slice ab t.name.length cb,.slice ac t.text.length cc,.slice ad t.attrs.length cd,.slice ae t.kids.length ce] 37
 have F1:Frp (MtB B) w _:=Frp.ofBelow hB1 (MtB B)
 have ho1:=ho.keep hB1
 have hW1:=hW.trans (hB1.mono hW.size)
 have hBw1:B<=(w.alloc (.cells #[.int .i64 t.kind,.slice ab t.name.length cb,.slice ac t.text.length cc,.slice ad t.attrs.length cd,.slice ae t.kids.length ce] 37)).heap.size:=Nat.le_trans hB hB1.size
 have hmk:=zgg n t
 by_cases hz:t.kind=1
 ·have dz:(t.kind == 1)=true:=by simpa using hz
  rw [if_pos hz]at hmk
  rw [hmk]at hlen ⊢
  clear hz hmk
  go_enter Tryz.func40,Tryz.ntmps40
  go_wp2_with fail
  refine (zkA w0 _ B _ _ l t.text false hBw1 ho1 hc hW1 h0 hlen).mono ?_
  rintro e w2 ⟨v2,rfl,ho2,F2⟩
  obtain⟨a2,c2,hv2,_,_⟩:=ho2.byt.shape
  subst hv2
  generalize (l++say false t.text).length=n2 at *
  go_wp2_with fail
  go_ret
  exact⟨_,rfl,ho2,F1.trans F2⟩
 ·have dz:(t.kind == 1)=false:=by simpa using hz
  rw [if_neg hz]at hmk
  rw [hmk]at hlen ⊢
  obtain⟨G,hG⟩:∃G,G=l++([60]++t.name++zau t.attrs++[62]++(if zaj t.name=true then [] else (t.kids.map (mkup n)).flatten++[60,47]++t.name++[62])):=⟨_,rfl⟩
  rw [<-hG]
  have HG:=hide hG
  clear hz hmk hG
  obtain⟨x0,x1,x2,x3,x4⟩:=l1.five
  go_enter Tryz.func40,Tryz.ntmps40
  go_wp2_with fail
  generalize (w.alloc (.cells #[.int .i64 t.kind,.slice ab t.name.length cb,.slice ac t.text.length cc,.slice ad t.attrs.length cd,.slice ae t.kids.length ce] 37))=w1 at *
  generalize hS:w.heap.size=S at *
  have hln:l.length+1+t.name.length<=100000000:=by simp only [List.length_append,List.length_cons,List.length_nil]at hlen;omega
  have z1:(w1.alloc (.cells #[.int .u8 60] 5)).drew.cell? ⟨S,1,none⟩=some (.slice ab t.name.length cb):=(l1.alloc _).cell 1
  go_region_held3 (fun w'=>w'.cell? ⟨S,1,none⟩=some (.slice ab t.name.length cb))
   (first | assumption | simp [*])
   (first
    | (refine zci rfl (.tmp 14) (.tmp 15) rfl B _ l (by rfl) (ho1.alloc _) _ [60] (by rfl) (zcZ w1 60 (by omega) (by omega)) (by simp;omega) (by simp;omega) ?_;intro v5 w5 ho5 hg5;have F5:Frp (MtB B) w1 w5:=(Frp.ofBelow (((Below.refl w1.heap.size w1).alloc (Nat.le_refl _) _).drew) _).trans (Frp.ofAppend (ho1.alloc _) hg5);obtain⟨x0,x1,x2,x3,x4⟩:=(l1.frp F5 (zaE _ _ _)).five)
    | (refine zci rfl (.tmp 16) (.tmp 18) rfl B _ (l++[60]) (by rfl) ho5 _ t.name (by rfl) (hb.keep (hW1.trans ((F5.toBelow hBw1).mono h0))) (by simp;omega) (Nat.le_trans hBw1 F5.size) ?_;intro v6 w6 ho6 hg6;have F6:Frp (MtB B) w1 w6:=F5.trans (Frp.ofAppend ho5 hg6);obtain⟨x0,x1,x2,x3,x4⟩:=(l1.frp F6 (zaE _ _ _)).five))
  have HW:=hide (fun (W:Xe) (F:Frp (MtB B) w1 W)=>hW1.trans ((F.toBelow hBw1).mono h0))
  have hmA:(t.attrs.length:Int)<=9223372036854775807:=by have:=hd.1;unfold maxLen at this;omega
  have hmK:(t.kids.length:Int)<=9223372036854775807:=by have:=he.1;unfold maxLen at this;omega
  obtain⟨A0,hA0⟩:∃A0,A0=l++[60]++t.name:=⟨_,rfl⟩
  rw [<-hA0]at ho6
  have hlA:A0.length+(zau t.attrs).length+1<=100000000:=by
   simp only [List.length_append,List.length_cons,List.length_nil]at hlen
   rw [hA0];simp only [List.length_append,List.length_cons,List.length_nil];omega
  clear hg5 hg6 ho5 z1 F5 x0 x1 x2 x3 x4 ho1 ho
  go_wp2_with fail
  go_loopw [0,5] (fun b i wr=>∃j:Nat,j<=t.attrs.length∧i=.int .i64 j∧Own wr B b (A0++zau (t.attrs.take j))∧Frp (MtB B) w1 wr) (fun _ i _=>t.attrs.length-(intOf i).toNat)
  case atStart=>exact⟨0,Nat.zero_le _,rfl,by simpa [zau]using ho6,F6⟩
  case round=>
   obtain⟨j,hj,rfl,hr,hf⟩:=hrel
   have hBr:B<=wr.heap.size:=Nat.le_trans hBw1 hf.size
   by_cases hjl:j<t.attrs.length
   ·have hst:zau (t.attrs.take (j+1))=zau (t.attrs.take j)++zcG t.attrs[j]:=zdO zcG t.attrs j hjl
    have hle:(zau (t.attrs.take (j+1))).length<=(zau t.attrs).length:=zeV zcG t.attrs (j+1)
    obtain⟨pb,poff,rfl,hpl,hun,_,C,hC,hcell,hra⟩:=hd.at hjl
    clear hun
    obtain⟨x,hx⟩:∃x,x=t.attrs[j]:=⟨_,rfl⟩
    rw [<-hx]at hra hst
    obtain⟨y0,y1,rfl,hy0,hy1⟩:=hra
    have q0:=hcell 0 (by omega)
    have q1:=hcell 1 (by omega)
    simp only [List.getElem?_cons_zero,List.getElem?_cons_succ,Nat.add_zero]at q0 q1
    obtain⟨s0,g0,rfl,_,_⟩:=hy0.shape
    obtain⟨s1,g1,rfl,_,_⟩:=hy1.shape
    obtain⟨L,hL⟩:∃L,L=A0++zau (t.attrs.take j):=⟨_,rfl⟩
    have HL:=hide (show A0++zau (t.attrs.take (j+1))=L++[32]++x.1++[61,34]++say true x.2++[34] by rw [hst,hL];simp [zcG])
    have hll:L.length+4+x.1.length+(say true x.2).length<=100000000:=by
     rw [hst]at hle
     rw [hL]
     simp only [List.length_append,zcG,List.length_cons,List.length_nil]at hle ⊢
     omega
    rw [<-hL]at hr
    have HR:=hide hr
    have hjl':(j:Int)<(t.attrs.length:Int):=by omega
    have hj0:(0:Int)<=(j:Int):=by omega
    have c3:wr.cell? ⟨S,3,none⟩=some (.slice (some ⟨pb,poff,none⟩) t.attrs.length cd):=(l1.frp hf (zaE _ _ _)).cell 3
    have u0:wr.cell? ⟨pb,poff+j*2,none⟩=some (.slice s0 x.1.length g0):=((zaa HW wr hf).cell (p:=⟨pb,poff+j*2,none⟩) hpl).trans q0
    have hBz:Below wr.heap.size wr (wr.alloc (.cells #[.int .u8 32] 5)).drew:=((Below.refl _ _).alloc (Nat.le_refl _) _).drew
    have Fz:=hf.trans (Frp.ofBelow hBz _)
    have z3:(wr.alloc (.cells #[.int .u8 32] 5)).drew.cell? ⟨S,3,none⟩=some (.slice (some ⟨pb,poff,none⟩) t.attrs.length cd):=(l1.frp Fz (zaE _ _ _)).cell 3
    have z0:(wr.alloc (.cells #[.int .u8 32] 5)).drew.cell? ⟨pb,poff+j*2,none⟩=some (.slice s0 x.1.length g0):=((zaa HW _ Fz).cell (p:=⟨pb,poff+j*2,none⟩) hpl).trans q0
    clear hr hst hle hx hL hcell
    go_wp2_with fail
    go_region_held3 (fun w'=>w'.cell? ⟨S,3,none⟩=some (.slice (some ⟨pb,poff,none⟩) t.attrs.length cd)∧w'.cell? ⟨pb,poff+j*2,none⟩=some (.slice s0 x.1.length g0))
     (first | exact⟨by assumption,by assumption⟩ | simp [*])
     (first
      | (refine zci rfl (.tmp 27) (.tmp 28) rfl B _ L (by rfl) ((zaa HR).alloc _) _ [32] (by rfl) (zcZ wr 32 (by omega) (by omega)) (by simp;omega) (by simp;omega) ?_;intro v2 w2 ho2 hg2;have F2:Frp (MtB B) w1 w2:=Fz.trans (Frp.ofAppend ((zaa HR).alloc _) hg2);have c3:w2.cell? ⟨S,3,none⟩=some (.slice (some ⟨pb,poff,none⟩) t.attrs.length cd):=(l1.frp F2 (zaE _ _ _)).cell 3;have u0:w2.cell? ⟨pb,poff+j*2,none⟩=some (.slice s0 x.1.length g0):=((zaa HW _ F2).cell (p:=⟨pb,poff+j*2,none⟩) hpl).trans q0)
      | (refine zci rfl (.tmp 29) (.tmp 35) rfl B _ (L++[32]) (by rfl) ho2 _ x.1 (by rfl) (hy0.keep (zaa HW _ F2)) (by simp;omega) (Nat.le_trans hBw1 F2.size) ?_;intro v3 w3 ho3 hg3;have F3:Frp (MtB B) w1 w3:=F2.trans (Frp.ofAppend ho2 hg3);have c3:w3.cell? ⟨S,3,none⟩=some (.slice (some ⟨pb,poff,none⟩) t.attrs.length cd):=(l1.frp F3 (zaE _ _ _)).cell 3;have u0:w3.cell? ⟨pb,poff+j*2,none⟩=some (.slice s0 x.1.length g0):=((zaa HW _ F3).cell (p:=⟨pb,poff+j*2,none⟩) hpl).trans q0)
      | (refine zgm rfl (.tmp 36) (.const (.string ⟨#[61,34]⟩)) rfl B _ (L++[32]++x.1) (by rfl) ho3 ⟨#[61,34]⟩ [61,34] (by rfl) rfl zoF (by simp;omega) (Nat.le_trans hBw1 F3.size) ?_;intro v4 w4 ho4 hg4;have F4:Frp (MtB B) w1 w4:=F3.trans (Frp.ofAppend ho3 hg4);have c3:w4.cell? ⟨S,3,none⟩=some (.slice (some ⟨pb,poff,none⟩) t.attrs.length cd):=(l1.frp F4 (zaE _ _ _)).cell 3;have u0:w4.cell? ⟨pb,poff+j*2,none⟩=some (.slice s0 x.1.length g0):=((zaa HW _ F4).cell (p:=⟨pb,poff+j*2,none⟩) hpl).trans q0))
    have u1:w4.cell? ⟨pb,poff+j*2+1,none⟩=some (.slice s1 x.2.length g1):=((zaa HW _ F4).cell (p:=⟨pb,poff+j*2+1,none⟩) hpl).trans q1
    obtain⟨L4,hL4⟩:∃L4,L4=L++[32]++x.1++[61,34]:=⟨_,rfl⟩
    have hl4:L4.length+(say true x.2).length+1<=100000000:=by rw [hL4];simp only [List.length_append,List.length_cons,List.length_nil];omega
    rw [<-hL4]at ho4 HL
    have HO4:=hide ho4
    clear ho2 ho3 ho4 hg2 hg3 hg4 hL4 z3 z0 hll
    go_wp2_with fail
    refine (zkA w0 _ B _ _ L4 x.2 true (Nat.le_trans hBw1 F4.size) (zaa HO4) hy1 (zaa HW _ F4) h0 (by omega)).mono ?_
    rintro e w5 ⟨v5,rfl,ho5,F5⟩
    have F5':=F4.trans F5
    have hB5:B<=w5.heap.size:=Nat.le_trans hBw1 F5'.size
    have HO5:=hide ho5
    have hl5:(L4++say true x.2).length+1<=100000000:=by rw [List.length_append];omega
    generalize L4++say true x.2=L5 at *
    clear ho5 c3 u0 u1
    go_wp2_with (at_builtin;(refine zcH rfl _ _ rfl B _ L5 rfl ((zaa HO5).alloc _) _ [34] rfl (zcZ w5 34 (by omega) (by omega)) (by first | omega | (simp;omega)) (by first | exact hB5 | (simp;omega)) ?_))
    intro v7 w7 ho7 hg7
    have F7:Frp (MtB B) w1 w7:=(F5'.trans (Frp.ofBelow ((Below.refl _ _).alloc (Nat.le_refl _) _) _)).trans (Frp.ofAppend ((zaa HO5).alloc _) hg7)
    have HO:=hide (show Own w7 B v7 (A0++zau (t.attrs.take (j+1))) by rw [zaa HL];exact ho7)
    clear ho7 hg7
    go_wp2_with fail
    go_roundw
    case rel=>exact⟨j+1,by omega,by go_num,zaa HO,F7⟩
    case measure=>simp [intOf];omega
   ·have hje:j=t.attrs.length:=by omega
    subst hje
    rw [List.take_length]at hr
    have c3:wr.cell? ⟨S,3,none⟩=some (.slice ad t.attrs.length cd):=(l1.frp hf (zaE _ _ _)).cell 3
    obtain⟨A1,hA1⟩:∃A1,A1=A0++zau t.attrs:=⟨_,rfl⟩
    rw [<-hA1]at hr
    have hl1:A1.length+1<=100000000:=by rw [hA1,List.length_append];omega
    have HR:=hide hr
    have HA:=hide (show l++[60]++t.name++zau t.attrs++[62]=A1++[62] by rw [hA1,hA0])
    clear hr hd hA1 hA0
    go_wp2_with (at_builtin;(refine zcH rfl _ _ rfl B _ A1 rfl ((zaa HR).alloc _) _ [62] rfl (zcZ wr 62 (by omega) (by omega)) (by first | omega | (simp;omega)) (by first | exact hBr | (simp;omega)) ?_))
    intro v7 w7 ho7 hg7
    have F7:Frp (MtB B) w1 w7:=(hf.trans (Frp.ofBelow ((Below.refl _ _).alloc (Nat.le_refl _) _) _)).trans (Frp.ofAppend ((zaa HR).alloc _) hg7)
    obtain⟨A2,hA2⟩:∃A2,A2=A1++[62]:=⟨_,rfl⟩
    rw [<-hA2]at ho7
    have eA:l++[60]++t.name++zau t.attrs++[62]=A2:=(zaa HA).trans hA2.symm
    obtain⟨x0,x1,x2,x3,x4⟩:=(l1.frp F7 (zaE _ _ _)).five
    have HO7:=hide ho7
    clear hg7 ho7 c3
    by_cases hv:zaj t.name=true
    ·have HE:=hide (show l++([60]++t.name++zau t.attrs++[62]++(if zaj t.name=true then [] else (t.kids.map (mkup n)).flatten++[60,47]++t.name++[62]))=A2 by rw [if_pos hv,<-eA];simp)
     have HV:=hide ((zaS _).1 hv)
     have HE2:=hide ((zaa HG).trans (zaa HE))
     clear hv hA2 eA hlen HE HA HG
     go_wp2_with fail
     refine (zdJ _ _ t.name (hb.keep (zaa HW _ F7)) (zaa HV)).mono ?_
     rintro e w8 ⟨rfl,rfl⟩
     obtain⟨a8,c8,hv8,_,_⟩:=(zaa HO7).byt.shape
     subst hv8
     go_wp2_with fail
     go_ret
     exact⟨_,rfl,by rw [zaa HE2];exact zaa HO7,F1.trans F7⟩
    ·have HE:=hide (show l++([60]++t.name++zau t.attrs++[62]++(if zaj t.name=true then [] else (t.kids.map (mkup n)).flatten++[60,47]++t.name++[62]))=A2++(t.kids.map (mkup n)).flatten++[60,47]++t.name++[62] by rw [if_neg hv,<-eA];simp)
     have HV:=hide (fun h=>hv ((zaS _).2 h))
     have HE2:=hide ((zaa HG).trans (zaa HE))
     have hlK:A2.length+(t.kids.map (mkup n)).flatten.length+3+t.name.length<=100000000:=by
      rw [if_neg hv]at hlen
      rw [<-eA]
      simp only [List.length_append,List.length_cons,List.length_nil]at hlen ⊢
      omega
     clear hv hA2 eA hlen HE HA HG
     go_wp2_with fail
     refine (zfu _ _ t.name (hb.keep (zaa HW _ F7)) (zaa HV)).mono ?_
     rintro e w8 ⟨rfl,rfl⟩
     go_wp2_with fail
     go_loopw [0,6] (fun b i wr=>∃j:Nat,j<=t.kids.length∧i=.int .i64 j∧Own wr B b (A2++((t.kids.take j).map (mkup n)).flatten)∧Frp (MtB B) w1 wr) (fun _ i _=>t.kids.length-(intOf i).toNat)
     case atStart=>exact⟨0,Nat.zero_le _,rfl,by simpa using (zaa HO7),F7⟩
     case round=>
      clear x0 x1 x2 x3 x4 HO7 F7 hf HR
      obtain⟨j,hj,rfl,hr,hf⟩:=hrel
      have hBr:B<=wr.heap.size:=Nat.le_trans hBw1 hf.size
      by_cases hjl:j<t.kids.length
      ·have hst:=zdO (mkup n) t.kids j hjl
       have hle:=zeV (mkup n) t.kids (j+1)
       obtain⟨pb,poff,rfl,hpl,hun,_,hC⟩:=he.at hjl
       clear hun
       obtain⟨c0,c1,c2,c3,c4,e0,e1,e2,e3,e4,hx⟩:=zej hC
       have hBx:=zaa HW wr hf
       replace e0:=(hBx.cell (p:=⟨pb,poff+j*5,none⟩) hpl).trans e0
       replace e1:=(hBx.cell (p:=⟨pb,poff+j*5+1,none⟩) hpl).trans e1
       replace e2:=(hBx.cell (p:=⟨pb,poff+j*5+2,none⟩) hpl).trans e2
       replace e3:=(hBx.cell (p:=⟨pb,poff+j*5+3,none⟩) hpl).trans e3
       replace e4:=(hBx.cell (p:=⟨pb,poff+j*5+4,none⟩) hpl).trans e4
       have x4:wr.cell? ⟨S,4,none⟩=some (.slice (some ⟨pb,poff,none⟩) t.kids.length ce):=(l1.frp hf (zaE _ _ _)).cell 4
       have hjl':(j:Int)<(t.kids.length:Int):=by omega
       have hl2:(A2++((t.kids.take j).map (mkup n)).flatten).length+(mkup n t.kids[j]).length<=100000000:=by
        rw [hst]at hle
        simp only [List.length_append]at hle ⊢
        omega
       have HST:=hide (show A2++((t.kids.take (j+1)).map (mkup n)).flatten=A2++((t.kids.take j).map (mkup n)).flatten++mkup n t.kids[j] by rw [hst,List.append_assoc])
       generalize A2++((t.kids.take j).map (mkup n)).flatten=L at *
       have HR:=hide hr
       clear hr hst hle hC
       go_wp2_with fail
       refine (H w0 wr B _ L c0 c1 c2 c3 c4 t.kids[j] hx hBx h0 hBr (zaa HR) hl2).mono ?_
       rintro e w9 ⟨v9,rfl,ho9,F9⟩
       have F9':=hf.trans F9
       have HO:=hide (show Own w9 B v9 (A2++((t.kids.take (j+1)).map (mkup n)).flatten) by rw [zaa HST];exact ho9)
       clear ho9 e0 e1 e2 e3 e4 x4
       go_wp2_with fail
       go_roundw
       case rel=>exact⟨j+1,by omega,by go_num,zaa HO,F9'⟩
       case measure=>simp [intOf];omega
      ·have hje:j=t.kids.length:=by omega
       subst hje
       rw [List.take_length]at hr
       have x4:wr.cell? ⟨S,4,none⟩=some (.slice ae t.kids.length ce):=(l1.frp hf (zaE _ _ _)).cell 4
       have x1:wr.cell? ⟨S,1,none⟩=some (.slice ab t.name.length cb):=(l1.frp hf (zaE _ _ _)).cell 1
       have hl2:(A2++(t.kids.map (mkup n)).flatten).length+3+t.name.length<=100000000:=by rw [List.length_append];omega
       have HE3:=zaa HE2
       clear HE2
       generalize A2++(t.kids.map (mkup n)).flatten=L at *
       have HE2:=hide HE3
       clear HE3
       have HR:=hide hr
       clear hr he
       go_wp2_with fail
       have Fd:Frp (MtB B) w1 wr.drew:=hf.trans (Frp.ofBelow ((Below.refl _ _).drew) _)
       have xd:wr.drew.cell? ⟨S,1,none⟩=some (.slice ab t.name.length cb):=(l1.frp Fd (zaE _ _ _)).cell 1
       have Fz:Frp (MtB B) w1 (wr.alloc (.cells #[.int .u8 62] 5)).drew:=hf.trans (Frp.ofBelow (((Below.refl _ _).alloc (Nat.le_refl _) _).drew) _)
       have z1:(wr.alloc (.cells #[.int .u8 62] 5)).drew.cell? ⟨S,1,none⟩=some (.slice ab t.name.length cb):=(l1.frp Fz (zaE _ _ _)).cell 1
       have K4:Loc (wr.alloc (.cells #[.int .u8 62] 5)).drew wr.heap.size #[.int .u8 62] 5:=Loc.made wr _ _
       have hne:=zmg (zaa HR)
       have hBz:B<=(wr.alloc (.cells #[.int .u8 62] 5)).drew.heap.size:=Nat.le_trans hBw1 Fz.size
       go_region_held3 (fun w'=>w'.cell? ⟨S,1,none⟩=some (.slice ab t.name.length cb))
        (first | assumption | simp [*])
        (first
         | (refine zgm rfl (.tmp 69) (.const (.string ⟨#[60,47]⟩)) rfl B _ L (by rfl) (zaa HR) ⟨#[60,47]⟩ [60,47] (by rfl) rfl zic (by simp;omega) hBr ?_;intro v5 w5 ho5 hg5;have F5:Frp (MtB B) w1 w5:=Fd.trans (Frp.ofAppend (show Own wr.drew B _ L from zaa HR) hg5);have x1:w5.cell? ⟨S,1,none⟩=some (.slice ab t.name.length cb):=(l1.frp F5 (zaE _ _ _)).cell 1;have F5z:Frp (MtB B) w1 (w5.alloc (.cells #[.int .u8 62] 5)):=F5.trans (Frp.ofBelow (((Below.refl _ _).alloc (Nat.le_refl _) _)) _);have z1:(w5.alloc (.cells #[.int .u8 62] 5)).cell? ⟨S,1,none⟩=some (.slice ab t.name.length cb):=(l1.frp F5z (zaE _ _ _)).cell 1)
         | (refine zgm rfl (.tmp 69) (.const (.string ⟨#[60,47]⟩)) rfl B _ L (by rfl) ((zaa HR).alloc _) ⟨#[60,47]⟩ [60,47] (by rfl) rfl zic (by simp;omega) hBz ?_;intro v5 w5 ho5 hg5;have F5:Frp (MtB B) w1 w5:=Fz.trans (Frp.ofAppend ((zaa HR).alloc _) hg5);have x1:w5.cell? ⟨S,1,none⟩=some (.slice ab t.name.length cb):=(l1.frp F5 (zaE _ _ _)).cell 1;have K5:=zfS K4 hg5 hne)
         | (refine zci rfl (.tmp 70) (.tmp 72) rfl B _ (L++[60,47]) (by rfl) ho5 _ t.name (by rfl) (hb.keep (zaa HW _ F5)) (by simp;omega) (Nat.le_trans hBw1 F5.size) ?_;intro v6 w6 ho6 hg6;have F6:Frp (MtB B) w1 w6:=F5.trans (Frp.ofAppend ho5 hg6);have x1:w6.cell? ⟨S,1,none⟩=some (.slice ab t.name.length cb):=(l1.frp F6 (zaE _ _ _)).cell 1;have K6:=zfS K5 hg6 (zrp ho5 (by simp) K5))
         | (refine zci rfl (.tmp 70) (.tmp 72) rfl B _ (L++[60,47]) (by rfl) ho5 _ t.name (by rfl) (hb.keep (zaa HW _ F5)) (by simp;omega) (Nat.le_trans hBw1 F5.size) ?_;intro v6 w6 ho6 hg6;have F6:Frp (MtB B) w1 w6:=F5.trans (Frp.ofAppend ho5 hg6);have x1:w6.cell? ⟨S,1,none⟩=some (.slice ab t.name.length cb):=(l1.frp F6 (zaE _ _ _)).cell 1;have z1:(w6.alloc (.cells #[.int .u8 62] 5)).cell? ⟨S,1,none⟩=some (.slice ab t.name.length cb):=((l1.frp F6 (zaE _ _ _)).alloc _).cell 1)
         | (refine zci rfl (.tmp 70) (.tmp 72) rfl B _ (L++[60,47]) (by rfl) (ho5.alloc _) _ t.name (by rfl) (hb.keep (zaa HW _ F5z)) (by simp;omega) (Nat.le_trans hBw1 F5z.size) ?_;intro v6 w6 ho6 hg6;have F6:Frp (MtB B) w1 w6:=F5z.trans (Frp.ofAppend (ho5.alloc _) hg6);have x1:w6.cell? ⟨S,1,none⟩=some (.slice ab t.name.length cb):=(l1.frp F6 (zaE _ _ _)).cell 1;have K6:=zfS (Loc.made w5 #[.int .u8 62] 5) hg6 (zmg ho5))
         | (refine zci rfl (.tmp 73) (.tmp 74) rfl B _ (L++[60,47]++t.name) (by rfl) ho6 _ [62] (by rfl) (zrY K6 (by omega) (by omega)) (by simp;omega) (Nat.le_trans hBw1 F6.size) ?_;intro v7 w7 ho7 hg7;have F7:Frp (MtB B) w1 w7:=F6.trans (Frp.ofAppend ho6 hg7);have x1:w7.cell? ⟨S,1,none⟩=some (.slice ab t.name.length cb):=(l1.frp F7 (zaE _ _ _)).cell 1)
         | (refine zci rfl (.tmp 73) (.tmp 74) rfl B _ (L++[60,47]++t.name) (by rfl) (ho6.alloc _) _ [62] (by rfl) (zcZ w6 62 (by omega) (by omega)) (by simp;omega) (by have:=Nat.le_trans hBw1 F6.size;simp;omega) ?_;intro v7 w7 ho7 hg7;have F7:Frp (MtB B) w1 w7:=(F6.trans (Frp.ofBelow (((Below.refl w6.heap.size w6).alloc (Nat.le_refl _) _)) _)).trans (Frp.ofAppend (ho6.alloc _) hg7);have x1:w7.cell? ⟨S,1,none⟩=some (.slice ab t.name.length cb):=(l1.frp F7 (zaE _ _ _)).cell 1))
       all_goals
        rw [<-zaa HE2]at ho7
        obtain⟨a7,c7,hv7,_,_⟩:=ho7.byt.shape
        subst hv7
        go_wp2_with fail
        go_ret
        exact⟨_,rfl,ho7,F1.trans F7⟩
theorem zpp:∀n,zlf n
 | 0=>fun w0 w B v l a b c d e t hrd=>absurd hrd (by unfold RdNode;exact id)
 | n+1=>zrm n (zpp n)
theorem zru:zaM (⟨#[60]⟩,[60]):=⟨rfl,zsS⟩
theorem zsp:zaM (⟨#[32]⟩,[32]):=⟨rfl,fun x hx=>by simp at hx;omega⟩
theorem zrH:zaM (⟨#[34]⟩,[34]):=⟨rfl,fun x hx=>by simp at hx;omega⟩
theorem zmn:zaM (⟨#[62]⟩,[62]):=⟨rfl,fun x hx=>by simp at hx;omega⟩
theorem zsj:zaM (⟨#[61,34]⟩,[61,34]):=⟨rfl,zoF⟩
theorem zqz:zaM (⟨#[60,47]⟩,[60,47]):=⟨rfl,zic⟩
theorem zsi (B g cap:Nat) (w:Xe) (L:Xa) (s1 s2:ByteArray) (m1 m2:Xa) (hw:Wr B w g L) (hB:B<=w.heap.size) (h1:zaM (s1,m1)) (h2:zaM (s2,m2)) (hlen:L.length+m1.length+m2.length<=100000000) :
  Calls Tryz.prog 99 #[.pointer (some ⟨g,0,none⟩),.slice (some ⟨w.heap.size,0,none⟩) 2 cap] (w.alloc (.cells #[.string s1,.string s2] 9)) fun e w'=>e=.returned (.tuple #[])∧Wr B w' g (L++m1++m2)∧Frp (MtW B g) w w':=by
 have hb:Below w.heap.size w (w.alloc (.cells #[.string s1,.string s2] 9)):=(Below.refl _ _).alloc (Nat.le_refl _) _
 have h:=zig B g w.heap.size cap _ L [(s1,m1),(s2,m2)] (hw.keep hb) (Nat.le_trans hB hb.size) (Loc.made w #[.string s1,.string s2] 9) (zsX h1 h2) (by simp) (by simp;omega)
 refine h.mono ?_
 rintro e w' ⟨rfl,h1,h2⟩
 exact⟨rfl,by simpa using h1,(Frp.ofBelow hb _).trans h2⟩
theorem ziM (B g cap:Nat) (w:Xe) (L:Xa) (s1 s2 s3:ByteArray) (m1 m2 m3:Xa) (hw:Wr B w g L) (hB:B<=w.heap.size) (h1:zaM (s1,m1)) (h2:zaM (s2,m2)) (h3:zaM (s3,m3)) (hlen:L.length+m1.length+m2.length+m3.length<=100000000) :
  Calls Tryz.prog 99 #[.pointer (some ⟨g,0,none⟩),.slice (some ⟨w.heap.size,0,none⟩) 3 cap] (w.alloc (.cells #[.string s1,.string s2,.string s3] 9)) fun e w'=>e=.returned (.tuple #[])∧Wr B w' g (L++m1++m2++m3)∧Frp (MtW B g) w w':=by
 have hb:Below w.heap.size w (w.alloc (.cells #[.string s1,.string s2,.string s3] 9)):=(Below.refl _ _).alloc (Nat.le_refl _) _
 have h:=zig B g w.heap.size cap _ L [(s1,m1),(s2,m2),(s3,m3)] (hw.keep hb) (Nat.le_trans hB hb.size) (Loc.made w #[.string s1,.string s2,.string s3] 9) (zsP h1 h2 h3) (by simp) (by simp;omega)
 refine h.mono ?_
 rintro e w' ⟨rfl,h1,h2⟩
 exact⟨rfl,by simpa using h1,(Frp.ofBelow hb _).trans h2⟩
theorem zcT (B g i:Nat) (cs:Array Xf):¬ MtW B g i (.cells cs 37 (0,0)):=zie (by decide) (by decide)
theorem zoo (B g i:Nat) (cs:Array Xf):¬ MtW B g i (.cells cs 144 (0,0)):=zie (by decide) (by decide)
set_option maxHeartbeats 6400000 in
theorem zrC (w0 w:Xe) (B g:Nat) (L:Xa) (kd:Int) (b c d e:Xf) (name text:Xa) (attrs:List (Xa×Xa)) (a5:Xc) (n5 c5:Nat) (hw:Wr B w g L) (hB:B<=w.heap.size) (hb:Byt w0 b name) (hc:Byt w0 c text) (hd:RdAttrs w0 d attrs) (he:e=.slice a5 n5 c5)
  (hW:Below w0.heap.size w0 w) (h0:w0.heap.size<=B) (hg0:w0.heap.size<=g) (hlen:L.length+1+name.length+(zau attrs).length+1<=100000000) :
  Calls Tryz.prog 98 #[.pointer (some ⟨g,0,none⟩),.agg #[.int .i64 kd,b,c,d,e]] w fun e w'=>e=.returned (.tuple #[])∧Wr B w' g (L++[60]++name++zau attrs++[62])∧Frp (MtW B g) w w':=by
 subst he
 obtain⟨ab,cb,rfl,_,_⟩:=hb.shape
 obtain⟨ac,cc,rfl,_,_⟩:=hc.shape
 obtain⟨ad,cd,rfl,_,_⟩:=Elems.shape hd
 have hB1:Below w.heap.size w (w.alloc (.cells #[.int .i64 kd,.slice ab name.length cb,.slice ac text.length cc,.slice ad attrs.length cd,.slice a5 n5 c5] 37)):=(Below.refl _ _).alloc (Nat.le_refl _) _
 have l1:=Loc.made w #[.int .i64 kd,.slice ab name.length cb,.slice ac text.length cc,.slice ad attrs.length cd,.slice a5 n5 c5] 37
 have F1:Frp (MtW B g) w _:=Frp.ofBelow hB1 (MtW B g)
 have HW1:=hide (hw.keep hB1)
 have hW1:=hW.trans (hB1.mono hW.size)
 have hBw1:=Nat.le_trans hB hB1.size
 have v1:=zbf _ _ name (hb.keep hW1)
 obtain⟨x0,x1,x2,x3,x4⟩:=l1.five
 have hmA:(attrs.length:Int)<=9223372036854775807:=by have:=hd.1;unfold maxLen at this;omega
 have hp:=zsi B g 2 _ L ⟨#[60]⟩ (str name) [60] name (zaa HW1) hBw1 zru (zho hb.1) (by simp;omega)
 simp only [World.size_alloc]at hp
 have HP:=hide hp
 clear hp
 clear hw HW1
 generalize str name=sn at *
 go_enter Tryz.func98,Tryz.ntmps98
 go_wp2_with fail
 refine (zaa HP).mono ?_
 clear HP
 rintro e w2 ⟨rfl,hw2,F2⟩
 have F2':=F1.trans F2
 have l2:=l1.frp F2 (zcT _ _ _ _)
 clear x0 x1 x2 x3 x4 v1
 have c3:w2.cell? ⟨w.heap.size,3,none⟩=some (.slice ad attrs.length cd):=l2.cell 3
 have hB2:B<=w2.heap.size:=Nat.le_trans hB F2'.size
 obtain⟨A0,hA0⟩:∃A0,A0=L++[60]++name:=⟨_,rfl⟩
 rw [<-hA0]at hw2
 have HA0:=hide hA0
 have hlA:A0.length+(zau attrs).length+1<=100000000:=by
  rw [hA0];simp only [List.length_append,List.length_cons,List.length_nil];omega
 have HW:=hide (fun (W:Xe) (F:Frp (MtW B g) w W)=>hW.trans (FrpW.toBelow F hW.size h0 hg0))
 clear hA0 l1 l2 F1 F2
 go_wp2_with fail
 go_loopw [15] (fun i wr=>∃j:Nat,j<=attrs.length∧i=.int .i64 j∧Wr B wr g (A0++zau (attrs.take j))∧Frp (MtW B g) w wr) (fun i _=>attrs.length-(intOf i).toNat)
 case atStart=>exact⟨0,Nat.zero_le _,rfl,by simpa [zau]using hw2,F2'⟩
 case round=>
  obtain⟨j,hj,rfl,hr,hf⟩:=hrel
  have hBr:B<=wr.heap.size:=Nat.le_trans hB hf.size
  by_cases hjl:j<attrs.length
  ·have hst:zau (attrs.take (j+1))=zau (attrs.take j)++zcG attrs[j]:=zdO zcG attrs j hjl
   have hle:(zau (attrs.take (j+1))).length<=(zau attrs).length:=zeV zcG attrs (j+1)
   obtain⟨pb,poff,rfl,hpl,hun,_,C,hC,hcell,hra⟩:=hd.at hjl
   clear hun
   obtain⟨x,hx⟩:∃x,x=attrs[j]:=⟨_,rfl⟩
   rw [<-hx]at hra hst
   obtain⟨y0,y1,rfl,hy0,hy1⟩:=hra
   have q0:=hcell 0 (by omega)
   have q1:=hcell 1 (by omega)
   simp only [List.getElem?_cons_zero,List.getElem?_cons_succ,Nat.add_zero]at q0 q1
   obtain⟨s0,g0,rfl,_,_⟩:=hy0.shape
   obtain⟨s1,g1,rfl,_,_⟩:=hy1.shape
   obtain⟨M,hM⟩:∃M,M=A0++zau (attrs.take j):=⟨_,rfl⟩
   have HL:=hide (show A0++zau (attrs.take (j+1))=M++[32]++x.1++[61,34]++say true x.2++[34] by rw [hst,hM];simp [zcG])
   have hll:M.length+4+x.1.length+(say true x.2).length<=100000000:=by
    rw [hst]at hle
    rw [hM]
    simp only [List.length_append,zcG,List.length_cons,List.length_nil]at hle ⊢
    omega
   rw [<-hM]at hr
   have hjl':(j:Int)<(attrs.length:Int):=by omega
   have hBx:=zaa HW wr hf
   have u0:wr.cell? ⟨pb,poff+j*2,none⟩=some (.slice s0 x.1.length g0):=(hBx.cell (p:=⟨pb,poff+j*2,none⟩) hpl).trans q0
   have u1:wr.cell? ⟨pb,poff+j*2+1,none⟩=some (.slice s1 x.2.length g1):=(hBx.cell (p:=⟨pb,poff+j*2+1,none⟩) hpl).trans q1
   have hBa:Below wr.heap.size wr (wr.alloc (.cells #[.slice s0 x.1.length g0,.slice s1 x.2.length g1] 144)):=(Below.refl _ _).alloc (Nat.le_refl _) _
   have a1:=Loc.made wr #[.slice s0 x.1.length g0,.slice s1 x.2.length g1] 144
   have Fa:=hf.trans (Frp.ofBelow hBa (MtW B g))
   have vx:=zbf _ _ x.1 (hy0.keep (zaa HW _ Fa))
   have b0:(wr.alloc (.cells #[.slice s0 x.1.length g0,.slice s1 x.2.length g1] 144)).cell? ⟨wr.heap.size,0,none⟩=some (.slice s0 x.1.length g0):=a1.cell 0
   have hp:=ziM B g 3 _ M ⟨#[32]⟩ (str x.1) ⟨#[61,34]⟩ [32] x.1 [61,34] (hr.keep hBa) (Nat.le_trans hBr hBa.size) zsp (zho hy0.1) zsj (by simp;omega)
   simp only [World.size_alloc]at hp
   have HP:=hide hp
   clear hp
   generalize str x.1=sx at *
   clear hr hst hle hx hM hcell hw2 hd hBa q0 q1 c3
   go_wp2_with fail
   refine (zaa HP).mono ?_
   clear HP
   rintro e w3 ⟨rfl,hw3,F3⟩
   have F3':=Fa.trans F3
   have a3:=a1.frp F3 (zoo _ _ _ _)
   have b1:w3.cell? ⟨wr.heap.size,1,none⟩=some (.slice s1 x.2.length g1):=a3.cell 1
   obtain⟨M3,hM3⟩:∃M3,M3=M++[32]++x.1++[61,34]:=⟨_,rfl⟩
   have hl3:M3.length+(say true x.2).length+1<=100000000:=by rw [hM3];simp only [List.length_append,List.length_cons,List.length_nil];omega
   rw [<-hM3]at hw3 HL
   clear b0 vx hM3 hll u0 u1
   go_wp2_with fail
   refine (zla w0 w3 B g _ M3 x.2 true hw3 (Nat.le_trans hB F3'.size) hy1 (zaa HW _ F3') h0 hg0 (by omega)).mono ?_
   rintro e w4 ⟨rfl,hw4,F4⟩
   have F4':=F3'.trans F4
   obtain⟨M4,hM4⟩:∃M4,M4=M3++say true x.2:=⟨_,rfl⟩
   have hl4:M4.length+1<=100000000:=by rw [hM4,List.length_append];omega
   rw [<-hM4]at hw4 HL
   have HP4:=hide (zeR B g 1 w4 M4 ⟨#[34]⟩ [34] hw4 (Nat.le_trans hB F4'.size) zrH (by simpa using hl4))
   clear hw3 hw4 b1 hM4
   go_wp2_with fail
   refine (zaa HP4).mono ?_
   clear HP4
   rintro e w5 ⟨rfl,hw5,F5⟩
   rw [<-zaa HL]at hw5
   have HW5:=hide hw5
   clear hw5
   go_wp2_with fail
   go_roundw
   case rel=>exact⟨j+1,by omega,by go_num,zaa HW5,F4'.trans F5⟩
   case measure=>simp [intOf];omega
  ·have hje:j=attrs.length:=by omega
   subst hje
   rw [List.take_length]at hr
   obtain⟨A1,hA1⟩:∃A1,A1=A0++zau attrs:=⟨_,rfl⟩
   have hl1:A1.length+1<=100000000:=by rw [hA1,List.length_append];omega
   rw [<-hA1]at hr
   have HA1:=hide hA1
   have HP:=hide (zeR B g 1 wr A1 ⟨#[62]⟩ [62] hr hBr zmn (by simpa using hl1))
   clear hr hd hA1 hw2 c3
   go_wp2_with fail
   refine (zaa HP).mono ?_
   clear HP
   rintro e w5 ⟨rfl,hw5,F5⟩
   go_wp2_with fail
   go_end0
   exact⟨rfl,by rw [<-zaa HA0,<-zaa HA1];exact hw5,hf.trans F5⟩
open Classical in
theorem zrS (B g:Nat) (w:Xe) (v:Xf) (l L:Xa) (h:Wr B w g L) (hB:B<=w.heap.size) (hv:∀w',Frm w w' [g]->Byt w' v l) :
  Calls Tryz.prog 85 #[.pointer (some ⟨g,1,none⟩),v] w fun e w'=>e=.returned (.bool (zaj l))∧Wr B w' g L∧Frp (MtW B g) w w':=by
 obtain⟨o,ho,hs⟩:=h
 obtain⟨cs,hl,_,_,_⟩:=hs.loc
 refine (zqT B o g w v l hs hB hv).mono ?_
 rintro e w' ⟨rfl,hm,hf⟩
 have hd:decide (Void l)=zaj l:=by
  rw [Bool.eq_iff_iff,zaS]
  simp
 refine⟨by rw [<-hd],⟨o,ho.frm hf (fun i hi hi'=> ?_),.inr hm⟩,FrpW.ofFrm hl hf⟩
 have e1:i=g:=by simpa using hi'
 have e2:o.ownBlock=some i:=by simpa [FB]using hi
 exact zeZ (B:=B) ho hl (by rw [e2,e1])
def zkQ (n:Nat):Prop:=∀(w0 w:Xe) (B g:Nat) (L:Xa) (a b c d e:Xf) (t:Tr n),RdNode n w0 [a,b,c,d,e] t->Below w0.heap.size w0 w->w0.heap.size<=B->w0.heap.size<=g->B<=w.heap.size->Wr B w g L->L.length+(mkup n t).length<=100000000->
  Calls Tryz.prog 63 #[.pointer (some ⟨g,0,none⟩),.agg #[a,b,c,d,e]] w fun e w'=>e=.returned (.tuple #[])∧Wr B w' g (L++mkup n t)∧Frp (MtW B g) w w'
theorem zlX {n:Nat} {w:Xe} {a b c d e:Xf} {t:Tr n} (h:RdNode n w [a,b,c,d,e] t):∃z ab nb cb ac nc cc ad nd cd ae ne ce,a=.int .i64 z∧b=.slice ab nb cb∧c=.slice ac nc cc∧d=.slice ad nd cd∧e=.slice ae ne ce:=by
 cases n with
 | zero=>exact absurd h (by unfold RdNode;exact id)
 | succ n=>
  obtain⟨_,_,_,_,e0,k1,k2,hb,hc,hd,he⟩:=h
  simp only [List.cons.injEq,and_true]at e0
  obtain⟨rfl,rfl,rfl,rfl,rfl⟩:=e0
  obtain⟨ab,cb,rfl,_,_⟩:=hb.shape
  obtain⟨ac,cc,rfl,_,_⟩:=hc.shape
  obtain⟨ad,cd,rfl,_,_⟩:=Elems.shape hd
  obtain⟨ae,ce,rfl,_,_⟩:=Elems.shape he
  exact⟨_,_,_,_,_,_,_,_,_,_,_,_,_,rfl,rfl,rfl,rfl,rfl⟩
set_option maxHeartbeats 6400000 in
theorem zoM (n:Nat) (H:zkQ n):zkQ (n+1):=by
 intro w0 w B g L a b c d e t hrd hW h0 hg0 hB hw hlen
 obtain⟨_,_,_,_,e0,k1,k2,hb,hc,hd,he⟩:=hrd
 simp only [List.cons.injEq,and_true]at e0
 obtain⟨rfl,rfl,rfl,rfl,rfl⟩:=e0
 obtain⟨ab,cb,rfl,_,_⟩:=hb.shape
 obtain⟨ac,cc,rfl,_,_⟩:=hc.shape
 obtain⟨ad,cd,rfl,_,_⟩:=Elems.shape hd
 obtain⟨ae,ce,rfl,_,_⟩:=Elems.shape he
 have hB1:Below w.heap.size w (w.alloc (.cells #[.int .i64 t.kind,.slice ab t.name.length cb,.slice ac t.text.length cc,.slice ad t.attrs.length cd,.slice ae t.kids.length ce] 37)):=(Below.refl _ _).alloc (Nat.le_refl _) _
 have l1:=Loc.made w #[.int .i64 t.kind,.slice ab t.name.length cb,.slice ac t.text.length cc,.slice ad t.attrs.length cd,.slice ae t.kids.length ce] 37
 have F1:Frp (MtW B g) w _:=Frp.ofBelow hB1 (MtW B g)
 have HW1:=hide (hw.keep hB1)
 have hW1:=hW.trans (hB1.mono hW.size)
 have hBw1:=Nat.le_trans hB hB1.size
 have hmk:=zgg n t
 obtain⟨x0,x1,x2,x3,x4⟩:=l1.five
 by_cases hz:t.kind=1
 ·have dz:(t.kind == 1)=true:=by simpa using hz
  rw [if_pos hz]at hmk
  rw [hmk]at hlen ⊢
  have HP:=hide (zla w0 _ B g _ L t.text false (zaa HW1) hBw1 hc hW1 h0 hg0 hlen)
  clear hz hmk hw HW1
  go_enter Tryz.func63,Tryz.ntmps63
  go_wp2_with fail
  refine (zaa HP).mono ?_
  rintro e w2 ⟨rfl,hw2,F2⟩
  go_wp2_with fail
  (first | go_end0 | (simp only [Exit.inBlock,Exit.then];refine bodyPost_ret (results_none rfl _ _ _) rfl ?_) | refine bodyPost_ret (results_none rfl _ _ _) rfl ?_)
  exact⟨rfl,hw2,F1.trans F2⟩
 ·have dz:(t.kind == 1)=false:=by simpa using hz
  rw [if_neg hz]at hmk
  rw [hmk]at hlen ⊢
  obtain⟨G,hG⟩:∃G,G=L++([60]++t.name++zau t.attrs++[62]++(if zaj t.name=true then [] else (t.kids.map (mkup n)).flatten++[60,47]++t.name++[62])):=⟨_,rfl⟩
  rw [<-hG]
  have hlt:L.length+1+t.name.length+(zau t.attrs).length+1<=100000000:=by
   simp only [List.length_append,List.length_cons,List.length_nil]at hlen
   omega
  have HP:=hide (zrC w0 _ B g L t.kind _ _ _ _ t.name t.text t.attrs ae t.kids.length ce (zaa HW1) hBw1 hb hc hd rfl hW1 h0 hg0 hlt)
  have HG:=hide hG
  have hmK:(t.kids.length:Int)<=9223372036854775807:=by have:=he.1;unfold maxLen at this;omega
  clear hz hmk hG hw HW1
  go_enter Tryz.func63,Tryz.ntmps63
  go_wp2_with fail
  refine (zaa HP).mono ?_
  clear HP
  rintro e w2 ⟨rfl,hw2,F2⟩
  have F2':=F1.trans F2
  have l2:=l1.frp F2 (zcT _ _ _ _)
  have HW:=hide (fun (W:Xe) (F:Frp (MtW B g) w W)=>hW.trans (FrpW.toBelow F hW.size h0 hg0))
  clear x0 x1 x2 x3 x4
  obtain⟨x0,x1,x2,x3,x4⟩:=l2.five
  obtain⟨A2,hA2⟩:∃A2,A2=L++[60]++t.name++zau t.attrs++[62]:=⟨_,rfl⟩
  rw [<-hA2]at hw2
  have hbd:Below w2.heap.size w2 w2.drew:=(Below.refl _ _).drew
  have Fd:Frp (MtW B g) w2 w2.drew:=Frp.ofBelow hbd _
  have hwd:=zaa HW _ (F2'.trans Fd)
  have hvn:∀w',Frm w2.drew w' [g]->Byt w' (.slice ab t.name.length cb) t.name:=fun w' hf=>hb.keep (hwd.trans (hf.below hwd.size (fun q hq=>by
   have e:q=g:=by simpa using hq
   rw [e];exact hg0)))
  have HH:=hide (zrS B g w2.drew _ t.name A2 (hw2.keep hbd) (Nat.le_trans hB F2'.size) hvn)
  clear hvn hwd
  go_wp2_with fail
  by_cases hv:zaj t.name=true
  ·have HE:=hide (show L++([60]++t.name++zau t.attrs++[62]++(if zaj t.name=true then [] else (t.kids.map (mkup n)).flatten++[60,47]++t.name++[62]))=A2 by rw [if_pos hv,hA2];simp)
   have HE2:=hide ((zaa HG).trans (zaa HE))
   rw [hv]at HH
   clear hv hA2 HE HG hlen hlt hw2 l1 F2
   go_region_held3 (fun w'=>w'.cell? ⟨w.heap.size,1,none⟩=some (.slice ab t.name.length cb))
    (first | assumption | simp [*])
    ((go_at_call 85;refine (zaa HH).mono ?_;rintro e w3 ⟨rfl,hw3,F3⟩;have x1:w3.cell? ⟨w.heap.size,1,none⟩=some (.slice ab t.name.length cb):=(l2.frp (Fd.trans F3) (zcT _ _ _ _)).cell 1))
   all_goals
    go_wp2_with fail
    (first | go_end0 | (simp only [Exit.inBlock,Exit.then];refine bodyPost_ret (results_none rfl _ _ _) rfl ?_) | refine bodyPost_ret (results_none rfl _ _ _) rfl ?_)
    exact⟨rfl,by rw [zaa HE2];exact hw3,F2'.trans (Fd.trans F3)⟩
  ·have hv':zaj t.name=false:=by simpa using hv
   have HE:=hide (show L++([60]++t.name++zau t.attrs++[62]++(if zaj t.name=true then [] else (t.kids.map (mkup n)).flatten++[60,47]++t.name++[62]))=A2++(t.kids.map (mkup n)).flatten++[60,47]++t.name++[62] by rw [if_neg hv,hA2];simp)
   have HE2:=hide ((zaa HG).trans (zaa HE))
   have hlK:A2.length+(t.kids.map (mkup n)).flatten.length+3+t.name.length<=100000000:=by
    rw [if_neg hv]at hlen
    rw [hA2]
    simp only [List.length_append,List.length_cons,List.length_nil]at hlen ⊢
    omega
   rw [hv']at HH
   clear hv hv' hA2 HE HG hlen hlt hw2 l1 F2
   go_region_held3 (fun w'=>w'.cell? ⟨w.heap.size,1,none⟩=some (.slice ab t.name.length cb))
    (first | assumption | simp [*])
    ((go_at_call 85;refine (zaa HH).mono ?_;rintro e w3 ⟨rfl,hw3,F3⟩;have x1:w3.cell? ⟨w.heap.size,1,none⟩=some (.slice ab t.name.length cb):=(l2.frp (Fd.trans F3) (zcT _ _ _ _)).cell 1))
   have l3:=l2.frp (Fd.trans F3) (zcT _ _ _ _)
   have F3':=F2'.trans (Fd.trans F3)
   have c4:w3.cell? ⟨w.heap.size,4,none⟩=some (.slice ae t.kids.length ce):=l3.cell 4
   clear x0 x2 x3 x4 x1 Fd F3 hbd HH
   go_wp2_with fail
   go_loopw [25] (fun i wr=>∃j:Nat,j<=t.kids.length∧i=.int .i64 j∧Wr B wr g (A2++((t.kids.take j).map (mkup n)).flatten)∧Frp (MtW B g) w3 wr) (fun i _=>t.kids.length-(intOf i).toNat)
   case atStart=>exact⟨0,Nat.zero_le _,rfl,by simpa using hw3,Frp.refl _ _⟩
   case round=>
    obtain⟨j,hj,rfl,hr,hf⟩:=hrel
    have hfw:=F3'.trans hf
    have hBr:B<=wr.heap.size:=Nat.le_trans hB hfw.size
    by_cases hjl:j<t.kids.length
    ·have hst:=zdO (mkup n) t.kids j hjl
     have hle:=zeV (mkup n) t.kids (j+1)
     obtain⟨pb,poff,rfl,hpl,hun,_,hC⟩:=he.at hjl
     clear hun
     obtain⟨c0,c1,c2,c3,c4',e0,e1,e2,e3,e4,hx⟩:=zej hC
     have hBx:=zaa HW wr hfw
     replace e0:=(hBx.cell (p:=⟨pb,poff+j*5,none⟩) hpl).trans e0
     replace e1:=(hBx.cell (p:=⟨pb,poff+j*5+1,none⟩) hpl).trans e1
     replace e2:=(hBx.cell (p:=⟨pb,poff+j*5+2,none⟩) hpl).trans e2
     replace e3:=(hBx.cell (p:=⟨pb,poff+j*5+3,none⟩) hpl).trans e3
     replace e4:=(hBx.cell (p:=⟨pb,poff+j*5+4,none⟩) hpl).trans e4
     obtain⟨z,ab',nb',cb',ac',nc',cc',ad',nd',cd',ae',ne',ce',rfl,rfl,rfl,rfl,rfl⟩:=zlX hx
     have hBa:Below wr.heap.size wr (wr.alloc (.cells #[.int .i64 z,.slice ab' nb' cb',.slice ac' nc' cc',.slice ad' nd' cd',.slice ae' ne' ce'] 37)):=(Below.refl _ _).alloc (Nat.le_refl _) _
     have Fa:Frp (MtW B g) wr _:=Frp.ofBelow hBa (MtW B g)
     have hjl':(j:Int)<(t.kids.length:Int):=by omega
     have hl2:(A2++((t.kids.take j).map (mkup n)).flatten).length+(mkup n t.kids[j]).length<=100000000:=by
      rw [hst]at hle
      simp only [List.length_append]at hle ⊢
      omega
     have HST:=hide (show A2++((t.kids.take (j+1)).map (mkup n)).flatten=A2++((t.kids.take j).map (mkup n)).flatten++mkup n t.kids[j] by rw [hst,List.append_assoc])
     have HC:=hide (H w0 _ B g _ _ _ _ _ _ t.kids[j] hx (zaa HW _ (hfw.trans Fa)) h0 hg0 (Nat.le_trans hBr hBa.size) (hr.keep hBa) hl2)
     clear hr hst hle hC hl2 hx hBa c4 hw3 he
     go_wp2_with fail
     refine (zaa HC).mono ?_
     clear HC
     rintro e w9 ⟨rfl,hw9,F9⟩
     have HO:=hide (show Wr B w9 g (A2++((t.kids.take (j+1)).map (mkup n)).flatten) by rw [zaa HST];exact hw9)
     clear hw9 e0 e1 e2 e3 e4
     go_wp2_with fail
     go_roundw
     case rel=>exact⟨j+1,by omega,by go_num,zaa HO,hf.trans (Fa.trans F9)⟩
     case measure=>simp [intOf];omega
    ·have hje:j=t.kids.length:=by omega
     subst hje
     rw [List.take_length]at hr
     have x1:wr.cell? ⟨w.heap.size,1,none⟩=some (.slice ab t.name.length cb):=(l3.frp hf (zcT _ _ _ _)).cell 1
     have vx:=zbf wr _ t.name (hb.keep (zaa HW _ hfw))
     have HP:=hide (ziM B g 3 wr _ ⟨#[60,47]⟩ (str t.name) ⟨#[62]⟩ [60,47] t.name [62] hr hBr zqz (zho hb.1) zmn (by simp only [List.length_append,List.length_cons,List.length_nil];omega))
     generalize str t.name=sn at *
     clear hr he hw3 c4 l3
     go_wp2_with fail
     refine (zaa HP).mono ?_
     clear HP
     rintro e w5 ⟨rfl,hw5,F5⟩
     go_wp2_with fail
     go_end0
     exact⟨rfl,by rw [zaa HE2];exact hw5,hfw.trans F5⟩
theorem zjO:∀n,zkQ n
 | 0=>fun w0 w B g L a b c d e t hrd=>absurd hrd (by unfold RdNode;exact id)
 | n+1=>zoM n (zjO n)
end Go.Proofs.YtlpnibbdmkeklaaGreatDoor
namespace Go.Proofs.YtlpnibbdmkeklaaGreatDoor
structure PlV where
 idN:Int
 idR:Int
 parN:Int
 parR:Int
 key:Xa
 kind:Int
 name:Xa
 text:Xa
 attrs:List (Xa×Xa)
end Go.Proofs.YtlpnibbdmkeklaaGreatDoor
namespace Go.Proofs.YtlpnibbdmkeklaaGreatDoor
open Go.RowKit
set_option linter.unusedVariables false
def okZ (l:Xa):Prop:=∀x∈l,-9223372036854775808<=x∧x<=9223372036854775807
def valz (l:Xa):Xd:=l.map (Value.int .i64)
def Ints (w:Xe) (v:Xf) (l:Xa):Prop:=
 okZ l∧l.length<=maxLen∧
 ((v=.slice none 0 0∧l=[])∨
  (∃x cap,v=.slice (some x) 0 cap∧cap<=maxLen∧l=[])∨
  (∃b off cap,v=.slice (some ⟨b,off,none⟩) l.length cap∧l.length<=cap∧cap<=maxLen∧l≠[]∧b<w.heap.size∧
   ∀i,i<l.length->w.cell? ⟨b,off+i,none⟩=some (.int .i64 (l.getD i 0))))
def OwnZ (w:Xe) (base:Nat) (v:Xf) (l:Xa):Prop:=okZ l∧w.ownsRow base 3 1 v l.length (valz l)
theorem zef:okZ []:=fun _ h=>by cases h
theorem okZ.app {a b:Xa} (h:okZ a) (k:okZ b):okZ (a++b):=fun x hx=>by
 rcases List.mem_append.1 hx with h' | h'
 ·exact h x h'
 ·exact k x h'
theorem okZ.one {x:Int} (h0 : -9223372036854775808<=x) (h1:x<=9223372036854775807):okZ [x]:=fun y hy=>by simp at hy;subst hy;exact⟨h0,h1⟩
theorem zkN (l:Xa):(valz l).length=l.length:=by simp [valz]
theorem zfl (a b:Xa):valz (a++b)=valz a++valz b:=by simp [valz]
theorem zqJ (l:Xa):∀u∈valz l,u.oneCell'=true:=ints_oneCell _ _
theorem zeO {l:Xa} {i:Nat} (h:i<l.length):(valz l)[i]? = some (.int .i64 (l.getD i 0)):=by simp [valz,h]
theorem OwnZ.lt {w:Xe} {base:Nat} {v:Xf} {l:Xa} (h:OwnZ w base v l):∀k,v.ownBlock=some k->base<=k∧k<w.heap.size:=h.2.lt
theorem OwnZ.mono {w:Xe} {base base':Nat} {v:Xf} {l:Xa} (h:OwnZ w base v l) (hb:base'<=base):OwnZ w base' v l:=by
 refine⟨h.1,h.2.1,?_⟩
 rcases h.2.2 with h' | ⟨g,cap,cur,h1,h2,h3⟩
 ·exact .inl h'
 ·exact .inr ⟨g,cap,cur,h1,by omega,h3⟩
theorem OwnZ.ints {w:Xe} {base:Nat} {v:Xf} {l:Xa} (h:OwnZ w base v l):Ints w v l:=by
 obtain⟨hok,hlen,hrow⟩:=h
 have hl:=hlen
 rcases hrow with ⟨rfl,h0⟩ | ⟨g,cap,cur,rfl,hb,hg,hnc,hcm,hcs,htake⟩
 ·exact⟨hok,by omega,.inl ⟨rfl,List.eq_nil_of_length_eq_zero h0⟩⟩
 ·refine⟨hok,by omega,.inr ?_⟩
  by_cases h0:l=[]
  ·subst h0;exact .inl ⟨_,cap,rfl,hcm,rfl⟩
  ·refine .inr ⟨g,0,cap,rfl,hnc,hcm,h0,?_,fun i hi=> ?_⟩
   ·by_cases hlt:g<w.heap.size
    ·exact hlt
    ·rw [Array.getElem?_eq_none (by omega)]at hg;cases hg
   ·have:=World.ownsRow.cellAt (w:=w) (base:=base) (e:=3) (size:=1) (g:=g) (n:=l.length) (cap:=cap) (xs:=valz l) ⟨hlen,.inr ⟨g,cap,cur,rfl,hb,hg,hnc,hcm,hcs,htake⟩⟩ i (by omega)
    rw [zeO hi]at this
    simpa using this
theorem Ints.shape {w:Xe} {v:Xf} {l:Xa} (h:Ints w v l):∃a cap,v=.slice a l.length cap∧l.length<=cap∧cap<=maxLen:=by
 obtain⟨_,hm,⟨rfl,rfl⟩ | ⟨x,cap,rfl,hc,rfl⟩ | ⟨b,off,cap,rfl,h1,h2,_⟩⟩:=h
 ·exact⟨none,0,rfl,Nat.le_refl _,hm⟩
 ·exact⟨some x,cap,rfl,Nat.zero_le _,hc⟩
 ·exact⟨_,cap,rfl,h1,h2⟩
theorem Ints.keep {w w':Xe} {v:Xf} {l:Xa} (h:Ints w v l) (hb:Below w.heap.size w w'):Ints w' v l:=by
 obtain⟨hok,hm,h1 | h2 | ⟨b,off,cap,rfl,h1,h2,h3,h4,h5⟩⟩:=h
 ·exact⟨hok,hm,.inl h1⟩
 ·exact⟨hok,hm,.inr (.inl h2)⟩
 ·exact⟨hok,hm,.inr (.inr ⟨b,off,cap,rfl,h1,h2,h3,Nat.lt_of_lt_of_le h4 hb.size,fun i hi=>by rw [hb.cell (p:=⟨b,off+i,none⟩) h4];exact h5 i hi⟩)⟩
theorem OwnZ.keep {w w':Xe} {base:Nat} {v:Xf} {l:Xa} (h:OwnZ w base v l) (hb:Below w.heap.size w w'):OwnZ w' base v l:=
 ⟨h.1,h.2.kept (row:=none) ⟨hb.os,hb.tape,hb.output,hb.size,fun k hk _=>hb.block k hk⟩ (by cases hv:v.ownBlock<;>simp)⟩
theorem zhd {w:Xe} {a:Xc} {len cap:Nat} {zs:Xa}
  (h:(a=none∧len=0∧cap=0∧zs=[])∨∃x,a=some x∧len<=cap∧cap<=maxLen∧zs.length=cap∧(∀i,i<zs.length->w.cell? (x.add i)=some (.int .i64 (zs.getD i 0)))∧∀n∈zs,(Lit.int .i64 n).wf=true) :
  Ints w (.slice a len cap) (zs.take len):=by
 rcases h with ⟨rfl,rfl,rfl,rfl⟩ | ⟨x,rfl,hl,hm,hz,hcell,hwz⟩
 ·exact⟨zef,by simp [maxLen],.inl ⟨rfl,rfl⟩⟩
 ·have hok:okZ (zs.take len):=fun n hn=>bounds_i64 (hwz n (List.mem_of_mem_take hn))
  have hlen:(zs.take len).length=len:=by simp;omega
  by_cases h0:len=0
  ·subst h0
   exact⟨hok,by simp [maxLen],.inr (.inl ⟨x,cap,rfl,hm,by simp⟩)⟩
  ·obtain⟨b,off,spot⟩:=x
   have hc:=hcell 0 (by omega)
   have hspot:spot=none:=by simpa [Addr.add]using World.cell?_spot hc
   subst hspot
   refine⟨hok,by omega,.inr (.inr ⟨b,off,cap,by rw [hlen],by omega,hm,?_,?_,fun i hi=> ?_⟩)⟩
   ·intro e;rw [e]at hlen;simp at hlen;omega
   ·have:=zaJ hc;simpa [Addr.add]using this
   ·have hi':=hcell i (by omega)
    rw [List.getD_eq_getElem?_getD,List.getElem?_take,if_pos (by omega),<-List.getD_eq_getElem?_getD]
    rw [zbc]at hi'
    exact hi'
theorem zmk (w:Xe) (v:Xf) (l:Xa) (h:Byt w v l):Calls Tryz.prog 103 #[v] w fun e w'=>e=.returned (.bool (zbD l))∧w'=w:=by
 by_cases hn:zah l
 ·rw [(zby l).2 hn];exact zbI w v l h hn
 ·rw [Bool.eq_false_iff.2 (fun k=>hn ((zby l).1 k))];exact zhi w v l h hn
theorem zsd (w:Xe) (v:Xf) (l:Xa) (h:Byt w v l):Calls Tryz.prog 102 #[v] w fun e w'=>e=.returned (.bool (zbt l))∧w'=w:=by
 by_cases hn:zat l
 ·rw [(zbE l).2 hn];exact zdF w v l h hn
 ·rw [Bool.eq_false_iff.2 (fun k=>hn ((zbE l).1 k))];exact zht w v l h hn
def zcC (_:Nat) (x:Int):Prop:=0<=x∧x<=999
def zbJ (l:Xa):Prop:=1<=l.length∧l.length<=12∧l.getD (l.length-1) 0≠0∧zcD zcC l l.length
theorem zne (w:Xe) (a:Xc) (n cap:Nat) (h:n<1∨12<n) :
  Calls Tryz.prog 107 #[.slice a n cap] w fun e w'=>e=.returned (.bool false)∧w'=w:=by
 by_cases h1:n<1
 ·have h1':(n:Int)<1:=by omega
  go_enter Tryz.func107,Tryz.ntmps107
  go_wp2
  go_ret
  exact⟨rfl,rfl⟩
 ·have h1':decide ((n:Int)<1)=false:=by simp;omega
  have h2:(12:Int)<(n:Int):=by omega
  go_enter Tryz.func107,Tryz.ntmps107
  go_wp2
  go_ret
  exact⟨rfl,rfl⟩
open Classical in
set_option maxHeartbeats 1600000 in
theorem zqu (w:Xe) (b off cap:Nat) (l:Xa) (hok:okZ l) (h1:1<=l.length) (h8:l.length<=12)
  (hc:∀i,i<l.length->w.cell? ⟨b,off+i,none⟩=some (.int .i64 (l.getD i 0))) :
  Calls Tryz.prog 107 #[.slice (some ⟨b,off,none⟩) l.length cap] w fun e w'=>e=.returned (.bool (decide (zbJ l)))∧w'=w:=by
 have d1:decide ((l.length:Int)<1)=false:=by simp;omega
 have d2:decide ((12:Int)<(l.length:Int))=false:=by simp;omega
 obtain⟨n,hn⟩:∃n,l.length=n+1:=⟨l.length-1,by omega⟩
 obtain⟨z,hz⟩:∃z,z=l.getD n 0:=⟨_,rfl⟩
 have hcz:w.cell? ⟨b,off+n,none⟩=some (.int .i64 z):=by rw [hz];exact hc _ (by omega)
 have HZ:=hide hz
 have HC:=hide hc
 have HN:=hide hn
 have e1:(l.length:Int)-1=(n:Int):=by omega
 have hlt0:n<l.length:=by omega
 clear hc hz
 by_cases hz0:z=0
 ·have HF:=hide (show decide (zbJ l)=false by
   simp only [decide_eq_false_iff_not]
   rintro⟨_,_,h,_⟩
   rw [zaa HN,Nat.add_sub_cancel,<-zaa HZ]at h
   exact h hz0)
  subst hz0
  clear hn
  go_enter Tryz.func107,Tryz.ntmps107
  go_wp2
  go_ret
  exact⟨by rw [zaa HF];rfl,rfl⟩
 have HZ0:=hide hz0
 have dz:(z == 0)=false:=by simpa using hz0
 clear hn
 go_enter Tryz.func107,Tryz.ntmps107
 go_wp2
 go_loop [3] (fun i=>∃k:Nat,k<=l.length∧i=.int .i64 k∧zcD zcC l k) (fun i=>l.length-(intOf i).toNat)
 case atStart=>exact⟨0,Nat.zero_le _,rfl,fun i hi=>by omega⟩
 case round=>
  obtain⟨k,hk,rfl,ha⟩:=hrel
  have HA:=hide ha
  clear ha hcz
  by_cases hlt:k<l.length
  ·obtain⟨x,hx⟩:∃x,x=l.getD k 0:=⟨_,rfl⟩
   have hcx:w.cell? ⟨b,off+k,none⟩=some (.int .i64 x):=by rw [hx];exact zaa HC _ hlt
   have HX:=hide hx
   have hlt':(k:Int)<(l.length:Int):=by omega
   clear hx
   by_cases hn:zcC k x
   ·have HN:=hide hn
    have q1:decide (x<0)=false:=by unfold zcC at hn;simp;omega
    have q2:decide (999<x)=false:=by unfold zcC at hn;simp;omega
    clear hn
    go_wp2
    go_round
    case rel=>exact⟨k+1,by omega,by go_num,zcj (zaa HA) (by rw [<-zaa HX];exact zaa HN)⟩
    case measure=>simp [intOf];omega
   ·have HF:=hide (show decide (zbJ l)=false by
     simp only [decide_eq_false_iff_not]
     rintro⟨_,_,_,h⟩
     exact hn (by rw [zaa HX];exact h k hlt))
    have hcase:decide (x<0)=true∨(decide (x<0)=false∧decide (999<x)=true):=by
     unfold zcC at hn;simp;omega
    clear hn
    rcases hcase with q1 | ⟨q1,q2⟩
    all_goals
     go_wp2
     go_ret
     exact⟨by rw [zaa HF];rfl,rfl⟩
  ·have e:k=l.length:=by omega
   subst e
   have HF:=hide (show decide (zbJ l)=true by
    simp only [decide_eq_true_eq]
    exact⟨h1,h8,by rw [zaa HN,Nat.add_sub_cancel,<-zaa HZ];exact zaa HZ0,zaa HA⟩)
   go_wp2
   go_ret
   exact⟨by rw [zaa HF];rfl,rfl⟩
open Classical in
theorem zjR (w:Xe) (v:Xf) (l:Xa) (h:Ints w v l) :
  Calls Tryz.prog 107 #[v] w fun e w'=>e=.returned (.bool (decide (zbJ l)))∧w'=w:=by
 by_cases hl:l.length<1∨12<l.length
 ·obtain⟨a,cap,rfl,_⟩:=h.shape
  have hd:decide (zbJ l)=false:=by simp only [decide_eq_false_iff_not];rintro⟨_,_,_⟩;omega
  rw [hd]
  exact zne w a _ cap hl
 ·obtain⟨hok,hm,⟨rfl,rfl⟩ | ⟨x,cap,rfl,hc,rfl⟩ | ⟨b,off,cap,rfl,_,_,_,_,h5⟩⟩:=h
  ·simp at hl
  ·simp at hl
  ·exact zqu w b off cap l hok (by omega) (by omega) h5
theorem zqa (w:Xe) (v:Xf) (l:Xa) (h:Ints w v l) (hn:zbJ l):Calls Tryz.prog 107 #[v] w fun e w'=>e=.returned (.bool true)∧w'=w:=by
 refine (zjR w v l h).mono ?_
 rintro e w' ⟨rfl,h⟩
 exact⟨by simp [hn],h⟩
theorem zrG (w:Xe) (v:Xf) (l:Xa) (h:Ints w v l) (hn:¬ zbJ l):Calls Tryz.prog 107 #[v] w fun e w'=>e=.returned (.bool false)∧w'=w:=by
 refine (zjR w v l h).mono ?_
 rintro e w' ⟨rfl,h⟩
 exact⟨by simp [hn],h⟩
def keyB (l:Xa):Bool:=decide (1<=l.length) && (decide (l.length<=12) && (decide (l.getD (l.length-1) 0≠0) && allB (fun _ x=>decide (0<=x∧x<=999)) l))
theorem zeo (l:Xa):keyB l=true↔zbJ l:=by
 unfold keyB zbJ
 rw [Bool.and_eq_true,Bool.and_eq_true,Bool.and_eq_true,decide_eq_true_eq,decide_eq_true_eq,decide_eq_true_eq,zhp (p:=zcC) (fun i x=>by unfold zcC;rw [decide_eq_true_eq])]
theorem zpv (w:Xe) (v:Xf) (l:Xa) (h:Ints w v l):Calls Tryz.prog 107 #[v] w fun e w'=>e=.returned (.bool (keyB l))∧w'=w:=by
 by_cases hn:zbJ l
 ·rw [(zeo l).2 hn];exact zqa w v l h hn
 ·rw [Bool.eq_false_iff.2 (fun k=>hn ((zeo l).1 k))];exact zrG w v l h hn
def idB (n r:Int):Bool:=decide (0<=n) && (decide (n<=1000000) && (decide (0<=r) && (decide (r<8) || (decide (n=0) && decide (r<122)))))
def zbC (n r:Int):Bool:=decide (n=0) && decide (r=0)
theorem zpE (n r:Int) :
  (idB n r=false∧decide (0<=n)=false)∨
  (idB n r=false∧decide (0<=n)=true∧decide (n<=1000000)=false)∨
  (idB n r=false∧decide (0<=n)=true∧decide (n<=1000000)=true∧decide (0<=r)=false)∨
  (idB n r=true∧decide (0<=n)=true∧decide (n<=1000000)=true∧decide (0<=r)=true∧decide (r<8)=true)∨
  (idB n r=false∧decide (0<=n)=true∧decide (n<=1000000)=true∧decide (0<=r)=true∧decide (r<8)=false∧(n == 0)=false)∨
  (idB n r=true∧decide (0<=n)=true∧decide (n<=1000000)=true∧decide (0<=r)=true∧decide (r<8)=false∧(n == 0)=true∧decide (r<122)=true)∨
  (idB n r=false∧decide (0<=n)=true∧decide (n<=1000000)=true∧decide (0<=r)=true∧decide (r<8)=false∧(n == 0)=true∧decide (r<122)=false):=by
 unfold idB
 cases a:decide (0<=n)<;>cases b:decide (n<=1000000)<;>cases c:decide (0<=r)<;>cases d:decide (r<8)<;>by_cases e:n=0<;>cases f:decide (r<122)<;>simp [e]
set_option maxHeartbeats 1600000 in
theorem zgx (w:Xe) (n r:Int) :
  Calls Tryz.prog 106 #[.agg #[.int .i64 n,.int .i64 r]] w fun e w'=>e=.returned (.bool (idB n r))∧w'=w.alloc (.cells #[.int .i64 n,.int .i64 r] 81):=by
 rcases zpE n r with ⟨h,q1⟩ | ⟨h,q1,q2⟩ | ⟨h,q1,q2,q3⟩ | ⟨h,q1,q2,q3,q4⟩ | ⟨h,q1,q2,q3,q4,q5⟩ | ⟨h,q1,q2,q3,q4,q5,q6⟩ | ⟨h,q1,q2,q3,q4,q5,q6⟩
 all_goals
  have HE:=hide h
  clear h
  go_enter Tryz.func106,Tryz.ntmps106
  go_wp2
  go_ret
  exact⟨by rw [zaa HE];rfl,rfl⟩
set_option maxHeartbeats 1600000 in
theorem ziD (w:Xe) (n r:Int) :
  Calls Tryz.prog 105 #[.agg #[.int .i64 n,.int .i64 r]] w fun e w'=>e=.returned (.bool (zbC n r))∧w'=w.alloc (.cells #[.int .i64 n,.int .i64 r] 81):=by
 go_enter Tryz.func105,Tryz.ntmps105
 go_wp2
 ·have e0:n=0:=by assumption
  have e1:r=0:=by assumption
  go_ret
  exact⟨by unfold zbC;simp [e0,e1],by rw [e0,e1]⟩
 ·have e0:n=0:=by assumption
  have e1:¬ r=0:=by assumption
  go_ret
  exact⟨by unfold zbC;simp [e0,e1],by rw [e0]⟩
 ·have e0:¬ n=0:=by assumption
  go_ret
  exact⟨by unfold zbC;simp [e0],rfl⟩
structure OpV where
 kind:Int
 atN:Int
 atR:Int
 nodeN:Int
 nodeR:Int
 parN:Int
 parR:Int
 key:Xa
 elem:Int
 name:Xa
 text:Xa
 gone:Bool
def zaY (o:OpV) (k n t:Xf):Xf:=.agg #[.int .i64 o.kind,.int .i64 o.atN,.int .i64 o.atR,.int .i64 o.nodeN,.int .i64 o.nodeR,.int .i64 o.parN,.int .i64 o.parR,k,.int .i64 o.elem,n,t,.bool o.gone]
def RdOp (w:Xe) (v:Xf) (o:OpV):Prop:=∃k n t,v=zaY o k n t∧Ints w k o.key∧Byt w n o.name∧Byt w t o.text
def zfH (o:OpV):Bool:=if !zbC o.nodeN o.nodeR || (!idB o.parN o.parR || (!keyB o.key || o.gone)) then false else if o.elem == 1 then (o.name.length:Int) == 0 else o.elem == 0 && (zbD o.name && (o.text.length:Int) == 0)
def zel (o:OpV):Bool:=idB o.nodeN o.nodeR && (idB o.parN o.parR && (keyB o.key && (o.elem == 0 && ((o.name.length:Int) == 0 && ((o.text.length:Int) == 0 && !o.gone)))))
def zeh (o:OpV):Bool:=if !idB o.nodeN o.nodeR || (!zbC o.parN o.parR || (decide (0<(o.key.length:Int)) || !(o.elem == 0))) then false else if o.kind == 2 then (o.name.length:Int) == 0 && !o.gone else zbD o.name && (!o.gone || (o.text.length:Int) == 0)
def zbM (o:OpV):Bool:=decide (o.kind<0) || (decide (3<o.kind) || (decide (o.atN<1) || (decide (1000000<o.atN) || (decide (o.atR<0) || (decide (8<=o.atR) || !zbt o.text)))))
def opB (o:OpV):Bool:=if zbM o then false else if o.kind == 0 then zfH o else if o.kind == 1 then zel o else zeh o
set_option maxRecDepth 8000 in
set_option maxHeartbeats 3200000 in
theorem zrL (w:Xe) (v:Xf) (o:OpV) (h:RdOp w v o) :
  Calls Tryz.prog 74 #[v] w fun e w'=>e=.returned (.bool (opB o))∧Below w.heap.size w w':=by
 obtain⟨k,n,t,rfl,hk,hn,ht⟩:=h
 obtain⟨ak,ck,rfl,_,_⟩:=hk.shape
 obtain⟨an,cn,rfl,_,_⟩:=hn.shape
 obtain⟨at',ct,rfl,_,_⟩:=ht.shape
 generalize hnK:o.key.length=nK at *
 have hA:=(Below.refl w.heap.size w).alloc (Nat.le_refl _) (.cells #[.int .i64 o.kind,.int .i64 o.atN,.int .i64 o.atR,.int .i64 o.nodeN,.int .i64 o.nodeR,.int .i64 o.parN,.int .i64 o.parR,.slice ak nK ck,.int .i64 o.elem,.slice an o.name.length cn,.slice at' o.text.length ct,.bool o.gone] 83)
 have HA:=hide hA
 have HT:=hide (ht.keep hA)
 have HN:=hide (hn.keep hA)
 have HK:=hide (hk.keep hA)
 clear hA ht hn hk
 unfold zaY
 have hcase:(decide (o.kind<0)=true∧zbM o=true)∨(decide (o.kind<0)=false∧((decide (3<o.kind)=true∧zbM o=true)∨(decide (3<o.kind)=false∧((decide (o.atN<1)=true∧zbM o=true)∨(decide (o.atN<1)=false∧((decide (1000000<o.atN)=true∧zbM o=true)∨(decide (1000000<o.atN)=false∧((decide (o.atR<0)=true∧zbM o=true)∨(decide (o.atR<0)=false∧((decide (8<=o.atR)=true∧zbM o=true)∨(decide (8<=o.atR)=false∧zbM o = !zbt o.text))))))))))):=by
  unfold zbM
  cases decide (o.kind<0)<;>cases decide (3<o.kind)<;>cases decide (o.atN<1)<;>cases decide (1000000<o.atN)<;>cases decide (o.atR<0)<;>cases decide (8<=o.atR)<;>simp
 rcases hcase with ⟨q1,hd⟩ | ⟨q1,⟨q2,hd⟩ | ⟨q2,⟨q3,hd⟩ | ⟨q3,⟨q4,hd⟩ | ⟨q4,⟨q5,hd⟩ | ⟨q5,⟨q6,hd⟩ | ⟨q6,hd⟩⟩⟩⟩⟩⟩
 iterate 6
  ·have HE:=hide (show opB o=false by unfold opB;rw [if_pos hd])
   clear hd
   go_enter Tryz.func74,Tryz.ntmps74
   go_wp2_with fail
   go_ret
   exact⟨by rw [zaa HE];rfl,zaa HA⟩
 go_enter Tryz.func74,Tryz.ntmps74
 go_wp2_with fail
 refine (zsd _ _ o.text (zaa HT)).mono ?_
 rintro e w1 ⟨rfl,rfl⟩
 cases hx:zbt o.text
 ·have HE:=hide (show opB o=false by unfold opB;rw [if_pos (by rw [hd,hx];rfl)])
  clear hd hx
  go_wp2_with fail
  go_ret
  exact⟨by rw [zaa HE];rfl,zaa HA⟩
 have HD:=hide (show zbM o=false by rw [hd,hx];rfl)
 clear hd hx
 cases k0:(o.kind == 0)
 ·cases k1:(o.kind == 1)
  ·have hB:opB o=zeh o:=by unfold opB;rw [zaa HD,k0,k1];rfl
   go_wp2_with fail
   refine (zgx _ o.nodeN o.nodeR).mono ?_
   rintro e w1 ⟨rfl,rfl⟩
   have HA1:=hide ((zaa HA).alloc (zaa HA).size (.cells #[.int .i64 o.nodeN,.int .i64 o.nodeR] 81))
   replace hB:=hB.trans (show zeh o=_ by unfold zeh;rfl)
   cases x1:idB o.nodeN o.nodeR
   ·have HE:=hide (show opB o=false by rw [hB,x1];rfl)
    clear hB x1
    go_wp2_with fail
    go_ret
    exact⟨by rw [zaa HE];rfl,zaa HA1⟩
   rw [x1]at hB
   clear x1
   go_wp2_with fail
   refine (ziD _ o.parN o.parR).mono ?_
   rintro e w1 ⟨rfl,rfl⟩
   have HA2:=hide ((zaa HA1).alloc (zaa HA1).size (.cells #[.int .i64 o.parN,.int .i64 o.parR] 81))
   cases x1:zbC o.parN o.parR
   ·have HE:=hide (show opB o=false by rw [hB,x1];rfl)
    clear hB x1
    go_wp2_with fail
    go_ret
    exact⟨by rw [zaa HE];rfl,zaa HA2⟩
   rw [x1]at hB
   clear x1
   by_cases x1:0<nK
   ·have e1:decide (0<(o.key.length:Int))=true:=by rw [hnK];simp;omega
    have e2:decide (0<nK)=true:=by simp;omega
    have HE:=hide (show opB o=false by rw [hB,e1];rfl)
    clear hB e1
    go_wp2_with fail
    go_ret
    exact⟨by rw [zaa HE];rfl,zaa HA2⟩
   have e1:decide (0<(o.key.length:Int))=false:=by rw [hnK];simp;omega
   rw [e1]at hB
   have z1:nK=0:=by omega
   clear e1 x1
   subst z1
   clear hnK
   cases x2:(o.elem == 0)
   ·have HE:=hide (show opB o=false by rw [hB,x2];rfl)
    clear hB
    go_wp2_with fail
    go_ret
    exact⟨by rw [zaa HE];rfl,zaa HA2⟩
   rw [x2]at hB
   cases x3:(o.kind == 2)
   ·rw [x3]at hB
    replace hB:opB o=(zbD o.name && (!o.gone || (o.text.length:Int) == 0)):=hB
    go_wp2_with fail
    have HN2:=hide ((((zaa HN).keep ((Below.refl _ _).alloc (Nat.le_refl _) (.cells #[.int .i64 o.nodeN,.int .i64 o.nodeR] 81)))).keep ((Below.refl _ _).alloc (Nat.le_refl _) (.cells #[.int .i64 o.parN,.int .i64 o.parR] 81)))
    refine (zmk _ _ o.name (zaa HN2)).mono ?_
    rintro e w1 ⟨rfl,rfl⟩
    cases x4:zbD o.name
    ·have HE:=hide (show opB o=false by rw [hB,x4];rfl)
     clear hB x4
     go_wp2_with fail
     go_ret
     exact⟨by rw [zaa HE];rfl,zaa HA2⟩
    rw [x4,Bool.true_and]at hB
    clear x4
    rcases Bool.eq_false_or_eq_true o.gone with hg | hg
    ·rw [hg]at hB HA2
     replace hB:opB o=((o.text.length:Int) == 0):=hB
     have HE:=hide hB
     clear hB
     go_wp2_with fail
     go_ret
     exact⟨by rw [zaa HE];rfl,zaa HA2⟩
    ·rw [hg]at hB HA2
     replace hB:opB o=true:=hB
     have HE:=hide hB
     clear hB
     go_wp2_with fail
     go_ret
     exact⟨by rw [zaa HE];rfl,zaa HA2⟩
   ·rw [x3]at hB
    replace hB:opB o=((o.name.length:Int) == 0 && !o.gone):=hB
    cases x4:((o.name.length:Int) == 0)
    ·have HE:=hide (show opB o=false by rw [hB,x4];rfl)
     clear hB
     go_wp2_with fail
     go_ret
     exact⟨by rw [zaa HE];rfl,zaa HA2⟩
    rw [x4,Bool.true_and]at hB
    have HE:=hide hB
    clear hB
    go_wp2_with fail
    go_ret
    exact⟨by rw [zaa HE];rfl,zaa HA2⟩
  ·have hB:opB o=zel o:=by unfold opB;rw [zaa HD,k0,k1];rfl
   go_wp2_with fail
   refine (zgx _ o.nodeN o.nodeR).mono ?_
   rintro e w1 ⟨rfl,rfl⟩
   have HA1:=hide ((zaa HA).alloc (zaa HA).size (.cells #[.int .i64 o.nodeN,.int .i64 o.nodeR] 81))
   cases x1:idB o.nodeN o.nodeR
   ·have HE:=hide (show opB o=false by rw [hB];unfold zel;rw [x1];rfl)
    clear hB x1
    go_wp2_with fail
    go_ret
    exact⟨by rw [zaa HE];rfl,zaa HA1⟩
   replace hB:=hB.trans (show zel o=_ by unfold zel;rw [x1,Bool.true_and])
   clear x1
   go_wp2_with fail
   refine (zgx _ o.parN o.parR).mono ?_
   rintro e w1 ⟨rfl,rfl⟩
   have HA2:=hide ((zaa HA1).alloc (zaa HA1).size (.cells #[.int .i64 o.parN,.int .i64 o.parR] 81))
   cases x1:idB o.parN o.parR
   ·have HE:=hide (show opB o=false by rw [hB,x1];rfl)
    clear hB x1
    go_wp2_with fail
    go_ret
    exact⟨by rw [zaa HE];rfl,zaa HA2⟩
   rw [x1,Bool.true_and]at hB
   clear x1
   go_wp2_with fail
   have HK2:=hide ((((zaa HK).keep ((Below.refl _ _).alloc (Nat.le_refl _) (.cells #[.int .i64 o.nodeN,.int .i64 o.nodeR] 81)))).keep ((Below.refl _ _).alloc (Nat.le_refl _) (.cells #[.int .i64 o.parN,.int .i64 o.parR] 81)))
   refine (zpv _ _ o.key (zaa HK2)).mono ?_
   rintro e w1 ⟨rfl,rfl⟩
   cases x1:keyB o.key
   ·have HE:=hide (show opB o=false by rw [hB,x1];rfl)
    clear hB x1
    go_wp2_with fail
    go_ret
    exact⟨by rw [zaa HE];rfl,zaa HA2⟩
   rw [x1,Bool.true_and]at hB
   clear x1
   cases x1:(o.elem == 0)
   ·have HE:=hide (show opB o=false by rw [hB,x1];rfl)
    clear hB
    go_wp2_with fail
    go_ret
    exact⟨by rw [zaa HE];rfl,zaa HA2⟩
   rw [x1,Bool.true_and]at hB
   cases x2:((o.name.length:Int) == 0)
   ·have HE:=hide (show opB o=false by rw [hB,x2];rfl)
    clear hB
    go_wp2_with fail
    go_ret
    exact⟨by rw [zaa HE];rfl,zaa HA2⟩
   rw [x2,Bool.true_and]at hB
   cases x3:((o.text.length:Int) == 0)
   ·have HE:=hide (show opB o=false by rw [hB,x3];rfl)
    clear hB
    go_wp2_with fail
    go_ret
    exact⟨by rw [zaa HE];rfl,zaa HA2⟩
   rw [x3,Bool.true_and]at hB
   have HE:=hide hB
   clear hB
   go_wp2_with fail
   go_ret
   exact⟨by rw [zaa HE];rfl,zaa HA2⟩
 ·have hB:opB o=zfH o:=by unfold opB;rw [zaa HD,k0];rfl
  replace hB:=hB.trans (show zfH o=_ by unfold zfH;rfl)
  go_wp2_with fail
  refine (ziD _ o.nodeN o.nodeR).mono ?_
  rintro e w1 ⟨rfl,rfl⟩
  have HA1:=hide ((zaa HA).alloc (zaa HA).size (.cells #[.int .i64 o.nodeN,.int .i64 o.nodeR] 81))
  cases x1:zbC o.nodeN o.nodeR
  ·have HE:=hide (show opB o=false by rw [hB,x1];rfl)
   clear hB x1
   go_wp2_with fail
   go_ret
   exact⟨by rw [zaa HE];rfl,zaa HA1⟩
  rw [x1]at hB
  clear x1
  go_wp2_with fail
  refine (zgx _ o.parN o.parR).mono ?_
  rintro e w1 ⟨rfl,rfl⟩
  have HA2:=hide ((zaa HA1).alloc (zaa HA1).size (.cells #[.int .i64 o.parN,.int .i64 o.parR] 81))
  cases x1:idB o.parN o.parR
  ·have HE:=hide (show opB o=false by rw [hB,x1];rfl)
   clear hB x1
   go_wp2_with fail
   go_ret
   exact⟨by rw [zaa HE];rfl,zaa HA2⟩
  rw [x1]at hB
  clear x1
  go_wp2_with fail
  have HK2:=hide ((((zaa HK).keep ((Below.refl _ _).alloc (Nat.le_refl _) (.cells #[.int .i64 o.nodeN,.int .i64 o.nodeR] 81)))).keep ((Below.refl _ _).alloc (Nat.le_refl _) (.cells #[.int .i64 o.parN,.int .i64 o.parR] 81)))
  refine (zpv _ _ o.key (zaa HK2)).mono ?_
  rintro e w1 ⟨rfl,rfl⟩
  cases x1:keyB o.key
  ·have HE:=hide (show opB o=false by rw [hB,x1];rfl)
   clear hB x1
   go_wp2_with fail
   go_ret
   exact⟨by rw [zaa HE];rfl,zaa HA2⟩
  rw [x1]at hB
  clear x1
  rcases Bool.eq_false_or_eq_true o.gone with hg | hg
  ·have HE:=hide (show opB o=false by rw [hB,hg];rfl)
   clear hB
   rw [hg]at HA2
   go_wp2_with fail
   go_ret
   exact⟨by rw [zaa HE];rfl,zaa HA2⟩
  rw [hg]at hB HA2 HN
  rcases Bool.eq_false_or_eq_true (o.elem == 1)with x1 | x1
  ·rw [x1]at hB
   replace hB:opB o=((o.name.length:Int) == 0):=hB
   have HE:=hide hB
   clear hB
   go_wp2_with fail
   go_ret
   exact⟨by rw [zaa HE];rfl,zaa HA2⟩
  rw [x1]at hB
  replace hB:opB o=(o.elem == 0 && (zbD o.name && (o.text.length:Int) == 0)):=hB
  cases x2:(o.elem == 0)
  ·have HE:=hide (show opB o=false by rw [hB,x2];rfl)
   clear hB
   go_wp2_with fail
   go_ret
   exact⟨by rw [zaa HE];rfl,zaa HA2⟩
  rw [x2,Bool.true_and]at hB
  go_wp2_with fail
  have HN2:=hide ((((zaa HN).keep ((Below.refl _ _).alloc (Nat.le_refl _) (.cells #[.int .i64 o.nodeN,.int .i64 o.nodeR] 81)))).keep ((Below.refl _ _).alloc (Nat.le_refl _) (.cells #[.int .i64 o.parN,.int .i64 o.parR] 81)))
  refine (zmk _ _ o.name (zaa HN2)).mono ?_
  rintro e w1 ⟨rfl,rfl⟩
  cases x4:zbD o.name
  ·have HE:=hide (show opB o=false by rw [hB,x4];rfl)
   clear hB x4
   go_wp2_with fail
   go_ret
   exact⟨by rw [zaa HE];rfl,zaa HA2⟩
  rw [x4,Bool.true_and]at hB
  clear x4
  have HE:=hide hB
  clear hB
  go_wp2_with fail
  go_ret
  exact⟨by rw [zaa HE];rfl,zaa HA2⟩
end Go.Proofs.YtlpnibbdmkeklaaGreatDoor
