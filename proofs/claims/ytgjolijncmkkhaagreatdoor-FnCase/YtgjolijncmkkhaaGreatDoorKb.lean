/- Own texts joined: SayW, AppR, NodeS, Tool, MkupS, TagW, NodeW. -/
import Derived.Test.YtgjolijncmkkhaaGreatDoorKa
import Derived.Lib.AppendStr
import Derived.Deep.RegionLaw
import Derived.Deep.RegionHeld3
namespace Go.Proofs.YtgjolijncmkkhaaGreatDoor
open Go.RowKit
set_option linter.unusedVariables false
set_option maxRecDepth 100000
theorem zxu:zaL (⟨#[38,97,109,112,59]⟩,[38,97,109,112,59]):=⟨rfl,zrB⟩
theorem zyL:zaL (⟨#[38,108,116,59]⟩,[38,108,116,59]):=⟨rfl,zvo⟩
theorem zua:zaL (⟨#[38,113,117,111,116,59]⟩,[38,113,117,111,116,59]):=⟨rfl,zpO⟩
theorem zgo (B g cap:Nat) (w:Xk) (L:Xg) (s:ByteArray) (m:Xg) (hw:Wr B w g L) (hB:B<=w.heap.size) (hs:zaL (s,m)) (hlen:L.length+m.length<=100000000) :
  Calls Tryz.prog 61 #[.pointer (some ⟨g,0,none⟩),.slice (some ⟨w.heap.size,0,none⟩) 1 cap] (w.alloc (.cells #[.string s] 9)) fun e w'=>e=.returned (.tuple #[])∧Wr B w' g (L++m)∧Frp (MtW B g) w w':=by
 have hb:Below w.heap.size w (w.alloc (.cells #[.string s] 9)):=(Below.refl _ _).alloc (Nat.le_refl _) _
 have h:=zmo B g w.heap.size cap _ L [(s,m)] (hw.keep hb) (Nat.le_trans hB hb.size) (Loc.made w #[.string s] 9) (zzu hs) (by simp) (by simpa using hlen)
 refine h.mono ?_
 rintro e w' ⟨rfl,h1,h2⟩
 exact⟨rfl,by simpa using h1,(Frp.ofBelow hb _).trans h2⟩
set_option maxHeartbeats 3200000 in
theorem zpa (w0 w:Xk) (B g:Nat) (u:Xl) (L t:Xg) (q:Bool) (hw:Wr B w g L) (hB:B<=w.heap.size) (hu:Byt w0 u t) (hW:Below w0.heap.size w0 w) (h0:w0.heap.size<=B) (hg0:w0.heap.size<=g) (hlen:L.length+(say q t).length<=100000000) :
  Calls Tryz.prog 58 #[.pointer (some ⟨g,0,none⟩),u,.bool q] w fun e w'=>e=.returned (.tuple #[])∧Wr B w' g (L++say q t)∧Frp (MtW B g) w w':=by
 obtain⟨au,cu,rfl,_,_⟩:=hu.shape
 have Va:=hu.2.1
 unfold maxLen at Va
 have Wa:(t.length:Int)<=9223372036854775807:=by omega
 go_enter Tryz.func58,Tryz.ntmps58
 go_wp2_with fail
 go_loopw [10] (fun i wr=>∃j:Nat,j<=t.length∧i=.int .i64 j∧Wr B wr g (L++say q (t.take j))∧Frp (MtW B g) w wr) (fun i _=>t.length-(intOf i).toNat)
 case atStart=>exact⟨0,Nat.zero_le _,rfl,by simpa [say]using hw,Frp.refl _ _⟩
 case round=>
  obtain⟨j,hj,rfl,hr,hb⟩:=hrel
  by_cases hjl:j<t.length
  ·have Ba:=zoR q t j hjl
   have Ia:=ztW q t (j+1)
   obtain⟨Pa,_,⟨_,e⟩ | ⟨_,_,_,_,e⟩ | ⟨p,Oa,Ya,e,h1,h2,h3,h4,h5⟩⟩:=hu
   ·subst e;simp at hjl
   ·subst e;simp at hjl
   injection e with e1 _ e3
   subst e1 e3
   have hc:=h5 j hjl
   obtain⟨x,hx⟩:∃x,x=t[j]:=⟨_,rfl⟩
   rw [zcT hjl,<-hx]at hc
   rw [<-hx]at Ba
   have Ta:0<=x:=by rw [hx];exact (Pa _ (List.getElem_mem hjl)).1
   have Qa:x<=255:=by rw [hx];exact (Pa _ (List.getElem_mem hjl)).2
   have Ka:Below w0.heap.size w0 wr:=hW.trans (FrpW.toBelow hb hW.size h0 hg0)
   have Xa:wr.cell? ⟨p,Oa+j,none⟩=some (.int .u8 x):=(Ka.cell (p:=⟨p,Oa+j,none⟩) h4).trans hc
   have Ca:B<=wr.heap.size:=Nat.le_trans hB hb.size
   have Aa:(L++say q (t.take j)).length+(sayB q x).length<=100000000:=by
    rw [Ba]at Ia
    simp only [List.length_append]at Ia ⊢
    omega
   have Ua:(j:Int)<(t.length:Int):=by omega
   obtain⟨M,hM⟩:∃M,M=L++say q (t.take j):=⟨_,rfl⟩
   have HL:=hide (show L++say q (t.take (j+1))=M++sayB q x by rw [Ba,hM,List.append_assoc])
   rw [<-hM]at hr Aa
   have Za:M.length<=100000000:=by omega
   have HR:=hide hr
   clear hr Ba hx hc Ia h5 hM hw hW Ka
   by_cases k1:x=38
   ·have d1:(x == 38)=true:=by simpa using k1
    have HY:=hide (show sayB q x=[38,97,109,112,59] by unfold sayB;rw [if_pos k1])
    clear k1
    have HP:=hide (zgo B g 1 wr M _ _ (zaa HR) Ca zxu (by rw [zaa HY]at Aa;exact Aa))
    clear Aa
    go_wp2_with fail
    refine (zaa HP).mono ?_
    rintro e w2 ⟨rfl,W2,F2⟩
    have HO:=hide (show Wr B w2 g (L++say q (t.take (j+1))) by rw [zaa HL,zaa HY];exact W2)
    clear W2
    go_wp2_with fail
    go_roundw
    case rel=>exact⟨j+1,by omega,by go_num,zaa HO,hb.trans F2⟩
    case measure=>simp [intOf];omega
   ·have d1:(x == 38)=false:=by simpa using k1
    by_cases k2:x=60
    ·have d2:(x == 60)=true:=by simpa using k2
     have HY:=hide (show sayB q x=[38,108,116,59] by unfold sayB;rw [if_neg k1,if_pos k2])
     clear k1 k2
     have HP:=hide (zgo B g 1 wr M _ _ (zaa HR) Ca zyL (by rw [zaa HY]at Aa;exact Aa))
     clear Aa
     go_wp2_with fail
     refine (zaa HP).mono ?_
     rintro e w2 ⟨rfl,W2,F2⟩
     have HO:=hide (show Wr B w2 g (L++say q (t.take (j+1))) by rw [zaa HL,zaa HY];exact W2)
     clear W2
     go_wp2_with fail
     go_roundw
     case rel=>exact⟨j+1,by omega,by go_num,zaa HO,hb.trans F2⟩
     case measure=>simp [intOf];omega
    ·have d2:(x == 60)=false:=by simpa using k2
     by_cases k3:x=34∧q=true
     ·have d3:(x == 34)=true:=by simpa using k3.1
      have HY:=hide (show sayB q x=[38,113,117,111,116,59] by unfold sayB;rw [if_neg k1,if_neg k2,if_pos k3])
      obtain⟨_,hq⟩:=k3
      subst hq
      clear k1 k2
      have HP:=hide (zgo B g 1 wr M _ _ (zaa HR) Ca zua (by rw [zaa HY]at Aa;exact Aa))
      clear Aa
      go_wp2_with fail
      refine (zaa HP).mono ?_
      rintro e w2 ⟨rfl,W2,F2⟩
      have HO:=hide (show Wr B w2 g (L++say true (t.take (j+1))) by rw [zaa HL,zaa HY];exact W2)
      clear W2
      go_wp2_with fail
      go_roundw
      case rel=>exact⟨j+1,by omega,by go_num,zaa HO,hb.trans F2⟩
      case measure=>simp [intOf];omega
     ·have HY:=hide (show sayB q x=[x] by unfold sayB;rw [if_neg k1,if_neg k2,if_neg k3])
      have d3:((x == 34)=true∧q=false)∨(x == 34)=false:=by
       by_cases h34:x=34
       ·left
        refine⟨by simpa using h34,?_⟩
        cases q with
        | true=>exact absurd ⟨h34,rfl⟩ k3
        | false=>rfl
       ·right;simpa using h34
      clear k1 k2 k3
      obtain⟨o,Ha,Da⟩:=zaa HR
      obtain⟨ab,cb,Ra,_,_⟩:=Ha.byt.shape
      subst Ra
      obtain⟨cs,_,_,c0,f0⟩:=Da.loc
      have Ga:Below wr.heap.size wr (wr.alloc (.cells #[.int .u8 x] 5)):=(Below.refl _ _).alloc (Nat.le_refl _) _
      have Na:=hide (Ha.alloc (.cells #[.int .u8 x] 5))
      have Sa:=hide (Da.keep Ga)
      have Fa:Frp (MtW B g) wr (wr.alloc (.cells #[.int .u8 x] 5)):=Frp.ofBelow Ga _
      clear Ha Da HR Ga Aa
      rcases d3 with ⟨d3,rfl⟩ | d3
      all_goals
       go_wp2_with (at_builtin;(refine zaR rfl _ _ rfl B _ M rfl (zaa Na) _ [x] rfl (zbC wr x Ta Qa) (by first | omega | (simp;omega)) (by first | exact Ca | (simp;omega)) ?_))
       intro v2 w2 Ja Ma
       obtain⟨⟨c2,f2⟩,W2,F2⟩:=ztY (zaa Na) (zaa Sa) Ja Ma
       rw [<-zaa HY,<-zaa HL]at W2
       have HO:=hide W2
       obtain⟨a2,aa,La,_,_⟩:=Ja.byt.shape
       generalize (M++[x]).length=N2 at La
       subst La
       clear Ja Ma W2
       go_wp2_with fail
       go_roundw
       case rel=>exact⟨j+1,by omega,by go_num,zaa HO,(hb.trans Fa).trans F2⟩
       case measure=>simp [intOf];omega
  ·have e:j=t.length:=by omega
   subst e
   rw [List.take_length]at hr
   clear hu hw
   go_wp2_with fail
   go_end0
   exact⟨rfl,hr,hb⟩
theorem zcv {w:Xk} {ops:Array Oper} {o:Oper} {a:Act} {K:Act->Xk->Prop} {Q:Exit->Act->Xk->Prop} {E:Prop} (hgd:o.guard=none) (s x:Operand)
  (ho:o.op=.call { callee:=.builtin .append,args:= #[s,x],argTypes:= #[22,22] })
  (base:Nat) (v:Xl) (l:Xg) (hs:a.eval s=v) (hown:Own w base v l) (u:Xl) (m:Xg) (hx:a.eval x=u) (hu:Byt w u m)
  (hlen:l.length+m.length<=134217728) (hbase:base<=w.heap.size)
  (h:∀v' w',Own w' base v' (l++m)->w.grownBy w' v.ownBlock->K (a.put o.dst v') w'):if Region.wanted o (yielded ops a.tmps)=true then Oper.wp Tryz.prog o a w K Q else E:=by
 have hw:Region.wanted o (yielded ops a.tmps)=true:=by simp [Region.wanted,hgd]
 rw [if_pos hw]
 obtain⟨i0,hi,Ia,Ja,Fa⟩:=info_parts Tryz.info5
 have Aa:∀(ad:Addr) (c:Nat),a.eval x=.slice (some ad) m.length c->(∀j,j<m.length->w.cell? (ad.add j)=some (.int .u8 (m.getD j 0)))->Oper.wp Tryz.prog o a w K Q:=by
  intro ad c Ga hc
  refine wp_append_own w s x 22 ho base 5 i0 (.int .u8 0) 1 1 Tryz.underlying22 hi Ia Ja Fa rfl (by decide) v l.length (vals l) hs hown.2 ad m.length c (vals m) Ga (by rw [zaX];omega) ?_ (zjU m) (by unfold maxLen;omega) (by omega) hbase ?_
  ·intro j y hj
   have Ba:j<m.length:=by
    by_cases Ba:j<m.length
    ·exact Ba
    ·rw [List.getElem?_eq_none (by rw [zaX];omega)]at hj;cases hj
   rw [zej Ba]at hj
   rw [hc j Ba];exact hj
  ·intro v' w' h1 h2 _
   refine h v' w' ⟨hown.1.app hu.1,?_⟩ h2
   rw [zdu,List.length_append];exact h1
 obtain⟨Ka,hm,⟨rfl,rfl⟩ | ⟨y,Da,rfl,hc,rfl⟩ | ⟨b,Ha,Da,rfl,h1,h2,h3,h4,h5⟩⟩:=hu
 ·have Ca:=run_append_owned_none (P:=Tryz.prog) (w:=w) base 22 o.type 5 i0 1 Tryz.underlying22 hi v l.length (vals l) hown.2
  unfold Oper.wp
  simp [execOp,ho,resolve,invoke,builtin,hs,hx,Ca,Result.andThen]
  exact h v w (by rw [List.append_nil];exact hown) (World.grownBy.refl _ _)
 ·exact Aa y Da hx (fun j hj=>by simp at hj)
 ·exact Aa ⟨b,Ha,none⟩ Da hx (fun j hj=>by rw [zbd];exact h5 j hj)
theorem zhU {w:Xk} {ops:Array Oper} {o:Oper} {a:Act} {K:Act->Xk->Prop} {Q:Exit->Act->Xk->Prop} {E:Prop} (hgd:o.guard=none) (s x:Operand)
  (ho:o.op=.call { callee:=.builtin .append,args:= #[s,x],argTypes:= #[22,9] })
  (base:Nat) (v:Xl) (l:Xg) (hs:a.eval s=v) (hown:Own w base v l) (t:ByteArray) (m:Xg) (hx:a.eval x=.string t) (hm:Lib.strCells t=vals m) (hok:okB m)
  (hlen:l.length+m.length<=134217728) (hbase:base<=w.heap.size)
  (h:∀v' w',Own w' base v' (l++m)->w.grownBy w' v.ownBlock->K (a.put o.dst v') w'):if Region.wanted o (yielded ops a.tmps)=true then Oper.wp Tryz.prog o a w K Q else E:=by
 have hw:Region.wanted o (yielded ops a.tmps)=true:=by simp [Region.wanted,hgd]
 rw [if_pos hw]
 obtain⟨i0,hi,Ca,Da,Ba⟩:=info_parts Tryz.info5
 have Aa:t.size=m.length:=by rw [<-Lib.strCells_length,hm,zaX]
 obtain⟨v',w',hr,h2,h3,_⟩:=Lib.run_append_own_string (P:=Tryz.prog) w base 22 9 o.type 5 i0 Tryz.underlying22 Tryz.underlying9 hi Ca Da Ba v l.length (vals l) hown.2 t (by rw [Aa];unfold maxLen;omega) (by omega) hbase
 unfold Oper.wp execOp
 simp only [ho,resolve,invoke,builtin,Sem.run_bind,Sem.run_pure,Result.andThen_ok,List.map_toArray,List.map_cons,List.map_nil,hs,hx,hr]
 refine h v' w' ⟨hown.1.app hok,?_⟩ h3
 rw [zdu,List.length_append,<-Aa,<-hm];exact h2
def okK {α:Type} (f:α->Int->Bool×Int):List α->Int->Bool×Int
 | [],left=>(true,left)
 | x::r,left=>if (f x left).1=true then okK f r (f x left).2 else (false,(f x left).2)
def zba (l:Xg):Bool:=decide (l=[98,114]) || decide (l=[104,114])
theorem zcG (l:Xg):zba l=true↔Void l:=by unfold zba Void;rw [Bool.or_eq_true,decide_eq_true_eq,decide_eq_true_eq]
def zsw (l:List (Xg×Xg)) (i:Nat):Bool:=zaM (l.getD i ([],[])).1 && zoe (l.getD i ([],[])).2 && (decide (i=0) || zeQ (l.getD (i-1) ([],[])).1 (l.getD i ([],[])).1)
theorem znK (l:List (Xg×Xg)) (i:Nat):zsw l i=true↔zdh l i:=by
 unfold zsw zdh
 rw [Bool.and_eq_true,Bool.and_eq_true,zce,znw,Bool.or_eq_true,decide_eq_true_eq,and_assoc]
 constructor
 ·rintro⟨h1,h2,h3⟩
  exact⟨h1,h2,fun h=>h3.resolve_left (by omega)⟩
 ·rintro⟨h1,h2,h3⟩
  refine⟨h1,h2,?_⟩
  by_cases h:i=0
  ·exact .inl h
  ·exact .inr (h3 (by omega))
def zow (l:List (Xg×Xg)):Bool:=decide (l.length<=4) && (List.range l.length).all (zsw l)
theorem ztg (l:List (Xg×Xg)):zow l=true↔zaC l:=by
 unfold zow zaC
 rw [Bool.and_eq_true,decide_eq_true_eq,List.all_eq_true]
 constructor
 ·rintro⟨h1,h2⟩;exact⟨h1,fun i hi=>(znK l i).1 (h2 i (List.mem_range.2 hi))⟩
 ·rintro⟨h1,h2⟩;exact⟨h1,fun i hi=>(znK l i).2 (h2 i (List.mem_range.1 hi))⟩
def zpM {α:Type} (t:Nd α):Prop:=t.name.length=0∧t.attrs.length=0∧t.kids.length=0∧zat t.text
def zbj {α:Type} (t:Nd α):Bool:=decide (t.name.length=0) && decide (t.attrs.length=0) && decide (t.kids.length=0) && zoe t.text
theorem zbO {α:Type} (t:Nd α):zbj t=true↔zpM t:=by
 unfold zbj zpM
 rw [Bool.and_eq_true,Bool.and_eq_true,Bool.and_eq_true,znw,decide_eq_true_eq,decide_eq_true_eq,decide_eq_true_eq,and_assoc,and_assoc]
def zia {α:Type} (t:Nd α):Prop:=t.kind=0∧zau t.name∧t.text.length=0∧zaC t.attrs∧¬ (Void t.name∧0<t.kids.length)
def zbH {α:Type} (t:Nd α):Bool:=decide (t.kind=0) && zaM t.name && decide (t.text.length=0) && zow t.attrs && !(zba t.name && decide (0<t.kids.length))
theorem zdy {α:Type} (t:Nd α):zbH t=true↔zia t:=by
 unfold zbH zia
 rw [Bool.and_eq_true,Bool.and_eq_true,Bool.and_eq_true,Bool.and_eq_true,zce,ztg,decide_eq_true_eq,decide_eq_true_eq,Bool.not_eq_true',<-Bool.not_eq_true,Bool.and_eq_true,zcG,decide_eq_true_eq,and_assoc,and_assoc,and_assoc]
def okT:(n:Nat)->Int->Tr n->Int->Bool×Int
 | 0=>fun _ t _=>t.elim
 | n+1=>fun deep t left=>if left-1<0∨20<deep then (false,left-1) else if t.kind=1 then (zbj t,left-1) else if zbH t=true then okK (okT n (deep+1)) t.kids (left-1) else (false,left-1)
theorem zjE (n:Nat) (deep:Int) (t:Tr (n+1)) (left:Int):okT (n+1) deep t left=if left-1<0∨20<deep then (false,left-1) else if t.kind=1 then (zbj t,left-1) else if zbH t=true then okK (okT n (deep+1)) t.kids (left-1) else (false,left-1):=rfl
theorem zwU {α:Type} {f:α->Int->Bool×Int} {l:List α} {k:Nat} {left:Int} (h:k<l.length):okK f (l.drop k) left=if (f l[k] left).1=true then okK f (l.drop (k+1)) (f l[k] left).2 else (false,(f l[k] left).2):=by
 rw [List.drop_eq_getElem_cons h];rfl
theorem zvh {α:Type} {f:α->Int->Bool×Int} (hf:∀x left,0<=left->-1<=(f x left).2∧(f x left).2<=left∧((f x left).1=true->0<=(f x left).2)) (l:List α) (left:Int) (h0:0<=left) : -1<=(okK f l left).2∧(okK f l left).2<=left∧((okK f l left).1=true->0<=(okK f l left).2):=by
 induction l generalizing left with
 | nil=>exact⟨by simp [okK];omega,by simp [okK],fun _=>by simpa [okK]using h0⟩
 | cons x r ih=>
  have h:=hf x left h0
  rw [okK]
  by_cases hb:(f x left).1=true
  ·rw [if_pos hb]
   have:=ih (f x left).2 (h.2.2 hb)
   exact⟨this.1,by omega,this.2.2⟩
  ·rw [if_neg hb]
   exact⟨h.1,h.2.1,fun e=>by cases e⟩
theorem zuQ (n:Nat) (deep:Int) (t:Tr n) (left:Int) (h0:0<=left) : -1<=(okT n deep t left).2∧(okT n deep t left).2<=left∧((okT n deep t left).1=true->0<=(okT n deep t left).2):=by
 induction n generalizing deep left with
 | zero=>exact t.elim
 | succ n ih=>
  unfold okT
  by_cases h1:left-1<0∨20<deep
  ·rw [if_pos h1];exact⟨by simp;omega,by simp;omega,fun e=>by cases e⟩
  ·rw [if_neg h1]
   by_cases h2:t.kind=1
   ·rw [if_pos h2];exact⟨by simp;omega,by simp;omega,fun _=>by simp;omega⟩
   ·rw [if_neg h2]
    by_cases h3:zbH t=true
    ·rw [if_pos h3]
     have:=zvh (f:=okT n (deep+1)) (fun x l hl=>ih (deep+1) x l hl) t.kids (left-1) (by omega)
     exact⟨this.1,by omega,this.2.2⟩
    ·rw [if_neg h3];exact⟨by simp;omega,by simp;omega,fun e=>by cases e⟩
theorem zhs (w:Xk) (v:Xl) (l:Xg) (h:Byt w v l) (hn:Void l):Calls Tryz.prog 77 #[v] w fun e w'=>e=.returned (.bool true)∧w'=w:=by
 refine (znv w v l h).mono ?_
 rintro e w' ⟨rfl,h⟩
 exact⟨by simp [hn],h⟩
theorem zpk (w:Xk) (v:Xl) (l:Xg) (h:Byt w v l) (hn:¬ Void l):Calls Tryz.prog 77 #[v] w fun e w'=>e=.returned (.bool false)∧w'=w:=by
 refine (znv w v l h).mono ?_
 rintro e w' ⟨rfl,h⟩
 exact⟨by simp [hn],h⟩
theorem zgK (w:Xk) (v:Xl) (l:List (Xg×Xg)) (h:RdAttrs w v l) (hn:zaC l):Calls Tryz.prog 76 #[v] w fun e w'=>e=.returned (.bool true)∧Below w.heap.size w w':=by
 refine (zlC w v l h).mono ?_
 rintro e w' ⟨rfl,h⟩
 exact⟨by simp [hn],h⟩
theorem zvN (w:Xk) (v:Xl) (l:List (Xg×Xg)) (h:RdAttrs w v l) (hn:¬ zaC l):Calls Tryz.prog 76 #[v] w fun e w'=>e=.returned (.bool false)∧Below w.heap.size w w':=by
 refine (zlC w v l h).mono ?_
 rintro e w' ⟨rfl,h⟩
 exact⟨by simp [hn],h⟩
def zgJ (n:Nat):Prop:=∀(w0 w:Xk) (a b c d e:Xl) (t:Tr n) (deep left:Int) (g:Nat),RdNode n w0 [a,b,c,d,e] t->Below w0.heap.size w0 w->w0.heap.size<=g->Loc w g #[.int .i64 left] 3->0<=left->left<=1000000->0<=deep->deep<=1000->
  Calls Tryz.prog 37 #[.agg #[a,b,c,d,e],.int .i64 deep,.pointer (some ⟨g,0,none⟩)] w fun e w'=>e=.returned (.bool (okT n deep t left).1)∧Loc w' g #[.int .i64 (okT n deep t left).2] 3∧Frm w w' [g]
theorem zyo (w:Xk) (g:Nat) (left x:Int) (A:Array Xl) (T:Xm) (h:Loc w g #[.int .i64 left] 3):Loc ((w.setCell ⟨g,0,none⟩ (.int .i64 x)).alloc (.cells A T)) g #[.int .i64 x] 3∧Loc ((w.setCell ⟨g,0,none⟩ (.int .i64 x)).alloc (.cells A T)) w.heap.size A T∧Frm w ((w.setCell ⟨g,0,none⟩ (.int .i64 x)).alloc (.cells A T)) [g]:=by
 refine⟨(h.set 0 _).alloc _,?_,(zap _ _ _ _).trans (Frm.ofBelow ((Below.refl _ _).alloc (Nat.le_refl _) _) [g])⟩
 have:=Loc.made (w.setCell ⟨g,0,none⟩ (.int .i64 x)) A T
 simpa using this
set_option maxHeartbeats 3200000 in
theorem zqy (n:Nat) (H:zgJ n):zgJ (n+1):=by
 intro w0 w a b c d e t deep left g hr hB hg hl h0 h1 da ca
 have Ia:=hr
 obtain⟨_,_,_,_,e0,k1,k2,hb,hc,hd,he⟩:=hr
 simp only [List.cons.injEq,and_true]at e0
 obtain⟨rfl,rfl,rfl,rfl,rfl⟩:=e0
 obtain⟨ab,cb,rfl,_,_⟩:=hb.shape
 obtain⟨ac,cc,rfl,_,_⟩:=hc.shape
 obtain⟨ad,cd,rfl,_,_⟩:=Elems.shape hd
 obtain⟨ae,ce,rfl,_,_⟩:=Elems.shape he
 obtain⟨lg,lb,hf⟩:=zyo w g left (left-1) #[.int .i64 t.kind,.slice ab t.name.length cb,.slice ac t.text.length cc,.slice ad t.attrs.length cd,.slice ae t.kids.length ce] 29 hl
 have ea:=hl.lt
 have Ya:=hl.cell 0
 have ga:=hl.frozen 0
 simp at Ya
 have ba:w.heap.size≠g:=by omega
 by_cases hA:left-1<0
 ·have HE:=hide (show okT (n+1) deep t left=(false,left-1) by unfold okT;rw [if_pos (.inl hA)])
  have HP:=hide (And.intro lg hf)
  clear lg lb hf hl
  go_enter Tryz.func37,Tryz.ntmps37
  go_wp2_with fail
  go_ret
  exact⟨by rw [zaa HE];rfl,by rw [zaa HE];exact (zaa HP).1,(zaa HP).2⟩
 have ia:decide (left-1<0)=false:=by simpa using hA
 by_cases hD:20<deep
 ·have HE:=hide (show okT (n+1) deep t left=(false,left-1) by unfold okT;rw [if_pos (.inr hD)])
  have HP:=hide (And.intro lg hf)
  clear lg lb hf hl
  go_enter Tryz.func37,Tryz.ntmps37
  go_wp2_with fail
  go_ret
  exact⟨by rw [zaa HE];rfl,by rw [zaa HE];exact (zaa HP).1,(zaa HP).2⟩
 have ka:¬ 20<deep:=hD
 have Ma:=hB.trans (hf.below hB.size (fun q hq=>by simp at hq;omega))
 by_cases hK:t.kind=1
 ·have Ga:okT (n+1) deep t left=(zbj t,left-1):=by unfold okT;rw [if_neg (by omega),if_pos hK]
  have dk:(t.kind == 1)=true:=by simp [hK]
  have HP:=hide (And.intro lg hf)
  have Da:=hide Ma
  clear lg lb hf hl Ma
  by_cases q1:t.name.length=0
  ·have d1:((t.name.length:Int) == 0)=true:=beq_iff_eq.2 (by omega)
   by_cases q2:t.attrs.length=0
   ·have d2:((t.attrs.length:Int) == 0)=true:=beq_iff_eq.2 (by omega)
    by_cases q3:t.kids.length=0
    ·have d3:((t.kids.length:Int) == 0)=true:=beq_iff_eq.2 (by omega)
     by_cases q4:zat t.text
     ·have HE:=hide (Ga.trans (by rw [(zbO t).2 ⟨q1,q2,q3,q4⟩]:(zbj t,left-1)=(true,left-1)))
      have HQ:=hide q4
      clear Ga q1 q2 q3 q4 hK
      go_enter Tryz.func37,Tryz.ntmps37
      go_wp2_with fail
      refine (zfS _ _ t.text (hc.keep (zaa Da)) (zaa HQ)).mono ?_
      rintro e w1 ⟨rfl,rfl⟩
      go_wp2_with fail
      go_ret
      exact⟨by rw [zaa HE];rfl,by rw [zaa HE];exact (zaa HP).1,(zaa HP).2⟩
     ·have HE:=hide (Ga.trans (by rw [Bool.eq_false_iff.2 (fun h=>q4 ((zbO t).1 h).2.2.2)]:(zbj t,left-1)=(false,left-1)))
      have HQ:=hide q4
      clear Ga q1 q2 q3 q4 hK
      go_enter Tryz.func37,Tryz.ntmps37
      go_wp2_with fail
      refine (zqp _ _ t.text (hc.keep (zaa Da)) (zaa HQ)).mono ?_
      rintro e w1 ⟨rfl,rfl⟩
      go_wp2_with fail
      go_ret
      exact⟨by rw [zaa HE];rfl,by rw [zaa HE];exact (zaa HP).1,(zaa HP).2⟩
    ·have d3:((t.kids.length:Int) == 0)=false:=beq_eq_false_iff_ne.2 (by omega)
     have HE:=hide (Ga.trans (by rw [Bool.eq_false_iff.2 (fun h=>q3 ((zbO t).1 h).2.2.1)]:(zbj t,left-1)=(false,left-1)))
     clear Ga q1 q2 q3 hK
     go_enter Tryz.func37,Tryz.ntmps37
     go_wp2_with fail
     go_ret
     exact⟨by rw [zaa HE];rfl,by rw [zaa HE];exact (zaa HP).1,(zaa HP).2⟩
   ·have d2:((t.attrs.length:Int) == 0)=false:=beq_eq_false_iff_ne.2 (by omega)
    have HE:=hide (Ga.trans (by rw [Bool.eq_false_iff.2 (fun h=>q2 ((zbO t).1 h).2.1)]:(zbj t,left-1)=(false,left-1)))
    clear Ga q1 q2 hK
    go_enter Tryz.func37,Tryz.ntmps37
    go_wp2_with fail
    go_ret
    exact⟨by rw [zaa HE];rfl,by rw [zaa HE];exact (zaa HP).1,(zaa HP).2⟩
  ·have d1:((t.name.length:Int) == 0)=false:=beq_eq_false_iff_ne.2 (by omega)
   have HE:=hide (Ga.trans (by rw [Bool.eq_false_iff.2 (fun h=>q1 ((zbO t).1 h).1)]:(zbj t,left-1)=(false,left-1)))
   clear Ga q1 hK
   go_enter Tryz.func37,Tryz.ntmps37
   go_wp2_with fail
   go_ret
   exact⟨by rw [zaa HE];rfl,by rw [zaa HE];exact (zaa HP).1,(zaa HP).2⟩
 have dk:(t.kind == 1)=false:=by simpa using hK
 have Ba:¬ zia t->okT (n+1) deep t left=(false,left-1):=fun h=>by unfold okT;rw [if_neg (by omega),if_neg hK,if_neg (fun e=>h ((zdy t).1 e))]
 have Aa:zia t->okT (n+1) deep t left=okK (okT n (deep+1)) t.kids (left-1):=fun h=>by rw [zjE,if_neg (by omega),if_neg hK,if_pos ((zdy t).2 h)]
 have HP:=hide (And.intro lg (And.intro lb hf))
 have Da:=hide Ma
 clear lg lb hf hl Ma hK
 by_cases z0:t.kind=0
 ·have dz:(t.kind != 0)=false:=by simp [z0]
  by_cases z1:zau t.name
  ·by_cases z2:t.text.length=0
   ·by_cases z3:zaC t.attrs
    ·have H1:=hide z1
     have H3:=hide z3
     by_cases z4:Void t.name
     ·have H4:=hide z4
      by_cases z5:0<t.kids.length
      ·have HE:=hide (Ba (fun h=>h.2.2.2.2 ⟨z4,z5⟩))
       clear Ba Aa z0 z1 z3 z4 hc Ia he
       generalize t.text.length=nT at *
       generalize t.kids.length=nK at *
       subst z2
       have La:decide (0<nK)=true:=by simp;omega
       go_enter Tryz.func37,Tryz.ntmps37
       go_wp2_with fail
       refine (zbM _ _ t.name (hb.keep (zaa Da)) (zaa H1)).mono ?_
       rintro e w1 ⟨rfl,rfl⟩
       go_wp2_with fail
       refine (zgK _ _ t.attrs (hd.keep (zaa Da)) (zaa H3)).mono ?_
       rintro e w1 ⟨rfl,Ca⟩
       have lb:=(zaa HP).2.1.all Ca
       have u1:=lb.cell 1
       have u4:=lb.cell 4
       simp at u1 u4
       have Fa:=(zaa Da).trans (Ca.mono (zaa Da).size)
       have HQ:=hide (And.intro ((zaa HP).1.all Ca) ((zaa HP).2.2.trans (Frm.ofBelow Ca [g])))
       clear lb Ca
       go_wp2_with fail
       refine (zhs _ _ t.name (hb.keep Fa) (zaa H4)).mono ?_
       rintro e w2 ⟨rfl,rfl⟩
       go_wp2_with fail
       go_ret
       exact⟨by rw [zaa HE];rfl,by rw [zaa HE];exact (zaa HQ).1,(zaa HQ).2⟩
      ·have HE:=hide (Aa ⟨z0,z1,z2,z3,fun h=>z5 h.2⟩)
       have Va:t.kids.length=0:=by omega
       have Xa:t.kids=[]:=List.eq_nil_of_length_eq_zero Va
       have HK:=hide (show okK (okT n (deep+1)) t.kids (left-1)=(true,left-1) by rw [Xa];rfl)
       clear he z5 Xa
       generalize t.kids.length=nK at *
       subst Va
       clear Ba Aa z0 z1 z3 z4 hc Ia
       generalize t.text.length=nT at *
       subst z2
       go_enter Tryz.func37,Tryz.ntmps37
       go_wp2_with fail
       refine (zbM _ _ t.name (hb.keep (zaa Da)) (zaa H1)).mono ?_
       rintro e w1 ⟨rfl,rfl⟩
       go_wp2_with fail
       refine (zgK _ _ t.attrs (hd.keep (zaa Da)) (zaa H3)).mono ?_
       rintro e w1 ⟨rfl,Ca⟩
       have lb:=(zaa HP).2.1.all Ca
       have u1:=lb.cell 1
       have u4:=lb.cell 4
       simp at u1 u4
       have Fa:=(zaa Da).trans (Ca.mono (zaa Da).size)
       have HQ:=hide (And.intro ((zaa HP).1.all Ca) (And.intro lb ((zaa HP).2.2.trans (Frm.ofBelow Ca [g]))))
       clear lb Ca
       go_wp2_with fail
       refine (zhs _ _ t.name (hb.keep Fa) (zaa H4)).mono ?_
       rintro e w2 ⟨rfl,rfl⟩
       go_wp2_with fail
       refine wp_loop_rounds 1 ?_
       rw [rounds_succ]
       go_wp2_with fail
       go_ret
       exact⟨by rw [zaa HE,zaa HK];rfl,by rw [zaa HE,zaa HK];exact (zaa HQ).1,(zaa HQ).2.2⟩
     ·have H4:=hide z4
      have HE:=hide (Aa ⟨z0,z1,z2,z3,fun h=>z4 h.1⟩)
      clear Ba Aa z0 z1 z3 z4 hc Ia
      generalize t.text.length=nT at *
      subst z2
      go_enter Tryz.func37,Tryz.ntmps37
      go_wp2_with fail
      refine (zbM _ _ t.name (hb.keep (zaa Da)) (zaa H1)).mono ?_
      rintro e w1 ⟨rfl,rfl⟩
      go_wp2_with fail
      refine (zgK _ _ t.attrs (hd.keep (zaa Da)) (zaa H3)).mono ?_
      rintro e w1 ⟨rfl,Ca⟩
      have lb:=(zaa HP).2.1.all Ca
      have u1:=lb.cell 1
      have u4:=lb.cell 4
      simp at u1 u4
      have Fa:=(zaa Da).trans (Ca.mono (zaa Da).size)
      have HQ:=hide (And.intro ((zaa HP).1.all Ca) (And.intro lb ((zaa HP).2.2.trans (Frm.ofBelow Ca [g]))))
      clear lb Ca
      go_wp2_with fail
      refine (zpk _ _ t.name (hb.keep Fa) (zaa H4)).mono ?_
      rintro e w2 ⟨rfl,rfl⟩
      go_wp2_with fail
      go_loopw [7] (fun i wr=>∃(k:Nat) (lk:Int),k<=t.kids.length∧i=.int .i64 k∧0<=lk∧lk<=1000000∧Loc wr g #[.int .i64 lk] 3∧Loc wr w.heap.size #[.int .i64 t.kind,.slice ab t.name.length cb,.slice ac 0 cc,.slice ad t.attrs.length cd,.slice ae t.kids.length ce] 29∧Frm w wr [g]∧Hid (okK (okT n (deep+1)) t.kids (left-1)=okK (okT n (deep+1)) (t.kids.drop k) lk)) (fun i _=>t.kids.length-(intOf i).toNat)
      case atStart=>exact⟨0,left-1,Nat.zero_le _,rfl,by omega,by omega,(zaa HQ).1,(zaa HQ).2.1,(zaa HQ).2.2,hide rfl⟩
      case round=>
       obtain⟨k,lk,hk,rfl,Ra,Za,rg,rb,rf,HK⟩:=hrel
       have v4:=rb.cell 4
       simp at v4
       have ja:=Elems.shape he
       have Ha:Below w0.heap.size w0 wr:=hB.trans (rf.below hB.size (fun q hq=>by simp at hq;omega))
       by_cases hlt:k<t.kids.length
       ·have aa:=he.1
        obtain⟨_,⟨_,e⟩ | ⟨_,_,_,_,e⟩ | ⟨b,Ka,ha,e,g1,g2,g3,g4,g5⟩⟩:=he
        ·rw [e]at hlt;simp at hlt
        ·rw [e]at hlt;simp at hlt
        simp only [Value.slice.injEq,true_and]at e
        obtain⟨rfl,rfl⟩:=e
        obtain⟨c0,c1,c2,c3,c4,e0,e1,e2,e3,e4,hx⟩:=zlK (g5 k hlt)
        replace e0:=(Ha.cell (p:=⟨b,Ka+k*5,none⟩) g4).trans e0
        replace e1:=(Ha.cell (p:=⟨b,Ka+k*5+1,none⟩) g4).trans e1
        replace e2:=(Ha.cell (p:=⟨b,Ka+k*5+2,none⟩) g4).trans e2
        replace e3:=(Ha.cell (p:=⟨b,Ka+k*5+3,none⟩) g4).trans e3
        replace e4:=(Ha.cell (p:=⟨b,Ka+k*5+4,none⟩) g4).trans e4
        have Oa:(k:Int)<(t.kids.length:Int):=by omega
        have Wa:=zuQ n (deep+1) t.kids[k] lk Ra
        have La:=zwU (f:=okT n (deep+1)) (left:=lk) hlt
        have HR:=hide (And.intro rg (And.intro rb rf))
        have Pa:=hide La
        have Qa:=hide Wa
        unfold maxLen at aa
        clear g5 rg rb rf La Wa HQ u1 u4
        go_wp2_with fail
        refine (H w0 wr c0 c1 c2 c3 c4 t.kids[k] (deep+1) lk g hx Ha hg (zaa HR).1 Ra Za (by omega) (by omega)).mono ?_
        rintro e w3 ⟨rfl,Ua,Na⟩
        have Sa:=(zaa HR).2.1.frm Na (by simp;omega)
        have Ta:=(zaa HR).2.2.trans Na
        have Ja:=hide (And.intro Ua (And.intro Sa Ta))
        clear Ua Na Sa Ta e0 e1 e2 e3 e4 hx v4 HR
        generalize okT n (deep+1) t.kids[k] lk=res at *
        obtain⟨rb,rl⟩:=res
        cases rb with
        | true=>
         have q1:0<=rl:=(zaa Qa).2.2 rfl
         have q2:rl<=lk:=(zaa Qa).2.1
         have HF:=hide ((zaa HK).trans ((zaa Pa).trans (if_pos rfl)))
         clear Qa Pa HK
         go_wp2_with fail
         go_roundw
         case rel=>exact⟨k+1,rl,by omega,by go_num,q1,by omega,(zaa Ja).1,(zaa Ja).2.1,(zaa Ja).2.2,HF⟩
         case measure=>simp [intOf];omega
        | false=>
         have HF:=hide ((zaa HK).trans ((zaa Pa).trans (if_neg (by simp))))
         go_wp2_with fail
         go_ret
         exact⟨by rw [zaa HE,zaa HF];rfl,by rw [zaa HE,zaa HF];exact (zaa Ja).1,(zaa Ja).2.2⟩
       ·have HF:=hide ((zaa HK).trans (show okK (okT n (deep+1)) (t.kids.drop k) lk=(true,lk) by rw [List.drop_of_length_le (by omega)];rfl))
        have Oa:¬ (k:Int)<(t.kids.length:Int):=by omega
        have HR:=hide (And.intro rg (And.intro rb rf))
        clear rg rb rf he HQ u1 u4 HK
        go_wp2_with fail
        go_ret
        exact⟨by rw [zaa HE,zaa HF];rfl,by rw [zaa HE,zaa HF];exact (zaa HR).1,(zaa HR).2.2⟩
    ·have HE:=hide (Ba (fun h=>z3 h.2.2.2.1))
     have H1:=hide z1
     have H3:=hide z3
     clear Ba Aa z0 z1 z3 hc Ia
     generalize t.text.length=nT at *
     subst z2
     go_enter Tryz.func37,Tryz.ntmps37
     go_wp2_with fail
     refine (zbM _ _ t.name (hb.keep (zaa Da)) (zaa H1)).mono ?_
     rintro e w1 ⟨rfl,rfl⟩
     go_wp2_with fail
     refine (zvN _ _ t.attrs (hd.keep (zaa Da)) (zaa H3)).mono ?_
     rintro e w1 ⟨rfl,Ca⟩
     go_wp2_with fail
     go_ret
     exact⟨by rw [zaa HE];rfl,by rw [zaa HE];exact (zaa HP).1.all Ca,(zaa HP).2.2.trans (Frm.ofBelow Ca [g])⟩
   ·have HE:=hide (Ba (fun h=>z2 h.2.2.1))
    have H1:=hide z1
    clear Ba Aa z0 z1 hc Ia
    generalize t.text.length=nT at *
    have fa:0<nT:=by omega
    have La:decide (0<nT)=true:=by simp;omega
    clear z2
    go_enter Tryz.func37,Tryz.ntmps37
    go_wp2_with fail
    refine (zbM _ _ t.name (hb.keep (zaa Da)) (zaa H1)).mono ?_
    rintro e w1 ⟨rfl,rfl⟩
    go_wp2_with fail
    go_ret
    exact⟨by rw [zaa HE];rfl,by rw [zaa HE];exact (zaa HP).1,(zaa HP).2.2⟩
  ·have HE:=hide (Ba (fun h=>z1 h.2.1))
   have H1:=hide z1
   clear Ba Aa z0 z1
   go_enter Tryz.func37,Tryz.ntmps37
   go_wp2_with fail
   refine (zpG _ _ t.name (hb.keep (zaa Da)) (zaa H1)).mono ?_
   rintro e w1 ⟨rfl,rfl⟩
   go_wp2_with fail
   go_ret
   exact⟨by rw [zaa HE];rfl,by rw [zaa HE];exact (zaa HP).1,(zaa HP).2.2⟩
 ·have dz:(t.kind != 0)=true:=by simp [z0]
  have HE:=hide (Ba (fun h=>z0 h.1))
  clear Ba Aa z0
  go_enter Tryz.func37,Tryz.ntmps37
  go_wp2_with fail
  go_ret
  exact⟨by rw [zaa HE];rfl,by rw [zaa HE];exact (zaa HP).1,(zaa HP).2.2⟩
theorem zsU (n:Nat):zgJ n:=by
 induction n with
 | zero=>exact fun _ _ _ _ _ _ _ t=>t.elim
 | succ n ih=>exact zqy n ih
def okN (n:Nat) (t:Tr (n+1)):Bool:=decide (t.kind=0) && (okT (n+1) 1 t 120).1
set_option maxHeartbeats 1600000 in
theorem zne (n:Nat) (w:Xk) (a b c d e:Xl) (t:Tr (n+1)) (h:RdNode (n+1) w [a,b,c,d,e] t) :
  Calls Tryz.prog 16 #[.agg #[a,b,c,d,e]] w fun e w'=>e=.returned (.bool (okN n t))∧Below w.heap.size w w':=by
 have h':=h
 obtain⟨_,_,_,_,e0,k1,k2,hb,hc,hd,he⟩:=h
 simp only [List.cons.injEq,and_true]at e0
 obtain⟨rfl,rfl,rfl,rfl,rfl⟩:=e0
 obtain⟨ab,cb,rfl,_,_⟩:=hb.shape
 obtain⟨ac,cc,rfl,_,_⟩:=hc.shape
 obtain⟨ad,cd,rfl,_,_⟩:=Elems.shape hd
 obtain⟨ae,ce,rfl,_,_⟩:=Elems.shape he
 have hA:Below w.heap.size w ((w.alloc (.cells #[.int .i64 t.kind,.slice ab t.name.length cb,.slice ac t.text.length cc,.slice ad t.attrs.length cd,.slice ae t.kids.length ce] 29)).alloc (.cells #[.int .i64 120] 3)):=((Below.refl _ _).alloc (Nat.le_refl _) _).alloc (by simp) _
 have lg:=Loc.made (w.alloc (.cells #[.int .i64 t.kind,.slice ab t.name.length cb,.slice ac t.text.length cc,.slice ad t.attrs.length cd,.slice ae t.kids.length ce] 29)) #[.int .i64 120] 3
 simp only [World.size_alloc]at lg
 by_cases hk:t.kind=0
 ·have dk:(t.kind == 0)=true:=by simp [hk]
  have HE:=hide (show okN n t=(okT (n+1) 1 t 120).1 by unfold okN;simp [hk])
  have HP:=hide (And.intro hA lg)
  clear hA lg hk
  go_enter Tryz.func16,Tryz.ntmps16
  go_wp2_with fail
  refine (zsU (n+1) w _ _ _ _ _ _ t 1 120 (w.heap.size+1) h' (zaa HP).1 (by omega) (zaa HP).2 (by omega) (by omega) (by omega) (by omega)).mono ?_
  rintro e w1 ⟨rfl,Ba,Aa⟩
  have HB:=hide ((zaa HP).1.trans (Aa.below (zaa HP).1.size (fun q hq=>by simp at hq;omega)))
  clear Ba Aa
  go_wp2_with fail
  go_ret
  exact⟨by rw [zaa HE];rfl,zaa HB⟩
 ·have dk:(t.kind == 0)=false:=by simpa using hk
  have HE:=hide (show okN n t=false by unfold okN;simp [hk])
  have HP:=hide hA
  clear hA lg hk
  go_enter Tryz.func16,Tryz.ntmps16
  go_wp2_with fail
  go_ret
  exact⟨by rw [zaa HE];rfl,zaa HP⟩
theorem two (w:Xk) (A Z:Array Xl) (TA T:Xm):Loc ((w.alloc (.cells A TA)).alloc (.cells Z T)) w.heap.size A TA∧Loc ((w.alloc (.cells A TA)).alloc (.cells Z T)) (w.heap.size+1) Z T∧Below w.heap.size w ((w.alloc (.cells A TA)).alloc (.cells Z T)):=by
 refine⟨(Loc.made w A TA).alloc _,?_,((Below.refl _ _).alloc (Nat.le_refl _) _).alloc (by simp) _⟩
 have:=Loc.made (w.alloc (.cells A TA)) Z T
 simp only [World.size_alloc]at this
 exact this
theorem Elems.at {α:Type} {w:Xk} {size m:Nat} {a:Xi} {cap k:Nat} {l:List α} {R:Xj->α->Prop} (h:Elems w size (.slice a m cap) l R) (hk:k<l.length) :
  ∃b off,a=some ⟨b,off,none⟩∧b<w.heap.size∧m=l.length∧m<=cap∧∃C:Xj,C.length=size∧(∀j,j<size->w.cell? ⟨b,off+k*size+j,none⟩=C[j]?)∧R C l[k]:=by
 obtain⟨_,⟨_,e⟩ | ⟨_,_,_,_,e⟩ | ⟨b,off,c,e,g1,g2,g3,g4,g5⟩⟩:=h
 ·subst e;simp at hk
 ·subst e;simp at hk
 ·injection e with e1 e2 e3
  subst e1 e2 e3
  exact⟨b,off,rfl,g4,rfl,g1,g5 k hk⟩
theorem Loc.five {w:Xk} {g:Nat} {a b c d e:Xl} {T:Xm} (h:Loc w g #[a,b,c,d,e] T) :
  w.cell? ⟨g,0,none⟩=some a∧w.cell? ⟨g,1,none⟩=some b∧w.cell? ⟨g,2,none⟩=some c∧w.cell? ⟨g,3,none⟩=some d∧w.cell? ⟨g,4,none⟩=some e:=
 ⟨h.cell 0,h.cell 1,h.cell 2,h.cell 3,h.cell 4⟩
def zcY (x:Xg×Xg):Xg:=[32]++x.1++[61,34]++say true x.2++[34]
def zav (l:List (Xg×Xg)):Xg:=(l.map zcY).flatten
def mkup:(n:Nat)->Tr n->Xg
 | 0=>fun _=>[]
 | n+1=>fun t=>if t.kind=1 then say false t.text else [60]++t.name++zav t.attrs++[62]++(if zba t.name=true then [] else (t.kids.map (mkup n)).flatten++[60,47]++t.name++[62])
theorem zhu (n:Nat) (t:Tr (n+1)):mkup (n+1) t=if t.kind=1 then say false t.text else [60]++t.name++zav t.attrs++[62]++(if zba t.name=true then [] else (t.kids.map (mkup n)).flatten++[60,47]++t.name++[62]):=rfl
theorem zeO {α β:Type} (f:α->List β) (l:List α) (j:Nat) (h:j<l.length):((l.take (j+1)).map f).flatten=((l.take j).map f).flatten++f l[j]:=by
 rw [List.take_succ_eq_append_getElem h,List.map_append,List.flatten_append]
 simp
theorem zgE {α β:Type} (f:α->List β) (l:List α) (j:Nat):((l.take j).map f).flatten.length<=(l.map f).flatten.length:=by
 have:(l.map f).flatten=((l.take j).map f).flatten++((l.drop j).map f).flatten:=by rw [<-List.flatten_append,<-List.map_append,List.take_append_drop]
 rw [this,List.length_append]
 omega
def zpc (n:Nat):Prop:=∀(w0 w:Xk) (B:Nat) (v:Xl) (l:Xg) (a b c d e:Xl) (t:Tr n),RdNode n w0 [a,b,c,d,e] t->Below w0.heap.size w0 w->w0.heap.size<=B->B<=w.heap.size->Own w B v l->l.length+(mkup n t).length<=100000000->
  Calls Tryz.prog 38 #[v,.agg #[a,b,c,d,e]] w fun e w'=>∃v',e=.returned v'∧Own w' B v' (l++mkup n t)∧Frp (MtB B) w w'
theorem zaD (B g:Nat) (cs:Array Xl):¬ MtB B g (.cells cs 29 (0,0)):=by
 rintro⟨_,Aa,h⟩
 injection h with _ h2
 revert h2
 decide
theorem zzx:okB [60]:=fun x hx=>by simp at hx;omega
theorem zvd:okB [61,34]:=fun x hx=>by simp at hx;omega
theorem zmk:okB [60,47]:=fun x hx=>by simp at hx;omega
theorem zxV {w:Xk} {B K:Nat} {v:Xl} {l:Xg} {x:Xl} (ho:Own w B v l) (h2:2<=l.length) (hK:Loc w K #[x] 5):v.ownBlock≠some K:=by
 intro e
 rcases ho.2.2 with ⟨rfl,_⟩ | ⟨g,Ba,Aa,rfl,_,hg,h3,_,h5,_⟩
 ·cases e
 ·cases e
  unfold Loc at hK
  rw [hK]at hg
  injection hg with hg
  injection hg with hg
  subst hg
  simp at h5
  omega
theorem zir {w w':Xk} {K:Nat} {row:Option Nat} {cs:Array Xl} {T:Xm} (hK:Loc w K cs T) (hg:w.grownBy w' row) (hn:row≠some K):Loc w' K cs T:=by
 unfold Loc at hK ⊢
 rw [hg.block K (Array.getElem?_eq_some_iff.1 hK).1 (fun e=>hn e.symm)]
 exact hK
theorem zrQ {w:Xk} {B:Nat} {v:Xl} {l:Xg} (ho:Own w B v l):v.ownBlock≠some w.heap.size:=fun e=>by
 have:=(ho.2.lt _ e).2
 omega
theorem zyX {w:Xk} {K:Nat} {x:Int} (hK:Loc w K #[.int .u8 x] 5) (h0:0<=x) (h1:x<=255):Byt w (.slice (some ⟨K,0,none⟩) 1 1) [x]:=by
 refine⟨fun y hy=>by simp at hy;omega,by simp [maxLen],.inr (.inr ⟨K,0,1,rfl,by simp,by simp [maxLen],by simp,hK.lt,fun i hi=> ?_⟩)⟩
 have e:i=0:=by simpa using hi
 subst e
 exact hK.cell 0
set_option maxHeartbeats 6400000 in
theorem zyv (n:Nat) (H:zpc n):zpc (n+1):=by
 intro w0 w B v l a b c d e t Ab hW h0 hB ho Ca
 obtain⟨_,_,_,_,e0,k1,k2,hb,hc,hd,he⟩:=Ab
 simp only [List.cons.injEq,and_true]at e0
 obtain⟨rfl,rfl,rfl,rfl,rfl⟩:=e0
 obtain⟨ab,cb,rfl,_,_⟩:=hb.shape
 obtain⟨ac,cc,rfl,_,_⟩:=hc.shape
 obtain⟨ad,cd,rfl,_,_⟩:=Elems.shape hd
 obtain⟨ae,ce,rfl,_,_⟩:=Elems.shape he
 obtain⟨av,cv,rfl,_,_⟩:=ho.byt.shape
 have Sa:Below w.heap.size w (w.alloc (.cells #[.int .i64 t.kind,.slice ab t.name.length cb,.slice ac t.text.length cc,.slice ad t.attrs.length cd,.slice ae t.kids.length ce] 29)):=(Below.refl _ _).alloc (Nat.le_refl _) _
 have l1:=Loc.made w #[.int .i64 t.kind,.slice ab t.name.length cb,.slice ac t.text.length cc,.slice ad t.attrs.length cd,.slice ae t.kids.length ce] 29
 have F1:Frp (MtB B) w _:=Frp.ofBelow Sa (MtB B)
 have Ya:=ho.keep Sa
 have ca:=hW.trans (Sa.mono hW.size)
 have Ba:B<=(w.alloc (.cells #[.int .i64 t.kind,.slice ab t.name.length cb,.slice ac t.text.length cc,.slice ad t.attrs.length cd,.slice ae t.kids.length ce] 29)).heap.size:=Nat.le_trans hB Sa.size
 have Oa:=zhu n t
 by_cases hz:t.kind=1
 ·have dz:(t.kind == 1)=true:=by simpa using hz
  rw [if_pos hz]at Oa
  rw [Oa]at Ca ⊢
  clear hz Oa
  go_enter Tryz.func38,Tryz.ntmps38
  go_wp2_with fail
  refine (zpu w0 _ B _ _ l t.text false Ba Ya hc ca h0 Ca).mono ?_
  rintro e w2 ⟨v2,rfl,Pa,F2⟩
  obtain⟨a2,c2,wa,_,_⟩:=Pa.byt.shape
  subst wa
  generalize (l++say false t.text).length=n2 at *
  go_wp2_with fail
  go_ret
  exact⟨_,rfl,Pa,F1.trans F2⟩
 ·have dz:(t.kind == 1)=false:=by simpa using hz
  rw [if_neg hz]at Oa
  rw [Oa]at Ca ⊢
  obtain⟨G,hG⟩:∃G,G=l++([60]++t.name++zav t.attrs++[62]++(if zba t.name=true then [] else (t.kids.map (mkup n)).flatten++[60,47]++t.name++[62])):=⟨_,rfl⟩
  rw [<-hG]
  have HG:=hide hG
  clear hz Oa hG
  obtain⟨x0,x1,x2,x3,x4⟩:=l1.five
  go_enter Tryz.func38,Tryz.ntmps38
  go_wp2_with fail
  generalize (w.alloc (.cells #[.int .i64 t.kind,.slice ab t.name.length cb,.slice ac t.text.length cc,.slice ad t.attrs.length cd,.slice ae t.kids.length ce] 29))=w1 at *
  generalize hS:w.heap.size=S at *
  have Eb:l.length+1+t.name.length<=100000000:=by simp only [List.length_append,List.length_cons,List.length_nil]at Ca;omega
  have z1:(w1.alloc (.cells #[.int .u8 60] 5)).drew.cell? ⟨S,1,none⟩=some (.slice ab t.name.length cb):=(l1.alloc _).cell 1
  go_region_held3 (fun w'=>w'.cell? ⟨S,1,none⟩=some (.slice ab t.name.length cb))
   (first | assumption | simp [*])
   (first
    | (refine zcv rfl (.tmp 14) (.tmp 15) rfl B _ l (by rfl) (Ya.alloc _) _ [60] (by rfl) (zbC w1 60 (by omega) (by omega)) (by simp;omega) (by simp;omega) ?_;intro v5 w5 Da Na;have F5:Frp (MtB B) w1 w5:=(Frp.ofBelow (((Below.refl w1.heap.size w1).alloc (Nat.le_refl _) _).drew) _).trans (Frp.ofAppend (Ya.alloc _) Na);obtain⟨x0,x1,x2,x3,x4⟩:=(l1.frp F5 (zaD _ _ _)).five)
    | (refine zcv rfl (.tmp 16) (.tmp 18) rfl B _ (l++[60]) (by rfl) Da _ t.name (by rfl) (hb.keep (ca.trans ((F5.toBelow Ba).mono h0))) (by simp;omega) (Nat.le_trans Ba F5.size) ?_;intro v6 w6 Ja Ia;have F6:Frp (MtB B) w1 w6:=F5.trans (Frp.ofAppend Da Ia);obtain⟨x0,x1,x2,x3,x4⟩:=(l1.frp F6 (zaD _ _ _)).five))
  have HW:=hide (fun (W:Xk) (F:Frp (MtB B) w1 W)=>ca.trans ((F.toBelow Ba).mono h0))
  have Db:(t.attrs.length:Int)<=9223372036854775807:=by have:=hd.1;unfold maxLen at this;omega
  have Ib:(t.kids.length:Int)<=9223372036854775807:=by have:=he.1;unfold maxLen at this;omega
  obtain⟨A0,Va⟩:∃A0,A0=l++[60]++t.name:=⟨_,rfl⟩
  rw [<-Va]at Ja
  have Fb:A0.length+(zav t.attrs).length+1<=100000000:=by
   simp only [List.length_append,List.length_cons,List.length_nil]at Ca
   rw [Va];simp only [List.length_append,List.length_cons,List.length_nil];omega
  clear Na Ia Da z1 F5 x0 x1 x2 x3 x4 Ya ho
  go_wp2_with fail
  go_loopw [0,5] (fun b i wr=>∃j:Nat,j<=t.attrs.length∧i=.int .i64 j∧Own wr B b (A0++zav (t.attrs.take j))∧Frp (MtB B) w1 wr) (fun _ i _=>t.attrs.length-(intOf i).toNat)
  case atStart=>exact⟨0,Nat.zero_le _,rfl,by simpa [zav]using Ja,F6⟩
  case round=>
   obtain⟨j,hj,rfl,hr,hf⟩:=hrel
   have Za:B<=wr.heap.size:=Nat.le_trans Ba hf.size
   by_cases hjl:j<t.attrs.length
   ·have La:zav (t.attrs.take (j+1))=zav (t.attrs.take j)++zcY t.attrs[j]:=zeO zcY t.attrs j hjl
    have Ma:(zav (t.attrs.take (j+1))).length<=(zav t.attrs).length:=zgE zcY t.attrs (j+1)
    obtain⟨pb,Aa,rfl,Fa,ha,_,C,hC,Ga,ja⟩:=hd.at hjl
    clear ha
    obtain⟨x,hx⟩:∃x,x=t.attrs[j]:=⟨_,rfl⟩
    rw [<-hx]at ja La
    obtain⟨y0,y1,rfl,pa,ia⟩:=ja
    have q0:=Ga 0 (by omega)
    have q1:=Ga 1 (by omega)
    simp only [List.getElem?_cons_zero,List.getElem?_cons_succ,Nat.add_zero]at q0 q1
    obtain⟨s0,g0,rfl,_,_⟩:=pa.shape
    obtain⟨s1,g1,rfl,_,_⟩:=ia.shape
    obtain⟨L,hL⟩:∃L,L=A0++zav (t.attrs.take j):=⟨_,rfl⟩
    have HL:=hide (show A0++zav (t.attrs.take (j+1))=L++[32]++x.1++[61,34]++say true x.2++[34] by rw [La,hL];simp [zcY])
    have Bb:L.length+4+x.1.length+(say true x.2).length<=100000000:=by
     rw [La]at Ma
     rw [hL]
     simp only [List.length_append,zcY,List.length_cons,List.length_nil]at Ma ⊢
     omega
    rw [<-hL]at hr
    have HR:=hide hr
    have da:(j:Int)<(t.attrs.length:Int):=by omega
    have Gb:(0:Int)<=(j:Int):=by omega
    have c3:wr.cell? ⟨S,3,none⟩=some (.slice (some ⟨pb,Aa,none⟩) t.attrs.length cd):=(l1.frp hf (zaD _ _ _)).cell 3
    have u0:wr.cell? ⟨pb,Aa+j*2,none⟩=some (.slice s0 x.1.length g0):=((zaa HW wr hf).cell (p:=⟨pb,Aa+j*2,none⟩) Fa).trans q0
    have ba:Below wr.heap.size wr (wr.alloc (.cells #[.int .u8 32] 5)).drew:=((Below.refl _ _).alloc (Nat.le_refl _) _).drew
    have Fz:=hf.trans (Frp.ofBelow ba _)
    have z3:(wr.alloc (.cells #[.int .u8 32] 5)).drew.cell? ⟨S,3,none⟩=some (.slice (some ⟨pb,Aa,none⟩) t.attrs.length cd):=(l1.frp Fz (zaD _ _ _)).cell 3
    have z0:(wr.alloc (.cells #[.int .u8 32] 5)).drew.cell? ⟨pb,Aa+j*2,none⟩=some (.slice s0 x.1.length g0):=((zaa HW _ Fz).cell (p:=⟨pb,Aa+j*2,none⟩) Fa).trans q0
    clear hr La Ma hx hL Ga
    go_wp2_with fail
    go_region_held3 (fun w'=>w'.cell? ⟨S,3,none⟩=some (.slice (some ⟨pb,Aa,none⟩) t.attrs.length cd)∧w'.cell? ⟨pb,Aa+j*2,none⟩=some (.slice s0 x.1.length g0))
     (first | exact⟨by assumption,by assumption⟩ | simp [*])
     (first
      | (refine zcv rfl (.tmp 27) (.tmp 28) rfl B _ L (by rfl) ((zaa HR).alloc _) _ [32] (by rfl) (zbC wr 32 (by omega) (by omega)) (by simp;omega) (by simp;omega) ?_;intro v2 w2 Pa sa;have F2:Frp (MtB B) w1 w2:=Fz.trans (Frp.ofAppend ((zaa HR).alloc _) sa);have c3:w2.cell? ⟨S,3,none⟩=some (.slice (some ⟨pb,Aa,none⟩) t.attrs.length cd):=(l1.frp F2 (zaD _ _ _)).cell 3;have u0:w2.cell? ⟨pb,Aa+j*2,none⟩=some (.slice s0 x.1.length g0):=((zaa HW _ F2).cell (p:=⟨pb,Aa+j*2,none⟩) Fa).trans q0)
      | (refine zcv rfl (.tmp 29) (.tmp 35) rfl B _ (L++[32]) (by rfl) Pa _ x.1 (by rfl) (pa.keep (zaa HW _ F2)) (by simp;omega) (Nat.le_trans Ba F2.size) ?_;intro v3 w3 fa ma;have F3:Frp (MtB B) w1 w3:=F2.trans (Frp.ofAppend Pa ma);have c3:w3.cell? ⟨S,3,none⟩=some (.slice (some ⟨pb,Aa,none⟩) t.attrs.length cd):=(l1.frp F3 (zaD _ _ _)).cell 3;have u0:w3.cell? ⟨pb,Aa+j*2,none⟩=some (.slice s0 x.1.length g0):=((zaa HW _ F3).cell (p:=⟨pb,Aa+j*2,none⟩) Fa).trans q0)
      | (refine zhU rfl (.tmp 36) (.const (.string ⟨#[61,34]⟩)) rfl B _ (L++[32]++x.1) (by rfl) fa ⟨#[61,34]⟩ [61,34] (by rfl) rfl zvd (by simp;omega) (Nat.le_trans Ba F3.size) ?_;intro v4 w4 ga ra;have F4:Frp (MtB B) w1 w4:=F3.trans (Frp.ofAppend fa ra);have c3:w4.cell? ⟨S,3,none⟩=some (.slice (some ⟨pb,Aa,none⟩) t.attrs.length cd):=(l1.frp F4 (zaD _ _ _)).cell 3;have u0:w4.cell? ⟨pb,Aa+j*2,none⟩=some (.slice s0 x.1.length g0):=((zaa HW _ F4).cell (p:=⟨pb,Aa+j*2,none⟩) Fa).trans q0))
    have u1:w4.cell? ⟨pb,Aa+j*2+1,none⟩=some (.slice s1 x.2.length g1):=((zaa HW _ F4).cell (p:=⟨pb,Aa+j*2+1,none⟩) Fa).trans q1
    obtain⟨L4,aa⟩:∃L4,L4=L++[32]++x.1++[61,34]:=⟨_,rfl⟩
    have Kb:L4.length+(say true x.2).length+1<=100000000:=by rw [aa];simp only [List.length_append,List.length_cons,List.length_nil];omega
    rw [<-aa]at ga HL
    have va:=hide ga
    clear Pa fa ga sa ma ra aa z3 z0 Bb
    go_wp2_with fail
    refine (zpu w0 _ B _ _ L4 x.2 true (Nat.le_trans Ba F4.size) (zaa va) ia (zaa HW _ F4) h0 (by omega)).mono ?_
    rintro e w5 ⟨v5,rfl,Da,F5⟩
    have la:=F4.trans F5
    have ya:B<=w5.heap.size:=Nat.le_trans Ba la.size
    have ka:=hide Da
    have Lb:(L4++say true x.2).length+1<=100000000:=by rw [List.length_append];omega
    generalize L4++say true x.2=L5 at *
    clear Da c3 u0 u1
    go_wp2_with (at_builtin;(refine zaR rfl _ _ rfl B _ L5 rfl ((zaa ka).alloc _) _ [34] rfl (zbC w5 34 (by omega) (by omega)) (by first | omega | (simp;omega)) (by first | exact ya | (simp;omega)) ?_))
    intro v7 w7 Ha Ka
    have F7:Frp (MtB B) w1 w7:=(la.trans (Frp.ofBelow ((Below.refl _ _).alloc (Nat.le_refl _) _) _)).trans (Frp.ofAppend ((zaa ka).alloc _) Ka)
    have HO:=hide (show Own w7 B v7 (A0++zav (t.attrs.take (j+1))) by rw [zaa HL];exact Ha)
    clear Ha Ka
    go_wp2_with fail
    go_roundw
    case rel=>exact⟨j+1,by omega,by go_num,zaa HO,F7⟩
    case measure=>simp [intOf];omega
   ·have ea:j=t.attrs.length:=by omega
    subst ea
    rw [List.take_length]at hr
    have c3:wr.cell? ⟨S,3,none⟩=some (.slice ad t.attrs.length cd):=(l1.frp hf (zaD _ _ _)).cell 3
    obtain⟨A1,Xa⟩:∃A1,A1=A0++zav t.attrs:=⟨_,rfl⟩
    rw [<-Xa]at hr
    have Hb:A1.length+1<=100000000:=by rw [Xa,List.length_append];omega
    have HR:=hide hr
    have HA:=hide (show l++[60]++t.name++zav t.attrs++[62]=A1++[62] by rw [Xa,Va])
    clear hr hd Xa Va
    go_wp2_with (at_builtin;(refine zaR rfl _ _ rfl B _ A1 rfl ((zaa HR).alloc _) _ [62] rfl (zbC wr 62 (by omega) (by omega)) (by first | omega | (simp;omega)) (by first | exact Za | (simp;omega)) ?_))
    intro v7 w7 Ha Ka
    have F7:Frp (MtB B) w1 w7:=(hf.trans (Frp.ofBelow ((Below.refl _ _).alloc (Nat.le_refl _) _) _)).trans (Frp.ofAppend ((zaa HR).alloc _) Ka)
    obtain⟨A2,Ua⟩:∃A2,A2=A1++[62]:=⟨_,rfl⟩
    rw [<-Ua]at Ha
    have eA:l++[60]++t.name++zav t.attrs++[62]=A2:=(zaa HA).trans Ua.symm
    obtain⟨x0,x1,x2,x3,x4⟩:=(l1.frp F7 (zaD _ _ _)).five
    have Wa:=hide Ha
    clear Ka Ha c3
    by_cases hv:zba t.name=true
    ·have HE:=hide (show l++([60]++t.name++zav t.attrs++[62]++(if zba t.name=true then [] else (t.kids.map (mkup n)).flatten++[60,47]++t.name++[62]))=A2 by rw [if_pos hv,<-eA];simp)
     have HV:=hide ((zcG _).1 hv)
     have Ra:=hide ((zaa HG).trans (zaa HE))
     clear hv Ua eA Ca HE HA HG
     go_wp2_with fail
     refine (zhs _ _ t.name (hb.keep (zaa HW _ F7)) (zaa HV)).mono ?_
     rintro e w8 ⟨rfl,rfl⟩
     obtain⟨a8,c8,xa,_,_⟩:=(zaa Wa).byt.shape
     subst xa
     go_wp2_with fail
     go_ret
     exact⟨_,rfl,by rw [zaa Ra];exact zaa Wa,F1.trans F7⟩
    ·have HE:=hide (show l++([60]++t.name++zav t.attrs++[62]++(if zba t.name=true then [] else (t.kids.map (mkup n)).flatten++[60,47]++t.name++[62]))=A2++(t.kids.map (mkup n)).flatten++[60,47]++t.name++[62] by rw [if_neg hv,<-eA];simp)
     have HV:=hide (fun h=>hv ((zcG _).2 h))
     have Ra:=hide ((zaa HG).trans (zaa HE))
     have Jb:A2.length+(t.kids.map (mkup n)).flatten.length+3+t.name.length<=100000000:=by
      rw [if_neg hv]at Ca
      rw [<-eA]
      simp only [List.length_append,List.length_cons,List.length_nil]at Ca ⊢
      omega
     clear hv Ua eA Ca HE HA HG
     go_wp2_with fail
     refine (zpk _ _ t.name (hb.keep (zaa HW _ F7)) (zaa HV)).mono ?_
     rintro e w8 ⟨rfl,rfl⟩
     go_wp2_with fail
     go_loopw [0,6] (fun b i wr=>∃j:Nat,j<=t.kids.length∧i=.int .i64 j∧Own wr B b (A2++((t.kids.take j).map (mkup n)).flatten)∧Frp (MtB B) w1 wr) (fun _ i _=>t.kids.length-(intOf i).toNat)
     case atStart=>exact⟨0,Nat.zero_le _,rfl,by simpa using (zaa Wa),F7⟩
     case round=>
      clear x0 x1 x2 x3 x4 Wa F7 hf HR
      obtain⟨j,hj,rfl,hr,hf⟩:=hrel
      have Za:B<=wr.heap.size:=Nat.le_trans Ba hf.size
      by_cases hjl:j<t.kids.length
      ·have La:=zeO (mkup n) t.kids j hjl
       have Ma:=zgE (mkup n) t.kids (j+1)
       obtain⟨pb,Aa,rfl,Fa,ha,_,hC⟩:=he.at hjl
       clear ha
       obtain⟨c0,c1,c2,c3,c4,e0,e1,e2,e3,e4,hx⟩:=zlK hC
       have Qa:=zaa HW wr hf
       replace e0:=(Qa.cell (p:=⟨pb,Aa+j*5,none⟩) Fa).trans e0
       replace e1:=(Qa.cell (p:=⟨pb,Aa+j*5+1,none⟩) Fa).trans e1
       replace e2:=(Qa.cell (p:=⟨pb,Aa+j*5+2,none⟩) Fa).trans e2
       replace e3:=(Qa.cell (p:=⟨pb,Aa+j*5+3,none⟩) Fa).trans e3
       replace e4:=(Qa.cell (p:=⟨pb,Aa+j*5+4,none⟩) Fa).trans e4
       have x4:wr.cell? ⟨S,4,none⟩=some (.slice (some ⟨pb,Aa,none⟩) t.kids.length ce):=(l1.frp hf (zaD _ _ _)).cell 4
       have da:(j:Int)<(t.kids.length:Int):=by omega
       have na:(A2++((t.kids.take j).map (mkup n)).flatten).length+(mkup n t.kids[j]).length<=100000000:=by
        rw [La]at Ma
        simp only [List.length_append]at Ma ⊢
        omega
       have Cb:=hide (show A2++((t.kids.take (j+1)).map (mkup n)).flatten=A2++((t.kids.take j).map (mkup n)).flatten++mkup n t.kids[j] by rw [La,List.append_assoc])
       generalize A2++((t.kids.take j).map (mkup n)).flatten=L at *
       have HR:=hide hr
       clear hr La Ma hC
       go_wp2_with fail
       refine (H w0 wr B _ L c0 c1 c2 c3 c4 t.kids[j] hx Qa h0 Za (zaa HR) na).mono ?_
       rintro e w9 ⟨v9,rfl,qa,F9⟩
       have ua:=hf.trans F9
       have HO:=hide (show Own w9 B v9 (A2++((t.kids.take (j+1)).map (mkup n)).flatten) by rw [zaa Cb];exact qa)
       clear qa e0 e1 e2 e3 e4 x4
       go_wp2_with fail
       go_roundw
       case rel=>exact⟨j+1,by omega,by go_num,zaa HO,ua⟩
       case measure=>simp [intOf];omega
      ·have ea:j=t.kids.length:=by omega
       subst ea
       rw [List.take_length]at hr
       have x4:wr.cell? ⟨S,4,none⟩=some (.slice ae t.kids.length ce):=(l1.frp hf (zaD _ _ _)).cell 4
       have x1:wr.cell? ⟨S,1,none⟩=some (.slice ab t.name.length cb):=(l1.frp hf (zaD _ _ _)).cell 1
       have na:(A2++(t.kids.map (mkup n)).flatten).length+3+t.name.length<=100000000:=by rw [List.length_append];omega
       have oa:=zaa Ra
       clear Ra
       generalize A2++(t.kids.map (mkup n)).flatten=L at *
       have Ra:=hide oa
       clear oa
       have HR:=hide hr
       clear hr he
       go_wp2_with fail
       have Fd:Frp (MtB B) w1 wr.drew:=hf.trans (Frp.ofBelow ((Below.refl _ _).drew) _)
       have xd:wr.drew.cell? ⟨S,1,none⟩=some (.slice ab t.name.length cb):=(l1.frp Fd (zaD _ _ _)).cell 1
       have Fz:Frp (MtB B) w1 (wr.alloc (.cells #[.int .u8 62] 5)).drew:=hf.trans (Frp.ofBelow (((Below.refl _ _).alloc (Nat.le_refl _) _).drew) _)
       have z1:(wr.alloc (.cells #[.int .u8 62] 5)).drew.cell? ⟨S,1,none⟩=some (.slice ab t.name.length cb):=(l1.frp Fz (zaD _ _ _)).cell 1
       have K4:Loc (wr.alloc (.cells #[.int .u8 62] 5)).drew wr.heap.size #[.int .u8 62] 5:=Loc.made wr _ _
       have ta:=zrQ (zaa HR)
       have ba:B<=(wr.alloc (.cells #[.int .u8 62] 5)).drew.heap.size:=Nat.le_trans Ba Fz.size
       go_region_held3 (fun w'=>w'.cell? ⟨S,1,none⟩=some (.slice ab t.name.length cb))
        (first | assumption | simp [*])
        (first
         | (refine zhU rfl (.tmp 69) (.const (.string ⟨#[60,47]⟩)) rfl B _ L (by rfl) (zaa HR) ⟨#[60,47]⟩ [60,47] (by rfl) rfl zmk (by simp;omega) Za ?_;intro v5 w5 Da Na;have F5:Frp (MtB B) w1 w5:=Fd.trans (Frp.ofAppend (show Own wr.drew B _ L from zaa HR) Na);have x1:w5.cell? ⟨S,1,none⟩=some (.slice ab t.name.length cb):=(l1.frp F5 (zaD _ _ _)).cell 1;have Ta:Frp (MtB B) w1 (w5.alloc (.cells #[.int .u8 62] 5)):=F5.trans (Frp.ofBelow (((Below.refl _ _).alloc (Nat.le_refl _) _)) _);have z1:(w5.alloc (.cells #[.int .u8 62] 5)).cell? ⟨S,1,none⟩=some (.slice ab t.name.length cb):=(l1.frp Ta (zaD _ _ _)).cell 1)
         | (refine zhU rfl (.tmp 69) (.const (.string ⟨#[60,47]⟩)) rfl B _ L (by rfl) ((zaa HR).alloc _) ⟨#[60,47]⟩ [60,47] (by rfl) rfl zmk (by simp;omega) ba ?_;intro v5 w5 Da Na;have F5:Frp (MtB B) w1 w5:=Fz.trans (Frp.ofAppend ((zaa HR).alloc _) Na);have x1:w5.cell? ⟨S,1,none⟩=some (.slice ab t.name.length cb):=(l1.frp F5 (zaD _ _ _)).cell 1;have K5:=zir K4 Na ta)
         | (refine zcv rfl (.tmp 70) (.tmp 72) rfl B _ (L++[60,47]) (by rfl) Da _ t.name (by rfl) (hb.keep (zaa HW _ F5)) (by simp;omega) (Nat.le_trans Ba F5.size) ?_;intro v6 w6 Ja Ia;have F6:Frp (MtB B) w1 w6:=F5.trans (Frp.ofAppend Da Ia);have x1:w6.cell? ⟨S,1,none⟩=some (.slice ab t.name.length cb):=(l1.frp F6 (zaD _ _ _)).cell 1;have K6:=zir K5 Ia (zxV Da (by simp) K5))
         | (refine zcv rfl (.tmp 70) (.tmp 72) rfl B _ (L++[60,47]) (by rfl) Da _ t.name (by rfl) (hb.keep (zaa HW _ F5)) (by simp;omega) (Nat.le_trans Ba F5.size) ?_;intro v6 w6 Ja Ia;have F6:Frp (MtB B) w1 w6:=F5.trans (Frp.ofAppend Da Ia);have x1:w6.cell? ⟨S,1,none⟩=some (.slice ab t.name.length cb):=(l1.frp F6 (zaD _ _ _)).cell 1;have z1:(w6.alloc (.cells #[.int .u8 62] 5)).cell? ⟨S,1,none⟩=some (.slice ab t.name.length cb):=((l1.frp F6 (zaD _ _ _)).alloc _).cell 1)
         | (refine zcv rfl (.tmp 70) (.tmp 72) rfl B _ (L++[60,47]) (by rfl) (Da.alloc _) _ t.name (by rfl) (hb.keep (zaa HW _ Ta)) (by simp;omega) (Nat.le_trans Ba Ta.size) ?_;intro v6 w6 Ja Ia;have F6:Frp (MtB B) w1 w6:=Ta.trans (Frp.ofAppend (Da.alloc _) Ia);have x1:w6.cell? ⟨S,1,none⟩=some (.slice ab t.name.length cb):=(l1.frp F6 (zaD _ _ _)).cell 1;have K6:=zir (Loc.made w5 #[.int .u8 62] 5) Ia (zrQ Da))
         | (refine zcv rfl (.tmp 73) (.tmp 74) rfl B _ (L++[60,47]++t.name) (by rfl) Ja _ [62] (by rfl) (zyX K6 (by omega) (by omega)) (by simp;omega) (Nat.le_trans Ba F6.size) ?_;intro v7 w7 Ha Ka;have F7:Frp (MtB B) w1 w7:=F6.trans (Frp.ofAppend Ja Ka);have x1:w7.cell? ⟨S,1,none⟩=some (.slice ab t.name.length cb):=(l1.frp F7 (zaD _ _ _)).cell 1)
         | (refine zcv rfl (.tmp 73) (.tmp 74) rfl B _ (L++[60,47]++t.name) (by rfl) (Ja.alloc _) _ [62] (by rfl) (zbC w6 62 (by omega) (by omega)) (by simp;omega) (by have:=Nat.le_trans Ba F6.size;simp;omega) ?_;intro v7 w7 Ha Ka;have F7:Frp (MtB B) w1 w7:=(F6.trans (Frp.ofBelow (((Below.refl w6.heap.size w6).alloc (Nat.le_refl _) _)) _)).trans (Frp.ofAppend (Ja.alloc _) Ka);have x1:w7.cell? ⟨S,1,none⟩=some (.slice ab t.name.length cb):=(l1.frp F7 (zaD _ _ _)).cell 1))
       all_goals
        rw [<-zaa Ra]at Ha
        obtain⟨a7,c7,za,_,_⟩:=Ha.byt.shape
        subst za
        go_wp2_with fail
        go_ret
        exact⟨_,rfl,Ha,F1.trans F7⟩
theorem zuF:∀n,zpc n
 | 0=>fun w0 w B v l a b c d e t Aa=>absurd Aa (by unfold RdNode;exact id)
 | n+1=>zyv n (zuF n)
theorem zyl:zaL (⟨#[60]⟩,[60]):=⟨rfl,zzx⟩
theorem zxT:zaL (⟨#[32]⟩,[32]):=⟨rfl,fun x hx=>by simp at hx;omega⟩
theorem zyh:zaL (⟨#[34]⟩,[34]):=⟨rfl,fun x hx=>by simp at hx;omega⟩
theorem zrR:zaL (⟨#[62]⟩,[62]):=⟨rfl,fun x hx=>by simp at hx;omega⟩
theorem zxW:zaL (⟨#[61,34]⟩,[61,34]):=⟨rfl,zvd⟩
theorem zww:zaL (⟨#[60,47]⟩,[60,47]):=⟨rfl,zmk⟩
theorem zxU (B g cap:Nat) (w:Xk) (L:Xg) (s1 s2:ByteArray) (m1 m2:Xg) (hw:Wr B w g L) (hB:B<=w.heap.size) (h1:zaL (s1,m1)) (h2:zaL (s2,m2)) (hlen:L.length+m1.length+m2.length<=100000000) :
  Calls Tryz.prog 61 #[.pointer (some ⟨g,0,none⟩),.slice (some ⟨w.heap.size,0,none⟩) 2 cap] (w.alloc (.cells #[.string s1,.string s2] 9)) fun e w'=>e=.returned (.tuple #[])∧Wr B w' g (L++m1++m2)∧Frp (MtW B g) w w':=by
 have hb:Below w.heap.size w (w.alloc (.cells #[.string s1,.string s2] 9)):=(Below.refl _ _).alloc (Nat.le_refl _) _
 have h:=zmo B g w.heap.size cap _ L [(s1,m1),(s2,m2)] (hw.keep hb) (Nat.le_trans hB hb.size) (Loc.made w #[.string s1,.string s2] 9) (zzE h1 h2) (by simp) (by simp;omega)
 refine h.mono ?_
 rintro e w' ⟨rfl,h1,h2⟩
 exact⟨rfl,by simpa using h1,(Frp.ofBelow hb _).trans h2⟩
theorem znn (B g cap:Nat) (w:Xk) (L:Xg) (s1 s2 s3:ByteArray) (m1 m2 m3:Xg) (hw:Wr B w g L) (hB:B<=w.heap.size) (h1:zaL (s1,m1)) (h2:zaL (s2,m2)) (h3:zaL (s3,m3)) (hlen:L.length+m1.length+m2.length+m3.length<=100000000) :
  Calls Tryz.prog 61 #[.pointer (some ⟨g,0,none⟩),.slice (some ⟨w.heap.size,0,none⟩) 3 cap] (w.alloc (.cells #[.string s1,.string s2,.string s3] 9)) fun e w'=>e=.returned (.tuple #[])∧Wr B w' g (L++m1++m2++m3)∧Frp (MtW B g) w w':=by
 have hb:Below w.heap.size w (w.alloc (.cells #[.string s1,.string s2,.string s3] 9)):=(Below.refl _ _).alloc (Nat.le_refl _) _
 have h:=zmo B g w.heap.size cap _ L [(s1,m1),(s2,m2),(s3,m3)] (hw.keep hb) (Nat.le_trans hB hb.size) (Loc.made w #[.string s1,.string s2,.string s3] 9) (zzf h1 h2 h3) (by simp) (by simp;omega)
 refine h.mono ?_
 rintro e w' ⟨rfl,h1,h2⟩
 exact⟨rfl,by simpa using h1,(Frp.ofBelow hb _).trans h2⟩
theorem zdv (B g i:Nat) (cs:Array Xl):¬ MtW B g i (.cells cs 29 (0,0)):=zmn (by decide) (by decide)
theorem zvO (B g i:Nat) (cs:Array Xl):¬ MtW B g i (.cells cs 132 (0,0)):=zmn (by decide) (by decide)
set_option maxHeartbeats 6400000 in
theorem zyd (w0 w:Xk) (B g:Nat) (L:Xg) (kd:Int) (b c d e:Xl) (name text:Xg) (attrs:List (Xg×Xg)) (a5:Xi) (n5 c5:Nat) (hw:Wr B w g L) (hB:B<=w.heap.size) (hb:Byt w0 b name) (hc:Byt w0 c text) (hd:RdAttrs w0 d attrs) (he:e=.slice a5 n5 c5)
  (hW:Below w0.heap.size w0 w) (h0:w0.heap.size<=B) (hg0:w0.heap.size<=g) (hlen:L.length+1+name.length+(zav attrs).length+1<=100000000) :
  Calls Tryz.prog 59 #[.pointer (some ⟨g,0,none⟩),.agg #[.int .i64 kd,b,c,d,e]] w fun e w'=>e=.returned (.tuple #[])∧Wr B w' g (L++[60]++name++zav attrs++[62])∧Frp (MtW B g) w w':=by
 subst he
 obtain⟨ab,cb,rfl,_,_⟩:=hb.shape
 obtain⟨ac,cc,rfl,_,_⟩:=hc.shape
 obtain⟨ad,cd,rfl,_,_⟩:=Elems.shape hd
 have Ga:Below w.heap.size w (w.alloc (.cells #[.int .i64 kd,.slice ab name.length cb,.slice ac text.length cc,.slice ad attrs.length cd,.slice a5 n5 c5] 29)):=(Below.refl _ _).alloc (Nat.le_refl _) _
 have l1:=Loc.made w #[.int .i64 kd,.slice ab name.length cb,.slice ac text.length cc,.slice ad attrs.length cd,.slice a5 n5 c5] 29
 have F1:Frp (MtW B g) w _:=Frp.ofBelow Ga (MtW B g)
 have Xa:=hide (hw.keep Ga)
 have ca:=hW.trans (Ga.mono hW.size)
 have Qa:=Nat.le_trans hB Ga.size
 have v1:=zbc _ _ name (hb.keep ca)
 obtain⟨x0,x1,x2,x3,x4⟩:=l1.five
 have ma:(attrs.length:Int)<=9223372036854775807:=by have:=hd.1;unfold maxLen at this;omega
 have hp:=zxU B g 2 _ L ⟨#[60]⟩ (str name) [60] name (zaa Xa) Qa zyl (zjG hb.1) (by simp;omega)
 simp only [World.size_alloc]at hp
 have HP:=hide hp
 clear hp
 clear hw Xa
 generalize str name=sn at *
 go_enter Tryz.func59,Tryz.ntmps59
 go_wp2_with fail
 refine (zaa HP).mono ?_
 clear HP
 rintro e w2 ⟨rfl,Ia,F2⟩
 have Wa:=F1.trans F2
 have l2:=l1.frp F2 (zdv _ _ _ _)
 clear x0 x1 x2 x3 x4 v1
 have c3:w2.cell? ⟨w.heap.size,3,none⟩=some (.slice ad attrs.length cd):=l2.cell 3
 have oa:B<=w2.heap.size:=Nat.le_trans hB Wa.size
 obtain⟨A0,Ka⟩:∃A0,A0=L++[60]++name:=⟨_,rfl⟩
 rw [<-Ka]at Ia
 have ha:=hide Ka
 have na:A0.length+(zav attrs).length+1<=100000000:=by
  rw [Ka];simp only [List.length_append,List.length_cons,List.length_nil];omega
 have HW:=hide (fun (W:Xk) (F:Frp (MtW B g) w W)=>hW.trans (FrpW.toBelow F hW.size h0 hg0))
 clear Ka l1 l2 F1 F2
 go_wp2_with fail
 go_loopw [15] (fun i wr=>∃j:Nat,j<=attrs.length∧i=.int .i64 j∧Wr B wr g (A0++zav (attrs.take j))∧Frp (MtW B g) w wr) (fun i _=>attrs.length-(intOf i).toNat)
 case atStart=>exact⟨0,Nat.zero_le _,rfl,by simpa [zav]using Ia,Wa⟩
 case round=>
  obtain⟨j,hj,rfl,hr,hf⟩:=hrel
  have Ya:B<=wr.heap.size:=Nat.le_trans hB hf.size
  by_cases hjl:j<attrs.length
  ·have Ja:zav (attrs.take (j+1))=zav (attrs.take j)++zcY attrs[j]:=zeO zcY attrs j hjl
   have Sa:(zav (attrs.take (j+1))).length<=(zav attrs).length:=zgE zcY attrs (j+1)
   obtain⟨pb,Ba,rfl,Ta,la,_,C,hC,Aa,Va⟩:=hd.at hjl
   clear la
   obtain⟨x,hx⟩:∃x,x=attrs[j]:=⟨_,rfl⟩
   rw [<-hx]at Va Ja
   obtain⟨y0,y1,rfl,Oa,Ua⟩:=Va
   have q0:=Aa 0 (by omega)
   have q1:=Aa 1 (by omega)
   simp only [List.getElem?_cons_zero,List.getElem?_cons_succ,Nat.add_zero]at q0 q1
   obtain⟨s0,g0,rfl,_,_⟩:=Oa.shape
   obtain⟨s1,g1,rfl,_,_⟩:=Ua.shape
   obtain⟨M,hM⟩:∃M,M=A0++zav (attrs.take j):=⟨_,rfl⟩
   have HL:=hide (show A0++zav (attrs.take (j+1))=M++[32]++x.1++[61,34]++say true x.2++[34] by rw [Ja,hM];simp [zcY])
   have ja:M.length+4+x.1.length+(say true x.2).length<=100000000:=by
    rw [Ja]at Sa
    rw [hM]
    simp only [List.length_append,zcY,List.length_cons,List.length_nil]at Sa ⊢
    omega
   rw [<-hM]at hr
   have fa:(j:Int)<(attrs.length:Int):=by omega
   have Za:=zaa HW wr hf
   have u0:wr.cell? ⟨pb,Ba+j*2,none⟩=some (.slice s0 x.1.length g0):=(Za.cell (p:=⟨pb,Ba+j*2,none⟩) Ta).trans q0
   have u1:wr.cell? ⟨pb,Ba+j*2+1,none⟩=some (.slice s1 x.2.length g1):=(Za.cell (p:=⟨pb,Ba+j*2+1,none⟩) Ta).trans q1
   have Ha:Below wr.heap.size wr (wr.alloc (.cells #[.slice s0 x.1.length g0,.slice s1 x.2.length g1] 132)):=(Below.refl _ _).alloc (Nat.le_refl _) _
   have a1:=Loc.made wr #[.slice s0 x.1.length g0,.slice s1 x.2.length g1] 132
   have Fa:=hf.trans (Frp.ofBelow Ha (MtW B g))
   have vx:=zbc _ _ x.1 (Oa.keep (zaa HW _ Fa))
   have b0:(wr.alloc (.cells #[.slice s0 x.1.length g0,.slice s1 x.2.length g1] 132)).cell? ⟨wr.heap.size,0,none⟩=some (.slice s0 x.1.length g0):=a1.cell 0
   have hp:=znn B g 3 _ M ⟨#[32]⟩ (str x.1) ⟨#[61,34]⟩ [32] x.1 [61,34] (hr.keep Ha) (Nat.le_trans Ya Ha.size) zxT (zjG Oa.1) zxW (by simp;omega)
   simp only [World.size_alloc]at hp
   have HP:=hide hp
   clear hp
   generalize str x.1=sx at *
   clear hr Ja Sa hx hM Aa Ia hd Ha q0 q1 c3
   go_wp2_with fail
   refine (zaa HP).mono ?_
   clear HP
   rintro e w3 ⟨rfl,Ma,F3⟩
   have Ra:=Fa.trans F3
   have a3:=a1.frp F3 (zvO _ _ _ _)
   have b1:w3.cell? ⟨wr.heap.size,1,none⟩=some (.slice s1 x.2.length g1):=a3.cell 1
   obtain⟨M3,Pa⟩:∃M3,M3=M++[32]++x.1++[61,34]:=⟨_,rfl⟩
   have pa:M3.length+(say true x.2).length+1<=100000000:=by rw [Pa];simp only [List.length_append,List.length_cons,List.length_nil];omega
   rw [<-Pa]at Ma HL
   clear b0 vx Pa ja u0 u1
   go_wp2_with fail
   refine (zpa w0 w3 B g _ M3 x.2 true Ma (Nat.le_trans hB Ra.size) Ua (zaa HW _ Ra) h0 hg0 (by omega)).mono ?_
   rintro e w4 ⟨rfl,La,F4⟩
   have aa:=Ra.trans F4
   obtain⟨M4,Na⟩:∃M4,M4=M3++say true x.2:=⟨_,rfl⟩
   have ea:M4.length+1<=100000000:=by rw [Na,List.length_append];omega
   rw [<-Na]at La HL
   have ba:=hide (zgo B g 1 w4 M4 ⟨#[34]⟩ [34] La (Nat.le_trans hB aa.size) zyh (by simpa using ea))
   clear Ma La b1 Na
   go_wp2_with fail
   refine (zaa ba).mono ?_
   clear ba
   rintro e w5 ⟨rfl,Ca,F5⟩
   rw [<-zaa HL]at Ca
   have ka:=hide Ca
   clear Ca
   go_wp2_with fail
   go_roundw
   case rel=>exact⟨j+1,by omega,by go_num,zaa ka,aa.trans F5⟩
   case measure=>simp [intOf];omega
  ·have ga:j=attrs.length:=by omega
   subst ga
   rw [List.take_length]at hr
   obtain⟨A1,Da⟩:∃A1,A1=A0++zav attrs:=⟨_,rfl⟩
   have ia:A1.length+1<=100000000:=by rw [Da,List.length_append];omega
   rw [<-Da]at hr
   have da:=hide Da
   have HP:=hide (zgo B g 1 wr A1 ⟨#[62]⟩ [62] hr Ya zrR (by simpa using ia))
   clear hr hd Da Ia c3
   go_wp2_with fail
   refine (zaa HP).mono ?_
   clear HP
   rintro e w5 ⟨rfl,Ca,F5⟩
   go_wp2_with fail
   go_end0
   exact⟨rfl,by rw [<-zaa ha,<-zaa da];exact Ca,hf.trans F5⟩
open Classical in
theorem zyb (B g:Nat) (w:Xk) (v:Xl) (l L:Xg) (h:Wr B w g L) (hB:B<=w.heap.size) (hv:∀w',Frm w w' [g]->Byt w' v l) :
  Calls Tryz.prog 60 #[.pointer (some ⟨g,1,none⟩),v] w fun e w'=>e=.returned (.bool (zba l))∧Wr B w' g L∧Frp (MtW B g) w w':=by
 obtain⟨o,ho,hs⟩:=h
 obtain⟨cs,hl,_,_,_⟩:=hs.loc
 refine (zxB B o g w v l hs hB hv).mono ?_
 rintro e w' ⟨rfl,hm,hf⟩
 have hd:decide (Void l)=zba l:=by
  rw [Bool.eq_iff_iff,zcG]
  simp
 refine⟨by rw [<-hd],⟨o,ho.frm hf (fun i hi Aa=> ?_),.inr hm⟩,FrpW.ofFrm hl hf⟩
 have e1:i=g:=by simpa using Aa
 have e2:o.ownBlock=some i:=by simpa [FB]using hi
 exact zha (B:=B) ho hl (by rw [e2,e1])
def zqc (n:Nat):Prop:=∀(w0 w:Xk) (B g:Nat) (L:Xg) (a b c d e:Xl) (t:Tr n),RdNode n w0 [a,b,c,d,e] t->Below w0.heap.size w0 w->w0.heap.size<=B->w0.heap.size<=g->B<=w.heap.size->Wr B w g L->L.length+(mkup n t).length<=100000000->
  Calls Tryz.prog 29 #[.pointer (some ⟨g,0,none⟩),.agg #[a,b,c,d,e]] w fun e w'=>e=.returned (.tuple #[])∧Wr B w' g (L++mkup n t)∧Frp (MtW B g) w w'
theorem ziH {n:Nat} {w:Xk} {a b c d e:Xl} {t:Tr n} (h:RdNode n w [a,b,c,d,e] t):∃z ab nb cb ac nc cc ad nd cd ae ne ce,a=.int .i64 z∧b=.slice ab nb cb∧c=.slice ac nc cc∧d=.slice ad nd cd∧e=.slice ae ne ce:=by
 cases n with
 | zero=>exact absurd h (by unfold RdNode;exact id)
 | succ n=>
  obtain⟨_,_,_,_,e0,k1,k2,hb,hc,hd,he⟩:=h
  simp only [List.cons.injEq,and_true]at e0
  obtain⟨rfl,rfl,rfl,rfl,rfl⟩:=e0
  obtain⟨ab,cb,rfl,_,_⟩:=hb.shape
  obtain⟨ac,cc,rfl,_,_⟩:=hc.shape
  obtain⟨ad,cd,rfl,_,_⟩:=Elems.shape hd
  obtain⟨ae,ce,rfl,_,_⟩:=Elems.shape he
  exact⟨_,_,_,_,_,_,_,_,_,_,_,_,_,rfl,rfl,rfl,rfl,rfl⟩
set_option maxHeartbeats 6400000 in
theorem zvI (n:Nat) (H:zqc n):zqc (n+1):=by
 intro w0 w B g L a b c d e t ka hW h0 Ka hB hw Aa
 obtain⟨_,_,_,_,e0,k1,k2,hb,hc,hd,he⟩:=ka
 simp only [List.cons.injEq,and_true]at e0
 obtain⟨rfl,rfl,rfl,rfl,rfl⟩:=e0
 obtain⟨ab,cb,rfl,_,_⟩:=hb.shape
 obtain⟨ac,cc,rfl,_,_⟩:=hc.shape
 obtain⟨ad,cd,rfl,_,_⟩:=Elems.shape hd
 obtain⟨ae,ce,rfl,_,_⟩:=Elems.shape he
 have Na:Below w.heap.size w (w.alloc (.cells #[.int .i64 t.kind,.slice ab t.name.length cb,.slice ac t.text.length cc,.slice ad t.attrs.length cd,.slice ae t.kids.length ce] 29)):=(Below.refl _ _).alloc (Nat.le_refl _) _
 have l1:=Loc.made w #[.int .i64 t.kind,.slice ab t.name.length cb,.slice ac t.text.length cc,.slice ad t.attrs.length cd,.slice ae t.kids.length ce] 29
 have F1:Frp (MtW B g) w _:=Frp.ofBelow Na (MtW B g)
 have Qa:=hide (hw.keep Na)
 have Xa:=hW.trans (Na.mono hW.size)
 have Ma:=Nat.le_trans hB Na.size
 have Ga:=zhu n t
 obtain⟨x0,x1,x2,x3,x4⟩:=l1.five
 by_cases hz:t.kind=1
 ·have dz:(t.kind == 1)=true:=by simpa using hz
  rw [if_pos hz]at Ga
  rw [Ga]at Aa ⊢
  have HP:=hide (zpa w0 _ B g _ L t.text false (zaa Qa) Ma hc Xa h0 Ka Aa)
  clear hz Ga hw Qa
  go_enter Tryz.func29,Tryz.ntmps29
  go_wp2_with fail
  refine (zaa HP).mono ?_
  rintro e w2 ⟨rfl,Ca,F2⟩
  go_wp2_with fail
  (first | go_end0 | (simp only [Exit.inBlock,Exit.then];refine bodyPost_ret (results_none rfl _ _ _) rfl ?_) | refine bodyPost_ret (results_none rfl _ _ _) rfl ?_)
  exact⟨rfl,Ca,F1.trans F2⟩
 ·have dz:(t.kind == 1)=false:=by simpa using hz
  rw [if_neg hz]at Ga
  rw [Ga]at Aa ⊢
  obtain⟨G,hG⟩:∃G,G=L++([60]++t.name++zav t.attrs++[62]++(if zba t.name=true then [] else (t.kids.map (mkup n)).flatten++[60,47]++t.name++[62])):=⟨_,rfl⟩
  rw [<-hG]
  have Sa:L.length+1+t.name.length+(zav t.attrs).length+1<=100000000:=by
   simp only [List.length_append,List.length_cons,List.length_nil]at Aa
   omega
  have HP:=hide (zyd w0 _ B g L t.kind _ _ _ _ t.name t.text t.attrs ae t.kids.length ce (zaa Qa) Ma hb hc hd rfl Xa h0 Ka Sa)
  have HG:=hide hG
  have wa:(t.kids.length:Int)<=9223372036854775807:=by have:=he.1;unfold maxLen at this;omega
  clear hz Ga hG hw Qa
  go_enter Tryz.func29,Tryz.ntmps29
  go_wp2_with fail
  refine (zaa HP).mono ?_
  clear HP
  rintro e w2 ⟨rfl,Ca,F2⟩
  have Pa:=F1.trans F2
  have l2:=l1.frp F2 (zdv _ _ _ _)
  have HW:=hide (fun (W:Xk) (F:Frp (MtW B g) w W)=>hW.trans (FrpW.toBelow F hW.size h0 Ka))
  clear x0 x1 x2 x3 x4
  obtain⟨x0,x1,x2,x3,x4⟩:=l2.five
  obtain⟨A2,Da⟩:∃A2,A2=L++[60]++t.name++zav t.attrs++[62]:=⟨_,rfl⟩
  rw [<-Da]at Ca
  have Ra:Below w2.heap.size w2 w2.drew:=(Below.refl _ _).drew
  have Fd:Frp (MtW B g) w2 w2.drew:=Frp.ofBelow Ra _
  have Va:=zaa HW _ (Pa.trans Fd)
  have ca:∀w',Frm w2.drew w' [g]->Byt w' (.slice ab t.name.length cb) t.name:=fun w' hf=>hb.keep (Va.trans (hf.below Va.size (fun q hq=>by
   have e:q=g:=by simpa using hq
   rw [e];exact Ka)))
  have HH:=hide (zyb B g w2.drew _ t.name A2 (Ca.keep Ra) (Nat.le_trans hB Pa.size) ca)
  clear ca Va
  go_wp2_with fail
  by_cases hv:zba t.name=true
  ·have HE:=hide (show L++([60]++t.name++zav t.attrs++[62]++(if zba t.name=true then [] else (t.kids.map (mkup n)).flatten++[60,47]++t.name++[62]))=A2 by rw [if_pos hv,Da];simp)
   have Ua:=hide ((zaa HG).trans (zaa HE))
   rw [hv]at HH
   clear hv Da HE HG Aa Sa Ca l1 F2
   go_region_held3 (fun w'=>w'.cell? ⟨w.heap.size,1,none⟩=some (.slice ab t.name.length cb))
    (first | assumption | simp [*])
    ((go_at_call 60;refine (zaa HH).mono ?_;rintro e w3 ⟨rfl,Ia,F3⟩;have x1:w3.cell? ⟨w.heap.size,1,none⟩=some (.slice ab t.name.length cb):=(l2.frp (Fd.trans F3) (zdv _ _ _ _)).cell 1))
   all_goals
    go_wp2_with fail
    (first | go_end0 | (simp only [Exit.inBlock,Exit.then];refine bodyPost_ret (results_none rfl _ _ _) rfl ?_) | refine bodyPost_ret (results_none rfl _ _ _) rfl ?_)
    exact⟨rfl,by rw [zaa Ua];exact Ia,Pa.trans (Fd.trans F3)⟩
  ·have ba:zba t.name=false:=by simpa using hv
   have HE:=hide (show L++([60]++t.name++zav t.attrs++[62]++(if zba t.name=true then [] else (t.kids.map (mkup n)).flatten++[60,47]++t.name++[62]))=A2++(t.kids.map (mkup n)).flatten++[60,47]++t.name++[62] by rw [if_neg hv,Da];simp)
   have Ua:=hide ((zaa HG).trans (zaa HE))
   have xa:A2.length+(t.kids.map (mkup n)).flatten.length+3+t.name.length<=100000000:=by
    rw [if_neg hv]at Aa
    rw [Da]
    simp only [List.length_append,List.length_cons,List.length_nil]at Aa ⊢
    omega
   rw [ba]at HH
   clear hv ba Da HE HG Aa Sa Ca l1 F2
   go_region_held3 (fun w'=>w'.cell? ⟨w.heap.size,1,none⟩=some (.slice ab t.name.length cb))
    (first | assumption | simp [*])
    ((go_at_call 60;refine (zaa HH).mono ?_;rintro e w3 ⟨rfl,Ia,F3⟩;have x1:w3.cell? ⟨w.heap.size,1,none⟩=some (.slice ab t.name.length cb):=(l2.frp (Fd.trans F3) (zdv _ _ _ _)).cell 1))
   have l3:=l2.frp (Fd.trans F3) (zdv _ _ _ _)
   have qa:=Pa.trans (Fd.trans F3)
   have c4:w3.cell? ⟨w.heap.size,4,none⟩=some (.slice ae t.kids.length ce):=l3.cell 4
   clear x0 x2 x3 x4 x1 Fd F3 Ra HH
   go_wp2_with fail
   go_loopw [25] (fun i wr=>∃j:Nat,j<=t.kids.length∧i=.int .i64 j∧Wr B wr g (A2++((t.kids.take j).map (mkup n)).flatten)∧Frp (MtW B g) w3 wr) (fun i _=>t.kids.length-(intOf i).toNat)
   case atStart=>exact⟨0,Nat.zero_le _,rfl,by simpa using Ia,Frp.refl _ _⟩
   case round=>
    obtain⟨j,hj,rfl,hr,hf⟩:=hrel
    have Ja:=qa.trans hf
    have aa:B<=wr.heap.size:=Nat.le_trans hB Ja.size
    by_cases hjl:j<t.kids.length
    ·have Ta:=zeO (mkup n) t.kids j hjl
     have Wa:=zgE (mkup n) t.kids (j+1)
     obtain⟨pb,Ba,rfl,Ha,pa,_,hC⟩:=he.at hjl
     clear pa
     obtain⟨c0,c1,c2,c3,ya,e0,e1,e2,e3,e4,hx⟩:=zlK hC
     have La:=zaa HW wr Ja
     replace e0:=(La.cell (p:=⟨pb,Ba+j*5,none⟩) Ha).trans e0
     replace e1:=(La.cell (p:=⟨pb,Ba+j*5+1,none⟩) Ha).trans e1
     replace e2:=(La.cell (p:=⟨pb,Ba+j*5+2,none⟩) Ha).trans e2
     replace e3:=(La.cell (p:=⟨pb,Ba+j*5+3,none⟩) Ha).trans e3
     replace e4:=(La.cell (p:=⟨pb,Ba+j*5+4,none⟩) Ha).trans e4
     obtain⟨z,ea,la,ia,ga,na,ja,oa,ma,da,sa,ua,ra,rfl,rfl,rfl,rfl,rfl⟩:=ziH hx
     have Oa:Below wr.heap.size wr (wr.alloc (.cells #[.int .i64 z,.slice ea la ia,.slice ga na ja,.slice oa ma da,.slice sa ua ra] 29)):=(Below.refl _ _).alloc (Nat.le_refl _) _
     have Fa:Frp (MtW B g) wr _:=Frp.ofBelow Oa (MtW B g)
     have fa:(j:Int)<(t.kids.length:Int):=by omega
     have Za:(A2++((t.kids.take j).map (mkup n)).flatten).length+(mkup n t.kids[j]).length<=100000000:=by
      rw [Ta]at Wa
      simp only [List.length_append]at Wa ⊢
      omega
     have va:=hide (show A2++((t.kids.take (j+1)).map (mkup n)).flatten=A2++((t.kids.take j).map (mkup n)).flatten++mkup n t.kids[j] by rw [Ta,List.append_assoc])
     have HC:=hide (H w0 _ B g _ _ _ _ _ _ t.kids[j] hx (zaa HW _ (Ja.trans Fa)) h0 Ka (Nat.le_trans aa Oa.size) (hr.keep Oa) Za)
     clear hr Ta Wa hC Za hx Oa c4 Ia he
     go_wp2_with fail
     refine (zaa HC).mono ?_
     clear HC
     rintro e w9 ⟨rfl,Ya,F9⟩
     have HO:=hide (show Wr B w9 g (A2++((t.kids.take (j+1)).map (mkup n)).flatten) by rw [zaa va];exact Ya)
     clear Ya e0 e1 e2 e3 e4
     go_wp2_with fail
     go_roundw
     case rel=>exact⟨j+1,by omega,by go_num,zaa HO,hf.trans (Fa.trans F9)⟩
     case measure=>simp [intOf];omega
    ·have ha:j=t.kids.length:=by omega
     subst ha
     rw [List.take_length]at hr
     have x1:wr.cell? ⟨w.heap.size,1,none⟩=some (.slice ab t.name.length cb):=(l3.frp hf (zdv _ _ _ _)).cell 1
     have vx:=zbc wr _ t.name (hb.keep (zaa HW _ Ja))
     have HP:=hide (znn B g 3 wr _ ⟨#[60,47]⟩ (str t.name) ⟨#[62]⟩ [60,47] t.name [62] hr aa zww (zjG hb.1) zrR (by simp only [List.length_append,List.length_cons,List.length_nil];omega))
     generalize str t.name=sn at *
     clear hr he Ia c4 l3
     go_wp2_with fail
     refine (zaa HP).mono ?_
     clear HP
     rintro e w5 ⟨rfl,ta,F5⟩
     go_wp2_with fail
     go_end0
     exact⟨rfl,by rw [zaa Ua];exact ta,Ja.trans F5⟩
theorem zpK:∀n,zqc n
 | 0=>fun w0 w B g L a b c d e t Aa=>absurd Aa (by unfold RdNode;exact id)
 | n+1=>zvI n (zpK n)
end Go.Proofs.YtgjolijncmkkhaaGreatDoor
