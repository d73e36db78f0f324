/- Own texts joined: L5kd, StepC, L5nd, TrI, FqG. -/
import Derived.Test.YtlpnibbdmkeklaaGreatDoorJa
import Derived.Test.YtlpnibbdmkeklaaGreatDoorJb
import Derived.Test.YtlpnibbdmkeklaaGreatDoorJc
import Derived.Test.YtlpnibbdmkeklaaGreatDoorJd
import Derived.Test.YtlpnibbdmkeklaaGreatDoorJe
import Derived.Test.YtlpnibbdmkeklaaGreatDoorJf
import Derived.Test.YtlpnibbdmkeklaaGreatDoorJg
import Derived.Test.YtlpnibbdmkeklaaGreatDoorJh
import Derived.Test.YtlpnibbdmkeklaaGreatDoorJi
import Derived.Deep.RegionHeld3
import Derived.Deep.RegionLaw
import Derived.Shelf.Abstract
import Derived.Deep.QuietTactic
import Derived.BigQuiet
namespace Go.Proofs.YtlpnibbdmkeklaaGreatDoor
open Go.RowKit
set_option linter.unusedVariables false
set_option maxRecDepth 100000
theorem zar {w w':Xe} (hB:Below w.heap.size w w') {p:Addr} {v:Xf} (h:w.cell? p=some v):w'.cell? p=some v:=(hB.cell (zaJ h)).trans h
def natZ (l:Xb):Xa:=l.map (fun n:Nat=>(n:Int))
theorem zcu (l:Xb):(natZ l).length=l.length:=by simp [natZ]
theorem zqQ (a b:Xb):natZ (a++b)=natZ a++natZ b:=by simp [natZ]
theorem OwnZ.set {w:Xe} {base g n c:Nat} {xs:Xa} (h:OwnZ w base (.slice (some ⟨g,0,none⟩) n c) xs) (j:Nat) (y:Int) (hy : -9223372036854775808<=y∧y<=9223372036854775807):OwnZ (w.setCell ⟨g,j,none⟩ (.int .i64 y)) base (.slice (some ⟨g,0,none⟩) n c) (xs.set j y):=by
 have hn:n=xs.length:=by
  obtain⟨_,_,e,_⟩:=h.ints.shape
  injection e
 subst hn
 have hst:=(h.2.stored j (.int .i64 y)).1
 refine⟨fun x hx=> ?_,?_⟩
 ·rcases List.mem_or_eq_of_mem_set hx with h' | rfl
  ·exact h.1 x h'
  ·exact hy
 ·have e:valz (xs.set j y)=(valz xs).set j (.int .i64 y):=by simp [valz,List.map_set]
  rw [e,List.length_set]
  exact hst
theorem OwnZ.cellz {w:Xe} {base g n c:Nat} {xs:Xa} (h:OwnZ w base (.slice (some ⟨g,0,none⟩) n c) xs) {j:Nat} (hj:j<xs.length):w.cell? ⟨g,j,none⟩=some (.int .i64 (xs.getD j 0)):=by
 have hn:n=xs.length:=by
  obtain⟨_,_,e,_⟩:=h.ints.shape
  injection e
 subst hn
 rw [h.2.cellAt j (by omega),zeO hj]
theorem OwnZ.frz {w:Xe} {base g n c:Nat} {xs:Xa} (h:OwnZ w base (.slice (some ⟨g,0,none⟩) n c) xs) (j:Nat):w.frozen? ⟨g,j,none⟩=false:=by
 have hn:n=xs.length:=by
  obtain⟨_,_,e,_⟩:=h.ints.shape
  injection e
 subst hn
 exact h.2.frozenAt j
def rowK (out:Xb) (k:Nat) (y:Nat):Xb:=out.take k++y::out.drop k
theorem zfe (out:Xb) {k:Nat} (hk:k<=out.length) (y:Nat):(rowK out k y).length=out.length+1:=by
 unfold rowK
 simp only [List.length_append,List.length_cons,List.length_take,List.length_drop]
 omega
theorem znF (out:Xb) {k:Nat} (hk:k+1<=out.length) (y:Nat):(natZ (rowK out (k+1) y)).getD k 0=((out.getD k 0:Nat):Int):=by
 unfold rowK natZ
 have h1:k<(out.take (k+1)).length:=by rw [List.length_take];omega
 rw [List.map_append,List.getD_eq_getElem?_getD,List.getElem?_append_left (by simpa using h1)]
 simp [show k<out.length by omega]
theorem zmN (out:Xb) {k:Nat} (hk:k+1<=out.length) (y:Nat):(natZ (rowK out (k+1) y)).set (k+1) ((out.getD k 0:Nat):Int)=natZ (rowK out k (out.getD k 0)):=by
 have hd:out.drop k=out.getD k 0::out.drop (k+1):=by
  rw [List.drop_eq_getElem_cons (by omega)]
  simp [show k<out.length by omega]
 have ht:out.take (k+1)=out.take k++[out.getD k 0]:=by
  rw [List.take_succ_eq_append_getElem (by omega)]
  simp [show k<out.length by omega]
 unfold rowK natZ
 rw [hd,ht]
 have e:(out.take k++[out.getD k 0]).length=k+1:=by simp;omega
 rw [List.map_append,List.map_cons,List.set_append_right _ _ (by simp;omega)]
 simp only [List.length_map,e,Nat.sub_self,List.set_cons_zero]
 simp
theorem zql (out:Xb) {k:Nat} (hk:k<=out.length) (y i:Nat):(natZ (rowK out k y)).set k (i:Int)=natZ (rowK out k i):=by
 unfold rowK natZ
 rw [List.map_append,List.map_cons,List.set_append_right _ _ (by simp;omega)]
 simp only [List.length_map,List.length_take]
 rw [show min k out.length=k by omega,Nat.sub_self,List.set_cons_zero]
 simp
theorem zcd (l:List PlV) (id:IdV) {n:Nat} (h:n<=2):zaV l id n=[]:=by
 unfold zaV
 rw [show n-2=0 by omega]
 rfl
theorem zgi {l:List PlV} (id:IdV):∀{n:Nat},∀x∈zaV l id n,x<n
 | 0,x,hx=>by rw [zcd l id (by omega)]at hx;cases hx
 | n+1,x,hx=>by
  by_cases h2:2<=n
  ·rw [zdw l id h2]at hx
   unfold zdo at hx
   by_cases hk:zbY l id n=true
   ·rw [if_pos hk]at hx
    rcases List.mem_cons.1 ((zfI _ _ _).mem_iff.1 hx)with rfl | hx
    ·omega
    ·have:=zgi id x hx;omega
   ·rw [if_neg hk]at hx
    have:=zgi id x hx;omega
  ·rw [zcd l id (by omega)]at hx;cases hx
theorem zcI {l:List PlV} (id:IdV):∀(n:Nat),(zaV l id n).length<=n
 | 0=>by rw [zcd l id (by omega)];simp
 | n+1=>by
  by_cases h2:2<=n
  ·rw [zdw l id h2]
   unfold zdo
   have:=zcI (l:=l) id n
   by_cases hk:zbY l id n=true
   ·rw [if_pos hk,(zfI _ _ _).length_eq];simp;omega
   ·rw [if_neg hk];omega
  ·rw [zcd l id (by omega)];simp
set_option maxHeartbeats 12800000 in
theorem zhY (w:Xe) (sb:Nat) (a:Xc) (c:Nat) (l:List PlV) (F:Xb) (id:IdV) (h:StR w sb a c l F) (hl:l.length<=100000) :
  Calls Tryz.prog 112 #[.pointer (some ⟨sb,0,none⟩),.agg #[.int .i64 id.1,.int .i64 id.2]] w fun e w'=>∃v,e=.returned v∧OwnZ w' w.heap.size v (natZ (zao l id))∧Below w.heap.size w w':=by
 refine zaf ?_
 intro Q HQ
 obtain⟨iN,iR⟩:=id
 have hA:=(Below.refl w.heap.size w).alloc (Nat.le_refl _) (.cells #[.int .i64 iN,.int .i64 iR] 81)
 have lb:=Loc.made w #[.int .i64 iN,.int .i64 iR] 81
 have LL:=hide (And.intro hA (And.intro lb h))
 clear hA lb h
 go_enter Tryz.func112,Tryz.ntmps112
 go_wp2_with fail
 obtain⟨hA,lb,h⟩:=zaa LL
 clear LL
 generalize (w.alloc (.cells #[.int .i64 iN,.int .i64 iR] 81))=w1 at *
 go_loopw [5,6] (fun o i wr=>∃(j:Nat) (av:Xc) (cv:Nat),2<=j∧(j<=l.length∨j=2)∧i=.int .i64 (j:Int)∧o=.slice av (zaV l (iN,iR) j).length cv∧OwnZ wr (w.heap.size+1) (.slice av (zaV l (iN,iR) j).length cv) (natZ (zaV l (iN,iR) j))∧Below w.heap.size w wr∧Loc wr w.heap.size #[.int .i64 iN,.int .i64 iR] 81) (fun _ i _=>l.length-(intOf i).toNat)
 case atStart=>exact⟨2,none,0,Nat.le_refl _,.inr rfl,rfl,rfl,zfv _ _,hA,lb⟩
 case round=>
  clear hA lb
  obtain⟨j,av,cv,hj2,hjl,rfl,rfl,ho,hb,lb⟩:=hrel
  have hs:=h.keep hb
  have y0:wr.cell? ⟨sb,0,none⟩=some (.slice a l.length c):=hs.1.cell 0
  by_cases hlt:j<l.length
  case neg=>
   have hlt':¬ (j:Int)<(l.length:Int):=by omega
   have e:zaV l (iN,iR) j=zao l (iN,iR):=by
    rcases hjl with hjl | hjl
    ·rw [show j=l.length by omega];rfl
    ·unfold zao
     rw [zcd l _ (by omega),zcd l _ (by omega)]
   rw [e]at ho
   rw [e]
   have HE:=hide (zaa HQ _ wr ⟨_,rfl,ho.mono (by omega),hb⟩)
   clear ho hb lb hs h e hlt HQ
   go_wp2_with fail
   exact zaa HE
  have hlt':(j:Int)<(l.length:Int):=by omega
  obtain⟨p,hp⟩:∃p,l[j]? = some p:=⟨l[j],by simp [hlt]⟩
  obtain⟨b,k1,ck1,n1,cn1,t1,ct1,q1,cq1,rfl,_,e10,e11,e12,e13,e14,e15,e16,e17,e18,_,_,_,hkey1⟩:=hs.cells hp
  have v0:wr.cell? ⟨w.heap.size,0,none⟩=some (.int .i64 iN):=lb.cell 0
  have v1:wr.cell? ⟨w.heap.size,1,none⟩=some (.int .i64 iR):=lb.cell 1
  have hj0:(0:Int)<=(j:Int):=by omega
  have hsucc:=zdw l (iN,iR) hj2
  have HN:=hide hsucc
  have HO:=hide (And.intro ho (And.intro hb lb))
  clear hsucc ho hb lb hs hlt
  by_cases hpar:p.par=(iN,iR)
  case neg=>
   have hk:zbY l (iN,iR) j=false:=by unfold zbY;rw [hp];simp [hpar]
   have HR:=hide (show zaV l (iN,iR) (j+1)=zaV l (iN,iR) j by rw [zaa HN];unfold zdo;rw [hk];rfl)
   have hd:(p.parN == iN)=false∨((p.parN == iN)=true∧(p.parR == iR)=false):=by
    cases h1:(p.parN == iN)with
    | false=>exact .inl rfl
    | true=>
     refine .inr ⟨rfl,?_⟩
     cases h2:(p.parR == iR)with
     | false=>rfl
     | true=>exact absurd (show (p.parN,p.parR)=(iN,iR) by rw [beq_iff_eq.1 h1,beq_iff_eq.1 h2]) hpar
   clear hpar hk hp h HN hkey1 e10 e11 e14 e15 e16 e17 e18
   rcases hd with d1 | ⟨d1,d2⟩
   all_goals
    go_wp2_with fail
    go_quiet (fail)
    go_wp2_with fail
    go_roundw
    case rel=>
     obtain⟨ho,hb,lb⟩:=zaa HO
     exact⟨j+1,av,cv,by omega,.inl (by omega),by go_num,by rw [zaa HR],by rw [zaa HR];exact ho.keep (below_drewN (Below.refl _ _) _),below_drewN hb _,lb.all (below_drewN (Below.refl _ _) _)⟩
    case measure=>simp [intOf];omega
  have hk:zbY l (iN,iR) j=true:=by unfold zbY;rw [hp];simp [hpar]
  have HR:=hide (show zaV l (iN,iR) (j+1)=insR (zba l) j (zaV l (iN,iR) j) by rw [zaa HN];unfold zdo;rw [hk];rfl)
  have d1:(p.parN == iN)=true:=by simpa using (Prod.mk.inj hpar).1
  have d2:(p.parR == iR)=true:=by simpa using (Prod.mk.inj hpar).2
  have HK:=hide (And.intro (zcI (l:=l) (iN,iR) j) (zgi (l:=l) (iN,iR) (n:=j)))
  generalize zaV l (iN,iR) j=out at *
  clear hpar hk HN hkey1 e10 e11 e14 e15 e16 e17 e18
  go_wp2_with fail
  go_quiet (fail)
  obtain⟨ho,hb,lb⟩:=zaa HO
  clear HO
  generalize hwd:wr.drewN _=wd at *
  have hbd:Below w.heap.size w wd:=by rw [<-hwd];exact below_drewN hb _
  have hod:OwnZ wd (w.heap.size+1) (.slice av out.length cv) (natZ out):=by rw [<-hwd];exact ho.keep (below_drewN (Below.refl _ _) _)
  have lbd:Loc wd w.heap.size #[.int .i64 iN,.int .i64 iR] 81:=by rw [<-hwd];exact lb.all (below_drewN (Below.refl _ _) _)
  clear hwd ho hb lb v0 v1 y0 d1 d2 e12 e13
  have hol:=(zaa HK).1
  have hY:=hide (zse wd (j:Int) (by omega) (by omega))
  go_wp2_with (at_builtin;refine zgY rfl _ _ rfl (w.heap.size+1) _ (natZ out) rfl (hod.alloc _) _ [(j:Int)] rfl (zaa hY) ?c1 ?c2 ?_)
  case c1=>rw [zcu];simp;omega
  case c2=>have:=hbd.size;simp;omega
  intro v5 w5 ho5 hg5
  have hle:(natZ out++[(j:Int)]).length=out.length+1:=by simp [natZ]
  obtain⟨g5,c5,e5,_⟩:=ho5.2.form (by rw [hle];omega)
  subst e5
  rw [hle]at ho5
  have hge5:w.heap.size+1<=g5:=(ho5.lt g5 rfl).1
  have hb5:Below w.heap.size w w5:=zei (zad hbd ((Below.refl _ _).alloc (Nat.le_refl _) _)) hg5 (fun q hq=>by have:=(hod.lt q hq).1;omega)
  have lb5:Loc w5 w.heap.size #[.int .i64 iN,.int .i64 iR] 81:=(lbd.alloc _).frm (Frm.ofGrown hg5) (fun hm=>by
   have hm':w.heap.size∈FB (.slice av out.length cv):=hm
   have:=(hod.lt w.heap.size (by simpa [FB]using hm')).1
   omega)
  clear hY hg5 hod lbd hbd
  rw [hle]
  clear hle
  go_wp2_with fail
  go_loopw [7] (fun kk wr=>∃(k y:Nat),k<=out.length∧kk=.int .i64 (k:Int)∧Hid (cutK (zba l) j out out.length=cutK (zba l) j out k)∧OwnZ wr (w.heap.size+1) (.slice (some ⟨g5,0,none⟩) (out.length+1) c5) (natZ (rowK out k y))∧Below w.heap.size w wr∧Loc wr w.heap.size #[.int .i64 iN,.int .i64 iR] 81) (fun kk _=>(intOf kk).toNat)
  case atStart=>exact⟨out.length,j,Nat.le_refl _,rfl,hide rfl,by
   have e:rowK out out.length j=out++[j]:=by unfold rowK;simp
   rw [e,zqQ]
   exact ho5,hb5,lb5⟩
  case round=>
   clear ho5 hb5 lb5
   obtain⟨k,y,hk,rfl,HC,hr,hbr,lbr⟩:=hrel
   have HX:=hide (show cutK (zba l) j out out.length=k->∀wq,Below wr.heap.size wr wq->OwnZ (wq.setCell ⟨g5,k,none⟩ (.int .i64 (j:Int))) (w.heap.size+1) (.slice (some ⟨g5,0,none⟩) (zaV l (iN,iR) (j+1)).length c5) (natZ (zaV l (iN,iR) (j+1)))∧Below w.heap.size w (wq.setCell ⟨g5,k,none⟩ (.int .i64 (j:Int)))∧Loc (wq.setCell ⟨g5,k,none⟩ (.int .i64 (j:Int))) w.heap.size #[.int .i64 iN,.int .i64 iR] 81∧out.length+1=(zaV l (iN,iR) (j+1)).length from fun hcut wq hq=>by
    have e:zaV l (iN,iR) (j+1)=rowK out k j:=by rw [zaa HR];unfold insR rowK;rw [hcut]
    have e2:(rowK out k j).length=out.length+1:=zfe out hk j
    rw [e,e2]
    have h1:=(hr.keep hq).set k (j:Int) (by omega)
    rw [zql out hk]at h1
    exact⟨h1,zei (zad hbr hq) (zdQ _ _ _ _) (fun q hq=>by cases hq;omega),(lbr.all hq).other _ _ _ (by omega),rfl⟩)
   cases k with
   | zero=>
    have hcut:cutK (zba l) j out out.length=0:=zaa HC
    have hc0:=hr.cellz (j:=0) (by rw [zcu,zfe out hk];omega)
    have hf0:=hr.frz 0
    have HR0:=hide hr
    clear HC
    go_wp2_with fail
    go_quiet (fail)
    have hc0':(wr.drewN nq).cell? ⟨g5,0,none⟩=_:=hc0
    have hf0':(wr.drewN nq).frozen? ⟨g5,0,none⟩=false:=hf0
    obtain⟨x1,x2,x3,x4⟩:=zaa HX hcut (wr.drewN nq) (below_drewN (Below.refl _ _) _)
    have HY:=hide (And.intro x1 (And.intro x2 (And.intro x3 x4)))
    clear x1 x2 x3 x4 HX hr hbr lbr hcut
    go_wp2_with fail
    go_roundw
    case rel=>
     obtain⟨x1,x2,x3,x4⟩:=zaa HY
     exact⟨j+1,_,c5,by omega,.inl (by omega),by go_num,by rw [<-x4],x1,x2,x3⟩
    case measure=>simp [intOf];omega
   | succ k=>
    obtain⟨x,hx⟩:∃x,x=out.getD k 0:=⟨_,rfl⟩
    have hxj:x<j:=by
     rw [hx,zid (by omega)]
     exact (zaa HK).2 _ (List.getElem_mem _)
    have hxl:x<l.length:=by omega
    obtain⟨q,hq⟩:∃q,l[x]? = some q:=⟨l[x],by simp [hxl]⟩
    have hs:=h.keep hbr
    obtain⟨b1_,k1,ck1,n1,cn1,t1,ct1,q1,cq1,hbe1,_,e10,e11,e12,e13,e14,e15,e16,e17,e18,_,_,_,hkey1⟩:=hs.cells hp
    obtain⟨b2_,k2,ck2,n2,cn2,t2,ct2,q2,cq2,hbe2,_,e20,e21,e22,e23,e24,e25,e26,e27,e28,_,_,_,hkey2⟩:=hs.cells hq
    injection hbe1 with hbe1
    injection hbe1 with hbe1 _ _
    injection hbe2 with hbe2
    injection hbe2 with hbe2 _ _
    subst hbe1 hbe2
    have y0:wr.cell? ⟨sb,0,none⟩=some (.slice (some ⟨b,0,none⟩) l.length c):=hs.1.cell 0
    have hcx:=hr.cellz (j:=k) (by rw [zcu,zfe out hk];omega)
    rw [znF out (by omega),<-hx]at hcx
    have hck:=hr.cellz (j:=k+1) (by rw [zcu,zfe out hk];omega)
    have hfk:=hr.frz (k+1)
    have hcut:=zaa HC
    have hah:zba l j x=zay p q:=by unfold zba;rw [hp,hq]
    rw [show cutK (zba l) j out (k+1)=if zba l j (out.getD k 0)=true then cutK (zba l) j out k else k+1 from rfl,<-hx,hah]at hcut
    have HA:=hide (zgN wr p q k1 n1 t1 q1 k2 n2 t2 q2 ck1 cn1 ct1 cq1 ck2 cn2 ct2 cq2 hkey1 hkey2)
    have hkd:Below wr.heap.size wr wr.drew:=(Below.refl _ _).drew
    replace HA:=hide (zgN wr.drew p q k1 n1 t1 q1 k2 n2 t2 q2 ck1 cn1 ct1 cq1 ck2 cn2 ct2 cq2 (hkey1.keep hkd) (hkey2.keep hkd))
    generalize hK:k+1=K at *
    have hgt:decide (0<K)=true:=by simp;omega
    have hkm:IntKind.i64.wrap ((K:Int)-1)=(k:Int):=by
     rw [IntKind.wrap_i64]
     omega
    have hk0:(0:Int)<=(k:Int):=by omega
    generalize hM:out.length+1=M at *
    have hkn:(k:Int)<(M:Int):=by omega
    have hKn:(K:Int)<(M:Int):=by omega
    have hK0:(0:Int)<=(K:Int):=by omega
    have hx0:(0:Int)<=(x:Int):=by omega
    have hxl':(x:Int)<(l.length:Int):=by omega
    have HZ:=hide (And.intro hr (And.intro hbr (And.intro lbr (And.intro hcut (And.intro hx (And.intro hk (And.intro hkd (And.intro hK hM))))))))
    clear hr hbr lbr hcut hx hk hkd hK hM hs hkey1 hkey2 hah hp hq HC hxj hxl
    go_wp2_with fail
    go_region_held3 (fun w'=>w'.cell? ⟨sb,0,none⟩=some (.slice (some ⟨b,0,none⟩) l.length c)∧w'.cell? ⟨g5,k,none⟩=some (.int .i64 (x:Int))∧w'.cell? ⟨b,j*9,none⟩=some (.int .i64 p.idN)∧w'.cell? ⟨b,j*9+1,none⟩=some (.int .i64 p.idR)∧w'.cell? ⟨b,j*9+2,none⟩=some (.int .i64 p.parN)∧w'.cell? ⟨b,j*9+3,none⟩=some (.int .i64 p.parR)∧w'.cell? ⟨b,j*9+4,none⟩=some (.slice k1 p.key.length ck1)∧w'.cell? ⟨b,j*9+5,none⟩=some (.int .i64 p.kind)∧w'.cell? ⟨b,j*9+6,none⟩=some (.slice n1 p.name.length cn1)∧w'.cell? ⟨b,j*9+7,none⟩=some (.slice t1 p.text.length ct1)∧w'.cell? ⟨b,j*9+8,none⟩=some (.slice q1 p.attrs.length cq1)∧w'.cell? ⟨b,x*9,none⟩=some (.int .i64 q.idN)∧w'.cell? ⟨b,x*9+1,none⟩=some (.int .i64 q.idR)∧w'.cell? ⟨b,x*9+2,none⟩=some (.int .i64 q.parN)∧w'.cell? ⟨b,x*9+3,none⟩=some (.int .i64 q.parR)∧w'.cell? ⟨b,x*9+4,none⟩=some (.slice k2 q.key.length ck2)∧w'.cell? ⟨b,x*9+5,none⟩=some (.int .i64 q.kind)∧w'.cell? ⟨b,x*9+6,none⟩=some (.slice n2 q.name.length cn2)∧w'.cell? ⟨b,x*9+7,none⟩=some (.slice t2 q.text.length ct2)∧w'.cell? ⟨b,x*9+8,none⟩=some (.slice q2 q.attrs.length cq2))
     (first | exact⟨by assumption,by assumption,by assumption,by assumption,by assumption,by assumption,by assumption,by assumption,by assumption,by assumption,by assumption,by assumption,by assumption,by assumption,by assumption,by assumption,by assumption,by assumption,by assumption,by assumption⟩ | simp [*])
     (first | (go_at_call 133;refine (zaa HA).mono ?_;rintro e w7 ⟨rfl,hB7⟩;have hE7:=zad (zaa HZ).2.2.2.2.2.2.1 hB7;have y0:=zar hE7 y0;have hcx:=zar hE7 hcx;have e10:=zar hE7 e10;have e11:=zar hE7 e11;have e12:=zar hE7 e12;have e13:=zar hE7 e13;have e14:=zar hE7 e14;have e15:=zar hE7 e15;have e16:=zar hE7 e16;have e17:=zar hE7 e17;have e18:=zar hE7 e18;have e20:=zar hE7 e20;have e21:=zar hE7 e21;have e22:=zar hE7 e22;have e23:=zar hE7 e23;have e24:=zar hE7 e24;have e25:=zar hE7 e25;have e26:=zar hE7 e26;have e27:=zar hE7 e27;have e28:=zar hE7 e28))
    obtain⟨hr,hbr,lbr,hcut,hx,hk,hkd,hK,hM⟩:=zaa HZ
    have hr7:=hr.keep hE7
    have hb7:=zad hbr hE7
    have lb7:=lbr.all hE7
    have hck7:=zar hE7 hck
    have hfk7:=hr7.frz K
    clear hr hbr lbr hkd HZ HA hck hfk y0 e10 e11 e12 e13 e14 e15 e16 e17 e18 e20 e21 e22 e23 e24 e25 e26 e27 e28
    cases hbb:zay p q with
    | false=>
     rw [hbb]at hcut
     have hcut':cutK (zba l) j out out.length=K:=hcut.trans (by first | (simp;done) | (simp;exact hK))
     obtain⟨x1,x2,x3,x4⟩:=zaa HX hcut' w7 hE7
     have HY:=hide (And.intro x1 (And.intro x2 (And.intro x3 x4)))
     clear x1 x2 x3 x4 HX hr7 hb7 lb7 hcut hcut' hx hbb hE7 hB7 hcx
     go_wp2_with fail
     go_roundw
     case rel=>
      obtain⟨x1,x2,x3,x4⟩:=zaa HY
      exact⟨j+1,_,c5,by omega,.inl (by omega),by go_num,by rw [<-x4],x1,x2,x3⟩
     case measure=>simp [intOf];omega
    | true=>
     rw [hbb]at hcut
     have HCn:=hide (show cutK (zba l) j out out.length=cutK (zba l) j out k from hcut.trans (by simp))
     have h9:=hr7.set K ((x:Nat):Int) (by omega)
     rw [<-hK,hx,zmN out (by omega)]at h9
     rw [hK]at h9
     rw [<-hx]at h9
     have HY:=hide (And.intro h9 (And.intro (zei hb7 (zdQ w7 g5 K (.int .i64 (x:Int))) (fun q hq=>by cases hq;omega)) (lb7.other g5 K (.int .i64 (x:Int)) (by omega))))
     have HKL:=hide (show k<=out.length by omega)
     have hKk:=hide hK
     clear HX h9 hr7 hb7 lb7 hcut hbb hE7 hB7 hx hK hM
     go_wp2_with fail
     go_roundw
     case rel=>
      obtain⟨x1,x2,x3⟩:=zaa HY
      exact⟨k,_,zaa HKL,by first | rfl | go_num,HCn,x1,x2,x3⟩
     case measure=>have:=zaa hKk;simp [intOf];omega
theorem ziU {P:Program} {ops:Array Oper} {o:Oper} {a:Act} {w:Xe} {K:Act->Xe->Prop} {Q:Exit->Act->Xe->Prop} {E:Prop} (hgd:o.guard=none) (f:FuncId) (xs:List Operand) (tys:Array Xg)
  (ho:o.op=.call { callee:=.value (.func f),args:=xs.toArray,argTypes:=tys }) (he:∀args w,(callFunc f args).run P w=.ok (.enter f args) w) (args:Xd) (hx:xs.map a.eval=args) {R:Ending->Xe->Prop} (hc:Calls P f args.toArray w R)
  (h:∀e w',R e w'->∃v,e=.returned v∧K (a.put o.dst v) w'):if Region.wanted o (yielded ops a.tmps)=true then Oper.wp P o a w K Q else E:=by
 have hw:Region.wanted o (yielded ops a.tmps)=true:=by simp [Region.wanted,hgd]
 rw [if_pos hw]
 subst hx
 unfold Oper.wp execOp
 simp [ho,resolve,invoke,go_sem,he]
 refine hc.mono ?_
 intro e w' hR
 obtain⟨v,rfl,hk⟩:=h e w' hR
 exact hk
end Go.Proofs.YtlpnibbdmkeklaaGreatDoor
namespace Go.Proofs.YtlpnibbdmkeklaaGreatDoor
open Go.RowKit Go.Shelf
set_option linter.unusedVariables false
set_option maxRecDepth 100000
theorem zhn {w w':Xe} {b off i:Nat} {p:PlV} {k n t q:Xc} {ck cn ct cq:Nat} (hb:Below w.heap.size w w') (hbl:b<w.heap.size) (h:∃C:Xd,C.length=9∧(∀j,j<9->w.cell? ⟨b,off+i*9+j,none⟩=C[j]?)∧RdPlC w C p)
  (e4:w'.cell? ⟨b,off+i*9+4,none⟩=some (.slice k p.key.length ck)) (e6:w'.cell? ⟨b,off+i*9+6,none⟩=some (.slice n p.name.length cn)) (e7:w'.cell? ⟨b,off+i*9+7,none⟩=some (.slice t p.text.length ct)) (e8:w'.cell? ⟨b,off+i*9+8,none⟩=some (.slice q p.attrs.length cq)):Byt w (.slice n p.name.length cn) p.name∧Byt w (.slice t p.text.length ct) p.text∧RdAttrs w (.slice q p.attrs.length cq) p.attrs:=by
 obtain⟨C,_,hc,K,N,X,A,rfl,h1,h2,h3,h4⟩:=h
 have f6:=(hb.cell (p:=⟨b,off+i*9+6,none⟩) hbl).trans (hc 6 (by omega))
 have f7:=(hb.cell (p:=⟨b,off+i*9+7,none⟩) hbl).trans (hc 7 (by omega))
 have f8:=(hb.cell (p:=⟨b,off+i*9+8,none⟩) hbl).trans (hc 8 (by omega))
 rw [e6]at f6
 rw [e7]at f7
 rw [e8]at f8
 injection f6 with f6
 injection f7 with f7
 injection f8 with f8
 rw [f6,f7,f8]
 exact⟨h2,h3,h4⟩
theorem zkc {l:List PlV} {k m:Nat} {p:PlV} (hp:l[k]? = some p) {left lf:Int} {acc:List (Tr (m+1))} (he:prjK (prj l m) (zao l p.id) [] (left-1)=(acc,lf)):(prj l (m+1) k left).1=(⟨p.kind,p.name,p.text,p.attrs,acc⟩:Nd (Tr (m+1)))∧(prj l (m+1) k left).2=lf:=
 ⟨(congrArg Prod.fst (zdj hp left)).trans (congrArg (fun x:List (Tr (m+1))×Int=>((⟨p.kind,p.name,p.text,p.attrs,x.1⟩:Nd (Tr (m+1))):Tr (m+2))) he),(congrArg Prod.snd (zdj hp left)).trans (congrArg Prod.snd he)⟩
def zec (m:Nat):Prop:=∀(w0 w:Xe) (sb:Nat) (a:Xc) (c:Nat) (l:List PlV) (F:Xb) (k:Nat) (left deep:Int) (lb:Nat),StR w0 sb a c l F->Below w0.heap.size w0 w->w0.heap.size<=lb->Loc w lb #[.int .i64 left] 3->(l.map PlV.id).Nodup->l.length<=100000->(∀p∈l,-9223372036854775808<=p.kind∧p.kind<=9223372036854775807)->k<l.length->0<left->left<=1000->deep+(m:Int)=20->0<=deep->
  Calls Tryz.prog 80 #[.pointer (some ⟨sb,0,none⟩),.int .i64 (k:Int),.int .i64 deep,.pointer (some ⟨lb,0,none⟩)] w fun e w'=>∃(kd:Int) (a1:Xc) (n1 c1:Nat) (a2:Xc) (n2 c2:Nat) (a3:Xc) (n3 c3:Nat) (a4:Xc) (n4 c4:Nat),e=.returned (.agg #[.int .i64 kd,.slice a1 n1 c1,.slice a2 n2 c2,.slice a3 n3 c3,.slice a4 n4 c4])∧∃G,NodeQ w0 (m+1) w' [.int .i64 kd,.slice a1 n1 c1,.slice a2 n2 c2,.slice a3 n3 c3,.slice a4 n4 c4] (prj l m k left).1 G∧G.Nodup∧Rng G w.heap.size w'.heap.size∧Loc w' lb #[.int .i64 (prj l m k left).2] 3∧Frm w w' [lb]
set_option maxHeartbeats 12800000 in
theorem zlj:zec 0:=by
 intro w0 w sb a c l F k left deep lb h0 hb0 hlb hll hu hlen hkinds hk hl0 hl1 hdeep hdp0
 refine zaf ?_
 intro Q HQ
 obtain⟨i0,hi0,hz0,hz1,hz2⟩:=info_parts Tryz.info37
 have hs0:=h0.keep hb0
 obtain⟨h0_,_⟩ | ⟨b,off,cap,hv,_,hbl,hel⟩:=(PlsR.rd h0.2).cases
 ·rw [h0_]at hk;simp at hk
 cases hv
 obtain⟨k0,ck0,n0,cn0,t0,ct0,q0,cq0,e0,e1,e2,e3,e4,e5,e6,e7,e8,hrd⟩:=zkI hb0 hbl (hel k hk)
 have hp:l[k]? = some l[k]:=by simp [hk]
 have hK:=hkinds l[k] (List.getElem_mem _)
 have hslen:sb<w.heap.size:=hs0.1.lt
 have y0:=hs0.1.cell 0
 simp only [List.getElem?_toArray,List.getElem?_cons_zero]at y0
 have hbw:b<w.heap.size:=Nat.lt_of_lt_of_le hbl hb0.size
 have hkz:(k:Int)<(l.length:Int):=by omega
 have hk0':(0:Int)<=(k:Int):=by omega
 have hllt:lb<w.heap.size:=hll.lt
 have hrd1:=zhn hb0 hbl (hel k hk) e4 e6 e7 e8
 clear hel hrd
 generalize l[k]=p at *
 obtain⟨r2,r3,r4⟩:=hrd1
 have lr:=(((Loc.made w #[.int .i64 0,.slice none 0 0,.slice none 0 0,.slice none 0 0,.slice none 0 0] 37).alloc (.cells #[.int .i64 p.idN,.int .i64 p.idR,.int .i64 p.parN,.int .i64 p.parR,.slice k0 p.key.length ck0,.int .i64 p.kind,.slice n0 p.name.length cn0,.slice t0 p.text.length ct0,.slice q0 p.attrs.length cq0] 117)).alloc (.cells #[.int .i64 p.kind,.slice n0 p.name.length cn0,.slice t0 p.text.length ct0,.slice q0 p.attrs.length cq0,.slice none 0 0] 37)).other lb 0 (.int .i64 (left-1)) (by omega)
 have ln0:=Loc.made ((w.alloc (.cells #[.int .i64 0,.slice none 0 0,.slice none 0 0,.slice none 0 0,.slice none 0 0] 37)).alloc (.cells #[.int .i64 p.idN,.int .i64 p.idR,.int .i64 p.parN,.int .i64 p.parR,.slice k0 p.key.length ck0,.int .i64 p.kind,.slice n0 p.name.length cn0,.slice t0 p.text.length ct0,.slice q0 p.attrs.length cq0] 117)) #[.int .i64 p.kind,.slice n0 p.name.length cn0,.slice t0 p.text.length ct0,.slice q0 p.attrs.length cq0,.slice none 0 0] 37
 simp only [World.size_alloc]at ln0
 have ln:=ln0.other lb 0 (.int .i64 (left-1)) (by omega)
 have ll:=(((hll.alloc (.cells #[.int .i64 0,.slice none 0 0,.slice none 0 0,.slice none 0 0,.slice none 0 0] 37)).alloc (.cells #[.int .i64 p.idN,.int .i64 p.idR,.int .i64 p.parN,.int .i64 p.parR,.slice k0 p.key.length ck0,.int .i64 p.kind,.slice n0 p.name.length cn0,.slice t0 p.text.length ct0,.slice q0 p.attrs.length cq0] 117)).alloc (.cells #[.int .i64 p.kind,.slice n0 p.name.length cn0,.slice t0 p.text.length ct0,.slice q0 p.attrs.length cq0,.slice none 0 0] 37)).set 0 (.int .i64 (left-1))
 have hbA:Below w.heap.size w (((w.alloc (.cells #[.int .i64 0,.slice none 0 0,.slice none 0 0,.slice none 0 0,.slice none 0 0] 37)).alloc (.cells #[.int .i64 p.idN,.int .i64 p.idR,.int .i64 p.parN,.int .i64 p.parR,.slice k0 p.key.length ck0,.int .i64 p.kind,.slice n0 p.name.length cn0,.slice t0 p.text.length ct0,.slice q0 p.attrs.length cq0] 117)).alloc (.cells #[.int .i64 p.kind,.slice n0 p.name.length cn0,.slice t0 p.text.length ct0,.slice q0 p.attrs.length cq0,.slice none 0 0] 37)):=(((Below.refl _ _).alloc (Nat.le_refl _) _).alloc (by simp) _).alloc (by simp;omega) _
 have hf3:Frm w ((((w.alloc (.cells #[.int .i64 0,.slice none 0 0,.slice none 0 0,.slice none 0 0,.slice none 0 0] 37)).alloc (.cells #[.int .i64 p.idN,.int .i64 p.idR,.int .i64 p.parN,.int .i64 p.parR,.slice k0 p.key.length ck0,.int .i64 p.kind,.slice n0 p.name.length cn0,.slice t0 p.text.length ct0,.slice q0 p.attrs.length cq0] 117)).alloc (.cells #[.int .i64 p.kind,.slice n0 p.name.length cn0,.slice t0 p.text.length ct0,.slice q0 p.attrs.length cq0,.slice none 0 0] 37)).setCell ⟨lb,0,none⟩ (.int .i64 (left-1))) [lb]:=(Frm.ofBelow hbA [lb]).trans (Frm.set _ _ _ _)
 have hb3:Below w0.heap.size w0 ((((w.alloc (.cells #[.int .i64 0,.slice none 0 0,.slice none 0 0,.slice none 0 0,.slice none 0 0] 37)).alloc (.cells #[.int .i64 p.idN,.int .i64 p.idR,.int .i64 p.parN,.int .i64 p.parR,.slice k0 p.key.length ck0,.int .i64 p.kind,.slice n0 p.name.length cn0,.slice t0 p.text.length ct0,.slice q0 p.attrs.length cq0] 117)).alloc (.cells #[.int .i64 p.kind,.slice n0 p.name.length cn0,.slice t0 p.text.length ct0,.slice q0 p.attrs.length cq0,.slice none 0 0] 37)).setCell ⟨lb,0,none⟩ (.int .i64 (left-1))):=hb0.trans (hf3.below hb0.size (fun g hg=>by simp at hg;omega))
 have hs3:((((w.alloc (.cells #[.int .i64 0,.slice none 0 0,.slice none 0 0,.slice none 0 0,.slice none 0 0] 37)).alloc (.cells #[.int .i64 p.idN,.int .i64 p.idR,.int .i64 p.parN,.int .i64 p.parR,.slice k0 p.key.length ck0,.int .i64 p.kind,.slice n0 p.name.length cn0,.slice t0 p.text.length ct0,.slice q0 p.attrs.length cq0] 117)).alloc (.cells #[.int .i64 p.kind,.slice n0 p.name.length cn0,.slice t0 p.text.length ct0,.slice q0 p.attrs.length cq0,.slice none 0 0] 37)).setCell ⟨lb,0,none⟩ (.int .i64 (left-1))).heap.size=w.heap.size+3:=by simp
 have LL:=hide (And.intro lr (And.intro ln (And.intro ll (And.intro hf3 (And.intro hb3 hs3)))))
 have xl:(((w.alloc (.cells #[.int .i64 0,.slice none 0 0,.slice none 0 0,.slice none 0 0,.slice none 0 0] 37)).alloc (.cells #[.int .i64 p.idN,.int .i64 p.idR,.int .i64 p.parN,.int .i64 p.parR,.slice k0 p.key.length ck0,.int .i64 p.kind,.slice n0 p.name.length cn0,.slice t0 p.text.length ct0,.slice q0 p.attrs.length cq0] 117)).alloc (.cells #[.int .i64 p.kind,.slice n0 p.name.length cn0,.slice t0 p.text.length ct0,.slice q0 p.attrs.length cq0,.slice none 0 0] 37)).cell? ⟨lb,0,none⟩=some (.int .i64 left):=(hbA.cell (p:=⟨lb,0,none⟩) hllt).trans (hll.cell 0)
 have xf:(((w.alloc (.cells #[.int .i64 0,.slice none 0 0,.slice none 0 0,.slice none 0 0,.slice none 0 0] 37)).alloc (.cells #[.int .i64 p.idN,.int .i64 p.idR,.int .i64 p.parN,.int .i64 p.parR,.slice k0 p.key.length ck0,.int .i64 p.kind,.slice n0 p.name.length cn0,.slice t0 p.text.length ct0,.slice q0 p.attrs.length cq0] 117)).alloc (.cells #[.int .i64 p.kind,.slice n0 p.name.length cn0,.slice t0 p.text.length ct0,.slice q0 p.attrs.length cq0,.slice none 0 0] 37)).frozen? ⟨lb,0,none⟩=false:=((((hll.alloc (.cells #[.int .i64 0,.slice none 0 0,.slice none 0 0,.slice none 0 0,.slice none 0 0] 37)).alloc (.cells #[.int .i64 p.idN,.int .i64 p.idR,.int .i64 p.parN,.int .i64 p.parR,.slice k0 p.key.length ck0,.int .i64 p.kind,.slice n0 p.name.length cn0,.slice t0 p.text.length ct0,.slice q0 p.attrs.length cq0] 117)).alloc (.cells #[.int .i64 p.kind,.slice n0 p.name.length cn0,.slice t0 p.text.length ct0,.slice q0 p.attrs.length cq0,.slice none 0 0] 37))).frozen 0
 have xi:=(((Loc.made (w.alloc (.cells #[.int .i64 0,.slice none 0 0,.slice none 0 0,.slice none 0 0,.slice none 0 0] 37)) #[.int .i64 p.idN,.int .i64 p.idR,.int .i64 p.parN,.int .i64 p.parR,.slice k0 p.key.length ck0,.int .i64 p.kind,.slice n0 p.name.length cn0,.slice t0 p.text.length ct0,.slice q0 p.attrs.length cq0] 117).alloc (.cells #[.int .i64 p.kind,.slice n0 p.name.length cn0,.slice t0 p.text.length ct0,.slice q0 p.attrs.length cq0,.slice none 0 0] 37)).other lb 0 (.int .i64 (left-1)) (by simp;omega))
 simp only [World.size_alloc]at xi
 have xi0:=xi.cell 0
 have xi1:=xi.cell 1
 simp at xi0 xi1
 have HKS:=hide hkinds
 have HH:=hide (And.intro hK (And.intro r2 (And.intro r3 (And.intro r4 (And.intro hp hu)))))
 clear lr ln ln0 ll hbA hf3 hb3 hs3 xi hK r2 r3 r4 hp hkinds hu hll hs0
 go_enter Tryz.func80,Tryz.ntmps80
 go_wp2_with fail
 obtain⟨lr3,ln3,ll3,hf3,hb3,hs3⟩:=zaa LL
 obtain⟨hK,r2,r3,r4,hp,hu⟩:=zaa HH
 clear LL HH e0 e1 e2 e3 e4 e5 e6 e7 e8 xl xf xi0 xi1 y0
 generalize ((((w.alloc (.cells #[.int .i64 0,.slice none 0 0,.slice none 0 0,.slice none 0 0,.slice none 0 0] 37)).alloc (.cells #[.int .i64 p.idN,.int .i64 p.idR,.int .i64 p.parN,.int .i64 p.parR,.slice k0 p.key.length ck0,.int .i64 p.kind,.slice n0 p.name.length cn0,.slice t0 p.text.length ct0,.slice q0 p.attrs.length cq0] 117)).alloc (.cells #[.int .i64 p.kind,.slice n0 p.name.length cn0,.slice t0 p.text.length ct0,.slice q0 p.attrs.length cq0,.slice none 0 0] 37)).setCell ⟨lb,0,none⟩ (.int .i64 (left-1)))=w3 at *
 refine (zhY w3 sb _ c l F (p.idN,p.idR) (h0.keep hb3) hlen).mono ?_
 rintro e w4 ⟨v,rfl,hv4,hb4⟩
 have hkidx:∀x∈zao l p.id,x<l.length:=fun x hx=>(zfd hu hx).2.1
 have hks:(zao l (p.idN,p.idR)).length<=l.length:=zcI _ _
 obtain⟨kav,kcv,hve,_,_⟩:=hv4.ints.shape
 subst hve
 have hf4:=hf3.trans (Frm.ofBelow hb4 [lb])
 have lr4:=lr3.all hb4
 have ln4:=ln3.all hb4
 have ll4:=ll3.all hb4
 have hb04:=hb3.trans (hb4.mono hb3.size)
 have hs4:=hb4.size
 rw [zcu]at hv4 ⊢
 have hpe:zao l (p.idN,p.idR)=zao l p.id:=rfl
 rw [hpe]at hv4 hks ⊢
 clear lr3 ln3 ll3 hf3 hb3 hb4 hpe
 obtain⟨ks,hkse⟩:∃ks,zao l p.id=ks:=⟨_,rfl⟩
 rw [hkse]at hv4 hks hkidx ⊢
 go_wp2_with fail
 have hdd:deep=20:=by omega
 subst hdd
 have hd1:(20:Int)<=20:=by omega
 have hpz:=zhk hp left
 have hks9:(ks.length:Int)<=100000:=by omega
 clear hi0 hz0 hz1 hz2
 refine wp_loop_rounds 1 ?_
 rw [rounds_succ]
 have hfin:∀W,Frm w4 W [w.heap.size]->Loc W w.heap.size #[.int .i64 p.kind,.slice n0 p.name.length cn0,.slice t0 p.text.length ct0,.slice q0 p.attrs.length cq0,.slice none 0 0] 37->Q (.returned (.agg #[.int .i64 p.kind,.slice n0 p.name.length cn0,.slice t0 p.text.length ct0,.slice q0 p.attrs.length cq0,.slice none 0 0])) W:=fun W hf hl=>by
  refine zaa HQ _ _ ⟨p.kind,_,_,_,_,_,_,_,_,_,_,_,_,rfl,[],?_,List.nodup_nil,(fun q hq=>(by cases hq)),?_,?_⟩
  ·rw [hpz]
   exact NodeQ.bare hK.1 hK.2 r2 r3 r4
  ·rw [hpz]
   exact ll4.frm hf (by simp;omega)
  ·exact hf4.new hf (fun g hg=>by simp at hg;omega)
 have HF:=hide hfin
 clear hfin hpz
 obtain⟨y0,y1,y2,y3,y4⟩:=ln4.five
 obtain⟨g0,g1,g2,g3,g4⟩:=lr4.five
 have i0_:=lr4.frozen 0
 have i1_:=lr4.frozen 1
 have i2_:=lr4.frozen 2
 have i3_:=lr4.frozen 3
 have i4_:=lr4.frozen 4
 obtain⟨lX,fX⟩:=zbB lr4 (.int .i64 p.kind) (.slice n0 p.name.length cn0) (.slice t0 p.text.length ct0) (.slice q0 p.attrs.length cq0) (.slice none 0 0)
 have HE:=hide (zaa HF _ fX lX)
 obtain⟨z0,z1,z2,z3,z4⟩:=lX.five
 have HZZ:=hide (And.intro z0 (And.intro z1 (And.intro z2 (And.intro z3 z4))))
 clear lX fX z0 z1 z2 z3 z4
 by_cases hk0:0<ks.length
 ·have hk1:(0:Int)<(ks.length:Int):=by omega
  clear hk0 h0 hv4 hf4 ln4 lr4 ll4
  go_wp2_with fail
  exact bodyPost_ret (v:=.agg #[.int .i64 p.kind,.slice n0 p.name.length cn0,.slice t0 p.text.length ct0,.slice q0 p.attrs.length cq0,.slice none 0 0]) (by simp [results,Tryz.results80,go_sem,g0,g1,g2,g3,g4]) rfl (zaa HE)
 ·have hk1:¬ (0:Int)<(ks.length:Int):=by omega
  clear hk0 h0 hv4 hf4 ln4 lr4 ll4
  go_wp2_with fail
  exact bodyPost_ret (v:=.agg #[.int .i64 p.kind,.slice n0 p.name.length cn0,.slice t0 p.text.length ct0,.slice q0 p.attrs.length cq0,.slice none 0 0]) (by simp [results,Tryz.results80,go_sem,g0,g1,g2,g3,g4]) rfl (zaa HE)
set_option maxHeartbeats 12800000 in
theorem zls (m:Nat) (ih:zec m):zec (m+1):=by
 intro w0 w sb a c l F k left deep lb h0 hb0 hlb hll hu hlen hkinds hk hl0 hl1 hdeep hdp0
 refine zaf ?_
 intro Q HQ
 obtain⟨i0,hi0,hz0,hz1,hz2⟩:=info_parts Tryz.info37
 have hs0:=h0.keep hb0
 obtain⟨h0_,_⟩ | ⟨b,off,cap,hv,_,hbl,hel⟩:=(PlsR.rd h0.2).cases
 ·rw [h0_]at hk;simp at hk
 cases hv
 obtain⟨k0,ck0,n0,cn0,t0,ct0,q0,cq0,e0,e1,e2,e3,e4,e5,e6,e7,e8,hrd⟩:=zkI hb0 hbl (hel k hk)
 have hp:l[k]? = some l[k]:=by simp [hk]
 have hK:=hkinds l[k] (List.getElem_mem _)
 have hslen:sb<w.heap.size:=hs0.1.lt
 have y0:=hs0.1.cell 0
 simp only [List.getElem?_toArray,List.getElem?_cons_zero]at y0
 have hbw:b<w.heap.size:=Nat.lt_of_lt_of_le hbl hb0.size
 have hkz:(k:Int)<(l.length:Int):=by omega
 have hk0':(0:Int)<=(k:Int):=by omega
 have hllt:lb<w.heap.size:=hll.lt
 have hrd1:=zhn hb0 hbl (hel k hk) e4 e6 e7 e8
 clear hel hrd
 generalize l[k]=p at *
 obtain⟨r2,r3,r4⟩:=hrd1
 have lr:=(((Loc.made w #[.int .i64 0,.slice none 0 0,.slice none 0 0,.slice none 0 0,.slice none 0 0] 37).alloc (.cells #[.int .i64 p.idN,.int .i64 p.idR,.int .i64 p.parN,.int .i64 p.parR,.slice k0 p.key.length ck0,.int .i64 p.kind,.slice n0 p.name.length cn0,.slice t0 p.text.length ct0,.slice q0 p.attrs.length cq0] 117)).alloc (.cells #[.int .i64 p.kind,.slice n0 p.name.length cn0,.slice t0 p.text.length ct0,.slice q0 p.attrs.length cq0,.slice none 0 0] 37)).other lb 0 (.int .i64 (left-1)) (by omega)
 have ln0:=Loc.made ((w.alloc (.cells #[.int .i64 0,.slice none 0 0,.slice none 0 0,.slice none 0 0,.slice none 0 0] 37)).alloc (.cells #[.int .i64 p.idN,.int .i64 p.idR,.int .i64 p.parN,.int .i64 p.parR,.slice k0 p.key.length ck0,.int .i64 p.kind,.slice n0 p.name.length cn0,.slice t0 p.text.length ct0,.slice q0 p.attrs.length cq0] 117)) #[.int .i64 p.kind,.slice n0 p.name.length cn0,.slice t0 p.text.length ct0,.slice q0 p.attrs.length cq0,.slice none 0 0] 37
 simp only [World.size_alloc]at ln0
 have ln:=ln0.other lb 0 (.int .i64 (left-1)) (by omega)
 have ll:=(((hll.alloc (.cells #[.int .i64 0,.slice none 0 0,.slice none 0 0,.slice none 0 0,.slice none 0 0] 37)).alloc (.cells #[.int .i64 p.idN,.int .i64 p.idR,.int .i64 p.parN,.int .i64 p.parR,.slice k0 p.key.length ck0,.int .i64 p.kind,.slice n0 p.name.length cn0,.slice t0 p.text.length ct0,.slice q0 p.attrs.length cq0] 117)).alloc (.cells #[.int .i64 p.kind,.slice n0 p.name.length cn0,.slice t0 p.text.length ct0,.slice q0 p.attrs.length cq0,.slice none 0 0] 37)).set 0 (.int .i64 (left-1))
 have hbA:Below w.heap.size w (((w.alloc (.cells #[.int .i64 0,.slice none 0 0,.slice none 0 0,.slice none 0 0,.slice none 0 0] 37)).alloc (.cells #[.int .i64 p.idN,.int .i64 p.idR,.int .i64 p.parN,.int .i64 p.parR,.slice k0 p.key.length ck0,.int .i64 p.kind,.slice n0 p.name.length cn0,.slice t0 p.text.length ct0,.slice q0 p.attrs.length cq0] 117)).alloc (.cells #[.int .i64 p.kind,.slice n0 p.name.length cn0,.slice t0 p.text.length ct0,.slice q0 p.attrs.length cq0,.slice none 0 0] 37)):=(((Below.refl _ _).alloc (Nat.le_refl _) _).alloc (by simp) _).alloc (by simp;omega) _
 have hf3:Frm w ((((w.alloc (.cells #[.int .i64 0,.slice none 0 0,.slice none 0 0,.slice none 0 0,.slice none 0 0] 37)).alloc (.cells #[.int .i64 p.idN,.int .i64 p.idR,.int .i64 p.parN,.int .i64 p.parR,.slice k0 p.key.length ck0,.int .i64 p.kind,.slice n0 p.name.length cn0,.slice t0 p.text.length ct0,.slice q0 p.attrs.length cq0] 117)).alloc (.cells #[.int .i64 p.kind,.slice n0 p.name.length cn0,.slice t0 p.text.length ct0,.slice q0 p.attrs.length cq0,.slice none 0 0] 37)).setCell ⟨lb,0,none⟩ (.int .i64 (left-1))) [lb]:=(Frm.ofBelow hbA [lb]).trans (Frm.set _ _ _ _)
 have hb3:Below w0.heap.size w0 ((((w.alloc (.cells #[.int .i64 0,.slice none 0 0,.slice none 0 0,.slice none 0 0,.slice none 0 0] 37)).alloc (.cells #[.int .i64 p.idN,.int .i64 p.idR,.int .i64 p.parN,.int .i64 p.parR,.slice k0 p.key.length ck0,.int .i64 p.kind,.slice n0 p.name.length cn0,.slice t0 p.text.length ct0,.slice q0 p.attrs.length cq0] 117)).alloc (.cells #[.int .i64 p.kind,.slice n0 p.name.length cn0,.slice t0 p.text.length ct0,.slice q0 p.attrs.length cq0,.slice none 0 0] 37)).setCell ⟨lb,0,none⟩ (.int .i64 (left-1))):=hb0.trans (hf3.below hb0.size (fun g hg=>by simp at hg;omega))
 have hs3:((((w.alloc (.cells #[.int .i64 0,.slice none 0 0,.slice none 0 0,.slice none 0 0,.slice none 0 0] 37)).alloc (.cells #[.int .i64 p.idN,.int .i64 p.idR,.int .i64 p.parN,.int .i64 p.parR,.slice k0 p.key.length ck0,.int .i64 p.kind,.slice n0 p.name.length cn0,.slice t0 p.text.length ct0,.slice q0 p.attrs.length cq0] 117)).alloc (.cells #[.int .i64 p.kind,.slice n0 p.name.length cn0,.slice t0 p.text.length ct0,.slice q0 p.attrs.length cq0,.slice none 0 0] 37)).setCell ⟨lb,0,none⟩ (.int .i64 (left-1))).heap.size=w.heap.size+3:=by simp
 have LL:=hide (And.intro lr (And.intro ln (And.intro ll (And.intro hf3 (And.intro hb3 hs3)))))
 have xl:(((w.alloc (.cells #[.int .i64 0,.slice none 0 0,.slice none 0 0,.slice none 0 0,.slice none 0 0] 37)).alloc (.cells #[.int .i64 p.idN,.int .i64 p.idR,.int .i64 p.parN,.int .i64 p.parR,.slice k0 p.key.length ck0,.int .i64 p.kind,.slice n0 p.name.length cn0,.slice t0 p.text.length ct0,.slice q0 p.attrs.length cq0] 117)).alloc (.cells #[.int .i64 p.kind,.slice n0 p.name.length cn0,.slice t0 p.text.length ct0,.slice q0 p.attrs.length cq0,.slice none 0 0] 37)).cell? ⟨lb,0,none⟩=some (.int .i64 left):=(hbA.cell (p:=⟨lb,0,none⟩) hllt).trans (hll.cell 0)
 have xf:(((w.alloc (.cells #[.int .i64 0,.slice none 0 0,.slice none 0 0,.slice none 0 0,.slice none 0 0] 37)).alloc (.cells #[.int .i64 p.idN,.int .i64 p.idR,.int .i64 p.parN,.int .i64 p.parR,.slice k0 p.key.length ck0,.int .i64 p.kind,.slice n0 p.name.length cn0,.slice t0 p.text.length ct0,.slice q0 p.attrs.length cq0] 117)).alloc (.cells #[.int .i64 p.kind,.slice n0 p.name.length cn0,.slice t0 p.text.length ct0,.slice q0 p.attrs.length cq0,.slice none 0 0] 37)).frozen? ⟨lb,0,none⟩=false:=((((hll.alloc (.cells #[.int .i64 0,.slice none 0 0,.slice none 0 0,.slice none 0 0,.slice none 0 0] 37)).alloc (.cells #[.int .i64 p.idN,.int .i64 p.idR,.int .i64 p.parN,.int .i64 p.parR,.slice k0 p.key.length ck0,.int .i64 p.kind,.slice n0 p.name.length cn0,.slice t0 p.text.length ct0,.slice q0 p.attrs.length cq0] 117)).alloc (.cells #[.int .i64 p.kind,.slice n0 p.name.length cn0,.slice t0 p.text.length ct0,.slice q0 p.attrs.length cq0,.slice none 0 0] 37))).frozen 0
 have xi:=(((Loc.made (w.alloc (.cells #[.int .i64 0,.slice none 0 0,.slice none 0 0,.slice none 0 0,.slice none 0 0] 37)) #[.int .i64 p.idN,.int .i64 p.idR,.int .i64 p.parN,.int .i64 p.parR,.slice k0 p.key.length ck0,.int .i64 p.kind,.slice n0 p.name.length cn0,.slice t0 p.text.length ct0,.slice q0 p.attrs.length cq0] 117).alloc (.cells #[.int .i64 p.kind,.slice n0 p.name.length cn0,.slice t0 p.text.length ct0,.slice q0 p.attrs.length cq0,.slice none 0 0] 37)).other lb 0 (.int .i64 (left-1)) (by simp;omega))
 simp only [World.size_alloc]at xi
 have xi0:=xi.cell 0
 have xi1:=xi.cell 1
 simp at xi0 xi1
 have HKS:=hide hkinds
 have HH:=hide (And.intro hK (And.intro r2 (And.intro r3 (And.intro r4 (And.intro hp hu)))))
 clear lr ln ln0 ll hbA hf3 hb3 hs3 xi hK r2 r3 r4 hp hkinds hu hll hs0
 go_enter Tryz.func80,Tryz.ntmps80
 go_wp2_with fail
 obtain⟨lr3,ln3,ll3,hf3,hb3,hs3⟩:=zaa LL
 obtain⟨hK,r2,r3,r4,hp,hu⟩:=zaa HH
 clear LL HH e0 e1 e2 e3 e4 e5 e6 e7 e8 xl xf xi0 xi1 y0
 generalize ((((w.alloc (.cells #[.int .i64 0,.slice none 0 0,.slice none 0 0,.slice none 0 0,.slice none 0 0] 37)).alloc (.cells #[.int .i64 p.idN,.int .i64 p.idR,.int .i64 p.parN,.int .i64 p.parR,.slice k0 p.key.length ck0,.int .i64 p.kind,.slice n0 p.name.length cn0,.slice t0 p.text.length ct0,.slice q0 p.attrs.length cq0] 117)).alloc (.cells #[.int .i64 p.kind,.slice n0 p.name.length cn0,.slice t0 p.text.length ct0,.slice q0 p.attrs.length cq0,.slice none 0 0] 37)).setCell ⟨lb,0,none⟩ (.int .i64 (left-1)))=w3 at *
 refine (zhY w3 sb _ c l F (p.idN,p.idR) (h0.keep hb3) hlen).mono ?_
 rintro e w4 ⟨v,rfl,hv4,hb4⟩
 have hkidx:∀x∈zao l p.id,x<l.length:=fun x hx=>(zfd hu hx).2.1
 have hks:(zao l (p.idN,p.idR)).length<=l.length:=zcI _ _
 obtain⟨kav,kcv,hve,_,_⟩:=hv4.ints.shape
 subst hve
 have hf4:=hf3.trans (Frm.ofBelow hb4 [lb])
 have lr4:=lr3.all hb4
 have ln4:=ln3.all hb4
 have ll4:=ll3.all hb4
 have hb04:=hb3.trans (hb4.mono hb3.size)
 have hs4:=hb4.size
 rw [zcu]at hv4 ⊢
 have hpe:zao l (p.idN,p.idR)=zao l p.id:=rfl
 rw [hpe]at hv4 hks ⊢
 clear lr3 ln3 ll3 hf3 hb3 hb4 hpe
 obtain⟨ks,hkse⟩:∃ks,zao l p.id=ks:=⟨_,rfl⟩
 rw [hkse]at hv4 hks hkidx ⊢
 go_wp2_with fail
 have hpz:∀acc lf,prjK (prj l m) ks [] (left-1)=(acc,lf)->_:=fun acc lf he=>zkc (acc:=acc) (lf:=lf) (m:=m) hp (by rw [hkse];exact he)
 have hdp:¬ (20:Int)<=deep:=by omega
 have hd9:deep+1+(m:Int)=20:=by omega
 have hd8:(0:Int)<=deep+1:=by omega
 have hdw:IntKind.i64.wrap (deep+1)=deep+1:=by simp [IntKind.wrap,IntKind.bits,IntKind.signed];omega
 have hks9:(ks.length:Int)<=100000:=by omega
 have he2:∀args w,(callFunc 80 args).run Tryz.prog w=.ok (.enter 80 args) w:=enters_of Tryz.func80 (by kernel_rfl) rfl
 have HZ:=hide hpz
 have HKI:=hide hkidx
 clear hpz hkidx hdeep
 go_loopw [12] (fun i wr=>∃(j:Nat) (acc:List (Tr (m+1))) (ka:Xc) (cv:Nat) (Fk:Xb) (lf:Int),j<=ks.length∧acc.length<=j∧i=.int .i64 (j:Int)∧Loc wr (w.heap.size+1+1) #[.int .i64 p.kind,.slice n0 p.name.length cn0,.slice t0 p.text.length ct0,.slice q0 p.attrs.length cq0,.slice ka acc.length cv] 37∧OwElems wr 37 5 (.slice ka acc.length cv) acc (NodeQ w0 (m+1) wr) Fk∧Fk.Nodup∧Rng Fk w4.heap.size wr.heap.size∧Loc wr lb #[.int .i64 lf] 3∧-1000<=lf∧lf<=1000∧Hid (prjK (prj l m) (ks.drop j) acc lf=prjK (prj l m) ks [] (left-1))∧Frm w4 wr [lb,w.heap.size+1+1]) (fun i _=>ks.length-(intOf i).toNat)
 case atStart=>exact⟨0,[],none,0,[],left-1,Nat.zero_le _,Nat.le_refl _,rfl,ln4,OwElems.naught _ _ _ _,List.nodup_nil,fun q hq=>(by cases hq),ll4,by omega,by omega,hide rfl,Frm.refl _ _⟩
 case round=>
  obtain⟨j,acc,ka,cv,Fk,lf,hj,hal,rfl,lnr,hO,hOn,hOr,llr,lf1,lf2,HPK,hfr⟩:=hrel
  have lrr:=lr4.frm hfr (by simp;omega)
  have hvr:=OwnZ.frm hv4 hfr (fun q hq=>by have:=hv4.rng q hq;simp;omega)
  have hbr:Below w0.heap.size w0 wr:=hb04.trans (hfr.below hb04.size (fun q hq=>by simp at hq;omega))
  have hs4w:=hfr.size
  have hnF:w.heap.size+1+1∉Fk:=fun e=>by have:=hOr _ e;omega
  have hlF:lb∉Fk:=fun e=>by have:=hOr _ e;omega
  have x4:wr.cell? ⟨w.heap.size+1+1,4,none⟩=some (.slice ka acc.length cv):=lnr.cell 4
  have x0l:wr.cell? ⟨lb,0,none⟩=some (.int .i64 lf):=llr.cell 0
  have hfin:∀W,Frm wr W [w.heap.size]->Loc W w.heap.size #[.int .i64 p.kind,.slice n0 p.name.length cn0,.slice t0 p.text.length ct0,.slice q0 p.attrs.length cq0,.slice ka acc.length cv] 37->prjK (prj l m) ks [] (left-1)=(acc,lf)->Q (.returned (.agg #[.int .i64 p.kind,.slice n0 p.name.length cn0,.slice t0 p.text.length ct0,.slice q0 p.attrs.length cq0,.slice ka acc.length cv])) W:=fun W hf hl he=>by
   refine zaa HQ _ _ ⟨p.kind,_,_,_,_,_,_,_,_,_,_,_,_,rfl,Fk,?_,hOn,hOr.mono (by omega) hf.size,?_,?_⟩
   ·rw [(zaa HZ _ _ he).1]
    exact⟨_,_,_,_,rfl,hK.1,hK.2,r2,r3,r4,OwElems.frm hO hf (fun q hq=>by have:=hOr q hq;simp;omega) (fun C x G hr hG=>hr.frm hf hG)⟩
   ·rw [(zaa HZ _ _ he).2]
    exact llr.frm hf (by simp;omega)
   ·exact⟨hf.os.trans (hfr.os.trans hf4.os),hf.tape.trans (hfr.tape.trans hf4.tape),hf.output.trans (hfr.output.trans hf4.output),by have:=hf.size;have:=hf4.size;omega,fun i hi hn=>by
     have h1:=hf.block i (by have:=hf4.size;omega) (by simp;omega)
     have h2:=hfr.block i (by have:=hf4.size;omega) (by simp at hn ⊢;omega)
     exact h1.trans (h2.trans (hf4.block i hi hn))⟩
  by_cases hjl:j<ks.length
  ·have hjl':(j:Int)<(ks.length:Int):=by omega
   have hj0:(0:Int)<=(j:Int):=by omega
   by_cases hlf:lf<=0
   ·have hstop:prjK (prj l m) ks [] (left-1)=(acc,lf):=by rw [<-zaa HPK,ziO _ _ _ _ hlf]
    obtain⟨y0,y1,y2,y3,y4⟩:=lnr.five
    obtain⟨g0,g1,g2,g3,g4⟩:=lrr.five
    have i0_:=lrr.frozen 0
    have i1_:=lrr.frozen 1
    have i2_:=lrr.frozen 2
    have i3_:=lrr.frozen 3
    have i4_:=lrr.frozen 4
    obtain⟨lX,fX⟩:=zbB lrr (.int .i64 p.kind) (.slice n0 p.name.length cn0) (.slice t0 p.text.length ct0) (.slice q0 p.attrs.length cq0) (.slice ka acc.length cv)
    have HE:=hide (hfin _ fX lX hstop)
    clear lX fX hfin hstop hO hOn hOr llr lrr lnr hvr hbr HPK hfr
    go_wp2_with fail
    exact bodyPost_ret (v:=.agg #[.int .i64 p.kind,.slice n0 p.name.length cn0,.slice t0 p.text.length ct0,.slice q0 p.attrs.length cq0,.slice ka acc.length cv]) (by simp [results,Tryz.results80,go_sem,g0,g1,g2,g3,g4]) rfl (zaa HE)
   have hnx:=zaa HPK
   rw [zjn _ ks j hjl acc lf hlf]at hnx
   have hki:=zaa HKI ks[j] (List.getElem_mem _)
   have hrng:=zmz l m ks[j] lf (by omega) lf2
   obtain⟨gz,hgz⟩:∃gz,kav=some ⟨gz,0,none⟩:=by
    rcases hvr.2.2 with ⟨e0,e1⟩ | ⟨g',cap',cur,e0,_⟩
    ·first | omega | (rw [zcu]at e1;omega) | (injection e0 with _ e2 _;omega)
    ·injection e0 with e1 _ _;exact⟨g',e1⟩
   subst hgz
   have xv:=hvr.cellz (j:=j) (by rw [zcu];exact hjl)
   have hgd:(natZ ks).getD j 0=((ks[j]:Nat):Int):=by simp [natZ,hjl]
   rw [hgd]at xv
   have HI:=hide (ih w0 wr.drew sb _ c l F ks[j] lf (deep+1) lb h0 hbr.drew hlb (llr.all ((Below.refl _ _).drew)) hu hlen (zaa HKS) hki (by omega) lf2 hd9 hd8)
   have HNX:=hide hnx
   have hdr:Below wr.heap.size wr wr.drew:=(Below.refl _ _).drew
   generalize hkj:ks[j]=kj at *
   obtain⟨pr,hpr⟩:∃pr,pr=prj l m kj lf:=⟨_,rfl⟩
   rw [<-hpr]at HI HNX hrng
   have HRG:=hide hrng
   clear hnx hki hgd hkj hpr hrng hfin HPK h0
   have lnd:=lnr.all hdr
   have hOd:OwElems wr.drew 37 5 (.slice ka acc.length cv) acc (NodeQ w0 (m+1) wr.drew) Fk:=OwElems.frm hO (Frm.ofBelow hdr []) (fun _ _=>by simp) (fun C x G hr hG=>hr.frm (Frm.ofBelow hdr []) (fun _ _=>by simp))
   have hkvF:∀q∈FB (.slice ka acc.length cv),q∈Fk:=fun q hq=>by
    obtain⟨_,_,_,_,_,_,rfl⟩:=hO
    exact List.mem_append_left _ hq
   have c4d:wr.drew.cell? ⟨w.heap.size+1+1,4,none⟩=some (.slice ka acc.length cv):=lnd.cell 4
   have xvd:wr.drew.cell? ⟨gz,j,none⟩=some (.int .i64 (kj:Int)):=(hdr.cell (zaJ xv)).trans xv
   have hld:lb≠w.heap.size+1+1:=by omega
   have hol:=OwElems.len hO
   go_wp2_with fail
   clear x4 x0l xv
   have hdz:wr.drew.heap.size=wr.heap.size:=rfl
   go_region_law
    (first
     | (refine ziU (by rfl) 80 [.tmp 55,.tmp 59,.tmp 61,.tmp 62] #[88,3,3,125] (by rfl) he2 [.pointer (some ⟨sb,0,none⟩),.int .i64 (kj:Int),.int .i64 (deep+1),.pointer (some ⟨lb,0,none⟩)] (by rfl) (zaa HI) ?_;clear HI;rintro e w7 ⟨kd,a1,n1,c1,a2,n2,c2,a3,n3,c3,a4,n4,c4,rfl,G,hG,ndG,rG,ll7,hf7⟩;have ln7:=lnd.frm hf7 (by simpa using fun e=>hld e.symm);have c47:w7.cell? ⟨w.heap.size+1+1,4,none⟩=some (.slice ka acc.length cv):=ln7.cell 4;have hb8:Below w7.heap.size w7 (w7.alloc (.cells #[.int .i64 kd,.slice a1 n1 c1,.slice a2 n2 c2,.slice a3 n3 c3,.slice a4 n4 c4] 37)):=(Below.refl _ _).alloc (Nat.le_refl _) _;have ln8:=ln7.all hb8;have c48:(w7.alloc (.cells #[.int .i64 kd,.slice a1 n1 c1,.slice a2 n2 c2,.slice a3 n3 c3,.slice a4 n4 c4] 37)).cell? ⟨w.heap.size+1+1,4,none⟩=some (.slice ka acc.length cv):=ln8.cell 4;refine⟨_,rfl,?_⟩)
     | (refine zbQ (R:=NodeQ w0 (m+1)) (fun h f d=>NodeQ.frm h f d) (by rfl) (.tmp 54) (.tmp 64) 35 (by rfl) 37 i0 (.agg #[.int .i64 0,.slice none 0 0,.slice none 0 0,.slice none 0 0,.slice none 0 0]) 5 104 Tryz.underlying35 hi0 hz0 hz1 hz2 rfl (by decide) _ acc Fk (by rfl) (OwElems.frm (OwElems.frm hOd hf7 (fun q hq e=>hlF (by simp at e;exact e ▸ hq)) (fun C x G hr hG=>hr.frm hf7 hG)) (Frm.ofBelow hb8 []) (fun _ _=>by simp) (fun C x G hr hG=>hr.frm (Frm.ofBelow hb8 []) (fun _ _=>by simp))) hOn ⟨w7.heap.size,0,none⟩ 1 [.int .i64 kd,.slice a1 n1 c1,.slice a2 n2 c2,.slice a3 n3 c3,.slice a4 n4 c4] pr.1 G (by rfl) rfl (ziI w7 _ _ _ _ _ _) (by intro y hy;simp at hy;rcases hy with rfl | rfl | rfl | rfl | rfl<;>rfl) (hG.keep hb8) ndG (fun g hg hg'=>by have h1:=(hOr g hg).2;have:=(rG g hg').1;omega) (fun q hq=>by have h1:=hf7.size;have h2:=hb8.size;rcases hq with hq | hq;(have:=(hOr q hq).2;omega);(have:=(rG q hq).2;omega)) (by unfold maxLen;omega) (by omega) ?_;intro g9 cap9 w9 F9 hF9 hN9 hM9 hf9 hg9;have ln9:=ln8.frm hf9 (fun e=>hnF (hkvF _ e));have c49:w9.cell? ⟨w.heap.size+1+1,4,none⟩=some (.slice ka acc.length cv):=ln9.cell 4;have z49:=ln9.frozen 4))
   all_goals
    have s7:=hf7.size
    have s8:=hb8.size
    have s9:=hf9.size
    have ll9:=(ll7.all hb8).frm hf9 (fun e=>hlF (hkvF _ e))
    have hF9l:F9.Nodup:=hN9
    have hrF9:Rng F9 w4.heap.size w9.heap.size:=fun q hq=>⟨by
     have h9:=hM9 q hq
     simp only [World.size_alloc]at h9
     rcases h9 with k | k | k
     ·exact (hOr q k).1
     ·have:=(rG q k).1;omega
     ·omega,OwElems.lt hF9 (fun C x G h=>NodeQ.lt h) q hq⟩
    have hn9:w.heap.size+1+1∉F9:=fun e=>by have:=hrF9 _ e;omega
    have hl9:lb∉F9:=fun e=>by have:=hrF9 _ e;omega
    have hfr9:Frm w4 w9 [lb,w.heap.size+1+1]:=⟨hf9.os.trans (hb8.os.trans (hf7.os.trans hfr.os)),hf9.tape.trans (hb8.tape.trans (hf7.tape.trans hfr.tape)),hf9.output.trans (hb8.output.trans (hf7.output.trans hfr.output)),by omega,fun i hi hn=>by
     have e1:=hf9.block i (by omega) (fun e=>by have:=(hOr i (hkvF i e)).1;omega)
     have e2:=hb8.block i (by omega)
     have e3:=hf7.block i (by show i<wr.heap.size;omega) (fun e=>hn (by simp at e ⊢;exact .inl e))
     exact e1.trans (e2.trans (e3.trans (hfr.block i hi hn)))⟩
    have fS:=Frm.set w9 (w.heap.size+1+1) 4 (.slice (some ⟨g9,0,none⟩) (acc.length+1) cap9)
    have lnS:=ln9.set 4 (.slice (some ⟨g9,0,none⟩) (acc.length+1) cap9)
    have llS:=ll9.frm fS (by simpa using hld)
    have hOS:OwElems (w9.setCell ⟨w.heap.size+1+1,4,none⟩ (.slice (some ⟨g9,0,none⟩) (acc.length+1) cap9)) 37 5 (.slice (some ⟨g9,0,none⟩) (acc.length+1) cap9) (acc++[pr.1]) (NodeQ w0 (m+1) (w9.setCell ⟨w.heap.size+1+1,4,none⟩ (.slice (some ⟨g9,0,none⟩) (acc.length+1) cap9))) F9:=OwElems.frm hF9 fS (fun q hq e=>hn9 (by simp at e;exact e ▸ hq)) (fun C x G hr hG=>hr.frm fS hG)
    have hfrS:=hfr9.trans (fS.mono (by simp))
    have HO:=hide (And.intro lnS (And.intro llS (And.intro hOS (And.intro hfrS (hrF9.mono (Nat.le_refl _) fS.size)))))
    clear lnS llS hOS hfrS hO hOd hOr hOn llr ll9 ln9 ln8 ln7 lnd lnr hfr9 fS hF9 hf9 hb8 hf7 hG
    go_wp2_with fail
    go_roundw
    case rel=>
     obtain⟨lnS,llS,hOS,hfrS,hrS⟩:=zaa HO
     have hla:(acc++[pr.1]).length=acc.length+1:=by simp
     exact⟨j+1,acc++[pr.1],some ⟨g9,0,none⟩,cap9,F9,pr.2,by omega,by rw [hla];omega,by go_num,by rw [hla];exact lnS,by rw [hla];exact hOS,hN9,hrS,llS,(zaa HRG).1,(zaa HRG).2,HNX,hfrS⟩
    case measure=>simp [intOf];omega
  ·have hjl':¬ (j:Int)<(ks.length:Int):=by omega
   have hstop:prjK (prj l m) ks [] (left-1)=(acc,lf):=by rw [<-zaa HPK,List.drop_eq_nil_of_le (by omega)];rfl
   obtain⟨y0,y1,y2,y3,y4⟩:=lnr.five
   obtain⟨g0,g1,g2,g3,g4⟩:=lrr.five
   have i0_:=lrr.frozen 0
   have i1_:=lrr.frozen 1
   have i2_:=lrr.frozen 2
   have i3_:=lrr.frozen 3
   have i4_:=lrr.frozen 4
   obtain⟨lX,fX⟩:=zbB lrr (.int .i64 p.kind) (.slice n0 p.name.length cn0) (.slice t0 p.text.length ct0) (.slice q0 p.attrs.length cq0) (.slice ka acc.length cv)
   have HE:=hide (hfin _ fX lX hstop)
   clear lX fX hfin hstop hO hOn hOr llr lrr lnr hvr hbr HPK hfr
   go_wp2_with fail
   exact bodyPost_ret (v:=.agg #[.int .i64 p.kind,.slice n0 p.name.length cn0,.slice t0 p.text.length ct0,.slice q0 p.attrs.length cq0,.slice ka acc.length cv]) (by simp [results,Tryz.results80,go_sem,g0,g1,g2,g3,g4]) rfl (zaa HE)
theorem zhR:∀m,zec m
 | 0=>zlj
 | m+1=>zls m (zhR m)
theorem PlsQ.at {w0 w:Xe} {gr c:Nat} {l:List PlV} {F:Xb} (h:PlsQ w0 w (.slice (some ⟨gr,0,none⟩) l.length c) l F) {k:Nat} (hk:k<l.length) :
  ∃(k1:Xc) (ck:Nat) (n1:Xc) (cn:Nat) (t1:Xc) (ct:Nat) (a1:Xc) (ca:Nat),w.cell? ⟨gr,k*9,none⟩=some (.int .i64 l[k].idN)∧w.cell? ⟨gr,k*9+1,none⟩=some (.int .i64 l[k].idR)∧w.cell? ⟨gr,k*9+2,none⟩=some (.int .i64 l[k].parN)∧w.cell? ⟨gr,k*9+3,none⟩=some (.int .i64 l[k].parR)∧w.cell? ⟨gr,k*9+4,none⟩=some (.slice k1 l[k].key.length ck)∧w.cell? ⟨gr,k*9+5,none⟩=some (.int .i64 l[k].kind)∧w.cell? ⟨gr,k*9+6,none⟩=some (.slice n1 l[k].name.length cn)∧w.cell? ⟨gr,k*9+7,none⟩=some (.slice t1 l[k].text.length ct)∧w.cell? ⟨gr,k*9+8,none⟩=some (.slice a1 l[k].attrs.length ca):=by
 obtain⟨Cs,Fs,e1,e2,e3,e4,rfl⟩:=h
 obtain⟨_,⟨K,N,X,A,eC,o1,o2,o3,o4⟩,eF⟩:=e3 k hk
 obtain⟨k1,ck,rfl,_⟩:=o1.shape
 obtain⟨n1,cn,rfl,_⟩:=o2.shape
 obtain⟨t1,ct,rfl,_⟩:=o3.shape
 obtain⟨a1,ca,rfl,_⟩:=Elems.shape o4
 have cc:∀j,j<9->w.cell? ⟨gr,k*9+j,none⟩=(Cs.getD k [])[j]? :=fun j hj=>zaU e4 (fun i hi=>(e3 i (by omega)).1) (by omega) k j hk hj
 rw [eC]at cc
 exact⟨k1,ck,n1,cn,t1,ct,a1,ca,cc 0 (by omega),cc 1 (by omega),cc 2 (by omega),cc 3 (by omega),cc 4 (by omega),cc 5 (by omega),cc 6 (by omega),cc 7 (by omega),cc 8 (by omega)⟩
theorem zfY {l:List PlV} (hu:(l.map PlV.id).Nodup) {k:Nat} {p:PlV} (hp:l[k]? = some p):posP l p.id=some k:=by
 obtain⟨hlt,rfl⟩:=List.getElem?_eq_some_iff.1 hp
 refine posP_some.2 ⟨hlt,rfl,fun j hj e=> ?_⟩
 have:=(List.pairwise_iff_getElem.1 hu) j k (by simp;omega) (by simpa using hlt) hj
 simp at this
 exact this e
theorem OwElems.keepN {w w':Xe} {n:Nat} {v:Xf} {acc:List (Tr n)} {F:Xb} (h:OwElems w 37 5 v acc (OwNode n w) F) (hb:Below w.heap.size w w'):OwElems w' 37 5 v acc (OwNode n w') F:=OwElems.frm h (Frm.ofBelow hb []) (fun _ _=>by simp) (fun C x G hr hG=>OwNode.frm hr (Frm.ofBelow hb []) (fun _ _=>by simp))
def zeX (m:Nat):Prop:=∀(w0 w:Xe) (g mb gr c:Nat) (l:List PlV) (F:Xb) (k:Nat) (p:PlV) (left pv deep:Int) (pb:Nat),FoQ w0 w g mb (some ⟨gr,0,none⟩) c l F->Below w0.heap.size w0 w->2<=l.length->(l.map PlV.id).Nodup->(∀p∈l,-9223372036854775808<=p.kind∧p.kind<=9223372036854775807)->(∀p∈l,zde p)->pb∉g::mb::F->w0.heap.size<=pb->Loc w pb #[.int .i64 pv] 3->pv=120-left->l[k]? = some p->0<left->left<=120->deep+(m:Int)=20->0<=deep->
  Calls Tryz.prog 61 #[.pointer (some ⟨g,0,none⟩),.agg #[.int .i64 p.idN,.int .i64 p.idR],.int .i64 deep,.pointer (some ⟨pb,0,none⟩)] w fun e w'=>∃(kd:Int) (a1:Xc) (n1 c1:Nat) (a2:Xc) (n2 c2:Nat) (a3:Xc) (n3 c3:Nat) (a4:Xc) (n4 c4:Nat),e=.returned (.agg #[.int .i64 kd,.slice a1 n1 c1,.slice a2 n2 c2,.slice a3 n3 c3,.slice a4 n4 c4])∧∃G,OwNode (m+1) w' [.int .i64 kd,.slice a1 n1 c1,.slice a2 n2 c2,.slice a3 n3 c3,.slice a4 n4 c4] (prj l m k left).1 G∧G.Nodup∧Rng G w.heap.size w'.heap.size∧Loc w' pb #[.int .i64 (120-(prj l m k left).2)] 3∧Frm w w' [pb]
set_option maxHeartbeats 12800000 in
theorem zou:zeX 0:=by
 intro w0 w g mb gr c l F k p left pv deep pb h hb0 h2 hu hkinds hsm hpn hpw hlp hpv hp hl0 hl1 hdeep hdp0
 refine zaf ?_
 intro Q HQ
 obtain⟨i0,hi0,hz0,hz1,hz2⟩:=info_parts Tryz.info37
 have hkl:k<l.length:=(List.getElem?_eq_some_iff.1 hp).1
 have hpe:l[k]=p:=(List.getElem?_eq_some_iff.1 hp).2
 have hmem:p∈l:=by rw [<-hpe];exact List.getElem_mem _
 have hK:=hkinds p hmem
 have hsp:=hsm p hmem
 have hids:=h.ids p hmem
 have hkeep:∀W,Frm w W [pb]->FoQ w0 W g mb (some ⟨gr,0,none⟩) c l F:=fun W f=>h.frm f (fun e=>hpn (by simp at e;simp [e])) (fun e=>hpn (by simp at e;simp [e])) (fun q hq e=>hpn (by simp at e;subst e;simp [hq])) (fun q hq=>by simp at hq;subst hq;exact Cells.ofL hlp)
 have hbel:∀W,Frm w W [pb]->Below w0.heap.size w0 W:=fun W f=>hb0.trans (f.below hb0.size (fun q hq=>by simp at hq;omega))
 have hpos:posP l p.id=some k:=zfY hu hp
 have hpl:=hlp.lt
 have li:=(Loc.made (w.setCell ⟨pb,0,none⟩ (.int .i64 (pv+1))) #[.int .i64 p.idN,.int .i64 p.idR] 81).alloc (.cells #[.int .i64 0,.slice none 0 0,.slice none 0 0,.slice none 0 0,.slice none 0 0] 37)
 have lr:=Loc.made ((w.setCell ⟨pb,0,none⟩ (.int .i64 (pv+1))).alloc (.cells #[.int .i64 p.idN,.int .i64 p.idR] 81)) #[.int .i64 0,.slice none 0 0,.slice none 0 0,.slice none 0 0,.slice none 0 0] 37
 have lp:=((hlp.set 0 (.int .i64 (pv+1))).alloc (.cells #[.int .i64 p.idN,.int .i64 p.idR] 81)).alloc (.cells #[.int .i64 0,.slice none 0 0,.slice none 0 0,.slice none 0 0,.slice none 0 0] 37)
 have hszs:(w.setCell ⟨pb,0,none⟩ (.int .i64 (pv+1))).heap.size=w.heap.size:=by simp
 simp only [World.size_alloc,hszs]at li lr
 have hbS:Below (w.setCell ⟨pb,0,none⟩ (.int .i64 (pv+1))).heap.size (w.setCell ⟨pb,0,none⟩ (.int .i64 (pv+1))) (((w.setCell ⟨pb,0,none⟩ (.int .i64 (pv+1))).alloc (.cells #[.int .i64 p.idN,.int .i64 p.idR] 81)).alloc (.cells #[.int .i64 0,.slice none 0 0,.slice none 0 0,.slice none 0 0,.slice none 0 0] 37)):=((Below.refl _ _).alloc (Nat.le_refl _) _).alloc (by simp) _
 have hbA:Below w.heap.size w ((w.alloc (.cells #[.int .i64 p.idN,.int .i64 p.idR] 81)).alloc (.cells #[.int .i64 0,.slice none 0 0,.slice none 0 0,.slice none 0 0,.slice none 0 0] 37)):=((Below.refl _ _).alloc (Nat.le_refl _) _).alloc (by simp) _
 have hf2:Frm w (((w.setCell ⟨pb,0,none⟩ (.int .i64 (pv+1))).alloc (.cells #[.int .i64 p.idN,.int .i64 p.idR] 81)).alloc (.cells #[.int .i64 0,.slice none 0 0,.slice none 0 0,.slice none 0 0,.slice none 0 0] 37)) [pb]:=(Frm.set _ _ _ _).trans (Frm.ofBelow hbS [pb])
 have hs2:(((w.setCell ⟨pb,0,none⟩ (.int .i64 (pv+1))).alloc (.cells #[.int .i64 p.idN,.int .i64 p.idR] 81)).alloc (.cells #[.int .i64 0,.slice none 0 0,.slice none 0 0,.slice none 0 0,.slice none 0 0] 37)).heap.size=w.heap.size+2:=by simp
 have xl:((w.alloc (.cells #[.int .i64 p.idN,.int .i64 p.idR] 81)).alloc (.cells #[.int .i64 0,.slice none 0 0,.slice none 0 0,.slice none 0 0,.slice none 0 0] 37)).cell? ⟨pb,0,none⟩=some (.int .i64 pv):=(hbA.cell (p:=⟨pb,0,none⟩) hpl).trans (hlp.cell 0)
 have xf:((w.alloc (.cells #[.int .i64 p.idN,.int .i64 p.idR] 81)).alloc (.cells #[.int .i64 0,.slice none 0 0,.slice none 0 0,.slice none 0 0,.slice none 0 0] 37)).frozen? ⟨pb,0,none⟩=false:=((hlp.alloc (.cells #[.int .i64 p.idN,.int .i64 p.idR] 81)).alloc (.cells #[.int .i64 0,.slice none 0 0,.slice none 0 0,.slice none 0 0,.slice none 0 0] 37)).frozen 0
 have b0:=li.cell 0
 have b1:=li.cell 1
 simp at b0 b1
 have hpw1:IntKind.i64.wrap (pv+1)=pv+1:=by simp [IntKind.wrap,IntKind.bits,IntKind.signed];omega
 have HX:=hide (And.intro li (And.intro lr (And.intro lp (And.intro hf2 hs2))))
 have HY:=hide (And.intro hK (And.intro hsp (And.intro hkeep (And.intro hbel hpos))))
 have HP:=hide (And.intro hp (And.intro hpe hids))
 have HU:=hide (And.intro hu (And.intro hkinds (And.intro hsm hpn)))
 have HV:=hide hpv
 have HLN:=hide h.len
 clear li lr lp hbA hbS hszs hf2 hs2 hK hsp hkeep hbel hpos hp hpe hids hu hkinds hsm hpn hmem h hlp hb0 hpv
 go_enter Tryz.func61,Tryz.ntmps61
 go_wp2_with fail
 obtain⟨li2,lr2,lp2,hf2,hs2⟩:=zaa HX
 obtain⟨hK,hsp,hkeep,hbel,hpos⟩:=zaa HY
 obtain⟨hp,hpe,hids⟩:=zaa HP
 have hpv:=zaa HV
 clear HX HY HP xl xf b0 b1
 generalize (((w.setCell ⟨pb,0,none⟩ (.int .i64 (pv+1))).alloc (.cells #[.int .i64 p.idN,.int .i64 p.idR] 81)).alloc (.cells #[.int .i64 0,.slice none 0 0,.slice none 0 0,.slice none 0 0,.slice none 0 0] 37))=w2 at *
 refine (zcg (hkeep w2 hf2) p.id hids.1).mono ?_
 rintro e w3 ⟨-,hfd,hb3⟩
 obtain⟨gr',egr,rfl⟩:=hfd k hpos
 cases egr
 have hf3:=hf2.trans (Frm.ofBelow hb3 [pb])
 obtain⟨k1,ck,n1,cn,t1,ct,a1,ca,-,e0,e1,e2,e3,e4,e5,e6,e7,e8,r1,r2,r3,r4⟩:=(hkeep w3 hf3).own hkl
 rw [hpe]at e0 e1 e2 e3 e4 e5 e6 e7 e8 r1 r2 r3 r4
 have li3:=li2.all hb3
 have lr3:=lr2.all hb3
 have lp3:=lp2.all hb3
 have hs3:=hb3.size
 have HX:=hide (And.intro li3 (And.intro lr3 (And.intro lp3 (And.intro hf3 (And.intro r2 (And.intro r3 r4))))))
 have HY:=hide (And.intro hK (And.intro hsp (And.intro hkeep hbel)))
 have HP:=hide (And.intro hp (And.intro hids hpv))
 clear li2 lr2 lp2 hf2 hb3 hpos hpe hids hp hK hsp hkeep hbel r1 r2 r3 r4 li3 lr3 lp3 hf3 hfd hpv
 go_wp2_with fail
 clear e0 e1 e2 e3 e4 e5 e6 e7 e8
 refine (zft w3 p k1 n1 t1 a1 ck cn ct ca).mono ?_
 rintro e w31 ⟨rfl,hb31⟩
 go_wp2_with fail
 obtain⟨li3,lr3,lp3,hf3,r2,r3,r4⟩:=zaa HX
 obtain⟨hK,hsp,hkeep,hbel⟩:=zaa HY
 obtain⟨hp,hids,hpv⟩:=zaa HP
 clear HX HY HP
 have hf31:=hf3.trans (Frm.ofBelow hb31 [pb])
 have hbw:=hbel w31 hf31
 refine (zev 0 w31 _ _ _ _ _ (zaH p) ⟨_,_,_,_,rfl,hK.1,hK.2,r2.keep hbw,r3.keep hbw,r4.keep hbw,Nat.zero_le _,.inl ⟨rfl,rfl⟩⟩ (by
  have e:szT 1 (zaH p)=p.name.length+p.text.length+szA p.attrs+(([]:List (Tr 0)).length+(([]:List (Tr 0)).map (szT 0)).sum):=rfl
  unfold zde at hsp
  rw [e]
  simp only [List.length_nil,List.map_nil,List.sum_nil]
  omega)).mono ?_
 rintro e w32 ⟨p2,k2,p3,k3,p4,k4,rfl,Fa,o1,o2,o3,nd0,rg0,hb32⟩
 have ekk:(zaH p).kind=p.kind:=rfl
 have enn:(zaH p).name=p.name:=rfl
 have ett:(zaH p).text=p.text:=rfl
 have eaa:(zaH p).attrs=p.attrs:=rfl
 rw [ekk,enn,ett,eaa]
 rw [enn]at o1 nd0 rg0
 rw [ett]at o2 nd0 rg0
 rw [eaa]at o3
 clear ekk enn ett eaa
 have hbo:Below w32.heap.size w32 (w32.alloc (.cells #[.int .i64 p.kind,.slice p2 p.name.length k2,.slice p3 p.text.length k3,.slice p4 p.attrs.length k4,.slice none 0 0] 37)):=(Below.refl _ _).alloc (Nat.le_refl _) _
 have ln3:=Loc.made w32 #[.int .i64 p.kind,.slice p2 p.name.length k2,.slice p3 p.text.length k3,.slice p4 p.attrs.length k4,.slice none 0 0] 37
 have hb33:=zad (zad hb31 hb32) hbo
 have hf33:=hf3.trans (Frm.ofBelow hb33 [pb])
 have li33:=li3.all hb33
 have lr33:=lr3.all hb33
 have lp33:=lp3.all hb33
 have hs31:=hb31.size
 have hs32:=hb32.size
 have o1':=o1.keep hbo
 have o2':=o2.keep hbo
 have o3':=OwAttrs.frm o3 (Frm.ofBelow hbo []) (fun _ _=>by simp)
 have hszn:(w32.alloc (.cells #[.int .i64 p.kind,.slice p2 p.name.length k2,.slice p3 p.text.length k3,.slice p4 p.attrs.length k4,.slice none 0 0] 37)).heap.size=w32.heap.size+1:=by simp
 have b0:=li33.cell 0
 have b1:=li33.cell 1
 simp at b0 b1
 have HX:=hide (And.intro li33 (And.intro lr33 (And.intro lp33 (And.intro hf33 (And.intro o1' (And.intro o2' (And.intro o3' (And.intro nd0 (And.intro rg0 (And.intro ln3 hszn))))))))))
 have HY:=hide (And.intro hK (And.intro hkeep hbel))
 have HP:=hide (And.intro hp hpv)
 clear li3 lr3 lp3 hf3 r2 r3 r4 hf31 hbw o1 o2 o3 nd0 rg0 hbo ln3 hb33 hf33 li33 lr33 lp33 o1' o2' o3' hb31 hb32 hszn hK hkeep hbel hp hpv hids hsp
 go_wp2_with fail
 obtain⟨li33,lr33,lp33,hf33,o1,o2,o3,nd0,rg0,ln3,hszn⟩:=zaa HX
 obtain⟨hK,hkeep,hbel⟩:=zaa HY
 obtain⟨hp,hpv⟩:=zaa HP
 obtain⟨hu,hkinds,hsm,hpn⟩:=zaa HU
 clear HX HY HP b0 b1
 generalize (w32.alloc (.cells #[.int .i64 p.kind,.slice p2 p.name.length k2,.slice p3 p.text.length k3,.slice p4 p.attrs.length k4,.slice none 0 0] 37))=w33 at *
 generalize hnb:w32.heap.size=nb at *
 refine (zhZ (hkeep w33 hf33) (hbel w33 hf33) h2 hu (p.idN,p.idR)).mono ?_
 rintro e w4 ⟨av,cv,ks,F',rfl,hQ,hQr,hQs,hb4⟩
 have hf4:=hf33.trans (Frm.ofBelow hb4 [pb])
 have li4:=li33.all hb4
 have lr4:=lr33.all hb4
 have lp4:=lp33.all hb4
 have ln4:=ln3.all hb4
 have hs4:=hb4.size
 replace o1:=o1.keep hb4
 replace o2:=o2.keep hb4
 replace o3:=OwAttrs.frm o3 (Frm.ofBelow hb4 []) (fun _ _=>by simp)
 have rg4:=rg0.mono (lo':=w.heap.size+2) (hi':=w4.heap.size) (by omega) (by omega)
 have hlk:ks.length=(zao l p.id).length:=by
  have:=congrArg List.length hQs
  rw [List.length_map,List.length_map]at this
  exact this
 have hks9:ks.length<=100000:=by
  have h9:=zcI (l:=l) p.id l.length
  have h8:=zaa HLN
  have:(zao l p.id).length<=l.length:=h9
  omega
 have hpb2:pb<w.heap.size:=hpl
 have hnb2:w.heap.size+2<=nb:=by omega
 have hnb3:nb<w4.heap.size:=by omega
 have hne1:∀q∈FB (.slice p2 p.name.length k2)++FB (.slice p3 p.text.length k3)++Fa,q∉[w.heap.size+1]:=fun q hq e=>by have:=rg4 q hq;simp at e;omega
 clear li33 lr33 lp33 ln3 hf33
 go_wp2_with fail
 have hdd:deep=20:=by omega
 subst hdd
 have hpz:=zhk hp left
 have hfin:∀W,Frm w4 W [w.heap.size+1]->Loc W (w.heap.size+1) #[.int .i64 p.kind,.slice p2 p.name.length k2,.slice p3 p.text.length k3,.slice p4 p.attrs.length k4,.slice none 0 0] 37->Q (.returned (.agg #[.int .i64 p.kind,.slice p2 p.name.length k2,.slice p3 p.text.length k3,.slice p4 p.attrs.length k4,.slice none 0 0])) W:=fun W hf hl=>by
  refine zaa HQ _ _ ⟨p.kind,_,_,_,_,_,_,_,_,_,_,_,_,rfl,_,?_,nd0,rg4.mono (by omega) hf.size,?_,?_⟩
  ·rw [hpz]
   exact⟨_,_,_,_,Fa,[],rfl,hK.1,hK.2,o1.frm hf (fun q hq=>hne1 q (by simp [hq])),o2.frm hf (fun q hq=>hne1 q (by simp [hq])),OwAttrs.frm o3 hf (fun q hq=>hne1 q (by simp [hq])),OwElems.naught _ _ _ _,by simp⟩
  ·rw [hpz]
   have:=lp4.frm hf (by simp;omega)
   rw [show pv+1=120-(left-1) by omega]at this
   exact this
  ·exact hf4.new hf (fun g hg=>by simp at hg;omega)
 have HF:=hide hfin
 clear hfin hpz
 refine wp_loop_rounds 1 ?_
 rw [rounds_succ]
 have hd20:((20:Int) == 20)=true:=rfl
 by_cases hk0:0<ks.length
 ·have hk1:(0:Int)<(ks.length:Int):=by omega
  obtain⟨gz,hgz⟩:∃gz,av=some ⟨gz,0,none⟩:=by
   obtain⟨_,_,_,_,_,hrow,_⟩:=hQ
   rcases hrow.2 with ⟨_,e0⟩ | ⟨g',cap',cur,e0,_⟩
   ·omega
   ·injection e0 with e1 _ _;exact⟨g',e1⟩
  subst hgz
  obtain⟨zk1,zck,zn1,zcn,zt1,zct,za1,zca,q0,q1,q2,q3,q4,q5,q6,q7,q8⟩:=hQ.at hk0
  generalize ks[0]=zp at *
  simp only [Nat.zero_mul,Nat.zero_add]at q0 q1 q2 q3 q4 q5 q6 q7 q8
  have hb5:Below w4.heap.size w4 (w4.alloc (.cells #[.int .i64 zp.idN,.int .i64 zp.idR,.int .i64 zp.parN,.int .i64 zp.parR,.slice zk1 zp.key.length zck,.int .i64 zp.kind,.slice zn1 zp.name.length zcn,.slice zt1 zp.text.length zct,.slice za1 zp.attrs.length zca] 117)):=(Below.refl _ _).alloc (Nat.le_refl _) _
  have lr5:=lr4.all hb5
  have ln5:=ln4.all hb5
  obtain⟨y0,y1,y2,y3,y4⟩:=ln5.five
  obtain⟨z0,z1,z2,z3,z4⟩:=lr5.five
  have i0_:=lr5.frozen 0
  have i1_:=lr5.frozen 1
  have i2_:=lr5.frozen 2
  have i3_:=lr5.frozen 3
  have i4_:=lr5.frozen 4
  obtain⟨lX,fX⟩:=zbB lr5 (.int .i64 p.kind) (.slice p2 p.name.length k2) (.slice p3 p.text.length k3) (.slice p4 p.attrs.length k4) (.slice none 0 0)
  have HE:=hide (zaa HF _ ((Frm.ofBelow hb5 [w.heap.size+1]).trans fX) lX)
  clear lX fX hQ hf4 ln4 lr4 lp4 li4 o1 o2 o3 hb5 lr5 ln5
  go_wp2_with fail
  exact bodyPost_ret (v:=.agg #[.int .i64 p.kind,.slice p2 p.name.length k2,.slice p3 p.text.length k3,.slice p4 p.attrs.length k4,.slice none 0 0]) (by simp [results,Tryz.results61,go_sem,z0,z1,z2,z3,z4]) rfl (zaa HE)
 ·have hk1:¬ (0:Int)<(ks.length:Int):=by omega
  obtain⟨y0,y1,y2,y3,y4⟩:=ln4.five
  obtain⟨z0,z1,z2,z3,z4⟩:=lr4.five
  have i0_:=lr4.frozen 0
  have i1_:=lr4.frozen 1
  have i2_:=lr4.frozen 2
  have i3_:=lr4.frozen 3
  have i4_:=lr4.frozen 4
  obtain⟨lX,fX⟩:=zbB lr4 (.int .i64 p.kind) (.slice p2 p.name.length k2) (.slice p3 p.text.length k3) (.slice p4 p.attrs.length k4) (.slice none 0 0)
  have HE:=hide (zaa HF _ fX lX)
  clear lX fX hQ hf4 ln4 lr4 lp4 li4 o1 o2 o3
  go_wp2_with fail
  exact bodyPost_ret (v:=.agg #[.int .i64 p.kind,.slice p2 p.name.length k2,.slice p3 p.text.length k3,.slice p4 p.attrs.length k4,.slice none 0 0]) (by simp [results,Tryz.results61,go_sem,z0,z1,z2,z3,z4]) rfl (zaa HE)
set_option maxHeartbeats 12800000 in
theorem zog (m:Nat) (ih:zeX m):zeX (m+1):=by
 intro w0 w g mb gr c l F k p left pv deep pb h hb0 h2 hu hkinds hsm hpn hpw hlp hpv hp hl0 hl1 hdeep hdp0
 refine zaf ?_
 intro Q HQ
 obtain⟨i0,hi0,hz0,hz1,hz2⟩:=info_parts Tryz.info37
 have hkl:k<l.length:=(List.getElem?_eq_some_iff.1 hp).1
 have hpe:l[k]=p:=(List.getElem?_eq_some_iff.1 hp).2
 have hmem:p∈l:=by rw [<-hpe];exact List.getElem_mem _
 have hK:=hkinds p hmem
 have hsp:=hsm p hmem
 have hids:=h.ids p hmem
 have hkeep:∀W,Frm w W [pb]->FoQ w0 W g mb (some ⟨gr,0,none⟩) c l F:=fun W f=>h.frm f (fun e=>hpn (by simp at e;simp [e])) (fun e=>hpn (by simp at e;simp [e])) (fun q hq e=>hpn (by simp at e;subst e;simp [hq])) (fun q hq=>by simp at hq;subst hq;exact Cells.ofL hlp)
 have hbel:∀W,Frm w W [pb]->Below w0.heap.size w0 W:=fun W f=>hb0.trans (f.below hb0.size (fun q hq=>by simp at hq;omega))
 have hpos:posP l p.id=some k:=zfY hu hp
 have hpl:=hlp.lt
 have li:=(Loc.made (w.setCell ⟨pb,0,none⟩ (.int .i64 (pv+1))) #[.int .i64 p.idN,.int .i64 p.idR] 81).alloc (.cells #[.int .i64 0,.slice none 0 0,.slice none 0 0,.slice none 0 0,.slice none 0 0] 37)
 have lr:=Loc.made ((w.setCell ⟨pb,0,none⟩ (.int .i64 (pv+1))).alloc (.cells #[.int .i64 p.idN,.int .i64 p.idR] 81)) #[.int .i64 0,.slice none 0 0,.slice none 0 0,.slice none 0 0,.slice none 0 0] 37
 have lp:=((hlp.set 0 (.int .i64 (pv+1))).alloc (.cells #[.int .i64 p.idN,.int .i64 p.idR] 81)).alloc (.cells #[.int .i64 0,.slice none 0 0,.slice none 0 0,.slice none 0 0,.slice none 0 0] 37)
 have hszs:(w.setCell ⟨pb,0,none⟩ (.int .i64 (pv+1))).heap.size=w.heap.size:=by simp
 simp only [World.size_alloc,hszs]at li lr
 have hbS:Below (w.setCell ⟨pb,0,none⟩ (.int .i64 (pv+1))).heap.size (w.setCell ⟨pb,0,none⟩ (.int .i64 (pv+1))) (((w.setCell ⟨pb,0,none⟩ (.int .i64 (pv+1))).alloc (.cells #[.int .i64 p.idN,.int .i64 p.idR] 81)).alloc (.cells #[.int .i64 0,.slice none 0 0,.slice none 0 0,.slice none 0 0,.slice none 0 0] 37)):=((Below.refl _ _).alloc (Nat.le_refl _) _).alloc (by simp) _
 have hbA:Below w.heap.size w ((w.alloc (.cells #[.int .i64 p.idN,.int .i64 p.idR] 81)).alloc (.cells #[.int .i64 0,.slice none 0 0,.slice none 0 0,.slice none 0 0,.slice none 0 0] 37)):=((Below.refl _ _).alloc (Nat.le_refl _) _).alloc (by simp) _
 have hf2:Frm w (((w.setCell ⟨pb,0,none⟩ (.int .i64 (pv+1))).alloc (.cells #[.int .i64 p.idN,.int .i64 p.idR] 81)).alloc (.cells #[.int .i64 0,.slice none 0 0,.slice none 0 0,.slice none 0 0,.slice none 0 0] 37)) [pb]:=(Frm.set _ _ _ _).trans (Frm.ofBelow hbS [pb])
 have hs2:(((w.setCell ⟨pb,0,none⟩ (.int .i64 (pv+1))).alloc (.cells #[.int .i64 p.idN,.int .i64 p.idR] 81)).alloc (.cells #[.int .i64 0,.slice none 0 0,.slice none 0 0,.slice none 0 0,.slice none 0 0] 37)).heap.size=w.heap.size+2:=by simp
 have xl:((w.alloc (.cells #[.int .i64 p.idN,.int .i64 p.idR] 81)).alloc (.cells #[.int .i64 0,.slice none 0 0,.slice none 0 0,.slice none 0 0,.slice none 0 0] 37)).cell? ⟨pb,0,none⟩=some (.int .i64 pv):=(hbA.cell (p:=⟨pb,0,none⟩) hpl).trans (hlp.cell 0)
 have xf:((w.alloc (.cells #[.int .i64 p.idN,.int .i64 p.idR] 81)).alloc (.cells #[.int .i64 0,.slice none 0 0,.slice none 0 0,.slice none 0 0,.slice none 0 0] 37)).frozen? ⟨pb,0,none⟩=false:=((hlp.alloc (.cells #[.int .i64 p.idN,.int .i64 p.idR] 81)).alloc (.cells #[.int .i64 0,.slice none 0 0,.slice none 0 0,.slice none 0 0,.slice none 0 0] 37)).frozen 0
 have b0:=li.cell 0
 have b1:=li.cell 1
 simp at b0 b1
 have hpw1:IntKind.i64.wrap (pv+1)=pv+1:=by simp [IntKind.wrap,IntKind.bits,IntKind.signed];omega
 have HX:=hide (And.intro li (And.intro lr (And.intro lp (And.intro hf2 hs2))))
 have HY:=hide (And.intro hK (And.intro hsp (And.intro hkeep (And.intro hbel hpos))))
 have HP:=hide (And.intro hp (And.intro hpe hids))
 have HU:=hide (And.intro hu (And.intro hkinds (And.intro hsm hpn)))
 have HV:=hide hpv
 have HLN:=hide h.len
 clear li lr lp hbA hbS hszs hf2 hs2 hK hsp hkeep hbel hpos hp hpe hids hu hkinds hsm hpn hmem h hlp hb0 hpv
 go_enter Tryz.func61,Tryz.ntmps61
 go_wp2_with fail
 obtain⟨li2,lr2,lp2,hf2,hs2⟩:=zaa HX
 obtain⟨hK,hsp,hkeep,hbel,hpos⟩:=zaa HY
 obtain⟨hp,hpe,hids⟩:=zaa HP
 have hpv:=zaa HV
 clear HX HY HP xl xf b0 b1
 generalize (((w.setCell ⟨pb,0,none⟩ (.int .i64 (pv+1))).alloc (.cells #[.int .i64 p.idN,.int .i64 p.idR] 81)).alloc (.cells #[.int .i64 0,.slice none 0 0,.slice none 0 0,.slice none 0 0,.slice none 0 0] 37))=w2 at *
 refine (zcg (hkeep w2 hf2) p.id hids.1).mono ?_
 rintro e w3 ⟨-,hfd,hb3⟩
 obtain⟨gr',egr,rfl⟩:=hfd k hpos
 cases egr
 have hf3:=hf2.trans (Frm.ofBelow hb3 [pb])
 obtain⟨k1,ck,n1,cn,t1,ct,a1,ca,-,e0,e1,e2,e3,e4,e5,e6,e7,e8,r1,r2,r3,r4⟩:=(hkeep w3 hf3).own hkl
 rw [hpe]at e0 e1 e2 e3 e4 e5 e6 e7 e8 r1 r2 r3 r4
 have li3:=li2.all hb3
 have lr3:=lr2.all hb3
 have lp3:=lp2.all hb3
 have hs3:=hb3.size
 have HX:=hide (And.intro li3 (And.intro lr3 (And.intro lp3 (And.intro hf3 (And.intro r2 (And.intro r3 r4))))))
 have HY:=hide (And.intro hK (And.intro hsp (And.intro hkeep hbel)))
 have HP:=hide (And.intro hp (And.intro hids hpv))
 clear li2 lr2 lp2 hf2 hb3 hpos hpe hids hp hK hsp hkeep hbel r1 r2 r3 r4 li3 lr3 lp3 hf3 hfd hpv
 go_wp2_with fail
 clear e0 e1 e2 e3 e4 e5 e6 e7 e8
 refine (zft w3 p k1 n1 t1 a1 ck cn ct ca).mono ?_
 rintro e w31 ⟨rfl,hb31⟩
 go_wp2_with fail
 obtain⟨li3,lr3,lp3,hf3,r2,r3,r4⟩:=zaa HX
 obtain⟨hK,hsp,hkeep,hbel⟩:=zaa HY
 obtain⟨hp,hids,hpv⟩:=zaa HP
 clear HX HY HP
 have hf31:=hf3.trans (Frm.ofBelow hb31 [pb])
 have hbw:=hbel w31 hf31
 refine (zev 0 w31 _ _ _ _ _ (zaH p) ⟨_,_,_,_,rfl,hK.1,hK.2,r2.keep hbw,r3.keep hbw,r4.keep hbw,Nat.zero_le _,.inl ⟨rfl,rfl⟩⟩ (by
  have e:szT 1 (zaH p)=p.name.length+p.text.length+szA p.attrs+(([]:List (Tr 0)).length+(([]:List (Tr 0)).map (szT 0)).sum):=rfl
  unfold zde at hsp
  rw [e]
  simp only [List.length_nil,List.map_nil,List.sum_nil]
  omega)).mono ?_
 rintro e w32 ⟨p2,k2,p3,k3,p4,k4,rfl,Fa,o1,o2,o3,nd0,rg0,hb32⟩
 have ekk:(zaH p).kind=p.kind:=rfl
 have enn:(zaH p).name=p.name:=rfl
 have ett:(zaH p).text=p.text:=rfl
 have eaa:(zaH p).attrs=p.attrs:=rfl
 rw [ekk,enn,ett,eaa]
 rw [enn]at o1 nd0 rg0
 rw [ett]at o2 nd0 rg0
 rw [eaa]at o3
 clear ekk enn ett eaa
 have hbo:Below w32.heap.size w32 (w32.alloc (.cells #[.int .i64 p.kind,.slice p2 p.name.length k2,.slice p3 p.text.length k3,.slice p4 p.attrs.length k4,.slice none 0 0] 37)):=(Below.refl _ _).alloc (Nat.le_refl _) _
 have ln3:=Loc.made w32 #[.int .i64 p.kind,.slice p2 p.name.length k2,.slice p3 p.text.length k3,.slice p4 p.attrs.length k4,.slice none 0 0] 37
 have hb33:=zad (zad hb31 hb32) hbo
 have hf33:=hf3.trans (Frm.ofBelow hb33 [pb])
 have li33:=li3.all hb33
 have lr33:=lr3.all hb33
 have lp33:=lp3.all hb33
 have hs31:=hb31.size
 have hs32:=hb32.size
 have o1':=o1.keep hbo
 have o2':=o2.keep hbo
 have o3':=OwAttrs.frm o3 (Frm.ofBelow hbo []) (fun _ _=>by simp)
 have hszn:(w32.alloc (.cells #[.int .i64 p.kind,.slice p2 p.name.length k2,.slice p3 p.text.length k3,.slice p4 p.attrs.length k4,.slice none 0 0] 37)).heap.size=w32.heap.size+1:=by simp
 have b0:=li33.cell 0
 have b1:=li33.cell 1
 simp at b0 b1
 have HX:=hide (And.intro li33 (And.intro lr33 (And.intro lp33 (And.intro hf33 (And.intro o1' (And.intro o2' (And.intro o3' (And.intro nd0 (And.intro rg0 (And.intro ln3 hszn))))))))))
 have HY:=hide (And.intro hK (And.intro hkeep hbel))
 have HP:=hide (And.intro hp hpv)
 clear li3 lr3 lp3 hf3 r2 r3 r4 hf31 hbw o1 o2 o3 nd0 rg0 hbo ln3 hb33 hf33 li33 lr33 lp33 o1' o2' o3' hb31 hb32 hszn hK hkeep hbel hp hpv hids hsp
 go_wp2_with fail
 obtain⟨li33,lr33,lp33,hf33,o1,o2,o3,nd0,rg0,ln3,hszn⟩:=zaa HX
 obtain⟨hK,hkeep,hbel⟩:=zaa HY
 obtain⟨hp,hpv⟩:=zaa HP
 obtain⟨hu,hkinds,hsm,hpn⟩:=zaa HU
 clear HX HY HP b0 b1
 generalize (w32.alloc (.cells #[.int .i64 p.kind,.slice p2 p.name.length k2,.slice p3 p.text.length k3,.slice p4 p.attrs.length k4,.slice none 0 0] 37))=w33 at *
 generalize hnb:w32.heap.size=nb at *
 refine (zhZ (hkeep w33 hf33) (hbel w33 hf33) h2 hu (p.idN,p.idR)).mono ?_
 rintro e w4 ⟨av,cv,ks,F',rfl,hQ,hQr,hQs,hb4⟩
 have hf4:=hf33.trans (Frm.ofBelow hb4 [pb])
 have li4:=li33.all hb4
 have lr4:=lr33.all hb4
 have lp4:=lp33.all hb4
 have ln4:=ln3.all hb4
 have hs4:=hb4.size
 replace o1:=o1.keep hb4
 replace o2:=o2.keep hb4
 replace o3:=OwAttrs.frm o3 (Frm.ofBelow hb4 []) (fun _ _=>by simp)
 have rg4:=rg0.mono (lo':=w.heap.size+2) (hi':=w4.heap.size) (by omega) (by omega)
 have hlk:ks.length=(zao l p.id).length:=by
  have:=congrArg List.length hQs
  rw [List.length_map,List.length_map]at this
  exact this
 have hks9:ks.length<=100000:=by
  have h9:=zcI (l:=l) p.id l.length
  have h8:=zaa HLN
  have:(zao l p.id).length<=l.length:=h9
  omega
 have hpb2:pb<w.heap.size:=hpl
 have hnb2:w.heap.size+2<=nb:=by omega
 have hnb3:nb<w4.heap.size:=by omega
 have hne1:∀q∈FB (.slice p2 p.name.length k2)++FB (.slice p3 p.text.length k3)++Fa,q∉[w.heap.size+1]:=fun q hq e=>by have:=rg4 q hq;simp at e;omega
 clear li33 lr33 lp33 ln3 hf33
 go_wp2_with fail
 have hpz:∀acc lf,prjK (prj l m) (zao l p.id) [] (left-1)=(acc,lf)->_:=fun acc lf he=>zkc (acc:=acc) (lf:=lf) (m:=m) hp he
 have hdne:(deep == 20)=false:=by simp;omega
 have hd9:deep+1+(m:Int)=20:=by omega
 have hd8:(0:Int)<=deep+1:=by omega
 have hdw:IntKind.i64.wrap (deep+1)=deep+1:=by simp [IntKind.wrap,IntKind.bits,IntKind.signed];omega
 have hks8:(ks.length:Int)<=100000:=by omega
 have he2:∀args w,(callFunc 61 args).run Tryz.prog w=.ok (.enter 61 args) w:=enters_of Tryz.func61 (by kernel_rfl) rfl
 have HZ:=hide hpz
 have hkidx:∀j (hj:j<ks.length) (hj':j<(zao l p.id).length),l[(zao l p.id)[j]]? = some ks[j]:=fun j hj hj'=>by
  have:=congrArg (fun x=>x[j]?) hQs
  simp only [List.getElem?_map,List.getElem?_eq_getElem hj]at this
  rw [show zao l (p.idN,p.idR)=zao l p.id from rfl,List.getElem?_eq_getElem hj']at this
  simp at this
  exact this.symm
 have HKI:=hide hkidx
 have HLK:=hide hlk
 have HD:=hide hpv
 clear hpz hkidx hdeep hlk hQs hpv
 go_loopw [28] (fun i wr=>∃(j:Nat) (acc:List (Tr (m+1))) (ka:Xc) (cv5:Nat) (Fk:Xb) (lf pvv:Int),j<=ks.length∧acc.length<=j∧i=.int .i64 (j:Int)∧Loc wr nb #[.int .i64 p.kind,.slice p2 p.name.length k2,.slice p3 p.text.length k3,.slice p4 p.attrs.length k4,.slice ka acc.length cv5] 37∧OwElems wr 37 5 (.slice ka acc.length cv5) acc (OwNode (m+1) wr) Fk∧Fk.Nodup∧Rng Fk w4.heap.size wr.heap.size∧Loc wr pb #[.int .i64 pvv] 3∧Hid (pvv=120-lf)∧0<=lf∧lf<=120∧Hid (prjK (prj l m) ((zao l p.id).drop j) acc lf=prjK (prj l m) (zao l p.id) [] (left-1))∧Frm w4 wr [pb,nb]) (fun i _=>ks.length-(intOf i).toNat)
 case atStart=>exact⟨0,[],none,0,[],left-1,pv+1,Nat.zero_le _,Nat.le_refl _,rfl,ln4,OwElems.naught _ _ _ _,List.nodup_nil,fun q hq=>(by cases hq),lp4,hide (by have:=zaa HD;omega),by omega,by omega,hide rfl,Frm.refl _ _⟩
 case round=>
  obtain⟨j,acc,ka,cv5,Fk,lf,pvv,hj,hal,rfl,lnr,hO,hOn,hOr,lpr,HPV,lf1,lf2,HPK,hfr⟩:=hrel
  have lrr:=lr4.frm hfr (by simp;omega)
  have hs4w:=hfr.size
  have hnF:nb∉Fk:=fun e=>by have:=hOr _ e;omega
  have hlF:pb∉Fk:=fun e=>by have:=hOr _ e;omega
  have hne2:∀q∈FB (.slice p2 p.name.length k2)++FB (.slice p3 p.text.length k3)++Fa,q∉[pb,nb]:=fun q hq e=>by
   have h4:=rg4 q hq
   have h0:=rg0 q hq
   simp at e
   omega
  have hwr:Frm w wr [pb]:=⟨hfr.os.trans hf4.os,hfr.tape.trans hf4.tape,hfr.output.trans hf4.output,by have:=hf4.size;omega,fun i hi hn=>(hfr.block i (by have:=hf4.size;omega) (by simp at hn ⊢;omega)).trans (hf4.block i hi hn)⟩
  have hfin:∀W,Frm wr W [w.heap.size+1]->prjK (prj l m) (zao l p.id) [] (left-1)=(acc,lf)->Q (.returned (.agg #[.int .i64 p.kind,.slice p2 p.name.length k2,.slice p3 p.text.length k3,.slice p4 p.attrs.length k4,.slice ka acc.length cv5])) W:=fun W hf he=>by
   have hne3:∀q∈FB (.slice p2 p.name.length k2)++FB (.slice p3 p.text.length k3)++Fa,q∉[w.heap.size+1]:=hne1
   have p1:=(o1.frm hfr (fun q hq=>hne2 q (by simp [hq]))).frm hf (fun q hq=>hne3 q (by simp [hq]))
   have p2':=(o2.frm hfr (fun q hq=>hne2 q (by simp [hq]))).frm hf (fun q hq=>hne3 q (by simp [hq]))
   have p3':=OwAttrs.frm (OwAttrs.frm o3 hfr (fun q hq=>hne2 q (by simp [hq]))) hf (fun q hq=>hne3 q (by simp [hq]))
   refine zaa HQ _ _ ⟨p.kind,_,_,_,_,_,_,_,_,_,_,_,_,rfl,FB (.slice p2 p.name.length k2)++FB (.slice p3 p.text.length k3)++Fa++Fk,?_,zbR (lo:=0) nd0 hOn (rg4.mono (Nat.zero_le _) (Nat.le_refl _)) hOr,(rg4.mono (by omega) (by have:=hf.size;omega)).app (hOr.mono (by omega) hf.size),?_,?_⟩
   ·rw [(zaa HZ _ _ he).1]
    exact⟨_,_,_,_,Fa,Fk,rfl,hK.1,hK.2,p1,p2',p3',OwElems.frm hO hf (fun q hq=>by have:=hOr q hq;simp;omega) (fun C x G hr hG=>OwNode.frm hr hf hG),rfl⟩
   ·rw [(zaa HZ _ _ he).2]
    have:=lpr.frm hf (by simp;omega)
    rw [zaa HPV]at this
    exact this
   ·exact⟨hf.os.trans hwr.os,hf.tape.trans hwr.tape,hf.output.trans hwr.output,by have:=hf.size;have:=hwr.size;omega,fun i hi hn=>(hf.block i (by have:=hwr.size;omega) (by simp;omega)).trans (hwr.block i hi hn)⟩
  by_cases hjl:j<ks.length
  ·have hjl':(j:Int)<(ks.length:Int):=by omega
   have hj0:(0:Int)<=(j:Int):=by omega
   have hjK:j<(zao l p.id).length:=by have:=zaa HLK;omega
   obtain⟨gz,hgz⟩:∃gz,av=some ⟨gz,0,none⟩:=by
    obtain⟨_,_,_,_,_,hrow,_⟩:=hQ
    rcases hrow.2 with ⟨_,e0⟩ | ⟨g',cap',cur,e0,_⟩
    ·omega
    ·injection e0 with e1 _ _;exact⟨g',e1⟩
   subst hgz
   obtain⟨zk1,zck,zn1,zcn,zt1,zct,za1,zca,q0,q1,q2,q3,q4,q5,q6,q7,q8⟩:=(PlsQ.frm hQ hfr (fun q hq=>by have:=hQr q hq;simp;omega)).at hjl
   have hkj:=zaa HKI j hjl hjK
   generalize ks[j]=zp at *
   have lk:=Loc.made wr #[.int .i64 zp.idN,.int .i64 zp.idR,.int .i64 zp.parN,.int .i64 zp.parR,.slice zk1 zp.key.length zck,.int .i64 zp.kind,.slice zn1 zp.name.length zcn,.slice zt1 zp.text.length zct,.slice za1 zp.attrs.length zca] 117
   have hBa:Below wr.heap.size wr (wr.alloc (.cells #[.int .i64 zp.idN,.int .i64 zp.idR,.int .i64 zp.parN,.int .i64 zp.parR,.slice zk1 zp.key.length zck,.int .i64 zp.kind,.slice zn1 zp.name.length zcn,.slice zt1 zp.text.length zct,.slice za1 zp.attrs.length zca] 117)):=(Below.refl _ _).alloc (Nat.le_refl _) _
   have xp:(wr.alloc (.cells #[.int .i64 zp.idN,.int .i64 zp.idR,.int .i64 zp.parN,.int .i64 zp.parR,.slice zk1 zp.key.length zck,.int .i64 zp.kind,.slice zn1 zp.name.length zcn,.slice zt1 zp.text.length zct,.slice za1 zp.attrs.length zca] 117)).cell? ⟨pb,0,none⟩=some (.int .i64 pvv):=(lpr.all hBa).cell 0
   have hsa:(wr.alloc (.cells #[.int .i64 zp.idN,.int .i64 zp.idR,.int .i64 zp.parN,.int .i64 zp.parR,.slice zk1 zp.key.length zck,.int .i64 zp.kind,.slice zn1 zp.name.length zcn,.slice zt1 zp.text.length zct,.slice za1 zp.attrs.length zca] 117)).heap.size=wr.heap.size+1:=by simp
   by_cases hlf:lf<=0
   ·have hpve:(pvv == 120)=true:=by have:=zaa HPV;simp;omega
    have hstop:prjK (prj l m) (zao l p.id) [] (left-1)=(acc,lf):=by rw [<-zaa HPK,ziO _ _ _ _ hlf]
    have lna:=lnr.all hBa
    have lra:=lrr.all hBa
    obtain⟨y0,y1,y2,y3,y4⟩:=lna.five
    obtain⟨z0,z1,z2,z3,z4⟩:=lra.five
    have i0_:=lra.frozen 0
    have i1_:=lra.frozen 1
    have i2_:=lra.frozen 2
    have i3_:=lra.frozen 3
    have i4_:=lra.frozen 4
    obtain⟨lX,fX⟩:=zbB lra (.int .i64 p.kind) (.slice p2 p.name.length k2) (.slice p3 p.text.length k3) (.slice p4 p.attrs.length k4) (.slice ka acc.length cv5)
    have HE:=hide (hfin _ ((Frm.ofBelow hBa [w.heap.size+1]).trans fX) hstop)
    clear lX fX hfin hstop hO hOn hOr lpr lrr lnr HPK hfr lna lra hBa lk
    go_wp2_with fail
    exact bodyPost_ret (v:=.agg #[.int .i64 p.kind,.slice p2 p.name.length k2,.slice p3 p.text.length k3,.slice p4 p.attrs.length k4,.slice ka acc.length cv5]) (by simp [results,Tryz.results61,go_sem,z0,z1,z2,z3,z4]) rfl (zaa HE)
   have hpve:(pvv == 120)=false:=by have:=zaa HPV;simp;omega
   have hnx:=zaa HPK
   rw [zjn _ (zao l p.id) j hjK acc lf hlf]at hnx
   have hrng:=zjM hsm m (zao l p.id)[j] lf (by omega)
   have hwa:Frm w (wr.alloc (.cells #[.int .i64 zp.idN,.int .i64 zp.idR,.int .i64 zp.parN,.int .i64 zp.parR,.slice zk1 zp.key.length zck,.int .i64 zp.kind,.slice zn1 zp.name.length zcn,.slice zt1 zp.text.length zct,.slice za1 zp.attrs.length zca] 117)).drew [pb]:=hwr.trans (Frm.ofBelow hBa.drew [pb])
   have HI:=hide (ih w0 (wr.alloc (.cells #[.int .i64 zp.idN,.int .i64 zp.idR,.int .i64 zp.parN,.int .i64 zp.parR,.slice zk1 zp.key.length zck,.int .i64 zp.kind,.slice zn1 zp.name.length zcn,.slice zt1 zp.text.length zct,.slice za1 zp.attrs.length zca] 117)).drew g mb gr c l F (zao l p.id)[j] zp lf pvv (deep+1) pb (hkeep _ hwa) (hbel _ hwa) h2 hu hkinds hsm hpn hpw (lpr.all hBa.drew) (zaa HPV) hkj (by omega) lf2 hd9 hd8)
   have HNX:=hide hnx
   have lnd:=lnr.all hBa.drew
   have hOd:=OwElems.keepN hO hBa.drew
   have lkd:=lk.all (Below.refl _ _).drew
   generalize hkjj:(zao l p.id)[j]=kj at *
   obtain⟨pr,hpr⟩:∃pr,pr=prj l m kj lf:=⟨_,rfl⟩
   rw [<-hpr]at HI HNX hrng
   have HRG:=hide (show 0<=pr.2∧pr.2<=120 from ⟨hrng.1,by have:=hrng.2;have h9:(0:Int)<=((szT (m+1) pr.1:Nat):Int):=(by omega);omega⟩)
   have hkvF:∀q∈FB (.slice ka acc.length cv5),q∈Fk:=fun q hq=>by
    obtain⟨_,_,_,_,_,_,rfl⟩:=hO
    exact List.mem_append_left _ hq
   have hld:pb≠nb:=by omega
   have hol:=OwElems.len hO
   have HWA:=hide (And.intro hwr hBa)
   clear hnx hkjj hpr hrng hfin HPK hkeep hbel hkinds hsm hu hkj lnr lrr lpr hO HPV hwr hwa
   go_wp2_with fail
   have hBa:=(zaa HWA).2
   generalize (wr.alloc (.cells #[.int .i64 zp.idN,.int .i64 zp.idR,.int .i64 zp.parN,.int .i64 zp.parR,.slice zk1 zp.key.length zck,.int .i64 zp.kind,.slice zn1 zp.name.length zcn,.slice zt1 zp.text.length zct,.slice za1 zp.attrs.length zca] 117))=wa at *
   clear q0 q1 q2 q3 q4 q5 q6 q7 q8 xp
   have c4d:wa.drew.cell? ⟨nb,4,none⟩=some (.slice ka acc.length cv5):=lnd.cell 4
   have k0d:wa.drew.cell? ⟨wr.heap.size,0,none⟩=some (.int .i64 zp.idN):=lkd.cell 0
   have k1d:wa.drew.cell? ⟨wr.heap.size,1,none⟩=some (.int .i64 zp.idR):=lkd.cell 1
   have hdz:wa.drew.heap.size=wa.heap.size:=rfl
   go_region_law
    (first
     | (refine ziU (by rfl) 61 [.tmp 42,.tmp 44,.tmp 46,.tmp 47] #[113,81,3,125] (by rfl) he2 [.pointer (some ⟨g,0,none⟩),.agg #[.int .i64 zp.idN,.int .i64 zp.idR],.int .i64 (deep+1),.pointer (some ⟨pb,0,none⟩)] (by rfl) (zaa HI) ?_;clear HI;rintro e w7 ⟨kd,a1,n1,c1,a2,n2,c2,a3,n3,c3,a4,n4,c4,rfl,G,hG,ndG,rG,lp7,hf7⟩;have ln7:=lnd.frm hf7 (by simpa using fun e=>hld e.symm);have c47:w7.cell? ⟨nb,4,none⟩=some (.slice ka acc.length cv5):=ln7.cell 4;have hb8:Below w7.heap.size w7 (w7.alloc (.cells #[.int .i64 kd,.slice a1 n1 c1,.slice a2 n2 c2,.slice a3 n3 c3,.slice a4 n4 c4] 37)):=(Below.refl _ _).alloc (Nat.le_refl _) _;have ln8:=ln7.all hb8;have c48:(w7.alloc (.cells #[.int .i64 kd,.slice a1 n1 c1,.slice a2 n2 c2,.slice a3 n3 c3,.slice a4 n4 c4] 37)).cell? ⟨nb,4,none⟩=some (.slice ka acc.length cv5):=ln8.cell 4;refine⟨_,rfl,?_⟩)
     | (refine zbQ (R:=OwNode (m+1)) (fun h f d=>OwNode.frm h f d) (by rfl) (.tmp 41) (.tmp 49) 35 (by rfl) 37 i0 (.agg #[.int .i64 0,.slice none 0 0,.slice none 0 0,.slice none 0 0,.slice none 0 0]) 5 104 Tryz.underlying35 hi0 hz0 hz1 hz2 rfl (by decide) _ acc Fk (by rfl) (OwElems.keepN (OwElems.frm hOd hf7 (fun q hq e=>hlF (by simp at e;exact e ▸ hq)) (fun C x G hr hG=>OwNode.frm hr hf7 hG)) hb8) hOn ⟨w7.heap.size,0,none⟩ 1 [.int .i64 kd,.slice a1 n1 c1,.slice a2 n2 c2,.slice a3 n3 c3,.slice a4 n4 c4] pr.1 G (by rfl) rfl (ziI w7 _ _ _ _ _ _) (by intro y hy;simp at hy;rcases hy with rfl | rfl | rfl | rfl | rfl<;>rfl) (OwNode.keep hG hb8) ndG (fun g hg hg'=>by have h1:=(hOr g hg).2;have:=(rG g hg').1;omega) (fun q hq=>by have h1:=hf7.size;have h2:=hb8.size;rcases hq with hq | hq;(have:=(hOr q hq).2;omega);(have:=(rG q hq).2;omega)) (by unfold maxLen;omega) (by omega) ?_;intro g9 cap9 w9 F9 hF9 hN9 hM9 hf9 hg9;have ln9:=ln8.frm hf9 (fun e=>hnF (hkvF _ e));have c49:w9.cell? ⟨nb,4,none⟩=some (.slice ka acc.length cv5):=ln9.cell 4;have z49:=ln9.frozen 4))
   all_goals
    have s7:=hf7.size
    have s8:=hb8.size
    have s9:=hf9.size
    have sa:=hBa.size
    have lp9:=(lp7.all hb8).frm hf9 (fun e=>hlF (hkvF _ e))
    have hrF9:Rng F9 w4.heap.size w9.heap.size:=fun q hq=>⟨by
     have h9:=hM9 q hq
     simp only [World.size_alloc]at h9
     rcases h9 with k | k | k
     ·exact (hOr q k).1
     ·have:=(rG q k).1;omega
     ·omega,OwElems.lt hF9 (fun C x G h=>OwNode.lt h) q hq⟩
    have hn9:nb∉F9:=fun e=>by have:=hrF9 _ e;omega
    have hfr9:Frm w4 w9 [pb,nb]:=⟨hf9.os.trans (hb8.os.trans (hf7.os.trans (hBa.os.trans hfr.os))),hf9.tape.trans (hb8.tape.trans (hf7.tape.trans (hBa.tape.trans hfr.tape))),hf9.output.trans (hb8.output.trans (hf7.output.trans (hBa.output.trans hfr.output))),by omega,fun i hi hn=>by
     have e1:=hf9.block i (by omega) (fun e=>by have:=(hOr i (hkvF i e)).1;omega)
     have e2:=hb8.block i (by omega)
     have e3:=hf7.block i (by show i<wa.heap.size;omega) (fun e=>hn (by simp at e ⊢;exact .inl e))
     have e4:wa.drew.heap[i]? = wr.heap[i]? :=hBa.block i (by omega)
     exact e1.trans (e2.trans (e3.trans (e4.trans (hfr.block i hi hn))))⟩
    have fS:=Frm.set w9 nb 4 (.slice (some ⟨g9,0,none⟩) (acc.length+1) cap9)
    have lnS:=ln9.set 4 (.slice (some ⟨g9,0,none⟩) (acc.length+1) cap9)
    have lpS:=lp9.frm fS (by simpa using hld)
    have hOS:OwElems (w9.setCell ⟨nb,4,none⟩ (.slice (some ⟨g9,0,none⟩) (acc.length+1) cap9)) 37 5 (.slice (some ⟨g9,0,none⟩) (acc.length+1) cap9) (acc++[pr.1]) (OwNode (m+1) (w9.setCell ⟨nb,4,none⟩ (.slice (some ⟨g9,0,none⟩) (acc.length+1) cap9))) F9:=OwElems.frm hF9 fS (fun q hq e=>hn9 (by simp at e;exact e ▸ hq)) (fun C x G hr hG=>OwNode.frm hr fS hG)
    have hfrS:=hfr9.trans (fS.mono (by simp))
    have HO:=hide (And.intro lnS (And.intro lpS (And.intro hOS (And.intro hfrS (hrF9.mono (Nat.le_refl _) fS.size)))))
    clear lnS lpS hOS hfrS hOd hOr hOn lp9 ln9 ln8 ln7 lnd hfr9 fS hF9 hf9 hb8 hf7 hG
    go_wp2_with fail
    go_roundw
    case rel=>
     obtain⟨lnS,lpS,hOS,hfrS,hrS⟩:=zaa HO
     have hla:(acc++[pr.1]).length=acc.length+1:=by simp
     exact⟨j+1,acc++[pr.1],some ⟨g9,0,none⟩,cap9,F9,pr.2,120-pr.2,by omega,by rw [hla];omega,by go_num,by rw [hla];exact lnS,by rw [hla];exact hOS,hN9,hrS,lpS,hide rfl,(zaa HRG).1,(zaa HRG).2,HNX,hfrS⟩
    case measure=>simp [intOf];omega
  ·have hjl':¬ (j:Int)<(ks.length:Int):=by omega
   have hjK:¬ j<(zao l p.id).length:=by have:=zaa HLK;omega
   have hstop:prjK (prj l m) (zao l p.id) [] (left-1)=(acc,lf):=by rw [<-zaa HPK,List.drop_eq_nil_of_le (by have:=zaa HLK;omega)];rfl
   obtain⟨y0,y1,y2,y3,y4⟩:=lnr.five
   obtain⟨z0,z1,z2,z3,z4⟩:=lrr.five
   have i0_:=lrr.frozen 0
   have i1_:=lrr.frozen 1
   have i2_:=lrr.frozen 2
   have i3_:=lrr.frozen 3
   have i4_:=lrr.frozen 4
   obtain⟨lX,fX⟩:=zbB lrr (.int .i64 p.kind) (.slice p2 p.name.length k2) (.slice p3 p.text.length k3) (.slice p4 p.attrs.length k4) (.slice ka acc.length cv5)
   have HE:=hide (hfin _ fX hstop)
   clear lX fX hfin hstop hO hOn hOr lpr lrr lnr HPK hfr
   go_wp2_with fail
   exact bodyPost_ret (v:=.agg #[.int .i64 p.kind,.slice p2 p.name.length k2,.slice p3 p.text.length k3,.slice p4 p.attrs.length k4,.slice ka acc.length cv5]) (by simp [results,Tryz.results61,go_sem,z0,z1,z2,z3,z4]) rfl (zaa HE)
theorem zjL:∀m,zeX m
 | 0=>zou
 | m+1=>zog m (zjL m)
end Go.Proofs.YtlpnibbdmkeklaaGreatDoor
namespace Go.Proofs.YtlpnibbdmkeklaaGreatDoor
open Go.RowKit Go.Maps
set_option linter.unusedVariables false
set_option maxRecDepth 100000
open Classical in
set_option maxHeartbeats 3200000 in
theorem zfa {w0:Xe} {w:Xe} {g mb:Nat} {a:Xc} {c:Nat} {l:List PlV} {F:Xb} (h:FoQ w0 w g mb a c l F) (hB0:Below w0.heap.size w0 w) (i:IdV) (hi:okI i) :
  Calls Tryz.prog 91 #[.pointer (some ⟨g,0,none⟩),zaq i] w fun e w'=>e=.returned (.bool (zae l i))∧FoQ w0 w' g mb a c l F∧Frm w w' [g]:=by
 refine zaf ?_
 intro Q HQ
 have HB0:=hide hB0
 clear hB0
 have hA:Below w.heap.size w (w.alloc (.cells #[.int .i64 i.1,.int .i64 i.2] 81)):=(Below.refl _ _).alloc (Nat.le_refl _) _
 have h1:=h.keep hA
 have HF:=hide (zcg h1 i hi)
 have HA:=hide (And.intro hA h1)
 clear h hA h1 hi
 unfold zaq at *
 go_enter Tryz.func91,Tryz.ntmps91
 go_wp2_with fail
 refine (zaa HF).mono ?_
 rintro e w2 ⟨hn,hs,hb2⟩
 obtain⟨hA,h1⟩:=zaa HA
 have h2:=h1.keep hb2
 have hA2:=zad hA hb2
 clear HF HA hb2 h1 hA
 cases hp:posP l i with
 | none=>
  obtain rfl:=hn hp
  have HE:=hide (zaa HQ (.returned (.bool false)) w2.drew ⟨by rw [zgX hp],h2.keep ((Below.refl _ _).drew),Frm.ofBelow (hA2.drew) _⟩)
  clear hs hn h2 hA2 HQ
  go_wp2_with fail
  go_region
  go_wp2_with fail
  exact zaa HE
 | some k=>
  obtain⟨gr,rfl,rfl⟩:=hs k hp
  have hk:k<l.length:=(posP_some.1 hp).1
  have hd2:=h2.keep ((Below.refl _ _).drew)
  obtain⟨k1,ck,n1,cn,t1,ct,a1,ca,Fa,_,_,_,_,_,e5,e6,_,_,_,oN,_,_⟩:=hd2.own hk
  have ht:=zgU hp hk
  obtain⟨p,hpe⟩:∃p,p=l[k]:=⟨_,rfl⟩
  rw [<-hpe]at ht e5 e6 oN
  have hfd:=Frm.ofBelow (hA2.drew) [g]
  by_cases h0:p.kind=0
  ·have hB:mb+1<=w2.drew.heap.size:=hd2.map.lt
   have hnm:∀w',Frm w2.drew w' [g]->Byt w' (.slice n1 p.name.length cn) p.name:=fun w' f=>oN.keep (((zad (zaa HB0) hA2).drew).trans (f.below (zad (zaa HB0) hA2).drew.size (fun q hq=>by have e9:q=g:=(by simpa using hq);rw [e9];exact hd2.geg)))
   have HC:=hide (zlb (mb+1) (.slice (some ⟨gr,0,none⟩) l.length c) (.map (some mb)) g w2.drew (.slice n1 p.name.length cn) p.name hd2.set hB hnm)
   have hvv:decide (Void p.name)=zaj p.name:=by
    cases hv:zaj p.name with
    | true=>exact decide_eq_true ((zaS _).1 hv)
    | false=>exact decide_eq_false (fun e=>by rw [(zaS _).2 e]at hv;cases hv)
   rw [hvv]at HC
   have hgr:gr≠g:=fun e=>by
    obtain⟨gr',hg1,hg2⟩:=hd2.at (by omega)
    injection hg1 with hg1
    injection hg1 with hg1 _ _
    exact hd2.gF (by rw [<-e,hg1];exact hg2)
   have HNE:=hide (show ∀w',Frm w2.drew w' [g]->∀j,w'.cell? ⟨gr,j,none⟩=w2.drew.cell? ⟨gr,j,none⟩ from fun w' f j=>World.cell?_of_block (f.block gr (zaJ e6) (by simpa using hgr)))
   have HZ:=hide (And.intro hd2 (And.intro hfd ht))
   clear hd2 hfd ht h2 hA2 hs hn oN hnm hvv hpe
   rw [h0]at e5
   go_wp2_with fail
   go_region_held3 (fun w'=>w'.cell? ⟨gr,k*9+5,none⟩=some (.int .i64 0)∧w'.cell? ⟨gr,k*9+6,none⟩=some (.slice n1 p.name.length cn))
    (first | exact⟨by assumption,by assumption⟩ | simp [*])
    (first | (go_at_call 85;refine (zaa HC).mono ?_;rintro e w3 ⟨rfl,hmd,hf3⟩;have z5:=(zaa HNE w3 hf3 (k*9+5)).trans e5;have z6:=(zaa HNE w3 hf3 (k*9+6)).trans e6))
   obtain⟨hd2,hfd,ht⟩:=zaa HZ
   have h3:FoQ w0 w3 g mb (some ⟨gr,0,none⟩) c l F:=⟨.inr hmd,hd2.map.frm hf3 (by simpa using fun e=>hd2.gm e.symm),hd2.row.frm hf3 (fun q hq e=>hd2.gF (by have e9:q=g:=(by simpa using e);rw [<-e9];exact hq)),hd2.nd,hd2.ge,hd2.geg,hd2.gem,hd2.ids,hd2.len⟩
   have HE:=hide (zaa HQ (.returned (.bool (zae l i))) w3 ⟨rfl,h3,hfd.trans hf3⟩)
   rw [ht,decide_eq_true h0,Bool.true_and]at HE
   clear h3 hd2 hfd ht HZ HC HQ hmd hf3
   go_wp2_with fail
   exact zaa HE
  ·have HE:=hide (fun n=>zaa HQ (.returned (.bool false)) (w2.drewN n) ⟨by rw [ht,decide_eq_false h0];rfl,h2.keep (below_drewN (Below.refl _ _) _),Frm.ofBelow (zad hA2 (below_drewN (Below.refl _ _) _)) _⟩)
   have e5':w2.cell? ⟨gr,k*9+5,none⟩=some (.int .i64 p.kind):=e5
   have h0':(p.kind == 0)=false:=by simpa using h0
   clear h0 hpe hp
   clear hd2 hfd ht h2 hA2 hs hn oN HQ
   go_wp2_with fail
   go_quiet (fail)
   go_wp2_with fail
   exact zaa HE _
end Go.Proofs.YtlpnibbdmkeklaaGreatDoor
