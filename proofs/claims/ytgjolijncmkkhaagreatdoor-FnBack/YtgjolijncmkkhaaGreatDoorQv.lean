/- Own texts joined: RdZ3, RdZ4, RdZ5, RdZ6, RdZ7, RdZ8, RdZ9, RdZA. -/
import Derived.Test.YtgjolijncmkkhaaGreatDoorQa
import Derived.Test.YtgjolijncmkkhaaGreatDoorQc
import Derived.Test.YtgjolijncmkkhaaGreatDoorQu
import Derived.Laws.EntriesVeiled
import Derived.Recover
namespace Go.Proofs.YtgjolijncmkkhaaGreatDoor
open Go.RowKit
set_option linter.unusedVariables false
set_option maxRecDepth 100000
def nmAt (t:OnD) (b:List OnD) (j:Nat):Xg:=match (t::b)[j]? with
 | some o=>o.name
 | none=>[]
theorem ztf (nm:Xg):∀(b:List OnD) (t:OnD) (k:Nat),k<b.length->(∀j,j<k->nmAt t b j≠nm)->nmAt t b k=nm->zfc nm t b=some k
 | [],t,k,h,_,_=>by simp at h
 | b0::b,t,0,_,_,h=>by
  have h:t.name=nm:=h
  unfold zfc
  rw [if_pos h]
 | b0::b,t,k+1,h,h1,h2=>by
  have h0:¬ t.name=nm:=h1 0 (by omega)
  unfold zfc
  rw [if_neg h0,ztf nm b b0 k (by simp at h;omega) (fun j hj=>h1 (j+1) (by omega)) h2]
  rfl
theorem zsn (nm:Xg):∀(b:List OnD) (t:OnD),(∀j,j<b.length->nmAt t b j≠nm)->zfc nm t b=none
 | [],t,_=>rfl
 | b0::b,t,h=>by
  have h0:¬ t.name=nm:=h 0 (by simp)
  unfold zfc
  rw [if_neg h0,zsn nm b b0 (fun j hj=>h (j+1) (by simp;omega))]
  rfl
theorem zAM {w:Xk} {q m c:Nat} {t:OnD} {b:List OnD} {F:Xh} (h:OwElems w 29 5 (.slice (some ⟨q,0,none⟩) m c) (t::b).reverse (OwE w) F) (i:Nat) (hi:i<=b.length):∃a1 c1,w.cell? ⟨q,i*5+1,none⟩=some (.slice a1 (nmAt t b (b.length-i)).length c1)∧Byt w (.slice a1 (nmAt t b (b.length-i)).length c1) (nmAt t b (b.length-i)):=by
 obtain⟨Cs,Fs,e1,e2,e3,e4,_⟩:=h
 have hl:(t::b).reverse.length=b.length+1:=by simp
 obtain⟨hC,hE⟩:=e3 i (by rw [hl];omega)
 have hn:nmAt t b (b.length-i)=((t::b).reverse[i]'(by rw [hl];omega)).name:=by
  unfold nmAt
  rw [List.getElem_reverse]
  simp only [List.length_cons]
  rw [List.getElem?_eq_getElem (by simp;omega)]
  simp only
  congr 2
 rw [hn]
 obtain⟨a,b',c',d,Fc,Fd,e,_,_,h1,_⟩:=hE
 obtain⟨a1,c1,rfl⟩:=h1.shape
 have hm:m=(t::b).reverse.length:=by
  rcases e4.2 with ⟨q,_⟩ | ⟨_,_,_,q,_⟩
  ·cases q
  ·injection q
 subst hm
 have Aa:=zeV e4 (fun i hi=>(e3 i (by omega)).1) e1 i 1 (by rw [hl];omega) (by decide)
 rw [e]at Aa
 exact⟨a1,c1,Aa,h1.byt⟩
theorem zyT {w:Xk} {q m c N:Nat} {t:OnD} {b:List OnD} {F:Xh} (h:OwElems w 29 5 (.slice (some ⟨q,0,none⟩) m c) (t::b).reverse (OwE w) F) (hN:N=b.length) (i:Nat) (hi:i<=N):∃a1 c1,w.cell? ⟨q,i*5+1,none⟩=some (.slice a1 (nmAt t b (N-i)).length c1)∧Byt w (.slice a1 (nmAt t b (N-i)).length c1) (nmAt t b (N-i)):=by
 subst hN
 exact zAM h i hi
set_option maxHeartbeats 6400000 in
theorem zmI {w0:Xk} {a:Xi} {cap:Nat} {l:Xg} {g k:Nat} {o3 o4 o5 o6 ov:Xl} {p:Nat} {F:Xh} {W:Xk} {top:OnD} {below:List OnD} (h:RdSt w0 a cap l g k o3 o4 o5 o6 ov (top::below).reverse p F W) (r:Xg) (hlen:below.length<=19) (hkid:∀o∈top::below,o.kids.length<=900) (an:Xi) (cn:Nat) (nm:Xg) (hnm:Byt W (.slice an nm.length cn) nm) :
  Calls Tryz.prog 172 #[.pointer (some ⟨g,0,none⟩),.slice an nm.length cn] W fun e w'=>zpc w0 a cap l g k o3 o4 o5 o6 (some (endE ⟨r,none,top,below,p⟩ nm)) e w':=by
 refine zaw ?_
 intro Q HQ
 obtain⟨q,c,rfl,Ia⟩:=h.row.row1 (n:=below.length) (by simp)
 obtain⟨_,_,_,_,_,_,s6,_,_⟩:=h.set.cells
 have HH:=hide h
 have HK:=hide hkid
 have Ca:=hide hnm
 obtain⟨N,eN⟩:∃N,N=below.length:=⟨_,rfl⟩
 rw [<-eN]at s6 Ia hlen
 have HN:=hide eN
 have Na:(0:Int)<=(N:Int):=by omega
 have Ma:(N:Int)<=19:=by omega
 clear h hkid hnm
 go_enter Tryz.func172,Tryz.ntmps172
 clear eN
 go_wp2_with fail
 go_loop [4] (fun iv=>∃i:Nat,iv=.int .i64 (i:Int)∧i<=N∧Hid (∀j,j<N-i->nmAt top below j≠nm)) (fun iv=>(intOf iv).toNat)
 case atStart=>exact⟨N,by simp,Nat.le_refl _,hide (fun j hj=>by omega)⟩
 case round=>
  obtain⟨i,rfl,hi,HI⟩:=hrel
  by_cases h0:0<i
  ·have hS:=zaa HH
   obtain⟨a1,c1,x1,Ha⟩:=zyT hS.row (zaa HN) i hi
   have HE:=hide (zdd W _ _ _ nm Ha (zaa Ca))
   have q1:(0:Int)<(i:Int):=by omega
   have q2:(i:Int)<(N:Int)+1:=by omega
   have q3:(0:Int)<=(i:Int):=by omega
   have HF:=hide (fun (e:nmAt top below (N-i)=nm)=>(show zfc nm top below=some (N-i) from ztf nm below top (N-i) (by have:=zaa HN;omega) (zaa HI) e))
   have HG:=hide (fun (e:nmAt top below (N-i)≠nm)=>(show ∀j,j<N-(i-1)->nmAt top below j≠nm from fun j hj=>by
    rcases Nat.lt_or_eq_of_le (show j<=N-i by omega)with h | h
    ·exact zaa HI j h
    ·rw [h];exact e))
   have Da:=hide (zeS hS i h0 (by have:=zaa HN;omega) (zaa HK))
   clear hS Ha HI
   generalize nmAt top below (N-i)=x at *
   cases hd:decide (x=nm)with
   | true=>
    have hx:=of_decide_eq_true hd
    have Ba:=zaa HF hx
    have Aa:endE ⟨r,none,top,below,p⟩ nm=⟨r,none,(zaT (below.length+1-i) top below).1,(zaT (below.length+1-i) top below).2,p⟩:=by
     unfold endE
     simp only [Ba]
     rw [show N-i+1=below.length+1-i by have:=zaa HN;omega]
    rw [Aa]at HQ
    rw [hd]at HE
    clear HF HG hx Ba Aa hd HH HK Ca
    go_wp2_with fail
    refine (zaa HE).mono ?_
    rintro e w1 ⟨rfl,rfl⟩
    go_wp2_with fail
    refine (zaa Da).mono ?_
    rintro e w2 ⟨rfl,La,F',Ga⟩
    have Fa:=hide (zaa HQ (.returned (.tuple #[])) w2 ⟨rfl,La,F',Ga⟩)
    clear HQ Ga Da HE
    go_wp2_with fail
    first | go_end0 | refine bodyPost_ret (results_none rfl _ _ _) rfl ?_
    exact zaa Fa
   | false=>
    have Ka:=hide (zaa HG (of_decide_eq_false hd))
    rw [hd]at HE
    clear HF HG hd Da
    go_wp2_with fail
    refine (zaa HE).mono ?_
    rintro e w1 ⟨rfl,rfl⟩
    go_wp2_with fail
    go_round
    case rel=>exact⟨i-1,by congr 1;omega,by omega,Ka⟩
    case measure=>simp [intOf];omega
  ·have Ja:i=0:=by omega
   subst Ja
   have Ba:=zsn nm below top (fun j hj=>zaa HI j (by have:=zaa HN;omega))
   have Aa:endE ⟨r,none,top,below,p⟩ nm=⟨r,none,top,below,p⟩:=by
    unfold endE
    simp only [Ba]
   rw [Aa]at HQ
   have hS:=zaa HH
   have Fa:=hide (zaa HQ (.returned (.tuple #[])) W ⟨rfl,_,F,hS⟩)
   clear HQ HI Ba Aa hS HH HK Ca
   go_wp2_with fail
   first | go_end0 | refine bodyPost_ret (results_none rfl _ _ _) rfl ?_
   exact zaa Fa
theorem zAk {w:Xk} {v:Xl} {l:List AtV} {F:Xh} (h:OwAttrs w v l F):OwAttrsM w v l F:=by
 obtain⟨Cs,Fs,e1,e2,e3,e4,e5⟩:=h
 refine⟨Cs,Fs,e1,e2,fun i hi=>⟨(e3 i hi).1,?_⟩,e4,e5⟩
 obtain⟨a,b,e,h1,h2,h3⟩:=(e3 i hi).2
 exact⟨a,b,e,h1.rowm,h2.rowm,h3⟩
structure TagM (w0 W:Xk) (g:Nat) (F:Xh) (nm:Xg) (ats:List AtV) (a1:Xi) (c1:Nat) (a3:Xi) (c3:Nat) (Ft:Xh):Prop where
 name:RowM W 0 (.slice a1 nm.length c1) nm
 attrs:OwAttrs W (.slice a3 ats.length c3) ats Ft
 nd:(FB (.slice a1 nm.length c1)++Ft).Nodup
 dis:∀x∈F,x∉FB (.slice a1 nm.length c1)++Ft
 gN:g∉FB (.slice a1 nm.length c1)++Ft
 ge:∀x∈FB (.slice a1 nm.length c1)++Ft,w0.heap.size<=x
theorem TagM.owe {w0 W:Xk} {g:Nat} {F:Xh} {nm:Xg} {ats:List AtV} {a1:Xi} {c1:Nat} {a3:Xi} {c3:Nat} {Ft:Xh} (T:TagM w0 W g F nm ats a1 c1 a3 c3 Ft):OwE W [.int .i64 0,.slice a1 nm.length c1,.slice none 0 0,.slice a3 ats.length c3,.slice none 0 0] ⟨0,nm,[],ats,[]⟩ (FB (.slice a1 nm.length c1)++Ft):=
 ⟨_,_,_,_,Ft,[],rfl,(by show (-9223372036854775808:Int)<=0;decide),(by show (0:Int)<=9223372036854775807;decide),T.name,zcc _ _,zAk T.attrs,⟨[],[],rfl,rfl,fun i hi=>by simp at hi,⟨by simp,.inl ⟨rfl,rfl⟩⟩,rfl⟩,by simp [FB,Value.ownBlock]⟩
theorem TagM.frm {w0 W W':Xk} {g:Nat} {F:Xh} {nm:Xg} {ats:List AtV} {a1:Xi} {c1:Nat} {a3:Xi} {c3:Nat} {Ft:Xh} (T:TagM w0 W g F nm ats a1 c1 a3 c3 Ft) (f:Frm W W' [g]):TagM w0 W' g F nm ats a1 c1 a3 c3 Ft:=
 ⟨T.name.frm f (fun x hx=>zcH T.gN (List.mem_append_left _ hx)),OwAttrs.frm T.attrs f (fun x hx=>zcH T.gN (List.mem_append_right _ hx)),T.nd,T.dis,T.gN,T.ge⟩
set_option maxHeartbeats 6400000 in
theorem zlN {w0:Xk} {a:Xi} {cap:Nat} {l:Xg} {g k:Nat} {o3 ov:Xl} {s:Bool} {nm:Xg} {ats:List AtV} {a1:Xi} {c1:Nat} {a3:Xi} {c3:Nat} {Ft:Xh} {p:Nat} {F:Xh} {W:Xk} {top:OnD} {below:List OnD} (h:RdSt w0 a cap l g k o3 (.bool s) (.slice a1 nm.length c1) (.slice a3 ats.length c3) ov (top::below).reverse p F W) (T:TagM w0 W g F nm ats a1 c1 a3 c3 Ft) (r:Xg) (hp:p<=120) (hlen:below.length<=19) (hkid:∀o∈top::below,o.kids.length<=800) :
  Calls Tryz.prog 143 #[.pointer (some ⟨g,0,none⟩)] W fun e w'=>zpc w0 a cap l g k o3 (.bool s) (.slice a1 nm.length c1) (.slice a3 ats.length c3) (endT zaJ ⟨r,none,top,below,p⟩ s nm ats) e w':=by
 refine zaw ?_
 intro Q HQ
 obtain⟨_,_,_,s3,s4,s5,_,_,_⟩:=h.set.cells
 have Aa:=hide (zxa W _ nm T.name.byt)
 have HH:=hide h
 have HT:=hide T
 have HK:=hide hkid
 unfold endT at HQ
 clear h T hkid
 cases hb:zaJ nm with
 | false=>
  rw [hb]at HQ Aa
  have HE:=hide (zaa HQ (.returned (.tuple #[])) W ⟨rfl,_,F,zaa HH⟩)
  clear HQ HH HT HK hb
  go_enter Tryz.func143,Tryz.ntmps143
  go_wp2_with fail
  refine (zaa Aa).mono ?_
  rintro e w1 ⟨rfl,rfl⟩
  go_wp2_with fail
  first | go_end0 | refine bodyPost_ret (results_none rfl _ _ _) rfl ?_
  exact zaa HE
 | true=>
  rw [hb]at HQ Aa
  cases s with
  | true=>
   have Ba:=hide (zmI (zaa HH) r hlen (fun o ho=>by have:=zaa HK o ho;omega) a1 c1 nm (zaa HT).name.byt)
   clear HH HT HK hb
   go_enter Tryz.func143,Tryz.ntmps143
   go_wp2_with fail
   refine (zaa Aa).mono ?_
   rintro e w1 ⟨rfl,rfl⟩
   go_wp2_with fail
   refine (zaa Ba).mono ?_
   rintro e w2 ⟨rfl,hS⟩
   have HE:=hide (zaa HQ (.returned (.tuple #[])) w2 ⟨rfl,hS⟩)
   clear HQ Ba hS Aa
   go_wp2_with fail
   first | go_end0 | refine bodyPost_ret (results_none rfl _ _ _) rfl ?_
   exact zaa HE
  | false=>
   have hd:=(Below.refl W.heap.size W).drew
   have h2:=(zaa HH).keep hd
   have T2:=(zaa HT).frm (Frm.ofBelow hd [g])
   obtain⟨_,_,_,z3,z4,z5,_,_,_⟩:=h2.set.cells
   simp only [if_true,Bool.false_eq_true,if_false]at HQ
   unfold putE at HQ
   by_cases hroom:room ⟨r,none,top,below,p⟩=true
   ·obtain⟨r1,r2⟩:=zjc hroom
    simp only at r1 r2
    rw [if_pos hroom]at HQ
    have HP:=hide (zxA h2 r1 (by omega) (zaa HK) nm ats a1 a3 c1 c3 _ T2.owe T2.nd T2.dis T2.gN T2.ge)
    clear HH HT HK hb h2 T2 hd hroom
    go_enter Tryz.func143,Tryz.ntmps143
    go_wp2_with fail
    refine (zaa Aa).mono ?_
    rintro e w1 ⟨rfl,rfl⟩
    go_wp2_with fail
    go_still_tail 12,rfl
    go_wp2_with fail
    refine (zaa HP).mono ?_
    rintro e w2 ⟨rfl,Ca,F',hS⟩
    have HE:=hide (zaa HQ (.returned (.tuple #[])) w2 (by
     have hv:zpg nm=zba nm:=rfl
     simp only [hv]
     cases hvb:zba nm with
     | true=>rw [hvb]at hS;exact⟨rfl,Ca,F',hS⟩
     | false=>rw [hvb]at hS;exact⟨rfl,Ca,F',hS⟩))
    clear HQ HP hS Aa
    go_wp2_with fail
    first | go_end0 | refine bodyPost_ret (results_none rfl _ _ _) rfl ?_
    exact zaa HE
   ·rw [if_neg hroom]at HQ
    have Da:p=120∨below.length+1=20:=by
     unfold room at hroom
     simp at hroom
     by_cases e:p+1<=120
     ·right;have:=hroom (by omega);omega
     ·left;omega
    have HP:=hide (zAf h2 hp Da a1 a3 nm.length c1 ats.length c3)
    clear HH HT HK hb h2 T2 hd hroom
    go_enter Tryz.func143,Tryz.ntmps143
    go_wp2_with fail
    refine (zaa Aa).mono ?_
    rintro e w1 ⟨rfl,rfl⟩
    go_wp2_with fail
    go_still_tail 12,rfl
    go_wp2_with fail
    refine (zaa HP).mono ?_
    rintro e w2 ⟨⟨v,rfl⟩,hB⟩
    exact⟨rfl,zaa HQ _ w2 ⟨⟨v,rfl⟩,hB⟩⟩
theorem zmd {P:Program} {ops:Array Oper} {o:Oper} {a:Act} {w:Xk} {K:Act->Xk->Prop} {Q:Exit->Act->Xk->Prop} {E:Prop} (hw:Region.wanted o (yielded ops a.tmps)=true) (f:FuncId) (xs:List Operand) (tys:Array Xm)
  (ho:o.op=.call { callee:=.value (.func f),args:=xs.toArray,argTypes:=tys }) (he:∀args w,(callFunc f args).run P w=.ok (.enter f args) w) (args:Xj) (hx:xs.map a.eval=args) {R:Ending->Xk->Prop} (hc:Calls P f args.toArray w R)
  (h:∀e w',R e w'->∃v,e=.returned v∧K (a.put o.dst v) w'):if Region.wanted o (yielded ops a.tmps)=true then Oper.wp P o a w K Q else E:=by
 rw [if_pos hw]
 subst hx
 unfold Oper.wp execOp
 simp [ho,resolve,invoke,go_sem,he]
 refine hc.mono ?_
 intro e w' hR
 obtain⟨v,rfl,hk⟩:=h e w' hR
 exact hk
def zbB (g:Nat):Xl:=.func (.func 56) #[.pointer (some ⟨g,0,none⟩)] #[]
def tagV (g:Nat):Xl:=.func (.func 103) #[.pointer (some ⟨g,0,none⟩)] #[]
def StM (w0:Xk) (a:Xi) (cap:Nat) (l:Xg) (g:Nat) (s:RdS) (W:Xk):Prop:=∃k o4 o5 o6 ov F,s.rest=l.drop k∧match s.tag with
 | none=>RdSt w0 a cap l g k (zbB g) o4 o5 o6 ov (s.top::s.below).reverse s.parts F W
 | some (e,nm,ats)=>∃a1 c1 a3 c3 Ft,o4=.bool e∧o5=.slice a1 nm.length c1∧o6=.slice a3 ats.length c3∧RdSt w0 a cap l g k (tagV g) o4 o5 o6 ov (s.top::s.below).reverse s.parts F W∧TagM w0 W g F nm ats a1 c1 a3 c3 Ft
def ztW (w0:Xk) (a:Xi) (cap:Nat) (l:Xg) (g:Nat) (o:Option RdS) (e:Ending) (w':Xk):Prop:=match o with
 | some s=>e=.returned (.tuple #[])∧StM w0 a cap l g s w'
 | none=>Much e∧Below w0.heap.size w0 w'
theorem zxn (l:Xg):(zcK l).2 <:+ l:=by
 have hn:(zaE l).2 <:+ l:=List.dropWhile_suffix _
 unfold zcK
 simp only
 split
 ·exact ((zAN _).trans (List.drop_suffix _ _)).trans hn
 ·exact hn
theorem zqT {l m:Xg} {k:Nat} (h:m <:+ l.drop k):m=l.drop (l.length-m.length):=List.suffix_iff_eq_drop.1 (h.trans (List.drop_suffix _ _))
theorem RdSt.setStep {w0:Xk} {a:Xi} {cap:Nat} {l:Xg} {g k:Nat} {o3 o4 o5 o6 ov:Xl} {os:List OnD} {p:Nat} {F:Xh} {W:Xk} (h:RdSt w0 a cap l g k o3 o4 o5 o6 ov os p F W) (v:Xl):RdSt w0 a cap l g k v o4 o5 o6 ov os p F (W.setCell ⟨g,2,none⟩ v):=h.step (Frm.set W g 2 v) (h.set.put v).2.1 h.kl
theorem RdSt.setAt {w0:Xk} {a:Xi} {cap:Nat} {l:Xg} {g k:Nat} {o3 o4 o5 o6 ov:Xl} {os:List OnD} {p:Nat} {F:Xh} {W:Xk} (h:RdSt w0 a cap l g k o3 o4 o5 o6 ov os p F W) (k':Nat) (hk:k'<=l.length):RdSt w0 a cap l g k' o3 o4 o5 o6 ov os p F (W.setCell ⟨g,1,none⟩ (.int .i64 (k':Int))):=h.step (Frm.set W g 1 _) (h.set.put _).1 hk
theorem zul {w0 W w':Xk} {a:Xi} {cap:Nat} {l:Xg} {g k k':Nat} {o3 o4 ov:Xl} {nm:Xg} {ats ats':List AtV} {a1:Xi} {c1:Nat} {a3:Xi} {c3:Nat} {Ft:Xh} {os:List OnD} {p:Nat} {F:Xh} (h:RdSt w0 a cap l g k o3 o4 (.slice a1 nm.length c1) (.slice a3 ats.length c3) ov os p F W) (T:TagM w0 W g F nm ats a1 c1 a3 c3 Ft) (hk:k'<=l.length) (hA:ztK w0.heap.size a cap l o3 o4 (.slice a1 nm.length c1) ov (.int .i64 p) W W g k' ats' Ft w') :
  ∃a3' c3' Ft',RdSt w0 a cap l g k' o3 o4 (.slice a1 nm.length c1) (.slice a3' ats'.length c3') ov os p F w'∧TagM w0 w' g F nm ats' a1 c1 a3' c3' Ft':=by
 obtain⟨av,cv,F',hR,hO,hN,hM,hf⟩:=hA
 have Ga:g<W.heap.size:=zaP h.set.cells.1
 have Ca:=List.nodup_append.1 T.nd
 have Aa:∀x∈F',x∈Ft∨W.heap.size<=x:=hM
 have Ba:∀x∈F,x∉g::Ft:=fun x hx e=>by
  rcases List.mem_cons.1 e with e | e
  ·exact h.gF (by rw [<-e];exact hx)
  ·exact T.dis x hx (List.mem_append_right _ e)
 have Da:=T.name.lt
 refine⟨av,cv,F',⟨hR,OwElems.frm h.row hf Ba (fun C x G' hr Fa=>OwE.frm hr hf Fa),h.nd,h.bel.trans (hf.below h.bel.size (fun x hx=> ?_)),h.byt,h.geF,h.geg,hk,h.ll,h.gF⟩,T.name.frm hf (fun x hx e=> ?_),hO,?_,fun x hx e=> ?_,fun e=> ?_,fun x hx=> ?_⟩
 ·rcases List.mem_cons.1 hx with e | e
  ·rw [e];exact h.geg
  ·exact T.ge x (List.mem_append_right _ e)
 ·rcases List.mem_cons.1 e with e | e
  ·exact T.gN (by rw [<-e];exact List.mem_append_left _ hx)
  ·exact Ca.2.2 x hx x e rfl
 ·refine List.nodup_append.2 ⟨Ca.1,hN,fun x hx y hy e=> ?_⟩
  subst e
  rcases Aa x hy with e | e
  ·exact Ca.2.2 x hx x e rfl
  ·have:=(Da x (by simpa [FB]using hx)).2;omega
 ·rcases List.mem_append.1 e with e | e
  ·exact T.dis x hx (List.mem_append_left _ e)
  ·rcases Aa x e with e | e
   ·exact T.dis x hx (List.mem_append_right _ e)
   ·have:=h.lt x hx;omega
 ·rcases List.mem_append.1 e with e | e
  ·exact T.gN (List.mem_append_left _ e)
  ·rcases Aa g e with e | e
   ·exact T.gN (List.mem_append_right _ e)
   ·omega
 ·rcases List.mem_append.1 hx with e | e
  ·exact T.ge x (List.mem_append_left _ e)
  ·rcases Aa x e with e | e
   ·exact T.ge x (List.mem_append_right _ e)
   ·have:=h.bel.size;omega
theorem zzk {k:List Itm} (h:zez k):0<k.length:=by
 obtain⟨n,t,rfl,hg⟩:=h
 match n,t,hg with
 | n+1,t,_=>rw [zel];omega
theorem zmO {s:RdS} (h:InvS s):∀o∈s.top::s.below,o.kids.length<=120:=by
 intro o ho
 have h1:o.kids.length<=(o.kids.map List.length).sum:=by
  have hg:=(h.1.good o ho).2.2.1
  generalize o.kids=ks at hg
  induction ks with
  | nil=>simp
  | cons k ks ih=>
   have a1:=ih (fun x hx=>hg x (by simp [hx]))
   have a2:=zzk (hg k (by simp))
   simp
   omega
 have h2:lenO o<=((s.top::s.below).map lenO).sum:=by
  have:∀(os:List OnD),o∈os->lenO o<=(os.map lenO).sum:=by
   intro os
   induction os with
   | nil=>intro h;cases h
   | cons x os ih=>
    intro h
    simp only [List.map_cons,List.sum_cons]
    rcases List.mem_cons.1 h with rfl | h
    ·omega
    ·have:=ih h;omega
  exact this _ ho
 rw [<-h.1.sum,zmZ]at h2
 have:=h.1.le
 omega
theorem zjT {w0:Xk} {a:Xi} {cap:Nat} {l:Xg} {g k:Nat} {o3 o4 o5 o6:Xl} {r:Xg} {o:Option RdS} {e:Ending} {w':Xk} (h:zpc w0 a cap l g k o3 o4 o5 o6 o e w') (hr:∀s,o=some s->s.rest=l.drop k∧s.tag=none):(∃s,o=some s∧e=.returned (.tuple #[])∧w'.frozen? ⟨g,2,none⟩=false∧(∃v,w'.cell? ⟨g,2,none⟩=some v)∧StM w0 a cap l g s (w'.setCell ⟨g,2,none⟩ (zbB g)))∨(o=none∧Much e∧Below w0.heap.size w0 w'):=by
 cases o with
 | none=>exact .inr ⟨rfl,h⟩
 | some s=>
  obtain⟨rfl,Aa,F',hS⟩:=h
  obtain⟨h1,h2⟩:=hr s rfl
  obtain⟨_,_,c2,_,_,_,_,_,fz⟩:=hS.set.cells
  refine .inl ⟨s,rfl,rfl,fz 2,⟨_,c2⟩,k,o4,o5,o6,Aa,F',h1,?_⟩
  rw [h2]
  exact hS.setStep _
set_option maxHeartbeats 6400000 in
theorem zrK {w0:Xk} {a:Xi} {cap:Nat} {l:Xg} {g:Nat} {s:RdS} {W:Xk} (hM:StM w0 a cap l g s W) {e0:Bool} {nm:Xg} {ats:List AtV} (ht:s.tag=some (e0,nm,ats)) (hI:InvS s) :
  Calls Tryz.prog 103 #[.pointer (some ⟨g,0,none⟩)] W fun e w'=>ztW w0 a cap l g (stp s) e w':=by
 refine zaw ?_
 intro Q HQ
 have Ba:=hI.2 e0 nm ats ht
 have Aa:=zmO hI
 have hp:=hI.1.le
 have Ma:=hI.1.len
 obtain⟨k,o4,o5,o6,ov,F,Da,hm⟩:=hM
 rw [ht]at hm
 obtain⟨a1,c1,a3,c3,Ft,rfl,rfl,rfl,hS,T⟩:=hm
 have Va:stp s=zcJ zaS zaJ s e0 nm ats:=by
  show zoS zaS zaJ s=_
  unfold zoS
  rw [ht]
 rw [Va]at HQ
 clear Va hI
 obtain⟨ea,tag,Pa,below,p⟩:=s
 simp only at Da ht hp Ma Aa hS T
 subst Da
 subst ht
 have Fa:below.length<=19:=by simp at Ma;omega
 have ka:=hS.kl
 have Ta:=hS.ll
 have la:∀(fn:Fn) (first cap:Array Xl) (w:Xk),(Instr.makeFunc fn first cap).run Tryz.prog w=.ok (.func fn first cap) w:=fun _ _ _ _=>rfl
 have hd:=(Below.refl W.heap.size W).drew
 by_cases hlt:k<l.length
 ·have h0:l≠[]:=by intro e;rw [e]at hlt;simp at hlt
  obtain⟨bb,Ya,rfl⟩:=hS.byt.some' h0
  obtain⟨x,hx⟩:∃x,x=l.getD k 0:=⟨_,rfl⟩
  have Ra:∀W',Below w0.heap.size w0 W'->W'.cell? ⟨bb,Ya+k,none⟩=some (.int .u8 x):=fun W' hB=>by rw [hx];exact (hS.byt.keep hB).at' h0 k hlt
  have Ia:l.drop k=x::l.drop (k+1):=by rw [hx,zdC hlt];exact List.drop_eq_getElem_cons hlt
  have hh:∀y,decide ((l.drop k).head? = some y)=decide (x=y):=fun y=>by rw [Ia];simp
  clear hx
  have Za:∀args w,(callFunc 141 args).run Tryz.prog w=.ok (.enter 141 args) w:=enters_of Tryz.func141 (by kernel_rfl) rfl
  have Ka:=hS.keep hd
  have HP:=hide (Ka.rd.pass Ka.ag Ta 62 (decide (x=62)) (hh 62))
  have Td:=T.frm (Frm.ofBelow hd [g])
  obtain⟨s0,s1,_,_,_,_,_,_,_⟩:=Ka.set.cells
  have aa:((k:Int) == (l.length:Int))=false:=by simp;omega
  unfold zcJ at HQ
  simp only [Ia]at HQ
  clear hS T hd
  by_cases h62:x=62
  ·subst h62
   simp only [if_true]at HQ
   rw [decide_eq_true rfl]at HP
   have HS:=hide Ka
   have HT:=hide Td
   clear Ka Td Ra
   go_enter Tryz.func103,Tryz.ntmps103
   go_upto_region 1 with fail
   go_region_law (refine zmd (by rfl) 141 [.tmp 21,.const (.int .u8 62)] #[65,5] (by rfl) Za [.pointer (some ⟨g,0,none⟩),.int .u8 62] (by rfl) (zaa HP) ?_;clear HP;rintro e w2 ⟨rfl,hR,hf⟩;refine⟨_,rfl,?_⟩)
   all_goals
    have Ha:=(zaa HS).step hf hR.1 hR.2.2.2
    have T2:=(zaa HT).frm hf
    have HE:=hide (zlN Ha T2 (l.drop (k+1)) hp Fa (fun o ho=>by have:=Aa o ho;omega))
    have Oa:=hide (show ∀s',endT zaJ ⟨l.drop (k+1),none,Pa,below,p⟩ e0 nm ats=some s'->s'.rest=l.drop (toK k true)∧s'.tag=none from fun s' h=>by
     have:=zdD h
     exact⟨this.1,this.2⟩)
    clear HS HT hR hf Ha T2 Aa Ba hh Ia
    go_wp2_with fail
    refine (zaa HE).mono ?_
    intro e w3 hR
    rcases zjT (r:=[]) hR (zaa Oa)with ⟨s',he,rfl,z1,⟨fa,z2⟩,Na⟩ | ⟨he,⟨v,rfl⟩,hB⟩
    ·rw [he]at HQ
     have HF:=hide (zaa HQ (.returned (.tuple #[])) _ ⟨rfl,Na⟩)
     clear HQ HE Oa hR Na he
     unfold zbB at HF
     go_wp2_with fail
     first | go_end0 | refine bodyPost_ret (results_none rfl _ _ _) rfl ?_
     exact zaa HF
    ·rw [he]at HQ
     exact⟨rfl,zaa HQ _ w3 ⟨⟨v,rfl⟩,hB⟩⟩
  ·rw [if_neg h62]at HQ
   rw [decide_eq_false h62]at HP
   have HS:=hide Ka
   have HT:=hide Td
   have Sa:=hide Ra
   clear Ka Td Ra h62
   go_enter Tryz.func103,Tryz.ntmps103
   go_upto_region 1 with fail
   go_region_law (refine zmd (by rfl) 141 [.tmp 21,.const (.int .u8 62)] #[65,5] (by rfl) Za [.pointer (some ⟨g,0,none⟩),.int .u8 62] (by rfl) (zaa HP) ?_;clear HP;rintro e w2 ⟨rfl,hR,hf⟩;refine⟨_,rfl,?_⟩)
   all_goals
    have Ha:RdSt w0 (some ⟨bb,Ya,none⟩) cap l g k (tagV g) (.bool e0) (.slice a1 nm.length c1) (.slice a3 ats.length c3) ov (Pa::below).reverse p F w2:=(zaa HS).step hf hR.1 hR.2.2.2
    have T2:=(zaa HT).frm hf
    have ha:=zaa Sa w2 Ha.bel
    obtain⟨u0,u1,_,_,_,_,_,_,Wa⟩:=Ha.set.cells
    have ma:=Wa 1
    have na:(0:Int)<=(k:Int):=by omega
    have ja:(k:Int)<(l.length:Int):=by omega
    have oa:(k:Int)<=1500:=by omega
    have Ga:∀n_,Below w2.heap.size w2 (w2.drewN n_):=fun n_=>below_drewN (Below.refl w2.heap.size w2) n_
    have La:=hide (fun n_=>Ha.keep (Ga n_))
    have Ja:=hide (fun n_=>T2.frm (Frm.ofBelow (Ga n_) [g]))
    have ia:(1:Nat)=1:=rfl
    clear HS HT Sa hR hf Ha T2 Ga Aa hh s0 s1 Wa
    go_wp2_with fail
    go_still_tail 10,rfl
    go_wp2_with fail
    refine (zmL x _).mono ?_
    rintro e w3 ⟨rfl,ca⟩
    subst ca
    cases hl:zbe x with
    | true=>
     rw [hl]at HQ
     simp only [if_true]at HQ
     have HA:=hide (fun n_=>(zaa La n_).rd.attr (zaa La n_).ag Ta (zaa Ja n_).attrs (List.nodup_append.1 (zaa Ja n_).nd).2.1 (fun e=>(zaa Ja n_).gN (List.mem_append_right _ e)) Ba.2.1 Ba.1)
     clear hl
     go_wp2_with fail
     refine (zaa HA _).mono ?_
     rintro e w4 ⟨rfl,hA⟩
     obtain⟨da,ga,ba,Ua,T4⟩:=zul (zaa La _) (zaa Ja _) (by omega) hA
     have HF:=hide (zaa HQ (.returned (.tuple #[])) w4 ⟨rfl,l.length-(zcK (l.drop k)).2.length,.bool e0,_,_,ov,F,by rw [<-Ia];exact zqT (zxn _),a1,c1,da,ga,ba,rfl,rfl,by rw [<-Ia],by rw [<-Ia];exact Ua,by rw [<-Ia];exact T4⟩)
     clear HQ HA hA Ua T4 La Ja
     go_wp2_with fail
     first | go_end0 | refine bodyPost_ret (results_none rfl _ _ _) rfl ?_
     exact zaa HF
    | false=>
     rw [hl]at HQ
     simp only [Bool.false_eq_true,if_false]at HQ
     have HF:=hide (fun n_=>zaa HQ (.returned (.tuple #[])) _ ⟨rfl,k+1,.bool e0,_,_,ov,F,rfl,a1,c1,a3,c3,Ft,rfl,rfl,rfl,(zaa La n_).setAt (k+1) (by omega),(zaa Ja n_).frm (Frm.set _ g 1 _)⟩)
     clear HQ La Ja hl
     go_wp2_with fail
     first | go_end0 | refine bodyPost_ret (results_none rfl _ _ _) rfl ?_
     exact zaa HF _
 ·have Xa:k=l.length:=by omega
  have Qa:l.drop k=[]:=zem Xa
  unfold zcJ at HQ
  simp only [Qa]at HQ
  have Ga:∀n_,Below W.heap.size W (W.drewN n_):=fun n_=>below_drewN (Below.refl W.heap.size W) n_
  have HE:=hide (fun n_=>zlN (hS.keep (Ga n_)) (T.frm (Frm.ofBelow (Ga n_) [g])) [] hp Fa (fun o ho=>by have:=Aa o ho;omega))
  have Ca:∀s',endT zaJ ⟨[],none,Pa,below,p⟩ e0 nm ats=some s'->s'.rest=l.drop k∧s'.tag=none:=fun s' h=>by
   have:=zdD h
   exact⟨this.1.trans Qa.symm,this.2⟩
  have Oa:=hide Ca
  obtain⟨s0,s1,_,_,_,_,_,_,_⟩:=hS.set.cells
  have aa:((k:Int) == (l.length:Int))=true:=by simp;omega
  clear hS T Ca hd Aa Ba Qa Xa hlt Ga
  go_enter Tryz.func103,Tryz.ntmps103
  go_upto_region 1 with fail
  go_quiet (fail)
  go_wp2_with fail
  refine (zaa HE _).mono ?_
  intro e w1 hR
  rcases zjT (r:=[]) hR (zaa Oa)with ⟨s',he,rfl,z1,⟨fa,z2⟩,Na⟩ | ⟨he,⟨v,rfl⟩,hB⟩
  ·rw [he]at HQ
   have HF:=hide (zaa HQ (.returned (.tuple #[])) _ ⟨rfl,Na⟩)
   clear HQ HE Oa hR Na he
   unfold zbB at HF
   go_wp2_with fail
   first | go_end0 | refine bodyPost_ret (results_none rfl _ _ _) rfl ?_
   exact zaa HF
  ·rw [he]at HQ
   exact⟨rfl,zaa HQ _ w1 ⟨⟨v,rfl⟩,hB⟩⟩
def EndM (w0:Xk) (a:Xi) (cap:Nat) (l:Xg) (g:Nat) (s:RdS) (w':Xk):Prop:=∃o4 o5 o6 ov F,RdSt w0 a cap l g l.length Value.nilFunc o4 o5 o6 ov (s.top::s.below).reverse s.parts F w'
set_option maxHeartbeats 6400000 in
theorem zrL {w0:Xk} {a:Xi} {cap:Nat} {l:Xg} {g:Nat} {s:RdS} {W:Xk} (hM:StM w0 a cap l g s W) (ht:s.tag=none) (hr:s.rest=[]) :
  Calls Tryz.prog 56 #[.pointer (some ⟨g,0,none⟩)] W fun e w'=>e=.returned (.tuple #[])∧EndM w0 a cap l g s w':=by
 refine zaw ?_
 intro Q HQ
 obtain⟨k,o4,o5,o6,ov,F,Aa,hm⟩:=hM
 rw [ht]at hm
 obtain⟨rest,tag,Ca,below,p⟩:=s
 simp only at Aa ht hm hr
 subst ht
 have hS:RdSt w0 a cap l g k (zbB g) o4 o5 o6 ov (Ca::below).reverse p F W:=hm
 have Ha:=hS.kl
 have Da:k=l.length:=by
  rw [hr]at Aa
  have:=congrArg List.length Aa
  simp at this
  omega
 subst Da
 obtain⟨_,_,e0,Ia,Ga⟩:=hS.byt.shape
 cases e0
 have Fa:=hS.ll
 have Ba:∀n_,Below W.heap.size W (W.drewN n_):=fun n_=>below_drewN (Below.refl W.heap.size W) n_
 obtain⟨s0,s1,s2,_,_,_,_,_,fz⟩:=hS.set.cells
 have f2:=fz 2
 have k0:(0:Int)<=(l.length:Int):=by omega
 have k2:(l.length:Int)<=(cap:Int):=by omega
 have HE:=hide (fun n_=>zaa HQ (.returned (.tuple #[])) _ ⟨rfl,o4,o5,o6,ov,F,(hS.keep (Ba n_)).setStep Value.nilFunc⟩)
 unfold Value.nilFunc at HE
 clear hS hm Aa Ba HQ fz
 by_cases hck:cap=l.length
 ·subst hck
  go_enter Tryz.func56,Tryz.ntmps56
  go_upto_region 0 with fail
  go_quiet (fail)
  go_wp2_with fail
  first | go_end0 | refine bodyPost_ret (results_none rfl _ _ _) rfl ?_
  exact zaa HE _
 ·have q3:¬ cap=l.length:=hck
  go_enter Tryz.func56,Tryz.ntmps56
  go_upto_region 0 with fail
  go_quiet (fail)
  go_wp2_with fail
  first | go_end0 | refine bodyPost_ret (results_none rfl _ _ _) rfl ?_
  exact zaa HE _
set_option maxHeartbeats 6400000 in
theorem zlf {w0:Xk} {a:Xi} {cap:Nat} {l:Xg} {g:Nat} {s:RdS} {W:Xk} (hM:StM w0 a cap l g s W) (ht:s.tag=none) (hr:s.rest≠[]) (hI:InvS s) :
  Calls Tryz.prog 56 #[.pointer (some ⟨g,0,none⟩)] W fun e w'=>ztW w0 a cap l g (stp s) e w':=by
 refine zaw ?_
 intro Q HQ
 have Ba:=zmO hI
 have hp:=hI.1.le
 have Ia:=hI.1.len
 have Aa:=(hI.1.good s.top (by simp)).2.2.1
 obtain⟨k,o4,o5,o6,ov,F,Fa,hm⟩:=hM
 rw [ht]at hm
 obtain⟨rest,tag,Ga,below,p⟩:=s
 simp only at Fa ht hm hr hp Ia Ba Aa
 subst ht
 subst Fa
 have hS:RdSt w0 a cap l g k (zbB g) o4 o5 o6 ov (Ga::below).reverse p F W:=hm
 have Ka:below.length<=19:=by simp at Ia;omega
 have ka:=hS.kl
 have ea:=hS.ll
 have La:k<l.length:=by
  by_cases e:k<l.length
  ·exact e
  ·exact absurd (zem (by omega)) hr
 have h0:l≠[]:=by intro e;rw [e]at La;simp at La
 obtain⟨bb,Ja,rfl⟩:=hS.byt.some' h0
 have Za:stp ⟨l.drop k,none,Ga,below,p⟩=if tagB (l.drop k)=true then some (zed ⟨l.drop k,none,Ga,below,p⟩) else putC ⟨(l.drop k).drop (zap (l.drop k)).2,none,Ga,below,p⟩ (zap (l.drop k)).1:=rfl
 rw [Za]at HQ
 have ma:∀(fn:Fn) (first cap:Array Xl) (w:Xk),(Instr.makeFunc fn first cap).run Tryz.prog w=.ok (.func fn first cap) w:=fun _ _ _ _=>rfl
 have Oa:∀n_,Below W.heap.size W (W.drewN n_):=fun n_=>below_drewN (Below.refl W.heap.size W) n_
 obtain⟨s0,s1,s2,_,_,_,_,_,fz⟩:=hS.set.cells
 have ha:=(hS.byt.row h0).1
 have k0:(0:Int)<=(k:Int):=by omega
 have k1:(k:Int)<=(l.length:Int):=by omega
 have k2:(l.length:Int)<=(cap:Int):=by omega
 have q3:¬ cap=k:=by omega
 have q4:((l.length-k:Nat):Int)≠0:=by omega
 have q5:(((l.length-k:Nat):Int) == 0)=false:=by simp;omega
 have el:(l.drop k).length=l.length-k:=List.length_drop
 have Sa:∀W',Below w0.heap.size w0 W'->Byt W' (.slice (some ⟨bb,Ja+k,none⟩) (l.length-k) (cap-k)) (l.drop k):=fun W' hB=>by
  have:=(hS.byt.keep hB).dropR h0 ha k La
  rw [el]at this
  exact this
 have HD:=hide Sa
 have HS:=hide (fun n_=>hS.keep (Oa n_))
 have Ra:=hide (fun n_=>(show Calls Tryz.prog 101 #[.slice (some ⟨bb,Ja+k,none⟩) (l.length-k) (cap-k)] (W.drewN n_) _ from by
  have:=zza (W.drewN n_) (some ⟨bb,Ja+k,none⟩) (cap-k) (l.drop k) (by rw [el];exact Sa _ (hS.keep (Oa n_)).bel) (by omega)
  rw [el]at this
  exact this))
 clear Za hm hS Oa Sa hI
 go_enter Tryz.func56,Tryz.ntmps56
 go_upto_region 0 with fail
 go_quiet (fail)
 go_wp2_with fail
 refine (zaa Ra _).mono ?_
 rintro e w1 ⟨rfl,Na⟩
 have Ca:=(zaa HS _).keep Na
 obtain⟨t0,t1,t2,_,_,_,_,_,tz⟩:=Ca.set.cells
 have fa:=tz 1
 cases htb:tagB (l.drop k)with
 | true=>
  rw [htb]at HQ
  simp only [if_true]at HQ
  have Xa:=hide (Ca.rd.begin Ca.ag ea La)
  have Da:=hide Ca
  clear Ra HS HD Ca Na tz htb Ba Aa
  go_wp2_with fail
  refine (zaa Xa).mono ?_
  rintro e w2 ⟨a',c',rfl,hO,hR,hf⟩
  have Ha:=(zaa Da).step hf hR.1 hR.2.2.2
  have ja:g<w1.heap.size:=zaP (zaa Da).set.cells.1
  have Ma:=hO.lt
  have Wa:=(zaa Da).lt
  have pa:=(zaa Da).bel.size
  obtain⟨_,_,x2,_,_,_,_,_,xz⟩:=hR.1.cells
  have la:=xz 2
  have T2:TagM w0 w2 g F (zaE (tagR (l.drop k))).1 [] a' c' none 0 []:=⟨(hO.mono (Nat.zero_le _)).rowm,⟨[],[],rfl,rfl,fun i hi=>by simp at hi,⟨by simp,.inl ⟨rfl,rfl⟩⟩,rfl⟩,by simp [zaU],fun x hx e=>by
    have h1:=(Ma x (by simpa [FB]using e)).1
    have h2:=Wa x hx
    omega,fun e=>by
    have h1:=(Ma g (by simpa [FB]using e)).1
    omega,fun x hx=>by
    have h1:=(Ma x (by simpa [FB]using hx)).1
    omega⟩
  have ba:(zaE (tagR (l.drop k))).2 <:+ l.drop k:=by
   have h1:(zaE (tagR (l.drop k))).2 <:+ tagR (l.drop k):=List.dropWhile_suffix _
   refine h1.trans ?_
   unfold tagR
   split
   ·exact (List.drop_suffix _ _).trans (List.drop_suffix _ _)
   ·exact List.drop_suffix _ _
  have HF:=hide (zaa HQ (.returned (.tuple #[])) _ ⟨rfl,l.length-(zaE (tagR (l.drop k))).2.length,_,_,_,ov,F,zqT ba,a',c',none,0,[],rfl,rfl,rfl,by
   have:=Ha.setStep (tagV g)
   rw [<-List.drop_drop]at this
   exact this,T2.frm (Frm.set _ g 2 _)⟩)
  unfold tagV at HF
  clear HQ Xa Da hO hR hf Ha T2 ba xz Ma Wa
  go_wp2_with fail
  first | go_end0 | refine bodyPost_ret (results_none rfl _ _ _) rfl ?_
  exact zaa HF
 | false=>
  rw [htb]at HQ
  simp only [Bool.false_eq_true,if_false]at HQ
  have ga:=zri hr
  rw [el]at ga
  have Ua:=hide (show Calls Tryz.prog 104 #[.slice (some ⟨bb,Ja+k,none⟩) (l.length-k) (cap-k)] w1 _ from by
   have:=zne w1 (some ⟨bb,Ja+k,none⟩) (cap-k) (l.drop k) (by rw [el];exact zaa HD w1 Ca.bel) hr (by omega)
   rw [el]at this
   exact this)
  have ca:=zqp (Ca.byt.1.drop k)
  have Ta:(l.drop k).drop (zap (l.drop k)).2=l.drop (k+(zap (l.drop k)).2):=List.drop_drop
  rw [Ta]at HQ
  have Da:=hide Ca
  clear Ra HS HD Ca Na tz htb Ta
  generalize (zap (l.drop k)).1=y at *
  generalize (zap (l.drop k)).2=m at *
  have na:(m:Int)<=1500:=by omega
  have oa:(0:Int)<=(m:Int):=by omega
  have ia:(k:Int)<=1500:=by omega
  go_wp2_with fail
  refine (zaa Ua).mono ?_
  rintro e w2 ⟨rfl,aa⟩
  have Ha:=(zaa Da).keep aa
  obtain⟨t0,t1,t2,_,_,_,_,_,tz⟩:=Ha.set.cells
  have fa:=tz 1
  have Qa:=Ha.setAt (k+m) (by omega)
  rw [show ((k+m:Nat):Int)=(k:Int)+(m:Int) from rfl]at Qa
  have Va:=hide (zrM Qa (l.drop (k+m)) hp Ka (by have:=Ba Ga (by simp);omega) Aa y ca.1 ca.2)
  clear Ua Da aa Ha Qa tz Ba Aa
  go_wp2_with fail
  refine (zaa Va).mono ?_
  intro e w3 hR
  cases hpc:putC ⟨l.drop (k+m),none,Ga,below,p⟩ y with
  | none=>
   rw [hpc]at hR HQ
   obtain⟨⟨v,rfl⟩,hB⟩:=hR
   exact⟨rfl,zaa HQ _ w3 ⟨⟨v,rfl⟩,hB⟩⟩
  | some s'=>
   rw [hpc]at hR HQ
   obtain⟨rfl,da,F',Ya⟩:=hR
   have Pa:=zif hpc
   have HF:=hide (zaa HQ (.returned (.tuple #[])) w3 ⟨rfl,k+m,o4,o5,o6,da,F',Pa.1,by rw [Pa.2];exact Ya⟩)
   clear HQ Va Ya Pa hpc
   go_wp2_with fail
   first | go_end0 | refine bodyPost_ret (results_none rfl _ _ _) rfl ?_
   exact zaa HF
theorem zjM:∀(f:Nat) (s:RdS),mu s<=f->iter f s=iter (mu s) s:=by
 intro f
 induction f using Nat.strongRecOn with
 | _ f ih=>
  intro s hf
  by_cases hs:s.tag=none∧s.rest=[]
  ·rw [zbY hs.1 hs.2,zbY hs.1 hs.2]
  ·have hp:0<mu s:=by
    unfold mu
    by_cases e:s.tag=none
    ·have:s.rest≠[]:=fun e'=>hs ⟨e,e'⟩
     have:=List.length_pos_iff.2 this
     omega
    ·rw [if_neg e];omega
   obtain⟨f',rfl⟩:∃f',f=f' + 1:=⟨f-1,by omega⟩
   obtain⟨m,hm⟩:∃m,mu s=m+1:=⟨mu s-1,by omega⟩
   rw [hm]
   unfold iter
   cases h:stp s with
   | none=>rfl
   | some t=>
    have ht:=zgF hs h
    show iter f' t=iter m t
    rw [ih f' (by omega) t (by omega)]
    by_cases e:m<f' + 1
    ·exact (ih m e t (by omega)).symm
    ·omega
def resL (s:RdS):Option RdS:=iter (mu s) s
theorem zzB {s:RdS} (h1:s.tag=none) (h2:s.rest=[]):resL s=some s:=zbY h1 h2 _
theorem zyD {s:RdS} (hs:¬ (s.tag=none∧s.rest=[])):resL s=(stp s).bind resL:=by
 have hp:0<mu s:=by
  unfold mu
  by_cases e:s.tag=none
  ·have:s.rest≠[]:=fun e'=>hs ⟨e,e'⟩
   have:=List.length_pos_iff.2 this
   omega
  ·rw [if_neg e];omega
 obtain⟨m,hm⟩:∃m,mu s=m+1:=⟨mu s-1,by omega⟩
 have e:resL s=(stp s).bind (iter m):=by
  unfold resL
  rw [hm]
  rfl
 rw [e]
 cases h:stp s with
 | none=>rfl
 | some t=>
  have ht:=zgF hs h
  exact zjM m t (by omega)
theorem zsm (l:Xg):bldL zaS zaJ l=if l.length<=1500 then (resL (zaR l)).map fun s=>zav (zaT s.below.length s.top s.below).1 else none:=by
 unfold bldL
 split
 ·rw [zhL,zjM _ (zaR l) (by unfold mu zaR;simp)]
  rfl
 ·rfl
def zoW:Xl->Nat
 | .func (.func n) _ _=>if n=103 then 2 else 1
 | _=>0
def zgg (g:Nat) (l:Xg) (w:Xk):Nat:=2*(l.length-(intOf ((w.cell? ⟨g,1,none⟩).getD (.int .i64 0))).toNat)+zoW ((w.cell? ⟨g,2,none⟩).getD (.int .i64 0))
def zuQ (w0:Xk) (a:Xi) (cap:Nat) (l:Xg) (g:Nat) (Z:Option RdS) (w:Xk):Prop:=(∃s,StM w0 a cap l g s w∧InvS s∧resL s=Z)∨(∃s,EndM w0 a cap l g s w∧InvS s∧Z=some s)
theorem zqE {w0:Xk} {a:Xi} {cap:Nat} {l:Xg} {g:Nat} {s:RdS} {w:Xk} (h:StM w0 a cap l g s w) (ht:s.tag=none):w.cell? ⟨g,2,none⟩=some (.func (.func 56) #[.pointer (some ⟨g,0,none⟩)] #[]):=by
 obtain⟨k,o4,o5,o6,ov,F,hr,hm⟩:=h
 rw [ht]at hm
 have hm:RdSt w0 a cap l g k (zbB g) o4 o5 o6 ov (s.top::s.below).reverse s.parts F w:=hm
 exact hm.set.cells.2.2.1
theorem zxM {w0:Xk} {a:Xi} {cap:Nat} {l:Xg} {g:Nat} {s:RdS} {w:Xk} (h:StM w0 a cap l g s w) {e:Bool} {nm:Xg} {ats:List AtV} (ht:s.tag=some (e,nm,ats)):w.cell? ⟨g,2,none⟩=some (.func (.func 103) #[.pointer (some ⟨g,0,none⟩)] #[]):=by
 obtain⟨k,o4,o5,o6,ov,F,hr,hm⟩:=h
 rw [ht]at hm
 obtain⟨_,_,_,_,_,_,_,_,hm,_⟩:=hm
 exact hm.set.cells.2.2.1
theorem zpw {w0:Xk} {a:Xi} {cap:Nat} {l:Xg} {g:Nat} {s:RdS} {w:Xk} (h:StM w0 a cap l g s w):zgg g l w=mu s+1:=by
 obtain⟨k,o4,o5,o6,ov,F,hr,hm⟩:=h
 cases ht:s.tag with
 | none=>
  rw [ht]at hm
  have hm:RdSt w0 a cap l g k (zbB g) o4 o5 o6 ov (s.top::s.below).reverse s.parts F w:=hm
  obtain⟨_,c1,c2,_⟩:=hm.set.cells
  have hk:=hm.kl
  unfold zgg mu
  rw [c1,c2,ht,hr]
  simp [zbB,zoW,intOf]
 | some x=>
  obtain⟨e,nm,Aa⟩:=x
  rw [ht]at hm
  obtain⟨_,_,_,_,_,_,_,_,hm,_⟩:=hm
  obtain⟨_,c1,c2,_⟩:=hm.set.cells
  have hk:=hm.kl
  unfold zgg mu
  rw [c1,c2,ht,hr]
  simp [tagV,zoW,intOf]
theorem zxV {w0:Xk} {a:Xi} {cap:Nat} {l:Xg} {g:Nat} {s:RdS} {w:Xk} (h:EndM w0 a cap l g s w):zgg g l w=0:=by
 obtain⟨o4,o5,o6,ov,F,hm⟩:=h
 obtain⟨_,c1,c2,_⟩:=hm.set.cells
 unfold zgg
 rw [c1,c2]
 simp [zoW,intOf]
def zCe (w0:Xk) (a:Xi) (cap:Nat) (l:Xg) (g:Nat) (Z:Option RdS) (e:Ending) (w':Xk):Prop:=match Z with
 | some s=>e=.returned (.tuple #[])∧∃k o3 o4 o5 o6 ov F p,RdSt w0 a cap l g k o3 o4 o5 o6 ov [(zaT s.below.length s.top s.below).1] p F w'
 | none=>Much e∧Below w0.heap.size w0 w'
set_option maxHeartbeats 6400000 in
theorem zzh {w0:Xk} {a:Xi} {cap:Nat} {l:Xg} {g:Nat} {o3 o4 o5 o6 ov:Xl} {F:Xh} {W:Xk} (hS:RdSt w0 a cap l g 0 o3 o4 o5 o6 ov [(zaR l).top] 1 F W) :
  Calls Tryz.prog 28 #[.pointer (some ⟨g,0,none⟩)] W fun e w'=>zCe w0 a cap l g (resL (zaR l)) e w':=by
 refine zaw ?_
 intro Q HQ
 have Ka:∀(fn:Fn) (first cap:Array Xl) (w:Xk),(Instr.makeFunc fn first cap).run Tryz.prog w=.ok (.func fn first cap) w:=fun _ _ _ _=>rfl
 have Qa:∀(fn:Fn) (first cap:Array Xl) (w:Xk),(binOp BinOp.neq 1 (.func fn first cap) Value.nilFunc).run Tryz.prog w=.ok (.bool true) w:=fun _ _ _ _=>by
  first
  | rfl
  | kernel_rfl
 have Oa:∀(w:Xk),(binOp BinOp.neq 1 Value.nilFunc Value.nilFunc).run Tryz.prog w=.ok (.bool false) w:=fun _=>by
  first
  | rfl
  | kernel_rfl
 obtain⟨_,_,s2,_,_,_,_,_,fz⟩:=hS.set.cells
 have f2:=fz 2
 have HL:=hide (show zuQ w0 a cap l g (resL (zaR l)) (W.setCell ⟨g,2,none⟩ (zbB g)) from .inl ⟨zaR l,⟨0,o4,o5,o6,ov,F,rfl,hS.setStep (zbB g)⟩,zoH l,rfl⟩)
 unfold zbB at HL
 generalize resL (zaR l)=Z at *
 clear hS fz
 go_enter Tryz.func28,Tryz.ntmps28
 go_wp2_with fail
 go_loopw [] (fun wr=>Hid (zuQ w0 a cap l g Z wr)) (fun wr=>zgg g l wr)
 case atStart=>exact HL
 case round=>
  clear HL f2 s2
  rcases zaa hrel with ⟨s,hM,hI,hZ⟩ | ⟨s,hE,hI,hZ⟩
  ·have Ba:=zpw hM
   by_cases hfin:s.tag=none∧s.rest=[]
   ·have c2:=zqE hM hfin.1
    have HC:=hide (zrL hM hfin.1 hfin.2)
    have Ia:=hZ.symm.trans (zzB hfin.1 hfin.2)
    have HX:=hide (And.intro hI (And.intro Ia Ba))
    clear hrel hM hI hZ Ia Ba hfin
    go_wp2_with fail
    refine (zaa HC).mono ?_
    rintro e w2 ⟨rfl,hE⟩
    have HE:=hide hE
    have Ja:=zxV hE
    clear hE HC
    go_wp2_with fail
    go_roundw
    case rel=>exact hide (.inr ⟨s,zaa HE,(zaa HX).1,(zaa HX).2.1⟩)
    case measure=>rw [Ja,(zaa HX).2.2];omega
   ·have Aa:=zyD hfin
    rw [hZ]at Aa
    have Ga:∀e w',ztW w0 a cap l g (stp s) e w'->(e=.returned (.tuple #[])∧zuQ w0 a cap l g Z w'∧zgg g l w' < zgg g l wr)∨(Much e∧Z=none∧Below w0.heap.size w0 w'):=fun e w' h=>by
     cases hst:stp s with
     | none=>
      rw [hst]at h Aa
      exact .inr ⟨h.1,Aa,h.2⟩
     | some s'=>
      rw [hst]at h Aa
      refine .inl ⟨h.1,.inl ⟨s',h.2,zsx hI hst,Aa.symm⟩,?_⟩
      rw [zpw h.2,Ba]
      have:=zgF hfin hst
      omega
    have Da:=hide Ga
    cases ht:s.tag with
    | none=>
     have hr:s.rest≠[]:=fun e=>hfin ⟨ht,e⟩
     have c2:=zqE hM ht
     have HC:=hide (zlf hM ht hr hI)
     clear hrel hM hI hZ Aa Ga Ba hfin hr ht
     go_wp2_with fail
     refine (zaa HC).mono ?_
     intro e w2 h2
     rcases zaa Da e w2 h2 with ⟨rfl,hL,Fa⟩ | ⟨⟨v,rfl⟩,hz,hB⟩
     ·have HL:=hide hL
      clear h2 HC Da hL
      go_wp2_with fail
      go_roundw
      case rel=>exact HL
      case measure=>exact Fa
     ·rw [hz]at HQ
      exact⟨rfl,zaa HQ _ w2 ⟨⟨v,rfl⟩,hB⟩⟩
    | some x=>
     obtain⟨e0,nm,Sa⟩:=x
     have c2:=zxM hM ht
     have HC:=hide (zrK hM ht hI)
     clear hrel hM hI hZ Aa Ga Ba hfin ht
     go_wp2_with fail
     refine (zaa HC).mono ?_
     intro e w2 h2
     rcases zaa Da e w2 h2 with ⟨rfl,hL,Fa⟩ | ⟨⟨v,rfl⟩,hz,hB⟩
     ·have HL:=hide hL
      clear h2 HC Da hL
      go_wp2_with fail
      go_roundw
      case rel=>exact HL
      case measure=>exact Fa
     ·rw [hz]at HQ
      exact⟨rfl,zaa HQ _ w2 ⟨⟨v,rfl⟩,hB⟩⟩
  ·subst hZ
   obtain⟨Pa,Ma,La,Na,F',hS⟩:=hE
   obtain⟨_,_,c2,_,_,_,_,_,_⟩:=hS.set.cells
   have Ca:=hI.1.len
   have HC:=hide (zeS hS 1 (Nat.le_refl _) (by simp at Ca;omega) (fun o ho=>by have:=zmO hI o ho;omega))
   clear hrel hI hS Ca
   go_wp2_with fail
   refine (zaa HC).mono ?_
   rintro e w2 ⟨rfl,Ra,F2,Ha⟩
   rw [Nat.add_sub_cancel,zhX]at Ha
   have HE:=hide (zaa HQ (.returned (.tuple #[])) w2 ⟨rfl,_,_,_,_,_,_,_,_,Ha⟩)
   clear HQ HC Ha
   go_wp2_with fail
   first | go_end0 | refine bodyPost_ret (results_none rfl _ _ _) rfl ?_
   exact zaa HE
theorem zvF (w:Xk) (l:Xg) (hok:okB l) (h0:l≠[]) (hl:l.length<=100):∃w',(convert 22 22 (.slice (some ⟨w.heap.size,0,none⟩) l.length l.length)).run Tryz.prog (w.alloc (.cells (vals l).toArray 5))=.ok (.slice (some ⟨w.heap.size,0,none⟩) l.length l.length) w'∧Below w.heap.size w w'∧RowM w' w.heap.size (.slice (some ⟨w.heap.size,0,none⟩) l.length l.length) l∧w'.heap.size=w.heap.size+1:=by
 have h:=Loc.made w (vals l).toArray 5
 have Aa:(w.alloc (.cells (vals l).toArray 5)).shape? w.heap.size=some (5,l.length):=by unfold World.shape?;unfold Loc at h;rw [h];simp [zbu]
 have Ba:((w.alloc (.cells (vals l).toArray 5)).freeze ⟨w.heap.size,l.length,none⟩ 1).heap.size=w.heap.size+1:=by
  unfold World.freeze
  rw [if_neg (by decide)]
  simp
 refine⟨(w.alloc (.cells (vals l).toArray 5)).freeze ⟨w.heap.size,l.length,none⟩ 1,?_,?_,?_,Ba⟩
 ·simp [convert,run_underlying Tryz.underlying22,run_underlying Tryz.underlying5,markStringish,Aa]
 ·refine⟨?_,?_,?_,by omega,fun k hk=> ?_⟩
  ·unfold World.freeze
   rw [if_neg (by decide)]
   rfl
  ·unfold World.freeze
   rw [if_neg (by decide)]
   rfl
  ·unfold World.freeze
   rw [if_neg (by decide)]
   rfl
  ·refine Eq.trans ?_ (heap_alloc_old w (.cells (vals l).toArray 5) hk)
   unfold World.freeze
   rw [if_neg (by decide)]
   show (Array.modify _ w.heap.size _)[k]? = _
   rw [Array.getElem?_modify,if_neg (by omega)]
 ·have hr:((w.alloc (.cells (vals l).toArray 5)).freeze ⟨w.heap.size,l.length,none⟩ 1).heap[w.heap.size]? = some (.cells (vals l).toArray 5 (l.length,l.length+1)):=by
   unfold World.freeze
   rw [if_neg (by decide)]
   show (Array.modify _ w.heap.size _)[w.heap.size]? = _
   unfold Loc at h
   rw [Array.getElem?_modify,if_pos rfl,h]
   rfl
  exact⟨hok,.inr ⟨w.heap.size,l.length,_,_,rfl,Nat.le_refl _,hr,fun j hj=>by simp;omega,Nat.le_refl _,by unfold maxLen;omega,by simpa using zbu l,by have e:(vals l).length=l.length:=zbu l;rw [<-e];simp⟩⟩
abbrev zN:Array Xl:= #[.int .i64 0,.slice none 0 0,.slice none 0 0,.slice none 0 0,.slice none 0 0]
theorem zsg (n o:Nat) (xs:Array Xl) (y:Xl) (w:Xk) (hn:Loc w n xs 29) (hx:xs.size=5) (ho:Loc w o #[y] 4) (hne:o≠n) (v:Xl) (older:List PanicEntry) :
  CallsD Tryz.prog 27 #[.pointer (some ⟨n,0,none⟩),.pointer (some ⟨o,0,none⟩)] (.panicking ({ v:=.iface 9 v,recovered:=false }::older)) w fun e u' w'=>
   e=.returned (.tuple #[])∧u'=.panicking ({ v:=.iface 9 v,recovered:=true }::older)∧Loc w' n zN 29∧Loc w' o #[.bool false] 4∧Frm w w' [n,o]:=by
 match xs,hx with
 | ⟨[x0,x1,x2,x3,x4]⟩,_=>
 have n0:w.cell? ⟨n,0,none⟩=some x0:=hn.cell 0
 have n1:w.cell? ⟨n,1,none⟩=some x1:=hn.cell 1
 have n2:w.cell? ⟨n,2,none⟩=some x2:=hn.cell 2
 have n3:w.cell? ⟨n,3,none⟩=some x3:=hn.cell 3
 have n4:w.cell? ⟨n,4,none⟩=some x4:=hn.cell 4
 have f0:=hn.frozen 0
 have f1:=hn.frozen 1
 have f2:=hn.frozen 2
 have f3:=hn.frozen 3
 have f4:=hn.frozen 4
 have o0:w.cell? ⟨o,0,none⟩=some y:=ho.cell 0
 have Aa:=ho.frozen 0
 refine callsD_of_wpS Tryz.func27 rfl fun c₀ cs hu=> ?_
 apply wpS_seq
 apply wpS_region
 simp [wpOpsS,go_sem,recoverD,hu,Tryz.ntmps27,Exit.thenS]
 refine wpS_cond (t:=true) (by simp [Act.eval,Array.replicate]) ?_
 simp only [if_true]
 apply wpS_region
 simp [wpOpsS,go_sem,n0,n1,n2,n3,n4,f0,f1,f2,f3,f4,o0,Aa,bodyPostS,results,Tryz.results27]
 have s5:=((((hn.set 0 (.int .i64 0)).set 1 (.slice none 0 0)).set 2 (.slice none 0 0)).set 3 (.slice none 0 0)).set 4 (.slice none 0 0)
 have f5:=zir w n 0 (.int .i64 0) (.slice none 0 0) (.slice none 0 0) (.slice none 0 0) (.slice none 0 0)
 have so:=ho.frm f5 (by simpa using hne)
 refine⟨s5.other o 0 _ hne.symm,so.set 0 _,(f5.mono (by simp)).trans ((Frm.set _ o 0 _).mono (by simp))⟩
def NoB (w:Xk) (e:Ending) (w':Xk):Prop:=e=.returned (.tuple #[.agg zN,.bool false])∧Below w.heap.size w w'
theorem zvM {w W:Xk} {n o:Nat} {xs:Array Xl} {y v:Xl} {tmps:Array Xl} (hn:Loc W n xs 29) (hx:xs.size=5) (ho:Loc W o #[y] 4) (hne:o≠n) (hb:Below w.heap.size w W) (gn:w.heap.size<=n) (go:w.heap.size<=o)
  (hr:∀W':Xk,W'.cell? ⟨n,0,none⟩=some (.int .i64 0)->W'.cell? ⟨n,1,none⟩=some (.slice none 0 0)->W'.cell? ⟨n,2,none⟩=some (.slice none 0 0)->W'.cell? ⟨n,3,none⟩=some (.slice none 0 0)->W'.cell? ⟨n,4,none⟩=some (.slice none 0 0)->W'.cell? ⟨o,0,none⟩=some (.bool false)->(results Tryz.f10 tmps).run Tryz.prog W'=.ok (.tuple #[.agg zN,.bool false]) W') :
  Leaves Tryz.prog Tryz.f10 tmps (fun e w'=>NoB w e w') [{ target:=.fn (.func 27) #[.pointer (some ⟨n,0,none⟩),.pointer (some ⟨o,0,none⟩)],args:= #[] }] (.panicking [{ v:=.iface 9 v,recovered:=false }]) W:=by
 refine leaves_cons (f:=27) (args:= #[.pointer (some ⟨n,0,none⟩),.pointer (some ⟨o,0,none⟩)]) (by simp) (by simp [go_sem]) ?_
 refine (zsg n o xs y W hn hx ho hne v []).mono ?_
 rintro e u' w' ⟨rfl,rfl,h1,h2,hf⟩
 refine⟨_,hr w' (h1.cell 0) (h1.cell 1) (h1.cell 2) (h1.cell 3) (h1.cell 4) (h2.cell 0),rfl,hb.trans (hf.below hb.size ?_)⟩
 intro q hq
 simp at hq
 rcases hq with rfl | rfl
 ·exact gn
 ·exact go
set_option maxHeartbeats 6400000 in
theorem zuI (w:Xk) (a:Xi) (cap:Nat) (l:Xg) (h:Byt w (.slice a l.length cap) l) (hl:¬ l.length<=1500) :
  Calls Tryz.prog 10 #[.slice a l.length cap] w fun e w'=>NoB w e w':=by
 have Aa:∀(fn:Fn) (first cap:Array Xl) (w:Xk),(Instr.makeFunc fn first cap).run Tryz.prog w=.ok (.func fn first cap) w:=fun _ _ _ _=>rfl
 go_enter_defers Tryz.func10,Tryz.ntmps10
 go_wp2_with fail
 have m0:=(Loc.made w zN 29).alloc (.cells #[.bool false] 4)
 have m1:=Loc.made (w.alloc (.cells zN 29)) #[.bool false] 4
 have hz:(w.alloc (.cells zN 29)).heap.size=w.heap.size+1:=by simp
 rw [hz]at m1
 refine zvM m0 rfl m1 (by omega) ((Below.refl _ _).alloc (Nat.le_refl _) _ |>.alloc (Nat.le_trans (Nat.le_succ _) (Nat.le_of_eq hz.symm)) _) (Nat.le_refl _) (by omega) ?_
 intro W' c0 c1 c2 c3 c4 c5
 simp [results,Tryz.results10,go_sem,c0,c1,c2,c3,c4,c5]
theorem zxx (w0 wn:Xk) (a:Xi) (cap:Nat) (l:Xg) (h:Byt w0 (.slice a l.length cap) l) (hl:l.length<=1500) (hb:Below w0.heap.size w0 wn) (hr:RowM wn w0.heap.size (.slice (some ⟨w0.heap.size,0,none⟩) 4 4) [98,111,100,121]) (hs:wn.heap.size=w0.heap.size+1) :
  RdSt w0 a cap l (w0.heap.size+1+1) 0 .nilFunc (.bool false) (.slice none 0 0) (.slice none 0 0) (.slice (some ⟨w0.heap.size+1,0,none⟩) 1 1) [(zaR l).top] 1 [w0.heap.size+1,w0.heap.size]
   ((wn.alloc (.cells #[.int .i64 0,.slice (some ⟨w0.heap.size,0,none⟩) 4 4,.slice none 0 0,.slice none 0 0,.slice none 0 0] 29)).alloc (.cells (rs0 (.slice a l.length cap) (.int .i64 0) .nilFunc (.bool false) (.slice none 0 0) (.slice none 0 0) (.slice (some ⟨w0.heap.size+1,0,none⟩) 1 1) (.int .i64 1)) 84)):=by
 have m1:=Loc.made wn #[.int .i64 0,.slice (some ⟨w0.heap.size,0,none⟩) 4 4,.slice none 0 0,.slice none 0 0,.slice none 0 0] 29
 have hz:(wn.alloc (.cells #[.int .i64 0,.slice (some ⟨w0.heap.size,0,none⟩) 4 4,.slice none 0 0,.slice none 0 0,.slice none 0 0] 29)).heap.size=w0.heap.size+1+1:=by simp [hs]
 have m2:=Loc.made (wn.alloc (.cells #[.int .i64 0,.slice (some ⟨w0.heap.size,0,none⟩) 4 4,.slice none 0 0,.slice none 0 0,.slice none 0 0] 29)) (rs0 (.slice a l.length cap) (.int .i64 0) .nilFunc (.bool false) (.slice none 0 0) (.slice none 0 0) (.slice (some ⟨w0.heap.size+1,0,none⟩) 1 1) (.int .i64 1)) 84
 rw [hz]at m2
 rw [hs]at m1
 have m1:=m1.alloc (.cells (rs0 (.slice a l.length cap) (.int .i64 0) .nilFunc (.bool false) (.slice none 0 0) (.slice none 0 0) (.slice (some ⟨w0.heap.size+1,0,none⟩) 1 1) (.int .i64 1)) 84)
 have Aa:Below wn.heap.size wn ((wn.alloc (.cells #[.int .i64 0,.slice (some ⟨w0.heap.size,0,none⟩) 4 4,.slice none 0 0,.slice none 0 0,.slice none 0 0] 29)).alloc (.cells (rs0 (.slice a l.length cap) (.int .i64 0) .nilFunc (.bool false) (.slice none 0 0) (.slice none 0 0) (.slice (some ⟨w0.heap.size+1,0,none⟩) 1 1) (.int .i64 1)) 84)):=((Below.refl _ _).alloc (Nat.le_refl _) _).alloc (by rw [hz];omega) _
 have Ba:=(hr.keep Aa).mono (Nat.zero_le _)
 refine⟨.inl m2,?_,by simp,hb.trans (Aa.mono (by omega)),h,by simp,by omega,Nat.zero_le _,hl,by simp;omega⟩
 refine⟨[[.int .i64 0,.slice (some ⟨w0.heap.size,0,none⟩) 4 4,.slice none 0 0,.slice none 0 0,.slice none 0 0]],[[w0.heap.size]],rfl,rfl,?_,⟨rfl,.inr ⟨_,1,_,rfl,Nat.zero_le _,m1,Nat.le_refl _,by unfold maxLen;omega,rfl,rfl⟩⟩,rfl⟩
 intro i hi
 have Ca:i=0:=by simp at hi;omega
 subst Ca
 refine⟨rfl,_,_,_,_,[],[],rfl,by simp [zaR],by simp [zaR],Ba,zcc _ _,OwAttrsM.nil _,⟨[],[],rfl,rfl,fun i hi=>by simp [zaR]at hi,⟨by simp [zaR],.inl ⟨rfl,rfl⟩⟩,rfl⟩,rfl⟩
def YesB (w:Xk) (its:List Itm) (e:Ending) (w':Xk):Prop:=∃k a b c d F,e=.returned (.tuple #[.agg #[.int .i64 k,a,b,c,d],.bool true])∧OwX w' [.int .i64 k,a,b,c,d] its F∧F.Nodup∧(∀q∈F,w.heap.size<=q)∧Below w.heap.size w w'
theorem zuA {w0:Xk} {a:Xi} {cap:Nat} {l:Xg} {g k:Nat} {o3 o4 o5 o6 ov:Xl} {o:OnD} {p:Nat} {F:Xh} {W:Xk} (h:RdSt w0 a cap l g k o3 o4 o5 o6 ov [o] p F W):∃q c b1 n1 c1 b2 n2 c2 b3 n3 c3 b4 n4 c4 G,ov=.slice (some ⟨q,0,none⟩) 1 c∧(∀i,i<5->W.cell? ⟨q,i,none⟩=[Value.int .i64 o.kind,.slice b1 n1 c1,.slice b2 n2 c2,.slice b3 n3 c3,.slice b4 n4 c4][i]?)∧OwX W [.int .i64 o.kind,.slice b1 n1 c1,.slice b2 n2 c2,.slice b3 n3 c3,.slice b4 n4 c4] (zav o) G∧G.Nodup∧∀x∈G,w0.heap.size<=x:=by
 have hr:=h.row
 obtain⟨Ha,Ga,_,_,_,Aa,_⟩:=h.row
 rcases Aa.2 with ⟨_,hz⟩ | ⟨q,c,Fa,rfl,_⟩
 ·simp at hz
 ·obtain⟨Cs,C,G,Ca,hE,Da,Ba,_⟩:=OwElems.one (R:=OwE) (fun h f d=>OwE.frm h f d) hr h.nd 0 (by simp)
  have hX:=OwE.close hE
  obtain⟨x1,x2,x3,x4,Fc,Fd,rfl,_,_,e1,e2,⟨_,_,_,_,_,e3,_⟩,⟨_,_,_,_,_,e4,_⟩,_⟩:=hE
  obtain⟨b1,c1,rfl⟩:=e1.shape
  obtain⟨b2,c2,rfl⟩:=e2.shape
  obtain⟨b3,c3,rfl⟩:=zeI e3
  obtain⟨b4,c4,rfl⟩:=zeI e4
  exact⟨q,c,b1,_,c1,b2,_,c2,b3,_,c3,b4,_,c4,G,rfl,fun i hi=>by have:=Ca.cell i hi;rwa [Nat.zero_mul,Nat.zero_add]at this,hX,Da,fun x hx=>h.geF x (Ba x hx)⟩
theorem zrR (p q:Xl) (w:Xk) :
  CallsD Tryz.prog 27 #[p,q] .returning w fun e u' w'=>e=.returned (.tuple #[])∧u'=.returning∧w'=w:=by
 refine callsD_of_wpS Tryz.func27 rfl fun c₀ cs hu=> ?_
 apply wpS_seq
 apply wpS_region
 simp [wpOpsS,go_sem,recoverD,hu,Tryz.ntmps27,Exit.thenS]
 refine wpS_cond (t:=false) (by simp [Act.eval,Array.replicate]) ?_
 simp only [Bool.false_eq_true,if_false]
 refine wpS_of_wp (wp_skip ?_)
 cases c₀
 simp_all [bodyPostS,results,Tryz.results27]
def zBi (w:Xk) (Z:Option RdS) (e:Ending) (w':Xk):Prop:=match Z with
 | some s=>YesB w (zav (zaT s.below.length s.top s.below).1) e w'
 | none=>NoB w e w'
set_option maxHeartbeats 6400000 in
theorem zsj (w:Xk) (a:Xi) (cap:Nat) (l:Xg) (h:Byt w (.slice a l.length cap) l) (hl:l.length<=1500) (Z:Option RdS) (hZ:resL (zaR l)=Z) :
  Calls Tryz.prog 10 #[.slice a l.length cap] w fun e w'=>zBi w Z e w':=by
 have Ta:∀(fn:Fn) (first cap:Array Xl) (w:Xk),(Instr.makeFunc fn first cap).run Tryz.prog w=.ok (.func fn first cap) w:=fun _ _ _ _=>rfl
 have Ba:((w.alloc (.cells zN 29)).alloc (.cells #[.bool false] 4)).heap.size=w.heap.size+2:=by simp
 have hz:(w.alloc (.cells zN 29)).heap.size=w.heap.size+1:=by simp
 have Aa:Below w.heap.size w ((w.alloc (.cells zN 29)).alloc (.cells #[.bool false] 4)):=(Below.refl _ _).alloc (Nat.le_refl _) _ |>.alloc (Nat.le_trans (Nat.le_succ _) (Nat.le_of_eq hz.symm)) _
 have m0:=(Loc.made w zN 29).alloc (.cells #[.bool false] 4)
 have m1:=Loc.made (w.alloc (.cells zN 29)) #[.bool false] 4
 rw [hz]at m1
 obtain⟨wn,Fa,Qa,La,Ja⟩:=zvF ((w.alloc (.cells zN 29)).alloc (.cells #[.bool false] 4)) [98,111,100,121] (by unfold okB;simp) (by simp) (by simp)
 have hS:=zxx _ wn a cap l (h.keep Aa) hl Qa La Ja
 rw [Ba]at Fa Ja hS
 have Fa:(convert 22 22 (.slice (some ⟨w.heap.size+2,0,none⟩) 4 4)).run Tryz.prog (((w.alloc (.cells zN 29)).alloc (.cells #[.bool false] 4)).alloc (.cells #[.int .u8 98,.int .u8 111,.int .u8 100,.int .u8 121] 5))=.ok (.slice (some ⟨w.heap.size+2,0,none⟩) 4 4) wn:=Fa
 have HC:=hide (zzh hS)
 rw [hZ]at HC
 unfold rs0 at HC
 have Sa:¬ (1500:Int)<(l.length:Int):=by omega
 have HM:=hide (And.intro Ba (And.intro Aa (And.intro m0 m1)))
 clear hS La Qa hZ m0 m1 Aa hz
 go_enter_defers Tryz.func10,Tryz.ntmps10
 go_wp2_with fail
 refine (zaa HC).mono ?_
 intro e w2 h2
 obtain⟨_,Aa,m0,m1⟩:=zaa HM
 clear HC HM Fa Ja
 cases Z with
 | none=>
  obtain⟨⟨v,rfl⟩,hB⟩:=h2
  have n0:=m0.keep (hB.mono (Nat.le_refl _)) (by rw [Ba];omega)
  have n1:=m1.keep (hB.mono (Nat.le_refl _)) (by rw [Ba];omega)
  refine zvM n0 rfl n1 (by omega) (Aa.trans (hB.mono (by rw [Ba];omega))) (Nat.le_refl _) (by omega) ?_
  intro W' c0 c1 c2 c3 c4 c5
  simp [results,Tryz.results10,go_sem,c0,c1,c2,c3,c4,c5]
 | some s=>
  obtain⟨rfl,k,o3,o4,o5,o6,ov,F,p,hM⟩:=h2
  have n0:=m0.keep (hM.bel.mono (Nat.le_refl _)) (by rw [Ba];omega)
  have n1:=m1.keep (hM.bel.mono (Nat.le_refl _)) (by rw [Ba];omega)
  obtain⟨q,c,b1,Ga,c1,b2,Ia,c2,b3,Ka,c3,b4,Ha,c4,G,rfl,hq,hX,Da,hG⟩:=zuA hM
  obtain⟨_,_,_,_,_,_,r6,_,_⟩:=hM.set.cells
  have q0:=hq 0 (by omega)
  have q1:=hq 1 (by omega)
  have q2:=hq 2 (by omega)
  have q3:=hq 3 (by omega)
  have q4:=hq 4 (by omega)
  simp only [List.getElem?_cons_zero,List.getElem?_cons_succ]at q0 q1 q2 q3 q4
  have a0:=n0.cell 0
  have a1:=n0.cell 1
  have a2:=n0.cell 2
  have a3:=n0.cell 3
  have a4:=n0.cell 4
  have a5:=n1.cell 0
  have f0:=n0.frozen 0
  have f1:=n0.frozen 1
  have f2:=n0.frozen 2
  have f3:=n0.frozen 3
  have f4:=n0.frozen 4
  have f5:=n1.frozen 0
  simp at a0 a1 a2 a3 a4 a5
  have HX:=hide (And.intro hX (And.intro Da (And.intro hG (And.intro Aa (And.intro hM.bel (And.intro n0 n1))))))
  clear hX Da hG Aa hM n0 n1 m0 m1 hq
  go_wp2_with fail
  clear a0 a1 a2 a3 a4 a5 f0 f1 f2 f3 f4 f5 q0 q1 q2 q3 q4
  obtain⟨hX,Da,hG,Aa,Ca,n0,n1⟩:=zaa HX
  clear HX
  have s5:=((((n0.set 0 (.int .i64 (zaT s.below.length s.top s.below).1.kind)).set 1 (.slice b1 Ga c1)).set 2 (.slice b2 Ia c2)).set 3 (.slice b3 Ka c3)).set 4 (.slice b4 Ha c4)
  have f5:=zir w2 w.heap.size 0 (.int .i64 (zaT s.below.length s.top s.below).1.kind) (.slice b1 Ga c1) (.slice b2 Ia c2) (.slice b3 Ka c3) (.slice b4 Ha c4)
  have so:=(n1.frm f5 (by simp)).set 0 (.bool true)
  have s6:=s5.other (w.heap.size+1) 0 (.bool true) (by omega)
  have hF:=(f5.mono (S':=[w.heap.size,w.heap.size+1]) (by simp)).trans ((Frm.set _ (w.heap.size+1) 0 (.bool true)).mono (by simp))
  have c0:=s6.cell 0
  have Oa:=s6.cell 1
  have Pa:=s6.cell 2
  have Ma:=s6.cell 3
  have Na:=s6.cell 4
  have c5:=so.cell 0
  simp at c0 Oa Pa Ma Na c5
  refine leaves_cons (f:=27) (args:= #[.pointer (some ⟨w.heap.size,0,none⟩),.pointer (some ⟨w.heap.size+1,0,none⟩)]) (by simp) (by simp [go_sem]) ?_
  refine (zrR _ _ _).mono ?_
  rintro e u' w3 ⟨rfl,rfl,rfl⟩
  refine⟨.tuple #[.agg #[.int .i64 (zaT s.below.length s.top s.below).1.kind,.slice b1 Ga c1,.slice b2 Ia c2,.slice b3 Ka c3,.slice b4 Ha c4],.bool true],?_,?_⟩
  ·simp [results,Tryz.results10,go_sem,c0,Oa,Pa,Ma,Na,c5]
  ·have Ra:w.heap.size+2<=w2.heap.size:=by have:=Ca.size;omega
   rw [Ba]at hG Ca
   refine⟨_,_,_,_,_,G,rfl,OwX.frm hX hF (fun x hx=> ?_),Da,fun x hx=> ?_,Aa.trans ((Ca.mono (by omega)).trans (hF.below (by omega) ?_))⟩
   ·have:=hG x hx
    simp
    omega
   ·have:=hG x hx
    omega
   ·intro x hx
    simp at hx
    omega
def zpm (w:Xk) (l:Xg) (e:Ending) (w':Xk):Prop:=match bldL zaS zaJ l with
 | some its=>YesB w its e w'
 | none=>NoB w e w'
theorem zvx (w:Xk) (a:Xi) (cap:Nat) (l:Xg) (h:Byt w (.slice a l.length cap) l) :
  Calls Tryz.prog 10 #[.slice a l.length cap] w fun e w'=>zpm w l e w':=by
 by_cases hl:l.length<=1500
 ·refine (zsj w a cap l h hl _ rfl).mono ?_
  intro e w' he
  unfold zpm
  rw [zsm,if_pos hl]
  cases hz:resL (zaR l)with
  | none=>rw [hz]at he;exact he
  | some s=>rw [hz]at he;exact he
 ·refine (zuI w a cap l h hl).mono ?_
  intro e w' he
  unfold zpm
  rw [zsm,if_neg hl]
  exact he
end Go.Proofs.YtgjolijncmkkhaaGreatDoor
