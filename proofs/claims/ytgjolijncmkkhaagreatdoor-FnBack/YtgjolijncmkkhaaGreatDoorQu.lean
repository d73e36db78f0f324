/- Own texts joined: RdZ2. -/
import Derived.Test.YtgjolijncmkkhaaGreatDoorQa
import Derived.Test.YtgjolijncmkkhaaGreatDoorQt
import Derived.Deep.CutRange
namespace Go.Proofs.YtgjolijncmkkhaaGreatDoor
open Go.RowKit
set_option linter.unusedVariables false
set_option maxRecDepth 100000
def zpc (w0:Xk) (a:Xi) (cap:Nat) (l:Xg) (g k:Nat) (o3 o4 o5 o6:Xl) (o:Option RdS) (e:Ending) (w':Xk):Prop:=match o with
 | some s=>e=.returned (.tuple #[])∧∃ov' F',RdSt w0 a cap l g k o3 o4 o5 o6 ov' (s.top::s.below).reverse s.parts F' w'
 | none=>Much e∧Below w0.heap.size w0 w'
theorem zyF (w:Xk):OwX w [.int .i64 1,.slice none 0 0,.slice none 0 0,.slice none 0 0,.slice none 0 0] (txtI []) []:=
 ⟨1,(⟨1,[],[],[],[]⟩:Nd (Tr 0)),⟨_,_,_,_,[],[],rfl,(by show (-9223372036854775808:Int)<=1;decide),(by show (1:Int)<=9223372036854775807;decide),zcc _ _,zcc _ _,OwAttrsM.nil _,OwKidsM.nil 0 _,rfl⟩,rfl⟩
theorem zxZ {r:Xg} {top:OnD} {below:List OnD} {p:Nat} {x:Int} (hx:zcz x=true) (hk:top.kids.getLast?.bind zax=none):putX ⟨r,none,top,below,p⟩ x=if room ⟨r,none,top,below,p⟩ then some ⟨r,none,{ top with kids:=top.kids++[txtI [x]] },below,p+1⟩ else none:=by
 unfold putX
 rw [if_pos hx]
 simp only [hk]
theorem zyg {r:Xg} {top:OnD} {below:List OnD} {p:Nat} {x:Int} {t:Xg} {ks:List (List Itm)} (hx:zcz x=true) (hk:top.kids=ks++[txtI t]) (ht:t.length≠30):putX ⟨r,none,top,below,p⟩ x=some ⟨r,none,{ top with kids:=ks++[txtI (t++[x])] },below,p⟩:=by
 obtain⟨kd,nm,tx,Aa,Ba⟩:=top
 simp only at hk
 subst hk
 unfold putX
 rw [if_pos hx]
 simp only [zfS,zhr ht,List.dropLast_concat]
theorem zuR {w w':Xk} {S:Xh} (f:Frm w w' S) {g j:Nat} (hg:g<w.heap.size) (hS:g∉S) (h:w.frozen? ⟨g,j,none⟩=false):w'.frozen? ⟨g,j,none⟩=false:=by
 unfold World.frozen? at h ⊢
 rw [f.block g hg hS]
 exact h
theorem zvt {w:Xk} {ops:Array Oper} {o:Oper} {a:Act} {K:Act->Xk->Prop} {Q:Exit->Act->Xk->Prop} {E:Prop} (hgd:o.guard=none) (s x:Operand)
  (ho:o.op=.call { callee:=.builtin .append,args:= #[s,x],argTypes:= #[22,22] })
  (base:Nat) (v:Xl) (l:Xg) (hs:a.eval s=v) (hrow:RowM w base v l) (b c:Nat) (n:Int) (hx:a.eval x=.slice (some ⟨b,0,none⟩) 1 c) (hx0:0<=n) (hx1:n<=255) (hc:w.cell? ⟨b,0,none⟩=some (.int .u8 n)) (hby:Byt w (.slice (some ⟨b,0,none⟩) 1 c) [n])
  (hlen:l.length<=1000) (hbase:base<=w.heap.size)
  (h:∀v' w',RowM w' base v' (l++[n])->w.grownBy w' v.ownBlock->(v'.ownBlock=v.ownBlock∨∀q,v'.ownBlock=some q->w.heap.size<=q)->K (a.put o.dst v') w'):if Region.wanted o (yielded ops a.tmps)=true then Oper.wp Tryz.prog o a w K Q else E:=by
 have hw:Region.wanted o (yielded ops a.tmps)=true:=by simp [Region.wanted,hgd]
 rw [if_pos hw]
 obtain⟨v',w',hr,h1,h2,h3⟩:=zqb o.type base v l hrow b c n hx0 hx1 hc hby hlen hbase
 unfold Oper.wp execOp
 simp only [ho,resolve,invoke,builtin,Sem.run_bind,Sem.run_pure,Result.andThen_ok,List.map_toArray,List.map_cons,List.map_nil,hs,hx,hr]
 exact h v' w' h1 h2 h3
theorem TxO.at9 {w0:Xk} {a:Xi} {cap:Nat} {l:Xg} {g k q n c:Nat} {o3 o4 o5 o6:Xl} {top:OnD} {below:List OnD} {ks:List (List Itm)} {t:Xg} {p:Nat} {F:Xh} {w wa w9:Xk} {gk ck:Nat} {at':Xi} {ct:Nat} (T:TxO w0 a cap l g k q n c o3 o4 o5 o6 top below ks t p F w gk ck at' ct) (hba:Below w.heap.size w wa) (hg9:wa.grownBy w9 (Value.slice at' t.length ct).ownBlock) :
  w9.cell? ⟨gk,ks.length*5+2,none⟩=some (.slice at' t.length ct)∧w9.frozen? ⟨gk,ks.length*5+2,none⟩=false∧w9.cell? ⟨q,n*5+4,none⟩=some (.slice (some ⟨gk,0,none⟩) (ks.length+1) ck):=by
 have Aa:Frm w w9 (FB (.slice at' t.length ct)):=(Frm.ofBelow hba _).trans (by have:=Frm.ofGrown hg9;simpa [FB]using this)
 have Ba:gk∉FB (.slice at' t.length ct):=fun e=>(T.qt gk e).2 rfl
 exact⟨(World.cell?_of_block (Aa.block gk T.gl Ba)).trans T.text,zuR Aa T.gl Ba (T.fz _),(World.cell?_of_block (Aa.block q T.ql (fun e=>(T.qt q e).1 rfl))).trans T.kids⟩
theorem TxO.fin {w0:Xk} {a:Xi} {cap:Nat} {l:Xg} {g k q n c:Nat} {o3 o4 o5 o6:Xl} {top:OnD} {below:List OnD} {ks:List (List Itm)} {t:Xg} {p:Nat} {F:Xh} {w wa w9:Xk} {gk ck:Nat} {at':Xi} {ct:Nat} (T:TxO w0 a cap l g k q n c o3 o4 o5 o6 top below ks t p F w gk ck at' ct) (hba:Below w.heap.size w wa) (hg9:wa.grownBy w9 (Value.slice at' t.length ct).ownBlock) {v':Xl} {y:Int} (ho9:RowM w9 0 v' (t++[y])) (hM9:v'.ownBlock=(Value.slice at' t.length ct).ownBlock∨∀q,v'.ownBlock=some q->wa.heap.size<=q) :
  ∃F',RdSt w0 a cap l g k o3 o4 o5 o6 (.slice (some ⟨q,0,none⟩) (n+1) c) ({ top with kids:=ks++[txtI (t++[y])] }::below).reverse p F' (w9.setCell ⟨gk,ks.length*5+2,none⟩ v'):=by
 have Ba:Frm w w9 (FB (.slice at' t.length ct)):=(Frm.ofBelow hba _).trans (by have:=Frm.ofGrown hg9;simpa [FB]using this)
 refine T.more w9 _ v' y Ba ho9 (fun z hz=> ?_) rfl
 rcases hM9 with h | h
 ·have Aa:v'.ownBlock=some z:=by simpa [FB]using hz
  rw [h]at Aa
  exact .inl (by simpa [FB]using Aa)
 ·right
  have:=h z (by simpa [FB]using hz)
  have:=hba.size
  omega
theorem zBq {w0 w4 wa w9:Xk} {a:Xi} {cap:Nat} {l:Xg} {g k q n c:Nat} {o3 o4 o5 o6:Xl} {top:OnD} {below:List OnD} {p:Nat} {F:Xh} {Cs:List (Xj)} {a1 a2 a3:Xl} {ad:Xi} {cd:Nat} {Fc:Xh} {Cs2:List (Xj)} {Fs2:List (Xh)}
  (hS:RdSt w0 a cap l g k o3 o4 o5 o6 (.slice (some ⟨q,0,none⟩) (n+1) c) (top::below).reverse p F w4) (hn:n=below.length) (I:Inn w4 q n c (top::below).reverse top F Cs a1 a2 a3 ad cd Fc Cs2 Fs2) (hba:Below w4.heap.size w4 wa)
  {cap9 g9:Nat} {z0 z1 z2 z3 z4:Xl} (hF9:w9.ownsRow 0 29 5 (.slice (some ⟨g9,0,none⟩) (top.kids.length+1) cap9) (top.kids.length+1) (Cs2.flatten++[z0,z1,z2,z3,z4])) (hg9:wa.grownBy w9 (Value.slice ad top.kids.length cd).ownBlock) (hM9:(Value.slice ad top.kids.length cd).ownBlock=some g9∨g9=wa.heap.size)
  (W:Xk) (hW:W=(set5 w9 g9 (top.kids.length*5) (.int .i64 1) (.slice none 0 0) (.slice none 0 0) (.slice none 0 0) (.slice none 0 0)).setCell ⟨q,n*5+4,none⟩ (.slice (some ⟨g9,0,none⟩) (top.kids.length+1) cap9)) :
  ∃F',RdSt w0 a cap l g k o3 o4 o5 o6 (.slice (some ⟨q,0,none⟩) (n+1) c) ({ top with kids:=top.kids++[txtI []] }::below).reverse p F' W:=by
 obtain⟨F',k1,k2,k3,k4,k5⟩:=zts I hS.set hS.gF hba hF9 hg9 hM9 (zyF w4) List.nodup_nil (fun _ _=>by simp) (fun _ h=>by cases h) W hW
 have Aa:(top::below).reverse.set n { top with kids:=top.kids++[txtI []] }=({ top with kids:=top.kids++[txtI []] }::below).reverse:=by
  rw [List.reverse_cons,List.reverse_cons,List.set_append_right _ _ (by simp [hn])]
  simp [hn]
 rw [Aa]at k2
 refine⟨F',k1,k2,k3,hS.bel.trans (k5.below hS.bel.size (fun y hy=>hS.geF y hy)),hS.byt,fun y hy=> ?_,hS.geg,hS.kl,hS.ll,fun hy=> ?_⟩
 ·rcases k4 y hy with h | h | h
  ·exact hS.geF y h
  ·cases h
  ·have:=hS.bel.size;omega
 ·rcases k4 g hy with h | h | h
  ·exact hS.gF h
  ·cases h
  ·have:=zaP hS.set.cells.1
   simp at this
   omega
set_option maxHeartbeats 12800000 in
theorem zrM {w0:Xk} {a:Xi} {cap:Nat} {l:Xg} {g k:Nat} {o3 o4 o5 o6 ov:Xl} {p:Nat} {F:Xh} {W:Xk} {top:OnD} {below:List OnD} (h:RdSt w0 a cap l g k o3 o4 o5 o6 ov (top::below).reverse p F W) (r:Xg) (hp:p<=120) (hlen:below.length<=19) (hkid:top.kids.length<=700) (hgood:∀z∈top.kids,zez z) (x:Int) (hx0:0<=x) (hx1:x<=255) :
  Calls Tryz.prog 105 #[.pointer (some ⟨g,0,none⟩),.int .u8 x] W fun e w'=>zpc w0 a cap l g k o3 o4 o5 o6 (putC ⟨r,none,top,below,p⟩ x) e w':=by
 refine zaw ?_
 intro Q HQ
 unfold putC at HQ
 obtain⟨y,ey⟩:∃y,y=if zbQ x=true then (32:Int) else x:=⟨_,rfl⟩
 rw [<-ey]at HQ
 have hy:0<=y∧y<=255:=by rw [ey];split<;>omega
 obtain⟨q,c,rfl,xa⟩:=h.row.row1 (n:=below.length) (by simp)
 obtain⟨n,en⟩:∃n,n=below.length:=⟨_,rfl⟩
 rw [<-en]at h xa hlen
 have HN:=hide en
 have HH:=hide h
 have Ma:=hide ey
 clear en h ey
 go_enter Tryz.func105,Tryz.ntmps105
 go_upto_if 7 with (go_at_call 146;refine (zsw x _).mono ?_;rintro e w1 ⟨rfl,rfl⟩)
 go_cut [1] from 6 to 7 (fun v wx=>v=.int .u8 y∧wx=w1)
 case first=>
  have HE:=Ma
  cases hb:zbQ x with
  | true=>
   have ey:y=32:=by rw [zaa Ma,hb];rfl
   subst ey
   clear Ma HE hb HH
   go_wp2_with fail
   go_meet
   exact⟨rfl,rfl⟩
  | false=>
   have ey:y=x:=by rw [zaa Ma,hb];rfl
   subst ey
   clear Ma HE hb HH
   go_wp2_with fail
   go_meet
   exact⟨rfl,rfl⟩
 case rest=>
 obtain⟨rfl,hw⟩:=hcut
 subst hw
 have Ka:=hide (fun W=>zgb y W)
 simp only [zqz]at Ka
 cases hm:zcz y with
 | false=>
  have e:putX ⟨r,none,top,below,p⟩ y=some ⟨r,none,top,below,p⟩:=by unfold putX;rw [if_neg (by rw [hm];decide)]
  rw [e]at HQ
  rw [hm]at Ka
  clear hm e
  go_wp2_with fail
  refine (zaa Ka _).mono ?_
  rintro e w2 ⟨rfl,rfl⟩
  have HE:=hide (zaa HQ (.returned (.tuple #[])) _ ⟨rfl,_,F,zaa HH⟩)
  clear HQ HH Ka
  go_wp2_with fail
  first | go_end0 | refine bodyPost_ret (results_none rfl _ _ _) rfl ?_
  exact zaa HE
 | true=>
  rw [hm]at Ka
  have ha:=hide hm
  clear hm
  go_wp2_with fail
  refine (zaa Ka _).mono ?_
  rintro e w2 ⟨rfl,rfl⟩
  clear Ka Ma
  go_wp2_with fail
  refine (ziP (zaa HH).set (m:=n) (by omega)).mono ?_
  rintro e w3 ⟨rfl,ea⟩
  have hS:=(zaa HH).keep ea
  have Sa:(top::below).reverse.length=n+1:=by rw [zaa HN];simp
  have Va:(top::below).reverse[n]? = some top:=by
   rw [List.reverse_cons,List.getElem?_append_right (by rw [zaa HN];simp)]
   simp [zaa HN]
  obtain⟨Cs,a1,a2,a3,ad,cd,Fc,ka,wa,I⟩:=zlv hS.row hS.nd Sa Va
  have u4:=I.rj.cell 4 (by decide)
  simp only [List.getElem?_cons_succ,List.getElem?_cons_zero]at u4
  have Aa:=hide hS
  have Fa:=hide I
  clear HH hS I ea Sa Va
  go_upto_region 5 with fail
  go_cut [5,43] from 13 to 43 (fun lv b wx=>∃bb:Bool,lv=.int .i64 ((top.kids.length:Int)-1)∧b=.bool bb∧Hid (bb=(top.kids.getLast?.bind zax).isNone)∧wx=w3)
  case first=>
   rcases List.eq_nil_or_concat top.kids with hk | ⟨ks,kl,hk⟩
   ·have Ia:top.kids.length=0:=by rw [hk];rfl
    have HE:=hide (show true=(top.kids.getLast?.bind zax).isNone by rw [hk];rfl)
    have q1:(top.kids.length:Int)-1<0:=by omega
    clear HQ Fa Aa hk hgood Ia
    go_wp2_with fail
    go_meet
    exact⟨true,rfl,rfl,HE,rfl⟩
   ·rw [List.concat_eq_append]at hk
    have Ia:top.kids.length=ks.length+1:=by rw [hk];simp
    obtain⟨gk,o,x2,d2,rfl,Ga,z0,z2⟩:=zyq (zaa Fa) hk
    have Ua:=hgood kl (by rw [hk];simp)
    have ez:(top.kids.length:Int)-1=(ks.length:Int):=by omega
    have q1:¬ (ks.length:Int)<0:=by omega
    have q2:(0:Int)<=(ks.length:Int):=by omega
    have q3:(ks.length:Int)<(top.kids.length:Int):=by omega
    have La:top.kids.getLast?.bind zax=zax kl:=by rw [hk];exact zfS ks kl
    by_cases h1:o.kind=1
    ·have d1:(o.kind != 1)=false:=by simp [h1]
     rw [<-Ga]at Ua
     have Ya:=zxP Ua h1
     by_cases h30:o.text.length=30
     ·have d2:((o.text.length:Int) == 30)=true:=by simp;omega
      have HE:=hide (show true=(top.kids.getLast?.bind zax).isNone by rw [La,<-Ga,Ya];unfold zax txtI;simp [h30])
      clear HQ Fa Aa hk hgood Ia Ua La Ya h30 h1 Ga
      go_wp2_with fail
      go_meet
      exact⟨true,by rw [ez],rfl,HE,rfl⟩
     ·have d2:((o.text.length:Int) == 30)=false:=by simp;omega
      have HE:=hide (show false=(top.kids.getLast?.bind zax).isNone by rw [La,<-Ga,Ya,zhr h30];rfl)
      clear HQ Fa Aa hk hgood Ia Ua La Ya h30 h1 Ga
      go_wp2_with fail
      go_meet
      exact⟨false,by rw [ez],rfl,HE,rfl⟩
    ·have d1:(o.kind != 1)=true:=by simp [h1]
     have HE:=hide (show true=(top.kids.getLast?.bind zax).isNone by rw [La,<-Ga,zyP h1];rfl)
     clear HQ Fa Aa hk hgood Ia Ua La h1 Ga
     go_wp2_with fail
     go_meet
     exact⟨true,by rw [ez],rfl,HE,rfl⟩
  case rest=>
  obtain⟨bb,rfl,rfl,HB,hw⟩:=hcut
  subst hw
  go_upto_if 43 with fail
  go_cut [5] from 44 to 58 (fun lv wx=>∃(ks:List (List Itm)) (t:Xg) (p':Nat) (F':Xh),lv=.int .i64 (ks.length:Int)∧RdSt w0 a cap l g k o3 o4 o5 o6 (.slice (some ⟨q,0,none⟩) (n+1) c) ({ top with kids:=ks++[txtI t] }::below).reverse p' F' wx∧t.length<=30∧ks.length<=700∧putX ⟨r,none,top,below,p⟩ y=some ⟨r,none,{ top with kids:=ks++[txtI (t++[y])] },below,p'⟩)
  case first=>
   cases bb with
   | false=>
    obtain⟨t,ht⟩:∃t,top.kids.getLast?.bind zax=some t:=by
     cases hc:top.kids.getLast?.bind zax with
     | none=>have:=zaa HB;rw [hc]at this;cases this
     | some t=>exact⟨t,rfl⟩
    obtain⟨kl,h1,h2⟩:=Option.bind_eq_some_iff.1 ht
    obtain⟨ks,hk⟩:=List.getLast?_eq_some_iff.1 h1
    obtain⟨e1,e2,e3,e4⟩:=znU (hgood kl (by rw [hk];simp)) h2
    subst e1
    have la:({ top with kids:=ks++[txtI t] }:OnD)=top:=by
     obtain⟨kd,nm,tx,Fb,Gb⟩:=top
     simp only at hk
     rw [hk]
    have Ia:top.kids.length=ks.length+1:=by rw [hk];simp
    have HE:=hide (And.intro (show (Value.int .i64 ((top.kids.length:Int)-1))=.int .i64 (ks.length:Int) by congr 1;omega) (And.intro (show RdSt w0 a cap l g k o3 o4 o5 o6 (.slice (some ⟨q,0,none⟩) (n+1) c) ({ top with kids:=ks++[txtI t] }::below).reverse p F _ by rw [la];exact zaa Aa) (And.intro e2.1 (And.intro (show ks.length<=700 by omega) (zyg (r:=r) (below:=below) (p:=p) (zaa ha) hk e4)))))
    clear HQ Aa Fa HB ht h1 h2 hk e2 e3 e4 la hgood u4 Ia
    go_wp2_with fail
    go_meet
    exact⟨ks,t,p,F,zaa HE⟩
   | true=>
    have Da:top.kids.getLast?.bind zax=none:=by
     cases hc:top.kids.getLast?.bind zax with
     | none=>rfl
     | some t=>have:=zaa HB;rw [hc]at this;cases this
    have Pa:=zxZ (r:=r) (below:=below) (p:=p) (zaa ha) Da
    by_cases hroom:room ⟨r,none,top,below,p⟩=true
    ·rw [if_pos hroom]at Pa
     obtain⟨r1,r2⟩:=zjc hroom
     simp only at r1 r2
     have oa:=hide Pa
     have HC:=hide (znJ (zaa Aa).set r1 (by have:=zaa HN;omega))
     clear Pa Da hroom HB hgood Fa u4 HQ
     go_wp2_with fail
     refine (zaa HC).mono ?_
     rintro e w4 ⟨rfl,hR,hf⟩
     have Xa:=(zaa Aa).step hf hR (zaa Aa).kl
     have Sa:(top::below).reverse.length=n+1:=by rw [zaa HN];simp
     have Va:(top::below).reverse[n]? = some top:=by
      rw [List.reverse_cons,List.getElem?_append_right (by rw [zaa HN];simp)]
      simp [zaa HN]
     obtain⟨Cs,a1,a2,a3,ad,cd,Fc,ka,wa,I⟩:=zlv Xa.row Xa.nd Sa Va
     have u4:=I.rj.cell 4 (by decide)
     have ca:=I.lt q I.qF
     have Oa:Below w4.heap.size w4 w4.drew:=(Below.refl _ _).drew
     have Ca:Below w4.heap.size w4 (w4.alloc (.cells nz 29)).drew:=((Below.refl _ _).alloc (Nat.le_refl _) _).drew
     have ua:w4.drew.cell? ⟨q,n*5+4,none⟩=some (.slice ad top.kids.length cd):=(Oa.cell (p:=⟨q,n*5+4,none⟩) ca).trans u4
     have ub:(w4.alloc (.cells nz 29)).drew.cell? ⟨q,n*5+4,none⟩=some (.slice ad top.kids.length cd):=(Ca.cell (p:=⟨q,n*5+4,none⟩) ca).trans u4
     have HR:=hide (zbG I.f4 (Frm.ofBelow Ca []) (by simp))
     have da:=hide (zkA w4)
     have Ba:=hide Ca
     have Qa:=hide I
     have fa:=hide Xa
     have va:(0:Int)<=(top.kids.length:Int):=by omega
     have na:(top.kids.length:Int)<(top.kids.length:Int)+1:=by omega
     have Jb:(top.kids.length:Int)<=700:=by omega
     obtain⟨i0,Cb,ta,Db,Ab⟩:=info_parts zkg
     clear Aa HC hR hf Xa I u4 Oa Ca Sa Va
     go_wp2_with fail
     go_region_law (refine step_append_lies _ (by rfl) (.tmp 49) (.tmp 52) 27 (by rfl) 0 29 i0 (.agg #[.int .i64 0,.slice none 0 0,.slice none 0 0,.slice none 0 0,.slice none 0 0]) 5 104 Tryz.underlying27 Cb ta Db Ab rfl (by decide) _ top.kids.length ka.flatten (by rfl) (zaa HR) ⟨w4.heap.size,0,none⟩ 1 1 nz.toList (by rfl) rfl (zaa da) (by intro y hy;simp at hy;rcases hy with rfl | rfl<;>rfl) (by decide) (by unfold maxLen;omega) (by omega) (Nat.zero_le _) _ rfl ?_;intro g9 Ha w9 Ta Ja Na Ib;obtain⟨n0,n1,n2,n3,n4,nf⟩:=ziS Ta (zaa Qa).f4.1 rfl;have ya:=nf (top.kids.length*5);have qa:=nf (top.kids.length*5+1);have ma:=nf (top.kids.length*5+2);have za:=nf (top.kids.length*5+3);have pa:=nf (top.kids.length*5+4);have ra:=(zaa Qa).q9 (zaa Ba) Na;have r9:=(zaa Qa).rj9 (zaa Ba) Ja;have m4:=r9.cell 4 (by decide);have Eb:=r9.frozen (n*5+4))
     all_goals
      first
      |rw [ziU w9 (top.kids.length*5) (n*5+4) _ _ _ _ _ _ ra]
       generalize hW:World.setCell (set5 w9 g9 (top.kids.length*5) (.int .i64 1) (.slice none 0 0) (.slice none 0 0) (.slice none 0 0) (.slice none 0 0)) ⟨q,n*5+4,none⟩ (.slice (some ⟨g9,0,none⟩) (top.kids.length+1) Ha)=W9
      | generalize hW:World.setCell (World.setCell (World.setCell (World.setCell (World.setCell (World.setCell w9 ⟨g9,top.kids.length*5,none⟩ (.int .i64 1)) ⟨g9,top.kids.length*5+1,none⟩ (.slice none 0 0)) ⟨g9,top.kids.length*5+2,none⟩ (.slice none 0 0)) ⟨g9,top.kids.length*5+3,none⟩ (.slice none 0 0)) ⟨g9,top.kids.length*5+4,none⟩ (.slice none 0 0)) ⟨q,n*5+4,none⟩ (.slice (some ⟨g9,0,none⟩) (top.kids.length+1) Ha)=W9
      have ia:W9=(set5 w9 g9 (top.kids.length*5) (.int .i64 1) (.slice none 0 0) (.slice none 0 0) (.slice none 0 0) (.slice none 0 0)).setCell ⟨q,n*5+4,none⟩ (.slice (some ⟨g9,0,none⟩) (top.kids.length+1) Ha):=hW.symm
      have HE:=hide (zBq (zaa fa) (zaa HN) (zaa Qa) (zaa Ba) Ta Ja Na W9 ia)
      clear hW ia fa Qa HR da Ba Ta Ja Na n0 n1 n2 n3 n4 nf ya qa ma za pa r9 m4 Eb ua ub
      go_wp2_with fail
      go_meet
      obtain⟨F9,Ta⟩:=zaa HE
      exact⟨top.kids,[],p+1,F9,by first | rfl | (congr 1;omega),Ta,by simp,hkid,zaa oa⟩
    ·rw [if_neg hroom]at Pa
     rw [Pa]at HQ
     have sa:p=120∨n+1=20:=by
      unfold room at hroom
      simp at hroom
      have:=zaa HN
      by_cases e:p+1<=120
      ·right;have:=hroom (by omega);omega
      ·left;omega
     have HC:=hide (zrs (zaa Aa).set hp sa)
     have Ra:=(zaa Aa).bel
     have Bb:=(zaa Aa).geg
     clear Pa hroom HB hgood Fa u4 Aa
     go_wp2_with fail
     refine (zaa HC).mono ?_
     rintro e w4 ⟨⟨v,rfl⟩,hf⟩
     exact⟨rfl,zaa HQ _ w4 ⟨⟨v,rfl⟩,Ra.trans (hf.below Ra.size (fun z hz=>by rw [List.mem_singleton.1 hz];exact Bb))⟩⟩
  case rest=>
  obtain⟨ks,t,p',F',rfl,hS,ht,Hb,Wa⟩:=hcut
  rw [Wa]at HQ
  obtain⟨gk,ck,at',ct,T⟩:=zwa hS (zaa HN) rfl
  have Oa:Below wc.heap.size wc wc.drew:=(Below.refl _ _).drew
  have Ca:Below wc.heap.size wc (wc.alloc (.cells #[.int .u8 y] 5)).drew:=((Below.refl _ _).alloc (Nat.le_refl _) _).drew
  have ja:=hide ((zfl wc y hy.1 hy.2).keep (Below.refl _ _).drew)
  have ga:=hide ((Loc.made wc #[.int .u8 y] 5).cell 0)
  have c1:wc.drew.cell? ⟨q,n*5+4,none⟩=some (.slice (some ⟨gk,0,none⟩) (ks.length+1) ck):=(Oa.cell (p:=⟨q,n*5+4,none⟩) T.ql).trans T.kids
  have c2:(wc.alloc (.cells #[.int .u8 y] 5)).drew.cell? ⟨q,n*5+4,none⟩=some (.slice (some ⟨gk,0,none⟩) (ks.length+1) ck):=(Ca.cell (p:=⟨q,n*5+4,none⟩) T.ql).trans T.kids
  have d1:wc.drew.cell? ⟨gk,ks.length*5+2,none⟩=some (.slice at' t.length ct):=(Oa.cell (p:=⟨gk,ks.length*5+2,none⟩) T.gl).trans T.text
  have d2:(wc.alloc (.cells #[.int .u8 y] 5)).drew.cell? ⟨gk,ks.length*5+2,none⟩=some (.slice at' t.length ct):=(Ca.cell (p:=⟨gk,ks.length*5+2,none⟩) T.gl).trans T.text
  have HT:=hide T
  have Ba:=hide Ca
  have va:(0:Int)<=(ks.length:Int):=by omega
  have na:(ks.length:Int)<(ks.length:Int)+1:=by omega
  have ba:=hy
  clear hS Wa T Ca Oa hy
  go_wp2_with fail
  go_region_law (refine zvt (by rfl) (.tmp 71) (.tmp 73) (by rfl) 0 (.slice at' t.length ct) t (by rfl) ((zaa HT).row.keep (zaa Ba)) wc.heap.size 1 y (by rfl) ba.1 ba.2 (zaa ga) (zaa ja) (by omega) (Nat.zero_le _) ?_;intro v' w9 Za Ja Na;obtain⟨av,cv,rfl⟩:=Za.shape;obtain⟨e1,e2,e3⟩:=(zaa HT).at9 (zaa Ba) Ja)
  all_goals
   obtain⟨F9,aa⟩:=(zaa HT).fin (zaa Ba) Ja Za Na
   have HE:=hide (zaa HQ (.returned (.tuple #[])) _ ⟨rfl,_,F9,aa⟩)
   rw [show (t++[y]).length=t.length+1 by simp]at HE
   clear HQ aa Za Ja Na e1 e2 e3 HT Ba ga ja c1 c2 d1 d2
   go_wp2_with fail
   first | go_end0 | refine bodyPost_ret (results_none rfl _ _ _) rfl ?_
   exact zaa HE
end Go.Proofs.YtgjolijncmkkhaaGreatDoor
