/- Own texts joined: EvJ, EvM, EvN, EvK, EvU, EvCd, EvCl. -/
import Derived.Test.YtgjolijncmkkhaaGreatDoorQa
import Derived.Test.YtgjolijncmkkhaaGreatDoorQe
import Derived.Test.YtgjolijncmkkhaaGreatDoorQk
import Derived.LoopN
import Derived.Scope
import Derived.Defers
namespace Go.Proofs.YtgjolijncmkkhaaGreatDoor
open Go.RowKit
set_option linter.unusedVariables false
variable {P:Program}
theorem zvf {ρ:Rn} {v:Xl} {b:Bool} (h:VL ρ v (.bool b)):v=.bool b∨v=.chan none:=by
 cases v with
 | bool x=>have:=VL.bool.1 h;cases this;exact .inl rfl
 | int k i=>have:=VL.int.1 h;cases this
 | string s=>have:=VL.string.1 h;cases this
 | pointer a=>cases a with
  | none=>have:=VL.nilp.1 h;cases this
  | some a=>obtain⟨_,p,_,e⟩:=VL.ptr.1 h;cases e
 | slice a l c=>cases a with
  | none=>have:=(VL.nils.1 h).2.2;cases this
  | some a=>obtain⟨_,_,p,_,a',c',e,_⟩:=VL.slice.1 h;cases e
 | map r=>cases r with
  | none=>have:=VL.nilm.1 h;cases this
  | some a=>obtain⟨p,_,e⟩:=VL.map.1 h;cases e
 | func fn f c=>
  obtain⟨f⟩:=f
  obtain⟨c⟩:=c
  obtain⟨_,f',c',e,_⟩:=VL.func.1 h;cases e
 | nilFunc=>have:=VL.nilf.1 h;cases this
 | iface t x=>obtain⟨x',e,_⟩:=VL.iface.1 h;cases e
 | nilIface=>have:=VL.nili.1 h;cases this
 | agg c=>obtain⟨l⟩:=c;obtain⟨l',e,_⟩:=VL.agg.1 h;cases e
 | tuple c=>obtain⟨l⟩:=c;obtain⟨l',e,_⟩:=VL.tuple.1 h;cases e
 | chan c=>cases c with
  | none=>exact .inr rfl
  | some r=>obtain⟨n,h⟩:=h;cases n<;>exact h.elim
 | float k b=>obtain⟨n,h⟩:=h;cases n<;>exact h.elim
 | complex k a b=>obtain⟨n,h⟩:=h;cases n<;>exact h.elim
theorem znD {ρ:Rn} {N:Nat} {t:TT} {ds:List Deferred} {a:Act} (h:ActR ρ N t ds a) {ops:Array Oper} {o:Oper} {b:Bool} (hw:zeo ops t o=some b):Region.wanted o (yielded ops a.tmps)=b:=by
 unfold zeo at hw
 unfold Region.wanted
 split at hw
 ·rename_i hg
  cases hw
  rw [hg]
 ·rename_i j Da hg
  rw [hg]
  simp only []
  unfold yielded
  split at hw
  ·rename_i d hd
   rw [hd]
   simp only [Option.bind_some]
   split at hw
   ·rename_i x Aa hx
    have hr:=h.tm d (Nat.le_of_ble_eq_true Aa)
    rw [hx]at hr
    have e:=VL.bool.1 hr
    rw [Array.getD_eq_getD_getElem?]at e
    cases hq:a.tmps[d]? with
    | none=>rw [hq]at e;cases e
    | some y=>
     rw [hq]at e
     have:y=.bool x:=e
     subst this
     cases hw
     simp
   ·cases hw
   ·rename_i Aa Ba Ca
    cases hw
    have hr:=h.tm d (Nat.le_of_ble_eq_true Aa)
    cases hq:a.tmps[d]? with
    | none=>rfl
    | some y=>
     rw [Array.getD_eq_getD_getElem?,hq]at hr
     cases y<;>first
      | rfl
      | (exact (zvf hr).elim (fun e=>(Ba _ e).elim) (fun e=>(Ca e).elim))
   ·cases hw
  ·rename_i hd
   rw [hd]
   cases hw
   rfl
theorem zyp {E:zas} (hE:zbg E) (hC:zcF P E) {o:Oper} {N:Nat} {t:TT} {ds ds1:List Deferred} {a:Act} {w0 w:Xk} {B:Nat} {ρ:Rn} {s s1:Hp} {v:Xl} (ha:ActR ρ N t ds a)
  (ht:Tells ((disp P o).f E (aev t) ds) s (v,ds1) s1) (H:HR w0 B ρ s.f w) (hfr:Free ρ s.n s1.n) {next:Act->Xk->Prop} {Q:Exit->Act->Xk->Prop}
  (hk:∀v' w' ρ' dsx,HR w0 B ρ' s1.f w'->Ext ρ ρ' s.n s1.n->VL ρ' v v'->DsR ρ' ds1 dsx->next (({ a with defers:=dsx }:Act).put o.dst v') w'):o.upon P a next Q ((execOp a.eval o).run P w):=by
 have he:=zwt ha H.glo
 have Aa:∀{F:M Xl},Good F->(∀w,Tells F s v s1->Went P ((execOp a.eval o).run P w) (Post w0 B ρ s s1 v)∨¬ HR w0 B ρ s.f w)->Tells (zaj F fun v=>zak (v,ds)) s (v,ds1) s1->o.upon P a next Q ((execOp a.eval o).run P w):=by
  intro F hF hw ht
  obtain⟨v2,s2,t1,t2,_⟩:=zac hF ht
  obtain⟨e,rfl⟩:=zad t2
  cases e
  rcases hw w t1 with hw | hw
  ·refine zxi hw fun v' w' hp=> ?_
   obtain⟨ρ',H',Da,hv⟩:=hp
   exact hk v' w' ρ' a.defers H' Da hv (ha.df.grow Da.le)
  ·exact (hw H).elim
 have pd:∀{F:En->M Xl},Good (F (aev t))->Sim P ρ (F (aev t)) (execOp a.eval o) OpR->Tells ((zaN F).f E (aev t) ds) s (v,ds1) s1->o.upon P a next Q ((execOp a.eval o).run P w):=by
  intro F hF hS ht
  exact Aa hF (fun w t1=>(Classical.em (HR w0 B ρ s.f w)).imp (fun H=>zAR hS t1 H hfr) id) ht
 unfold disp at ht
 split at ht
 ·rename_i x ho;exact pd (zeD _ _) (zBg he x ho) ht
 ·rename_i x ho;exact pd (zeD _ _) (zyt he x ho) ht
 ·rename_i c a b ho;exact pd (zjH _ _ _ _) (zBF he c a b ho) ht
 ·rename_i t ho;exact pd (F:=fun _=>zeq P t) (zij _ _) (zzL he t ho) ht
 ·rename_i t x ho;exact pd (zlb _ _ _) (zCb he t x ho) ht
 ·rename_i t parts ho;exact pd (zhV _ _ _ _) (zAV he t parts ho) ht
 ·rename_i t len parts ho;exact pd (zeT _ _ _ _ _) (zpK he t len parts ho) ht
 ·rename_i t a ho;exact pd (zjN _ _ _ _) (zBb he t a ho) ht
 ·rename_i t a x ho;exact pd (zib _ _ _ _ _) (zAc he t a x ho) ht
 ·rename_i x ho;exact pd (zgl _ _) (zqh he x _ ho) ht
 ·rename_i op t x y yt ho;exact pd (zkM _ _ _ _ _ _) (zAO he op t x y yt ho) ht
 ·rename_i op ut x ho;exact pd (zjU _ _ _ _) (zBw he op ut x ho) ht
 ·rename_i Ja dst x ho;exact pd (zgz _ _ _ _ _) (zwy he Ja dst x ho) ht
 ·rename_i t x ho;exact pd (zdY _ _ _ _) (zlX he t x ho) ht
 ·rename_i fn a b ho;exact pd (zgh _ _ _ _) (ztB he fn a b ho) ht
 ·rename_i t r ho;exact pd (F:=fun _=>zcQ r) (zgI _) (zwW he t r ho) ht
 ·rename_i t l c ho;exact pd (zfO _ _ _ _ _) (zrV he t l c ho) ht
 ·rename_i t x lo hi mx ho;exact pd (zim _ _ _ _ _ _ _) (zAW he t x lo hi mx ho) ht
 ·rename_i t x f ho;exact pd (zfC _ _ _ _ _) (zrw he t x f ho) ht
 ·rename_i t x f ho;exact pd (zhZ _ _ _ _ _) (zzO he t x f ho) ht
 ·rename_i t x ix ho;exact pd (zfF _ _ _ _ _) (zsd he t x ix ho) ht
 ·rename_i t x ix ho;exact pd (ziE _ _ _ _ _) (zAe he t x ix ho) ht
 ·rename_i t x ix ok ho;exact pd (zhM _ _ _ _ _ _) (zxq he t x ix ok ho) ht
 ·rename_i t m k x ho;exact pd (zct _ _ _ _ _ _) (zsl he t m k x ho) ht
 ·rename_i t m k x ho;exact pd (zct _ _ _ _ _ _) (zyN he t m k x ho) ht
 ·rename_i x xt t ok ho;exact pd (zeU _ _ _ _ _) (zqD he x xt t ok ho) ht
 ·rename_i x i ho;exact pd (zgL _ _ _) (zvT he x i ho) ht
 ·rename_i b args ts ho;exact pd (zgO _ _ _ _ _ _) (zvD he b args ts ho) ht
 ·rename_i f args Ba ho
  exact Aa (ziy hE _ _ _) (fun w t1=>(Classical.em (HR w0 B ρ s.f w)).imp (fun H=>zud hE hC he f args Ba _ ho t1 H hfr) id) ht
 ·rename_i r name args Ba ho
  exact Aa (ziO P hE _ _ _ _) (fun w t1=>(Classical.em (HR w0 B ρ s.f w)).imp (fun H=>zut hE hC he r name args Ba _ ho t1 H hfr) id) ht
 ·rename_i f args Ba ho
  obtain⟨d,s2,t1,t2,_⟩:=zac (ziK _ _ _) ht
  obtain⟨e,rfl⟩:=zad t2
  cases e
  unfold zgG at t1
  obtain⟨fv,s3,t3,t4,_⟩:=zac (zbo _) t1
  obtain⟨Ia,rfl⟩:=zcn t3
  obtain⟨vs,s4,t5,t6,_⟩:=zac (zaV _ _) t4
  obtain⟨rfl,Ga⟩:=zfb he _ t5
  unfold zmm at t6
  split at t6
  ·rename_i g al bl
   rw [forceL_eq]at t6
   obtain⟨rfl,rfl⟩:=zad t6
   obtain⟨_,a',b',e1,Ha,Fa⟩:=VL.func.1 (he f _ Ia)
   have hx:(execOp a.eval o).run P w=.ok (.defer { target:=.fn (.func g) ⟨b'⟩,args:=⟨a'++args.toList.map a.eval⟩ }) w:=by
    have Ca:(⟨a'⟩:Array Xl)++args.map a.eval=⟨a'++args.toList.map a.eval⟩:=by apply Array.ext';simp
    simp only [execOp,ho,resolve,Deferred.ofValue,e1,Sem.run_bind,Sem.run_pure,Result.andThen,Ca]
   rw [hx]
   exact hk undef w ρ _ H .rfl zlG ⟨_,_,rfl,⟨g,_,_,_,_,rfl,rfl,Ha.app Ga,Fa⟩,ha.df⟩
  ·exact (zag t6).elim
 ·exact (zag ht).elim
def zfe (w0:Xk) (B:Nat) (ρ:Rn) (s s':Hp) (N:Nat) (t':TT) (ds':List Deferred) (a':Act) (w':Xk):Prop:=∃ρ',HR w0 B ρ' s'.f w'∧Ext ρ ρ' s.n s'.n∧ActR ρ' N t' ds' a'
theorem zsy {E:zas} (hE:zbg E) (hC:zcF P E) {ops:Array Oper} {o:Oper} {N:Nat} {t t':TT} {ds ds':List Deferred} {a:Act} {w0 w:Xk} {B:Nat} {ρ:Rn} {s s':Hp} (ha:ActR ρ N t ds a)
  (ht:Tells (opK P E N ops o (t,ds)) s (t',ds') s') (H:HR w0 B ρ s.f w) (hfr:Free ρ s.n s'.n) {next:Act->Xk->Prop} (Q:Exit->Act->Xk->Prop) (hk:∀a' w',zfe w0 B ρ s s' N t' ds' a' w'->next a' w') :
  if Region.wanted o (yielded ops a.tmps)=true then o.wp P a w next Q else next (a.put o.dst undef) w:=by
 unfold opK at ht
 simp only []at ht
 split at ht
 ·exact (zag ht).elim
 ·rename_i hw
  rw [znD ha hw]
  simp only [Bool.false_eq_true,if_false]
  obtain⟨t1,s1,k1,k2,_⟩:=zac (zdJ _ _ _ _) ht
  obtain⟨e,rfl⟩:=zad k2
  cases e
  obtain⟨rfl,hp⟩:=ziJ k1
  refine hk _ _ ⟨ρ,H,.rfl,?_⟩
  rcases hp with ⟨h1,rfl⟩ | ⟨d,h1,hd,rfl⟩
  ·rw [h1];exact ha
  ·rw [h1];exact ha.put hd zlG
 ·rename_i hw
  rw [znD ha hw]
  simp only [if_true]
  obtain⟨x,s1,k1,k2,Ca⟩:=zac (ziB P hE o _ ds) ht
  obtain⟨v,Ba⟩:=x
  simp only []at k2
  obtain⟨t1,s2,k3,k4,_⟩:=zac (zdJ _ _ _ _) k2
  obtain⟨e,rfl⟩:=zad k4
  cases e
  obtain⟨rfl,hp⟩:=ziJ k3
  unfold Oper.wp
  refine zyp hE hC ha k1 H hfr fun v' w' ρ' dsx H' hE' hv hds=>hk _ _ ⟨ρ',H',hE',?_⟩
  have Aa:ActR ρ' N t ds' { a with defers:=dsx }:=⟨ha.size,ha.le,(ha.grow hE'.le).tm,hds⟩
  rcases hp with ⟨h1,rfl⟩ | ⟨d,h1,hd,rfl⟩
  ·rw [h1];exact Aa
  ·rw [h1];exact Aa.put hd hv
theorem zql {E:zas} (hE:zbg E) (hC:zcF P E) {ops:Array Oper} {N:Nat} {t':TT} {ds':List Deferred} {w0:Xk} {B:Nat} {s':Hp} {Q:Exit->Act->Xk->Prop}:∀(l:List Oper) (i:Nat) (t:TT) (ds:List Deferred) (a:Act) (w:Xk) (ρ:Rn) (s:Hp),
  (∀(j:Nat) o,l[j]? = some o->ops[i+j]? = some o)->ActR ρ N t ds a->Tells (opsK P E N ops l (t,ds)) s (t',ds') s'->HR w0 B ρ s.f w->Free ρ s.n s'.n->
  (∀a' w',zfe w0 B ρ s s' N t' ds' a' w'->Q .normal a' w')->wpOps P ops Q (List.range' i l.length) a w
 | [],i,t,ds,a,w,ρ,s,hl,ha,ht,H,hfr,hQ=>by
  obtain⟨e,rfl⟩:=zad ht
  cases e
  exact hQ _ _ ⟨ρ,H,.rfl,ha⟩
 | o::l,i,t,ds,a,w,ρ,s,hl,ha,ht,H,hfr,hQ=>by
  obtain⟨x,s1,k1,k2,Fa⟩:=zac (zfr P hE N ops o _) ht
  obtain⟨t1,Ca⟩:=x
  have Ga:s1.n<=s'.n:=k2.le (zgf P hE N ops l _)
  have ho:ops[i]? = some o:=by simpa using hl 0 o rfl
  have Aa:∀a' w',zfe w0 B ρ s s1 N t1 Ca a' w'->wpOps P ops Q (List.range' (i+1) l.length) a' w':=by
   rintro a' w' ⟨ρ',H',Da,Ja⟩
   refine zql hE hC l (i+1) t1 Ca a' w' ρ' s1 (fun j o' hj=> ?_) Ja k2 H' (hfr.right Fa Da) fun a2 w2 h2=>hQ _ _ ?_
   ·have:=hl (j+1) o' (by simpa using hj)
    rw [show i+1+j=i+(j+1) by omega];exact this
   ·obtain⟨ρ2,H2,Ia,Ha⟩:=h2
    exact⟨ρ2,H2,Da.trans Ia Fa Ga,Ha⟩
  have Ba:=zsy hE hC ha k1 H (hfr.left Ga) Q Aa
  rw [List.length_cons,List.range'_succ]
  simp only [wpOps,ho]
  split at Ba
  ·rename_i hw
   rw [if_pos hw]
   exact .inl Ba
  ·rename_i hw
   rw [if_neg hw]
   exact Ba
end Go.Proofs.YtgjolijncmkkhaaGreatDoor
namespace Go.Proofs.YtgjolijncmkkhaaGreatDoor
open Go.RowKit
set_option linter.unusedVariables false
variable {P:Program}
theorem zcl (k i:Nat):k % 2 ^ (i+1)=k % 2 ^ i+(if k.testBit i then 2 ^ i else 0):=by
 apply Nat.eq_of_testBit_eq
 intro b
 rw [Nat.testBit_mod_two_pow]
 by_cases hb:k.testBit i=true
 ·rw [if_pos hb,Nat.add_comm (k % 2 ^ i) (2 ^ i)]
  by_cases h1:b<i
  ·rw [Nat.testBit_two_pow_add_gt h1,Nat.testBit_mod_two_pow]
   simp [h1,Nat.lt_succ_of_lt h1]
  ·by_cases h2:b=i
   ·subst h2
    rw [Nat.testBit_two_pow_add_eq,Nat.testBit_mod_two_pow]
    simp [hb]
   ·have Ba:2 ^ i+k % 2 ^ i<2 ^ (i+1):=by
     have:=Nat.mod_lt k (Nat.two_pow_pos i)
     rw [Nat.pow_succ];omega
    have Aa:2 ^ i+k % 2 ^ i<2 ^ b:=Nat.lt_of_lt_of_le Ba (Nat.pow_le_pow_right (by omega) (by omega))
    rw [Nat.testBit_lt_two_pow Aa]
    simp;omega
 ·rw [if_neg hb,Nat.add_zero (k % 2 ^ i),Nat.testBit_mod_two_pow]
  by_cases h1:b<i
  ·simp [h1,Nat.lt_succ_of_lt h1]
  ·by_cases h2:b=i
   ·subst h2;simp [hb]
   ·have:¬ b<i+1:=by omega
    simp [h1,this]
theorem tex0 {α:Type} (g:Nat->α):∃t:T0 α,∀k,zeZ t k=g (k % 2 ^ 0):=⟨g 0,fun k=>by simp [zeZ,Nat.mod_one]⟩
theorem tex1 {α:Type} (g:Nat->α):∃t:T1 α,∀k,zdv t k=g (k % 2 ^ 1):=by
 obtain⟨a,ha⟩:=tex0 g
 obtain⟨b,hb⟩:=tex0 fun k=>g (k+2 ^ 0)
 refine⟨⟨a,b⟩,fun k=> ?_⟩
 have hm:=zcl k 0
 have hk:=zam k 0 1 rfl
 unfold zdv
 simp only [hk]
 rw [show (2:Nat) ^ 1=2 ^ (0+1) from rfl,hm]
 cases k.testBit 0
 ·exact ha k
 ·exact hb k
theorem tex2 {α:Type} (g:Nat->α):∃t:T2 α,∀k,zdm t k=g (k % 2 ^ 2):=by
 obtain⟨a,ha⟩:=tex1 g
 obtain⟨b,hb⟩:=tex1 fun k=>g (k+2 ^ 1)
 refine⟨⟨a,b⟩,fun k=> ?_⟩
 have hm:=zcl k 1
 have hk:=zam k 1 2 rfl
 unfold zdm
 simp only [hk]
 rw [show (2:Nat) ^ 2=2 ^ (1+1) from rfl,hm]
 cases k.testBit 1
 ·exact ha k
 ·exact hb k
theorem tex3 {α:Type} (g:Nat->α):∃t:T3 α,∀k,zdp t k=g (k % 2 ^ 3):=by
 obtain⟨a,ha⟩:=tex2 g
 obtain⟨b,hb⟩:=tex2 fun k=>g (k+2 ^ 2)
 refine⟨⟨a,b⟩,fun k=> ?_⟩
 have hm:=zcl k 2
 have hk:=zam k 2 4 rfl
 unfold zdp
 simp only [hk]
 rw [show (2:Nat) ^ 3=2 ^ (2+1) from rfl,hm]
 cases k.testBit 2
 ·exact ha k
 ·exact hb k
theorem tex4 {α:Type} (g:Nat->α):∃t:T4 α,∀k,zdr t k=g (k % 2 ^ 4):=by
 obtain⟨a,ha⟩:=tex3 g
 obtain⟨b,hb⟩:=tex3 fun k=>g (k+2 ^ 3)
 refine⟨⟨a,b⟩,fun k=> ?_⟩
 have hm:=zcl k 3
 have hk:=zam k 3 8 rfl
 unfold zdr
 simp only [hk]
 rw [show (2:Nat) ^ 4=2 ^ (3+1) from rfl,hm]
 cases k.testBit 3
 ·exact ha k
 ·exact hb k
theorem tex5 {α:Type} (g:Nat->α):∃t:T5 α,∀k,zdx t k=g (k % 2 ^ 5):=by
 obtain⟨a,ha⟩:=tex4 g
 obtain⟨b,hb⟩:=tex4 fun k=>g (k+2 ^ 4)
 refine⟨⟨a,b⟩,fun k=> ?_⟩
 have hm:=zcl k 4
 have hk:=zam k 4 16 rfl
 unfold zdx
 simp only [hk]
 rw [show (2:Nat) ^ 5=2 ^ (4+1) from rfl,hm]
 cases k.testBit 4
 ·exact ha k
 ·exact hb k
theorem tex6 {α:Type} (g:Nat->α):∃t:T6 α,∀k,zdw t k=g (k % 2 ^ 6):=by
 obtain⟨a,ha⟩:=tex5 g
 obtain⟨b,hb⟩:=tex5 fun k=>g (k+2 ^ 5)
 refine⟨⟨a,b⟩,fun k=> ?_⟩
 have hm:=zcl k 5
 have hk:=zam k 5 32 rfl
 unfold zdw
 simp only [hk]
 rw [show (2:Nat) ^ 6=2 ^ (5+1) from rfl,hm]
 cases k.testBit 5
 ·exact ha k
 ·exact hb k
theorem tex7 {α:Type} (g:Nat->α):∃t:T7 α,∀k,zds t k=g (k % 2 ^ 7):=by
 obtain⟨a,ha⟩:=tex6 g
 obtain⟨b,hb⟩:=tex6 fun k=>g (k+2 ^ 6)
 refine⟨⟨a,b⟩,fun k=> ?_⟩
 have hm:=zcl k 6
 have hk:=zam k 6 64 rfl
 unfold zds
 simp only [hk]
 rw [show (2:Nat) ^ 7=2 ^ (6+1) from rfl,hm]
 cases k.testBit 6
 ·exact ha k
 ·exact hb k
theorem tex8 {α:Type} (g:Nat->α):∃t:T8 α,∀k,zaD t k=g (k % 2 ^ 8):=by
 obtain⟨a,ha⟩:=tex7 g
 obtain⟨b,hb⟩:=tex7 fun k=>g (k+2 ^ 7)
 refine⟨⟨a,b⟩,fun k=> ?_⟩
 have hm:=zcl k 7
 have hk:=zam k 7 128 rfl
 unfold zaD
 simp only [hk]
 rw [show (2:Nat) ^ 8=2 ^ (7+1) from rfl,hm]
 cases k.testBit 7
 ·exact ha k
 ·exact hb k
theorem tex9 {α:Type} (g:Nat->α):∃t:T9 α,∀k,zdo t k=g (k % 2 ^ 9):=by
 obtain⟨a,ha⟩:=tex8 g
 obtain⟨b,hb⟩:=tex8 fun k=>g (k+2 ^ 8)
 refine⟨⟨a,b⟩,fun k=> ?_⟩
 have hm:=zcl k 8
 have hk:=zam k 8 256 rfl
 unfold zdo
 simp only [hk]
 rw [show (2:Nat) ^ 9=2 ^ (8+1) from rfl,hm]
 cases k.testBit 8
 ·exact ha k
 ·exact hb k
theorem zzv {α:Type} (g:Nat->α):∃t:T10 α,∀k,zcC t k=g (k % 2 ^ 10):=by
 obtain⟨a,ha⟩:=tex9 g
 obtain⟨b,hb⟩:=tex9 fun k=>g (k+2 ^ 9)
 refine⟨⟨a,b⟩,fun k=> ?_⟩
 have hm:=zcl k 9
 have hk:=zam k 9 512 rfl
 unfold zcC
 simp only [hk]
 rw [show (2:Nat) ^ 10=2 ^ (9+1) from rfl,hm]
 cases k.testBit 9
 ·exact ha k
 ·exact hb k
theorem zzx {α:Type} (g:Nat->α):∃t:T11 α,∀k,zcE t k=g (k % 2 ^ 11):=by
 obtain⟨a,ha⟩:=zzv g
 obtain⟨b,hb⟩:=zzv fun k=>g (k+2 ^ 10)
 refine⟨⟨a,b⟩,fun k=> ?_⟩
 have hm:=zcl k 10
 have hk:=zam k 10 1024 rfl
 unfold zcE
 simp only [hk]
 rw [show (2:Nat) ^ 11=2 ^ (10+1) from rfl,hm]
 cases k.testBit 10
 ·exact ha k
 ·exact hb k
theorem zzs {α:Type} (g:Nat->α):∃t:T12 α,∀k,zcA t k=g (k % 2 ^ 12):=by
 obtain⟨a,ha⟩:=zzx g
 obtain⟨b,hb⟩:=zzx fun k=>g (k+2 ^ 11)
 refine⟨⟨a,b⟩,fun k=> ?_⟩
 have hm:=zcl k 11
 have hk:=zam k 11 2048 rfl
 unfold zcA
 simp only [hk]
 rw [show (2:Nat) ^ 12=2 ^ (11+1) from rfl,hm]
 cases k.testBit 11
 ·exact ha k
 ·exact hb k
theorem zCl {α:Type} (g:Nat->α):∃t:T13 α,∀k,zbr t k=g (k % 2 ^ 13):=by
 obtain⟨a,ha⟩:=zzs g
 obtain⟨b,hb⟩:=zzs fun k=>g (k+2 ^ 12)
 refine⟨⟨a,b⟩,fun k=> ?_⟩
 have hm:=zcl k 12
 have hk:=zam k 12 4096 rfl
 unfold zbr
 simp only [hk]
 rw [show (2:Nat) ^ 13=2 ^ (12+1) from rfl,hm]
 cases k.testBit 12
 ·exact ha k
 ·exact hb k
theorem zCh (g:Hf) (n:Nat) (hg:∀id,8191<id->g id=none):∃s:Hp,s.f=g∧s.n=n∧s.rd=0∧s.wr=0:=by
 obtain⟨t,ht⟩:=zCl g
 refine⟨⟨t,n,0,0⟩,?_,rfl,rfl,rfl⟩
 funext id
 unfold Hp.f
 by_cases h:id<=8191
 ·rw [if_pos h]
  show zbr t id=g id
  rw [ht,Nat.mod_eq_of_lt (by omega)]
 ·rw [if_neg h,hg id (by omega)]
theorem zCk (g:Nat->Xl):∃t:TT,∀k,k<=255->zaD t k=g k:=by
 obtain⟨t,ht⟩:=tex8 g
 exact⟨t,fun k hk=>by rw [ht,Nat.mod_eq_of_lt (by omega)]⟩
def befF (acc:Array Nat) (s:Nat) (e:Edge):Nat:=if Region.binds .any e then s ||| 2 ^ e.on ||| acc.getD e.on 0 else s
theorem zpB (acc:Array Nat) (i:Nat):∀(l:List Edge) (s:Nat),(l.foldl (befF acc) s).testBit i=true->s.testBit i=true∨∃e∈l,Region.binds .any e=true∧(i=e.on∨(acc.getD e.on 0).testBit i=true)
 | [],s,h=>.inl h
 | e::l,s,h=>by
  rw [List.foldl_cons]at h
  rcases zpB acc i l _ h with h | ⟨e',h1,h2⟩
  ·unfold befF at h
   split at h
   ·rename_i hb
    simp only [Nat.testBit_or,Bool.or_eq_true,Nat.testBit_two_pow,decide_eq_true_eq]at h
    rcases h with (h | h) | h
    ·exact .inl h
    ·exact .inr ⟨e,List.mem_cons_self,hb,.inl h.symm⟩
    ·exact .inr ⟨e,List.mem_cons_self,hb,.inr h⟩
   ·exact .inl h
  ·exact .inr ⟨e',List.mem_cons_of_mem _ h1,h2⟩
def zuP (ops:Array Oper) (acc:Array Nat):Prop:=∀j,j<acc.size->∀i,(acc.getD j 0).testBit i=true->∃o e,ops[j]? = some o∧e∈o.after.toList∧Region.binds .any e=true∧(i=e.on∨(e.on<j∧(acc.getD e.on 0).testBit i=true))
theorem ztg (ops:Array Oper):∀(l:List Oper) (acc:Array Nat),(∀(j:Nat) o,l[j]? = some o->ops[acc.size+j]? = some o)->zuP ops acc->
  zuP ops (l.foldl (fun acc o=>acc.push (o.after.foldl (befF acc) 0)) acc)
 | [],acc,_,h=>h
 | o::l,acc,hl,h=>by
  rw [List.foldl_cons]
  refine ztg ops l _ (fun j o' hj=> ?_) fun j hj i hb=> ?_
  ·have:=hl (j+1) o' (by simpa using hj)
   rw [Array.size_push,show acc.size+1+j=acc.size+(j+1) by omega];exact this
  ·rw [Array.size_push]at hj
   have same:∀k,k<acc.size->(acc.push (o.after.foldl (befF acc) 0)).getD k 0=acc.getD k 0:=fun k hk=>by
    rw [Array.getD_eq_getD_getElem?,Array.getD_eq_getD_getElem?,Array.getElem?_push,if_neg (by omega)]
   by_cases hlt:j<acc.size
   ·rw [same j hlt]at hb
    obtain⟨o',e,h1,h2,h3,h4⟩:=h j hlt i hb
    refine⟨o',e,h1,h2,h3,h4.imp id fun h5=>⟨h5.1,?_⟩⟩
    rw [same e.on (by omega)];exact h5.2
   ·have Ba:j=acc.size:=by omega
    subst Ba
    have hx:(acc.push (o.after.foldl (befF acc) 0)).getD acc.size 0=o.after.foldl (befF acc) 0:=by
     rw [Array.getD_eq_getD_getElem?,Array.getElem?_push,if_pos rfl];rfl
    rw [hx,<-Array.foldl_toList]at hb
    rcases zpB acc i _ _ hb with hb | ⟨e,h1,h2,h3⟩
    ·simp at hb
    ·refine⟨o,e,by simpa using hl 0 o rfl,h1,h2,?_⟩
     rcases h3 with h3 | h3
     ·exact .inl h3
     ·have Aa:e.on<acc.size:=by
       rcases Nat.lt_or_ge e.on acc.size with h | h
       ·exact h
       ·rw [Array.getD_eq_getD_getElem?,Array.getElem?_eq_none h]at h3;simp at h3
      exact .inr ⟨Aa,by rw [same e.on Aa];exact h3⟩
theorem zwF (ops:Array Oper):zuP ops (Region.before ops):=by
 have h:Region.before ops=ops.toList.foldl (fun Aa o=>Aa.push (o.after.foldl (befF Aa) 0)) #[]:=by
  unfold Region.before
  rw [<-Array.foldl_toList]
  rfl
 rw [h]
 exact ztg ops ops.toList #[] (fun j o hj=>by simpa using hj) fun j hj=>by simp at hj
end Go.Proofs.YtgjolijncmkkhaaGreatDoor
namespace Go.Proofs.YtgjolijncmkkhaaGreatDoor
open Go.RowKit
set_option linter.unusedVariables false
variable {P:Program}
theorem zbE {e e2:En}:∀(l:List Operand),(∀x∈l,e x=e2 x)->aevs e l=aevs e2 l
 | [],_=>rfl
 | x::l,h=>by
  unfold aevs
  rw [h x List.mem_cons_self,zbE l fun y hy=>h y (List.mem_cons_of_mem _ hy)]
theorem zhq {e e2:En} (y:Option Operand) (h:∀x,y=some x->e x=e2 x):mopt e y=mopt e2 y:=by
 unfold mopt
 cases y with
 | none=>rfl
 | some x=>simp only [h x rfl]
theorem ztD {E:zas} {o:Oper} {e e2:En} {ds:List Deferred} (h:∀x,x∈o.op.operands.toList->e x=e2 x):(disp P o).f E e ds=(disp P o).f E e2 ds:=by
 have pd:∀{F:En->M Xl},F e=F e2->(zaN F).f E e ds=(zaN F).f E e2 ds:=fun {F} hF=>by unfold zaN;simp only [hF]
 unfold disp
 split
 ·rename_i x ho
  rw [ho]at h
  have h0:=h x (by simp [Op.operands])
  exact pd (by simp only [zdV,h0])
 ·rename_i x ho
  rw [ho]at h
  have h0:=h x (by simp [Op.operands])
  exact pd (by simp only [zdV,h0])
 ·rename_i c a b ho
  rw [ho]at h
  have h0:=h c (by simp [Op.operands])
  have h1:=h a (by simp [Op.operands])
  have h2:=h b (by simp [Op.operands])
  exact pd (by simp only [zfP,h0,h1,h2])
 ·rfl
 ·rename_i t x ho
  rw [ho]at h
  have h0:=h x (by simp [Op.operands])
  exact pd (by simp only [zgT,h0])
 ·rename_i t parts ho
  rw [ho]at h
  have h0:=zbE (parts.toList.map (·.2)) fun x hx=>h x (by simpa [Op.operands]using hx)
  exact pd (by simp only [zej,h0])
 ·rename_i t len parts ho
  rw [ho]at h
  have h0:=zbE (parts.toList.map (·.2)) fun x hx=>h x (by simpa [Op.operands]using hx)
  exact pd (by simp only [zbP,h0])
 ·rename_i t a ho
  rw [ho]at h
  have h0:=h a (by simp [Op.operands])
  exact pd (by simp only [zfz,h0])
 ·rename_i t a x ho
  rw [ho]at h
  have h0:=h a (by simp [Op.operands])
  have h1:=h x (by simp [Op.operands])
  exact pd (by simp only [zep,h0,h1])
 ·rename_i x ho
  rw [ho]at h
  have h0:=h x (by simp [Op.operands])
  exact pd (by simp only [zdh,h0])
 ·rename_i op t x y yt ho
  rw [ho]at h
  have h0:=h x (by simp [Op.operands])
  have h1:=h y (by simp [Op.operands])
  exact pd (by simp only [zhl,h0,h1])
 ·rename_i op ut x ho
  rw [ho]at h
  have h0:=h x (by simp [Op.operands])
  exact pd (by simp only [zfs,h0])
 ·rename_i Da Ca x ho
  rw [ho]at h
  have h0:=h x (by simp [Op.operands])
  exact pd (by simp only [zcM,h0])
 ·rename_i t x ho
  rw [ho]at h
  have h0:=h x (by simp [Op.operands])
  exact pd (by simp only [zbm,h0])
 ·rename_i fn a b ho
  rw [ho]at h
  have h0:=zbE a.toList fun x hx=>h x (by simp only [Op.operands,Array.toList_append,List.mem_append];exact .inl hx)
  have h1:=zbE b.toList fun x hx=>h x (by simp only [Op.operands,Array.toList_append,List.mem_append];exact .inr hx)
  exact pd (by simp only [zcp,h0,h1])
 ·rfl
 ·rename_i t l c ho
  rw [ho]at h
  have h0:=h l (by simp [Op.operands])
  have h1:=h c (by simp [Op.operands])
  exact pd (by simp only [zcf,h0,h1])
 ·rename_i t x lo hi mx ho
  rw [ho]at h
  have h0:=h x (by simp [Op.operands])
  have h1:=zhq lo fun y hy=>h y (by subst hy;simp [Op.operands])
  have h2:=zhq hi fun y hy=>h y (by subst hy;simp [Op.operands])
  have h3:=zhq mx fun y hy=>h y (by subst hy;simp [Op.operands])
  exact pd (by simp only [zes,h0,h1,h2,h3])
 ·rename_i t x f ho
  rw [ho]at h
  have h0:=h x (by simp [Op.operands])
  exact pd (by simp only [zbZ,h0])
 ·rename_i t x f ho
  rw [ho]at h
  have h0:=h x (by simp [Op.operands])
  exact pd (by simp only [zen,h0])
 ·rename_i t x ix ho
  rw [ho]at h
  have h0:=h x (by simp [Op.operands])
  have h1:=h ix (by simp [Op.operands])
  exact pd (by simp only [zca,h0,h1])
 ·rename_i t x ix ho
  rw [ho]at h
  have h0:=h x (by simp [Op.operands])
  have h1:=h ix (by simp [Op.operands])
  exact pd (by simp only [zer,h0,h1])
 ·rename_i t x ix ok ho
  rw [ho]at h
  have h0:=h x (by simp [Op.operands])
  have h1:=h ix (by simp [Op.operands])
  exact pd (by simp only [zdz,h0,h1])
 ·rename_i t m k x ho
  rw [ho]at h
  have h0:=h m (by simp [Op.operands])
  have h1:=h k (by simp [Op.operands])
  have h2:=h x (by simp [Op.operands])
  exact pd (by simp only [zbh,h0,h1,h2])
 ·rename_i t m k x ho
  rw [ho]at h
  have h0:=h m (by simp [Op.operands])
  have h1:=h k (by simp [Op.operands])
  have h2:=h x (by simp [Op.operands])
  exact pd (by simp only [zbh,h0,h1,h2])
 ·rename_i x xt t ok ho
  rw [ho]at h
  have h0:=h x (by simp [Op.operands])
  exact pd (by simp only [zbM,h0])
 ·rename_i x i ho
  rw [ho]at h
  have h0:=h x (by simp [Op.operands])
  exact pd (by simp only [zcT,h0])
 ·rename_i b Aa ts ho
  rw [ho]at h
  have h0:=zbE Aa.toList fun x hx=>h x (by simpa [Op.operands,Call.operands]using hx)
  exact pd (by simp only [zdM,h0])
 ·rename_i f Aa Ba ho
  rw [ho]at h
  have h0:=h f (by simp [Op.operands,Call.operands])
  have h1:=zbE Aa.toList fun x hx=>h x (by simp [Op.operands,Call.operands];right;simpa using hx)
  simp only [zfn,h0,h1]
 ·rename_i r name Aa Ba ho
  rw [ho]at h
  have h0:=h r (by simp [Op.operands,Call.operands])
  have h1:=zbE Aa.toList fun x hx=>h x (by simp [Op.operands,Call.operands];right;simpa using hx)
  simp only [zfi,h0,h1]
 ·rename_i f Aa Ba ho
  rw [ho]at h
  have h0:=h f (by simp [Op.operands,Call.operands])
  have h1:=zbE Aa.toList fun x hx=>h x (by simp [Op.operands,Call.operands];right;simpa using hx)
  simp only [zgG,h0,h1]
 ·rfl
def Nm (ops:Array Oper) (o:Oper) (k:Nat):Prop:=(zfL ops o).testBit k=true
theorem zfG:∀(l:List Operand) (k:Nat),Operand.tmp k∈l->(zeP l).testBit k=true
 | [],k,h=>by cases h
 | x::l,k,h=>by
  cases x with
  | tmp j=>
   unfold zeP
   show (Nat.shiftLeft 1 j ||| zeP l).testBit k=true
   rw [Nat.testBit_or,Bool.or_eq_true]
   cases h with
   | head=>exact .inl (zet k)
   | tail _ h=>exact .inr (zfG l k h)
  | const v=>cases h with | tail _ h=>exact zfG l k h
  | global v=>cases h with | tail _ h=>exact zfG l k h
  | func v=>cases h with | tail _ h=>exact zfG l k h
theorem zCg {ops:Array Oper} {o:Oper} {k:Nat} (h:Operand.tmp k∈o.op.operands.toList):Nm ops o k:=by
 unfold Nm zfL
 show (zdt o.dst ||| (zeP o.op.operands.toList ||| _)).testBit k=true
 rw [Nat.testBit_or,Nat.testBit_or,zfG _ _ h]
 simp
theorem zBG {ops:Array Oper} {o:Oper} {k:Nat} (h:o.dst=some k):Nm ops o k:=by
 unfold Nm zfL
 show (zdt o.dst ||| _).testBit k=true
 rw [Nat.testBit_or,h]
 unfold zdt
 rw [zet];rfl
theorem zxY {ops:Array Oper} {o:Oper} {j k:Nat} {b:Bool} (hg:o.guard=some (j,b)) (h:(ops[j]?).bind (·.dst)=some k):Nm ops o k:=by
 unfold Nm zfL
 rw [hg]
 show (zdt o.dst ||| (zeP o.op.operands.toList ||| zdt ((ops[j]?).bind (·.dst)))).testBit k=true
 rw [h,Nat.testBit_or,Nat.testBit_or]
 unfold zdt
 rw [zet];simp
theorem zns {E:zas} (hE:zbg E) {N:Nat} {ops:Array Oper} {o:Oper} {t t2 t':TT} {ds ds':List Deferred} {s s':Hp} (h:∀k,k<=255->Nm ops o k->zaD t2 k=zaD t k) (ht:Tells (opK P E N ops o (t,ds)) s (t',ds') s') :
  ∃t2',Tells (opK P E N ops o (t2,ds)) s (t2',ds') s'∧((o.dst=none∧t'=t∧t2'=t2)∨∃d v,o.dst=some d∧d<N∧t'=tset8 t d v id∧t2'=tset8 t2 d v id):=by
 have hw:zeo ops t2 o=zeo ops t o:=by
  unfold zeo
  cases hg:o.guard with
  | none=>rfl
  | some x=>
   obtain⟨j,Ca⟩:=x
   simp only []
   cases hd:(ops[j]?).bind (·.dst)with
   | none=>rfl
   | some d=>
    simp only []
    cases hb:Nat.ble d 255 with
    | false=>rfl
    | true=>rw [h d (Nat.le_of_ble_eq_true hb) (zxY hg hd)]
 have Da:∀x,x∈o.op.operands.toList->aev t x=aev t2 x:=by
  intro x hx
  cases x with
  | tmp k=>
   unfold aev
   simp only []
   cases hb:Nat.ble k 255 with
   | false=>rfl
   | true=>rw [h k (Nat.le_of_ble_eq_true hb) (zCg hx)]
  | const v=>rfl
  | global g=>rfl
  | func f=>rfl
 have Aa:∀{v:Xl} {a b:Hp} {tx:TT},Tells (putK N t o.dst v) a tx b->∃ty,(∀c,Tells (putK N t2 o.dst v) c ty c)∧b=a∧((o.dst=none∧tx=t∧ty=t2)∨∃d v,o.dst=some d∧d<N∧tx=tset8 t d v id∧ty=tset8 t2 d v id):=by
  intro v a b tx hp
  obtain⟨hb,hc⟩:=ziJ hp
  rcases hc with ⟨h1,h2⟩ | ⟨d,h1,h2,h3⟩
  ·exact⟨t2,fun c=>⟨fun J=>by rw [h1];rfl⟩,hb,.inl ⟨h1,h2,rfl⟩⟩
  ·refine⟨tset8 t2 d v id,fun c=>⟨fun J=> ?_⟩,hb,.inr ⟨d,v,h1,h2,h3,rfl⟩⟩
   rw [h1]
   unfold putK
   have Ba:Nat.blt d N=true:=by rw [blt_eq];simpa using h2
   simp only [Ba]
   rw [tset8_eq];rfl
 unfold opK at ht ⊢
 simp only []at ht ⊢
 rw [hw]
 cases hq:zeo ops t o with
 | none=>rw [hq]at ht;exact (zag ht).elim
 | some b=>
  rw [hq]at ht
  cases b with
  | false=>
   simp only []at ht ⊢
   obtain⟨tx,s1,k1,k2,_⟩:=zac (zdJ _ _ _ _) ht
   obtain⟨e,rfl⟩:=zad k2
   cases e
   obtain⟨ty,h1,rfl,h2⟩:=Aa k1
   refine⟨ty,⟨fun J=> ?_⟩,h2⟩
   exact (h1 s').eq _
  | true=>
   simp only []at ht ⊢
   obtain⟨x,s1,k1,k2,_⟩:=zac (ziB P hE o _ ds) ht
   obtain⟨v,Fa⟩:=x
   simp only []at k2
   obtain⟨tx,s2,k3,k4,_⟩:=zac (zdJ _ _ _ _) k2
   obtain⟨e,rfl⟩:=zad k4
   cases e
   obtain⟨ty,h1,rfl,h2⟩:=Aa k3
   rw [ztD Da]at k1
   refine⟨ty,⟨fun J=> ?_⟩,h2⟩
   show ((disp P o).f E (aev t2) ds).run s _=_
   rw [k1.eq]
   exact (h1 s').eq _
theorem zwU {α:Type} {F:M α} (hF:Good F) {s s':Hp} {a:α} {r q:Nat} (h:Tells (mtrk F) s (a,r,q) s') :
  s.n<=s'.n∧(∀id,q.testBit id=false->s'.f id=s.f id)∧(∀id,s.n<=id->id<s'.n->q.testBit id=true)∧
   ∀g:Hp,g.n=s.n->(∀id,(r ||| q).testBit id=true->g.f id=s.f id)->∃g',Tells F g a g'∧g'.n=s'.n∧(∀id,q.testBit id=true->g'.f id=s'.f id)∧(∀id,q.testBit id=false->g'.f id=g.f id):=by
 have e:=h.pair
 rw [zjy]at e
 obtain⟨a1,s1,r1,q1,e1,f,g1⟩:=hF.ok _ _ _ e
 rw [e1]at e
 have hr:s1.rd=r1:=by rw [f.rd];simp
 have hq:s1.wr=q1:=by rw [f.wr];simp
 rw [hr,hq]at e
 cases e
 refine⟨f.n,fun id h=>f.off id h,fun id h1 h2=>f.new id h1 h2,fun g Aa hg=> ?_⟩
 obtain⟨g',hp,eg⟩:=g1 g ⟨Aa,fun id h=>hg id h⟩
 exact⟨g',⟨fun J=>eg J⟩,hp.n,fun id h=>hp.on id h,fun id h=>hp.off id h⟩
end Go.Proofs.YtgjolijncmkkhaaGreatDoor
namespace Go.Proofs.YtgjolijncmkkhaaGreatDoor
open Go.RowKit
set_option linter.unusedVariables false
variable {P:Program}
def trk (ops:Array Oper) (R Q:Nat->Nat) (i:Nat) (o:Oper):Trk:=⟨Q i,Nat.lor (R i) (Q i),zdt o.dst,zfL ops o⟩
theorem znx {b:Nat} {x:Trk}:∀(acc:List Trk) (k:Nat),zpd b x k acc=true->acc.length=k->∀m,m<k->∀y,acc[k-1-m]? = some y->zdZ y x=true->b.testBit m=true
 | [],k,h,hl,m,hm,y,hy,hc=>by simp at hl;omega
 | z::acc,k,h,hl,m,hm,y,hy,hc=>by
  cases k with
  | zero=>omega
  | succ k=>
   unfold zpd at h
   rw [Bool.and_eq_true]at h
   by_cases e:m=k
   ·subst e
    simp at hy
    subst hy
    rw [hc]at h
    simpa using h.1
   ·have:k+1-1-m=(k-1-m)+1:=by omega
    rw [this,List.getElem?_cons_succ]at hy
    exact znx acc k h.2 (by simpa using hl) m (by omega) y hy hc
theorem zkV {E:zas} (hE:zbg E) {N:Nat} {ops:Array Oper}:∀(l:List Oper) (bef:Xh) (k:Nat) (acc:List Trk) (t t':TT) (s s':Hp),Tells (zfR P E N ops [] l bef k acc t) s t' s'->acc.length=k->
  ∃(S:Nat->Hp) (T:Nat->TT) (R Q:Nat->Nat),S 0=s∧T 0=t∧S l.length=s'∧T l.length=t'∧
   (∀(j:Nat) o,l[j]? = some o->Tells (mtrk (opK P E N ops o (T j,[]))) (S j) ((T (j+1),[]),R j,Q j) (S (j+1)))∧
   (∀(j:Nat) o,l[j]? = some o->(∀m,m<k->∀x,acc[k-1-m]? = some x->zdZ x (trk ops R Q j o)=true->(bef.getD j 0).testBit m=true)∧
    ∀(i:Nat) oi,i<j->l[i]? = some oi->zdZ (trk ops R Q i oi) (trk ops R Q j o)=true->(bef.getD j 0).testBit (k+i)=true)
 | [],bef,k,acc,t,t',s,s',h,hk=>by
  unfold zfR at h
  obtain⟨rfl,rfl⟩:=zad h
  exact⟨fun _=>s',fun _=>t',fun _=>0,fun _=>0,rfl,rfl,rfl,rfl,fun j o hj=>by simp at hj,fun j o hj=>by simp at hj⟩
 | o::l,bef,k,acc,t,t',s,s',h,hk=>by
  unfold zfR at h
  obtain⟨x,s1,h1,h2,_⟩:=zac (znc (zfr P hE N ops o _)) h
  obtain⟨⟨t1,Fa⟩,r,q⟩:=x
  simp only []at h2
  split at h2
  ·rename_i hc
   rw [Bool.and_eq_true]at hc
   have hd:Fa=[]:=by simpa using hc.1
   subst hd
   rw [forceN_eq]at h2
   obtain⟨S,T,R,Q,e1,e2,e3,e4,e5,e6⟩:=zkV hE l bef.tail (k+1) (⟨q,Nat.lor r q,zdt o.dst,zfL ops o⟩::acc) t1 t' s1 s' h2 (by simp [hk])
   refine⟨fun | 0=>s | j+1=>S j,fun | 0=>t | j+1=>T j,fun | 0=>r | j+1=>R j,fun | 0=>q | j+1=>Q j,rfl,rfl,e3,e4,fun j o' hj=> ?_,fun j o' hj=> ?_⟩
   ·cases j with
    | zero=>
     simp at hj
     subst hj
     show Tells _ s ((T 0,[]),r,q) (S 0)
     rw [e1,e2];exact h1
    | succ j=>exact e5 j o' (by simpa using hj)
   ·have Ba:∀j,bef.getD (j+1) 0=bef.tail.getD j 0:=fun j=>by cases bef<;>simp
    cases j with
    | zero=>
     simp at hj
     subst hj
     refine⟨fun m hm y hy Aa=> ?_,fun i oi hi=>by omega⟩
     have Da:bef.getD 0 0=bef.headD 0:=by cases bef<;>rfl
     rw [Da]
     exact znx acc k hc.2 hk m hm y hy Aa
    | succ j=>
     obtain⟨f1,f2⟩:=e6 j o' (by simpa using hj)
     rw [Ba]
     refine⟨fun m hm y hy Aa=> ?_,fun i oi hi Ca Aa=> ?_⟩
     ·exact f1 m (by omega) y (by rw [show k+1-1-m=(k-1-m)+1 by omega,List.getElem?_cons_succ];exact hy) Aa
     ·cases i with
      | zero=>
       simp at Ca
       subst Ca
       exact f1 k (by omega) _ (by rw [show k+1-1-k=0 by omega];rfl) Aa
      | succ i=>
       have:=f2 i oi (by omega) (by simpa using Ca) Aa
       rw [show k+(i+1)=k+1+i by omega];exact this
  ·exact (zag h2).elim
def HLm (S:Nat->Hp) (Q:Nat->Nat) (L:Nat->Bool):Nat->Hf
 | 0=>(S 0).f
 | j+1=>fun id=>if L j && (Q j).testBit id then (S (j+1)).f id else HLm S Q L j id
def TLm (T:Nat->TT) (D:Nat->Option Tmp) (L:Nat->Bool):Nat->Nat->Xl
 | 0=>zaD (T 0)
 | j+1=>fun k=>if L j && decide (D j=some k) then zaD (T (j+1)) k else TLm T D L j k
section
variable {S:Nat->Hp} {Q:Nat->Nat} {T:Nat->TT} {D:Nat->Option Tmp} {L L':Nat->Bool} {n:Nat}
theorem zqn (hs:∀i id,i<n->(Q i).testBit id=false->(S (i+1)).f id=(S i).f id) {id:Nat}:∀m,m<=n->(∀j,j<m->L j=false->(Q j).testBit id=false)->HLm S Q L m id=(S m).f id
 | 0,_,_=>rfl
 | m+1,hm,h=>by
  have ih:=zqn hs m (by omega) fun j hj=>h j (by omega)
  show (if L m && (Q m).testBit id then (S (m+1)).f id else HLm S Q L m id)=_
  cases hq:(Q m).testBit id with
  | true=>
   cases hl:L m with
   | true=>rfl
   | false=>rw [h m (by omega) hl]at hq;cases hq
  | false=>rw [Bool.and_false];simp only [Bool.false_eq_true,if_false];rw [ih,hs m id (by omega) hq]
theorem zjm {id:Nat} {m:Nat}:∀k,(∀j,m<=j->j<m+k->L j=true->(Q j).testBit id=false)->HLm S Q L (m+k) id=HLm S Q L m id
 | 0,_=>rfl
 | k+1,h=>by
  have ih:=zjm k fun j h1 h2=>h j h1 (by omega)
  show (if L (m+k) && (Q (m+k)).testBit id then (S (m+k+1)).f id else HLm S Q L (m+k) id)=_
  rw [if_neg,ih]
  rw [Bool.and_eq_true]
  rintro⟨h1,h2⟩
  rw [h (m+k) (by omega) (by omega) h1]at h2;cases h2
theorem zsq {id i:Nat} (hL:∀j,j≠i->L' j=L j) (hq:(Q i).testBit id=false):∀m,HLm S Q L' m id=HLm S Q L m id
 | 0=>rfl
 | m+1=>by
  have ih:=zsq hL hq m
  show (if L' m && (Q m).testBit id then (S (m+1)).f id else HLm S Q L' m id)=(if L m && (Q m).testBit id then (S (m+1)).f id else HLm S Q L m id)
  rw [ih]
  by_cases e:m=i
  ·subst e;rw [hq];simp
  ·rw [hL m e]
theorem zqu (hs:∀i k,i<n->k<=255->D i≠some k->zaD (T (i+1)) k=zaD (T i) k) {k:Nat} (hk:k<=255):∀m,m<=n->(∀j,j<m->L j=false->D j≠some k)->TLm T D L m k=zaD (T m) k
 | 0,_,_=>rfl
 | m+1,hm,h=>by
  have ih:=zqu hs hk m (by omega) fun j hj=>h j (by omega)
  show (if L m && decide (D m=some k) then zaD (T (m+1)) k else TLm T D L m k)=_
  by_cases hq:D m=some k
  ·cases hl:L m with
   | true=>simp [hq]
   | false=>exact absurd hq (h m (by omega) hl)
  ·rw [if_neg (by simp [hq]),ih,hs m k (by omega) hk hq]
theorem zjf {k:Nat} {m:Nat}:∀j0,(∀j,m<=j->j<m+j0->L j=true->D j≠some k)->TLm T D L (m+j0) k=TLm T D L m k
 | 0,_=>rfl
 | j0+1,h=>by
  have ih:=zjf j0 fun j h1 h2=>h j h1 (by omega)
  show (if L (m+j0) && decide (D (m+j0)=some k) then zaD (T (m+j0+1)) k else TLm T D L (m+j0) k)=_
  rw [if_neg,ih]
  rw [Bool.and_eq_true,decide_eq_true_eq]
  rintro⟨h1,h2⟩
  exact h (m+j0) (by omega) (by omega) h1 h2
theorem zsI {k i:Nat} (hL:∀j,j≠i->L' j=L j) (hq:D i≠some k):∀m,TLm T D L' m k=TLm T D L m k
 | 0=>rfl
 | m+1=>by
  have ih:=zsI hL hq m
  show (if L' m && decide (D m=some k) then zaD (T (m+1)) k else TLm T D L' m k)=(if L m && decide (D m=some k) then zaD (T (m+1)) k else TLm T D L m k)
  rw [ih]
  by_cases e:m=i
  ·subst e;simp [hq]
  ·rw [hL m e]
end
theorem zhv {a b i:Nat} (ha:a.testBit i=true) (hb:b.testBit i=true):Nat.land a b≠0:=fun h=>by
 have:(a &&& b).testBit i=true:=by rw [Nat.testBit_and,ha,hb];rfl
 rw [show a &&& b=Nat.land a b from rfl,h]at this
 simp at this
theorem zek {x y:Trk} {i:Nat} (h:(x.q.testBit i=true∧y.a.testBit i=true)∨(y.q.testBit i=true∧x.a.testBit i=true)∨(x.tw.testBit i=true∧y.ta.testBit i=true)∨(y.tw.testBit i=true∧x.ta.testBit i=true)):zdZ x y=true:=by
 unfold zdZ
 rw [Bool.not_eq_true',zmt,decide_eq_false_iff_not]
 intro he
 have hz:∀{a b:Nat},Nat.lor a b=0->a=0∧b=0:=fun {a b} hab=>by
  have:a ||| b=0:=hab
  exact Nat.or_eq_zero_iff.1 this
 obtain⟨h1,h2⟩:=hz he
 obtain⟨h3,h4⟩:=hz h1
 obtain⟨h5,h6⟩:=hz h2
 rcases h with ⟨a,b⟩ | ⟨a,b⟩ | ⟨a,b⟩ | ⟨a,b⟩
 ·exact zhv a b h3
 ·exact zhv a b h4
 ·exact zhv a b h5
 ·exact zhv a b h6
end Go.Proofs.YtgjolijncmkkhaaGreatDoor
namespace Go.Proofs.YtgjolijncmkkhaaGreatDoor
open Go.RowKit
set_option linter.unusedVariables false
variable {P:Program}
theorem zsE {S:Nat->Hp} {Q:Nat->Nat} {L:Nat->Bool} {id:Nat} (h:8191<id):∀m,HLm S Q L m id=none
 | 0=>if_neg (by omega)
 | m+1=>by
  show (if L m && (Q m).testBit id then (S (m+1)).f id else HLm S Q L m id)=none
  split
  ·exact if_neg (by omega)
  ·exact zsE h m
def Lf (L:Array Bool) (j:Nat):Bool:=L.getD j false
def Cl (ops:Array Oper) (L:Array Bool):Prop:=∀j i,Lf L j=true->((Region.before ops).getD j 0).testBit i=true->Lf L i=true
theorem zxu (hm:P.follows .mixedOrders=true) {E:zas} (hE:zbg E) (hC:zcF P E) {ops:Array Oper} {N idr:Nat} {t t':TT} {a:Act} {w0 w:Xk} {B:Nat} {ρ0:Rn} {s s':Hp} (hed:zsO ops=true) (ha:ActR ρ0 N t [] a)
  (ht:Tells (zfR P E N ops [] ops.toList (Region.before ops).toList 0 [] t) s t' s') (H:HR w0 B ρ0 s.f w) (hfr:Free ρ0 s.n s'.n) {Q:Exit->Act->Xk->Prop} (hk:∀a' w',zfe w0 B ρ0 s s' N t' [] a' w'->Q .normal a' w') :
  (Code.region idr ops true).wp P Q a w:=by
 obtain⟨S,T,R,Qf,e1,e2,e3,e4,e5,e6⟩:=zkV hE _ _ _ _ _ _ _ _ ht rfl
 have za:∀(i:Nat) o,ops[i]? = some o->Tells (mtrk (opK P E N ops o (T i,[]))) (S i) ((T (i+1),[]),R i,Qf i) (S (i+1)):=fun i o ho=>e5 i o (by simpa using ho)
 have Ga:∀i,i<ops.size->∃o,ops[i]? = some o:=fun i hi=>⟨_,Array.getElem?_eq_getElem hi⟩
 have va:∀{i:Nat} {o:Oper},ops[i]? = some o->i<ops.size:=fun {i o} ho=>by
  rcases Nat.lt_or_ge i ops.size with h | h
  ·exact h
  ·rw [Array.getElem?_eq_none h]at ho;cases ho
 have ca:ops.toList.length=ops.size:=Array.length_toList
 rw [ca]at e3 e4
 have Da:∀(i:Nat) o,ops[i]? = some o->_:=fun i o ho=>zwU (zfr P hE N ops o _) (za i o ho)
 have ta:∀i,i<ops.size->(S i).n<=(S (i+1)).n:=fun i hi=>let ⟨o,ho⟩:=Ga i hi;(Da i o ho).1
 have Qa:∀k i,i+k<=ops.size->(S i).n<=(S (i+k)).n:=by
  intro k
  induction k with
  | zero=>exact fun i _=>Nat.le_refl _
  | succ k ih=>exact fun i h=>Nat.le_trans (ih i (by omega)) (ta (i+k) (by omega))
 have Ca:∀i j,i<=j->j<=ops.size->(S i).n<=(S j).n:=fun i j Xa hj=>by
  have:=Qa (j-i) i (by omega)
  rwa [show i+(j-i)=j by omega]at this
 have ra:∀i id,i<ops.size->(Qf i).testBit id=false->(S (i+1)).f id=(S i).f id:=fun i id hi h=>let ⟨o,ho⟩:=Ga i hi;(Da i o ho).2.1 id h
 obtain⟨D,hD⟩:∃D:Nat->Option Tmp,D=fun i=>(ops[i]?).bind (·.dst):=⟨_,rfl⟩
 have La:∀{i:Nat} {o:Oper},ops[i]? = some o->D i=o.dst:=fun {i o} ho=>by rw [hD];simp only [ho];rfl
 have Na:∀(i:Nat) o,ops[i]? = some o->∃g',Tells (opK P E N ops o (T i,[])) (S i) (T (i+1),[]) g':=fun i o ho=>by
  obtain⟨g',h1,_⟩:=(Da i o ho).2.2.2 (S i) rfl fun _ _=>rfl
  exact⟨g',h1⟩
 have qa:∀i k,i<ops.size->k<=255->D i≠some k->zaD (T (i+1)) k=zaD (T i) k:=by
  intro i k hi hk hd
  obtain⟨o,ho⟩:=Ga i hi
  obtain⟨g',h1⟩:=Na i o ho
  obtain⟨t2,_,hc⟩:=zns hE (fun _ _ _=>rfl) h1
  rcases hc with ⟨_,h2,_⟩ | ⟨d,v,h2,h3,h4,_⟩
  ·rw [h2]
  ·rw [h4,zdG _ d k _ (Nat.le_of_lt_succ (Nat.lt_of_lt_of_le h3 ha.le)) hk,if_neg]
   intro e;subst e
   exact hd ((La ho).trans h2)
 have la:=zwF ops
 have sa:∀(i j:Nat) oi oj,i<j->ops[i]? = some oi->ops[j]? = some oj->zdZ (trk ops R Qf i oi) (trk ops R Qf j oj)=true->((Region.before ops).getD j 0).testBit i=true:=by
  intro i j oi oj Xa Bb Ba hc
  have:=(e6 j oj (by simpa using Ba)).2 i oi Xa (by simpa using Bb) hc
  rw [Nat.zero_add]at this
  rw [<-this]
  congr 1
  rw [Array.getD_eq_getD_getElem?,List.getD_eq_getElem?_getD,Array.getElem?_toList]
 have ka:∀{j i:Nat},((Region.before ops).getD j 0).testBit i=true->j<(Region.before ops).size:=fun {j i} h=>by
  rcases Nat.lt_or_ge j (Region.before ops).size with h' | h'
  ·exact h'
  ·rw [Array.getD_eq_getD_getElem?,Array.getElem?_eq_none h']at h;simp at h
 refine zea hm (fun L a w=>L.size=ops.size∧Cl ops L∧∃ρ,HR w0 B ρ (HLm S Qf (Lf L) ops.size) w∧ρ0.le ρ∧(∀id,ρ id=ρ0 id∨∃i,i<ops.size∧Lf L i=true∧(S i).n<=id∧id<(S (i+1)).n)∧
  a.tmps.size=N∧(∀k,k<=255->VL ρ (TLm T D (Lf L) ops.size k) (a.tmps.getD k undef))∧a.defers=[]) (fun L a w h=>h.1) ?_ ?_ ?_
 ·
  have fa:∀j,Lf (Array.replicate ops.size false) j=false:=fun j=>by
   show (Array.replicate ops.size false).getD j false=false
   rw [Array.getD_eq_getD_getElem?,Array.getElem?_replicate]
   split<;>rfl
  refine⟨by simp,(fun j i hj=>by rw [fa]at hj;cases hj),ρ0,?_,.rfl,fun id=>.inl rfl,ha.size,fun k hk=> ?_,?_⟩
  ·refine (H.drew _).congr fun id=> ?_
   have:=zjm (S:=S) (Q:=Qf) (L:=Lf (Array.replicate ops.size false)) (id:=id) (m:=0) ops.size fun j _ _ hj=>by rw [fa]at hj;cases hj
   rw [Nat.zero_add]at this
   rw [this]
   show (S 0).f id=s.f id
   rw [e1]
  ·have:=zjf (T:=T) (D:=D) (L:=Lf (Array.replicate ops.size false)) (k:=k) (m:=0) ops.size fun j _ _ hj=>by rw [fa]at hj;cases hj
   rw [Nat.zero_add]at this
   rw [this]
   show VL ρ0 (zaD (T 0) k) _
   rw [e2];exact ha.tm k hk
  ·exact ha.df
 ·
  rintro L a1 w1 i o ⟨Ya,Za,ρ,H1,na,Fa,ea,ga,ja⟩ hr ho
  have hi:=va ho
  have Pa:Lf L i=false:=by
   have:=zao Ya hr
   show L.getD i false=false
   rw [Array.getD_eq_getD_getElem?,<-Array.getElem?_toList,this];rfl
  have Ta:∀j,((Region.before ops).getD i 0).testBit j=true->Lf L j=true:=by
   intro j hj
   obtain⟨o',e,h1,h2,h3,h4⟩:=la i (ka hj) j hj
   rw [ho]at h1;cases h1
   have oa:Lf L e.on=true:=zai hr ho e.on (by
    rw [Array.any_eq_true']
    exact⟨e,Array.mem_toList_iff.1 h2,by simp [h3]⟩)
   rcases h4 with h4 | ⟨_,h4⟩
   ·rw [h4];exact oa
   ·exact Za e.on j oa h4
  have Ka:∀j oj,ops[j]? = some oj->j<i->Lf L j=false->zdZ (trk ops R Qf j oj) (trk ops R Qf i o)=false:=fun j oj Ba ba hj=>by
   cases hc:zdZ (trk ops R Qf j oj) (trk ops R Qf i o)with
   | false=>rfl
   | true=>rw [Ta j (sa j i oj o ba Ba ho hc)]at hj;cases hj
  have Ha:∀j oj,ops[j]? = some oj->i<j->Lf L j=true->zdZ (trk ops R Qf i o) (trk ops R Qf j oj)=false:=fun j oj Ba Xa hj=>by
   cases hc:zdZ (trk ops R Qf i o) (trk ops R Qf j oj)with
   | false=>rfl
   | true=>rw [Za j i hj (sa i j o oj Xa ho Ba hc)]at Pa;cases Pa
  have Aa:∀m,m<=ops.size->m+(ops.size-m)=ops.size:=fun m hm=>by omega
  have Ab:∀{x y:Nat},(Nat.lor x y)=x ||| y:=fun {x y}=>rfl
  have hA:∀id,(R i ||| Qf i).testBit id=true->HLm S Qf (Lf L) ops.size id=(S i).f id:=by
   intro id Wa
   have h1:HLm S Qf (Lf L) i id=(S i).f id:=zqn ra i (by omega) fun j hj hl=>by
    obtain⟨oj,Ba⟩:=Ga j (by omega)
    cases hq:(Qf j).testBit id with
    | false=>rfl
    | true=>
     have:=Ka j oj Ba hj hl
     rw [zek (x:=trk ops R Qf j oj) (y:=trk ops R Qf i o) (i:=id) (.inl ⟨hq,Wa⟩)]at this;cases this
   have h2:=zjm (S:=S) (Q:=Qf) (L:=Lf L) (id:=id) (m:=i) (ops.size-i) fun j h1 h2 hl=>by
    have aa:j≠i:=fun e=>by subst e;rw [Pa]at hl;cases hl
    obtain⟨oj,Ba⟩:=Ga j (by omega)
    cases hq:(Qf j).testBit id with
    | false=>rfl
    | true=>
     have:=Ha j oj Ba (by omega) hl
     rw [zek (x:=trk ops R Qf i o) (y:=trk ops R Qf j oj) (i:=id) (.inr (.inl ⟨hq,Wa⟩))]at this;cases this
   rw [Aa i (by omega)]at h2
   rw [h2,h1]
  have Ma:∀{x:Option Tmp} {k:Nat},x=some k->(zdt x).testBit k=true:=fun {x k} hx=>by rw [hx];exact zet k
  have hT:∀k,k<=255->Nm ops o k->TLm T D (Lf L) ops.size k=zaD (T i) k:=by
   intro k hk Va
   have h1:TLm T D (Lf L) i k=zaD (T i) k:=zqu qa hk i (by omega) fun j hj hl hd=>by
    obtain⟨oj,Ba⟩:=Ga j (by omega)
    have:=Ka j oj Ba hj hl
    rw [zek (x:=trk ops R Qf j oj) (y:=trk ops R Qf i o) (i:=k) (.inr (.inr (.inl ⟨Ma ((La Ba).symm.trans hd),Va⟩)))]at this;cases this
   have h2:=zjf (T:=T) (D:=D) (L:=Lf L) (k:=k) (m:=i) (ops.size-i) fun j h1 h2 hl hd=>by
    have aa:j≠i:=fun e=>by subst e;rw [Pa]at hl;cases hl
    obtain⟨oj,Ba⟩:=Ga j (by omega)
    have:=Ha j oj Ba (by omega) hl
    rw [zek (x:=trk ops R Qf i o) (y:=trk ops R Qf j oj) (i:=k) (.inr (.inr (.inr ⟨Ma ((La Ba).symm.trans hd),Va⟩)))]at this;cases this
   rw [Aa i (by omega)]at h2
   rw [h2,h1]
  obtain⟨g,ia,da,_,_⟩:=zCh (HLm S Qf (Lf L) ops.size) (S i).n fun id h=>zsE h _
  obtain⟨tL,Ua⟩:=zCk (TLm T D (Lf L) ops.size)
  obtain⟨g',k1,k2,k3,k4⟩:=(Da i o ho).2.2.2 g da fun id h=>by rw [ia];exact hA id h
  obtain⟨ua,k5,k6⟩:=zns hE (t2:=tL) (fun k hk Va=>by rw [Ua k hk];exact hT k hk Va) k1
  have ya:ActR ρ N tL [] a1:=⟨ea,ha.le,fun k hk=>by rw [Ua k hk];exact ga k hk,ja⟩
  have Sa:Free ρ g.n g'.n:=by
   intro id h1 h2
   rw [da]at h1
   rw [k2]at h2
   rcases Fa id with h | ⟨j,hj,hlj,h3,h4⟩
   ·rw [h]
    refine hfr id ?_ ?_
    ·rw [<-e1];exact Nat.le_trans (Ca 0 i (by omega) (by omega)) h1
    ·rw [<-e3];exact Nat.lt_of_lt_of_le h2 (Ca (i+1) ops.size (by omega) (by omega))
   ·exfalso
    have aa:j≠i:=fun e=>by subst e;rw [Pa]at hlj;cases hlj
    rcases Nat.lt_or_gt_of_ne aa with ba | ba
    ·have:=Ca (j+1) i (by omega) (by omega);omega
    ·have:=Ca (i+1) j (by omega) (by omega);omega
  refine zsy hE hC ya k5 (by rw [ia];exact H1) Sa Q fun a2 w2 wa=> ?_
  obtain⟨ρ2,H2,pa,ma⟩:=wa
  have Oa:∀j,Lf (L.setIfInBounds i true) j=if j=i then true else Lf L j:=fun j=>by
   show (L.setIfInBounds i true).getD j false=if j=i then true else L.getD j false
   rw [Array.getD_eq_getD_getElem?,Array.getD_eq_getD_getElem?,Array.getElem?_setIfInBounds]
   by_cases e:i=j
   ·subst e;rw [if_pos rfl,if_pos rfl,if_pos (by omega)];rfl
   ·rw [if_neg e,if_neg (fun h=>e h.symm)]
  have Ia:∀j,j≠i->Lf (L.setIfInBounds i true) j=Lf L j:=fun j hj=>by rw [Oa,if_neg hj]
  refine⟨by simp [Ya],fun j i' hj hb=> ?_,ρ2,?_,na.trans pa.le,fun id=> ?_,ma.size,fun k hk=> ?_,ma.df⟩
  ·rw [Oa]at hj ⊢
   by_cases e:i'=i
   ·rw [if_pos e]
   ·rw [if_neg e]
    by_cases e2:j=i
    ·subst e2;exact Ta i' hb
    ·rw [if_neg e2]at hj;exact Za j i' hj hb
  ·refine H2.congr fun id=> ?_
   cases hq:(Qf i).testBit id with
   | false=>rw [zsq Ia hq,k4 id hq,ia]
   | true=>
    rw [k3 id hq]
    have h1:HLm S Qf (Lf (L.setIfInBounds i true)) (i+1) id=(S (i+1)).f id:=by
     show (if Lf (L.setIfInBounds i true) i && (Qf i).testBit id then _ else _)=_
     rw [Oa,if_pos rfl,hq];rfl
    have h2:=zjm (S:=S) (Q:=Qf) (L:=Lf (L.setIfInBounds i true)) (id:=id) (m:=i+1) (ops.size-(i+1)) fun j h1 h2 hl=>by
     rw [Ia j (by omega)]at hl
     obtain⟨oj,Ba⟩:=Ga j (by omega)
     cases hq2:(Qf j).testBit id with
     | false=>rfl
     | true=>
      have:=Ha j oj Ba (by omega) hl
      rw [zek (x:=trk ops R Qf i o) (y:=trk ops R Qf j oj) (i:=id) (.inl ⟨hq,by show (R j ||| Qf j).testBit id=true;rw [Nat.testBit_or,hq2];simp⟩)]at this;cases this
    rw [Aa (i+1) (by omega)]at h2
    rw [h2,h1]
  ·by_cases hin:g.n<=id∧id<g'.n
   ·exact .inr ⟨i,hi,by rw [Oa,if_pos rfl],by rw [<-da];exact hin.1,by rw [<-k2];exact hin.2⟩
   ·rw [pa.out id hin]
    rcases Fa id with h | ⟨j,h1,h2,h3⟩
    ·exact .inl h
    ·refine .inr ⟨j,h1,?_,h3⟩
     rw [Oa];split
     ·rfl
     ·exact h2
  ·have hv:=ma.tm k hk
   have Ra:TLm T D (Lf (L.setIfInBounds i true)) ops.size k=zaD ua k:=by
    by_cases hd:D i=some k
    ·have h1:TLm T D (Lf (L.setIfInBounds i true)) (i+1) k=zaD (T (i+1)) k:=by
      show (if Lf (L.setIfInBounds i true) i && decide (D i=some k) then _ else _)=_
      rw [Oa,if_pos rfl];simp [hd]
     have h2:=zjf (T:=T) (D:=D) (L:=Lf (L.setIfInBounds i true)) (k:=k) (m:=i+1) (ops.size-(i+1)) fun j h1 h2 hl xa=>by
      rw [Ia j (by omega)]at hl
      obtain⟨oj,Ba⟩:=Ga j (by omega)
      have:=Ha j oj Ba (by omega) hl
      rw [zek (x:=trk ops R Qf i o) (y:=trk ops R Qf j oj) (i:=k) (.inr (.inr (.inl ⟨Ma ((La ho).symm.trans hd),zBG ((La Ba).symm.trans xa)⟩)))]at this;cases this
     rw [Aa (i+1) (by omega)]at h2
     rw [h2,h1]
     rcases k6 with ⟨f1,_,_⟩ | ⟨d,v,f1,f2,f3,f4⟩
     ·rw [La ho,f1]at hd;cases hd
     ·have:d=k:=by rw [La ho,f1]at hd;exact Option.some.inj hd
      subst this
      rw [f3,f4,zdG _ d d _ hk hk,zdG _ d d _ hk hk]
      simp
    ·rw [zsI Ia hd]
     rcases k6 with ⟨_,_,f3⟩ | ⟨d,v,f1,f2,_,f4⟩
     ·rw [f3,Ua k hk]
     ·rw [f4,zdG _ d k _ (Nat.le_of_lt_succ (Nat.lt_of_lt_of_le f2 ha.le)) hk,if_neg,Ua k hk]
      intro e;subst e
      exact hd ((La ho).trans f1)
   rw [Ra];exact hv
 ·
  rintro L a1 w1 ⟨Ya,Za,ρ,H1,na,Fa,ea,ga,ja⟩ hr
  have Ja:∀j,j<ops.size->Lf L j=true:=fun j hj=>zcm Ya hed hr (j+1) j (by omega) hj
  refine hk a1 w1 ⟨ρ,?_,⟨na,fun id Wa=> ?_⟩,ea,ha.le,fun k hk=> ?_,ja⟩
  ·refine H1.congr fun id=> ?_
   rw [zqn ra ops.size (Nat.le_refl _) (fun j hj hl=>by rw [Ja j hj]at hl;cases hl),e3]
  ·rcases Fa id with h | ⟨j,h1,h2,h3,h4⟩
   ·exact h
   ·exfalso
    refine Wa ⟨?_,?_⟩
    ·rw [<-e1];exact Nat.le_trans (Ca 0 j (by omega) (by omega)) h3
    ·rw [<-e3];exact Nat.lt_of_lt_of_le h4 (Ca (j+1) ops.size (by omega) (by omega))
  ·have:=ga k hk
   rw [zqu qa hk ops.size (Nat.le_refl _) (fun j hj hl=>by rw [Ja j hj]at hl;cases hl),e4]at this
   exact this
end Go.Proofs.YtgjolijncmkkhaaGreatDoor
namespace Go.Proofs.YtgjolijncmkkhaaGreatDoor
open Go.RowKit
set_option linter.unusedVariables false
variable {P:Program}
def zis (P:Program) (Ev:EvT):Prop:=∀(c:Code) (N:Nat) (t:TT) (ds:List Deferred) (s s':Hp) (e:Exit) (t':TT) (ds':List Deferred),Tells (Ev c N (t,ds)) s (e,t',ds') s'->
 ∀(w0:Xk) (B:Nat) (ρ:Rn) (w:Xk) (a:Act) (Q:Exit->Act->Xk->Prop),ActR ρ N t ds a->HR w0 B ρ s.f w->Free ρ s.n s'.n->(∀a' w',zfe w0 B ρ s s' N t' ds' a' w'->Q e a' w')->c.wp P Q a w
theorem znw {ρ:Rn} {N:Nat} {t:TT} {ds:List Deferred} {a:Act} (ha:ActR ρ N t ds a) (hg:Glo' ρ) {c:Operand} {b:Bool} (h:aev t c=some (.bool b)):a.eval c=.bool b:=VL.bool.1 (zwt ha hg c _ h)
theorem zjZ {w0:Xk} {B:Nat} {ρ ρ1:Rn} {s s1 s':Hp} {N:Nat} {t':TT} {ds':List Deferred} {a':Act} {w':Xk} (hE:Ext ρ ρ1 s.n s1.n) (h1:s.n<=s1.n) (h2:s1.n<=s'.n) (h:zfe w0 B ρ1 s1 s' N t' ds' a' w'):zfe w0 B ρ s s' N t' ds' a' w':=by
 obtain⟨ρ',H',Aa,Ba⟩:=h
 exact⟨ρ',H',hE.trans Aa h1 h2,Ba⟩
theorem zwD (hm:P.follows .mixedOrders=true) {Ev:EvT} {E:zas} (hv:∀c N a,Good (Ev c N a)) (hE:zbg E) (hC:zcF P E) (hok:zis P Ev)
  (hloop:∀c,∀(N:Nat) (t:TT) (ds:List Deferred) (s s':Hp) (e:Exit) (t':TT) (ds':List Deferred),Tells (zaj (Ev c N (t,ds)) (zdS Ev (.loop c) N)) s (e,t',ds') s'->
   ∀(w0:Xk) (B:Nat) (ρ:Rn) (w:Xk) (a:Act) (Q:Exit->Act->Xk->Prop),ActR ρ N t ds a->HR w0 B ρ s.f w->Free ρ s.n s'.n->(∀a' w',zfe w0 B ρ s s' N t' ds' a' w'->Q e a' w')->(Code.loop c).wp P Q a w):zis P (zqI P Ev E):=by
 intro c N t ds s s' e t' ds' ht w0 B ρ w a Q ha H Ba hQ
 have Aa:Tells ((stpV P c).f Ev E N (t,ds)) s (e,t',ds') s':=ht
 unfold stpV at Aa
 have Sa:(e=.normal∧t'=t∧ds'=ds∧s'=s)->Q .normal a w:=by
  rintro⟨rfl,rfl,rfl,rfl⟩
  exact hQ _ _ ⟨ρ,H,.rfl,ha⟩
 split at Aa
 ·obtain⟨h1,rfl⟩:=zad Aa
  cases h1
  exact wp_skip (hQ _ _ ⟨ρ,H,.rfl,ha⟩)
 ·obtain⟨h1,rfl⟩:=zad Aa
  cases h1
  exact wp_label (hQ _ _ ⟨ρ,H,.rfl,ha⟩)
 ·rename_i id La
  obtain⟨x,s1,k1,k2,_⟩:=zac (zgf P hE _ _ _ _) Aa
  obtain⟨h1,rfl⟩:=zad k2
  cases h1
  refine wp_region ?_
  have:=zql hE hC La.toList 0 t ds a w ρ s (fun j o hj=>by simpa using hj) ha k1 H Ba hQ
  rw [Array.length_toList,<-List.range_eq_range']at this
  exact this
 ·rename_i id La
  have Ca:Tells (ziL P E La N (t,ds)) s (e,t',ds') s':=Aa
  unfold ziL at Ca
  split at Ca
  ·rename_i t0 Ra Ja
   cases Ja
   obtain⟨x,s1,k1,k2,_⟩:=zac (zhp P hE _ _ _ _ _ _ _ _) Ca
   obtain⟨h1,rfl⟩:=zad k2
   cases h1
   exact zxu hm hE hC Ra ha k1 H Ba hQ
  ·exact (zag Ca).elim
 ·rename_i x y
  obtain⟨z,s1,k1,k2,Ha⟩:=zac (hv _ _ _) Aa
  obtain⟨e1,t1,Ga⟩:=z
  have Qa:Good (zdS Ev y N (e1,t1,Ga)):=by
   unfold zdS
   split
   ·exact hv _ _ _
   ·exact zaf _
  have Na:=k2.le Qa
  refine wp_seq ?_
  refine hok x N t ds s s1 e1 t1 Ga k1 w0 B ρ w a _ ha H (Ba.left Na) fun a1 w1 hA=> ?_
  obtain⟨ρ1,H1,Ma,Oa⟩:=id hA
  cases e1 with
  | normal=>exact hok y N t1 Ga s1 s' e t' ds' k2 w0 B ρ1 w1 a1 Q Oa H1 (Ba.right Ha Ma) fun a2 w2 Pa=>hQ _ _ (zjZ Ma Ha Na Pa)
  | _=>
   obtain⟨h1,rfl⟩:=zad k2
   cases h1
   exact hQ _ _ hA
 ·rename_i c x y
  have Ca:Tells (ziA Ev c x y N (t,ds)) s (e,t',ds') s':=Aa
  unfold ziA at Ca
  split at Ca
  ·rename_i hc
   exact wp_cond_true (znw ha H.glo hc) (hok x N t ds s s' e t' ds' Ca w0 B ρ w a Q ha H Ba hQ)
  ·rename_i hc
   exact wp_cond_false (znw ha H.glo hc) (hok y N t ds s s' e t' ds' Ca w0 B ρ w a Q ha H Ba hQ)
  ·exact (zag Ca).elim
 ·rename_i Ka c
  obtain⟨z,s1,k1,k2,Ha⟩:=zac (hv _ _ _) Aa
  obtain⟨e1,t1,Ga⟩:=z
  refine wp_block ?_
  unfold zmG at k2
  split at k2
  ·rename_i Fa x Ja
   cases Ja
   split at k2
   ·rename_i Da
    have Da:=Nat.eq_of_beq_eq_true Da
    obtain⟨h1,rfl⟩:=zad k2
    cases h1
    refine hok c N t ds s _ _ t' ds' k1 w0 B ρ w a _ ha H Ba fun a1 w1 hA=> ?_
    show (if Fa=Ka then Q .normal a1 w1 else Q (.exit Fa) a1 w1)
    rw [if_pos Da];exact hQ _ _ hA
   ·rename_i Da
    have Da:¬ Fa=Ka:=fun h=>by subst h;rw [Nat.beq_refl]at Da;cases Da
    obtain⟨h1,rfl⟩:=zad k2
    cases h1
    refine hok c N t ds s _ _ t' ds' k1 w0 B ρ w a _ ha H Ba fun a1 w1 hA=> ?_
    show (if Fa=Ka then Q .normal a1 w1 else Q (.exit Fa) a1 w1)
    rw [if_neg Da];exact hQ _ _ hA
  ·rename_i Ia
   obtain⟨h1,rfl⟩:=zad k2
   cases h1
   refine hok c N t ds s _ _ t' ds' k1 w0 B ρ w a _ ha H Ba fun a1 w1 hA=> ?_
   cases e with
   | exit Fa=>exact (Ia Fa (t',ds') rfl).elim
   | _=>exact hQ _ _ hA
 ·rename_i c
  exact hloop c N t ds s s' e t' ds' Aa w0 B ρ w a Q ha H Ba hQ
 ·rename_i c
  obtain⟨z,s1,k1,k2,Ha⟩:=zac (hv _ _ _) Aa
  obtain⟨e1,t1,Ga⟩:=z
  refine wp_scope_straight ?_
  unfold zmQ at k2
  split at k2
  ·exact (zag k2).elim
  ·rename_i Ia
   obtain⟨h1,rfl⟩:=zad k2
   cases h1
   refine hok c N t ds s _ _ t' ds' k1 w0 B ρ w a _ ha H Ba fun a1 w1 hA=> ?_
   cases e with
   | goto l=>exact (Ia l (t',ds') rfl).elim
   | _=>exact hQ _ _ hA
 ·obtain⟨h1,rfl⟩:=zad Aa
  cases h1
  exact wp_exit (hQ _ _ ⟨ρ,H,.rfl,ha⟩)
 ·obtain⟨h1,rfl⟩:=zad Aa
  cases h1
  exact wp_ret (hQ _ _ ⟨ρ,H,.rfl,ha⟩)
 ·exact (zag Aa).elim
theorem zoO {t:Xm} {a:Addr} {v:Xl} {w w':Xk} (h:(loadVar t a).run P w=.ok v w'):w'=w:=by
 unfold loadVar at h
 rw [Sem.run_bind]at h
 have Aa:∀r,(isAgg t).run P w=r->(∃b,r=.ok b w)∨∃e,r=.halt e w:=by
  intro r hr
  unfold isAgg underlying at hr
  simp only [Sem.run_bind,run_program,Result.andThen]at hr
  split at hr
  ·rename_i x wx hx
   split at hx
   ·cases hx
    split at hr<;>exact .inl ⟨_,hr.symm⟩
   ·cases hx
  ·rename_i x wx hx
   split at hx
   ·cases hx
   ·cases hx;exact .inr ⟨_,hr.symm⟩
 have Ba:∀r,(Go.sizeOf t).run P w=r->(∃b,r=.ok b w)∨∃e,r=.halt e w:=by
  intro r hr
  unfold Go.sizeOf typeInfo at hr
  simp only [Sem.run_bind,run_program,Result.andThen]at hr
  split at hr
  ·rename_i x wx hx
   split at hx
   ·cases hx;exact .inl ⟨_,hr.symm⟩
   ·cases hx
  ·rename_i x wx hx
   split at hx
   ·cases hx
   ·cases hx;exact .inr ⟨_,hr.symm⟩
 rcases Aa _ rfl with ⟨b,hb⟩ | ⟨e,he⟩
 ·rw [hb]at h
  simp only [Result.andThen]at h
  cases b with
  | true=>
   simp only [if_true,Sem.run_bind]at h
   rcases Ba _ rfl with ⟨n,hn⟩ | ⟨e,he⟩
   ·rw [hn]at h
    simp only [Result.andThen]at h
    cases hl:(loadCells a n).run P w with
    | ok arr w2=>
     rw [hl]at h
     simp only [Sem.run_pure,Result.ok.injEq]at h
     have:=zhC n 0 a #[] arr w w2 hl
     rw [<-h.2,this]
    | halt e w2=>rw [hl]at h;cases h
   ·rw [he]at h;cases h
  | false=>
   simp only [Bool.false_eq_true,if_false]at h
   rw [run_load]at h
   split at h
   ·cases h;rfl
   ·split at h
    ·cases h;rfl
    ·cases h
 ·rw [he]at h;cases h
def resF (tmps:Array Xl):ResultVar->Sem Xl
 | .tmp t=>Pure.pure (tmps.getD t undef)
 | .cell a t=>do loadVar t (<-asAddr (tmps.getD a undef))
theorem zmY {ρ:Rn} {N:Nat} {t:TT} {ds:List Deferred} {a:Act} {w0 w:Xk} {B:Nat} (ha:ActR ρ N t ds a):∀(l:List ResultVar) (s s':Hp) (vs:Xj),Tells (resK P t l) s vs s'->HR w0 B ρ s.f w->
  s'.f=s.f∧s'.n=s.n∧∃vs',(l.mapM (resF a.tmps)).run P w=.ok vs' w∧LR (VL ρ) vs vs'
 | [],s,s',vs,ht,H=>by
  obtain⟨rfl,rfl⟩:=zad ht
  exact⟨rfl,rfl,[],rfl,rfl⟩
 | .tmp k::l,s,s',vs,ht,H=>by
  unfold resK at ht
  split at ht
  ·rename_i hk
   obtain⟨us,s1,k1,k2,_⟩:=zac (zaZ P t l) ht
   obtain⟨rfl,rfl⟩:=zad k2
   obtain⟨f1,f2,Aa,f3,f4⟩:=zmY ha l s _ us k1 H
   refine⟨f1,f2,a.tmps.getD k undef::Aa,?_,_,Aa,rfl,ha.tm k (Nat.le_of_ble_eq_true hk),f4⟩
   simp only [List.mapM_cons,Sem.run_bind,resF,Sem.run_pure,Result.andThen,f3]
  ·exact (zag ht).elim
 | .cell k ty::l,s,s',vs,ht,H=>by
  unfold resK at ht
  split at ht
  ·rename_i x hk hx
   obtain⟨v,s1,k1,k2,Fa⟩:=zac (zhG _ _ _) ht
   obtain⟨us,s2,k3,k4,_⟩:=zac (zaZ P t l) k2
   obtain⟨rfl,rfl⟩:=zad k4
   have hr:=ha.tm k (Nat.le_of_ble_eq_true hk)
   rw [hx]at hr
   obtain⟨_,p,hp,e1⟩:=VL.ptr.1 hr
   have Ca:s1.f=s.f∧s1.n=s.n:=by
    cases hg:zge P ty with
    | none=>rw [hg]at k1;cases hz:szOf P ty<;>(rw [hz]at k1;exact (zag k1).elim)
    | some b=>
     cases hz:szOf P ty with
     | none=>rw [hg,hz]at k1;cases b<;>exact (zag k1).elim
     | some n=>
      rw [hg,hz]at k1
      cases b with
      | true=>
       obtain⟨xs,s3,j1,j2,_⟩:=zac (zan _ _) k1
       obtain⟨_,rfl⟩:=zad j2
       obtain⟨_,_,_,_,_,_,_,_,_,g1,g2⟩:=zaY j1
       exact⟨g1,g2⟩
      | false=>
       obtain⟨xs,s3,j1,j2,_⟩:=zac (zan _ _) k1
       obtain⟨_,rfl⟩:=zcn j2
       obtain⟨_,_,_,_,_,_,_,_,_,g1,g2⟩:=zaY j1
       exact⟨g1,g2⟩
   obtain⟨v',w',ρ',Ba,H',hE,hv⟩:=zoG (P:=P) ty (e1 ▸ hr) w0 B s s1 v ρ w .rfl k1 H (fun id h1 h2=>by omega)
   have hρ:ρ'=ρ:=by funext id;exact hE.out id (by omega)
   subst hρ
   have hw:w'=w:=zoO Ba
   subst hw
   obtain⟨f1,f2,Aa,f3,f4⟩:=zmY ha l s1 _ us k3 (by rw [Ca.1];exact H)
   refine⟨f1.trans Ca.1,f2.trans Ca.2,v'::Aa,?_,v',Aa,rfl,hv,f4⟩
   have Da:∀w,(asAddr (a.tmps.getD k undef)).run P w=.ok ⟨p.blk,p.off+x.off,none⟩ w:=fun w=>by rw [e1];rfl
   simp only [List.mapM_cons,Sem.run_bind,resF,Da,Result.andThen,Ba,f3,Sem.run_pure]
  ·exact (zag ht).elim
theorem zjQ {ρ:Rn} {N:Nat} {t:TT} {ds:List Deferred} {a:Act} {w0 w:Xk} {B:Nat} (ha:ActR ρ N t ds a) {fn:Func} {s s':Hp} {vs:Xj} (ht:Tells (resK P t fn.results.toList) s vs s') (H:HR w0 B ρ s.f w) :
  s'.f=s.f∧s'.n=s.n∧∃v',(results fn a.tmps).run P w=.ok v' w∧VL ρ (tupK vs) v':=by
 obtain⟨f1,f2,Aa,f3,f4⟩:=zmY ha _ s s' vs ht H
 refine⟨f1,f2,?_⟩
 have Ca:(fn.results.mapM (resF a.tmps)).run P w=.ok ⟨Aa⟩ w:=by
  rw [Array.mapM_eq_mapM_toList,Sem.run_map,f3];rfl
 have Ba:(results fn a.tmps).run P w=.ok (if h:(⟨Aa⟩:Array Xl).size=1 then (⟨Aa⟩:Array Xl)[0] else .tuple ⟨Aa⟩) w:=by
  have:results fn a.tmps=(do let vs <-fn.results.mapM (resF a.tmps);Pure.pure (if h:vs.size=1 then vs[0] else .tuple vs)):=rfl
  rw [this,Sem.run_bind,Ca]
  rfl
 refine⟨_,Ba,?_⟩
 match vs,Aa,f4 with
 | [],_,e=>subst e;exact VL.tuple.2 ⟨[],rfl,rfl⟩
 | [v],_,⟨v',tl,e,hv,htl⟩=>
  have:tl=[]:=htl
  subst this
  subst e
  exact hv
 | v::u::l,_,⟨v',tl,e,hv,u',tl2,e2,hu,htl⟩=>
  subst e2
  subst e
  rw [dif_neg (by simp)]
  exact VL.tuple.2 ⟨_,rfl,v',_,rfl,hv,u',tl2,rfl,hu,htl⟩
end Go.Proofs.YtgjolijncmkkhaaGreatDoor
namespace Go.Proofs.YtgjolijncmkkhaaGreatDoor
open Go.RowKit
set_option linter.unusedVariables false
variable {P:Program}
def NoGo (P:Program):Prop:=∀(f:Nat) (fn:Func),P.funcs[f]? = some fn->fn.name≠ "runtime.NumGoroutine"
def zbs (P:Program) (X:Hook):Prop:=∀f vs F,X f vs=some F->∀(s s':Hp) (v:Xl),F s=some (v,s')->∀(w0:Xk) (B:Nat) (ρ:Rn) (w:Xk) (vs':Xj),HR w0 B ρ s.f w->LR (VL ρ) vs vs'->Free ρ s.n s'.n->
 Went P ((callFunc f ⟨vs'⟩).run P w) (Post w0 B ρ s s' v)
def zjz (P:Program) (g:FuncId) (vs:Xj) (F:Hp->Option (Xl×Hp)):Prop:=∀(s s':Hp) (v:Xl),F s=some (v,s')->∀(w0:Xk) (B:Nat) (ρ:Rn) (w:Xk) (vs':Xj),HR w0 B ρ s.f w->LR (VL ρ) vs vs'->Free ρ s.n s'.n->
 (callFunc g ⟨vs'⟩).run P w=.ok (.enter g ⟨vs'⟩) w∧CallsD P g ⟨vs'⟩ .returning w fun e u' w'=>u'=.returning∧(∃v',e=.returned v')∧∃ρ',HR w0 B ρ' s'.f w'∧Ext ρ ρ' s.n s'.n
def zgJ (P:Program) (D:Hook):Prop:=∀g vs F,D g vs=some F->zjz P g vs F
theorem zlw:∀(l:Xj) (t t':TT) (k:Nat) (s s':Hp),k+l.length<=256->Tells (zeE t k l) s t' s'->s'=s∧∀j,j<=255->zaD t' j=if k<=j∧j<k+l.length then (l[j-k]?).getD unV else zaD t j
 | [],t,t',k,s,s',hk,h=>by
  unfold zeE at h
  obtain⟨rfl,rfl⟩:=zad h
  exact⟨rfl,fun j hj=>by rw [if_neg (by simp)]⟩
 | v::l,t,t',k,s,s',hk,h=>by
  simp only [List.length_cons]at hk
  unfold zeE at h
  obtain⟨t1,s1,h1,h2,_⟩:=zac (by rw [tset8_eq];exact zaf _) h
  rw [tset8_eq]at h1
  obtain⟨rfl,rfl⟩:=zad h1
  rw [forceN_eq]at h2
  obtain⟨rfl,h3⟩:=zlw l _ t' (k+1) _ s' (by omega) h2
  refine⟨rfl,fun j hj=> ?_⟩
  rw [h3 j hj,zdG _ k j _ (by omega) hj]
  simp only [List.length_cons]
  by_cases e:k=j
  ·subst e
   rw [if_neg (by omega),if_pos rfl,if_pos (by omega)]
   simp
  ·by_cases h4:k+1<=j∧j<k+1+l.length
   ·rw [if_pos h4,if_pos (by omega),show j-k=(j-(k+1))+1 by omega]
    simp
   ·rw [if_neg h4,if_neg e,if_neg (by omega)]
theorem zpy {ρ:Rn} {vs vs':Xj} {t:TT} {N:Nat} {s s':Hp} (hN:N<=256) (hl:vs.length<=N) (hvs:LR (VL ρ) vs vs') (ht:Tells (zeE (tmk8 unV) 0 vs) s t s') :
  s'=s∧ActR ρ N t [] { tmps:=(⟨vs'⟩:Array Xl)++Array.replicate (N-(⟨vs'⟩:Array Xl).size) undef,defers:=[] }:=by
 obtain⟨h1,h2⟩:=zlw vs _ t 0 s s' (by omega) ht
 have Aa:=hvs.len
 refine⟨h1,?_,hN,fun k hk=> ?_,rfl⟩
 ·simp;omega
 ·rw [h2 k hk,zpU]
  simp only [Array.getD_eq_getD_getElem?,Nat.zero_le,true_and,Nat.zero_add,Nat.sub_zero]
  by_cases hlt:k<vs.length
  ·rw [if_pos hlt,Array.getElem?_append_left (by simp;omega)]
   obtain⟨v',e1,hv⟩:=hvs.at (List.getElem?_eq_getElem hlt)
   rw [List.getElem?_eq_getElem hlt]
   have:(⟨vs'⟩:Array Xl)[k]? = some v':=by simpa using e1
   rw [this];exact hv
  ·rw [if_neg hlt,Array.getElem?_append_right (by simp;omega),Array.getElem?_replicate]
   split<;>exact zlG
theorem znv (hN:NoGo P) {f:FuncId} {fn:Func} {c:Code} (hf:P.funcs[f]? = some fn) (hb:fn.body=some c) (args:Array Xl) (w:Xk):(callFunc f args).run P w=.ok (.enter f args) w:=by
 simp [callFunc,hf,hN f fn hf,hb]
theorem ztx {fn:Func} {args:Xj} {c:Code} {b:Bool} (h:fn.body=some c) (hb:(Nat.ble fn.ntmps 256 && Nat.ble args.length fn.ntmps)=true):fn.ntmps<=256∧args.length<=fn.ntmps:=by
 rw [Bool.and_eq_true]at hb
 exact⟨Nat.le_of_ble_eq_true hb.1,Nat.le_of_ble_eq_true hb.2⟩
theorem zhQ {F:M Xl} (hF:Good F) {s s':Hp} {v:Xl} (h:F.run s (fun v s=>some (v,s))=some (v,s')):Tells F s v s':=by
 obtain⟨a,s1,r,q,e,f,_⟩:=hF.ok s _ _ h
 have:=(e fun v s=>some (v,s)).symm.trans h
 cases this
 exact⟨fun J=>e J⟩
theorem zpq (hN:NoGo P) {X:Hook} {Ev:EvT} (hv:∀c N a,Good (Ev c N a)) (hok:zis P Ev) (g:FuncId) (vs:Xj):zjz P g vs (zdn P X Ev g vs):=by
 intro s s' v hF w0 B ρ w Na H Ka Ga
 unfold zdn at hF
 split at hF
 ·cases hF
 ·split at hF
  ·cases hF
  ·rename_i fn hf
   have Aa:Good (zfQ P Ev fn vs):=by
    unfold zfQ
    split
    ·refine zab (zcx _ _ _) fun t=>zab (hv _ _ _) fun x=> ?_
     unfold zlZ
     split
     ·exact zab (zaZ P _ _) fun _=>zaf _
     ·exact zab (zaZ P _ _) fun _=>zaf _
     ·exact zae
    ·exact zae
   have ht:=zhQ Aa hF
   unfold zfQ at ht
   split at ht
   ·rename_i c hb hc
    obtain⟨h1,h2⟩:=ztx (b:=true) hb hc
    obtain⟨t,s1,k1,k2,_⟩:=zac (zcx _ _ _) ht
    obtain⟨rfl,ha⟩:=zpy h1 h2 Ka k1
    obtain⟨z,s2,k3,k4,Ma⟩:=zac (hv _ _ _) k2
    obtain⟨e,t2,La⟩:=z
    refine⟨znv hN hf hb _ w,?_⟩
    have Ca:(e=.normal∨e=.ret)∧La=[]∧Tells (zaj (resK P t2 fn.results.toList) fun vs=>zak (tupK vs)) s2 v s':=by
     unfold zlZ at k4
     split at k4
     ·rename_i Ba;cases Ba;exact⟨.inl rfl,rfl,k4⟩
     ·rename_i Ba;cases Ba;exact⟨.inr rfl,rfl,k4⟩
     ·exact (zag k4).elim
    obtain⟨he,rfl,k5⟩:=Ca
    obtain⟨us,s3,k6,k7,Ja⟩:=zac (zaZ P _ _) k5
    obtain⟨rfl,rfl⟩:=zad k7
    refine CallsD.mono (callsD_of_wp hf hb (R:=fun e w'=>(∃v',e=.returned v')∧∃ρ',HR w0 B ρ' s'.f w'∧Ext ρ ρ' s1.n s'.n) ?_) fun e u' w' h=>⟨h.1,h.2⟩
    refine hok c fn.ntmps t [] s1 s2 e t2 [] k3 w0 B ρ w _ _ ha H (Ga.left Ja) fun a' w' hA=> ?_
    obtain⟨ρ',H',Ha,Da⟩:=hA
    obtain⟨f1,f2,v',f3,f4⟩:=zjQ Da k6 H'
    have Ia:a'.defers=[]:=Da.df
    have Fa:a'.defers=[]∧∃v,(results fn a'.tmps).run P w'=.ok v w'∧((∃v',Ending.returned v=.returned v')∧∃ρ',HR w0 B ρ' s'.f w'∧Ext ρ ρ' s1.n s'.n):=
     ⟨Ia,v',f3,⟨_,rfl⟩,ρ',H'.congr fun id=>by rw [f1],by rw [f2];exact Ha⟩
    rcases he with rfl | rfl
    ·exact Fa
    ·exact Fa
   ·exact (zag ht).elim
theorem zox {D:Hook} {E:zas} (hDg:zaX D) (hEg:zbg E) (hD:zgJ P D) (hE:∀g vs,zjz P g vs (E g vs)) {w0:Xk} {B:Nat} {fn:Func} {N:Nat} {t:TT} {a:Act} {R:Ending->Xk->Prop} {sf:Hp}:∀(ds ds':List Deferred) (s:Hp) (w:Xk) (ρ:Rn),
  DsR ρ ds ds'->ActR ρ N t [] { tmps:=a.tmps,defers:=[] }->HR w0 B ρ s.f w->∀u,Tells (zgp D E ds) s u sf->Free ρ s.n sf.n->(∀ρ' w',HR w0 B ρ' sf.f w'->Ext ρ ρ' s.n sf.n->ActR ρ' N t [] { tmps:=a.tmps,defers:=[] }->∃v,(results fn a.tmps).run P w'=.ok v w'∧R (.returned v) w')->
  Leaves P fn a.tmps R ds' .returning w
 | [],ds',s,w,ρ,hds,ha,H,u,ht,hfr,hR=>by
  have:ds'=[]:=hds
  subst this
  unfold zgp at ht
  obtain⟨_,rfl⟩:=zad ht
  exact hR ρ w H .rfl ha
 | d::ds,_,s,w,ρ,⟨d',tl,e,⟨g,al,bl,al',bl',e1,e2,h1,h2⟩,htl⟩,ha,H,u,ht,hfr,hR=>by
  subst e
  subst e1
  subst e2
  unfold zgp at ht
  have Ia:Good (defK D E { target:=.fn (.func g) ⟨bl⟩,args:=⟨al⟩ }):=by
   unfold defK
   simp only []
   rw [forceL_eq]
   split
   ·rename_i F hF
    exact hDg _ _ _ hF
   ·exact hEg _ _
  obtain⟨v,s1,k1,k2,Fa⟩:=zac Ia ht
  have Ga:=k2.le (zcq hDg hEg ds)
  unfold defK at k1
  simp only []at k1
  rw [forceL_eq]at k1
  have Ha:∃F,zjz P g (al++bl) F∧F s=some (v,s1):=by
   split at k1
   ·rename_i F hF
    exact⟨F,hD _ _ _ hF,zeY k1⟩
   ·exact⟨_,hE g _,zeY k1⟩
  obtain⟨F,Ka,Ja⟩:=Ha
  obtain⟨Ca,Aa⟩:=Ka s s1 v Ja w0 B ρ w (al'++bl') H (h1.app h2) (hfr.left Ga)
  have Da:(⟨al'⟩:Array Xl) ++ ⟨bl'⟩=⟨al'++bl'⟩:=by apply Array.ext';simp
  refine leaves_cons (by simp) (f:=g) (args:=⟨al'++bl'⟩) (by show (callFunc g ((⟨al'⟩:Array Xl) ++ ⟨bl'⟩)).run P w=_;rw [Da];exact Ca) (CallsD.mono Aa ?_)
  rintro e u' w' ⟨rfl,⟨v',rfl⟩,ρ',H',Ba⟩
  refine zox hDg hEg hD hE ds tl s1 w' ρ' (htl.grow Ba.le) (ha.grow Ba.le) H' u k2 (hfr.right Fa Ba) fun ρ2 w2 H2 hE2 ha2=>hR ρ2 w2 H2 (Ba.trans hE2 Fa Ga) ha2
theorem zsT (hN:NoGo P) {X D:Hook} {Ev:EvT} {E:zas} (hXg:zaX X) (hDg:zaX D) (hX:zbs P X) (hD:zgJ P D) (hv:∀c N a,Good (Ev c N a)) (hok:zis P Ev) (hEg:zbg E) (hE:∀g vs,zjz P g vs (E g vs)) :
  zcF P (zdQ P X D Ev E):=by
 intro f vs s s' v hF w0 B ρ w Ja H Ka Ca
 unfold zdQ at hF
 split at hF
 ·rename_i F hx
  exact hX f vs F hx s s' v hF w0 B ρ w Ja H Ka Ca
 ·split at hF
  ·cases hF
  ·rename_i fn hf
   have Ma:∀x,Good (zic P D E fn x):=by
    intro x
    unfold zic
    split
    ·exact zab (zcq hDg hEg _) fun _=>zab (zaZ P _ _) fun _=>zaf _
    ·exact zab (zcq hDg hEg _) fun _=>zab (zaZ P _ _) fun _=>zaf _
    ·exact zae
   have Aa:Good (zfD P D Ev E fn vs):=by
    unfold zfD
    split
    ·exact zab (zcx _ _ _) fun t=>zab (hv _ _ _) fun x=>Ma x
    ·exact zae
   have ht:=zhQ Aa hF
   unfold zfD at ht
   split at ht
   ·rename_i c hb hc
    obtain⟨h1,h2⟩:=ztx (b:=true) hb hc
    obtain⟨t,s1,k1,k2,_⟩:=zac (zcx _ _ _) ht
    obtain⟨rfl,ha⟩:=zpy h1 h2 Ka k1
    obtain⟨z,s2,k3,k4,Ia⟩:=zac (hv _ _ _) k2
    obtain⟨e,t2,Ga⟩:=z
    have Na:=k4.le (Ma _)
    rw [znv hN hf hb]
    have Fa:(e=.normal∨e=.ret)∧Tells (zaj (zgp D E Ga) fun _=>zaj (resK P t2 fn.results.toList) fun vs=>zak (tupK vs)) s2 v s':=by
     unfold zic at k4
     split at k4
     ·rename_i Da;cases Da;exact⟨.inl rfl,k4⟩
     ·rename_i Da;cases Da;exact⟨.inr rfl,k4⟩
     ·exact (zag k4).elim
    obtain⟨he,k5⟩:=Fa
    obtain⟨u,s3,k6,k7,Pa⟩:=zac (zcq hDg hEg _) k5
    obtain⟨us,s4,k8,k9,Oa⟩:=zac (zaZ P _ _) k7
    obtain⟨rfl,rfl⟩:=zad k9
    show Calls P f ⟨Ja⟩ w _
    refine calls_of_wp_defers hf hb ?_
    refine hok c fn.ntmps t [] s1 s2 e t2 Ga k3 w0 B ρ w _ _ ha H (Ca.left Na) fun a' w' hA=> ?_
    obtain⟨ρ',H',Ha,Ba⟩:=hA
    have La:Leaves P fn a'.tmps (fun e w'=>∃v',e=.returned v'∧Post w0 B ρ s1 s' (tupK us) v' w') a'.defers .returning w':=by
     refine zox hDg hEg hD hE Ga a'.defers s2 w' ρ' Ba.df ⟨Ba.size,Ba.le,Ba.tm,rfl⟩ H' u k6 ((Ca.right Ia Ha).left Oa) fun ρ2 w2 H2 hE2 ha2=> ?_
     obtain⟨f1,f2,v',f3,f4⟩:=zjQ ha2 k8 H2
     exact⟨v',f3,v',rfl,ρ2,H2.congr fun id=>by rw [f1],by rw [f2];exact Ha.trans hE2 Ia Pa,f4⟩
    rcases he with rfl | rfl
    ·exact La
    ·exact La
   ·exact (zag ht).elim
theorem zCd (hm:P.follows .mixedOrders=true) (hN:NoGo P) {X D:Hook} (hXg:zaX X) (hDg:zaX D) (hX:zbs P X) (hD:zgJ P D):∀n,zis P (ev P X D n):=by
 intro n
 induction n using Nat.strongRecOn with
 | _ n ih=>
  cases n with
  | zero=>intro c N t ds s s' e t' Aa ht;exact (zag ht).elim
  | succ n=>
   have hv:=zcI P hXg hDg n
   have hn:=ih n (by omega)
   have Ga:∀g vs,zjz P g vs (zdn P X (ev P X D n) g vs):=zpq hN hv hn
   have Ca:=zsT hN hXg hDg hX hD hv hn (zee P hv) Ga
   refine zwD hm hv (zhK P hXg hDg hv (zee P hv)) Ca hn ?_
   have Ba:∀(k:Nat),k<=n->∀c (N:Nat) (t:TT) (ds:List Deferred) (s s':Hp) (e:Exit) (t':TT) (Aa:List Deferred),Tells (zaj (ev P X D k c N (t,ds)) (zdS (ev P X D k) (.loop c) N)) s (e,t',Aa) s'->
     ∀(w0:Xk) (B:Nat) (ρ:Rn) (w:Xk) (a:Act) (Q:Exit->Act->Xk->Prop),ActR ρ N t ds a->HR w0 B ρ s.f w->Free ρ s.n s'.n->(∀a' w',zfe w0 B ρ s s' N t' Aa a' w'->Q e a' w')->Code.rounds P c Q (k+1) a w:=by
    intro k
    induction k with
    | zero=>
     intro hk c N t ds s s' e t' Aa ht
     obtain⟨x,s1,k1,_⟩:=zac (zcI P hXg hDg 0 c N (t,ds)) ht
     exact (zag k1).elim
    | succ k ihk=>
     intro hk c N t ds s s' e t' Aa ht w0 B ρ w a Q ha H Da hQ
     obtain⟨x,s1,k1,k2,Ha⟩:=zac (zcI P hXg hDg (k+1) c N (t,ds)) ht
     obtain⟨e1,t1,Fa⟩:=x
     have Ma:Good (zdS (ev P X D (k+1)) (.loop c) N (e1,t1,Fa)):=by
      unfold zdS
      split
      ·exact zcI P hXg hDg _ _ _ _
      ·exact zaf _
     have Ja:=k2.le Ma
     rw [rounds_succ]
     refine ih (k+1) (by omega) c N t ds s s1 e1 t1 Fa k1 w0 B ρ w a _ ha H (Da.left Ja) fun a1 w1 hA=> ?_
     obtain⟨ρ1,H1,Ia,Ka⟩:=id hA
     cases e1 with
     | normal=>
      have k3:Tells (zaj (ev P X D k c N (t1,Fa)) (zdS (ev P X D k) (.loop c) N)) s1 (e,t',Aa) s':=k2
      exact ihk (by omega) c N t1 Fa s1 s' e t' Aa k3 w0 B ρ1 w1 a1 Q Ka H1 (Da.right Ha Ia) fun a2 w2 La=>hQ _ _ (zjZ Ia Ha Ja La)
     | _=>
      obtain⟨h1,rfl⟩:=zad k2
      cases h1
      exact hQ _ _ hA
   intro c N t ds s s' e t' Aa ht w0 B ρ w a Q ha H Da hQ
   exact wp_loop_rounds (n+1) (Ba n (Nat.le_refl _) c N t ds s s' e t' Aa ht w0 B ρ w a Q ha H Da hQ)
theorem zxh (hm:P.follows .mixedOrders=true) (hN:NoGo P) {X D:Hook} (hXg:zaX X) (hDg:zaX D) (hX:zbs P X) (hD:zgJ P D) (n:Nat):zcF P (call P X D n):=
 have hv:=zcI P hXg hDg n
 have hn:=zCd hm hN hXg hDg hX hD n
 zsT hN hXg hDg hX hD hv hn (zee P hv) (zpq hN hv hn)
end Go.Proofs.YtgjolijncmkkhaaGreatDoor
