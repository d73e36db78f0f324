/- Own texts joined: EvJ, EvM, EvN, EvK, EvU, EvCd, EvCl. -/
import Derived.Test.YtgjolijncmkkhaaGreatDoorJa
import Derived.Test.YtgjolijncmkkhaaGreatDoorJe
import Derived.Test.YtgjolijncmkkhaaGreatDoorJj
import Derived.LoopN
import Derived.Scope
import Derived.Defers
namespace Go.Proofs.YtgjolijncmkkhaaGreatDoor
open Go.RowKit
set_option linter.unusedVariables false
variable {P:Program}
theorem zuJ {ρ:Rn} {v:Xl} {b:Bool} (h:VL ρ v (.bool b)):v=.bool b∨v=.chan none:=by
 cases v with
 | bool x=>have:=VL.bool.1 h;cases this;exact .inl rfl
 | int k i=>have:=VL.int.1 h;cases this
 | string s=>have:=VL.string.1 h;cases this
 | pointer a=>cases a with
  | none=>have:=VL.nilp.1 h;cases this
  | some a=>obtain⟨_,p,_,e⟩:=VL.ptr.1 h;cases e
 | slice a l c=>cases a with
  | none=>have:=(VL.nils.1 h).2.2;cases this
  | some a=>obtain⟨_,_,p,_,a',c',e,_⟩:=VL.slice.1 h;cases e
 | map r=>cases r with
  | none=>have:=VL.nilm.1 h;cases this
  | some a=>obtain⟨p,_,e⟩:=VL.map.1 h;cases e
 | func fn f c=>
  obtain⟨f⟩:=f
  obtain⟨c⟩:=c
  obtain⟨_,f',c',e,_⟩:=VL.func.1 h;cases e
 | nilFunc=>have:=VL.nilf.1 h;cases this
 | iface t x=>obtain⟨x',e,_⟩:=VL.iface.1 h;cases e
 | nilIface=>have:=VL.nili.1 h;cases this
 | agg c=>obtain⟨l⟩:=c;obtain⟨l',e,_⟩:=VL.agg.1 h;cases e
 | tuple c=>obtain⟨l⟩:=c;obtain⟨l',e,_⟩:=VL.tuple.1 h;cases e
 | chan c=>cases c with
  | none=>exact .inr rfl
  | some r=>obtain⟨n,h⟩:=h;cases n<;>exact h.elim
 | float k b=>obtain⟨n,h⟩:=h;cases n<;>exact h.elim
 | complex k a b=>obtain⟨n,h⟩:=h;cases n<;>exact h.elim
theorem zmS {ρ:Rn} {N:Nat} {t:TT} {ds:List Deferred} {a:Act} (h:ActR ρ N t ds a) {ops:Array Oper} {o:Oper} {b:Bool} (hw:zes ops t o=some b):Region.wanted o (yielded ops a.tmps)=b:=by
 unfold zes at hw
 unfold Region.wanted
 split at hw
 ·rename_i hg
  cases hw
  rw [hg]
 ·rename_i j Ca hg
  rw [hg]
  simp only []
  unfold yielded
  split at hw
  ·rename_i d hd
   rw [hd]
   simp only [Option.bind_some]
   split at hw
   ·rename_i x Aa hx
    have hr:=h.tm d (Nat.le_of_ble_eq_true Aa)
    rw [hx]at hr
    have e:=VL.bool.1 hr
    rw [Array.getD_eq_getD_getElem?]at e
    cases hq:a.tmps[d]? with
    | none=>rw [hq]at e;cases e
    | some y=>
     rw [hq]at e
     have:y=.bool x:=e
     subst this
     cases hw
     simp
   ·cases hw
   ·rename_i Aa Da Ba
    cases hw
    have hr:=h.tm d (Nat.le_of_ble_eq_true Aa)
    cases hq:a.tmps[d]? with
    | none=>rfl
    | some y=>
     rw [Array.getD_eq_getD_getElem?,hq]at hr
     cases y<;>first
      | rfl
      | (exact (zuJ hr).elim (fun e=>(Da _ e).elim) (fun e=>(Ba e).elim))
   ·cases hw
  ·rename_i hd
   rw [hd]
   cases hw
   rfl
theorem zwj {E:zap} (hE:zbn E) (hC:zcM P E) {o:Oper} {N:Nat} {t:TT} {ds ds1:List Deferred} {a:Act} {w0 w:Xk} {B:Nat} {ρ:Rn} {s s1:Hp} {v:Xl} (ha:ActR ρ N t ds a)
  (ht:Tells ((disp P o).f E (aev t) ds) s (v,ds1) s1) (H:HR w0 B ρ s.f w) (hfr:Free ρ s.n s1.n) {next:Act->Xk->Prop} {Q:Exit->Act->Xk->Prop}
  (hk:∀v' w' ρ' dsx,HR w0 B ρ' s1.f w'->Ext ρ ρ' s.n s1.n->VL ρ' v v'->DsR ρ' ds1 dsx->next (({ a with defers:=dsx }:Act).put o.dst v') w'):o.upon P a next Q ((execOp a.eval o).run P w):=by
 have he:=zvM ha H.glo
 have Ba:∀{F:M Xl},Good F->(∀w,Tells F s v s1->Went P ((execOp a.eval o).run P w) (Post w0 B ρ s s1 v)∨¬ HR w0 B ρ s.f w)->Tells (zaj F fun v=>zak (v,ds)) s (v,ds1) s1->o.upon P a next Q ((execOp a.eval o).run P w):=by
  intro F hF hw ht
  obtain⟨v2,s2,t1,t2,_⟩:=zac hF ht
  obtain⟨e,rfl⟩:=zad t2
  cases e
  rcases hw w t1 with hw | hw
  ·refine zvR hw fun v' w' hp=> ?_
   obtain⟨ρ',H',Fa,hv⟩:=hp
   exact hk v' w' ρ' a.defers H' Fa hv (ha.df.grow Fa.le)
  ·exact (hw H).elim
 have pd:∀{F:En->M Xl},Good (F (aev t))->Sim P ρ (F (aev t)) (execOp a.eval o) OpR->Tells ((zaQ F).f E (aev t) ds) s (v,ds1) s1->o.upon P a next Q ((execOp a.eval o).run P w):=by
  intro F hF hS ht
  exact Ba hF (fun w t1=>(Classical.em (HR w0 B ρ s.f w)).imp (fun H=>zyL hS t1 H hfr) id) ht
 unfold disp at ht
 split at ht
 ·rename_i x ho;exact pd (zeP _ _) (zAf he x ho) ht
 ·rename_i x ho;exact pd (zeP _ _) (zwi he x ho) ht
 ·rename_i c a b ho;exact pd (zkj _ _ _ _) (zzU he c a b ho) ht
 ·rename_i t ho;exact pd (F:=fun _=>zey P t) (ziN _ _) (zyM he t ho) ht
 ·rename_i t x ho;exact pd (zlC _ _ _) (zAA he t x ho) ht
 ·rename_i t parts ho;exact pd (ziv _ _ _ _) (zzt he t parts ho) ht
 ·rename_i t len parts ho;exact pd (zfe _ _ _ _ _) (zoS he t len parts ho) ht
 ·rename_i t a ho;exact pd (zkk _ _ _ _) (zzZ he t a ho) ht
 ·rename_i t a x ho;exact pd (zhY _ _ _ _ _) (zyR he t a x ho) ht
 ·rename_i x ho;exact pd (zgj _ _) (zpU he x _ ho) ht
 ·rename_i op t x y yt ho;exact pd (zlI _ _ _ _ _ _) (zyo he op t x y yt ho) ht
 ·rename_i op ut x ho;exact pd (zkd _ _ _ _) (zzv he op ut x ho) ht
 ·rename_i Ha dst x ho;exact pd (zgG _ _ _ _ _) (zvE he Ha dst x ho) ht
 ·rename_i t x ho;exact pd (zef _ _ _ _) (zlM he t x ho) ht
 ·rename_i fn a b ho;exact pd (zgb _ _ _ _) (zsK he fn a b ho) ht
 ·rename_i t r ho;exact pd (F:=fun _=>zcU r) (zgS _) (zvm he t r ho) ht
 ·rename_i t l c ho;exact pd (zfH _ _ _ _ _) (zqY he t l c ho) ht
 ·rename_i t x lo hi mx ho;exact pd (ziu _ _ _ _ _ _ _) (zyq he t x lo hi mx ho) ht
 ·rename_i t x f ho;exact pd (zfQ _ _ _ _ _) (zrj he t x f ho) ht
 ·rename_i t x f ho;exact pd (ziU _ _ _ _ _) (zyS he t x f ho) ht
 ·rename_i t x ix ho;exact pd (zfF _ _ _ _ _) (zrr he t x ix ho) ht
 ·rename_i t x ix ho;exact pd (zhV _ _ _ _ _) (zzl he t x ix ho) ht
 ·rename_i t x ix ok ho;exact pd (zhT _ _ _ _ _ _) (zwG he t x ix ok ho) ht
 ·rename_i t m k x ho;exact pd (zcv _ _ _ _ _ _) (zqH he t m k x ho) ht
 ·rename_i t m k x ho;exact pd (zcv _ _ _ _ _ _) (zwQ he t m k x ho) ht
 ·rename_i x xt t ok ho;exact pd (zfd _ _ _ _ _) (zpN he x xt t ok ho) ht
 ·rename_i x i ho;exact pd (zgR _ _ _) (ztS he x i ho) ht
 ·rename_i b Aa ts ho;exact pd (zgD _ _ _ _ _ _) (zvX he b Aa ts ho) ht
 ·rename_i f Aa Ca ho
  exact Ba (zih hE _ _ _) (fun w t1=>(Classical.em (HR w0 B ρ s.f w)).imp (fun H=>zsR hE hC he f Aa Ca _ ho t1 H hfr) id) ht
 ·rename_i r name Aa Ca ho
  exact Ba (ziy P hE _ _ _ _) (fun w t1=>(Classical.em (HR w0 B ρ s.f w)).imp (fun H=>zsN hE hC he r name Aa Ca _ ho t1 H hfr) id) ht
 ·rename_i f Aa Ca ho
  obtain⟨d,s2,t1,t2,_⟩:=zac (ziT _ _ _) ht
  obtain⟨e,rfl⟩:=zad t2
  cases e
  unfold zgJ at t1
  obtain⟨fv,s3,t3,t4,_⟩:=zac (zbu _) t1
  obtain⟨Ka,rfl⟩:=zco t3
  obtain⟨vs,s4,t5,t6,_⟩:=zac (zbb _ _) t4
  obtain⟨rfl,Ga⟩:=zfw he _ t5
  unfold zlW at t6
  split at t6
  ·rename_i g al bl
   rw [forceL_eq]at t6
   obtain⟨rfl,rfl⟩:=zad t6
   obtain⟨_,a',b',e1,Ja,Ia⟩:=VL.func.1 (he f _ Ka)
   have hx:(execOp a.eval o).run P w=.ok (.defer { target:=.fn (.func g) ⟨b'⟩,args:=⟨a'++Aa.toList.map a.eval⟩ }) w:=by
    have Da:(⟨a'⟩:Array Xl)++Aa.map a.eval=⟨a'++Aa.toList.map a.eval⟩:=by apply Array.ext';simp
    simp only [execOp,ho,resolve,Deferred.ofValue,e1,Sem.run_bind,Sem.run_pure,Result.andThen,Da]
   rw [hx]
   exact hk undef w ρ _ H .rfl zkI ⟨_,_,rfl,⟨g,_,_,_,_,rfl,rfl,Ja.app Ga,Ia⟩,ha.df⟩
  ·exact (zag t6).elim
 ·exact (zag ht).elim
def zfg (w0:Xk) (B:Nat) (ρ:Rn) (s s':Hp) (N:Nat) (t':TT) (ds':List Deferred) (a':Act) (w':Xk):Prop:=∃ρ',HR w0 B ρ' s'.f w'∧Ext ρ ρ' s.n s'.n∧ActR ρ' N t' ds' a'
theorem zrS {E:zap} (hE:zbn E) (hC:zcM P E) {ops:Array Oper} {o:Oper} {N:Nat} {t t':TT} {ds ds':List Deferred} {a:Act} {w0 w:Xk} {B:Nat} {ρ:Rn} {s s':Hp} (ha:ActR ρ N t ds a)
  (ht:Tells (opK P E N ops o (t,ds)) s (t',ds') s') (H:HR w0 B ρ s.f w) (hfr:Free ρ s.n s'.n) {next:Act->Xk->Prop} (Q:Exit->Act->Xk->Prop) (hk:∀a' w',zfg w0 B ρ s s' N t' ds' a' w'->next a' w') :
  if Region.wanted o (yielded ops a.tmps)=true then o.wp P a w next Q else next (a.put o.dst undef) w:=by
 unfold opK at ht
 simp only []at ht
 split at ht
 ·exact (zag ht).elim
 ·rename_i hw
  rw [zmS ha hw]
  simp only [Bool.false_eq_true,if_false]
  obtain⟨t1,s1,k1,k2,_⟩:=zac (zdO _ _ _ _) ht
  obtain⟨e,rfl⟩:=zad k2
  cases e
  obtain⟨rfl,hp⟩:=zid k1
  refine hk _ _ ⟨ρ,H,.rfl,?_⟩
  rcases hp with ⟨h1,rfl⟩ | ⟨d,h1,hd,rfl⟩
  ·rw [h1];exact ha
  ·rw [h1];exact ha.put hd zkI
 ·rename_i hw
  rw [zmS ha hw]
  simp only [if_true]
  obtain⟨x,s1,k1,k2,Ba⟩:=zac (ziX P hE o _ ds) ht
  obtain⟨v,Ca⟩:=x
  simp only []at k2
  obtain⟨t1,s2,k3,k4,_⟩:=zac (zdO _ _ _ _) k2
  obtain⟨e,rfl⟩:=zad k4
  cases e
  obtain⟨rfl,hp⟩:=zid k3
  unfold Oper.wp
  refine zwj hE hC ha k1 H hfr fun v' w' ρ' dsx H' hE' hv hds=>hk _ _ ⟨ρ',H',hE',?_⟩
  have Aa:ActR ρ' N t ds' { a with defers:=dsx }:=⟨ha.size,ha.le,(ha.grow hE'.le).tm,hds⟩
  rcases hp with ⟨h1,rfl⟩ | ⟨d,h1,hd,rfl⟩
  ·rw [h1];exact Aa
  ·rw [h1];exact Aa.put hd hv
theorem zpO {E:zap} (hE:zbn E) (hC:zcM P E) {ops:Array Oper} {N:Nat} {t':TT} {ds':List Deferred} {w0:Xk} {B:Nat} {s':Hp} {Q:Exit->Act->Xk->Prop}:∀(l:List Oper) (i:Nat) (t:TT) (ds:List Deferred) (a:Act) (w:Xk) (ρ:Rn) (s:Hp),
  (∀(j:Nat) o,l[j]? = some o->ops[i+j]? = some o)->ActR ρ N t ds a->Tells (opsK P E N ops l (t,ds)) s (t',ds') s'->HR w0 B ρ s.f w->Free ρ s.n s'.n->
  (∀a' w',zfg w0 B ρ s s' N t' ds' a' w'->Q .normal a' w')->wpOps P ops Q (List.range' i l.length) a w
 | [],i,t,ds,a,w,ρ,s,hl,ha,ht,H,hfr,hQ=>by
  obtain⟨e,rfl⟩:=zad ht
  cases e
  exact hQ _ _ ⟨ρ,H,.rfl,ha⟩
 | o::l,i,t,ds,a,w,ρ,s,hl,ha,ht,H,hfr,hQ=>by
  obtain⟨x,s1,k1,k2,Da⟩:=zac (zfE P hE N ops o _) ht
  obtain⟨t1,Fa⟩:=x
  have Ca:s1.n<=s'.n:=k2.le (zgx P hE N ops l _)
  have ho:ops[i]? = some o:=by simpa using hl 0 o rfl
  have Aa:∀a' w',zfg w0 B ρ s s1 N t1 Fa a' w'->wpOps P ops Q (List.range' (i+1) l.length) a' w':=by
   rintro a' w' ⟨ρ',H',Ga,Ja⟩
   refine zpO hE hC l (i+1) t1 Fa a' w' ρ' s1 (fun j o' hj=> ?_) Ja k2 H' (hfr.right Da Ga) fun a2 w2 h2=>hQ _ _ ?_
   ·have:=hl (j+1) o' (by simpa using hj)
    rw [show i+1+j=i+(j+1) by omega];exact this
   ·obtain⟨ρ2,H2,Ha,Ia⟩:=h2
    exact⟨ρ2,H2,Ga.trans Ha Da Ca,Ia⟩
  have Ba:=zrS hE hC ha k1 H (hfr.left Ca) Q Aa
  rw [List.length_cons,List.range'_succ]
  simp only [wpOps,ho]
  split at Ba
  ·rename_i hw
   rw [if_pos hw]
   exact .inl Ba
  ·rename_i hw
   rw [if_neg hw]
   exact Ba
end Go.Proofs.YtgjolijncmkkhaaGreatDoor
namespace Go.Proofs.YtgjolijncmkkhaaGreatDoor
open Go.RowKit
set_option linter.unusedVariables false
variable {P:Program}
theorem zcm (k i:Nat):k % 2 ^ (i+1)=k % 2 ^ i+(if k.testBit i then 2 ^ i else 0):=by
 apply Nat.eq_of_testBit_eq
 intro b
 rw [Nat.testBit_mod_two_pow]
 by_cases hb:k.testBit i=true
 ·rw [if_pos hb,Nat.add_comm (k % 2 ^ i) (2 ^ i)]
  by_cases h1:b<i
  ·rw [Nat.testBit_two_pow_add_gt h1,Nat.testBit_mod_two_pow]
   simp [h1,Nat.lt_succ_of_lt h1]
  ·by_cases h2:b=i
   ·subst h2
    rw [Nat.testBit_two_pow_add_eq,Nat.testBit_mod_two_pow]
    simp [hb]
   ·have Ba:2 ^ i+k % 2 ^ i<2 ^ (i+1):=by
     have:=Nat.mod_lt k (Nat.two_pow_pos i)
     rw [Nat.pow_succ];omega
    have Aa:2 ^ i+k % 2 ^ i<2 ^ b:=Nat.lt_of_lt_of_le Ba (Nat.pow_le_pow_right (by omega) (by omega))
    rw [Nat.testBit_lt_two_pow Aa]
    simp;omega
 ·rw [if_neg hb,Nat.add_zero (k % 2 ^ i),Nat.testBit_mod_two_pow]
  by_cases h1:b<i
  ·simp [h1,Nat.lt_succ_of_lt h1]
  ·by_cases h2:b=i
   ·subst h2;simp [hb]
   ·have:¬ b<i+1:=by omega
    simp [h1,this]
theorem tex0 {α:Type} (g:Nat->α):∃t:T0 α,∀k,zfq t k=g (k % 2 ^ 0):=⟨g 0,fun k=>by simp [zfq,Nat.mod_one]⟩
theorem tex1 {α:Type} (g:Nat->α):∃t:T1 α,∀k,zdG t k=g (k % 2 ^ 1):=by
 obtain⟨a,ha⟩:=tex0 g
 obtain⟨b,hb⟩:=tex0 fun k=>g (k+2 ^ 0)
 refine⟨⟨a,b⟩,fun k=> ?_⟩
 have hm:=zcm k 0
 have hk:=zan k 0 1 rfl
 unfold zdG
 simp only [hk]
 rw [show (2:Nat) ^ 1=2 ^ (0+1) from rfl,hm]
 cases k.testBit 0
 ·exact ha k
 ·exact hb k
theorem tex2 {α:Type} (g:Nat->α):∃t:T2 α,∀k,zdC t k=g (k % 2 ^ 2):=by
 obtain⟨a,ha⟩:=tex1 g
 obtain⟨b,hb⟩:=tex1 fun k=>g (k+2 ^ 1)
 refine⟨⟨a,b⟩,fun k=> ?_⟩
 have hm:=zcm k 1
 have hk:=zan k 1 2 rfl
 unfold zdC
 simp only [hk]
 rw [show (2:Nat) ^ 2=2 ^ (1+1) from rfl,hm]
 cases k.testBit 1
 ·exact ha k
 ·exact hb k
theorem tex3 {α:Type} (g:Nat->α):∃t:T3 α,∀k,zdx t k=g (k % 2 ^ 3):=by
 obtain⟨a,ha⟩:=tex2 g
 obtain⟨b,hb⟩:=tex2 fun k=>g (k+2 ^ 2)
 refine⟨⟨a,b⟩,fun k=> ?_⟩
 have hm:=zcm k 2
 have hk:=zan k 2 4 rfl
 unfold zdx
 simp only [hk]
 rw [show (2:Nat) ^ 3=2 ^ (2+1) from rfl,hm]
 cases k.testBit 2
 ·exact ha k
 ·exact hb k
theorem tex4 {α:Type} (g:Nat->α):∃t:T4 α,∀k,zdD t k=g (k % 2 ^ 4):=by
 obtain⟨a,ha⟩:=tex3 g
 obtain⟨b,hb⟩:=tex3 fun k=>g (k+2 ^ 3)
 refine⟨⟨a,b⟩,fun k=> ?_⟩
 have hm:=zcm k 3
 have hk:=zan k 3 8 rfl
 unfold zdD
 simp only [hk]
 rw [show (2:Nat) ^ 4=2 ^ (3+1) from rfl,hm]
 cases k.testBit 3
 ·exact ha k
 ·exact hb k
theorem tex5 {α:Type} (g:Nat->α):∃t:T5 α,∀k,zdA t k=g (k % 2 ^ 5):=by
 obtain⟨a,ha⟩:=tex4 g
 obtain⟨b,hb⟩:=tex4 fun k=>g (k+2 ^ 4)
 refine⟨⟨a,b⟩,fun k=> ?_⟩
 have hm:=zcm k 4
 have hk:=zan k 4 16 rfl
 unfold zdA
 simp only [hk]
 rw [show (2:Nat) ^ 5=2 ^ (4+1) from rfl,hm]
 cases k.testBit 4
 ·exact ha k
 ·exact hb k
theorem tex6 {α:Type} (g:Nat->α):∃t:T6 α,∀k,zdB t k=g (k % 2 ^ 6):=by
 obtain⟨a,ha⟩:=tex5 g
 obtain⟨b,hb⟩:=tex5 fun k=>g (k+2 ^ 5)
 refine⟨⟨a,b⟩,fun k=> ?_⟩
 have hm:=zcm k 5
 have hk:=zan k 5 32 rfl
 unfold zdB
 simp only [hk]
 rw [show (2:Nat) ^ 6=2 ^ (5+1) from rfl,hm]
 cases k.testBit 5
 ·exact ha k
 ·exact hb k
theorem tex7 {α:Type} (g:Nat->α):∃t:T7 α,∀k,zdH t k=g (k % 2 ^ 7):=by
 obtain⟨a,ha⟩:=tex6 g
 obtain⟨b,hb⟩:=tex6 fun k=>g (k+2 ^ 6)
 refine⟨⟨a,b⟩,fun k=> ?_⟩
 have hm:=zcm k 6
 have hk:=zan k 6 64 rfl
 unfold zdH
 simp only [hk]
 rw [show (2:Nat) ^ 7=2 ^ (6+1) from rfl,hm]
 cases k.testBit 6
 ·exact ha k
 ·exact hb k
theorem tex8 {α:Type} (g:Nat->α):∃t:T8 α,∀k,zaC t k=g (k % 2 ^ 8):=by
 obtain⟨a,ha⟩:=tex7 g
 obtain⟨b,hb⟩:=tex7 fun k=>g (k+2 ^ 7)
 refine⟨⟨a,b⟩,fun k=> ?_⟩
 have hm:=zcm k 7
 have hk:=zan k 7 128 rfl
 unfold zaC
 simp only [hk]
 rw [show (2:Nat) ^ 8=2 ^ (7+1) from rfl,hm]
 cases k.testBit 7
 ·exact ha k
 ·exact hb k
theorem tex9 {α:Type} (g:Nat->α):∃t:T9 α,∀k,zdz t k=g (k % 2 ^ 9):=by
 obtain⟨a,ha⟩:=tex8 g
 obtain⟨b,hb⟩:=tex8 fun k=>g (k+2 ^ 8)
 refine⟨⟨a,b⟩,fun k=> ?_⟩
 have hm:=zcm k 8
 have hk:=zan k 8 256 rfl
 unfold zdz
 simp only [hk]
 rw [show (2:Nat) ^ 9=2 ^ (8+1) from rfl,hm]
 cases k.testBit 8
 ·exact ha k
 ·exact hb k
theorem zxM {α:Type} (g:Nat->α):∃t:T10 α,∀k,zcN t k=g (k % 2 ^ 10):=by
 obtain⟨a,ha⟩:=tex9 g
 obtain⟨b,hb⟩:=tex9 fun k=>g (k+2 ^ 9)
 refine⟨⟨a,b⟩,fun k=> ?_⟩
 have hm:=zcm k 9
 have hk:=zan k 9 512 rfl
 unfold zcN
 simp only [hk]
 rw [show (2:Nat) ^ 10=2 ^ (9+1) from rfl,hm]
 cases k.testBit 9
 ·exact ha k
 ·exact hb k
theorem zxW {α:Type} (g:Nat->α):∃t:T11 α,∀k,zcH t k=g (k % 2 ^ 11):=by
 obtain⟨a,ha⟩:=zxM g
 obtain⟨b,hb⟩:=zxM fun k=>g (k+2 ^ 10)
 refine⟨⟨a,b⟩,fun k=> ?_⟩
 have hm:=zcm k 10
 have hk:=zan k 10 1024 rfl
 unfold zcH
 simp only [hk]
 rw [show (2:Nat) ^ 11=2 ^ (10+1) from rfl,hm]
 cases k.testBit 10
 ·exact ha k
 ·exact hb k
theorem zxS {α:Type} (g:Nat->α):∃t:T12 α,∀k,zcK t k=g (k % 2 ^ 12):=by
 obtain⟨a,ha⟩:=zxW g
 obtain⟨b,hb⟩:=zxW fun k=>g (k+2 ^ 11)
 refine⟨⟨a,b⟩,fun k=> ?_⟩
 have hm:=zcm k 11
 have hk:=zan k 11 2048 rfl
 unfold zcK
 simp only [hk]
 rw [show (2:Nat) ^ 12=2 ^ (11+1) from rfl,hm]
 cases k.testBit 11
 ·exact ha k
 ·exact hb k
theorem zAz {α:Type} (g:Nat->α):∃t:T13 α,∀k,zbx t k=g (k % 2 ^ 13):=by
 obtain⟨a,ha⟩:=zxS g
 obtain⟨b,hb⟩:=zxS fun k=>g (k+2 ^ 12)
 refine⟨⟨a,b⟩,fun k=> ?_⟩
 have hm:=zcm k 12
 have hk:=zan k 12 4096 rfl
 unfold zbx
 simp only [hk]
 rw [show (2:Nat) ^ 13=2 ^ (12+1) from rfl,hm]
 cases k.testBit 12
 ·exact ha k
 ·exact hb k
theorem zAq (g:Hf) (n:Nat) (hg:∀id,8191<id->g id=none):∃s:Hp,s.f=g∧s.n=n∧s.rd=0∧s.wr=0:=by
 obtain⟨t,ht⟩:=zAz g
 refine⟨⟨t,n,0,0⟩,?_,rfl,rfl,rfl⟩
 funext id
 unfold Hp.f
 by_cases h:id<=8191
 ·rw [if_pos h]
  show zbx t id=g id
  rw [ht,Nat.mod_eq_of_lt (by omega)]
 ·rw [if_neg h,hg id (by omega)]
theorem zAp (g:Nat->Xl):∃t:TT,∀k,k<=255->zaC t k=g k:=by
 obtain⟨t,ht⟩:=tex8 g
 exact⟨t,fun k hk=>by rw [ht,Nat.mod_eq_of_lt (by omega)]⟩
def befF (acc:Array Nat) (s:Nat) (e:Edge):Nat:=if Region.binds .any e then s ||| 2 ^ e.on ||| acc.getD e.on 0 else s
theorem zqo (acc:Array Nat) (i:Nat):∀(l:List Edge) (s:Nat),(l.foldl (befF acc) s).testBit i=true->s.testBit i=true∨∃e∈l,Region.binds .any e=true∧(i=e.on∨(acc.getD e.on 0).testBit i=true)
 | [],s,h=>.inl h
 | e::l,s,h=>by
  rw [List.foldl_cons]at h
  rcases zqo acc i l _ h with h | ⟨e',h1,h2⟩
  ·unfold befF at h
   split at h
   ·rename_i hb
    simp only [Nat.testBit_or,Bool.or_eq_true,Nat.testBit_two_pow,decide_eq_true_eq]at h
    rcases h with (h | h) | h
    ·exact .inl h
    ·exact .inr ⟨e,List.mem_cons_self,hb,.inl h.symm⟩
    ·exact .inr ⟨e,List.mem_cons_self,hb,.inr h⟩
   ·exact .inl h
  ·exact .inr ⟨e',List.mem_cons_of_mem _ h1,h2⟩
def zto (ops:Array Oper) (acc:Array Nat):Prop:=∀j,j<acc.size->∀i,(acc.getD j 0).testBit i=true->∃o e,ops[j]? = some o∧e∈o.after.toList∧Region.binds .any e=true∧(i=e.on∨(e.on<j∧(acc.getD e.on 0).testBit i=true))
theorem zrA (ops:Array Oper):∀(l:List Oper) (acc:Array Nat),(∀(j:Nat) o,l[j]? = some o->ops[acc.size+j]? = some o)->zto ops acc->
  zto ops (l.foldl (fun acc o=>acc.push (o.after.foldl (befF acc) 0)) acc)
 | [],acc,_,h=>h
 | o::l,acc,hl,h=>by
  rw [List.foldl_cons]
  refine zrA ops l _ (fun j o' hj=> ?_) fun j hj i hb=> ?_
  ·have:=hl (j+1) o' (by simpa using hj)
   rw [Array.size_push,show acc.size+1+j=acc.size+(j+1) by omega];exact this
  ·rw [Array.size_push]at hj
   have same:∀k,k<acc.size->(acc.push (o.after.foldl (befF acc) 0)).getD k 0=acc.getD k 0:=fun k hk=>by
    rw [Array.getD_eq_getD_getElem?,Array.getD_eq_getD_getElem?,Array.getElem?_push,if_neg (by omega)]
   by_cases hlt:j<acc.size
   ·rw [same j hlt]at hb
    obtain⟨o',e,h1,h2,h3,h4⟩:=h j hlt i hb
    refine⟨o',e,h1,h2,h3,h4.imp id fun h5=>⟨h5.1,?_⟩⟩
    rw [same e.on (by omega)];exact h5.2
   ·have Ba:j=acc.size:=by omega
    subst Ba
    have hx:(acc.push (o.after.foldl (befF acc) 0)).getD acc.size 0=o.after.foldl (befF acc) 0:=by
     rw [Array.getD_eq_getD_getElem?,Array.getElem?_push,if_pos rfl];rfl
    rw [hx,<-Array.foldl_toList]at hb
    rcases zqo acc i _ _ hb with hb | ⟨e,h1,h2,h3⟩
    ·simp at hb
    ·refine⟨o,e,by simpa using hl 0 o rfl,h1,h2,?_⟩
     rcases h3 with h3 | h3
     ·exact .inl h3
     ·have Aa:e.on<acc.size:=by
       rcases Nat.lt_or_ge e.on acc.size with h | h
       ·exact h
       ·rw [Array.getD_eq_getD_getElem?,Array.getElem?_eq_none h]at h3;simp at h3
      exact .inr ⟨Aa,by rw [same e.on Aa];exact h3⟩
theorem zuI (ops:Array Oper):zto ops (Region.before ops):=by
 have h:Region.before ops=ops.toList.foldl (fun Aa o=>Aa.push (o.after.foldl (befF Aa) 0)) #[]:=by
  unfold Region.before
  rw [<-Array.foldl_toList]
  rfl
 rw [h]
 exact zrA ops ops.toList #[] (fun j o hj=>by simpa using hj) fun j hj=>by simp at hj
end Go.Proofs.YtgjolijncmkkhaaGreatDoor
namespace Go.Proofs.YtgjolijncmkkhaaGreatDoor
open Go.RowKit
set_option linter.unusedVariables false
variable {P:Program}
theorem zbL {e e2:En}:∀(l:List Operand),(∀x∈l,e x=e2 x)->aevs e l=aevs e2 l
 | [],_=>rfl
 | x::l,h=>by
  unfold aevs
  rw [h x List.mem_cons_self,zbL l fun y hy=>h y (List.mem_cons_of_mem _ hy)]
theorem zhO {e e2:En} (y:Option Operand) (h:∀x,y=some x->e x=e2 x):mopt e y=mopt e2 y:=by
 unfold mopt
 cases y with
 | none=>rfl
 | some x=>simp only [h x rfl]
theorem ztf {E:zap} {o:Oper} {e e2:En} {ds:List Deferred} (h:∀x,x∈o.op.operands.toList->e x=e2 x):(disp P o).f E e ds=(disp P o).f E e2 ds:=by
 have pd:∀{F:En->M Xl},F e=F e2->(zaQ F).f E e ds=(zaQ F).f E e2 ds:=fun {F} hF=>by unfold zaQ;simp only [hF]
 unfold disp
 split
 ·rename_i x ho
  rw [ho]at h
  have h0:=h x (by simp [Op.operands])
  exact pd (by simp only [zdW,h0])
 ·rename_i x ho
  rw [ho]at h
  have h0:=h x (by simp [Op.operands])
  exact pd (by simp only [zdW,h0])
 ·rename_i c a b ho
  rw [ho]at h
  have h0:=h c (by simp [Op.operands])
  have h1:=h a (by simp [Op.operands])
  have h2:=h b (by simp [Op.operands])
  exact pd (by simp only [zfJ,h0,h1,h2])
 ·rfl
 ·rename_i t x ho
  rw [ho]at h
  have h0:=h x (by simp [Op.operands])
  exact pd (by simp only [zht,h0])
 ·rename_i t parts ho
  rw [ho]at h
  have h0:=zbL (parts.toList.map (·.2)) fun x hx=>h x (by simpa [Op.operands]using hx)
  exact pd (by simp only [zeo,h0])
 ·rename_i t len parts ho
  rw [ho]at h
  have h0:=zbL (parts.toList.map (·.2)) fun x hx=>h x (by simpa [Op.operands]using hx)
  exact pd (by simp only [zbS,h0])
 ·rename_i t a ho
  rw [ho]at h
  have h0:=h a (by simp [Op.operands])
  exact pd (by simp only [zfY,h0])
 ·rename_i t a x ho
  rw [ho]at h
  have h0:=h a (by simp [Op.operands])
  have h1:=h x (by simp [Op.operands])
  exact pd (by simp only [zev,h0,h1])
 ·rename_i x ho
  rw [ho]at h
  have h0:=h x (by simp [Op.operands])
  exact pd (by simp only [zdj,h0])
 ·rename_i op t x y yt ho
  rw [ho]at h
  have h0:=h x (by simp [Op.operands])
  have h1:=h y (by simp [Op.operands])
  exact pd (by simp only [zgZ,h0,h1])
 ·rename_i op ut x ho
  rw [ho]at h
  have h0:=h x (by simp [Op.operands])
  exact pd (by simp only [zfD,h0])
 ·rename_i Ca Da x ho
  rw [ho]at h
  have h0:=h x (by simp [Op.operands])
  exact pd (by simp only [zcW,h0])
 ·rename_i t x ho
  rw [ho]at h
  have h0:=h x (by simp [Op.operands])
  exact pd (by simp only [zbr,h0])
 ·rename_i fn a b ho
  rw [ho]at h
  have h0:=zbL a.toList fun x hx=>h x (by simp only [Op.operands,Array.toList_append,List.mem_append];exact .inl hx)
  have h1:=zbL b.toList fun x hx=>h x (by simp only [Op.operands,Array.toList_append,List.mem_append];exact .inr hx)
  exact pd (by simp only [zcE,h0,h1])
 ·rfl
 ·rename_i t l c ho
  rw [ho]at h
  have h0:=h l (by simp [Op.operands])
  have h1:=h c (by simp [Op.operands])
  exact pd (by simp only [zcc,h0,h1])
 ·rename_i t x lo hi mx ho
  rw [ho]at h
  have h0:=h x (by simp [Op.operands])
  have h1:=zhO lo fun y hy=>h y (by subst hy;simp [Op.operands])
  have h2:=zhO hi fun y hy=>h y (by subst hy;simp [Op.operands])
  have h3:=zhO mx fun y hy=>h y (by subst hy;simp [Op.operands])
  exact pd (by simp only [zeu,h0,h1,h2,h3])
 ·rename_i t x f ho
  rw [ho]at h
  have h0:=h x (by simp [Op.operands])
  exact pd (by simp only [zcb,h0])
 ·rename_i t x f ho
  rw [ho]at h
  have h0:=h x (by simp [Op.operands])
  exact pd (by simp only [zez,h0])
 ·rename_i t x ix ho
  rw [ho]at h
  have h0:=h x (by simp [Op.operands])
  have h1:=h ix (by simp [Op.operands])
  exact pd (by simp only [zcf,h0,h1])
 ·rename_i t x ix ho
  rw [ho]at h
  have h0:=h x (by simp [Op.operands])
  have h1:=h ix (by simp [Op.operands])
  exact pd (by simp only [zeB,h0,h1])
 ·rename_i t x ix ok ho
  rw [ho]at h
  have h0:=h x (by simp [Op.operands])
  have h1:=h ix (by simp [Op.operands])
  exact pd (by simp only [zdJ,h0,h1])
 ·rename_i t m k x ho
  rw [ho]at h
  have h0:=h m (by simp [Op.operands])
  have h1:=h k (by simp [Op.operands])
  have h2:=h x (by simp [Op.operands])
  exact pd (by simp only [zbq,h0,h1,h2])
 ·rename_i t m k x ho
  rw [ho]at h
  have h0:=h m (by simp [Op.operands])
  have h1:=h k (by simp [Op.operands])
  have h2:=h x (by simp [Op.operands])
  exact pd (by simp only [zbq,h0,h1,h2])
 ·rename_i x xt t ok ho
  rw [ho]at h
  have h0:=h x (by simp [Op.operands])
  exact pd (by simp only [zbR,h0])
 ·rename_i x i ho
  rw [ho]at h
  have h0:=h x (by simp [Op.operands])
  exact pd (by simp only [zcT,h0])
 ·rename_i b Aa ts ho
  rw [ho]at h
  have h0:=zbL Aa.toList fun x hx=>h x (by simpa [Op.operands,Call.operands]using hx)
  exact pd (by simp only [zdP,h0])
 ·rename_i f Aa Ba ho
  rw [ho]at h
  have h0:=h f (by simp [Op.operands,Call.operands])
  have h1:=zbL Aa.toList fun x hx=>h x (by simp [Op.operands,Call.operands];right;simpa using hx)
  simp only [zfy,h0,h1]
 ·rename_i r name Aa Ba ho
  rw [ho]at h
  have h0:=h r (by simp [Op.operands,Call.operands])
  have h1:=zbL Aa.toList fun x hx=>h x (by simp [Op.operands,Call.operands];right;simpa using hx)
  simp only [zfA,h0,h1]
 ·rename_i f Aa Ba ho
  rw [ho]at h
  have h0:=h f (by simp [Op.operands,Call.operands])
  have h1:=zbL Aa.toList fun x hx=>h x (by simp [Op.operands,Call.operands];right;simpa using hx)
  simp only [zgJ,h0,h1]
 ·rfl
def Nm (ops:Array Oper) (o:Oper) (k:Nat):Prop:=(zfC ops o).testBit k=true
theorem zfX:∀(l:List Operand) (k:Nat),Operand.tmp k∈l->(zeU l).testBit k=true
 | [],k,h=>by cases h
 | x::l,k,h=>by
  cases x with
  | tmp j=>
   unfold zeU
   show (Nat.shiftLeft 1 j ||| zeU l).testBit k=true
   rw [Nat.testBit_or,Bool.or_eq_true]
   cases h with
   | head=>exact .inl (zep k)
   | tail _ h=>exact .inr (zfX l k h)
  | const v=>cases h with | tail _ h=>exact zfX l k h
  | global v=>cases h with | tail _ h=>exact zfX l k h
  | func v=>cases h with | tail _ h=>exact zfX l k h
theorem zAy {ops:Array Oper} {o:Oper} {k:Nat} (h:Operand.tmp k∈o.op.operands.toList):Nm ops o k:=by
 unfold Nm zfC
 show (zdF o.dst ||| (zeU o.op.operands.toList ||| _)).testBit k=true
 rw [Nat.testBit_or,Nat.testBit_or,zfX _ _ h]
 simp
theorem zAk {ops:Array Oper} {o:Oper} {k:Nat} (h:o.dst=some k):Nm ops o k:=by
 unfold Nm zfC
 show (zdF o.dst ||| _).testBit k=true
 rw [Nat.testBit_or,h]
 unfold zdF
 rw [zep];rfl
theorem zwW {ops:Array Oper} {o:Oper} {j k:Nat} {b:Bool} (hg:o.guard=some (j,b)) (h:(ops[j]?).bind (·.dst)=some k):Nm ops o k:=by
 unfold Nm zfC
 rw [hg]
 show (zdF o.dst ||| (zeU o.op.operands.toList ||| zdF ((ops[j]?).bind (·.dst)))).testBit k=true
 rw [h,Nat.testBit_or,Nat.testBit_or]
 unfold zdF
 rw [zep];simp
theorem zmQ {E:zap} (hE:zbn E) {N:Nat} {ops:Array Oper} {o:Oper} {t t2 t':TT} {ds ds':List Deferred} {s s':Hp} (h:∀k,k<=255->Nm ops o k->zaC t2 k=zaC t k) (ht:Tells (opK P E N ops o (t,ds)) s (t',ds') s') :
  ∃t2',Tells (opK P E N ops o (t2,ds)) s (t2',ds') s'∧((o.dst=none∧t'=t∧t2'=t2)∨∃d v,o.dst=some d∧d<N∧t'=tset8 t d v id∧t2'=tset8 t2 d v id):=by
 have hw:zes ops t2 o=zes ops t o:=by
  unfold zes
  cases hg:o.guard with
  | none=>rfl
  | some x=>
   obtain⟨j,Ba⟩:=x
   simp only []
   cases hd:(ops[j]?).bind (·.dst)with
   | none=>rfl
   | some d=>
    simp only []
    cases hb:Nat.ble d 255 with
    | false=>rfl
    | true=>rw [h d (Nat.le_of_ble_eq_true hb) (zwW hg hd)]
 have Da:∀x,x∈o.op.operands.toList->aev t x=aev t2 x:=by
  intro x hx
  cases x with
  | tmp k=>
   unfold aev
   simp only []
   cases hb:Nat.ble k 255 with
   | false=>rfl
   | true=>rw [h k (Nat.le_of_ble_eq_true hb) (zAy hx)]
  | const v=>rfl
  | global g=>rfl
  | func f=>rfl
 have Aa:∀{v:Xl} {a b:Hp} {tx:TT},Tells (putK N t o.dst v) a tx b->∃ty,(∀c,Tells (putK N t2 o.dst v) c ty c)∧b=a∧((o.dst=none∧tx=t∧ty=t2)∨∃d v,o.dst=some d∧d<N∧tx=tset8 t d v id∧ty=tset8 t2 d v id):=by
  intro v a b tx hp
  obtain⟨hb,hc⟩:=zid hp
  rcases hc with ⟨h1,h2⟩ | ⟨d,h1,h2,h3⟩
  ·exact⟨t2,fun c=>⟨fun J=>by rw [h1];rfl⟩,hb,.inl ⟨h1,h2,rfl⟩⟩
  ·refine⟨tset8 t2 d v id,fun c=>⟨fun J=> ?_⟩,hb,.inr ⟨d,v,h1,h2,h3,rfl⟩⟩
   rw [h1]
   unfold putK
   have Ca:Nat.blt d N=true:=by rw [blt_eq];simpa using h2
   simp only [Ca]
   rw [tset8_eq];rfl
 unfold opK at ht ⊢
 simp only []at ht ⊢
 rw [hw]
 cases hq:zes ops t o with
 | none=>rw [hq]at ht;exact (zag ht).elim
 | some b=>
  rw [hq]at ht
  cases b with
  | false=>
   simp only []at ht ⊢
   obtain⟨tx,s1,k1,k2,_⟩:=zac (zdO _ _ _ _) ht
   obtain⟨e,rfl⟩:=zad k2
   cases e
   obtain⟨ty,h1,rfl,h2⟩:=Aa k1
   refine⟨ty,⟨fun J=> ?_⟩,h2⟩
   exact (h1 s').eq _
  | true=>
   simp only []at ht ⊢
   obtain⟨x,s1,k1,k2,_⟩:=zac (ziX P hE o _ ds) ht
   obtain⟨v,Fa⟩:=x
   simp only []at k2
   obtain⟨tx,s2,k3,k4,_⟩:=zac (zdO _ _ _ _) k2
   obtain⟨e,rfl⟩:=zad k4
   cases e
   obtain⟨ty,h1,rfl,h2⟩:=Aa k3
   rw [ztf Da]at k1
   refine⟨ty,⟨fun J=> ?_⟩,h2⟩
   show ((disp P o).f E (aev t2) ds).run s _=_
   rw [k1.eq]
   exact (h1 s').eq _
theorem zvK {α:Type} {F:M α} (hF:Good F) {s s':Hp} {a:α} {r q:Nat} (h:Tells (mtrk F) s (a,r,q) s') :
  s.n<=s'.n∧(∀id,q.testBit id=false->s'.f id=s.f id)∧(∀id,s.n<=id->id<s'.n->q.testBit id=true)∧
   ∀g:Hp,g.n=s.n->(∀id,(r ||| q).testBit id=true->g.f id=s.f id)->∃g',Tells F g a g'∧g'.n=s'.n∧(∀id,q.testBit id=true->g'.f id=s'.f id)∧(∀id,q.testBit id=false->g'.f id=g.f id):=by
 have e:=h.pair
 rw [zjh]at e
 obtain⟨a1,s1,r1,q1,e1,f,g1⟩:=hF.ok _ _ _ e
 rw [e1]at e
 have hr:s1.rd=r1:=by rw [f.rd];simp
 have hq:s1.wr=q1:=by rw [f.wr];simp
 rw [hr,hq]at e
 cases e
 refine⟨f.n,fun id h=>f.off id h,fun id h1 h2=>f.new id h1 h2,fun g Aa hg=> ?_⟩
 obtain⟨g',hp,eg⟩:=g1 g ⟨Aa,fun id h=>hg id h⟩
 exact⟨g',⟨fun J=>eg J⟩,hp.n,fun id h=>hp.on id h,fun id h=>hp.off id h⟩
end Go.Proofs.YtgjolijncmkkhaaGreatDoor
namespace Go.Proofs.YtgjolijncmkkhaaGreatDoor
open Go.RowKit
set_option linter.unusedVariables false
variable {P:Program}
def trk (ops:Array Oper) (R Q:Nat->Nat) (i:Nat) (o:Oper):Trk:=⟨Q i,Nat.lor (R i) (Q i),zdF o.dst,zfC ops o⟩
theorem zmR {b:Nat} {x:Trk}:∀(acc:List Trk) (k:Nat),zou b x k acc=true->acc.length=k->∀m,m<k->∀y,acc[k-1-m]? = some y->zej y x=true->b.testBit m=true
 | [],k,h,hl,m,hm,y,hy,hc=>by simp at hl;omega
 | z::acc,k,h,hl,m,hm,y,hy,hc=>by
  cases k with
  | zero=>omega
  | succ k=>
   unfold zou at h
   rw [Bool.and_eq_true]at h
   by_cases e:m=k
   ·subst e
    simp at hy
    subst hy
    rw [hc]at h
    simpa using h.1
   ·have:k+1-1-m=(k-1-m)+1:=by omega
    rw [this,List.getElem?_cons_succ]at hy
    exact zmR acc k h.2 (by simpa using hl) m (by omega) y hy hc
theorem zlT {E:zap} (hE:zbn E) {N:Nat} {ops:Array Oper}:∀(l:List Oper) (bef:Xh) (k:Nat) (acc:List Trk) (t t':TT) (s s':Hp),Tells (zgr P E N ops [] l bef k acc t) s t' s'->acc.length=k->
  ∃(S:Nat->Hp) (T:Nat->TT) (R Q:Nat->Nat),S 0=s∧T 0=t∧S l.length=s'∧T l.length=t'∧
   (∀(j:Nat) o,l[j]? = some o->Tells (mtrk (opK P E N ops o (T j,[]))) (S j) ((T (j+1),[]),R j,Q j) (S (j+1)))∧
   (∀(j:Nat) o,l[j]? = some o->(∀m,m<k->∀x,acc[k-1-m]? = some x->zej x (trk ops R Q j o)=true->(bef.getD j 0).testBit m=true)∧
    ∀(i:Nat) oi,i<j->l[i]? = some oi->zej (trk ops R Q i oi) (trk ops R Q j o)=true->(bef.getD j 0).testBit (k+i)=true)
 | [],bef,k,acc,t,t',s,s',h,hk=>by
  unfold zgr at h
  obtain⟨rfl,rfl⟩:=zad h
  exact⟨fun _=>s',fun _=>t',fun _=>0,fun _=>0,rfl,rfl,rfl,rfl,fun j o hj=>by simp at hj,fun j o hj=>by simp at hj⟩
 | o::l,bef,k,acc,t,t',s,s',h,hk=>by
  unfold zgr at h
  obtain⟨x,s1,h1,h2,_⟩:=zac (znu (zfE P hE N ops o _)) h
  obtain⟨⟨t1,Fa⟩,r,q⟩:=x
  simp only []at h2
  split at h2
  ·rename_i hc
   rw [Bool.and_eq_true]at hc
   have hd:Fa=[]:=by simpa using hc.1
   subst hd
   rw [forceN_eq]at h2
   obtain⟨S,T,R,Q,e1,e2,e3,e4,e5,e6⟩:=zlT hE l bef.tail (k+1) (⟨q,Nat.lor r q,zdF o.dst,zfC ops o⟩::acc) t1 t' s1 s' h2 (by simp [hk])
   refine⟨fun | 0=>s | j+1=>S j,fun | 0=>t | j+1=>T j,fun | 0=>r | j+1=>R j,fun | 0=>q | j+1=>Q j,rfl,rfl,e3,e4,fun j o' hj=> ?_,fun j o' hj=> ?_⟩
   ·cases j with
    | zero=>
     simp at hj
     subst hj
     show Tells _ s ((T 0,[]),r,q) (S 0)
     rw [e1,e2];exact h1
    | succ j=>exact e5 j o' (by simpa using hj)
   ·have Ca:∀j,bef.getD (j+1) 0=bef.tail.getD j 0:=fun j=>by cases bef<;>simp
    cases j with
    | zero=>
     simp at hj
     subst hj
     refine⟨fun m hm y hy Aa=> ?_,fun i oi hi=>by omega⟩
     have Da:bef.getD 0 0=bef.headD 0:=by cases bef<;>rfl
     rw [Da]
     exact zmR acc k hc.2 hk m hm y hy Aa
    | succ j=>
     obtain⟨f1,f2⟩:=e6 j o' (by simpa using hj)
     rw [Ca]
     refine⟨fun m hm y hy Aa=> ?_,fun i oi hi Ba Aa=> ?_⟩
     ·exact f1 m (by omega) y (by rw [show k+1-1-m=(k-1-m)+1 by omega,List.getElem?_cons_succ];exact hy) Aa
     ·cases i with
      | zero=>
       simp at Ba
       subst Ba
       exact f1 k (by omega) _ (by rw [show k+1-1-k=0 by omega];rfl) Aa
      | succ i=>
       have:=f2 i oi (by omega) (by simpa using Ba) Aa
       rw [show k+(i+1)=k+1+i by omega];exact this
  ·exact (zag h2).elim
def HLm (S:Nat->Hp) (Q:Nat->Nat) (L:Nat->Bool):Nat->Hf
 | 0=>(S 0).f
 | j+1=>fun id=>if L j && (Q j).testBit id then (S (j+1)).f id else HLm S Q L j id
def TLm (T:Nat->TT) (D:Nat->Option Tmp) (L:Nat->Bool):Nat->Nat->Xl
 | 0=>zaC (T 0)
 | j+1=>fun k=>if L j && decide (D j=some k) then zaC (T (j+1)) k else TLm T D L j k
section
variable {S:Nat->Hp} {Q:Nat->Nat} {T:Nat->TT} {D:Nat->Option Tmp} {L L':Nat->Bool} {n:Nat}
theorem zoC (hs:∀i id,i<n->(Q i).testBit id=false->(S (i+1)).f id=(S i).f id) {id:Nat}:∀m,m<=n->(∀j,j<m->L j=false->(Q j).testBit id=false)->HLm S Q L m id=(S m).f id
 | 0,_,_=>rfl
 | m+1,hm,h=>by
  have ih:=zoC hs m (by omega) fun j hj=>h j (by omega)
  show (if L m && (Q m).testBit id then (S (m+1)).f id else HLm S Q L m id)=_
  cases hq:(Q m).testBit id with
  | true=>
   cases hl:L m with
   | true=>rfl
   | false=>rw [h m (by omega) hl]at hq;cases hq
  | false=>rw [Bool.and_false];simp only [Bool.false_eq_true,if_false];rw [ih,hs m id (by omega) hq]
theorem zjJ {id:Nat} {m:Nat}:∀k,(∀j,m<=j->j<m+k->L j=true->(Q j).testBit id=false)->HLm S Q L (m+k) id=HLm S Q L m id
 | 0,_=>rfl
 | k+1,h=>by
  have ih:=zjJ k fun j h1 h2=>h j h1 (by omega)
  show (if L (m+k) && (Q (m+k)).testBit id then (S (m+k+1)).f id else HLm S Q L (m+k) id)=_
  rw [if_neg,ih]
  rw [Bool.and_eq_true]
  rintro⟨h1,h2⟩
  rw [h (m+k) (by omega) (by omega) h1]at h2;cases h2
theorem zrB {id i:Nat} (hL:∀j,j≠i->L' j=L j) (hq:(Q i).testBit id=false):∀m,HLm S Q L' m id=HLm S Q L m id
 | 0=>rfl
 | m+1=>by
  have ih:=zrB hL hq m
  show (if L' m && (Q m).testBit id then (S (m+1)).f id else HLm S Q L' m id)=(if L m && (Q m).testBit id then (S (m+1)).f id else HLm S Q L m id)
  rw [ih]
  by_cases e:m=i
  ·subst e;rw [hq];simp
  ·rw [hL m e]
theorem zoK (hs:∀i k,i<n->k<=255->D i≠some k->zaC (T (i+1)) k=zaC (T i) k) {k:Nat} (hk:k<=255):∀m,m<=n->(∀j,j<m->L j=false->D j≠some k)->TLm T D L m k=zaC (T m) k
 | 0,_,_=>rfl
 | m+1,hm,h=>by
  have ih:=zoK hs hk m (by omega) fun j hj=>h j (by omega)
  show (if L m && decide (D m=some k) then zaC (T (m+1)) k else TLm T D L m k)=_
  by_cases hq:D m=some k
  ·cases hl:L m with
   | true=>simp [hq]
   | false=>exact absurd hq (h m (by omega) hl)
  ·rw [if_neg (by simp [hq]),ih,hs m k (by omega) hk hq]
theorem zjg {k:Nat} {m:Nat}:∀j0,(∀j,m<=j->j<m+j0->L j=true->D j≠some k)->TLm T D L (m+j0) k=TLm T D L m k
 | 0,_=>rfl
 | j0+1,h=>by
  have ih:=zjg j0 fun j h1 h2=>h j h1 (by omega)
  show (if L (m+j0) && decide (D (m+j0)=some k) then zaC (T (m+j0+1)) k else TLm T D L (m+j0) k)=_
  rw [if_neg,ih]
  rw [Bool.and_eq_true,decide_eq_true_eq]
  rintro⟨h1,h2⟩
  exact h (m+j0) (by omega) (by omega) h1 h2
theorem zsg {k i:Nat} (hL:∀j,j≠i->L' j=L j) (hq:D i≠some k):∀m,TLm T D L' m k=TLm T D L m k
 | 0=>rfl
 | m+1=>by
  have ih:=zsg hL hq m
  show (if L' m && decide (D m=some k) then zaC (T (m+1)) k else TLm T D L' m k)=(if L m && decide (D m=some k) then zaC (T (m+1)) k else TLm T D L m k)
  rw [ih]
  by_cases e:m=i
  ·subst e;simp [hq]
  ·rw [hL m e]
end
theorem zhw {a b i:Nat} (ha:a.testBit i=true) (hb:b.testBit i=true):Nat.land a b≠0:=fun h=>by
 have:(a &&& b).testBit i=true:=by rw [Nat.testBit_and,ha,hb];rfl
 rw [show a &&& b=Nat.land a b from rfl,h]at this
 simp at this
theorem zeq {x y:Trk} {i:Nat} (h:(x.q.testBit i=true∧y.a.testBit i=true)∨(y.q.testBit i=true∧x.a.testBit i=true)∨(x.tw.testBit i=true∧y.ta.testBit i=true)∨(y.tw.testBit i=true∧x.ta.testBit i=true)):zej x y=true:=by
 unfold zej
 rw [Bool.not_eq_true',zms,decide_eq_false_iff_not]
 intro he
 have hz:∀{a b:Nat},Nat.lor a b=0->a=0∧b=0:=fun {a b} hab=>by
  have:a ||| b=0:=hab
  exact Nat.or_eq_zero_iff.1 this
 obtain⟨h1,h2⟩:=hz he
 obtain⟨h3,h4⟩:=hz h1
 obtain⟨h5,h6⟩:=hz h2
 rcases h with ⟨a,b⟩ | ⟨a,b⟩ | ⟨a,b⟩ | ⟨a,b⟩
 ·exact zhw a b h3
 ·exact zhw a b h4
 ·exact zhw a b h5
 ·exact zhw a b h6
end Go.Proofs.YtgjolijncmkkhaaGreatDoor
namespace Go.Proofs.YtgjolijncmkkhaaGreatDoor
open Go.RowKit
set_option linter.unusedVariables false
variable {P:Program}
theorem zry {S:Nat->Hp} {Q:Nat->Nat} {L:Nat->Bool} {id:Nat} (h:8191<id):∀m,HLm S Q L m id=none
 | 0=>if_neg (by omega)
 | m+1=>by
  show (if L m && (Q m).testBit id then (S (m+1)).f id else HLm S Q L m id)=none
  split
  ·exact if_neg (by omega)
  ·exact zry h m
def Lf (L:Array Bool) (j:Nat):Bool:=L.getD j false
def Cl (ops:Array Oper) (L:Array Bool):Prop:=∀j i,Lf L j=true->((Region.before ops).getD j 0).testBit i=true->Lf L i=true
theorem zxD (hm:P.follows .mixedOrders=true) {E:zap} (hE:zbn E) (hC:zcM P E) {ops:Array Oper} {N idr:Nat} {t t':TT} {a:Act} {w0 w:Xk} {B:Nat} {ρ0:Rn} {s s':Hp} (hed:zrT ops=true) (ha:ActR ρ0 N t [] a)
  (ht:Tells (zgr P E N ops [] ops.toList (Region.before ops).toList 0 [] t) s t' s') (H:HR w0 B ρ0 s.f w) (hfr:Free ρ0 s.n s'.n) {Q:Exit->Act->Xk->Prop} (hk:∀a' w',zfg w0 B ρ0 s s' N t' [] a' w'->Q .normal a' w') :
  (Code.region idr ops true).wp P Q a w:=by
 obtain⟨S,T,R,Qf,e1,e2,e3,e4,e5,e6⟩:=zlT hE _ _ _ _ _ _ _ _ ht rfl
 have va:∀(i:Nat) o,ops[i]? = some o->Tells (mtrk (opK P E N ops o (T i,[]))) (S i) ((T (i+1),[]),R i,Qf i) (S (i+1)):=fun i o ho=>e5 i o (by simpa using ho)
 have Ha:∀i,i<ops.size->∃o,ops[i]? = some o:=fun i hi=>⟨_,Array.getElem?_eq_getElem hi⟩
 have Bb:∀{i:Nat} {o:Oper},ops[i]? = some o->i<ops.size:=fun {i o} ho=>by
  rcases Nat.lt_or_ge i ops.size with h | h
  ·exact h
  ·rw [Array.getElem?_eq_none h]at ho;cases ho
 have na:ops.toList.length=ops.size:=Array.length_toList
 rw [na]at e3 e4
 have Ga:∀(i:Nat) o,ops[i]? = some o->_:=fun i o ho=>zvK (zfE P hE N ops o _) (va i o ho)
 have ya:∀i,i<ops.size->(S i).n<=(S (i+1)).n:=fun i hi=>let ⟨o,ho⟩:=Ha i hi;(Ga i o ho).1
 have Sa:∀k i,i+k<=ops.size->(S i).n<=(S (i+k)).n:=by
  intro k
  induction k with
  | zero=>exact fun i _=>Nat.le_refl _
  | succ k ih=>exact fun i h=>Nat.le_trans (ih i (by omega)) (ya (i+k) (by omega))
 have Ca:∀i j,i<=j->j<=ops.size->(S i).n<=(S j).n:=fun i j Ya hj=>by
  have:=Sa (j-i) i (by omega)
  rwa [show i+(j-i)=j by omega]at this
 have qa:∀i id,i<ops.size->(Qf i).testBit id=false->(S (i+1)).f id=(S i).f id:=fun i id hi h=>let ⟨o,ho⟩:=Ha i hi;(Ga i o ho).2.1 id h
 obtain⟨D,hD⟩:∃D:Nat->Option Tmp,D=fun i=>(ops[i]?).bind (·.dst):=⟨_,rfl⟩
 have Ja:∀{i:Nat} {o:Oper},ops[i]? = some o->D i=o.dst:=fun {i o} ho=>by rw [hD];simp only [ho];rfl
 have Ma:∀(i:Nat) o,ops[i]? = some o->∃g',Tells (opK P E N ops o (T i,[])) (S i) (T (i+1),[]) g':=fun i o ho=>by
  obtain⟨g',h1,_⟩:=(Ga i o ho).2.2.2 (S i) rfl fun _ _=>rfl
  exact⟨g',h1⟩
 have oa:∀i k,i<ops.size->k<=255->D i≠some k->zaC (T (i+1)) k=zaC (T i) k:=by
  intro i k hi hk hd
  obtain⟨o,ho⟩:=Ha i hi
  obtain⟨g',h1⟩:=Ma i o ho
  obtain⟨t2,_,hc⟩:=zmQ hE (fun _ _ _=>rfl) h1
  rcases hc with ⟨_,h2,_⟩ | ⟨d,v,h2,h3,h4,_⟩
  ·rw [h2]
  ·rw [h4,zdR _ d k _ (Nat.le_of_lt_succ (Nat.lt_of_lt_of_le h3 ha.le)) hk,if_neg]
   intro e;subst e
   exact hd ((Ja ho).trans h2)
 have ga:=zuI ops
 have pa:∀(i j:Nat) oi oj,i<j->ops[i]? = some oi->ops[j]? = some oj->zej (trk ops R Qf i oi) (trk ops R Qf j oj)=true->((Region.before ops).getD j 0).testBit i=true:=by
  intro i j oi oj Ya ua Ba hc
  have:=(e6 j oj (by simpa using Ba)).2 i oi Ya (by simpa using ua) hc
  rw [Nat.zero_add]at this
  rw [<-this]
  congr 1
  rw [Array.getD_eq_getD_getElem?,List.getD_eq_getElem?_getD,Array.getElem?_toList]
 have ba:∀{j i:Nat},((Region.before ops).getD j 0).testBit i=true->j<(Region.before ops).size:=fun {j i} h=>by
  rcases Nat.lt_or_ge j (Region.before ops).size with h' | h'
  ·exact h'
  ·rw [Array.getD_eq_getD_getElem?,Array.getElem?_eq_none h']at h;simp at h
 refine zds hm (fun L a w=>L.size=ops.size∧Cl ops L∧∃ρ,HR w0 B ρ (HLm S Qf (Lf L) ops.size) w∧ρ0.le ρ∧(∀id,ρ id=ρ0 id∨∃i,i<ops.size∧Lf L i=true∧(S i).n<=id∧id<(S (i+1)).n)∧
  a.tmps.size=N∧(∀k,k<=255->VL ρ (TLm T D (Lf L) ops.size k) (a.tmps.getD k undef))∧a.defers=[]) (fun L a w h=>h.1) ?_ ?_ ?_
 ·
  have fa:∀j,Lf (Array.replicate ops.size false) j=false:=fun j=>by
   show (Array.replicate ops.size false).getD j false=false
   rw [Array.getD_eq_getD_getElem?,Array.getElem?_replicate]
   split<;>rfl
  refine⟨by simp,(fun j i hj=>by rw [fa]at hj;cases hj),ρ0,?_,.rfl,fun id=>.inl rfl,ha.size,fun k hk=> ?_,?_⟩
  ·refine (H.drew _).congr fun id=> ?_
   have:=zjJ (S:=S) (Q:=Qf) (L:=Lf (Array.replicate ops.size false)) (id:=id) (m:=0) ops.size fun j _ _ hj=>by rw [fa]at hj;cases hj
   rw [Nat.zero_add]at this
   rw [this]
   show (S 0).f id=s.f id
   rw [e1]
  ·have:=zjg (T:=T) (D:=D) (L:=Lf (Array.replicate ops.size false)) (k:=k) (m:=0) ops.size fun j _ _ hj=>by rw [fa]at hj;cases hj
   rw [Nat.zero_add]at this
   rw [this]
   show VL ρ0 (zaC (T 0) k) _
   rw [e2];exact ha.tm k hk
  ·exact ha.df
 ·
  rintro L a1 w1 i o ⟨Va,Wa,ρ,H1,da,Da,ma,aa,ka⟩ hr ho
  have hi:=Bb ho
  have Pa:Lf L i=false:=by
   have:=zas Va hr
   show L.getD i false=false
   rw [Array.getD_eq_getD_getElem?,<-Array.getElem?_toList,this];rfl
  have Qa:∀j,((Region.before ops).getD i 0).testBit j=true->Lf L j=true:=by
   intro j hj
   obtain⟨o',e,h1,h2,h3,h4⟩:=ga i (ba hj) j hj
   rw [ho]at h1;cases h1
   have ra:Lf L e.on=true:=zai hr ho e.on (by
    rw [Array.any_eq_true']
    exact⟨e,Array.mem_toList_iff.1 h2,by simp [h3]⟩)
   rcases h4 with h4 | ⟨_,h4⟩
   ·rw [h4];exact ra
   ·exact Wa e.on j ra h4
  have Ka:∀j oj,ops[j]? = some oj->j<i->Lf L j=false->zej (trk ops R Qf j oj) (trk ops R Qf i o)=false:=fun j oj Ba ca hj=>by
   cases hc:zej (trk ops R Qf j oj) (trk ops R Qf i o)with
   | false=>rfl
   | true=>rw [Qa j (pa j i oj o ca Ba ho hc)]at hj;cases hj
  have Fa:∀j oj,ops[j]? = some oj->i<j->Lf L j=true->zej (trk ops R Qf i o) (trk ops R Qf j oj)=false:=fun j oj Ba Ya hj=>by
   cases hc:zej (trk ops R Qf i o) (trk ops R Qf j oj)with
   | false=>rfl
   | true=>rw [Wa j i hj (pa i j o oj Ya ho Ba hc)]at Pa;cases Pa
  have Aa:∀m,m<=ops.size->m+(ops.size-m)=ops.size:=fun m hm=>by omega
  have za:∀{x y:Nat},(Nat.lor x y)=x ||| y:=fun {x y}=>rfl
  have hA:∀id,(R i ||| Qf i).testBit id=true->HLm S Qf (Lf L) ops.size id=(S i).f id:=by
   intro id Za
   have h1:HLm S Qf (Lf L) i id=(S i).f id:=zoC qa i (by omega) fun j hj hl=>by
    obtain⟨oj,Ba⟩:=Ha j (by omega)
    cases hq:(Qf j).testBit id with
    | false=>rfl
    | true=>
     have:=Ka j oj Ba hj hl
     rw [zeq (x:=trk ops R Qf j oj) (y:=trk ops R Qf i o) (i:=id) (.inl ⟨hq,Za⟩)]at this;cases this
   have h2:=zjJ (S:=S) (Q:=Qf) (L:=Lf L) (id:=id) (m:=i) (ops.size-i) fun j h1 h2 hl=>by
    have ia:j≠i:=fun e=>by subst e;rw [Pa]at hl;cases hl
    obtain⟨oj,Ba⟩:=Ha j (by omega)
    cases hq:(Qf j).testBit id with
    | false=>rfl
    | true=>
     have:=Fa j oj Ba (by omega) hl
     rw [zeq (x:=trk ops R Qf i o) (y:=trk ops R Qf j oj) (i:=id) (.inr (.inl ⟨hq,Za⟩))]at this;cases this
   rw [Aa i (by omega)]at h2
   rw [h2,h1]
  have Na:∀{x:Option Tmp} {k:Nat},x=some k->(zdF x).testBit k=true:=fun {x k} hx=>by rw [hx];exact zep k
  have hT:∀k,k<=255->Nm ops o k->TLm T D (Lf L) ops.size k=zaC (T i) k:=by
   intro k hk Ua
   have h1:TLm T D (Lf L) i k=zaC (T i) k:=zoK oa hk i (by omega) fun j hj hl hd=>by
    obtain⟨oj,Ba⟩:=Ha j (by omega)
    have:=Ka j oj Ba hj hl
    rw [zeq (x:=trk ops R Qf j oj) (y:=trk ops R Qf i o) (i:=k) (.inr (.inr (.inl ⟨Na ((Ja Ba).symm.trans hd),Ua⟩)))]at this;cases this
   have h2:=zjg (T:=T) (D:=D) (L:=Lf L) (k:=k) (m:=i) (ops.size-i) fun j h1 h2 hl hd=>by
    have ia:j≠i:=fun e=>by subst e;rw [Pa]at hl;cases hl
    obtain⟨oj,Ba⟩:=Ha j (by omega)
    have:=Fa j oj Ba (by omega) hl
    rw [zeq (x:=trk ops R Qf i o) (y:=trk ops R Qf j oj) (i:=k) (.inr (.inr (.inr ⟨Na ((Ja Ba).symm.trans hd),Ua⟩)))]at this;cases this
   rw [Aa i (by omega)]at h2
   rw [h2,h1]
  obtain⟨g,ea,ja,_,_⟩:=zAq (HLm S Qf (Lf L) ops.size) (S i).n fun id h=>zry h _
  obtain⟨tL,Xa⟩:=zAp (TLm T D (Lf L) ops.size)
  obtain⟨g',k1,k2,k3,k4⟩:=(Ga i o ho).2.2.2 g ja fun id h=>by rw [ea];exact hA id h
  obtain⟨Ab,k5,k6⟩:=zmQ hE (t2:=tL) (fun k hk Ua=>by rw [Xa k hk];exact hT k hk Ua) k1
  have ta:ActR ρ N tL [] a1:=⟨ma,ha.le,fun k hk=>by rw [Xa k hk];exact aa k hk,ka⟩
  have Ra:Free ρ g.n g'.n:=by
   intro id h1 h2
   rw [ja]at h1
   rw [k2]at h2
   rcases Da id with h | ⟨j,hj,hlj,h3,h4⟩
   ·rw [h]
    refine hfr id ?_ ?_
    ·rw [<-e1];exact Nat.le_trans (Ca 0 i (by omega) (by omega)) h1
    ·rw [<-e3];exact Nat.lt_of_lt_of_le h2 (Ca (i+1) ops.size (by omega) (by omega))
   ·exfalso
    have ia:j≠i:=fun e=>by subst e;rw [Pa]at hlj;cases hlj
    rcases Nat.lt_or_gt_of_ne ia with ca | ca
    ·have:=Ca (j+1) i (by omega) (by omega);omega
    ·have:=Ca (i+1) j (by omega) (by omega);omega
  refine zrS hE hC ta k5 (by rw [ea];exact H1) Ra Q fun a2 w2 wa=> ?_
  obtain⟨ρ2,H2,sa,la⟩:=wa
  have Oa:∀j,Lf (L.setIfInBounds i true) j=if j=i then true else Lf L j:=fun j=>by
   show (L.setIfInBounds i true).getD j false=if j=i then true else L.getD j false
   rw [Array.getD_eq_getD_getElem?,Array.getD_eq_getD_getElem?,Array.getElem?_setIfInBounds]
   by_cases e:i=j
   ·subst e;rw [if_pos rfl,if_pos rfl,if_pos (by omega)];rfl
   ·rw [if_neg e,if_neg (fun h=>e h.symm)]
  have Ia:∀j,j≠i->Lf (L.setIfInBounds i true) j=Lf L j:=fun j hj=>by rw [Oa,if_neg hj]
  refine⟨by simp [Va],fun j i' hj hb=> ?_,ρ2,?_,da.trans sa.le,fun id=> ?_,la.size,fun k hk=> ?_,la.df⟩
  ·rw [Oa]at hj ⊢
   by_cases e:i'=i
   ·rw [if_pos e]
   ·rw [if_neg e]
    by_cases e2:j=i
    ·subst e2;exact Qa i' hb
    ·rw [if_neg e2]at hj;exact Wa j i' hj hb
  ·refine H2.congr fun id=> ?_
   cases hq:(Qf i).testBit id with
   | false=>rw [zrB Ia hq,k4 id hq,ea]
   | true=>
    rw [k3 id hq]
    have h1:HLm S Qf (Lf (L.setIfInBounds i true)) (i+1) id=(S (i+1)).f id:=by
     show (if Lf (L.setIfInBounds i true) i && (Qf i).testBit id then _ else _)=_
     rw [Oa,if_pos rfl,hq];rfl
    have h2:=zjJ (S:=S) (Q:=Qf) (L:=Lf (L.setIfInBounds i true)) (id:=id) (m:=i+1) (ops.size-(i+1)) fun j h1 h2 hl=>by
     rw [Ia j (by omega)]at hl
     obtain⟨oj,Ba⟩:=Ha j (by omega)
     cases hq2:(Qf j).testBit id with
     | false=>rfl
     | true=>
      have:=Fa j oj Ba (by omega) hl
      rw [zeq (x:=trk ops R Qf i o) (y:=trk ops R Qf j oj) (i:=id) (.inl ⟨hq,by show (R j ||| Qf j).testBit id=true;rw [Nat.testBit_or,hq2];simp⟩)]at this;cases this
    rw [Aa (i+1) (by omega)]at h2
    rw [h2,h1]
  ·by_cases hin:g.n<=id∧id<g'.n
   ·exact .inr ⟨i,hi,by rw [Oa,if_pos rfl],by rw [<-ja];exact hin.1,by rw [<-k2];exact hin.2⟩
   ·rw [sa.out id hin]
    rcases Da id with h | ⟨j,h1,h2,h3⟩
    ·exact .inl h
    ·refine .inr ⟨j,h1,?_,h3⟩
     rw [Oa];split
     ·rfl
     ·exact h2
  ·have hv:=la.tm k hk
   have Ta:TLm T D (Lf (L.setIfInBounds i true)) ops.size k=zaC Ab k:=by
    by_cases hd:D i=some k
    ·have h1:TLm T D (Lf (L.setIfInBounds i true)) (i+1) k=zaC (T (i+1)) k:=by
      show (if Lf (L.setIfInBounds i true) i && decide (D i=some k) then _ else _)=_
      rw [Oa,if_pos rfl];simp [hd]
     have h2:=zjg (T:=T) (D:=D) (L:=Lf (L.setIfInBounds i true)) (k:=k) (m:=i+1) (ops.size-(i+1)) fun j h1 h2 hl xa=>by
      rw [Ia j (by omega)]at hl
      obtain⟨oj,Ba⟩:=Ha j (by omega)
      have:=Fa j oj Ba (by omega) hl
      rw [zeq (x:=trk ops R Qf i o) (y:=trk ops R Qf j oj) (i:=k) (.inr (.inr (.inl ⟨Na ((Ja ho).symm.trans hd),zAk ((Ja Ba).symm.trans xa)⟩)))]at this;cases this
     rw [Aa (i+1) (by omega)]at h2
     rw [h2,h1]
     rcases k6 with ⟨f1,_,_⟩ | ⟨d,v,f1,f2,f3,f4⟩
     ·rw [Ja ho,f1]at hd;cases hd
     ·have:d=k:=by rw [Ja ho,f1]at hd;exact Option.some.inj hd
      subst this
      rw [f3,f4,zdR _ d d _ hk hk,zdR _ d d _ hk hk]
      simp
    ·rw [zsg Ia hd]
     rcases k6 with ⟨_,_,f3⟩ | ⟨d,v,f1,f2,_,f4⟩
     ·rw [f3,Xa k hk]
     ·rw [f4,zdR _ d k _ (Nat.le_of_lt_succ (Nat.lt_of_lt_of_le f2 ha.le)) hk,if_neg,Xa k hk]
      intro e;subst e
      exact hd ((Ja ho).trans f1)
   rw [Ta];exact hv
 ·
  rintro L a1 w1 ⟨Va,Wa,ρ,H1,da,Da,ma,aa,ka⟩ hr
  have La:∀j,j<ops.size->Lf L j=true:=fun j hj=>zcp Va hed hr (j+1) j (by omega) hj
  refine hk a1 w1 ⟨ρ,?_,⟨da,fun id Za=> ?_⟩,ma,ha.le,fun k hk=> ?_,ka⟩
  ·refine H1.congr fun id=> ?_
   rw [zoC qa ops.size (Nat.le_refl _) (fun j hj hl=>by rw [La j hj]at hl;cases hl),e3]
  ·rcases Da id with h | ⟨j,h1,h2,h3,h4⟩
   ·exact h
   ·exfalso
    refine Za ⟨?_,?_⟩
    ·rw [<-e1];exact Nat.le_trans (Ca 0 j (by omega) (by omega)) h3
    ·rw [<-e3];exact Nat.lt_of_lt_of_le h4 (Ca (j+1) ops.size (by omega) (by omega))
  ·have:=aa k hk
   rw [zoK oa hk ops.size (Nat.le_refl _) (fun j hj hl=>by rw [La j hj]at hl;cases hl),e4]at this
   exact this
end Go.Proofs.YtgjolijncmkkhaaGreatDoor
namespace Go.Proofs.YtgjolijncmkkhaaGreatDoor
open Go.RowKit
set_option linter.unusedVariables false
variable {P:Program}
def ziA (P:Program) (Ev:EvT):Prop:=∀(c:Code) (N:Nat) (t:TT) (ds:List Deferred) (s s':Hp) (e:Exit) (t':TT) (ds':List Deferred),Tells (Ev c N (t,ds)) s (e,t',ds') s'->
 ∀(w0:Xk) (B:Nat) (ρ:Rn) (w:Xk) (a:Act) (Q:Exit->Act->Xk->Prop),ActR ρ N t ds a->HR w0 B ρ s.f w->Free ρ s.n s'.n->(∀a' w',zfg w0 B ρ s s' N t' ds' a' w'->Q e a' w')->c.wp P Q a w
theorem znw {ρ:Rn} {N:Nat} {t:TT} {ds:List Deferred} {a:Act} (ha:ActR ρ N t ds a) (hg:Glo' ρ) {c:Operand} {b:Bool} (h:aev t c=some (.bool b)):a.eval c=.bool b:=VL.bool.1 (zvM ha hg c _ h)
theorem zke {w0:Xk} {B:Nat} {ρ ρ1:Rn} {s s1 s':Hp} {N:Nat} {t':TT} {ds':List Deferred} {a':Act} {w':Xk} (hE:Ext ρ ρ1 s.n s1.n) (h1:s.n<=s1.n) (h2:s1.n<=s'.n) (h:zfg w0 B ρ1 s1 s' N t' ds' a' w'):zfg w0 B ρ s s' N t' ds' a' w':=by
 obtain⟨ρ',H',Aa,Ba⟩:=h
 exact⟨ρ',H',hE.trans Aa h1 h2,Ba⟩
theorem zuL (hm:P.follows .mixedOrders=true) {Ev:EvT} {E:zap} (hv:∀c N a,Good (Ev c N a)) (hE:zbn E) (hC:zcM P E) (hok:ziA P Ev)
  (hloop:∀c,∀(N:Nat) (t:TT) (ds:List Deferred) (s s':Hp) (e:Exit) (t':TT) (ds':List Deferred),Tells (zaj (Ev c N (t,ds)) (zem Ev (.loop c) N)) s (e,t',ds') s'->
   ∀(w0:Xk) (B:Nat) (ρ:Rn) (w:Xk) (a:Act) (Q:Exit->Act->Xk->Prop),ActR ρ N t ds a->HR w0 B ρ s.f w->Free ρ s.n s'.n->(∀a' w',zfg w0 B ρ s s' N t' ds' a' w'->Q e a' w')->(Code.loop c).wp P Q a w):ziA P (zpb P Ev E):=by
 intro c N t ds s s' e t' ds' ht w0 B ρ w a Q ha H Ba hQ
 have Aa:Tells ((stp P c).f Ev E N (t,ds)) s (e,t',ds') s':=ht
 unfold stp at Aa
 have Qa:(e=.normal∧t'=t∧ds'=ds∧s'=s)->Q .normal a w:=by
  rintro⟨rfl,rfl,rfl,rfl⟩
  exact hQ _ _ ⟨ρ,H,.rfl,ha⟩
 split at Aa
 ·obtain⟨h1,rfl⟩:=zad Aa
  cases h1
  exact wp_skip (hQ _ _ ⟨ρ,H,.rfl,ha⟩)
 ·obtain⟨h1,rfl⟩:=zad Aa
  cases h1
  exact wp_label (hQ _ _ ⟨ρ,H,.rfl,ha⟩)
 ·rename_i id Ja
  obtain⟨x,s1,k1,k2,_⟩:=zac (zgx P hE _ _ _ _) Aa
  obtain⟨h1,rfl⟩:=zad k2
  cases h1
  refine wp_region ?_
  have:=zpO hE hC Ja.toList 0 t ds a w ρ s (fun j o hj=>by simpa using hj) ha k1 H Ba hQ
  rw [Array.length_toList,<-List.range_eq_range']at this
  exact this
 ·rename_i id Ja
  have Ca:Tells (zir P E Ja N (t,ds)) s (e,t',ds') s':=Aa
  unfold zir at Ca
  split at Ca
  ·rename_i t0 Ra Ka
   cases Ka
   obtain⟨x,s1,k1,k2,_⟩:=zac (zhk P hE _ _ _ _ _ _ _ _) Ca
   obtain⟨h1,rfl⟩:=zad k2
   cases h1
   exact zxD hm hE hC Ra ha k1 H Ba hQ
  ·exact (zag Ca).elim
 ·rename_i x y
  obtain⟨z,s1,k1,k2,Ha⟩:=zac (hv _ _ _) Aa
  obtain⟨e1,t1,Ga⟩:=z
  have Oa:Good (zem Ev y N (e1,t1,Ga)):=by
   unfold zem
   split
   ·exact hv _ _ _
   ·exact zaf _
  have Ma:=k2.le Oa
  refine wp_seq ?_
  refine hok x N t ds s s1 e1 t1 Ga k1 w0 B ρ w a _ ha H (Ba.left Ma) fun a1 w1 hA=> ?_
  obtain⟨ρ1,H1,Na,Sa⟩:=id hA
  cases e1 with
  | normal=>exact hok y N t1 Ga s1 s' e t' ds' k2 w0 B ρ1 w1 a1 Q Sa H1 (Ba.right Ha Na) fun a2 w2 Pa=>hQ _ _ (zke Na Ha Ma Pa)
  | _=>
   obtain⟨h1,rfl⟩:=zad k2
   cases h1
   exact hQ _ _ hA
 ·rename_i c x y
  have Ca:Tells (ziI Ev c x y N (t,ds)) s (e,t',ds') s':=Aa
  unfold ziI at Ca
  split at Ca
  ·rename_i hc
   exact wp_cond_true (znw ha H.glo hc) (hok x N t ds s s' e t' ds' Ca w0 B ρ w a Q ha H Ba hQ)
  ·rename_i hc
   exact wp_cond_false (znw ha H.glo hc) (hok y N t ds s s' e t' ds' Ca w0 B ρ w a Q ha H Ba hQ)
  ·exact (zag Ca).elim
 ·rename_i Ia c
  obtain⟨z,s1,k1,k2,Ha⟩:=zac (hv _ _ _) Aa
  obtain⟨e1,t1,Ga⟩:=z
  refine wp_block ?_
  unfold zmh at k2
  split at k2
  ·rename_i Fa x Ka
   cases Ka
   split at k2
   ·rename_i Da
    have Da:=Nat.eq_of_beq_eq_true Da
    obtain⟨h1,rfl⟩:=zad k2
    cases h1
    refine hok c N t ds s _ _ t' ds' k1 w0 B ρ w a _ ha H Ba fun a1 w1 hA=> ?_
    show (if Fa=Ia then Q .normal a1 w1 else Q (.exit Fa) a1 w1)
    rw [if_pos Da];exact hQ _ _ hA
   ·rename_i Da
    have Da:¬ Fa=Ia:=fun h=>by subst h;rw [Nat.beq_refl]at Da;cases Da
    obtain⟨h1,rfl⟩:=zad k2
    cases h1
    refine hok c N t ds s _ _ t' ds' k1 w0 B ρ w a _ ha H Ba fun a1 w1 hA=> ?_
    show (if Fa=Ia then Q .normal a1 w1 else Q (.exit Fa) a1 w1)
    rw [if_neg Da];exact hQ _ _ hA
  ·rename_i La
   obtain⟨h1,rfl⟩:=zad k2
   cases h1
   refine hok c N t ds s _ _ t' ds' k1 w0 B ρ w a _ ha H Ba fun a1 w1 hA=> ?_
   cases e with
   | exit Fa=>exact (La Fa (t',ds') rfl).elim
   | _=>exact hQ _ _ hA
 ·rename_i c
  exact hloop c N t ds s s' e t' ds' Aa w0 B ρ w a Q ha H Ba hQ
 ·rename_i c
  obtain⟨z,s1,k1,k2,Ha⟩:=zac (hv _ _ _) Aa
  obtain⟨e1,t1,Ga⟩:=z
  refine wp_scope_straight ?_
  unfold zmf at k2
  split at k2
  ·exact (zag k2).elim
  ·rename_i La
   obtain⟨h1,rfl⟩:=zad k2
   cases h1
   refine hok c N t ds s _ _ t' ds' k1 w0 B ρ w a _ ha H Ba fun a1 w1 hA=> ?_
   cases e with
   | goto l=>exact (La l (t',ds') rfl).elim
   | _=>exact hQ _ _ hA
 ·obtain⟨h1,rfl⟩:=zad Aa
  cases h1
  exact wp_exit (hQ _ _ ⟨ρ,H,.rfl,ha⟩)
 ·obtain⟨h1,rfl⟩:=zad Aa
  cases h1
  exact wp_ret (hQ _ _ ⟨ρ,H,.rfl,ha⟩)
 ·exact (zag Aa).elim
theorem zoc {t:Xm} {a:Addr} {v:Xl} {w w':Xk} (h:(loadVar t a).run P w=.ok v w'):w'=w:=by
 unfold loadVar at h
 rw [Sem.run_bind]at h
 have Ba:∀r,(isAgg t).run P w=r->(∃b,r=.ok b w)∨∃e,r=.halt e w:=by
  intro r hr
  unfold isAgg underlying at hr
  simp only [Sem.run_bind,run_program,Result.andThen]at hr
  split at hr
  ·rename_i x wx hx
   split at hx
   ·cases hx
    split at hr<;>exact .inl ⟨_,hr.symm⟩
   ·cases hx
  ·rename_i x wx hx
   split at hx
   ·cases hx
   ·cases hx;exact .inr ⟨_,hr.symm⟩
 have Aa:∀r,(Go.sizeOf t).run P w=r->(∃b,r=.ok b w)∨∃e,r=.halt e w:=by
  intro r hr
  unfold Go.sizeOf typeInfo at hr
  simp only [Sem.run_bind,run_program,Result.andThen]at hr
  split at hr
  ·rename_i x wx hx
   split at hx
   ·cases hx;exact .inl ⟨_,hr.symm⟩
   ·cases hx
  ·rename_i x wx hx
   split at hx
   ·cases hx
   ·cases hx;exact .inr ⟨_,hr.symm⟩
 rcases Ba _ rfl with ⟨b,hb⟩ | ⟨e,he⟩
 ·rw [hb]at h
  simp only [Result.andThen]at h
  cases b with
  | true=>
   simp only [if_true,Sem.run_bind]at h
   rcases Aa _ rfl with ⟨n,hn⟩ | ⟨e,he⟩
   ·rw [hn]at h
    simp only [Result.andThen]at h
    cases hl:(loadCells a n).run P w with
    | ok arr w2=>
     rw [hl]at h
     simp only [Sem.run_pure,Result.ok.injEq]at h
     have:=zhr n 0 a #[] arr w w2 hl
     rw [<-h.2,this]
    | halt e w2=>rw [hl]at h;cases h
   ·rw [he]at h;cases h
  | false=>
   simp only [Bool.false_eq_true,if_false]at h
   rw [run_load]at h
   split at h
   ·cases h;rfl
   ·split at h
    ·cases h;rfl
    ·cases h
 ·rw [he]at h;cases h
def resF (tmps:Array Xl):ResultVar->Sem Xl
 | .tmp t=>Pure.pure (tmps.getD t undef)
 | .cell a t=>do loadVar t (<-asAddr (tmps.getD a undef))
theorem zmx {ρ:Rn} {N:Nat} {t:TT} {ds:List Deferred} {a:Act} {w0 w:Xk} {B:Nat} (ha:ActR ρ N t ds a):∀(l:List ResultVar) (s s':Hp) (vs:Xj),Tells (resK P t l) s vs s'->HR w0 B ρ s.f w->
  s'.f=s.f∧s'.n=s.n∧∃vs',(l.mapM (resF a.tmps)).run P w=.ok vs' w∧LR (VL ρ) vs vs'
 | [],s,s',vs,ht,H=>by
  obtain⟨rfl,rfl⟩:=zad ht
  exact⟨rfl,rfl,[],rfl,rfl⟩
 | .tmp k::l,s,s',vs,ht,H=>by
  unfold resK at ht
  split at ht
  ·rename_i hk
   obtain⟨us,s1,k1,k2,_⟩:=zac (zbf P t l) ht
   obtain⟨rfl,rfl⟩:=zad k2
   obtain⟨f1,f2,Aa,f3,f4⟩:=zmx ha l s _ us k1 H
   refine⟨f1,f2,a.tmps.getD k undef::Aa,?_,_,Aa,rfl,ha.tm k (Nat.le_of_ble_eq_true hk),f4⟩
   simp only [List.mapM_cons,Sem.run_bind,resF,Sem.run_pure,Result.andThen,f3]
  ·exact (zag ht).elim
 | .cell k ty::l,s,s',vs,ht,H=>by
  unfold resK at ht
  split at ht
  ·rename_i x hk hx
   obtain⟨v,s1,k1,k2,Fa⟩:=zac (zhh _ _ _) ht
   obtain⟨us,s2,k3,k4,_⟩:=zac (zbf P t l) k2
   obtain⟨rfl,rfl⟩:=zad k4
   have hr:=ha.tm k (Nat.le_of_ble_eq_true hk)
   rw [hx]at hr
   obtain⟨_,p,hp,e1⟩:=VL.ptr.1 hr
   have Ca:s1.f=s.f∧s1.n=s.n:=by
    cases hg:zgk P ty with
    | none=>rw [hg]at k1;cases hz:szOf P ty<;>(rw [hz]at k1;exact (zag k1).elim)
    | some b=>
     cases hz:szOf P ty with
     | none=>rw [hg,hz]at k1;cases b<;>exact (zag k1).elim
     | some n=>
      rw [hg,hz]at k1
      cases b with
      | true=>
       obtain⟨xs,s3,j1,j2,_⟩:=zac (zao _ _) k1
       obtain⟨_,rfl⟩:=zad j2
       obtain⟨_,_,_,_,_,_,_,_,_,g1,g2⟩:=zbd j1
       exact⟨g1,g2⟩
      | false=>
       obtain⟨xs,s3,j1,j2,_⟩:=zac (zao _ _) k1
       obtain⟨_,rfl⟩:=zco j2
       obtain⟨_,_,_,_,_,_,_,_,_,g1,g2⟩:=zbd j1
       exact⟨g1,g2⟩
   obtain⟨v',w',ρ',Ba,H',hE,hv⟩:=znq (P:=P) ty (e1 ▸ hr) w0 B s s1 v ρ w .rfl k1 H (fun id h1 h2=>by omega)
   have hρ:ρ'=ρ:=by funext id;exact hE.out id (by omega)
   subst hρ
   have hw:w'=w:=zoc Ba
   subst hw
   obtain⟨f1,f2,Aa,f3,f4⟩:=zmx ha l s1 _ us k3 (by rw [Ca.1];exact H)
   refine⟨f1.trans Ca.1,f2.trans Ca.2,v'::Aa,?_,v',Aa,rfl,hv,f4⟩
   have Da:∀w,(asAddr (a.tmps.getD k undef)).run P w=.ok ⟨p.blk,p.off+x.off,none⟩ w:=fun w=>by rw [e1];rfl
   simp only [List.mapM_cons,Sem.run_bind,resF,Da,Result.andThen,Ba,f3,Sem.run_pure]
  ·exact (zag ht).elim
theorem zjS {ρ:Rn} {N:Nat} {t:TT} {ds:List Deferred} {a:Act} {w0 w:Xk} {B:Nat} (ha:ActR ρ N t ds a) {fn:Func} {s s':Hp} {vs:Xj} (ht:Tells (resK P t fn.results.toList) s vs s') (H:HR w0 B ρ s.f w) :
  s'.f=s.f∧s'.n=s.n∧∃v',(results fn a.tmps).run P w=.ok v' w∧VL ρ (tupK vs) v':=by
 obtain⟨f1,f2,Aa,f3,f4⟩:=zmx ha _ s s' vs ht H
 refine⟨f1,f2,?_⟩
 have Ca:(fn.results.mapM (resF a.tmps)).run P w=.ok ⟨Aa⟩ w:=by
  rw [Array.mapM_eq_mapM_toList,Sem.run_map,f3];rfl
 have Ba:(results fn a.tmps).run P w=.ok (if h:(⟨Aa⟩:Array Xl).size=1 then (⟨Aa⟩:Array Xl)[0] else .tuple ⟨Aa⟩) w:=by
  have:results fn a.tmps=(do let vs <-fn.results.mapM (resF a.tmps);Pure.pure (if h:vs.size=1 then vs[0] else .tuple vs)):=rfl
  rw [this,Sem.run_bind,Ca]
  rfl
 refine⟨_,Ba,?_⟩
 match vs,Aa,f4 with
 | [],_,e=>subst e;exact VL.tuple.2 ⟨[],rfl,rfl⟩
 | [v],_,⟨v',tl,e,hv,htl⟩=>
  have:tl=[]:=htl
  subst this
  subst e
  exact hv
 | v::u::l,_,⟨v',tl,e,hv,u',tl2,e2,hu,htl⟩=>
  subst e2
  subst e
  rw [dif_neg (by simp)]
  exact VL.tuple.2 ⟨_,rfl,v',_,rfl,hv,u',tl2,rfl,hu,htl⟩
end Go.Proofs.YtgjolijncmkkhaaGreatDoor
namespace Go.Proofs.YtgjolijncmkkhaaGreatDoor
open Go.RowKit
set_option linter.unusedVariables false
variable {P:Program}
def NoGo (P:Program):Prop:=∀(f:Nat) (fn:Func),P.funcs[f]? = some fn->fn.name≠ "runtime.NumGoroutine"
def zby (P:Program) (X:Hook):Prop:=∀f vs F,X f vs=some F->∀(s s':Hp) (v:Xl),F s=some (v,s')->∀(w0:Xk) (B:Nat) (ρ:Rn) (w:Xk) (vs':Xj),HR w0 B ρ s.f w->LR (VL ρ) vs vs'->Free ρ s.n s'.n->
 Went P ((callFunc f ⟨vs'⟩).run P w) (Post w0 B ρ s s' v)
def zjE (P:Program) (g:FuncId) (vs:Xj) (F:Hp->Option (Xl×Hp)):Prop:=∀(s s':Hp) (v:Xl),F s=some (v,s')->∀(w0:Xk) (B:Nat) (ρ:Rn) (w:Xk) (vs':Xj),HR w0 B ρ s.f w->LR (VL ρ) vs vs'->Free ρ s.n s'.n->
 (callFunc g ⟨vs'⟩).run P w=.ok (.enter g ⟨vs'⟩) w∧CallsD P g ⟨vs'⟩ .returning w fun e u' w'=>u'=.returning∧(∃v',e=.returned v')∧∃ρ',HR w0 B ρ' s'.f w'∧Ext ρ ρ' s.n s'.n
def zgF (P:Program) (D:Hook):Prop:=∀g vs F,D g vs=some F->zjE P g vs F
theorem zlN:∀(l:Xj) (t t':TT) (k:Nat) (s s':Hp),k+l.length<=256->Tells (zeK t k l) s t' s'->s'=s∧∀j,j<=255->zaC t' j=if k<=j∧j<k+l.length then (l[j-k]?).getD unV else zaC t j
 | [],t,t',k,s,s',hk,h=>by
  unfold zeK at h
  obtain⟨rfl,rfl⟩:=zad h
  exact⟨rfl,fun j hj=>by rw [if_neg (by simp)]⟩
 | v::l,t,t',k,s,s',hk,h=>by
  simp only [List.length_cons]at hk
  unfold zeK at h
  obtain⟨t1,s1,h1,h2,_⟩:=zac (by rw [tset8_eq];exact zaf _) h
  rw [tset8_eq]at h1
  obtain⟨rfl,rfl⟩:=zad h1
  rw [forceN_eq]at h2
  obtain⟨rfl,h3⟩:=zlN l _ t' (k+1) _ s' (by omega) h2
  refine⟨rfl,fun j hj=> ?_⟩
  rw [h3 j hj,zdR _ k j _ (by omega) hj]
  simp only [List.length_cons]
  by_cases e:k=j
  ·subst e
   rw [if_neg (by omega),if_pos rfl,if_pos (by omega)]
   simp
  ·by_cases h4:k+1<=j∧j<k+1+l.length
   ·rw [if_pos h4,if_pos (by omega),show j-k=(j-(k+1))+1 by omega]
    simp
   ·rw [if_neg h4,if_neg e,if_neg (by omega)]
theorem zqw {ρ:Rn} {vs vs':Xj} {t:TT} {N:Nat} {s s':Hp} (hN:N<=256) (hl:vs.length<=N) (hvs:LR (VL ρ) vs vs') (ht:Tells (zeK (tmk8 unV) 0 vs) s t s') :
  s'=s∧ActR ρ N t [] { tmps:=(⟨vs'⟩:Array Xl)++Array.replicate (N-(⟨vs'⟩:Array Xl).size) undef,defers:=[] }:=by
 obtain⟨h1,h2⟩:=zlN vs _ t 0 s s' (by omega) ht
 have Aa:=hvs.len
 refine⟨h1,?_,hN,fun k hk=> ?_,rfl⟩
 ·simp;omega
 ·rw [h2 k hk,zpp]
  simp only [Array.getD_eq_getD_getElem?,Nat.zero_le,true_and,Nat.zero_add,Nat.sub_zero]
  by_cases hlt:k<vs.length
  ·rw [if_pos hlt,Array.getElem?_append_left (by simp;omega)]
   obtain⟨v',e1,hv⟩:=hvs.at (List.getElem?_eq_getElem hlt)
   rw [List.getElem?_eq_getElem hlt]
   have:(⟨vs'⟩:Array Xl)[k]? = some v':=by simpa using e1
   rw [this];exact hv
  ·rw [if_neg hlt,Array.getElem?_append_right (by simp;omega),Array.getElem?_replicate]
   split<;>exact zkI
theorem zmW (hN:NoGo P) {f:FuncId} {fn:Func} {c:Code} (hf:P.funcs[f]? = some fn) (hb:fn.body=some c) (args:Array Xl) (w:Xk):(callFunc f args).run P w=.ok (.enter f args) w:=by
 simp [callFunc,hf,hN f fn hf,hb]
theorem zsj {fn:Func} {args:Xj} {c:Code} {b:Bool} (h:fn.body=some c) (hb:(Nat.ble fn.ntmps 256 && Nat.ble args.length fn.ntmps)=true):fn.ntmps<=256∧args.length<=fn.ntmps:=by
 rw [Bool.and_eq_true]at hb
 exact⟨Nat.le_of_ble_eq_true hb.1,Nat.le_of_ble_eq_true hb.2⟩
theorem ziO {F:M Xl} (hF:Good F) {s s':Hp} {v:Xl} (h:F.run s (fun v s=>some (v,s))=some (v,s')):Tells F s v s':=by
 obtain⟨a,s1,r,q,e,f,_⟩:=hF.ok s _ _ h
 have:=(e fun v s=>some (v,s)).symm.trans h
 cases this
 exact⟨fun J=>e J⟩
theorem zpn (hN:NoGo P) {X:Hook} {Ev:EvT} (hv:∀c N a,Good (Ev c N a)) (hok:ziA P Ev) (g:FuncId) (vs:Xj):zjE P g vs (zdE P X Ev g vs):=by
 intro s s' v hF w0 B ρ w Na H La Ia
 unfold zdE at hF
 split at hF
 ·cases hF
 ·split at hF
  ·cases hF
  ·rename_i fn hf
   have Aa:Good (zfS P Ev fn vs):=by
    unfold zfS
    split
    ·refine zab (zcz _ _ _) fun t=>zab (hv _ _ _) fun x=> ?_
     unfold zld
     split
     ·exact zab (zbf P _ _) fun _=>zaf _
     ·exact zab (zbf P _ _) fun _=>zaf _
     ·exact zae
    ·exact zae
   have ht:=ziO Aa hF
   unfold zfS at ht
   split at ht
   ·rename_i c hb hc
    obtain⟨h1,h2⟩:=zsj (b:=true) hb hc
    obtain⟨t,s1,k1,k2,_⟩:=zac (zcz _ _ _) ht
    obtain⟨rfl,ha⟩:=zqw h1 h2 La k1
    obtain⟨z,s2,k3,k4,Ma⟩:=zac (hv _ _ _) k2
    obtain⟨e,t2,Ha⟩:=z
    refine⟨zmW hN hf hb _ w,?_⟩
    have Ca:(e=.normal∨e=.ret)∧Ha=[]∧Tells (zaj (resK P t2 fn.results.toList) fun vs=>zak (tupK vs)) s2 v s':=by
     unfold zld at k4
     split at k4
     ·rename_i Ba;cases Ba;exact⟨.inl rfl,rfl,k4⟩
     ·rename_i Ba;cases Ba;exact⟨.inr rfl,rfl,k4⟩
     ·exact (zag k4).elim
    obtain⟨he,rfl,k5⟩:=Ca
    obtain⟨us,s3,k6,k7,Ga⟩:=zac (zbf P _ _) k5
    obtain⟨rfl,rfl⟩:=zad k7
    refine CallsD.mono (callsD_of_wp hf hb (R:=fun e w'=>(∃v',e=.returned v')∧∃ρ',HR w0 B ρ' s'.f w'∧Ext ρ ρ' s1.n s'.n) ?_) fun e u' w' h=>⟨h.1,h.2⟩
    refine hok c fn.ntmps t [] s1 s2 e t2 [] k3 w0 B ρ w _ _ ha H (Ia.left Ga) fun a' w' hA=> ?_
    obtain⟨ρ',H',Ka,Da⟩:=hA
    obtain⟨f1,f2,v',f3,f4⟩:=zjS Da k6 H'
    have Ja:a'.defers=[]:=Da.df
    have Fa:a'.defers=[]∧∃v,(results fn a'.tmps).run P w'=.ok v w'∧((∃v',Ending.returned v=.returned v')∧∃ρ',HR w0 B ρ' s'.f w'∧Ext ρ ρ' s1.n s'.n):=
     ⟨Ja,v',f3,⟨_,rfl⟩,ρ',H'.congr fun id=>by rw [f1],by rw [f2];exact Ka⟩
    rcases he with rfl | rfl
    ·exact Fa
    ·exact Fa
   ·exact (zag ht).elim
theorem znJ {D:Hook} {E:zap} (hDg:zbe D) (hEg:zbn E) (hD:zgF P D) (hE:∀g vs,zjE P g vs (E g vs)) {w0:Xk} {B:Nat} {fn:Func} {N:Nat} {t:TT} {a:Act} {R:Ending->Xk->Prop} {sf:Hp}:∀(ds ds':List Deferred) (s:Hp) (w:Xk) (ρ:Rn),
  DsR ρ ds ds'->ActR ρ N t [] { tmps:=a.tmps,defers:=[] }->HR w0 B ρ s.f w->∀u,Tells (zge D E ds) s u sf->Free ρ s.n sf.n->(∀ρ' w',HR w0 B ρ' sf.f w'->Ext ρ ρ' s.n sf.n->ActR ρ' N t [] { tmps:=a.tmps,defers:=[] }->∃v,(results fn a.tmps).run P w'=.ok v w'∧R (.returned v) w')->
  Leaves P fn a.tmps R ds' .returning w
 | [],ds',s,w,ρ,hds,ha,H,u,ht,hfr,hR=>by
  have:ds'=[]:=hds
  subst this
  unfold zge at ht
  obtain⟨_,rfl⟩:=zad ht
  exact hR ρ w H .rfl ha
 | d::ds,_,s,w,ρ,⟨d',tl,e,⟨g,al,bl,al',bl',e1,e2,h1,h2⟩,htl⟩,ha,H,u,ht,hfr,hR=>by
  subst e
  subst e1
  subst e2
  unfold zge at ht
  have Ia:Good (defK D E { target:=.fn (.func g) ⟨bl⟩,args:=⟨al⟩ }):=by
   unfold defK
   simp only []
   rw [forceL_eq]
   split
   ·rename_i F hF
    exact hDg _ _ _ hF
   ·exact hEg _ _
  obtain⟨v,s1,k1,k2,Ga⟩:=zac Ia ht
  have Fa:=k2.le (zcy hDg hEg ds)
  unfold defK at k1
  simp only []at k1
  rw [forceL_eq]at k1
  have Ka:∃F,zjE P g (al++bl) F∧F s=some (v,s1):=by
   split at k1
   ·rename_i F hF
    exact⟨F,hD _ _ _ hF,zft k1⟩
   ·exact⟨_,hE g _,zft k1⟩
  obtain⟨F,Ha,Ja⟩:=Ka
  obtain⟨Ca,Aa⟩:=Ha s s1 v Ja w0 B ρ w (al'++bl') H (h1.app h2) (hfr.left Fa)
  have Da:(⟨al'⟩:Array Xl) ++ ⟨bl'⟩=⟨al'++bl'⟩:=by apply Array.ext';simp
  refine leaves_cons (by simp) (f:=g) (args:=⟨al'++bl'⟩) (by show (callFunc g ((⟨al'⟩:Array Xl) ++ ⟨bl'⟩)).run P w=_;rw [Da];exact Ca) (CallsD.mono Aa ?_)
  rintro e u' w' ⟨rfl,⟨v',rfl⟩,ρ',H',Ba⟩
  refine znJ hDg hEg hD hE ds tl s1 w' ρ' (htl.grow Ba.le) (ha.grow Ba.le) H' u k2 (hfr.right Ga Ba) fun ρ2 w2 H2 hE2 ha2=>hR ρ2 w2 H2 (Ba.trans hE2 Ga Fa) ha2
theorem zsl (hN:NoGo P) {X D:Hook} {Ev:EvT} {E:zap} (hXg:zbe X) (hDg:zbe D) (hX:zby P X) (hD:zgF P D) (hv:∀c N a,Good (Ev c N a)) (hok:ziA P Ev) (hEg:zbn E) (hE:∀g vs,zjE P g vs (E g vs)) :
  zcM P (zeg P X D Ev E):=by
 intro f vs s s' v hF w0 B ρ w Ka H Ma Fa
 unfold zeg at hF
 split at hF
 ·rename_i F hx
  exact hX f vs F hx s s' v hF w0 B ρ w Ka H Ma Fa
 ·split at hF
  ·cases hF
  ·rename_i fn hf
   have Ia:∀x,Good (ziP P D E fn x):=by
    intro x
    unfold ziP
    split
    ·exact zab (zcy hDg hEg _) fun _=>zab (zbf P _ _) fun _=>zaf _
    ·exact zab (zcy hDg hEg _) fun _=>zab (zbf P _ _) fun _=>zaf _
    ·exact zae
   have Aa:Good (zfM P D Ev E fn vs):=by
    unfold zfM
    split
    ·exact zab (zcz _ _ _) fun t=>zab (hv _ _ _) fun x=>Ia x
    ·exact zae
   have ht:=ziO Aa hF
   unfold zfM at ht
   split at ht
   ·rename_i c hb hc
    obtain⟨h1,h2⟩:=zsj (b:=true) hb hc
    obtain⟨t,s1,k1,k2,_⟩:=zac (zcz _ _ _) ht
    obtain⟨rfl,ha⟩:=zqw h1 h2 Ma k1
    obtain⟨z,s2,k3,k4,Ha⟩:=zac (hv _ _ _) k2
    obtain⟨e,t2,Ca⟩:=z
    have Pa:=k4.le (Ia _)
    rw [zmW hN hf hb]
    have Ga:(e=.normal∨e=.ret)∧Tells (zaj (zge D E Ca) fun _=>zaj (resK P t2 fn.results.toList) fun vs=>zak (tupK vs)) s2 v s':=by
     unfold ziP at k4
     split at k4
     ·rename_i Da;cases Da;exact⟨.inl rfl,k4⟩
     ·rename_i Da;cases Da;exact⟨.inr rfl,k4⟩
     ·exact (zag k4).elim
    obtain⟨he,k5⟩:=Ga
    obtain⟨u,s3,k6,k7,Na⟩:=zac (zcy hDg hEg _) k5
    obtain⟨us,s4,k8,k9,Oa⟩:=zac (zbf P _ _) k7
    obtain⟨rfl,rfl⟩:=zad k9
    show Calls P f ⟨Ka⟩ w _
    refine calls_of_wp_defers hf hb ?_
    refine hok c fn.ntmps t [] s1 s2 e t2 Ca k3 w0 B ρ w _ _ ha H (Fa.left Pa) fun a' w' hA=> ?_
    obtain⟨ρ',H',La,Ba⟩:=hA
    have Ja:Leaves P fn a'.tmps (fun e w'=>∃v',e=.returned v'∧Post w0 B ρ s1 s' (tupK us) v' w') a'.defers .returning w':=by
     refine znJ hDg hEg hD hE Ca a'.defers s2 w' ρ' Ba.df ⟨Ba.size,Ba.le,Ba.tm,rfl⟩ H' u k6 ((Fa.right Ha La).left Oa) fun ρ2 w2 H2 hE2 ha2=> ?_
     obtain⟨f1,f2,v',f3,f4⟩:=zjS ha2 k8 H2
     exact⟨v',f3,v',rfl,ρ2,H2.congr fun id=>by rw [f1],by rw [f2];exact La.trans hE2 Ha Na,f4⟩
    rcases he with rfl | rfl
    ·exact Ja
    ·exact Ja
   ·exact (zag ht).elim
theorem zAu (hm:P.follows .mixedOrders=true) (hN:NoGo P) {X D:Hook} (hXg:zbe X) (hDg:zbe D) (hX:zby P X) (hD:zgF P D):∀n,ziA P (ev P X D n):=by
 intro n
 induction n using Nat.strongRecOn with
 | _ n ih=>
  cases n with
  | zero=>intro c N t ds s s' e t' Aa ht;exact (zag ht).elim
  | succ n=>
   have hv:=zcP P hXg hDg n
   have hn:=ih n (by omega)
   have Ga:∀g vs,zjE P g vs (zdE P X (ev P X D n) g vs):=zpn hN hv hn
   have Ca:=zsl hN hXg hDg hX hD hv hn (zdZ P hv) Ga
   refine zuL hm hv (zhm P hXg hDg hv (zdZ P hv)) Ca hn ?_
   have Ba:∀(k:Nat),k<=n->∀c (N:Nat) (t:TT) (ds:List Deferred) (s s':Hp) (e:Exit) (t':TT) (Aa:List Deferred),Tells (zaj (ev P X D k c N (t,ds)) (zem (ev P X D k) (.loop c) N)) s (e,t',Aa) s'->
     ∀(w0:Xk) (B:Nat) (ρ:Rn) (w:Xk) (a:Act) (Q:Exit->Act->Xk->Prop),ActR ρ N t ds a->HR w0 B ρ s.f w->Free ρ s.n s'.n->(∀a' w',zfg w0 B ρ s s' N t' Aa a' w'->Q e a' w')->Code.rounds P c Q (k+1) a w:=by
    intro k
    induction k with
    | zero=>
     intro hk c N t ds s s' e t' Aa ht
     obtain⟨x,s1,k1,_⟩:=zac (zcP P hXg hDg 0 c N (t,ds)) ht
     exact (zag k1).elim
    | succ k ihk=>
     intro hk c N t ds s s' e t' Aa ht w0 B ρ w a Q ha H Da hQ
     obtain⟨x,s1,k1,k2,Ia⟩:=zac (zcP P hXg hDg (k+1) c N (t,ds)) ht
     obtain⟨e1,t1,Fa⟩:=x
     have Ka:Good (zem (ev P X D (k+1)) (.loop c) N (e1,t1,Fa)):=by
      unfold zem
      split
      ·exact zcP P hXg hDg _ _ _ _
      ·exact zaf _
     have Ha:=k2.le Ka
     rw [rounds_succ]
     refine ih (k+1) (by omega) c N t ds s s1 e1 t1 Fa k1 w0 B ρ w a _ ha H (Da.left Ha) fun a1 w1 hA=> ?_
     obtain⟨ρ1,H1,Ja,Ma⟩:=id hA
     cases e1 with
     | normal=>
      have k3:Tells (zaj (ev P X D k c N (t1,Fa)) (zem (ev P X D k) (.loop c) N)) s1 (e,t',Aa) s':=k2
      exact ihk (by omega) c N t1 Fa s1 s' e t' Aa k3 w0 B ρ1 w1 a1 Q Ma H1 (Da.right Ia Ja) fun a2 w2 La=>hQ _ _ (zke Ja Ia Ha La)
     | _=>
      obtain⟨h1,rfl⟩:=zad k2
      cases h1
      exact hQ _ _ hA
   intro c N t ds s s' e t' Aa ht w0 B ρ w a Q ha H Da hQ
   exact wp_loop_rounds (n+1) (Ba n (Nat.le_refl _) c N t ds s s' e t' Aa ht w0 B ρ w a Q ha H Da hQ)
theorem zvz (hm:P.follows .mixedOrders=true) (hN:NoGo P) {X D:Hook} (hXg:zbe X) (hDg:zbe D) (hX:zby P X) (hD:zgF P D) (n:Nat):zcM P (call P X D n):=
 have hv:=zcP P hXg hDg n
 have hn:=zAu hm hN hXg hDg hX hD n
 zsl hN hXg hDg hX hD hv hn (zdZ P hv) (zpn hN hv hn)
end Go.Proofs.YtgjolijncmkkhaaGreatDoor
