/- Own texts joined: EvXe, EvXn, EvXs, CopyW, InsM, EvXo, EvXj, EvXi, EvXd, EvXm. -/
import Derived.Test.YtgjolijncmkkhaaGreatDoorQa
import Derived.Test.YtgjolijncmkkhaaGreatDoorQb
import Derived.Test.YtgjolijncmkkhaaGreatDoorQc
import Derived.Test.YtgjolijncmkkhaaGreatDoorQl
import Derived.Laws.LoneSync
import Derived.Test.YtgjolijncmkkhaaGreatDoorChecked
import Derived.Laws.Externs
import Derived.RegionCalls
import Derived.Deep.RegionHeld3
import Derived.Laws.CopyOwn
import Derived.Lib.Overlaps
import Derived.Lib.AppendZerosOnto
import Derived.Lib.Walk
import Derived.Laws.NewBlocks
import Derived.Deep.RegionLaw
import Derived.Deep.AppendLies
import Derived.Recover
namespace Go.Proofs.YtgjolijncmkkhaaGreatDoor
open Go.RowKit
set_option linter.unusedVariables false
set_option maxRecDepth 100000
set_option maxHeartbeats 4000000
def zck (F:M Xl) (s:Hp):Option (Xl×Hp):=F.run s fun v s=>some (v,s)
theorem zbi {F:M Xl} (h:Good F):Good (zdk (zck F)):=zgr h
theorem zbj {F:M Xl} (h:Good F) {s s':Hp} {v:Xl} (e:zck F s=some (v,s')):Tells F s v s':=zhQ h e
def zdX (A B:Hook):Hook:=fun f vs=>match A f vs with
 | some F=>some F
 | none=>B f vs
theorem zgB {A B:Hook} (hA:zaX A) (hB:zaX B):zaX (zdX A B):=by
 intro f vs F h
 unfold zdX at h
 split at h
 ·rename_i hx;cases h;exact hA _ _ _ hx
 ·exact hB _ _ _ h
theorem zkP {P:Program} {A B:Hook} (hA:zbs P A) (hB:zbs P B):zbs P (zdX A B):=by
 intro f vs F h
 unfold zdX at h
 split at h
 ·rename_i hx;cases h;exact hA _ _ _ hx
 ·exact hB _ _ _ h
section
variable {P:Program} {w0 w:Xk} {B:Nat} {ρ:Rn} {s s':Hp}
theorem zdK {a:Addr} {v p':Xl} (H:HR w0 B ρ s.f w) (ht:Tells (zbx a 1) s [v] s') (ha:VL ρ (.pointer (some a)) p'):∃a' v',p'=.pointer (some a')∧w.cell? a'=some v'∧VL ρ v v'∧(16<=a.block->w.frozen? a'=false):=by
 obtain⟨b,Aa,l,t,fl,rfl,e1,e2,e3,e4,e5⟩:=zaY ht
 obtain⟨_,p,hp,ep⟩:=VL.ptr.1 ha
 subst ep
 obtain⟨q,hq,q2,q3,q4,c2,Da,Fa,q5,q6,q7,q8⟩:=H.obj b _ e1
 rw [show (ρ b=some p) from hp]at hq
 cases hq
 have hv:l[Aa]? = some v:=by
  have:((l.drop Aa).take 1)[0]? = some v:=by rw [<-e3];rfl
  rw [List.getElem?_take,if_pos (by omega),List.getElem?_drop]at this
  simpa using this
 obtain⟨v',h1,h2⟩:=q8 Aa v (by simpa using hv)
 refine⟨_,v',rfl,by rw [zfj q5];exact h1,h2,?_⟩
 have Ba:p.off+Aa<c2.size:=by
  rcases Nat.lt_or_ge (p.off+Aa) c2.size with h | h
  ·exact h
  ·rw [Array.getElem?_eq_none h]at h1;cases h1
 intro Ca
 have:=(q7 Ca).no _ Ba
 simp only [World.frozen?,q5]
 simpa using this
theorem zgZ {a:Addr} {vs:Xj} {u:Unit} (h:Tells (zbO a vs) s u s'):16<=a.block:=by
 obtain⟨b,Ba,l,t,fl,rfl,Aa,_⟩:=zjP h
 exact Aa
theorem zhn (P:Program) {a a':Addr} {v v' u:Xl} {x:Unit} (H:HR w0 B ρ s.f w) (ht:Tells (zbO a [v]) s x s') (ha:VL ρ (.pointer (some a)) (.pointer (some a'))) (hv:VL ρ v v') (h1:v'.oneCell'=true) (hc:w.cell? a'=some u) (hz:w.frozen? a'=false) (hfr:Free ρ s.n s'.n) :
  ∃ρ',HR w0 B ρ' s'.f (w.setCell a' v')∧Ext ρ ρ' s.n s'.n:=by
 obtain⟨r,w',ρ',hr,H',hE,_⟩:=zeO (P:=P) (vs:=[v]) (vs':=[v']) ha ⟨v',[],rfl,hv,rfl⟩ w0 B s s' x ρ w .rfl ht H hfr
 have Aa:a'.add 0=a':=by simp [Addr.add]
 have:(storeCells a' [v']).run P w=.ok () (w.setCell a' v'):=by
  simp only [storeCells,Sem.run_bind,Aa,run_store P w a' v' _ h1,hc,hz,Bool.false_eq_true,if_false,Result.andThen,Sem.run_pure]
 rw [this]at hr
 cases hr
 exact⟨ρ',H',hE⟩
end
def ldU (vs:Xj):M Xl:=match vs with
 | [.int .u32 x]=>zak (.int .u32 x)
 | _=>zah
def casK (a:Addr) (o n:Int) (vs:Xj):M Xl:=match vs with
 | [.int .i32 x]=>match eqI x o with
  | true=>zaj (zbO a [.int .i32 n]) fun _=>zak (.bool true)
  | false=>zah
 | _=>zah
def addK (a:Addr) (d:Int) (vs:Xj):M Xl:=match vs with
 | [.int .i32 x]=>forceI (IntKind.wrap .i32 (x+d)) fun y=>zaj (zbO a [.int .i32 y]) fun _=>zak (.int .i32 y)
 | _=>zah
def stK (a:Addr) (k:IntKind) (y:Int) (vs:Xj):M Xl:=match vs with
 | [_]=>zaj (zbO a [.int k y]) fun _=>zak unV
 | _=>zah
theorem zpR (vs:Xj):Good (ldU vs):=by
 unfold ldU
 split
 ·exact zaf _
 ·exact zae
theorem znI (a:Addr) (o n:Int) (vs:Xj):Good (casK a o n vs):=by
 unfold casK
 split
 ·split
  ·exact zab (zaF _ _) fun _=>zaf _
  ·exact zae
 ·exact zae
theorem zoF (a:Addr) (d:Int) (vs:Xj):Good (addK a d vs):=by
 unfold addK
 split
 ·rw [forceI_eq];exact zab (zaF _ _) fun _=>zaf _
 ·exact zae
theorem zkd (a:Addr) (k:IntKind) (y:Int) (vs:Xj):Good (stK a k y vs):=by
 unfold stK
 split
 ·exact zab (zaF _ _) fun _=>zaf _
 ·exact zae
def zlC:Hook:=fun f Aa=>match f,Aa with
 | 177,[.pointer (some a)]=>some (zck (zaj (zbx a 1) ldU))
 | 202,[.pointer (some a),.int k y]=>some (zck (zaj (zbx a 1) (stK a k y)))
 | 275,[.pointer (some a),.int k y]=>some (zck (zaj (zbx a 1) (stK a k y)))
 | 236,[.pointer (some a),.int .i32 o,.int .i32 n]=>some (zck (zaj (zbx a 1) (casK a o n)))
 | 241,[.pointer (some a),.int .i32 d]=>some (zck (zaj (zbx a 1) (addK a d)))
 | 235,[]=>some fun s=>some (unV,s)
 | 237,[]=>some fun s=>some (unV,s)
 | 238,[.pointer (some _)]=>some fun s=>some (unV,s)
 | 240,[.pointer (some _)]=>some fun s=>some (unV,s)
 | _,_=>none
theorem zuo:zaX zlC:=by
 intro f vs F h
 unfold zlC at h
 split at h
 ·cases h;exact zbi (zab (zan _ _) zpR)
 ·cases h;exact zbi (zab (zan _ _) (zkd _ _ _))
 ·cases h;exact zbi (zab (zan _ _) (zkd _ _ _))
 ·cases h;exact zbi (zab (zan _ _) (znI _ _ _))
 ·cases h;exact zbi (zab (zan _ _) (zoF _ _))
 ·cases h;exact zeN
 ·cases h;exact zeN
 ·cases h;exact zeN
 ·cases h;exact zeN
 ·cases h
theorem zzo {P:Program} {f:FuncId} {w0 w:Xk} {B:Nat} {ρ:Rn} {s s':Hp} {v:Xl} {a:Addr} {k:IntKind} {y:Int} {vs':Xj} (e:zck (zaj (zbx a 1) (stK a k y)) s=some (v,s')) (H:HR w0 B ρ s.f w) (hvs:LR (VL ρ) [.pointer (some a),.int k y] vs') (hfr:Free ρ s.n s'.n)
  (hrun:∀(a':Addr) (u:Xl),w.cell? a'=some u->w.frozen? a'=false->(callFunc f #[.pointer (some a'),.int k y]).run P w=.ok (.value (.tuple #[])) (w.setCell a' (.int k y))):Went P ((callFunc f ⟨vs'⟩).run P w) (Post w0 B ρ s s' v):=by
 obtain⟨p',t1,rfl,hp,y',t2,rfl,hy,e2⟩:=hvs
 have e2:t2=[]:=e2
 subst e2
 rw [VL.int.1 hy]
 have ht:=zbj (zab (zan _ _) (zkd _ _ _)) e
 obtain⟨vs,s1,k1,k2,Ba⟩:=zac (zan _ _) ht
 unfold stK at k2
 split at k2
 ·rename_i x
  obtain⟨a',v',rfl,hc,_,hz⟩:=zdK H k1 hp
  obtain⟨u,s2,k3,k4,_⟩:=zac (zaF _ _) k2
  obtain⟨rfl,rfl⟩:=zad k4
  obtain⟨b,Aa,l,t,fl,_,_,_,_,g1,g2⟩:=zaY k1
  have hz:=hz (zgZ k3)
  obtain⟨ρ',H',hE⟩:=zhn P (s:=s1) (H.congr fun id=>by rw [g1]) k3 hp (VL.int.2 rfl) rfl hc hz (by rw [g2];exact hfr)
  rw [show (⟨[.pointer (some a'),.int k y]⟩:Array Xl) = #[.pointer (some a'),.int k y] from rfl,hrun a' v' hc hz]
  exact⟨ρ',H',by rw [<-g2];exact hE,VL.tuple.2 ⟨[],rfl,rfl⟩⟩
 ·exact (zag k2).elim
theorem zjl {P:Program} {f:FuncId} {w0 w:Xk} {B:Nat} {ρ:Rn} {s s':Hp} {v:Xl} {vs':Xj} (e:some (unV,s)=some (v,s')) (H:HR w0 B ρ s.f w) (hrun:(callFunc f ⟨vs'⟩).run P w=.ok (.value (.tuple #[])) w):Went P ((callFunc f ⟨vs'⟩).run P w) (Post w0 B ρ s s' v):=by
 cases e
 rw [hrun]
 exact⟨ρ,H,.rfl,VL.tuple.2 ⟨[],rfl,rfl⟩⟩
theorem zyn:zbs Tryz.prog zlC:=by
 intro f vs F h s s' v e w0 B ρ w Ia H Aa Ba
 unfold zlC at h
 split at h
 ·rename_i a
  cases h
  obtain⟨p',t1,rfl,hp,e2⟩:=Aa
  have e2:t1=[]:=e2
  subst e2
  have ht:=zbj (zab (zan _ _) zpR) e
  obtain⟨us,s1,k1,k2,Ga⟩:=zac (zan _ _) ht
  unfold ldU at k2
  split at k2
  ·rename_i x
   obtain⟨rfl,rfl⟩:=zad k2
   obtain⟨a',v',rfl,hc,hv,hz⟩:=zdK H k1 hp
   have:=VL.int.1 hv
   subst this
   obtain⟨b,Ha,l,t,fl,_,_,_,_,g1,g2⟩:=zaY k1
   have Ja:=run_call_load (P:=Tryz.prog) Tryz.func177 (by kernel_rfl) (by kernel_rfl) (by kernel_rfl) .u32 (by kernel_rfl) hc
   rw [show (⟨[.pointer (some a')]⟩:Array Xl) = #[.pointer (some a')] from rfl,Ja]
   exact⟨ρ,H.congr fun id=>by rw [g1],by rw [<-g2];exact .rfl,VL.int.2 rfl⟩
  ·exact (zag k2).elim
 ·cases h
  exact zzo e H Aa Ba fun a' u hc hz=>run_call_store (P:=Tryz.prog) Tryz.func202 (by kernel_rfl) (by kernel_rfl) (by kernel_rfl) (by kernel_rfl) hc hz
 ·cases h
  exact zzo e H Aa Ba fun a' u hc hz=>run_call_store (P:=Tryz.prog) Tryz.func275 (by kernel_rfl) (by kernel_rfl) (by kernel_rfl) (by kernel_rfl) hc hz
 ·rename_i a o n
  cases h
  obtain⟨p',t1,rfl,hp,o',t2,rfl,ho,n',t3,rfl,hn,e2⟩:=Aa
  have e2:t3=[]:=e2
  subst e2
  have eo:=VL.int.1 ho
  have en:=VL.int.1 hn
  subst eo en
  have ht:=zbj (zab (zan _ _) (znI _ _ _)) e
  obtain⟨us,s1,k1,k2,Ga⟩:=zac (zan _ _) ht
  unfold casK at k2
  split at k2
  ·rename_i x
   split at k2
   ·rename_i Ca
    have Ca:x=o:=by rw [zpX]at Ca;simpa using Ca
    subst Ca
    obtain⟨a',v',rfl,hc,hv,hz⟩:=zdK H k1 hp
    have:=VL.int.1 hv
    subst this
    obtain⟨u,s2,k3,k4,_⟩:=zac (zaF _ _) k2
    obtain⟨rfl,rfl⟩:=zad k4
    obtain⟨b,Ha,l,t,fl,_,_,_,_,g1,g2⟩:=zaY k1
    have hz:=hz (zgZ k3)
    obtain⟨ρ',H',hE⟩:=zhn Tryz.prog (s:=s1) (H.congr fun id=>by rw [g1]) k3 hp (VL.int.2 rfl) rfl hc hz (by rw [g2];exact Ba)
    have Da:=run_call_cas_hit (P:=Tryz.prog) Tryz.func236 (by kernel_rfl) (by kernel_rfl) (by kernel_rfl) .i32 (by kernel_rfl) (y:=n) hc hz
    rw [show (⟨[.pointer (some a'),.int .i32 x,.int .i32 n]⟩:Array Xl) = #[.pointer (some a'),.int .i32 x,.int .i32 n] from rfl,Da]
    exact⟨ρ',H',by rw [<-g2];exact hE,VL.bool.2 rfl⟩
   ·exact (zag k2).elim
  ·exact (zag k2).elim
 ·rename_i a d
  cases h
  obtain⟨p',t1,rfl,hp,d',t2,rfl,hd,e2⟩:=Aa
  have e2:t2=[]:=e2
  subst e2
  have ed:=VL.int.1 hd
  subst ed
  have ht:=zbj (zab (zan _ _) (zoF _ _)) e
  obtain⟨us,s1,k1,k2,Ga⟩:=zac (zan _ _) ht
  unfold addK at k2
  split at k2
  ·rename_i x
   rw [forceI_eq]at k2
   obtain⟨a',v',rfl,hc,hv,hz⟩:=zdK H k1 hp
   have:=VL.int.1 hv
   subst this
   obtain⟨u,s2,k3,k4,_⟩:=zac (zaF _ _) k2
   obtain⟨rfl,rfl⟩:=zad k4
   obtain⟨b,Ha,l,t,fl,_,_,_,_,g1,g2⟩:=zaY k1
   have hz:=hz (zgZ k3)
   obtain⟨ρ',H',hE⟩:=zhn Tryz.prog (s:=s1) (H.congr fun id=>by rw [g1]) k3 hp (VL.int.2 rfl) rfl hc hz (by rw [g2];exact Ba)
   have Fa:=run_call_add (P:=Tryz.prog) Tryz.func241 (by kernel_rfl) (by kernel_rfl) (by kernel_rfl) .i32 (by kernel_rfl) (y:=d) (s:=IntKind.wrap .i32 (x+d)) hc hz rfl
   rw [show (⟨[.pointer (some a'),.int .i32 d]⟩:Array Xl) = #[.pointer (some a'),.int .i32 d] from rfl,Fa]
   exact⟨ρ',H',by rw [<-g2];exact hE,VL.int.2 rfl⟩
  ·exact (zag k2).elim
 ·cases h
  have:Ia=[]:=Aa
  subst this
  exact zjl e H (run_call_mark0 Tryz.func235 (by kernel_rfl) (by kernel_rfl) (by kernel_rfl) .disable (by kernel_rfl) w)
 ·cases h
  have:Ia=[]:=Aa
  subst this
  exact zjl e H (run_call_mark0 Tryz.func237 (by kernel_rfl) (by kernel_rfl) (by kernel_rfl) .enable (by kernel_rfl) w)
 ·cases h
  obtain⟨p',t1,rfl,hp,e2⟩:=Aa
  have e2:t1=[]:=e2
  subst e2
  obtain⟨_,p,_,ep⟩:=VL.ptr.1 hp
  subst ep
  exact zjl e H (run_call_marked Tryz.func238 (by kernel_rfl) (by kernel_rfl) (by kernel_rfl) .acquire (by kernel_rfl) _ w)
 ·cases h
  obtain⟨p',t1,rfl,hp,e2⟩:=Aa
  have e2:t1=[]:=e2
  subst e2
  obtain⟨_,p,_,ep⟩:=VL.ptr.1 hp
  subst ep
  exact zjl e H (run_call_marked Tryz.func240 (by kernel_rfl) (by kernel_rfl) (by kernel_rfl) .releaseMerge (by kernel_rfl) _ w)
 ·cases h
end Go.Proofs.YtgjolijncmkkhaaGreatDoor
namespace Go.Proofs.YtgjolijncmkkhaaGreatDoor
open Go.RowKit
set_option linter.unusedVariables false
theorem HR.still {w0 w w':Xk} {B:Nat} {ρ:Rn} {h:Hf} (H:HR w0 B ρ h w) (hb:Below w.heap.size w w'):HR w0 B ρ h w':=by
 have hB:B<=w.heap.size:=Nat.le_trans H.base H.below.size
 refine⟨H.below.trans (hb.mono hB),H.base,fun id o e=>(H.obj id o e).same fun p hp=> ?_,H.sep,H.own,H.glo⟩
 obtain⟨q,hq,Aa⟩:=(H.obj id o e).place
 rw [hp]at hq;cases hq
 exact hb.block _ Aa
def zln:Xj->Option (Xg)
 | []=>some []
 | .int .u8 n::l=>match decide (0<=n∧n<=255),zln l with
  | true,some k=>some (n::k)
  | _,_=>none
 | _=>none
def zgN (v:Xl):M (Xg):=match v with
 | .slice none 0 0=>zak []
 | .slice (some a) n _=>match Nat.beq n 0 with
  | true=>zak []
  | false=>match Nat.ble n 4096 with
   | true=>zaj (zbx a n) fun vs=>match zln vs with
    | some l=>zak l
    | none=>zah
   | false=>zah
 | _=>zah
def zwE (v:Xl):Bool:=match v with
 | .slice none 0 0=>true
 | .slice (some _) 0 _=>true
 | _=>false
def zlg:Nat->Xj->List (Xj)
 | 0,_=>[]
 | n+1,l=>l.take 5::zlg n (l.drop 5)
def allK {α:Type} (F:Xj->M α):List (Xj)->M (List α)
 | []=>zak []
 | C::l=>zaj (F C) fun t=>zaj (allK F l) fun ts=>zak (t::ts)
def zpa {α:Type} (F:Xj->M α) (v:Xl):M (List α):=match v with
 | .slice none 0 0=>zak []
 | .slice (some a) n _=>match Nat.beq n 0 with
  | true=>zak []
  | false=>match Nat.ble n 4096 with
   | true=>zaj (zbx a (n*5)) fun vs=>allK F (zlg n vs)
   | false=>zah
 | _=>zah
def zgR:(k:Nat)->Xj->M (Tr k)
 | 0,_=>zah
 | k+1,C=>match C with
  | [.int .i64 kd,a,b,c,d]=>match decide (-9223372036854775808<=kd∧kd<=9223372036854775807) && zwE c with
   | true=>zaj (zgN a) fun nm=>zaj (zgN b) fun tx=>zaj (zpa (zgR k) d) fun ks=>zak ({ kind:=kd,name:=nm,text:=tx,attrs:=[],kids:=ks }:Nd (Tr k))
   | false=>zah
  | _=>zah
def zzz (C:Xj):M Xl:=zaj (zgR 5 C) fun t=>match Nat.ble (szT 5 t) 2097152 with
 | true=>forceB (okN 4 t) fun b=>zak (.bool b)
 | false=>zah
def zlz:Hook:=fun f Aa=>match f,Aa with
 | 12,[.agg ⟨C⟩]=>some (zck (zzz C))
 | _,_=>none
theorem zeF (v:Xl):Good (zgN v):=by
 unfold zgN
 repeat' (first | exact zaf _ | exact zae | (refine zab (zan _ _) fun _=> ?_) | split)
theorem zil {α:Type} {F:Xj->M α} (hF:∀C,Good (F C)):∀l,Good (allK F l)
 | []=>zaf _
 | C::l=>zab (hF C) fun _=>zab (zil hF l) fun _=>zaf _
theorem zlq {α:Type} {F:Xj->M α} (hF:∀C,Good (F C)) (v:Xl):Good (zpa F v):=by
 unfold zpa
 repeat' (first | exact zaf _ | exact zae | exact zil hF _ | (refine zab (zan _ _) fun _=> ?_) | split)
theorem zdR:∀k C,Good (zgR k C)
 | 0,C=>by unfold zgR;exact zae
 | k+1,C=>by
  unfold zgR
  split
  ·split
   ·exact zab (zeF _) fun _=>zab (zeF _) fun _=>zab (zlq (zdR k) _) fun _=>zaf _
   ·exact zae
  ·exact zae
theorem zkE (C:Xj):Good (zzz C):=by
 refine zab (zdR 5 C) fun t=> ?_
 split
 ·rw [forceB_eq];exact zaf _
 ·exact zae
section
variable {w0 w:Xk} {B:Nat} {ρ:Rn}
theorem zma:∀(vs:Xj) (l:Xg) (vs':Xj),zln vs=some l->LR (VL ρ) vs vs'->okB l∧vs'=vals l∧l.length=vs.length
 | [],l,vs',h,hl=>by
  cases h
  have:vs'=[]:=hl
  exact⟨zaI,this,rfl⟩
 | v::vs,l,_,h,⟨v',t,e,hv,ht⟩=>by
  unfold zln at h
  split at h
  ·rename_i Aa;cases Aa
  ·rename_i n r Aa
   cases Aa
   split at h
   ·rename_i k hd hk
    cases h
    obtain⟨h1,h2,h3⟩:=zma _ k t hk ht
    have hd:=of_decide_eq_true hd
    refine⟨fun x hx=> ?_,?_,by simp [h3]⟩
    ·cases hx with
     | head=>exact hd
     | tail _ hx=>exact h1 x hx
    ·rw [e,VL.int.1 hv,h2];rfl
   ·cases h
  ·cases h
theorem zqc {a:Addr} {m n c:Nat} {v':Xl} {vs:Xj} {s s':Hp} (H:HR w0 B ρ s.f w) (hv:VL ρ (.slice (some a) m c) v') (hm:m≠0) (ht:Tells (zbx a n) s vs s') :
  ∃b off c',v'=.slice (some ⟨b,off,none⟩) m c'∧m<=c'∧c'<=9223372036854775807∧b<w.heap.size∧vs.length=n∧s'.f=s.f∧s'.n=s.n∧
   ∃vs',LR (VL ρ) vs vs'∧∀(i:Nat) x',vs'[i]? = some x'->w.cell? ⟨b,off+i,none⟩=some x':=by
 obtain⟨Ha,Ga,p,hp,a',c',e1,e2,e3,e4⟩:=VL.slice.1 hv
 obtain⟨b,off,cs,t,fl,rfl,f1,f2,f3,g1,g2⟩:=zaY ht
 have ha:=e3 (by omega)
 obtain⟨q,hq,q2,q3,q4,c2,Fa,Ia,q5,q6,q7,q8⟩:=H.obj b _ f1
 rw [show (ρ b=some p) from hp]at hq
 cases hq
 have Da:p.sz=cs.length:=q2
 have Ba:vs.length=n:=by rw [f3,List.length_take,List.length_drop];omega
 refine⟨p.blk,p.off+off,c',by rw [e1,ha],by omega,e4,?_,Ba,g1,g2,(c2.toList.drop (p.off+off)).take n,LR.of ?_ fun i x x' hx Aa=> ?_,fun i x' Aa=> ?_⟩
 ·rcases Nat.lt_or_ge p.blk w.heap.size with h | h
  ·exact h
  ·rw [Array.getElem?_eq_none h]at q5;cases q5
 ·rw [List.length_take,List.length_drop,Array.length_toList,Ba];omega
 ·rw [List.getElem?_take]at Aa
  split at Aa
  ·rename_i hi
   rw [List.getElem?_drop,Array.getElem?_toList]at Aa
   have Ca:cs[off+i]? = some x:=by
    rw [<-hx,f3,List.getElem?_take,if_pos hi,List.getElem?_drop]
   obtain⟨y,h1,h2⟩:=q8 (off+i) _ (by simpa using Ca)
   rw [show p.off+(off+i)=p.off+off+i by omega,Aa]at h1
   cases h1;exact h2
  ·cases Aa
 ·rw [List.getElem?_take]at Aa
  split at Aa
  ·rw [List.getElem?_drop,Array.getElem?_toList]at Aa
   rw [zfj q5];exact Aa
  ·cases Aa
theorem zfE {c:Nat} (h:c<=9223372036854775807):c<=maxLen:=Nat.le_trans h (by decide)
theorem zou {v v':Xl} {l:Xg} {s s':Hp} (H:HR w0 B ρ s.f w) (hv:VL ρ v v') (ht:Tells (zgN v) s l s'):Byt w v' l∧s'.f=s.f∧s'.n=s.n:=by
 unfold zgN at ht
 split at ht
 ·obtain⟨rfl,rfl⟩:=zad ht
  obtain⟨_,_,e⟩:=VL.nils.1 hv
  exact⟨⟨zaI,by simp,.inl ⟨e,rfl⟩⟩,rfl,rfl⟩
 ·rename_i a n c
  split at ht
  ·rename_i hn
   have hn:=Nat.eq_of_beq_eq_true hn
   subst hn
   obtain⟨rfl,rfl⟩:=zad ht
   obtain⟨Ja,Ia,p,hp,a',c',e1,e2,e3,e4⟩:=VL.slice.1 hv
   exact⟨⟨zaI,by simp,.inr (.inl ⟨a',c',e1,zfE e4,rfl⟩)⟩,rfl,rfl⟩
  ·rename_i hn
   have hn:n≠0:=fun h=>by subst h;cases hn
   split at ht
   ·rename_i Ba
    have Ba:=Nat.le_of_ble_eq_true Ba
    obtain⟨vs,s1,k1,k2,_⟩:=zac (zan _ _) ht
    obtain⟨b,Da,c',e1,e2,e3,e4,Ha,g1,g2,Ga,Fa,Ca⟩:=zqc H hv hn k1
    split at k2
    ·rename_i k hk
     obtain⟨rfl,rfl⟩:=zad k2
     obtain⟨h1,h2,h3⟩:=zma vs l Ga hk Fa
     have Aa:l.length=n:=by omega
     refine⟨⟨h1,zfE (by omega),.inr (.inr ⟨b,Da,c',by rw [e1,Aa],by omega,zfE e3,fun h0=> ?_,e4,fun i hi=> ?_⟩)⟩,g1,g2⟩
     ·rw [h0]at Aa;exact hn Aa.symm
     ·exact Ca i _ (by rw [h2];exact zfp hi)
    ·exact (zag k2).elim
   ·exact (zag ht).elim
 ·exact (zag ht).elim
theorem zsP {α:Type} {F:Xj->M α} {R:Xj->α->Prop} (hF:∀C,Good (F C)) (hR:∀C C' t (s s':Hp),HR w0 B ρ s.f w->LR (VL ρ) C C'->Tells (F C) s t s'->R C' t∧s'.f=s.f∧s'.n=s.n) :
  ∀(n:Nat) (vs vs':Xj) (ts:List α) (s s':Hp),HR w0 B ρ s.f w->LR (VL ρ) vs vs'->Tells (allK F (zlg n vs)) s ts s'->ts.length=n∧s'.f=s.f∧s'.n=s.n∧∀i (hi:i<ts.length),R ((vs'.drop (5*i)).take 5) ts[i]
 | 0,vs,vs',ts,s,s',H,hv,ht=>by
  unfold zlg allK at ht
  obtain⟨rfl,rfl⟩:=zad ht
  exact⟨rfl,rfl,rfl,fun i hi=>by simp at hi⟩
 | n+1,vs,vs',ts,s,s',H,hv,ht=>by
  unfold zlg allK at ht
  obtain⟨t,s1,k1,k2,_⟩:=zac (hF _) ht
  obtain⟨us,s2,k3,k4,_⟩:=zac (zil hF _) k2
  obtain⟨rfl,rfl⟩:=zad k4
  obtain⟨r1,r2,r3⟩:=hR _ _ t s s1 H (hv.take 5) k1
  obtain⟨q1,q2,q3,q4⟩:=zsP hF hR n _ _ us s1 _ (by rw [r2];exact H) (hv.drop 5) k3
  refine⟨by simp [q1],q2.trans r2,q3.trans r3,fun i hi=> ?_⟩
  cases i with
  | zero=>simpa using r1
  | succ i=>
   have:=q4 i (by simpa using hi)
   rw [List.drop_drop]at this
   simp only [List.getElem_cons_succ]
   rw [show 5*(i+1)=5+5*i by omega]
   exact this
theorem zrb:∀(k:Nat) (C C':Xj) (t:Tr k) (s s':Hp),HR w0 B ρ s.f w->LR (VL ρ) C C'->Tells (zgR k C) s t s'->RdNode k w C' t∧s'.f=s.f∧s'.n=s.n
 | 0,C,C',t,s,s',H,hl,ht=>t.elim
 | k+1,C,C',t,s,s',H,hl,ht=>by
  unfold zgR at ht
  split at ht
  ·rename_i kd a b c d
   split at ht
   ·rename_i hc
    rw [Bool.and_eq_true]at hc
    have Da:=of_decide_eq_true hc.1
    obtain⟨x0,t0,e0,h0,a',t1,e1,ha,b',t2,e2,hb,c',t3,e3,Ga,d',t4,e4,hd,e5⟩:=hl
    have e5:t4=[]:=e5
    subst e5 e4 e3 e2 e1 e0
    rw [VL.int.1 h0]
    obtain⟨nm,s1,k1,k2,_⟩:=zac (zeF _) ht
    obtain⟨tx,s2,k3,k4,_⟩:=zac (zeF _) k2
    obtain⟨ks,s3,k5,k6,_⟩:=zac (zlq (zdR k) _) k4
    obtain⟨rfl,rfl⟩:=zad k6
    obtain⟨n1,n2,n3⟩:=zou H ha k1
    have H1:HR w0 B ρ s1.f w:=by rw [n2];exact H
    obtain⟨x1,x2,x3⟩:=zou H1 hb k3
    have H2:HR w0 B ρ s2.f w:=by rw [x2];exact H1
    have Ka:RdAttrs w c' []:=by
     have Ca:=hc.2
     unfold zwE at Ca
     split at Ca
     ·obtain⟨_,_,e⟩:=VL.nils.1 Ga
      exact⟨by simp,.inl ⟨e,rfl⟩⟩
     ·obtain⟨_,_,p,_,a2,c2,e,_,_,e4⟩:=VL.slice.1 Ga
      exact⟨by simp,.inr (.inl ⟨a2,c2,e,zfE e4,rfl⟩)⟩
     ·cases Ca
    have Aa:Elems w 5 d' ks (RdNode k w)∧s'.f=s2.f∧s'.n=s2.n:=by
     unfold zpa at k5
     split at k5
     ·obtain⟨rfl,rfl⟩:=zad k5
      obtain⟨_,_,e⟩:=VL.nils.1 hd
      exact⟨⟨by simp,.inl ⟨e,rfl⟩⟩,rfl,rfl⟩
     ·rename_i da n dc
      split at k5
      ·rename_i hn
       have hn:=Nat.eq_of_beq_eq_true hn
       subst hn
       obtain⟨rfl,rfl⟩:=zad k5
       obtain⟨_,_,p,_,a2,c2,e,_,_,e4⟩:=VL.slice.1 hd
       exact⟨⟨by simp,.inr (.inl ⟨a2,c2,e,zfE e4,rfl⟩)⟩,rfl,rfl⟩
      ·rename_i hn
       have hn:n≠0:=fun h=>by subst h;cases hn
       split at k5
       ·rename_i Ia
        have Ia:=Nat.le_of_ble_eq_true Ia
        obtain⟨vs,s4,j1,j2,_⟩:=zac (zan _ _) k5
        obtain⟨bb,Ma,c2,e1,e2,e3,e4,La,g1,g2,Ba,Fa,Ja⟩:=zqc H2 hd hn j1
        obtain⟨q1,q2,q3,q4⟩:=zsP (w:=w) (w0:=w0) (B:=B) (ρ:=ρ) (R:=RdNode k w) (zdR k) (fun C C' t s s' H hl ht=>zrb k C C' t s s' H hl ht) n vs Ba ks s4 s' (by rw [g1];exact H2) Fa j2
        have Ha:Ba.length=n*5:=by rw [Fa.len,La]
        refine⟨⟨zfE (by omega),.inr (.inr ⟨bb,Ma,c2,by rw [e1,q1],by omega,zfE e3,fun h0=> ?_,e4,fun i hi=>⟨(Ba.drop (5*i)).take 5,?_,fun j hj=> ?_,q4 i hi⟩⟩)⟩,q2.trans g1,q3.trans g2⟩
        ·rw [h0]at q1;exact hn q1.symm
        ·rw [List.length_take,List.length_drop];omega
        ·have hx:Ba[5*i+j]? = some Ba[5*i+j]:=List.getElem?_eq_getElem (by omega)
         rw [List.getElem?_take,if_pos hj,List.getElem?_drop,hx]
         have:=Ja (5*i+j) _ hx
         rw [<-this]
         congr 2
         omega
       ·exact (zag k5).elim
     ·exact (zag k5).elim
    exact⟨⟨a',b',c',d',rfl,Da.1,Da.2,n1,x1,Ka,Aa.1⟩,by rw [Aa.2.1,x2,n2],by rw [Aa.2.2,x3,n3]⟩
   ·exact (zag ht).elim
  ·exact (zag ht).elim
end
theorem zuL:zaX zlz:=by
 intro f vs F h
 unfold zlz at h
 split at h
 ·cases h;exact zbi (zkE _)
 ·cases h
theorem zAJ {ρ:Rn} {C vs':Xj} (hvs:LR (VL ρ) [.agg ⟨C⟩] vs'):∃C',vs'=[.agg ⟨C'⟩]∧LR (VL ρ) C C':=by
 obtain⟨x',t1,rfl,hx,e2⟩:=hvs
 have e2:t1=[]:=e2
 subst e2
 obtain⟨C',rfl,hC⟩:=VL.agg.1 hx
 exact⟨C',rfl,hC⟩
set_option maxRecDepth 20000 in
theorem zyQ:zbs Tryz.prog zlz:=by
 intro f vs F h s s' v e w0 B ρ w vs' H hvs hfr
 unfold zlz at h
 split at h
 ·rename_i C
  cases h
  obtain⟨C',e0,hC⟩:=zAJ hvs
  rw [e0]
  have ht:=zbj (zkE C) e
  obtain⟨t,s1,k1,k2,_⟩:=zac (zdR 5 C) ht
  obtain⟨r1,r2,r3⟩:=zrb 5 C C' t s s1 H hC k1
  split at k2
  ·rename_i hsz
   have hsz:=Nat.le_of_ble_eq_true hsz
   rw [forceB_eq]at k2
   obtain⟨rfl,rfl⟩:=zad k2
   obtain⟨a,b,c,d,e5,_⟩:=id r1
   subst e5
   have hcall:=zcO 4 w _ a b c d t r1 hsz
   have hent:(callFunc 12 ⟨[.agg ⟨[.int .i64 t.kind,a,b,c,d]⟩]⟩).run Tryz.prog w=.ok (.enter 12 ⟨[.agg ⟨[.int .i64 t.kind,a,b,c,d]⟩]⟩) w:=by
    have hname:(Tryz.f12.name == "runtime.NumGoroutine")=false:=by kernel_rfl
    have hbody:Tryz.f12.body.isNone=false:=by kernel_rfl
    simp only [callFunc,Sem.run_bind,run_program,Result.andThen,Tryz.func12,hname,hbody,Bool.false_eq_true,if_false,Sem.run_pure]
   rw [hent]
   show Calls Tryz.prog 12 _ w _
   refine Calls.mono hcall fun e w' he=> ?_
   obtain⟨rfl,hb⟩:=he
   exact⟨_,rfl,ρ,(H.still hb).congr fun id=>by rw [r2],by rw [r3];exact .rfl,VL.bool.2 rfl⟩
  ·exact (zag k2).elim
 ·cases h
end Go.Proofs.YtgjolijncmkkhaaGreatDoor
namespace Go.Proofs.YtgjolijncmkkhaaGreatDoor
open Go.RowKit
set_option linter.unusedVariables false
set_option maxRecDepth 100000
theorem zBN (g k:Nat) (x:Int) (w:Xk) (hc:w.cell? ⟨g,k,none⟩=some (.int .i64 x)) (hz:w.frozen? ⟨g,k,none⟩=false) (h0:0<=x) (h1:x<=1000000) :
  Calls Tryz.prog 282 #[.pointer (some ⟨g,k,none⟩),.int .i64 1] w fun e w'=>e=.returned (.int .i64 (x+1))∧w'=w.setCell ⟨g,k,none⟩ (.int .i64 (x+1)):=by
 have Aa:=run_call_add (P:=Tryz.prog) Tryz.func295 (by kernel_rfl) (by kernel_rfl) (by kernel_rfl) .i64 (by kernel_rfl) (y:=1) (s:=x+1) hc hz (by simp [go_sem];rw [IntKind.wrap_i64];omega)
 go_enter Tryz.func282,Tryz.ntmps282
 go_wp2
 go_ret
 exact⟨rfl,rfl⟩
theorem zxl {w w':Xk} {a:Addr} {v:Xl} (k:Nat) (h:w'.heap[k]? = w.heap[k]?):(w'.setCell a v).heap[k]? = (w.setCell a v).heap[k]? :=by
 simp only [World.setCell,Array.getElem?_modify,h]
theorem zAX {w:Xk} {g o:Nat} {v:Xl} (h:w.cell? ⟨g,o,none⟩=some v):g<w.heap.size:=by
 rcases Nat.lt_or_ge g w.heap.size with hl | hl
 ·exact hl
 ·simp [World.cell?,Array.getElem?_eq_none hl]at h
set_option maxHeartbeats 1600000 in
theorem ztN (w:Xk) (ga oa:Nat) (ri k:Int) (c0:w.cell? ⟨ga,oa,none⟩=some (.int .i64 ri)) (cA:w.cell? ⟨ga,oa+10,none⟩=some (.int .i64 k)) (zA:w.frozen? ⟨ga,oa+10,none⟩=false) (h0:0<=k) (h1:k<=1000000) :
  Calls Tryz.prog 253 #[.pointer (some ⟨ga,oa,none⟩)] w fun r w'=>r=.returned (.agg #[.int .i64 (k+1),.int .i64 ri])∧Below w.heap.size (w.setCell ⟨ga,oa+10,none⟩ (.int .i64 (k+1))) w':=by
 have hA:=(Below.refl w.heap.size w).alloc (Nat.le_refl _) (.cells #[.int .i64 0,.int .i64 0] 50)
 have lb:=Loc.made w #[.int .i64 0,.int .i64 0] 50
 have Fa:=zAX c0
 have Ba:=hA.block ga Fa
 have d0:(w.alloc (.cells #[.int .i64 0,.int .i64 0] 50)).cell? ⟨ga,oa,none⟩=some (.int .i64 ri):=by simp only [World.cell?,Ba];exact c0
 have dA:(w.alloc (.cells #[.int .i64 0,.int .i64 0] 50)).cell? ⟨ga,oa+10,none⟩=some (.int .i64 k):=by simp only [World.cell?,Ba];exact cA
 have yA:(w.alloc (.cells #[.int .i64 0,.int .i64 0] 50)).frozen? ⟨ga,oa+10,none⟩=false:=by simp only [World.frozen?,Ba];exact zA
 have HA:=hide hA
 clear hA Ba c0 cA zA
 go_enter Tryz.func253,Tryz.ntmps253
 go_wp2_with fail
 generalize (w.alloc (.cells #[.int .i64 0,.int .i64 0] 50))=w1 at *
 generalize hS:w.heap.size=S at *
 have bd:=lb.all ((Below.refl w1.heap.size w1).drew)
 have Ca:w1.drew.cell? ⟨ga,oa,none⟩=some (.int .i64 ri):=d0
 have HW:=hide (zBN ga (oa+10) k w1.drew dA yA h0 h1)
 have Ha:ga≠S:=by omega
 have Ga:S≠ga:=by omega
 have LL:=hide (And.intro bd (And.intro Ca yA))
 clear lb bd dA yA Ca
 go_region_held3 (fun w'=>w'.cell? ⟨ga,oa,none⟩=some (.int .i64 ri)) (first | go_keep | simp [*])
  (first
   | (go_at_call 282;refine (zaa HW).mono ?_;rintro e w2 ⟨rfl,Aa⟩;have b2:=(zaa LL).1.frm (Frm.set w1.drew ga (oa+10) (.int .i64 (k+1))) (by simp;omega);have c0:=(World.cell?_setCell_other w1.drew ⟨ga,oa+10,none⟩ ⟨ga,oa,none⟩ (.int .i64 (k+1)) (by simp)).trans (zaa LL).2.1;rw [<-Aa]at b2 c0;have Da:=hide Aa;have e0:=b2.cell 0;have e1:=b2.cell 1;have f0:=b2.frozen 0;have f1:=b2.frozen 1;clear Aa LL HW;simp at e0 e1))
 have hF:Below S (w.setCell ⟨ga,oa+10,none⟩ (.int .i64 (k+1))) ((w2.setCell ⟨S,0,none⟩ (.int .i64 (k+1))).setCell ⟨S,1,none⟩ (.int .i64 ri)):=by
  have Aa:=zaa Da
  have hA:=zaa HA
  refine⟨?_,?_,?_,?_,fun j hj=> ?_⟩
  ·rw [Aa];exact hA.os
  ·rw [Aa];exact hA.tape
  ·rw [Aa];exact hA.output
  ·rw [Aa];simp only [World.setCell,Array.size_modify];exact hA.size
  ·rw [heap_setCell_other _ _ _ _ (by simp;omega),heap_setCell_other _ _ _ _ (by simp;omega),Aa]
   exact zxl j (hA.block j hj)
 have b3:=(b2.set 0 (.int .i64 (k+1))).set 1 (.int .i64 ri)
 clear Da HA
 generalize ((w2.setCell ⟨S,0,none⟩ (.int .i64 (k+1))).setCell ⟨S,1,none⟩ (.int .i64 ri))=w3 at *
 have v0:=b3.cell 0
 have v1:=b3.cell 1
 simp at v0 v1
 clear c0 e0 e1 f0 f1 b3 b2
 go_wp2
 exact bodyPost_ret (v:=.agg #[.int .i64 (k+1),.int .i64 ri]) (by simp [results,Tryz.results253,go_sem,v0,v1]) rfl ⟨rfl,by rw [hS];exact hF⟩
def zkW (b off:Nat) (r n:Xj):M Xl:=match r,n with
 | [.int .i64 r],[.int .i64 n]=>match decide (0<=n∧n<=1000000)with
  | true=>forceI (n+1) fun m=>zaj (zbO ⟨b,off,none⟩ [.int .i64 m]) fun _=>zak (.agg ⟨[.int .i64 m,.int .i64 r]⟩)
  | false=>zah
 | _,_=>zah
def zkR (b off:Nat):M Xl:=zaj (zbx ⟨b,off,none⟩ 1) fun r=>forceN (off+10) fun o=>zaj (zbx ⟨b,o,none⟩ 1) fun n=>zkW b o r n
def zlk:Hook:=fun f Aa=>match f,Aa with
 | 253,[.pointer (some ⟨b,off,none⟩)]=>some (zck (zkR b off))
 | _,_=>none
theorem zsh (b off:Nat) (r n:Xj):Good (zkW b off r n):=by
 unfold zkW
 split
 ·split
  ·rw [forceI_eq];exact zab (zaF _ _) fun _=>zaf _
  ·exact zae
 ·exact zae
theorem zjW (b off:Nat):Good (zkR b off):=by
 unfold zkR
 refine zab (zan _ _) fun r=> ?_
 rw [forceN_eq]
 exact zab (zan _ _) fun n=>zsh _ _ _ _
theorem ztV:zaX zlk:=by
 intro f vs F h
 unfold zlk at h
 split at h
 ·cases h;exact zbi (zjW _ _)
 ·cases h
theorem zsf (w:Xk) (v:Xl):(callFunc 253 ⟨[v]⟩).run Tryz.prog w=.ok (.enter 253 ⟨[v]⟩) w:=by
 have hname:(Tryz.f253.name == "runtime.NumGoroutine")=false:=by kernel_rfl
 have hbody:Tryz.f253.body.isNone=false:=by kernel_rfl
 simp only [callFunc,Sem.run_bind,run_program,Result.andThen,Tryz.func253,hname,hbody,Bool.false_eq_true,if_false,Sem.run_pure]
theorem zAa {ρ:Rn} {b off:Nat} {vs':Xj} (hvs:LR (VL ρ) [.pointer (some ⟨b,off,none⟩)] vs'):∃p,ρ b=some p∧vs'=[.pointer (some ⟨p.blk,p.off+off,none⟩)]:=by
 obtain⟨x',t1,rfl,hx,e2⟩:=hvs
 have e2:t1=[]:=e2
 subst e2
 obtain⟨_,p,hp,rfl⟩:=VL.ptr.1 hx
 exact⟨p,hp,rfl⟩
theorem zyu:zbs Tryz.prog zlk:=by
 intro f vs F h s s' v e w0 B ρ w Ka H Ia Fa
 unfold zlk at h
 split at h
 ·rename_i b Aa
  cases h
  obtain⟨p,hp,e0⟩:=zAa Ia
  rw [e0]
  have ht:=zbj (zjW b Aa) e
  unfold zkR at ht
  obtain⟨us,s1,k1,k2,_⟩:=zac (zan _ _) ht
  rw [forceN_eq]at k2
  obtain⟨ns,s2,k3,k4,_⟩:=zac (zan _ _) k2
  have G1:s1.f=s.f∧s1.n=s.n:=by
   obtain⟨_,_,_,_,_,_,_,_,_,g1,g2⟩:=zaY k1
   exact⟨g1,g2⟩
  have G2:s2.f=s1.f∧s2.n=s1.n:=by
   obtain⟨_,_,_,_,_,_,_,_,_,g1,g2⟩:=zaY k3
   exact⟨g1,g2⟩
  have g1:=G1.1
  have g2:=G1.2
  have g3:=G2.1
  have g4:=G2.2
  clear G1 G2
  have H1:HR w0 B ρ s1.f w:=by rw [g1];exact H
  have H2:HR w0 B ρ s2.f w:=by rw [g3];exact H1
  have hA:VL ρ (.pointer (some ⟨b,Aa,none⟩)) (.pointer (some ⟨p.blk,p.off+Aa,none⟩)):=VL.ptr.2 ⟨rfl,p,hp,rfl⟩
  have hC:VL ρ (.pointer (some ⟨b,Aa+10,none⟩)) (.pointer (some ⟨p.blk,p.off+(Aa+10),none⟩)):=VL.ptr.2 ⟨rfl,p,hp,rfl⟩
  unfold zkW at k4
  split at k4
  ·rename_i r n
   split at k4
   ·rename_i hn
    have hn:=of_decide_eq_true hn
    rw [forceI_eq]at k4
    obtain⟨u,s3,k5,k6,_⟩:=zac (zaF _ _) k4
    obtain⟨rfl,rfl⟩:=zad k6
    obtain⟨a1,v1,q1,Ja,Ga,_⟩:=zdK H k1 hA
    cases q1
    have q2:=VL.int.1 Ga
    subst q2
    obtain⟨a2,v2,q3,Da,Ha,Ca⟩:=zdK H1 k3 hC
    cases q3
    have q4:=VL.int.1 Ha
    subst q4
    have Ca:=Ca (zgZ k5)
    obtain⟨ρ',H',hE⟩:=zhn Tryz.prog H2 k5 hC (VL.int.2 rfl) rfl Da Ca (by rw [g4,g2];exact Fa)
    have Ba:=ztN w p.blk (p.off+Aa) r n Ja (by rw [Nat.add_assoc];exact Da) (by rw [Nat.add_assoc];exact Ca) hn.1 hn.2
    rw [zsf]
    show Calls Tryz.prog 253 _ w _
    refine Calls.mono Ba fun e w' he=> ?_
    obtain⟨rfl,hb⟩:=he
    rw [Nat.add_assoc]at hb
    have hb:Below (w.setCell ⟨p.blk,p.off+(Aa+10),none⟩ (.int .i64 (n+1))).heap.size (w.setCell ⟨p.blk,p.off+(Aa+10),none⟩ (.int .i64 (n+1))) w':=by
     rw [show (w.setCell ⟨p.blk,p.off+(Aa+10),none⟩ (.int .i64 (n+1))).heap.size=w.heap.size by simp only [World.setCell,Array.size_modify]]
     exact hb
    exact⟨_,rfl,ρ',H'.still hb,by rw [g4,g2]at hE;exact hE,VL.agg.2 ⟨_,rfl,_,_,rfl,VL.int.2 rfl,_,_,rfl,VL.int.2 rfl,rfl⟩⟩
   ·exact (zag k4).elim
  ·exact (zag k4).elim
 ·cases h
theorem zhN {P:Program} (w:Xk) (dT sT ty elem:Xm) (s g o dLen dCap:Nat) (a:Addr) (sLen sCap:Nat) (cur:Array Xl) (t:Xm) (cs:Xj) (n:Nat)
  (hu:P.underlying dT=some (.slice elem)) (hs:(P.info? elem).map (·.size)=some s) (hg:w.heap[g]? = some (.cells cur t (0,0))) (hn:n=Nat.min sLen dLen) (hcl:cs.length=n*s)
  (hsrc:∀j v,cs[j]? = some v->w.cell? (a.add j)=some v) (hfit:o+cs.length<=cur.size) (h1:∀v∈cs,v.oneCell'=true) :
  (Builtin.copy_ #[dT,sT] ty #[.slice (some ⟨g,o,none⟩) dLen dCap,.slice (some a) sLen sCap]).run P w=.ok (goInt n) (w.setRow g (cur.toList.take o++cs++cur.toList.drop (o+cs.length)).toArray):=by
 have hl:=run_loadCells_list (P:=P) w a cs hsrc
 have Aa:=run_storeCells_at P g o t cs 0 cur w hg (by simpa using hfit) h1
 cases hq:P.info? elem with
 | none=>simp [hq]at hs
 | some i=>
  have hi:i.size=s:=by simpa [hq]using hs
  rw [hcl]at hl
  simp [Builtin.copy_,run_underlying hu,Builtin.lenOf,Builtin.firstCells,sizeOf,typeInfo,hq,hi,<-hn,hl,Aa]
theorem zlK (w:Xk) (g:Nat) (cs:Array Xl):Frm w (w.setRow g cs) [g]:=
 ⟨rfl,rfl,rfl,by simp [World.setRow],fun k _ hk=>setRow_other w g k cs (fun e=>hk (by simp [e]))⟩
theorem ziH {P:Program} {w:Xk} {ops:Array Oper} {rest:List Oper} {o:Oper} {a:Act} {Q:Exit->Act->Xk->Prop} (hgd:o.guard=none) (d s:Operand) (dT sT:Xm)
  (ho:o.op=.call { callee:=.builtin .copy,args:= #[d,s],argTypes:= #[dT,sT] }) (elem:Xm) (size:Nat) (hu:P.underlying dT=some (.slice elem)) (hsz:(P.info? elem).map (·.size)=some size)
  (g off dLen dCap:Nat) (ad:Addr) (sLen sCap:Nat) (hd:a.eval d=.slice (some ⟨g,off,none⟩) dLen dCap) (hs:a.eval s=.slice (some ad) sLen sCap)
  (cur:Xj) (t:Xm) (hg:w.heap[g]? = some (.cells cur.toArray t (0,0))) (cs:Xj) (n:Nat) (hn:n=Nat.min sLen dLen) (hcl:cs.length=n*size)
  (hsrc:∀j v,cs[j]? = some v->w.cell? (ad.add j)=some v) (hfit:off+cs.length<=cur.length) (h1:∀v∈cs,v.oneCell'=true)
  (h:∀w',Hid (w'.heap[g]? = some (.cells (splice cur off cs).toArray t (0,0)))->Frm w w' [g]->wpList P ops Q rest (a.put o.dst (goInt n)) w'):wpList P ops Q (o::rest) a w:=by
 refine wpList_plain hgd fun K hK=> ?_
 have Aa:=zhN (P:=P) w dT sT o.type elem size g off dLen dCap ad sLen sCap cur.toArray t cs n hu hsz hg hn hcl hsrc (by simpa using hfit) h1
 unfold Oper.wp
 simp [execOp,ho,resolve,invoke,builtin,hd,hs,Aa,Result.andThen]
 exact hK _ _ (h _ (show _=_ by simpa [splice]using setRow_heap w g _ _ t _ hg) (zlK _ _ _))
theorem zlF {P:Program} {w:Xk} {ops:Array Oper} {o:Oper} {a:Act} {K:Act->Xk->Prop} {Q:Exit->Act->Xk->Prop} {E:Prop} (hgd:o.guard=none) (d s:Operand) (dT sT:Xm)
  (ho:o.op=.call { callee:=.builtin .copy,args:= #[d,s],argTypes:= #[dT,sT] }) (elem:Xm) (size:Nat) (hu:P.underlying dT=some (.slice elem)) (hsz:(P.info? elem).map (·.size)=some size)
  (g off dLen dCap:Nat) (ad:Addr) (sLen sCap:Nat) (hd:a.eval d=.slice (some ⟨g,off,none⟩) dLen dCap) (hs:a.eval s=.slice (some ad) sLen sCap)
  (cur:Xj) (t:Xm) (hg:w.heap[g]? = some (.cells cur.toArray t (0,0))) (cs:Xj) (n:Nat) (hn:n=Nat.min sLen dLen) (hcl:cs.length=n*size)
  (hsrc:∀j v,cs[j]? = some v->w.cell? (ad.add j)=some v) (hfit:off+cs.length<=cur.length) (h1:∀v∈cs,v.oneCell'=true)
  (h:∀w',Hid (w'.heap[g]? = some (.cells (splice cur off cs).toArray t (0,0)))->Frm w w' [g]->K (a.put o.dst (goInt n)) w'):if Region.wanted o (yielded ops a.tmps)=true then Oper.wp P o a w K Q else E:=by
 have hw:Region.wanted o (yielded ops a.tmps)=true:=by simp [Region.wanted,hgd]
 rw [if_pos hw]
 have Aa:=zhN (P:=P) w dT sT o.type elem size g off dLen dCap ad sLen sCap cur.toArray t cs n hu hsz hg hn hcl hsrc (by simpa using hfit) h1
 unfold Oper.wp
 simp [execOp,ho,resolve,invoke,builtin,hd,hs,Aa,Result.andThen]
 exact h _ (show _=_ by simpa [splice]using setRow_heap w g _ _ t _ hg) (zlK _ _ _)
theorem zec {α:Type} (L cs:List α) (o j:Nat) (h:o+cs.length<=L.length):(splice L o cs)[j]? = if j<o then L[j]? else if j<o+cs.length then cs[j-o]? else L[j]? :=by
 unfold splice
 have hl:(L.take o).length=o:=by simp;omega
 by_cases h1:j<o
 ·rw [if_pos h1,List.getElem?_append_left (by omega),List.getElem?_take,if_pos h1]
 ·rw [if_neg h1,List.getElem?_append_right (by omega),hl]
  by_cases h2:j<o+cs.length
  ·rw [if_pos h2,List.getElem?_append_left (by omega)]
  ·rw [if_neg h2,List.getElem?_append_right (by omega),List.getElem?_drop]
   congr 1
   omega
theorem zmg {α:Type} (L:List α) (R C Y:List α) (a c y:Nat) (hR:R.length=L.length) (hc:C.length=c) (hy:Y.length=y) (h:a+c+y<=L.length)
  (hg:∀j,R[j]? = if j<a then L[j]? else if j<a+c then C[j-a]? else if j<a+c+y then Y[j-(a+c)]? else R[j]?):R.take (a+c+y)=L.take a++(C++Y):=by
 apply List.ext_getElem?
 intro j
 have hl:(L.take a).length=a:=by simp;omega
 rw [List.getElem?_take,List.getElem?_append,hl,List.getElem?_take,List.getElem?_append,hc]
 by_cases h1:j<a
 ·rw [if_pos (by omega),if_pos h1,if_pos h1,hg j,if_pos h1]
 ·rw [if_neg h1]
  by_cases h2:j<a+c
  ·rw [if_pos (by omega),if_pos (by omega),hg j,if_neg h1,if_pos h2]
  ·rw [if_neg (show ¬ (j-a<c) by omega)]
   by_cases h3:j<a+c+y
   ·rw [if_pos h3,hg j,if_neg h1,if_neg h2,if_pos h3];congr 1;omega
   ·rw [if_neg h3,List.getElem?_eq_none (by omega)]
theorem zwY {α:Type} (L C Y:List α) (a c y:Nat) (hc:C.length=c) (hy:Y.length=y) (h:a+c+y<=L.length):(splice (splice L (a+c) Y) a C).take (a+c+y)=L.take a++(C++Y):=by
 have l1:=length_splice L (a+c) Y (by omega)
 refine zmg L _ C Y a c y (by rw [length_splice _ _ _ (by omega),l1]) hc hy h (fun j=> ?_)
 rw [zec _ _ _ _ (by omega),zec _ _ _ _ (by omega),hc,hy]
 by_cases h1:j<a
 ·simp only [if_pos h1,if_pos (show j<a+c by omega)]
 ·by_cases h2:j<a+c
  ·simp only [if_neg h1,if_pos h2]
  ·simp only [if_neg h1,if_neg h2]
   split<;>rfl
theorem zsv {α:Type} (L C Y:List α) (a c y:Nat) (hc:C.length=c) (hy:Y.length=y) (h:a+c+y<=L.length):(splice (splice L a C) (a+c) Y).take (a+c+y)=L.take a++(C++Y):=by
 have l1:=length_splice L a C (by omega)
 refine zmg L _ C Y a c y (by rw [length_splice _ _ _ (by omega),l1]) hc hy h (fun j=> ?_)
 rw [zec _ _ _ _ (by omega),zec _ _ _ _ (by omega),hc,hy]
 by_cases h1:j<a
 ·simp only [if_pos h1,if_pos (show j<a+c by omega)]
 ·by_cases h2:j<a+c
  ·simp only [if_neg h1,if_pos h2]
  ·simp only [if_neg h1,if_neg h2]
   split<;>rfl
def ovK (la lb:Nat) (x y:Xj×Xm×(Nat×Nat)):M Xl:=match Nat.beq x.2.1 154 && (Nat.beq x.2.2.1 0 && (Nat.blt 0 y.1.length && (Nat.blt 0 la && Nat.blt 0 lb)))with
 | true=>zak (.bool false)
 | false=>zah
def zkX:Hook:=fun f Aa=>match f,Aa with
 | 262,[.slice (some ⟨a,ao,none⟩) la ca,.slice (some ⟨b,bo,none⟩) lb cb]=>match Nat.beq a b || Nat.blt a 16 with
  | true=>none
  | false=>some (zck (zaj (zbC a) fun x=>zaj (zbC b) fun y=>ovK la lb x y))
 | _,_=>none
theorem zyA (la lb:Nat) (x y:Xj×Xm×(Nat×Nat)):Good (ovK la lb x y):=by
 unfold ovK
 split
 ·exact zaf _
 ·exact zae
theorem zsA (a b la lb:Nat):Good (zaj (zbC a) fun x=>zaj (zbC b) fun y=>ovK la lb x y):=zab (zau _) fun _=>zab (zau _) fun _=>zyA _ _ _ _
theorem zuX:zaX zkX:=by
 intro f vs F h
 unfold zkX at h
 split at h
 ·split at h
  ·cases h
  ·cases h;exact zbi (zsA _ _ _ _)
 ·cases h
theorem zyG {R:Xl->Xl->Prop} {x y:Xl} {vs':Xj} (hvs:LR R [x,y] vs'):∃x' y',vs'=[x',y']∧R x x'∧R y y':=by
 obtain⟨x',t1,rfl,h1,y',t2,rfl,h2,e2⟩:=hvs
 have e2:t2=[]:=e2
 subst e2
 exact⟨_,_,rfl,h1,h2⟩
theorem zwn (w:Xk) (a b:Addr) (la ca lb cb:Nat) (hne:a.block≠b.block) (tA tB:Xm) (kA kB:Nat)
  (hsa:w.shape? a.block=some (tA,kA)) (hsb:w.shape? b.block=some (tB,kB)) (hkB:kB≠0)
  (hfa:w.frozen? a=false) (hfe:w.frozen? { block:=a.block,off:=kA }=false) :
  (callFunc 262 #[.slice (some a) la ca,.slice (some b) lb cb]).run Tryz.prog w=.ok (.value (.bool false)) w:=by
 have hm:(Tryz.prog.info? 154).map (·.size)=some 12:=by kernel_rfl
 have Aa:∀w,(sizeOf 154).run Tryz.prog w=.ok 12 w:=by
  intro w
  cases hi:Tryz.prog.info? 154 with
  | none=>rw [hi]at hm;cases hm
  | some i0=>
   rw [hi]at hm
   have Ba:i0.size=12:=Option.some.inj hm
   simp [sizeOf,typeInfo,hi,Ba]
 rw [run_callFunc_extern Tryz.func262 (by kernel_rfl) (by kernel_rfl) (by kernel_rfl) (e:=Extern.SlicesOverlaps.overlaps #[39,39] #[4]) (by kernel_rfl),
  Lib.run_overlaps_apart w 39 4 154 Tryz.underlying39 12 Aa a b la ca lb cb hne _ _ _ _ hsa hsb hkB hfa hfe]
 rfl
theorem zxG:zbs Tryz.prog zkX:=by
 intro f vs F h s s' v e w0 B ρ w Ma H Ka Oa
 unfold zkX at h
 split at h
 ·rename_i a ao la ca b bo lb cb
  split at h
  ·cases h
  rename_i Aa
  rw [Bool.or_eq_false_iff]at Aa
  have Fa:16<=a:=by
   have h2:¬ a<16:=by
    intro h
    have h3:Nat.blt a 16=true:=by rw [Nat.blt_eq];exact h
    rw [h3]at Aa
    exact absurd Aa.2 (by decide)
   omega
  have Aa:a≠b:=fun h=>by have:=Aa.1;rw [h]at this;simp at this
  cases h
  obtain⟨x',y',e0,hx,hy⟩:=zyG Ka
  rw [e0]
  have ht:=zbj (zsA a b la lb) e
  obtain⟨x,s1,k1,k2,_⟩:=zac (zau _) ht
  obtain⟨y,s2,k3,k4,_⟩:=zac (zau _) k2
  obtain⟨f1,f2,f3⟩:=zaW k1
  obtain⟨g1,g2,g3⟩:=zaW k3
  rw [f2]at g1
  unfold ovK at k4
  split at k4
  ·rename_i hc
   simp only [Bool.and_eq_true]at hc
   obtain⟨c1,c2,c3,c4,c5⟩:=hc
   have c1:=Nat.eq_of_beq_eq_true c1
   have c2:=Nat.eq_of_beq_eq_true c2
   have c3:=zcZ c3
   have c4:=zcZ c4
   have c5:=zcZ c5
   obtain⟨rfl,rfl⟩:=zad k4
   obtain⟨_,Na,p,hp,a',Da,e1,_,e3,_⟩:=VL.slice.1 hx
   obtain⟨_,La,q,hq,b',Ca,d1,_,d3,_⟩:=VL.slice.1 hy
   have e3:=e3 (by omega)
   have d3:=d3 (by omega)
   obtain⟨p',Ga,p2,p3,p4,cA,tA,fA,p5,p6,p7,p8⟩:=H.obj a _ f1
   rw [show (ρ a=some p) from hp]at Ga
   cases Ga
   obtain⟨q',Ha,q2,q3,q4,cB,tB,fB,q5,q6,q7,q8⟩:=H.obj b _ g1
   rw [show (ρ b=some q) from hq]at Ha
   cases Ha
   have Ja:p.blk≠q.blk:=H.sep a b _ _ p q Aa f1 g1 hp hq
   have hz:fA.1=fA.2:=(p7 Fa).2 c1 c2
   have Ia:∀o,w.frozen? ⟨p.blk,o,none⟩=false:=fun o=>by
    simp only [World.frozen?,p5]
    simp
    omega
   have Pa:q.sz=y.1.length:=q2
   have Ba:=zwn w a' b' la Da lb Ca (by rw [e3,d3];exact Ja) tA tB cA.size cB.size (by rw [e3];exact zfw p5) (by rw [d3];exact zfw q5) (by omega) (by rw [e3];exact Ia _) (by rw [e3];exact Ia _)
   rw [e1,d1,show (⟨[.slice (some a') la Da,.slice (some b') lb Ca]⟩:Array Xl) = #[.slice (some a') la Da,.slice (some b') lb Ca] from rfl,Ba]
   exact⟨ρ,H.congr fun id=>by rw [g2,f2],by rw [g3,f3];exact .rfl,VL.bool.2 rfl⟩
  ·exact (zag k4).elim
 ·cases h
theorem zjS {P:Program} (w:Xk) (dT sT ty elem:Xm) (s g o dLen dCap:Nat) (a:Addr) (sLen sCap:Nat) (cur:Xj) (t:Xm) (fz:Nat×Nat) (cs:Xj) (n:Nat)
  (hu:P.underlying dT=some (.slice elem)) (hs:(P.info? elem).map (·.size)=some s) (hg:w.heap[g]? = some (.cells cur.toArray t fz)) (hz:∀k,k<cur.length->¬ (fz.1<=k∧k<fz.2)) (hn:n=Nat.min sLen dLen) (hcl:cs.length=n*s)
  (hsrc:∀j v,cs[j]? = some v->w.cell? (a.add j)=some v) (hfit:o+cs.length<=cur.length) (h1:∀v∈cs,v.oneCell'=true) :
  ∃w',(Builtin.copy_ #[dT,sT] ty #[.slice (some ⟨g,o,none⟩) dLen dCap,.slice (some a) sLen sCap]).run P w=.ok (goInt n) w'∧w'.heap[g]? = some (.cells (splice cur o cs).toArray t fz)∧Frm w w' [g]:=by
 have hl:=run_loadCells_list (P:=P) w a cs hsrc
 obtain⟨w',c',Aa,hb,Ca,tw,hk⟩:=zgo (P:=P) (o:=o) cs 0 w cur.toArray hg (by simpa using hfit) (by simpa using hz) h1
 have Ba:c'=(splice cur o cs).toArray:=by
  apply Array.ext_getElem?
  intro j
  rw [hk j]
  simp only [List.getElem?_toArray,Nat.add_zero]
  rw [zec _ _ _ _ hfit]
  by_cases h1:j<o
  ·rw [if_neg (by omega),if_pos h1]
  ·by_cases h2:j<o+cs.length
   ·rw [if_pos (by omega),if_neg h1,if_pos h2]
   ·rw [if_neg (by omega),if_neg h1,if_neg h2]
 refine⟨w',?_,by rw [<-Ba];exact hb,⟨tw.os,tw.tape,tw.output,by rw [tw.size];exact Nat.le_refl _,fun k _ hk=>tw.other k (fun e=>hk (by simp [e]))⟩⟩
 cases hq:P.info? elem with
 | none=>simp [hq]at hs
 | some i=>
  have hi:i.size=s:=by simpa [hq]using hs
  rw [hcl]at hl
  simp [Builtin.copy_,run_underlying hu,Builtin.lenOf,Builtin.firstCells,sizeOf,typeInfo,hq,hi,<-hn,hl,Aa]
theorem zhW {P:Program} {w:Xk} {ops:Array Oper} {rest:List Oper} {o:Oper} {a:Act} {Q:Exit->Act->Xk->Prop} (hgd:o.guard=none) (d s:Operand) (dT sT:Xm)
  (ho:o.op=.call { callee:=.builtin .copy,args:= #[d,s],argTypes:= #[dT,sT] }) (elem:Xm) (size:Nat) (hu:P.underlying dT=some (.slice elem)) (hsz:(P.info? elem).map (·.size)=some size)
  (g off dLen dCap:Nat) (ad:Addr) (sLen sCap:Nat) (hd:a.eval d=.slice (some ⟨g,off,none⟩) dLen dCap) (hs:a.eval s=.slice (some ad) sLen sCap)
  (cur:Xj) (t:Xm) (fz:Nat×Nat) (hg:w.heap[g]? = some (.cells cur.toArray t fz)) (hz:∀k,k<cur.length->¬ (fz.1<=k∧k<fz.2)) (cs:Xj) (n:Nat) (hn:n=Nat.min sLen dLen) (hcl:cs.length=n*size)
  (hsrc:∀j v,cs[j]? = some v->w.cell? (ad.add j)=some v) (hfit:off+cs.length<=cur.length) (h1:∀v∈cs,v.oneCell'=true)
  (h:∀w',Hid (w'.heap[g]? = some (.cells (splice cur off cs).toArray t fz))->Frm w w' [g]->wpList P ops Q rest (a.put o.dst (goInt n)) w'):wpList P ops Q (o::rest) a w:=by
 refine wpList_plain hgd fun K hK=> ?_
 obtain⟨w',Aa,hb,hf⟩:=zjS (P:=P) w dT sT o.type elem size g off dLen dCap ad sLen sCap cur t fz cs n hu hsz hg hz hn hcl hsrc hfit h1
 unfold Oper.wp
 simp [execOp,ho,resolve,invoke,builtin,hd,hs,Aa,Result.andThen]
 exact hK _ _ (h _ hb hf)
theorem zlj {P:Program} {w:Xk} {ops:Array Oper} {o:Oper} {a:Act} {K:Act->Xk->Prop} {Q:Exit->Act->Xk->Prop} {E:Prop} (hgd:o.guard=none) (d s:Operand) (dT sT:Xm)
  (ho:o.op=.call { callee:=.builtin .copy,args:= #[d,s],argTypes:= #[dT,sT] }) (elem:Xm) (size:Nat) (hu:P.underlying dT=some (.slice elem)) (hsz:(P.info? elem).map (·.size)=some size)
  (g off dLen dCap:Nat) (ad:Addr) (sLen sCap:Nat) (hd:a.eval d=.slice (some ⟨g,off,none⟩) dLen dCap) (hs:a.eval s=.slice (some ad) sLen sCap)
  (cur:Xj) (t:Xm) (fz:Nat×Nat) (hg:w.heap[g]? = some (.cells cur.toArray t fz)) (hz:∀k,k<cur.length->¬ (fz.1<=k∧k<fz.2)) (cs:Xj) (n:Nat) (hn:n=Nat.min sLen dLen) (hcl:cs.length=n*size)
  (hsrc:∀j v,cs[j]? = some v->w.cell? (ad.add j)=some v) (hfit:off+cs.length<=cur.length) (h1:∀v∈cs,v.oneCell'=true)
  (h:∀w',Hid (w'.heap[g]? = some (.cells (splice cur off cs).toArray t fz))->Frm w w' [g]->K (a.put o.dst (goInt n)) w'):if Region.wanted o (yielded ops a.tmps)=true then Oper.wp P o a w K Q else E:=by
 have hw:Region.wanted o (yielded ops a.tmps)=true:=by simp [Region.wanted,hgd]
 rw [if_pos hw]
 obtain⟨w',Aa,hb,hf⟩:=zjS (P:=P) w dT sT o.type elem size g off dLen dCap ad sLen sCap cur t fz cs n hu hsz hg hz hn hcl hsrc hfit h1
 unfold Oper.wp
 simp [execOp,ho,resolve,invoke,builtin,hd,hs,Aa,Result.andThen]
 exact h _ hb hf
theorem zqi:(Tryz.prog.info? 154).map (fun i=>(i.zero,i.size,i.bytes))=some (some (.agg #[.int .i64 0,.int .i64 0,.int .i64 0,.int .i64 0,.int .i64 0,.int .i64 0,.int .i64 0,.slice none 0 0,.int .i64 0,.slice none 0 0,.slice none 0 0,.bool false]),12,144):=by kernel_rfl
def InsW (w:Xk) (S:Xh) (g o n cap:Nat) (ys:Xj) (e:Ending) (w':Xk):Prop:=
 e=.returned (.slice (some ⟨g,o,none⟩) (n+1) cap)∧n+1<=cap∧cap<=9223372036854775807∧Frm w w' S∧∃(R:Xj) (t:Xm) (fz:Nat×Nat),w'.heap[g]? = some (.cells R.toArray t fz)∧o+cap*12<=R.length∧Fz R.length fz∧(R.drop o).take ((n+1)*12)=ys
theorem zeB {w:Xk} {g o:Nat} {R xs:Xj} {t:Xm} {fz:Nat×Nat} (h:w.heap[g]? = some (.cells R.toArray t fz)) {k:Nat} (hx:(R.drop o).take k=xs) (j:Nat) (u:Xl) (hj:xs[j]? = some u):w.cell? ⟨g,o+j,none⟩=some u:=by
 rw [zfj h]
 rw [<-hx,List.getElem?_take]at hj
 split at hj
 ·rw [List.getElem?_drop]at hj;simpa using hj
 ·cases hj
set_option maxHeartbeats 8000000 in
theorem zwV (w:Xk) (g o n cap i vb vo vc:Nat) (xs C:Xj) (hxl:xs.length=n*12) (hcells:∀j u,xs[j]? = some u->w.cell? ⟨g,o+j,none⟩=some u) (hglt:g<w.heap.size) (hC:C.length=12) (hcv:∀j u,C[j]? = some u->w.cell? ⟨vb,vo+j,none⟩=some u) (hvlt:vb<w.heap.size)
  (h1:∀u∈C,u.oneCell'=true) (hx1:∀u∈xs,u.oneCell'=true) (hn:n<=1000) (hi:i<n) (hnc:n<=cap) (hroom:cap<n+1) (hvc:1<=vc) (hvm:vc<=9223372036854775807) :
  Calls Tryz.prog 229 #[.slice (some ⟨g,o,none⟩) n cap,.int .i64 i,.slice (some ⟨vb,vo,none⟩) 1 vc] w fun e w'=>∃G,InsW w [] w.heap.size 0 n G (xs.take (i*12)++(C++xs.drop (i*12))) e w':=by
 obtain⟨i0,Va,Na,Ta,Ua⟩:=info_parts zqi
 have Ra:(Tryz.prog.info? 154).map (·.size)=some 12:=by rw [Va];simp [Ta]
 have la:i*12<=n*12:=Nat.mul_le_mul_right _ (by omega)
 have Ca:(Builtin.firstCells i0.size i (.slice (some ⟨g,o,none⟩) i cap)).run Tryz.prog w.drew=.ok (xs.take (i*12)).toArray w.drew:=by
  rw [Ta]
  exact run_firstCells_some w.drew 12 i ⟨g,o,none⟩ i cap (xs.take (i*12)) (by rw [List.length_take];omega) (fun j v hj=>by
   rw [zcB]
   rw [List.getElem?_take]at hj
   split at hj
   ·exact hcells j v hj
   ·cases hj)
 have Ha:i+(n+1-i)=n+1:=by omega
 have Pa:(n:Int)+1-(i:Int)=((n+1-i:Nat):Int):=by omega
 obtain⟨z,hz⟩:∃z:Xl,z=.agg #[.int .i64 0,.int .i64 0,.int .i64 0,.int .i64 0,.int .i64 0,.int .i64 0,.int .i64 0,.slice none 0 0,.int .i64 0,.slice none 0 0,.slice none 0 0,.bool false]:=⟨_,rfl⟩
 have ga:z.cells.size=12:=by rw [hz];rfl
 rw [<-hz]at Na
 obtain⟨G,hG⟩:∃G,G=grownCap w (n+1) cap 154:=⟨_,rfl⟩
 obtain⟨R,hR⟩:∃R:Xj,R=((xs.take (i*12)).toArray++Builtin.zeroCells z.cells (n+1-i)++Builtin.zeroCells z.cells (G-(n+1))).toList:=⟨_,rfl⟩
 have Qa:∀ty,(Builtin.append_ #[39,3] ty #[.slice (some ⟨g,o,none⟩) i cap,.int .i64 ((n:Int)+1-(i:Int))]).run Tryz.prog w=.ok (.slice (some ⟨w.heap.size,0,none⟩) (n+1) G) (w.drew.alloc (.cells R.toArray 154)):=by
  intro ty
  have h:=Lib.run_append_grow_zeros w 39 3 ty 154 i0 z .i64 .i64 Tryz.underlying39 Tryz.underlying3 Va Na (some ⟨g,o,none⟩) i cap (xs.take (i*12)) Ca (n+1-i) (by omega) (by omega) (by omega) (by omega) (by rw [Ua];omega) (by rw [Ua,Ha];exact growslice_fits hroom (by omega))
  rw [Ha,<-hG]at h
  rw [Pa,hR,Array.toArray_toList]
  exact h
 have fa:n+1<=G:=by rw [hG];exact grownCap_ge w _ _ _
 have ca:G<=maxLen:=by rw [hG];exact grownCap_le_maxLen w (n+1) cap 154 (by unfold maxLen;omega)
 have Xa:R.length=G*12:=by
  rw [hR]
  simp [Builtin.zeroCells,ga,List.length_take]
  omega
 have Ya:R.take (i*12)=xs.take (i*12):=by
  rw [hR]
  simp [List.take_append,List.length_take]
  have e:i*12-min (i*12) xs.length=0:=by omega
  rw [e]
  simp [List.take_take]
 have Sa:(xs.drop (i*12)).length=(n-i)*12:=by rw [List.length_drop];omega
 have oa:¬ (G=i):=by omega
 have ba:¬ (G=i+1):=by omega
 have na:¬ (cap=i):=by omega
 have Ia:G<=9223372036854775807:=by unfold maxLen at ca;omega
 have Ma:((w.alloc (.cells R.toArray 154)).drew).heap[w.heap.size]? = some (.cells R.toArray 154 (0,0)):=heap_alloc_new w _
 have Ka:Frm w (w.alloc (.cells R.toArray 154)).drew []:=⟨rfl,rfl,rfl,by simp [World.drew],fun k hk _=>heap_alloc_old w _ hk⟩
 have Oa:∀{u:Xk} {b k:Nat},Frm w u [w.heap.size]->b<w.heap.size->u.cell? ⟨b,k,none⟩=w.cell? ⟨b,k,none⟩:=fun hf hb=>by
  simp only [World.cell?,hf.block _ hb (by simp;omega)]
 have La:∀j u,C[j]? = some u->(w.alloc (.cells R.toArray 154)).drew.cell? ((⟨vb,vo,none⟩:Addr).add j)=some u:=fun j u hj=>by
  rw [zcB,Oa (Ka.mono (fun q hq=>by simp at hq)) hvlt];exact hcv j u hj
 clear Ca Pa Ha hR hG
 go_enter Tryz.func229,Tryz.ntmps229
 go_wp2_with (first
  | (at_builtin;refine Lib.wpList_append_run _ rfl _ _ _ _ rfl _ _ rfl rfl _ _ (Qa _) ?_)
  | (refine zhW rfl _ _ 39 39 rfl 154 12 Tryz.underlying39 Ra w.heap.size (i*12) (n+1-i) (G-i) ⟨vb,vo,none⟩ 1 vc ?_ ?_ R 154 (0,0) ?_ (by intro k _;simp) C 1 (by simp only [Nat.min_def];split<;>omega) (by omega) ?_ (by omega) h1 ?_;rfl;rfl;exact Ma;exact La;intro w2 da ia))
 have Ja:=zaa da
 have Fa:Frm w w2 [w.heap.size]:=(Ka.mono (fun q hq=>by simp at hq)).trans ia
 have Aa:∀j u,(xs.drop (i*12))[j]? = some u->w2.cell? ((⟨g,o+i*12,none⟩:Addr).add j)=some u:=fun j u hj=>by
  rw [zcB,Oa Fa hglt,Nat.add_assoc]
  exact hcells _ u (by rw [List.getElem?_drop]at hj;exact hj)
 have aa:(splice R (i*12) C).length=G*12:=by rw [length_splice _ _ _ (by omega)];exact Xa
 have ea:∀u∈xs.drop (i*12),u.oneCell'=true:=fun u hu=>hx1 u (List.mem_of_mem_drop hu)
 have HM:=hide (show n-i=Nat.min (n-i) (n-i) by simp only [Nat.min_def];split<;>omega)
 have pa:(0:Int)<=(i:Int)+1:=by omega
 have ha:i<=n:=by omega
 have qa:(i:Int)<=(n:Int):=by omega
 have Wa:w2.drew.heap[w.heap.size]? = some (.cells (splice R (i*12) C).toArray 154 (0,0)):=Ja
 have ja:∀j u,(xs.drop (i*12))[j]? = some u->w2.drew.cell? ((⟨g,o+i*12,none⟩:Addr).add j)=some u:=Aa
 have ma:IntKind.i64.wrap ((i:Int)+1)=(i:Int)+1:=by rw [IntKind.wrap_i64];omega
 have ka:((i:Int)+1).toNat=i+1:=by omega
 clear Qa Ma La
 go_region_law (refine zlj rfl _ _ 39 39 rfl 154 12 Tryz.underlying39 Ra w.heap.size ((i+1)*12) (n-i) (G-(i+1)) ⟨g,o+i*12,none⟩ (n-i) (cap-i) (by simp [Act.eval,Act.put]) (by simp [Act.eval,Act.put]) (splice R (i*12) C) 154 (0,0) Wa (by intro k _;simp) (xs.drop (i*12)) (n-i) (zaa HM) Sa ja (by omega) ea ?_;intro w3 Za Ba)
 go_wp2
 go_ret
 have Da:=zsv R C (xs.drop (i*12)) (i*12) 12 ((n-i)*12) hC Sa (by omega)
 rw [Ya]at Da
 have Ga:w3.heap[w.heap.size]? = some (.cells (splice (splice R (i*12) C) (i*12+12) (xs.drop (i*12))).toArray 154 (0,0)):=by
  have:=zaa Za
  rw [show (i+1)*12=i*12+12 by omega]at this
  exact this
 refine⟨G,rfl,fa,Ia,?_,_,_,_,Ga,?_,.inl rfl,?_⟩
 ·have f3:Frm w w3 [w.heap.size]:=Fa.trans (⟨Ba.os,Ba.tape,Ba.output,Ba.size,Ba.block⟩:Frm w2 w3 [w.heap.size])
  exact⟨f3.os,f3.tape,f3.output,f3.size,fun k hk _=>f3.block k hk (by simp;omega)⟩
 ·rw [length_splice _ _ _ (by omega),aa];omega
 ·rw [List.drop_zero,<-Da];congr 1;omega
set_option maxHeartbeats 8000000 in
theorem ztR (w:Xk) (g o n cap i vb vo vc:Nat) (R0 xs C:Xj) (t:Xm) (fz:Nat×Nat) (tv:Xm) (kv:Nat) (hg:w.heap[g]? = some (.cells R0.toArray t fz)) (hzF:Fz R0.length fz) (htk:(R0.drop o).take (n*12)=xs) (hcs:o+cap*12<=R0.length)
  (hC:C.length=12) (hcv:∀j u,C[j]? = some u->w.cell? ⟨vb,vo+j,none⟩=some u) (hvlt:vb<w.heap.size) (hsv:w.shape? vb=some (tv,kv)) (hfv:∀k,w.frozen? ⟨vb,k,none⟩=false)
  (h1:∀u∈C,u.oneCell'=true) (hx1:∀u∈xs,u.oneCell'=true) (hn:n<=1000) (hi:i<n) (hroom:n+1<=cap) (hc63:cap<=9223372036854775807) (hvb:vb≠g) (hvc:1<=vc) (hvm:vc<=9223372036854775807) :
  Calls Tryz.prog 229 #[.slice (some ⟨g,o,none⟩) n cap,.int .i64 i,.slice (some ⟨vb,vo,none⟩) 1 vc] w (InsW w [g] g o n cap (xs.take (i*12)++(C++xs.drop (i*12)))):=by
 obtain⟨i0,Za,ca,Xa,ja⟩:=info_parts zqi
 have Ia:(Tryz.prog.info? 154).map (·.size)=some 12:=by rw [Za];simp [Xa]
 have hz:=hzF.no
 have Ua:(n+1)*12<=cap*12:=Nat.mul_le_mul_right _ hroom
 have ba:xs.length=n*12:=by rw [<-htk,List.length_take,List.length_drop];omega
 have Pa:∀lb cb,(callFunc 262 #[.slice (some ⟨vb,vo,none⟩) 1 vc,.slice (some ⟨g,o+(i+1)*12,none⟩) lb cb]).run Tryz.prog w=.ok (.value (.bool false)) w:=fun lb cb=>
  zwn w ⟨vb,vo,none⟩ ⟨g,o+(i+1)*12,none⟩ 1 vc lb cb hvb tv t kv R0.length hsv (by have:=zfw hg;simpa using this) (by omega) (hfv _) (hfv _)
 have Va:i*12<=n*12:=Nat.mul_le_mul_right _ (by omega)
 have Ja:(xs.drop (i*12)).length=(n-i)*12:=by rw [List.length_drop];omega
 have Ta:∀u∈xs.drop (i*12),u.oneCell'=true:=fun u hu=>hx1 u (List.mem_of_mem_drop hu)
 have Da:∀j u,(xs.drop (i*12))[j]? = some u->w.drew.cell? ((⟨g,o+i*12,none⟩:Addr).add j)=some u:=fun j u hj=>by
  have:w.cell? ((⟨g,o+i*12,none⟩:Addr).add j)=some u:=by
   rw [zcB,Nat.add_assoc]
   exact zeB hg htk _ u (by rw [List.getElem?_drop]at hj;exact hj)
  exact this
 have La:w.drew.heap[g]? = some (.cells R0.toArray t fz):=hg
 have aa:Frm w w.drew []:=⟨rfl,rfl,rfl,Nat.le_refl _,fun _ _ _=>rfl⟩
 have HM:=hide (show n-i=Nat.min (n+1-i) (n-i) by simp only [Nat.min_def];split<;>omega)
 have Ma:=hide (show 1=Nat.min 1 (n+1-i) by simp only [Nat.min_def];split<;>omega)
 have fa:IntKind.i64.wrap ((i:Int)+1)=(i:Int)+1:=by rw [IntKind.wrap_i64];omega
 have da:((i:Int)+1).toNat=i+1:=by omega
 have ia:(0:Int)<=(i:Int)+1:=by omega
 have Ya:i<=n:=by omega
 have ka:(i:Int)<=(n:Int):=by omega
 have ga:¬ (cap=i+1):=by omega
 have ha:¬ (cap=i):=by omega
 have ea:(i:Int)<=(n:Int)+1:=by omega
 have Ba:=length_splice R0 (o+(i+1)*12) (xs.drop (i*12)) (by omega)
 have Ka:∀k,k<(splice R0 (o+(i+1)*12) (xs.drop (i*12))).length->¬ (fz.1<=k∧k<fz.2):=by rw [Ba];exact hz
 have HZ:=hide hz
 have HF:=hide hzF
 have Qa:=hide Ka
 clear hz Ka hzF
 go_enter Tryz.func229,Tryz.ntmps229
 go_wp2_with (simp only [Pa])
 go_region_law (refine zlj rfl _ _ 39 39 rfl 154 12 Tryz.underlying39 Ia g (o+(i+1)*12) (n-i) (cap-(i+1)) ⟨g,o+i*12,none⟩ (n+1-i) (cap-i) (by simp [Act.eval,Act.put]) (by simp [Act.eval,Act.put]) R0 t fz La (zaa HZ) (xs.drop (i*12)) (n-i) (zaa HM) Ja Da (by omega) Ta ?_;intro w3 Ra Na)
 have Ga:=zaa Ra
 have Fa:Frm w w3 [g]:=(aa.mono (fun q hq=>by simp at hq)).trans Na
 have Sa:∀j u,C[j]? = some u->w3.cell? ((⟨vb,vo,none⟩:Addr).add j)=some u:=fun j u hj=>by
  rw [zcB]
  have:=hcv j u hj
  simp only [World.cell?,Fa.block vb hvlt (by simpa using hvb)]
  exact this
 go_wp2_with (refine zhW rfl _ _ 39 39 rfl 154 12 Tryz.underlying39 Ia g (o+i*12) (n+1-i) (cap-i) ⟨vb,vo,none⟩ 1 vc ?_ ?_ (splice R0 (o+(i+1)*12) (xs.drop (i*12))) t fz ?_ (zaa Qa) C 1 (zaa Ma) (by omega) ?_ (by omega) h1 ?_;rfl;rfl;exact Ga;exact Sa;intro w4 Oa Wa)
 go_ret
 have Ca:=zwY R0 C (xs.drop (i*12)) (o+i*12) 12 ((n-i)*12) hC Ja (by omega)
 have Ha:w4.heap[g]? = some (.cells (splice (splice R0 (o+i*12+12) (xs.drop (i*12))) (o+i*12) C).toArray t fz):=by
  have:=zaa Oa
  rw [show o+(i+1)*12=o+i*12+12 by omega]at this
  exact this
 have Aa:(splice (splice R0 (o+i*12+12) (xs.drop (i*12))) (o+i*12) C).length=R0.length:=by
  rw [show o+(i+1)*12=o+i*12+12 by omega]at Ba
  rw [length_splice _ _ _ (by omega),Ba]
 refine⟨rfl,hroom,hc63,Fa.trans Wa,_,_,_,Ha,by rw [Aa];exact hcs,by rw [Aa];exact zaa HF,?_⟩
 have e1:o+i*12+12+(n-i)*12=o+(n+1)*12:=by omega
 rw [e1]at Ca
 have e2:R0.take (o+i*12)=R0.take o++xs.take (i*12):=by
  rw [<-htk,List.take_take,Nat.min_eq_left Va,List.take_add]
 rw [e2]at Ca
 have e3:=congrArg (List.drop o) Ca
 rw [List.drop_take,Nat.add_sub_cancel_left]at e3
 have e4:(R0.take o).length=o:=by rw [List.length_take];omega
 rw [e3,List.append_assoc,List.drop_append,e4,Nat.sub_self,List.drop_zero,List.drop_eq_nil_of_le (by omega),List.nil_append]
abbrev ClI:=Xj×Xm×(Nat×Nat)
def insG (off n c i:Nat) (x y:ClI):Bool:=(Nat.beq y.2.1 154 && Nat.beq y.2.2.1 0) && ((Nat.beq x.2.2.1 0 || Nat.beq x.2.2.1 12) && (Nat.ble (off+c*12) x.1.length && (Nat.blt i n && Nat.ble n 1000)))
def insP (b n i:Nat) (l v:Xj):M Xl:=zaj (mset b none) fun _=>forceL (l.take (i*12)++(v++l.drop (i*12))) fun l=>zaj (mrow 154 l (12,1)) fun id=>forceN (n+1) fun m=>zak (zbD id 0 m m)
def insQ (b off n c i vo:Nat) (x y:ClI):M Xl:=match insG off n c i x y with
 | true=>zaj (cutV off (n*12) x.1) fun l=>zaj (cutV vo 12 y.1) fun v=>insP b n i l v
 | false=>zah
def insK (b off n c i vb vo:Nat):M Xl:=zaj (zbC b) fun x=>zaj (zbC vb) fun y=>insQ b off n c i vo x y
def zmo:Hook:=fun f Aa=>match f,Aa with
 | 229,[.slice (some ⟨b,off,none⟩) n c,.int .i64 (.ofNat i),.slice (some ⟨vb,vo,none⟩) 1 vc]=>match Nat.blt i n && (!(Nat.beq b vb) && Nat.ble 16 vb)with
  | true=>some (zck (insK b off n c i vb vo))
  | false=>none
 | _,_=>none
theorem zwR (b n i:Nat) (l v:Xj):Good (insP b n i l v):=by
 unfold insP
 refine zab (zcv _ _) fun _=> ?_
 rw [forceL_eq]
 refine zab (zaM _ _ _) fun _=> ?_
 rw [forceN_eq]
 exact zaf _
theorem zvB (b off n c i vo:Nat) (x y:ClI):Good (insQ b off n c i vo x y):=by
 unfold insQ
 split
 ·exact zab (zce _ _ _) fun _=>zab (zce _ _ _) fun _=>zwR _ _ _ _ _
 ·exact zae
theorem zob (b off n c i vb vo:Nat):Good (insK b off n c i vb vo):=zab (zau _) fun _=>zab (zau _) fun _=>zvB _ _ _ _ _ _ _ _
theorem zuC:zaX zmo:=by
 intro f vs F h
 unfold zmo at h
 split at h
 ·split at h
  ·cases h;exact zbi (zob _ _ _ _ _ _ _)
  ·cases h
 ·cases h
theorem ztE {R:Xl->Xl->Prop} {x y z:Xl} {vs':Xj} (hvs:LR R [x,y,z] vs'):∃x' y' z',vs'=[x',y',z']∧R x x'∧R y y'∧R z z':=by
 obtain⟨x',t1,rfl,h1,y',t2,rfl,h2,z',t3,rfl,h3,e3⟩:=hvs
 have e3:t3=[]:=e3
 subst e3
 exact⟨_,_,_,rfl,h1,h2,h3⟩
theorem zwi (w:Xk) (vs:Array Xl):(callFunc 229 vs).run Tryz.prog w=.ok (.enter 229 vs) w:=by
 have hname:(Tryz.f229.name == "runtime.NumGoroutine")=false:=by kernel_rfl
 have hbody:Tryz.f229.body.isNone=false:=by kernel_rfl
 simp only [callFunc,Sem.run_bind,run_program,Result.andThen,Tryz.func229,hname,hbody,Bool.false_eq_true,if_false,Sem.run_pure]
theorem zqP {ρ:Rn} {po off m:Nat} {l:Xj} {c2:Array Xl} (h1:off+m<=l.length) (h2:po+off+m<=c2.size) (h8:∀k v,(⟨l⟩:Array Xl)[k]? = some v->∃v',c2[po+k]? = some v'∧VL ρ v v') :
  LR (VL ρ) ((l.drop off).take m) ((c2.toList.drop (po+off)).take m):=by
 refine LR.of ?_ fun i v v' hv Aa=> ?_
 ·simp only [List.length_take,List.length_drop,Array.length_toList];omega
 ·rw [List.getElem?_take]at hv Aa
  split at hv
  ·rename_i hi
   rw [if_pos hi,List.getElem?_drop]at Aa
   rw [List.getElem?_drop]at hv
   obtain⟨u,e1,e2⟩:=h8 (off+i) v (by simpa using hv)
   rw [show po+off+i=po+(off+i) by omega]at Aa
   have Aa:c2[po+(off+i)]? = some v':=by simpa using Aa
   rw [Aa]at e1
   cases e1
   exact e2
  ·cases hv
theorem zjG {w0 w w':Xk} {B:Nat} {ρ:Rn} {h:Hf} {k g o n cap:Nat} {l ys R:Xj} {t:Xm} {fz:Nat×Nat} (H:HR w0 B ρ h w) (hk:ρ k=none) (h16:16<=k) (hB:B<=g) (hfar:∀id o p',h id=some o->ρ id=some p'->p'.blk≠g)
  (hb:Below B w0 w') (hw:∀id o p',h id=some o->ρ id=some p'->w'.heap[p'.blk]? = w.heap[p'.blk]?) (hl:LR (VL ρ) l ys) (hll:l.length=(n+1)*12) (hcap:n+1<=cap)
  (hg:w'.heap[g]? = some (.cells R.toArray t fz)) (hs:o+cap*12<=R.length) (hz:Fz R.length fz) (hy:(R.drop o).take ((n+1)*12)=ys) :
  HR w0 B (ρ.put k ⟨g,o,(n+1)*12,12,cap-(n+1)⟩) (h.put k (some (.cells ⟨l⟩ 154 (12,1)))) w':=by
 refine H.new hk h16 hB hfar hb hw ⟨_,if_pos rfl,hll.symm,(fun h0=>by cases h0),(fun _=>rfl),R.toArray,t,fz,hg,?_,(fun _=>⟨by simpa using hz,fun _ h0=>by cases h0⟩),fun j v hj=> ?_⟩
 ·simp only [List.size_toArray]
  have:(n+1)*12+(cap-(n+1))*12=cap*12:=by rw [<-Nat.add_mul];congr 1;omega
  omega
 ·obtain⟨v',e1,e2⟩:=hl.at (by simpa using hj)
  rw [<-hy,List.getElem?_take]at e1
  split at e1
  ·rw [List.getElem?_drop]at e1
   exact⟨v',by simpa using e1,e2.grow (Rn.put_le hk _)⟩
  ·cases e1
theorem zsY {ρ:Rn} {k g o n cap:Nat} (hk:ρ k=none) (hcap:n+1<=cap) (hc:cap<=9223372036854775807):VL (ρ.put k ⟨g,o,(n+1)*12,12,cap-(n+1)⟩) (zbD k 0 (n+1) (n+1)) (.slice (some ⟨g,o,none⟩) (n+1) cap):=by
 refine VL.slice.2 ⟨rfl,Nat.le_refl _,_,if_pos rfl,⟨g,o,none⟩,cap,rfl,?_,fun _=>rfl,hc⟩
 simp only [Nat.zero_add,if_true]
 omega
theorem zyU:zbs Tryz.prog zmo:=by
 intro f vs F h s s' v e w0 B ρ w wa H ka sa
 unfold zmo at h
 split at h
 ·rename_i b Ha n c i vb vo vc
  split at h
  rotate_left
  ·cases h
  rename_i hc
  rw [Bool.and_eq_true,Bool.and_eq_true]at hc
  have fa:=zcZ hc.1
  have Na:=Nat.le_of_ble_eq_true hc.2.2
  have oa:b≠vb:=fun h=>by have:=hc.2.1;rw [h]at this;simp at this
  cases h
  obtain⟨x',y',z',e0,hx,hy,ja⟩:=ztE ka
  rw [e0]
  have hy:=VL.int.1 hy
  have ht:=zbj (zob b Ha n c i vb vo) e
  unfold insK at ht
  obtain⟨x,s1,k1,k2,_⟩:=zac (zau _) ht
  obtain⟨y,s2,k3,k4,_⟩:=zac (zau _) k2
  obtain⟨f1,f2,f3⟩:=zaW k1
  obtain⟨g1,g2,g3⟩:=zaW k3
  rw [f2]at g1
  unfold insQ at k4
  split at k4
  rotate_left
  ·exact (zag k4).elim
  rename_i hG
  unfold insG at hG
  simp only [Bool.and_eq_true,Bool.or_eq_true]at hG
  obtain⟨⟨c1,c2⟩,c3,c4,c5,c6⟩:=hG
  have c1:=Nat.eq_of_beq_eq_true c1
  have c2:=Nat.eq_of_beq_eq_true c2
  have c4:=Nat.le_of_ble_eq_true c4
  have c6:=Nat.le_of_ble_eq_true c6
  obtain⟨l,s3,k5,k6,_⟩:=zac (zce _ _ _) k4
  obtain⟨d1,d2,rfl⟩:=zdL k5
  obtain⟨u,s4,k7,k8,_⟩:=zac (zce _ _ _) k6
  obtain⟨d4,d5,rfl⟩:=zdL k7
  unfold insP at k8
  obtain⟨_,s5,k9,Xa,ya⟩:=zac (zcv _ _) k8
  obtain⟨Ca,d7,d8⟩:=zeK k9
  rw [forceL_eq]at Xa
  obtain⟨id,s6,qa,ia,_⟩:=zac (zaM _ _ _) Xa
  rw [forceN_eq]at ia
  obtain⟨rfl,rfl⟩:=zad ia
  obtain⟨one,rfl,Ra,d9,ta⟩:=zdE qa
  obtain⟨_,Ab,p,hp,a',c',rfl,Ka,Qa,na⟩:=VL.slice.1 hx
  obtain⟨_,za,q,hq,xa,Za,rfl,ua,Fa,Ta⟩:=VL.slice.1 ja
  obtain⟨p',Ba,p2,p3,p4,cA,tA,fA,p5,p6,p7,p8⟩:=H.obj b _ f1
  rw [show (ρ b=some p) from hp]at Ba
  cases Ba
  obtain⟨q',aa,q2,q3,q4,cB,tB,fB,q5,q6,q7,q8⟩:=H.obj vb _ g1
  rw [show (ρ vb=some q) from hq]at aa
  cases aa
  have Ma:p.blk≠q.blk:=H.sep b vb _ _ p q oa f1 g1 hp hq
  have p2:p.sz=x.1.length:=p2
  have q2:q.sz=y.1.length:=q2
  have Qa:=Qa (by omega)
  have Fa:=Fa (by omega)
  subst Qa Fa
  have Wa:n<=c':=by omega
  have va:fB.1=fB.2:=(q7 Na).2 c1 c2
  have Da:p.off+Ha+c' * 12<=cA.size:=by
   rcases c3 with c3 | c3
   ·have c3:=Nat.eq_of_beq_eq_true c3
    have:p.sl=0:=p3 c3
    have:c'=c:=by rw [Ka,this];split<;>rfl
    rw [this];omega
   ·have c3:=Nat.eq_of_beq_eq_true c3
    have ra:p.es=12:=by rw [p4 (by rw [c3];decide),c3]
    rw [ra]at Ka p6
    split at Ka
    ·rename_i Pa
     rw [Ka,Nat.add_mul];omega
    ·rw [Ka];omega
  have pa:n*12<=c' * 12:=Nat.mul_le_mul_right _ Wa
  have Ia:=zqP (ρ:=ρ) (po:=p.off) d1 (by omega) p8
  have Ja:=zqP (ρ:=ρ) (po:=q.off) d4 (by omega) q8
  rw [<-d2]at Ia
  rw [<-d5]at Ja
  have ba:l.length=n*12:=by rw [d2,List.length_take,List.length_drop];omega
  have da:u.length=12:=by rw [d5,List.length_take,List.length_drop];omega
  obtain⟨xs,Oa⟩:∃xs,xs=(cA.toList.drop (p.off+Ha)).take (n*12):=⟨_,rfl⟩
  obtain⟨C,hC⟩:∃C,C=(cB.toList.drop (q.off+vo)).take 12:=⟨_,rfl⟩
  rw [<-Oa]at Ia
  rw [<-hC]at Ja
  have la:xs.length=n*12:=by rw [Ia.len,ba]
  have ha:C.length=12:=by rw [Ja.len,da]
  rw [List.all_append,List.all_append,Bool.and_eq_true,Bool.and_eq_true]at one
  have ma:l.all oneV=true:=by rw [<-List.take_append_drop (i*12) l,List.all_append,one.1,one.2.2];rfl
  have ea:=zgH Ia ma
  have h1:=zgH Ja one.2.1
  have ca:w.heap[p.blk]? = some (.cells cA.toList.toArray tA fA):=by simpa using p5
  have Ya:w.heap[q.blk]? = some (.cells cB.toList.toArray tB fB):=by simpa using q5
  have lt:∀{b:Nat} {x:Obj},w.heap[b]? = some x->b<w.heap.size:=by
   intro b x hx
   rcases Nat.lt_or_ge b w.heap.size with h | h
   ·exact h
   ·rw [Array.getElem?_eq_none h]at hx;cases hx
  have hrel:LR (VL ρ) (l.take (i*12)++(u++l.drop (i*12))) (xs.take (i*12)++(C++xs.drop (i*12))):=(Ia.take _).app (Ja.app (Ia.drop _))
  have ga:(l.take (i*12)++(u++l.drop (i*12))).length=(n+1)*12:=by
   simp only [List.length_append,List.length_take,List.length_drop,ba,da];omega
  have Aa:∀id o,s5.f id=some o->s.f id=some o∧id≠b:=fun id o e=>by
   rw [d7,g2,f2]at e
   unfold Hf.put at e
   split at e
   ·cases e
   ·rename_i Ma;exact⟨e,fun h=>Ma h.symm⟩
  have Va:HR w0 B ρ s5.f w:=H.drop fun id o e=>(Aa id o e).1
  have Ga:ρ s5.n=none:=sa s5.n (by omega) (by omega)
  have La:s'.n=s5.n+1:=ta
  have Sa:s.n=s5.n:=by omega
  rw [hy,zwi]
  show Calls Tryz.prog 229 _ w _
  by_cases hroom:n+1<=c'
  ·refine Calls.mono (ztR w p.blk (p.off+Ha) n c' i q.blk (q.off+vo) Za cA.toList xs C tA fA tB cB.size ca (by simpa using (p7 Ca).1) Oa.symm (by simpa using Da) ha (fun j u hj=>zeB Ya hC.symm j u hj) (lt q5) (zfw q5) (fun k=>by
    simp only [World.frozen?,q5]
    simp
    omega) h1 ea c6 fa hroom na (fun e=>Ma e.symm) (by omega) Ta) fun e w' he=> ?_
   obtain⟨rfl,r1,r2,r3,R,t,fz,r4,r5,r6,r7⟩:=he
   refine⟨_,rfl,ρ.put s5.n ⟨p.blk,p.off+Ha,(n+1)*12,12,c' - (n+1)⟩,?_,?_,zsY Ga r1 r2⟩
   ·rw [d9]
    refine zjG Va Ga Ra (H.own b _ p f1 Ca hp) (fun id o p' ho Ba=> ?_) (H.below.trans (r3.below (Nat.le_trans H.base H.below.size) (fun g hg=>by simp at hg;subst hg;exact H.own b _ p f1 Ca hp))) (fun id o p' ho Ba=> ?_) hrel ga r1 r4 r5 r6 r7
    ·exact H.sep id b _ _ p' p (Aa id o ho).2 (Aa id o ho).1 f1 Ba hp
    ·have hs:=H.sep id b _ _ p' p (Aa id o ho).2 (Aa id o ho).1 f1 Ba hp
     obtain⟨Ua,e1,e2⟩:=(H.obj id o (Aa id o ho).1).place
     rw [Ba]at e1
     cases e1
     exact r3.block _ e2 (by simpa using hs)
   ·rw [La,Sa];exact .put Ga _
  ·refine Calls.mono (zwV w p.blk (p.off+Ha) n c' i q.blk (q.off+vo) Za xs C la (fun j u hj=>zeB ca Oa.symm j u hj) (lt p5) ha (fun j u hj=>zeB Ya hC.symm j u hj) (lt q5) h1 ea c6 fa Wa (by omega) (by omega) Ta) fun e w' he=> ?_
   obtain⟨G,rfl,r1,r2,r3,R,t,fz,r4,r5,r6,r7⟩:=he
   refine⟨_,rfl,ρ.put s5.n ⟨w.heap.size,0,(n+1)*12,12,G-(n+1)⟩,?_,?_,zsY Ga r1 r2⟩
   ·rw [d9]
    refine zjG Va Ga Ra (Nat.le_trans H.base H.below.size) (fun id o p' ho Ba=> ?_) (H.below.trans (r3.below (Nat.le_trans H.base H.below.size) (fun g hg=>by cases hg))) (fun id o p' ho Ba=> ?_) hrel ga r1 r4 r5 r6 r7
    ·obtain⟨Ua,e1,e2⟩:=(H.obj id o (Aa id o ho).1).place
     rw [Ba]at e1
     cases e1
     omega
    ·obtain⟨Ua,e1,e2⟩:=(H.obj id o (Aa id o ho).1).place
     rw [Ba]at e1
     cases e1
     exact r3.block _ e2 (by simp)
   ·rw [La,Sa];exact .put Ga _
 ·cases h
theorem zuV (p q:Xl) (w:Xk) :
  CallsD Tryz.prog 27 #[p,q] .returning w fun e u' w'=>e=.returned (.tuple #[])∧u'=.returning∧w'=w:=by
 refine callsD_of_wpS Tryz.func27 rfl fun c₀ cs hu=> ?_
 apply wpS_seq
 apply wpS_region
 simp [wpOpsS,go_sem,recoverD,hu,Tryz.ntmps27,Exit.thenS]
 refine wpS_cond (t:=false) (by simp [Act.eval,Array.replicate]) ?_
 simp only [Bool.false_eq_true,if_false]
 refine wpS_of_wp (wp_skip ?_)
 cases c₀
 simp_all [bodyPostS,results,Tryz.results27]
def zbz:Hook:=fun f Aa=>match f,Aa with
 | 27,[_,_]=>some fun s=>some (unV,s)
 | _,_=>none
theorem zhD:zaX zbz:=by
 intro f vs F h
 unfold zbz at h
 split at h
 ·cases h;exact zeN
 ·cases h
theorem zzZ {R:Xl->Xl->Prop} {x y:Xl} {vs':Xj} (hvs:LR R [x,y] vs'):∃x' y',vs'=[x',y']:=by
 obtain⟨x',t1,rfl,_,y',t2,rfl,_,e2⟩:=hvs
 have e2:t2=[]:=e2
 subst e2
 exact⟨_,_,rfl⟩
theorem zqB (w:Xk) (vs:Array Xl):(callFunc 27 vs).run Tryz.prog w=.ok (.enter 27 vs) w:=by
 have hname:(Tryz.f27.name == "runtime.NumGoroutine")=false:=by kernel_rfl
 have hbody:Tryz.f27.body.isNone=false:=by kernel_rfl
 simp only [callFunc,Sem.run_bind,run_program,Result.andThen,Tryz.func27,hname,hbody,Bool.false_eq_true,if_false,Sem.run_pure]
theorem zqy:zgJ Tryz.prog zbz:=by
 intro f vs F h
 unfold zbz at h
 split at h
 ·cases h
  intro s s' v e w0 B ρ w Ca H Aa Ba
  cases e
  obtain⟨x',y',e0⟩:=zzZ Aa
  rw [e0]
  refine⟨zqB _ _,(zuV x' y' w).mono fun e u' w' he=> ?_⟩
  obtain⟨rfl,rfl,rfl⟩:=he
  exact⟨rfl,⟨_,rfl⟩,ρ,H,.rfl⟩
 ·cases h
theorem noGo:NoGo Tryz.prog:=by
 have h:(Tryz.prog.funcs.toList.all fun fn=> !(fn.name == "runtime.NumGoroutine"))=true:=by kernel_rfl
 intro f fn hf hn
 have hm:fn∈Tryz.prog.funcs.toList:=by
  rw [Array.mem_toList_iff];exact Array.mem_of_getElem? hf
 have:=List.all_eq_true.1 h fn hm
 rw [hn]at this
 simp at this
def zbX:Hook:=zdX zlC (zdX zlz (zdX zlk (zdX zkX zmo)))
theorem zhB:zaX zbX:=zgB zuo (zgB zuL (zgB ztV (zgB zuX zuC)))
theorem zpV:zbs Tryz.prog zbX:=zkP zyn (zkP zyQ (zkP zyu (zkP zxG zyU)))
theorem zxQ (n:Nat):zcF Tryz.prog (call Tryz.prog zbX zbz n):=zxh (by kernel_rfl) noGo zhB zhD zpV zqy n
def eqB:Bool->Bool->Bool
 | true,true=>true
 | false,false=>true
 | _,_=>false
def eqL {α:Type} (e:α->α->Bool):List α->List α->Bool
 | [],[]=>true
 | a::l,b::k=>e a b && eqL e l k
 | _,_=>false
theorem zgy {α:Type} {e:α->α->Bool} (he:∀a b,e a b=true->a=b):∀l k:List α,eqL e l k=true->l=k
 | [],[],_=>rfl
 | a::l,b::k,h=>by
  rw [eqL,Bool.and_eq_true]at h
  rw [he _ _ h.1,zgy he _ _ h.2]
 | [],_::_,h=>by cases h
 | _::_,[],h=>by cases h
theorem zBW:∀a b:Bool,eqB a b=true->a=b:=by decide
theorem zBh {a b:Int} (h:eqI a b=true):a=b:=by
 cases a<;>cases b<;>simp only [eqI]at h
 ·rw [Nat.eq_of_beq_eq_true h]
 ·cases h
 ·cases h
 ·rw [Nat.eq_of_beq_eq_true h]
def eqU (a b:UInt8):Bool:=Nat.beq a.toNat b.toNat
theorem zBl (a b:UInt8) (h:eqU a b=true):a=b:=by
 have:=Nat.eq_of_beq_eq_true h
 exact UInt8.toNat_inj.1 this
def eqA (a b:Addr):Bool:=match a,b with
 | ⟨b,o,none⟩,⟨b',o',none⟩=>Nat.beq b b' && Nat.beq o o'
 | _,_=>false
theorem zwu (a b:Addr) (h:eqA a b=true):a=b:=by
 unfold eqA at h
 split at h
 ·rw [Bool.and_eq_true]at h
  rw [Nat.eq_of_beq_eq_true h.1,Nat.eq_of_beq_eq_true h.2]
 ·cases h
def eqF (a b:Fn):Bool:=match a with
 | .func f=>(match b with
  | .func g=>Nat.beq f g
  | _=>false)
 | _=>false
theorem zBV (a b:Fn) (h:eqF a b=true):a=b:=by
 unfold eqF at h
 split at h
 ·split at h
  ·rw [Nat.eq_of_beq_eq_true h]
  ·cases h
 ·cases h
def eqV:Nat->Xl->Xl->Bool
 | 0,_,_=>false
 | n+1,a,b=>match a with
  | .bool x=>(match b with
   | .bool y=>eqB x y
   | _=>false)
  | .int k i=>(match b with
   | .int k' j=>zpk k k' && eqI i j
   | _=>false)
  | .string ⟨⟨l⟩⟩=>(match b with
   | .string ⟨⟨l'⟩⟩=>eqL eqU l l'
   | _=>false)
  | .pointer none=>(match b with
   | .pointer none=>true
   | _=>false)
  | .pointer (some x)=>(match b with
   | .pointer (some y)=>eqA x y
   | _=>false)
  | .slice none l c=>(match b with
   | .slice none l' c'=>Nat.beq l l' && Nat.beq c c'
   | _=>false)
  | .slice (some x) l c=>(match b with
   | .slice (some y) l' c'=>eqA x y && (Nat.beq l l' && Nat.beq c c')
   | _=>false)
  | .map none=>(match b with
   | .map none=>true
   | _=>false)
  | .map (some x)=>(match b with
   | .map (some y)=>Nat.beq x y
   | _=>false)
  | .chan none=>(match b with
   | .chan none=>true
   | _=>false)
  | .nilFunc=>(match b with
   | .nilFunc=>true
   | _=>false)
  | .nilIface=>(match b with
   | .nilIface=>true
   | _=>false)
  | .iface t x=>(match b with
   | .iface t' y=>Nat.beq t t' && eqV n x y
   | _=>false)
  | .agg ⟨l⟩=>(match b with
   | .agg ⟨l'⟩=>eqL (eqV n) l l'
   | _=>false)
  | .tuple ⟨l⟩=>(match b with
   | .tuple ⟨l'⟩=>eqL (eqV n) l l'
   | _=>false)
  | .func f ⟨l⟩ ⟨k⟩=>(match b with
   | .func f' ⟨l'⟩ ⟨k'⟩=>eqF f f' && (eqL (eqV n) l l' && eqL (eqV n) k k')
   | _=>false)
  | _=>false
theorem zfA:∀(n:Nat) (a b:Xl),eqV n a b=true->a=b
 | 0,_,_,h=>by cases h
 | n+1,a,b,h=>by
  have ih:=zgy (zfA n)
  have Aa:=zfA n
  unfold eqV at h
  split at h<;>first
   | (cases h;done)
   |
    split at h
    ·first
     | rfl
     | (rw [zBW _ _ h];done)
     | (rw [Bool.and_eq_true]at h;rw [zko h.1,zBh h.2];done)
     | (rw [zgy zBl _ _ h];done)
     | (rw [zwu _ _ h];done)
     | (rw [Nat.eq_of_beq_eq_true h];done)
     | (rw [ih _ _ h];done)
     | (rw [Bool.and_eq_true]at h;rw [Nat.eq_of_beq_eq_true h.1,Aa _ _ h.2];done)
     | (rw [Bool.and_eq_true]at h;rw [Nat.eq_of_beq_eq_true h.1,Nat.eq_of_beq_eq_true h.2];done)
     | (rw [Bool.and_eq_true,Bool.and_eq_true]at h;rw [zwu _ _ h.1,Nat.eq_of_beq_eq_true h.2.1,Nat.eq_of_beq_eq_true h.2.2];done)
     | (rw [Bool.and_eq_true,Bool.and_eq_true]at h;rw [zBV _ _ h.1,ih _ _ h.2.1,ih _ _ h.2.2];done)
    ·cases h
def eqE (a b:MapEntry):Bool:=eqV 3 a.key b.key && (eqV 3 a.val b.val && Nat.beq a.born b.born)
theorem zBZ (a b:MapEntry) (h:eqE a b=true):a=b:=by
 unfold eqE at h
 rw [Bool.and_eq_true,Bool.and_eq_true]at h
 obtain⟨a1,a2,a3⟩:=a
 obtain⟨b1,b2,b3⟩:=b
 have h1:=zfA _ _ _ h.1
 have h2:=zfA _ _ _ h.2.1
 have h3:=Nat.eq_of_beq_eq_true h.2.2
 simp only at h1 h2 h3
 rw [h1,h2,h3]
def eqO (a b:Obj):Bool:=match a with
 | .cells ⟨l⟩ t (x,y)=>(match b with
  | .cells ⟨l'⟩ t' (x',y')=>eqL (eqV 3) l l' && (Nat.beq t t' && (Nat.beq x x' && Nat.beq y y'))
  | _=>false)
 | .map ⟨l⟩ c=>(match b with
  | .map ⟨l'⟩ c'=>eqL eqE l l' && Nat.beq c c'
  | _=>false)
 | _=>false
theorem zpG (a b:Obj) (h:eqO a b=true):a=b:=by
 unfold eqO at h
 split at h
 ·split at h
  ·rw [Bool.and_eq_true,Bool.and_eq_true,Bool.and_eq_true]at h
   rw [zgy (zfA 3) _ _ h.1,Nat.eq_of_beq_eq_true h.2.1,Nat.eq_of_beq_eq_true h.2.2.1,Nat.eq_of_beq_eq_true h.2.2.2]
  ·cases h
 ·split at h
  ·rw [Bool.and_eq_true]at h
   rw [zgy zBZ _ _ h.1,Nat.eq_of_beq_eq_true h.2]
  ·cases h
 ·cases h
structure Memo where
 f:Nat
 args:Xj
 n0:Nat
 n1:Nat
 pre:List (Nat×Obj)
 post:List (Nat×Option Obj)
 val:Xl
def mchk:List (Nat×Obj)->M Unit
 | []=>zak ()
 | x::l=>zaj (mget x.1) fun o=>match eqO o x.2 with
  | true=>mchk l
  | false=>zah
def zly:List (Nat×Option Obj)->M Unit
 | []=>zak ()
 | x::l=>zaj (mset x.1 x.2) fun _=>zly l
def zmk (n0 n1:Nat):M Unit:=⟨fun s K=>match s with
 | ⟨h,n,rd,wr⟩=>match Nat.beq n n0 && Nat.ble n0 n1 with
  | true=>forceN (Nat.lor wr (Nat.shiftLeft (Nat.shiftLeft 1 (n1-n0)-1) n0)) fun wr=>K () ⟨h,n1,rd,wr⟩
  | false=>none⟩
def zuG (m:Memo):M Xl:=zaj (mchk m.pre) fun _=>zaj (zmk m.n0 m.n1) fun _=>zaj (zly m.post) fun _=>zak m.val
def zga (m:Memo):Hook:=fun f Aa=>match Nat.beq f m.f && eqL (eqV 3) Aa m.args with
 | true=>some (zck (zuG m))
 | false=>none
theorem zkr (n0 n1 id:Nat) (h:n0<=n1):(Nat.shiftLeft (Nat.shiftLeft 1 (n1-n0)-1) n0).testBit id=(decide (n0<=id) && decide (id<n1)):=by
 show (((1 <<< (n1-n0))-1) <<< n0).testBit id=_
 rw [Nat.one_shiftLeft,Nat.testBit_shiftLeft,Nat.testBit_two_pow_sub_one]
 by_cases h1:n0<=id
 ·simp only [ge_iff_le,h1,decide_true,Bool.true_and]
  congr 1
  simp only [eq_iff_iff]
  omega
 ·simp only [ge_iff_le,h1,decide_false,Bool.false_and]
theorem zrf {β:Type} (s:Hp) (n0 n1:Nat) (K:Unit->Hp->Option β) :
  (zmk n0 n1).run s K=if s.n=n0∧n0<=n1 then K () ⟨s.h,n1,s.rd,s.wr ||| Nat.shiftLeft (Nat.shiftLeft 1 (n1-n0)-1) n0⟩ else none:=by
 obtain⟨h,n,rd,wr⟩:=s
 unfold zmk
 simp only []
 cases hb:Nat.beq n n0 && Nat.ble n0 n1 with
 | true=>
  rw [Bool.and_eq_true]at hb
  rw [if_pos ⟨Nat.eq_of_beq_eq_true hb.1,Nat.le_of_ble_eq_true hb.2⟩]
  exact forceN_eq _ _
 | false=>
  rw [if_neg]
  rintro⟨rfl,h2⟩
  rw [Nat.beq_refl,Nat.ble_eq_true_of_le h2]at hb
  cases hb
theorem zos (n0 n1:Nat):Good (zmk n0 n1):=by
 refine⟨fun {β} s K x h=> ?_⟩
 simp only [zrf]at h ⊢
 split at h
 ·rename_i hc
  refine⟨(),_,0,Nat.shiftLeft (Nat.shiftLeft 1 (n1-n0)-1) n0,fun J=>if_pos hc,⟨by simp only [];omega,by simp,rfl,fun id h=>rfl,fun id h1 h2=> ?_⟩,?_⟩
  ·rw [zkr _ _ _ hc.2]
   simp only []at h2
   simp only [Bool.and_eq_true,decide_eq_true_eq]
   omega
  ·intro g hg
   refine⟨⟨g.h,n1,g.rd,g.wr ||| Nat.shiftLeft (Nat.shiftLeft 1 (n1-n0)-1) n0⟩,⟨rfl,by simp,rfl,fun id h=>hg.on id (by simpa using h),fun id h=>rfl⟩,fun J=>if_pos ⟨hg.n.trans hc.1,hc.2⟩⟩
 ·cases h
theorem zkt:∀l,Good (mchk l)
 | []=>zaf _
 | x::l=>zab (zcY _) fun o=>by
  split
  ·exact zkt l
  ·exact zae
theorem zhY:∀l,Good (zly l)
 | []=>zaf _
 | x::l=>zab (zcv _ _) fun _=>zhY l
theorem zlo (m:Memo):Good (zuG m):=zab (zkt _) fun _=>zab (zos _ _) fun _=>zab (zhY _) fun _=>zaf _
theorem zvN (m:Memo):zaX (zga m):=by
 intro f vs F h
 unfold zga at h
 split at h
 ·cases h;exact zbi (zlo m)
 ·cases h
theorem znC:∀(l:List (Nat×Obj)) (s s':Hp) (u:Unit),Tells (mchk l) s u s'->s'.f=s.f∧s'.n=s.n∧∀x∈l,s.f x.1=some x.2
 | [],s,s',u,h=>by
  obtain⟨_,rfl⟩:=zad h
  exact⟨rfl,rfl,(fun x hx=>by cases hx)⟩
 | x::l,s,s',u,h=>by
  unfold mchk at h
  obtain⟨o,s1,k1,k2,_⟩:=zac (zcY _) h
  obtain⟨f1,f2,f3⟩:=zgn k1
  split at k2
  ·rename_i ho
   have ho:=zpG _ _ ho
   obtain⟨g1,g2,g3⟩:=znC l s1 s' u k2
   refine⟨g1.trans f2,g2.trans f3,fun y hy=> ?_⟩
   rcases List.mem_cons.1 hy with rfl | hy
   ·rw [f1,ho]
   ·rw [<-f2];exact g3 y hy
  ·exact (zag k2).elim
theorem zmb:∀(l:List (Nat×Option Obj)) (s s':Hp) (u:Unit),Tells (zly l) s u s'->s'.n=s.n∧∀id o,s'.f id=some o->(id,some o)∈l∨((∀x∈l,x.1≠id)∧s.f id=some o)
 | [],s,s',u,h=>by
  obtain⟨_,rfl⟩:=zad h
  exact⟨rfl,fun id o h=>.inr ⟨(fun x hx=>by cases hx),h⟩⟩
 | x::l,s,s',u,h=>by
  unfold zly at h
  obtain⟨_,s1,k1,k2,_⟩:=zac (zcv _ _) h
  obtain⟨_,f2,f3⟩:=zeK k1
  obtain⟨g1,g2⟩:=zmb l s1 s' u k2
  refine⟨g1.trans f3,fun id o ho=> ?_⟩
  rcases g2 id o ho with hm | ⟨hn,hs⟩
  ·exact .inl (List.mem_cons_of_mem _ hm)
  ·rw [f2]at hs
   unfold Hf.put at hs
   split at hs
   ·rename_i Aa
    obtain⟨i,oo⟩:=x
    simp only at Aa hs
    subst Aa hs
    exact .inl List.mem_cons_self
   ·rename_i Aa
    refine .inr ⟨fun y hy=> ?_,hs⟩
    rcases List.mem_cons.1 hy with rfl | hy
    ·exact Aa
    ·exact hn y hy
theorem zuk {n0 n1:Nat} {s s':Hp} {u:Unit} (h:Tells (zmk n0 n1) s u s'):s.n=n0∧n0<=n1∧s'.f=s.f∧s'.n=n1:=by
 have e:=h.pair
 rw [zrf]at e
 split at e
 ·rename_i hc
  cases e
  exact⟨hc.1,hc.2,rfl,rfl⟩
 ·cases e
def zfN:List (Nat×Obj)->T13 (Option Obj)->T13 (Option Obj)
 | [],t=>t
 | x::l,t=>tset13 t x.1 (some x.2) fun t=>zfN l t
def Memo.hp (m:Memo):Hp:=⟨zfN m.pre (zjx none),m.n0,0,0⟩
def zjk:List (Nat×Obj)->Nat
 | []=>0
 | x::l=>Nat.lor (Nat.shiftLeft 1 x.1) (zjk l)
def zjd:List (Nat×Option Obj)->Nat
 | []=>0
 | x::l=>Nat.lor (Nat.shiftLeft 1 x.1) (zjd l)
def zpe (s:Hp):List (Nat×Obj)->Bool
 | []=>true
 | x::l=>(match zbr s.h x.1 with
  | some o=>eqO o x.2
  | none=>false) && zpe s l
def zli (s:Hp):List (Nat×Option Obj)->Bool
 | []=>true
 | x::l=>(match x.2 with
  | some o=>(match zbr s.h x.1 with
   | some o'=>Nat.ble x.1 8191 && (eqO o' o && Nat.testBit s.wr x.1)
   | none=>false)
  | none=>true) && zli s l
def zqd (a b:Nat):Bool:=Nat.beq (Nat.land a b) a
def zoR (n:Nat):List (Nat×Obj)->Bool
 | []=>true
 | x::l=>(Nat.blt x.1 n && Nat.ble x.1 8191) && zoR n l
def ztp (m:Memo) (v:Xl) (s:Hp):Bool:=(eqV 3 v m.val && Nat.beq s.n m.n1) && (zli s m.post && (zqd (Nat.lor s.rd s.wr) (Nat.lor (zjk m.pre) (Nat.shiftLeft (Nat.shiftLeft 1 (m.n1-m.n0)-1) m.n0)) && zqd s.wr (Nat.lor (zjd m.post) (Nat.shiftLeft (Nat.shiftLeft 1 (m.n1-m.n0)-1) m.n0))))
def zbN (P:Program) (X D:Hook) (k:Nat) (m:Memo):Bool:=(zoR m.n0 m.pre && zpe m.hp m.pre) && (match call P X D k m.f m.args m.hp with
 | some (v,s)=>ztp m v s
 | none=>false)
theorem ztm {a b:Nat} (h:zqd a b=true) {id:Nat} (hb:a.testBit id=true):b.testBit id=true:=by
 have h:=Nat.eq_of_beq_eq_true h
 have:(a &&& b).testBit id=true:=by rw [show a &&& b=a from h];exact hb
 rw [Nat.testBit_and,Bool.and_eq_true]at this
 exact this.2
theorem znX:∀(l:List (Nat×Obj)) (id:Nat),(zjk l).testBit id=true->∃x∈l,x.1=id
 | [],id,h=>by simp [zjk]at h
 | x::l,id,h=>by
  have h:(Nat.shiftLeft 1 x.1 ||| zjk l).testBit id=true:=h
  rw [Nat.testBit_or,Bool.or_eq_true]at h
  rcases h with h | h
  ·exact⟨x,List.mem_cons_self,zeu h⟩
  ·obtain⟨y,hy,e⟩:=znX l id h
   exact⟨y,List.mem_cons_of_mem _ hy,e⟩
theorem zoa:∀(l:List (Nat×Option Obj)) (id:Nat),(zjd l).testBit id=true->∃x∈l,x.1=id
 | [],id,h=>by simp [zjd]at h
 | x::l,id,h=>by
  have h:(Nat.shiftLeft 1 x.1 ||| zjd l).testBit id=true:=h
  rw [Nat.testBit_or,Bool.or_eq_true]at h
  rcases h with h | h
  ·exact⟨x,List.mem_cons_self,zeu h⟩
  ·obtain⟨y,hy,e⟩:=zoa l id h
   exact⟨y,List.mem_cons_of_mem _ hy,e⟩
theorem zsZ:∀{n:Nat} {l:List (Nat×Obj)},zoR n l=true->∀x∈l,x.1<n∧x.1<=8191
 | n,[],_,x,hx=>by cases hx
 | n,y::l,h,x,hx=>by
  rw [zoR,Bool.and_eq_true,Bool.and_eq_true]at h
  rcases List.mem_cons.1 hx with rfl | hx
  ·exact⟨zcZ h.1.1,Nat.le_of_ble_eq_true h.1.2⟩
  ·exact zsZ h.2 x hx
theorem zsU:∀{s:Hp} {l:List (Nat×Obj)},zpe s l=true->(∀x∈l,x.1<=8191)->∀x∈l,s.f x.1=some x.2
 | s,[],_,_,x,hx=>by cases hx
 | s,y::l,h,hl,x,hx=>by
  rw [zpe,Bool.and_eq_true]at h
  rcases List.mem_cons.1 hx with rfl | hx
  ·have h1:=h.1
   unfold Hp.f
   rw [if_pos (hl x List.mem_cons_self)]
   split at h1
   ·rename_i o ho;rw [ho,zpG _ _ h1]
   ·cases h1
  ·exact zsU h.2 (fun x hx=>hl x (List.mem_cons_of_mem _ hx)) x hx
theorem zrp:∀{s:Hp} {l:List (Nat×Option Obj)},zli s l=true->∀id o,(id,some o)∈l->s.f id=some o∧s.wr.testBit id=true
 | s,[],_,id,o,hx=>by cases hx
 | s,y::l,h,id,o,hx=>by
  rw [zli,Bool.and_eq_true]at h
  rcases List.mem_cons.1 hx with rfl | hx
  ·have h1:=h.1
   simp only []at h1
   split at h1
   ·rename_i o' ho
    rw [Bool.and_eq_true,Bool.and_eq_true]at h1
    unfold Hp.f
    rw [if_pos (Nat.le_of_ble_eq_true h1.1),ho,zpG _ _ h1.2.1]
    exact⟨rfl,h1.2.2⟩
   ·cases h1
  ·exact zrp h.2 id o hx
theorem ziV:∀(l:List (Nat×Obj)) (t:T13 (Option Obj)) (id:Nat),id<=8191->(∀x∈l,x.1<=8191)->(∀x∈l,x.1≠id)->zbr (zfN l t) id=zbr t id
 | [],t,id,_,_,_=>rfl
 | x::l,t,id,hi,hl,hn=>by
  unfold zfN
  rw [tset13_eq,ziV l _ id hi (fun y hy=>hl y (List.mem_cons_of_mem _ hy)) (fun y hy=>hn y (List.mem_cons_of_mem _ hy)),zkT _ _ _ _ (hl x List.mem_cons_self) hi,if_neg (hn x List.mem_cons_self)]
theorem zAn {P:Program} {X D:Hook} {k:Nat} {m:Memo} (hg:zbg (call P X D k)) (hok:zcF P (call P X D k)) (h:zbN P X D k m=true):zbs P (zga m):=by
 intro f vs F hF s s' v e w0 B ρ w Ma H Sa Na
 unfold zga at hF
 split at hF
 rotate_left
 ·cases hF
 rename_i hc
 rw [Bool.and_eq_true]at hc
 have hf:=Nat.eq_of_beq_eq_true hc.1
 have ha:=zgy (zfA 3) _ _ hc.2
 cases hF
 have ht:=zbj (zlo m) e
 unfold zuG at ht
 obtain⟨_,s1,k1,k2,_⟩:=zac (zkt _) ht
 obtain⟨f1,f2,f3⟩:=znC _ _ _ _ k1
 obtain⟨_,s2,k3,k4,_⟩:=zac (zos _ _) k2
 obtain⟨g1,g2,g3,g4⟩:=zuk k3
 obtain⟨_,s3,k5,k6,_⟩:=zac (zhY _) k4
 obtain⟨i1,i2⟩:=zmb _ _ _ _ k5
 obtain⟨rfl,rfl⟩:=zad k6
 have Va:s.n=m.n0:=f2.symm.trans g1
 have Pa:s'.n=m.n1:=i1.trans g4
 unfold zbN at h
 rw [Bool.and_eq_true,Bool.and_eq_true]at h
 obtain⟨⟨h1,h2⟩,h3⟩:=h
 split at h3
 rotate_left
 ·cases h3
 rename_i v g' Aa
 unfold ztp at h3
 simp only [Bool.and_eq_true]at h3
 obtain⟨⟨c1,c2⟩,c3,c4,c5⟩:=h3
 have c1:=zfA _ _ _ c1
 have c2:=Nat.eq_of_beq_eq_true c2
 subst c1
 have Ca:=zsZ h1
 have Ka:=zsU h2 fun x hx=>(Ca x hx).2
 obtain⟨a,s4,r,q,e1,e2,e3⟩:=(hg m.f m.args).ok m.hp (fun v s=>some (v,s)) (m.val,g') (by show (match call P X D k m.f m.args m.hp with | some (v,s)=>some (v,s) | none=>none)=_;rw [Aa])
 have e4:=e1 fun v s=>some (v,s)
 have e5:(zdk (call P X D k m.f m.args)).run m.hp (fun v s=>some (v,s))=some (m.val,g'):=by show (match call P X D k m.f m.args m.hp with | some (v,s)=>some (v,s) | none=>none)=_;rw [Aa]
 rw [e5]at e4
 cases e4
 have hr:g'.rd=r:=by rw [e2.rd];simp [Memo.hp]
 have hq:g'.wr=q:=by rw [e2.wr];simp [Memo.hp]
 subst hr hq
 have Ba:∀id,m.n0<=id->id<m.n1->s.f id=none:=fun id h1 h2=>by
  cases hs:s.f id with
  | none=>rfl
  | some o=>
   obtain⟨p,hp,_⟩:=(H.obj id o hs).place
   rw [Na id (by omega) (by omega)]at hp
   cases hp
 have Ha:∀id,(∀x∈m.pre,x.1≠id)->m.hp.f id=none:=fun id Ta=>by
  unfold Hp.f
  split
  ·rename_i Wa
   rw [show m.hp.h=zfN m.pre (zjx none) from rfl,ziV _ _ _ Wa (fun x hx=>(Ca x hx).2) Ta,znn]
  ·rfl
 have Qa:Ag m.hp s (g'.rd ||| g'.wr):=by
  refine⟨Va,fun id hb=> ?_⟩
  have:=ztm c4 hb
  have this:(zjk m.pre ||| (Nat.shiftLeft (Nat.shiftLeft 1 (m.n1-m.n0)-1) m.n0)).testBit id=true:=this
  rw [Nat.testBit_or,Bool.or_eq_true]at this
  rcases this with hm | hm
  ·obtain⟨x,hx,rfl⟩:=znX _ _ hm
   rw [f3 x hx,Ka x hx]
  ·rw [zkr _ _ _ g2,Bool.and_eq_true,decide_eq_true_eq,decide_eq_true_eq]at hm
   rw [Ba id hm.1 hm.2,Ha id fun x hx=>by have:=Ca x hx;omega]
 obtain⟨Ga,Fa,Ia⟩:=e3 s Qa
 have Ua:call P X D k m.f m.args s=some (m.val,Ga):=by
  have:=Ia fun v s=>some (v,s)
  have this:(match call P X D k m.f m.args s with | some (v,s)=>some (v,s) | none=>none)=some (m.val,Ga):=this
  split at this
  ·rename_i Ra;rw [Ra];exact this
  ·cases this
 have La:Ga.n=s'.n:=by rw [Fa.n,c2,Pa]
 have Ja:∀id o,s'.f id=some o->Ga.f id=some o:=fun id o ho=>by
  rcases i2 id o ho with hm | ⟨hm,hs⟩
  ·obtain⟨j1,j2⟩:=zrp c3 id o hm
   rw [Fa.on id j2];exact j1
  ·rw [g3,f1]at hs
   cases hqb:g'.wr.testBit id with
   | false=>rw [Fa.off id hqb];exact hs
   | true=>
    have:=ztm c5 hqb
    have this:(zjd m.post ||| (Nat.shiftLeft (Nat.shiftLeft 1 (m.n1-m.n0)-1) m.n0)).testBit id=true:=this
    rw [Nat.testBit_or,Bool.or_eq_true]at this
    rcases this with hm' | hm'
    ·obtain⟨x,hx,Oa⟩:=zoa _ _ hm'
     exact absurd Oa (hm x hx)
    ·rw [zkr _ _ _ g2,Bool.and_eq_true,decide_eq_true_eq,decide_eq_true_eq]at hm'
     rw [Ba id hm'.1 hm'.2]at hs
     cases hs
 have hw:=hok m.f m.args s Ga m.val Ua w0 B ρ w Ma H (by rw [<-ha];exact Sa) (by rw [La];exact Na)
 rw [hf]
 have Da:∀v' w',Post w0 B ρ s Ga m.val v' w'->Post w0 B ρ s s' m.val v' w':=by
  rintro v' w' ⟨ρ',H',hE,hv⟩
  exact⟨ρ',H'.drop Ja,by rw [<-La];exact hE,hv⟩
 revert hw
 generalize (callFunc m.f ⟨Ma⟩).run P w=r
 intro hw
 unfold Went at hw ⊢
 split at hw
 ·exact Da _ _ hw
 ·exact Da _ _ hw
 ·exact Calls.mono hw fun e w' ⟨v',he,hp⟩=>⟨v',he,Da _ _ hp⟩
 ·exact hw.elim
end Go.Proofs.YtgjolijncmkkhaaGreatDoor
