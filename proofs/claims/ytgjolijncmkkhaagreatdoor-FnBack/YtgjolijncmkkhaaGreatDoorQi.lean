/- Own texts joined: EvT, Ev, EvL, EvR, EvG. -/
import Derived.Test.YtgjolijncmkkhaaGreatDoorQa
import GoSem.Core.Code
import Derived.Defers
import Derived.Below
namespace Go.Proofs.YtgjolijncmkkhaaGreatDoor
structure Pr (α:Type) where
 a:α
 b:α
abbrev T0 (α:Type):=α
abbrev T1 (α:Type):=Pr (T0 α)
abbrev T2 (α:Type):=Pr (T1 α)
abbrev T3 (α:Type):=Pr (T2 α)
abbrev T4 (α:Type):=Pr (T3 α)
abbrev T5 (α:Type):=Pr (T4 α)
abbrev T6 (α:Type):=Pr (T5 α)
abbrev T7 (α:Type):=Pr (T6 α)
abbrev T8 (α:Type):=Pr (T7 α)
abbrev T9 (α:Type):=Pr (T8 α)
abbrev T10 (α:Type):=Pr (T9 α)
abbrev T11 (α:Type):=Pr (T10 α)
abbrev T12 (α:Type):=Pr (T11 α)
abbrev T13 (α:Type):=Pr (T12 α)
def tmk0 {α:Type} (x:α):T0 α:=x
def tmk1 {α:Type} (x:α):T1 α:=Pr.mk (tmk0 x) (tmk0 x)
def tmk2 {α:Type} (x:α):T2 α:=Pr.mk (tmk1 x) (tmk1 x)
def tmk3 {α:Type} (x:α):T3 α:=Pr.mk (tmk2 x) (tmk2 x)
def tmk4 {α:Type} (x:α):T4 α:=Pr.mk (tmk3 x) (tmk3 x)
def tmk5 {α:Type} (x:α):T5 α:=Pr.mk (tmk4 x) (tmk4 x)
def tmk6 {α:Type} (x:α):T6 α:=Pr.mk (tmk5 x) (tmk5 x)
def tmk7 {α:Type} (x:α):T7 α:=Pr.mk (tmk6 x) (tmk6 x)
def tmk8 {α:Type} (x:α):T8 α:=Pr.mk (tmk7 x) (tmk7 x)
def tmk9 {α:Type} (x:α):T9 α:=Pr.mk (tmk8 x) (tmk8 x)
def zoU {α:Type} (x:α):T10 α:=Pr.mk (tmk9 x) (tmk9 x)
def zpl {α:Type} (x:α):T11 α:=Pr.mk (zoU x) (zoU x)
def zoP {α:Type} (x:α):T12 α:=Pr.mk (zpl x) (zpl x)
def zjx {α:Type} (x:α):T13 α:=Pr.mk (zoP x) (zoP x)
def zeZ {α:Type} (t:T0 α) (_k:Nat):α:=t
def zdv {α:Type} (t:T1 α) (k:Nat):α:=match Nat.beq (Nat.land k 1) 0 with
 | true=>zeZ t.a k
 | false=>zeZ t.b k
def zdm {α:Type} (t:T2 α) (k:Nat):α:=match Nat.beq (Nat.land k 2) 0 with
 | true=>zdv t.a k
 | false=>zdv t.b k
def zdp {α:Type} (t:T3 α) (k:Nat):α:=match Nat.beq (Nat.land k 4) 0 with
 | true=>zdm t.a k
 | false=>zdm t.b k
def zdr {α:Type} (t:T4 α) (k:Nat):α:=match Nat.beq (Nat.land k 8) 0 with
 | true=>zdp t.a k
 | false=>zdp t.b k
def zdx {α:Type} (t:T5 α) (k:Nat):α:=match Nat.beq (Nat.land k 16) 0 with
 | true=>zdr t.a k
 | false=>zdr t.b k
def zdw {α:Type} (t:T6 α) (k:Nat):α:=match Nat.beq (Nat.land k 32) 0 with
 | true=>zdx t.a k
 | false=>zdx t.b k
def zds {α:Type} (t:T7 α) (k:Nat):α:=match Nat.beq (Nat.land k 64) 0 with
 | true=>zdw t.a k
 | false=>zdw t.b k
def zaD {α:Type} (t:T8 α) (k:Nat):α:=match Nat.beq (Nat.land k 128) 0 with
 | true=>zds t.a k
 | false=>zds t.b k
def zdo {α:Type} (t:T9 α) (k:Nat):α:=match Nat.beq (Nat.land k 256) 0 with
 | true=>zaD t.a k
 | false=>zaD t.b k
def zcC {α:Type} (t:T10 α) (k:Nat):α:=match Nat.beq (Nat.land k 512) 0 with
 | true=>zdo t.a k
 | false=>zdo t.b k
def zcE {α:Type} (t:T11 α) (k:Nat):α:=match Nat.beq (Nat.land k 1024) 0 with
 | true=>zcC t.a k
 | false=>zcC t.b k
def zcA {α:Type} (t:T12 α) (k:Nat):α:=match Nat.beq (Nat.land k 2048) 0 with
 | true=>zcE t.a k
 | false=>zcE t.b k
def zbr {α:Type} (t:T13 α) (k:Nat):α:=match Nat.beq (Nat.land k 4096) 0 with
 | true=>zcA t.a k
 | false=>zcA t.b k
def tset0.{u} {α:Type} {β:Sort u} (_t:T0 α) (_k:Nat) (v:α) (K:T0 α->β):β:=K v
def tset1.{u} {α:Type} {β:Sort u} (t:T1 α) (k:Nat) (v:α) (K:T1 α->β):β:=match t with
 | ⟨a,b⟩=>match Nat.beq (Nat.land k 1) 0 with
  | true=>tset0 a k v fun x=>K ⟨x,b⟩
  | false=>tset0 b k v fun x=>K ⟨a,x⟩
def tset2.{u} {α:Type} {β:Sort u} (t:T2 α) (k:Nat) (v:α) (K:T2 α->β):β:=match t with
 | ⟨a,b⟩=>match Nat.beq (Nat.land k 2) 0 with
  | true=>tset1 a k v fun x=>K ⟨x,b⟩
  | false=>tset1 b k v fun x=>K ⟨a,x⟩
def tset3.{u} {α:Type} {β:Sort u} (t:T3 α) (k:Nat) (v:α) (K:T3 α->β):β:=match t with
 | ⟨a,b⟩=>match Nat.beq (Nat.land k 4) 0 with
  | true=>tset2 a k v fun x=>K ⟨x,b⟩
  | false=>tset2 b k v fun x=>K ⟨a,x⟩
def tset4.{u} {α:Type} {β:Sort u} (t:T4 α) (k:Nat) (v:α) (K:T4 α->β):β:=match t with
 | ⟨a,b⟩=>match Nat.beq (Nat.land k 8) 0 with
  | true=>tset3 a k v fun x=>K ⟨x,b⟩
  | false=>tset3 b k v fun x=>K ⟨a,x⟩
def tset5.{u} {α:Type} {β:Sort u} (t:T5 α) (k:Nat) (v:α) (K:T5 α->β):β:=match t with
 | ⟨a,b⟩=>match Nat.beq (Nat.land k 16) 0 with
  | true=>tset4 a k v fun x=>K ⟨x,b⟩
  | false=>tset4 b k v fun x=>K ⟨a,x⟩
def tset6.{u} {α:Type} {β:Sort u} (t:T6 α) (k:Nat) (v:α) (K:T6 α->β):β:=match t with
 | ⟨a,b⟩=>match Nat.beq (Nat.land k 32) 0 with
  | true=>tset5 a k v fun x=>K ⟨x,b⟩
  | false=>tset5 b k v fun x=>K ⟨a,x⟩
def tset7.{u} {α:Type} {β:Sort u} (t:T7 α) (k:Nat) (v:α) (K:T7 α->β):β:=match t with
 | ⟨a,b⟩=>match Nat.beq (Nat.land k 64) 0 with
  | true=>tset6 a k v fun x=>K ⟨x,b⟩
  | false=>tset6 b k v fun x=>K ⟨a,x⟩
def tset8.{u} {α:Type} {β:Sort u} (t:T8 α) (k:Nat) (v:α) (K:T8 α->β):β:=match t with
 | ⟨a,b⟩=>match Nat.beq (Nat.land k 128) 0 with
  | true=>tset7 a k v fun x=>K ⟨x,b⟩
  | false=>tset7 b k v fun x=>K ⟨a,x⟩
def tset9.{u} {α:Type} {β:Sort u} (t:T9 α) (k:Nat) (v:α) (K:T9 α->β):β:=match t with
 | ⟨a,b⟩=>match Nat.beq (Nat.land k 256) 0 with
  | true=>tset8 a k v fun x=>K ⟨x,b⟩
  | false=>tset8 b k v fun x=>K ⟨a,x⟩
def tset10.{u} {α:Type} {β:Sort u} (t:T10 α) (k:Nat) (v:α) (K:T10 α->β):β:=match t with
 | ⟨a,b⟩=>match Nat.beq (Nat.land k 512) 0 with
  | true=>tset9 a k v fun x=>K ⟨x,b⟩
  | false=>tset9 b k v fun x=>K ⟨a,x⟩
def tset11.{u} {α:Type} {β:Sort u} (t:T11 α) (k:Nat) (v:α) (K:T11 α->β):β:=match t with
 | ⟨a,b⟩=>match Nat.beq (Nat.land k 1024) 0 with
  | true=>tset10 a k v fun x=>K ⟨x,b⟩
  | false=>tset10 b k v fun x=>K ⟨a,x⟩
def tset12.{u} {α:Type} {β:Sort u} (t:T12 α) (k:Nat) (v:α) (K:T12 α->β):β:=match t with
 | ⟨a,b⟩=>match Nat.beq (Nat.land k 2048) 0 with
  | true=>tset11 a k v fun x=>K ⟨x,b⟩
  | false=>tset11 b k v fun x=>K ⟨a,x⟩
def tset13.{u} {α:Type} {β:Sort u} (t:T13 α) (k:Nat) (v:α) (K:T13 α->β):β:=match t with
 | ⟨a,b⟩=>match Nat.beq (Nat.land k 4096) 0 with
  | true=>tset12 a k v fun x=>K ⟨x,b⟩
  | false=>tset12 b k v fun x=>K ⟨a,x⟩
def forceN.{u} {β:Sort u} (n:Nat) (K:Nat->β):β:=match n with
 | 0=>K 0
 | m+1=>K (m+1)
def forceI.{u} {β:Sort u} (i:Int) (K:Int->β):β:=match i with
 | .ofNat n=>forceN n fun n=>K (.ofNat n)
 | .negSucc n=>forceN n fun n=>K (.negSucc n)
def forceB.{u} {β:Sort u} (b:Bool) (K:Bool->β):β:=match b with
 | true=>K true
 | false=>K false
def forceL.{u} {α:Type} {β:Sort u} (l:List α) (K:List α->β):β:=match l with
 | []=>K []
 | x::l=>forceL l fun l=>K (x::l)
def forceV.{u} {β:Sort u} (v:Xl) (K:Xl->β):β:=match v with
 | .bool b=>forceB b fun b=>K (.bool b)
 | .int k i=>forceI i fun i=>K (.int k i)
 | .agg ⟨l⟩=>forceL l fun l=>K (.agg ⟨l⟩)
 | .tuple ⟨l⟩=>forceL l fun l=>K (.tuple ⟨l⟩)
 | v=>K v
end Go.Proofs.YtgjolijncmkkhaaGreatDoor
namespace Go.Proofs.YtgjolijncmkkhaaGreatDoor
set_option linter.unusedVariables false
structure Hp where
 h:T13 (Option Obj)
 n:Nat
 rd:Nat
 wr:Nat
abbrev TT:=T8 Xl
def zgD:Xl->Bool
 | .bool _ | .int _ _ | .string _ | .pointer none | .map none | .nilFunc | .nilIface=>true
 | .slice none l c=>Nat.beq l 0 && Nat.beq c 0
 | _=>false
def zkU:Xj->Bool
 | []=>true
 | v::l=>zgD v && zkU l
def zlr:Xl->Bool
 | .agg ⟨l⟩=>zkU l
 | v=>zgD v
def zme:Xj->Bool
 | []=>true
 | v::l=>zlr v && zme l
def zaL:Xl->Bool
 | .tuple ⟨l⟩=>zme l
 | v=>zlr v
section
variable (P:Program)
def prun {α:Type}:Sem α->Option α
 | .pure a=>some a
 | .program k=>prun (k P)
 | .mark _ k=>prun k
 | _=>none
def szOf (t:Xm):Option Nat:=(P.info? t).map (·.size)
def zge (t:Xm):Option Bool:=match P.underlying t with
 | some (.struct _) | some (.array _ _)=>some true
 | some _=>some false
 | none=>none
def zeL (t:Xm):Option (Xj):=match (P.info? t).bind (·.zero)with
 | some v=>if zaL v then some v.cells.toList else none
 | none=>none
def zcj (t:Xm):Option Xm:=match P.underlying t with
 | some (.slice e)=>some e
 | _=>none
def zju (s:Xm) (f:Nat):Option (Nat×Xm):=match P.underlying s with
 | some (.struct fs)=>match (fs[f]? : Option Field)with
  | some fd=>some (fd.offset,fd.type)
  | none=>none
 | _=>none
def zpf:List Field->Option (List (Nat×Nat))
 | []=>some []
 | f::fs=>match szOf P f.type,zpf fs with
  | some n,some l=>some ((f.offset,n)::l)
  | _,_=>none
structure M (α:Type) where
 run:∀{β:Type},Hp->(α->Hp->Option β)->Option β
def zak {α:Type} (a:α):M α:=⟨fun s K=>K a s⟩
def zah {α:Type}:M α:=⟨fun _ _=>none⟩
def zaj {α γ:Type} (F:M α) (G:α->M γ):M γ:=⟨fun s K=>F.run s fun a s=>(G a).run s K⟩
def aev (t:TT):Operand->Option Xl
 | .tmp k=>match Nat.ble k 255 with
  | true=>some (zaD t k)
  | false=>none
 | .const v=>match zaL v with
  | true=>some v
  | false=>none
 | .global g=>match Nat.ble g 15 with
  | true=>some (.pointer (some ⟨g,0,none⟩))
  | false=>none
 | .func f=>some (.func (.func f) #[] #[])
def maev (x:Option Xl):M Xl:=match x with
 | some v=>zak v
 | none=>zah
def aevs (e:Operand->Option Xl):List Operand->M (Xj)
 | []=>zak []
 | x::l=>match e x with
  | some v=>zaj (aevs e l) fun vs=>zak (v::vs)
  | none=>zah
def mget (b:Nat):M Obj:=⟨fun s K=>match s with
 | ⟨h,n,rd,wr⟩=>match Nat.ble b 8191 with
  | true=>match zbr h b with
   | some o=>forceN (Nat.lor rd (Nat.shiftLeft 1 b)) fun rd=>K o ⟨h,n,rd,wr⟩
   | none=>none
  | false=>none⟩
def mset (b:Nat) (o:Option Obj):M Unit:=⟨fun s K=>match s with
 | ⟨h,n,rd,wr⟩=>match Nat.ble b 8191 && Nat.ble 16 b with
  | true=>tset13 h b o fun h=>forceN (Nat.lor wr (Nat.shiftLeft 1 b)) fun wr=>K () ⟨h,n,rd,wr⟩
  | false=>none⟩
def mnew (o:Obj):M Nat:=⟨fun s K=>match s with
 | ⟨h,n,rd,wr⟩=>match Nat.ble n 8191 && Nat.ble 16 n with
  | true=>tset13 h n (some o) fun h=>forceN (Nat.lor wr (Nat.shiftLeft 1 n)) fun wr=>forceN (n+1) fun m=>K n ⟨h,m,rd,wr⟩
  | false=>none⟩
def cutV (off n:Nat) (l:Xj):M (Xj):=
 match Nat.ble (off+n) l.length with
 | true=>forceL ((l.drop off).take n) zak
 | false=>zah
def zjB (off:Nat) (vs l:Xj):M (Xj):=
 match Nat.ble (off+vs.length) l.length with
 | true=>forceL (l.take off++(vs++l.drop (off+vs.length))) zak
 | false=>zah
def zlm:Obj->M (Xj×Xm×(Nat×Nat))
 | .cells ⟨l⟩ t f=>zak (l,t,f)
 | _=>zah
def zbC (b:Nat):M (Xj×Xm×(Nat×Nat)):=zaj (mget b) zlm
def zbx (a:Addr) (n:Nat):M (Xj):=match a with
 | ⟨b,off,none⟩=>zaj (zbC b) fun c=>cutV off n c.1
 | _=>zah
def oneV:Xl->Bool
 | .agg _ | .tuple _ | .chan _=>false
 | _=>true
def zbO (a:Addr) (vs:Xj):M Unit:=match a with
 | ⟨b,off,none⟩=>zaj (zbC b) fun c=>match vs.all oneV with
  | true=>zaj (zjB off vs c.1) fun l=>mset b (some (.cells ⟨l⟩ c.2.1 c.2.2))
  | false=>zah
 | _=>zah
def mrow (t:Xm) (l:Xj) (fl:Nat×Nat):M Nat:=match l.all oneV with
 | true=>mnew (.cells ⟨l⟩ t fl)
 | false=>zah
def addA (a:Addr) (n:Nat):M Addr:=match a with
 | ⟨b,Aa,none⟩=>forceN (Aa+n) fun Aa=>zak ⟨b,Aa,none⟩
 | _=>zah
def zik:Xl->Option (Xj)
 | .agg ⟨l⟩=>some l
 | .chan _=>none
 | v=>some [v]
def zjh (t:Xm) (l:Xj) (off:Nat):M Xl:=match zge P t,szOf P t with
 | some true,some n=>zaj (cutV off n l) fun vs=>zak (.agg ⟨vs⟩)
 | some false,some _=>maev l[off]?
 | _,_=>zah
def zev (place:Nat->Option (Nat×Nat)):Xj->List (Nat×Xl)->M (Xj)
 | cells,[]=>zak cells
 | cells,(i,v)::rest=>match place i with
  | some (off,size)=>match zik v with
   | some vs=>match Nat.beq vs.length size with
    | true=>zaj (zjB off vs cells) fun cells=>zev place cells rest
    | false=>zah
   | none=>zah
  | none=>zah
def reps (l:Xj):Nat->Xj
 | 0=>[]
 | n+1=>l++reps l n
def zjt:TypeDesc->Xl->Xl->Bool
 | .pointer _,.pointer (some _),.pointer none | .pointer _,.pointer none,.pointer (some _)=>true
 | .slice _,.slice (some _) _ _,.slice none 0 0 | .slice _,.slice none 0 0,.slice (some _) _ _=>true
 | .func _ _ _,.func _ _ _,.nilFunc | .func _ _ _,.nilFunc,.func _ _ _=>true
 | .interface _,.iface _ _,.nilIface | .interface _,.nilIface,.iface _ _=>true
 | .map _ _,.map (some _),.map none | .map _ _,.map none,.map (some _)=>true
 | _,_,_=>false
def bytesOf:Xj->Option (List UInt8)
 | []=>some []
 | .int .u8 n::l=>match bytesOf l with
  | some bs=>some (UInt8.ofNat n.toNat::bs)
  | none=>none
 | _=>none
def isU8 (t:Xm):Bool:=match P.underlying t with
 | some (.int .u8)=>true
 | _=>false
def zdN (x:Sem Xl):M Xl:=match prun P x with
 | some v=>match zaL v with
  | true=>forceV v zak
  | false=>zah
 | none=>zah
def zeR (size n:Nat) (x:Xl):M (Xj):=match x with
 | .slice (some a) _ _=>match Nat.beq n 0 with
  | true=>zak []
  | false=>zbx a (n*size)
 | .slice none _ _=>match Nat.beq n 0 with
  | true=>zak []
  | false=>zah
 | .string b=>forceL ((b.data.toList.take n).map fun x=>Value.int .u8 x.toNat) zak
 | _=>zah
def lenK:Xl->Option Nat
 | .slice _ n _=>some n
 | .string s=>some s.size
 | _=>none
def zbD (b off n c:Nat):Xl:=.slice (some ⟨b,off,none⟩) n c
def zfx (el:Xm) (z off len need:Nat) (l new:Xj):M Xl:=
 zaj (cutV off (len*z) l) fun Aa=>forceL (Aa++new) fun l=>zaj (mrow el l (z,1)) fun id=>zak (zbD id 0 need need)
def zmh (el:Xm) (z n:Nat) (new:Xj):M Xl:=match Nat.beq n 0 with
 | true=>zak (.slice none 0 0)
 | false=>match Nat.ble n 4096 with
  | true=>zaj (mrow el new (z,1)) fun id=>zak (zbD id 0 n n)
  | false=>zah
def zoY (z b off len n need cap:Nat) (new:Xj):M Xl:=match Nat.beq n 0 with
 | true=>zak (zbD b off need cap)
 | false=>zaj (zbO ⟨b,off+len*z,none⟩ new) fun _=>zak (zbD b off need cap)
def zlD (el:Xm) (z b off len need cap:Nat) (new:Xj):M Xl:=match Nat.ble need 4096 with
 | false=>zah
 | true=>zaj (zbC b) fun c=>match Nat.beq c.2.2.1 0 || !(Nat.beq (off+cap*c.2.2.1) c.1.length)with
  | true=>zfx el z off len need c.1 new
  | false=>match Nat.beq c.2.2.1 z with
   | true=>zaj (mset b none) fun _=>zfx el z off len need c.1 new
   | false=>zah
def zlx (el:Xm) (z b off len cap n:Nat) (new:Xj):M Xl:=forceN (len+n) fun Aa=>match Nat.ble Aa cap with
 | true=>zoY z b off len n Aa cap new
 | false=>zlD el z b off len Aa cap new
def zje (el:Xm) (z:Nat) (x:Xl) (n:Nat) (new:Xj):M Xl:=match Nat.beq new.length (n*z)with
 | false=>zah
 | true=>match x with
  | .slice none 0 0=>zmh el z n new
  | .slice (some ⟨b,off,none⟩) len cap=>zlx el z b off len cap n new
  | _=>zah
def intT (t:Option Xm):Option Bool:=match t with
 | some t=>(match P.underlying t with
  | some (.int _)=>some true
  | some _=>some false
  | none=>none)
 | none=>some false
def appT (t:Xm):Option (Xm×Nat×Xj):=match zcj P t with
 | none=>none
 | some el=>match szOf P el,(P.info? el).map (·.bytes),zeL P el with
  | some (size+1),some bytes,some zero=>match Nat.ble bytes 4096 && Nat.beq zero.length (size+1)with
   | true=>some (el,size+1,zero)
   | false=>none
  | _,_,_=>none
def zgw (at0:Xm) (at1:Option Xm) (x y:Xl):M Xl:=
 match appT P at0 with
 | none=>zah
 | some (el,z,zero)=>match intT P at1 with
  | none=>zah
  | some true=>match y with
   | .int _ (.ofNat n)=>match Nat.ble n 4096 with
    | true=>forceL (reps zero n) fun new=>zje el z x n new
    | false=>zah
   | _=>zah
  | some false=>match lenK y with
   | some n=>zaj (zeR z n y) fun new=>zje el z x n new
   | none=>zah
def ziv (x:Option Xl) (dflt top:Nat):Option Nat:=match x with
 | none=>some dflt
 | some (.int _ (.ofNat i))=>match Nat.ble i top with
  | true=>some i
  | false=>none
 | _=>none
def zjj (len cap:Nat) (lo hi mx:Option Xl):Option (Nat×Nat×Nat):=match ziv mx cap cap with
 | some m=>match ziv hi len m with
  | some h=>match ziv lo 0 h with
   | some l=>match mx.isNone || hi.isSome with
    | true=>some (l,h,m)
    | false=>none
   | none=>none
  | none=>none
 | none=>none
def zhm (n size b off:Nat) (lo hi mx:Option Xl):M Xl:=zaj (zbC b) fun c=>match Nat.beq c.2.2.1 0 && Nat.ble n 4096,zjj n n lo hi mx with
 | true,some (l,h,m)=>forceN (if Nat.beq m l then off else off+l*size) fun off=>forceN (h-l) fun n=>forceN (m-l) fun c=>zak (zbD b off n c)
 | _,_=>zah
def zjo (size b off len cap:Nat) (lo hi mx:Option Xl):M Xl:=zaj (zbC b) fun c=>match Nat.beq c.2.2.1 0 || Nat.beq c.2.2.1 size,zjj len cap lo hi mx with
 | true,some (l,h,m)=>match mx.isNone || (Nat.beq c.2.2.1 0 || !(Nat.beq (off+m*size) c.1.length))with
  | true=>forceN (off+l*size) fun off=>forceN (h-l) fun n=>forceN (m-l) fun c=>zak (zbD b off n c)
  | false=>zak (.chan none)
 | _,_=>zah
def zfk (t:Xm) (x:Xl) (lo hi mx:Option Xl):M Xl:=match zaL x && (lo.all zaL && (hi.all zaL && mx.all zaL))with
 | true=>zdN P (Instr.sliceAt t x lo hi mx)
 | false=>zah
def zia (t:Xm) (x:Xl) (lo hi mx:Option Xl):M Xl:=
 match P.underlying t with
 | some (.array n el)=>match x,szOf P el with
  | .pointer (some ⟨b,off,none⟩),some size=>zhm n size b off lo hi mx
  | _,_=>zah
 | some (.slice el)=>match x,szOf P el with
  | .slice (some ⟨b,off,none⟩) len cap,some size=>zjo size b off len cap lo hi mx
  | .slice none l c,some _=>zfk P t (.slice none l c) lo hi mx
  | _,_=>zah
 | some .string=>zfk P t x lo hi mx
 | _=>zah
def mopt (e:Operand->Option Xl) (y:Option Operand):M (Option Xl):=match y with
 | none=>zak none
 | some y=>match e y with
  | some v=>zak (some v)
  | none=>zah
abbrev zas:=FuncId->Xj->Hp->Option (Xl×Hp)
def zdk (C:Hp->Option (Xl×Hp)):M Xl:=⟨fun s K=>match C s with
 | some (v,s)=>K v s
 | none=>none⟩
abbrev En:=Operand->Option Xl
def unV:Xl:=.tuple #[]
def zdV (x:Operand) (e:En):M Xl:=maev (e x)
def zfP (c a b:Operand) (e:En):M Xl:=match e c with
 | some (.bool true)=>maev (e a)
 | some (.bool false)=>maev (e b)
 | _=>zah
def ptrV (b off:Nat):Xl:=.pointer (some ⟨b,off,none⟩)
def zeq (t:Xm):M Xl:=match zeL P t with
 | some z=>zaj (mrow t z (0,0)) fun id=>zak (ptrV id 0)
 | none=>zah
def zgT (t:Xm) (x:Operand) (e:En):M Xl:=match (e x).bind zik with
 | some vs=>zaj (mrow t vs (0,0)) fun id=>zak (ptrV id 0)
 | none=>zah
def zvE (t:Xm):Option ((Nat->Option (Nat×Nat))×Xj):=match P.underlying t,zeL P t with
 | some (.struct fs),some z=>match zpf P fs.toList with
  | some pl=>some ((pl[·]?),z)
  | none=>none
 | some (.array _ el),some z=>match szOf P el with
  | some n=>some ((fun i=>some (i*n,n)),z)
  | none=>none
 | _,_=>none
def zej (t:Xm) (parts:Array (Nat×Operand)) (e:En):M Xl:=zaj (aevs e (parts.toList.map (·.2))) fun vs=>match zvE P t with
 | some (pl,z)=>zaj (zev pl z ((parts.toList.map (·.1)).zip vs)) fun l=>zak (.agg ⟨l⟩)
 | none=>zah
def zbP (t:Xm) (len:Nat) (parts:Array (Nat×Operand)) (e:En):M Xl:=zaj (aevs e (parts.toList.map (·.2))) fun vs=>match zcj P t with
 | some el=>match szOf P el,zeL P el with
  | some n,some z=>match (Nat.ble len 4096 && Nat.ble (len*n) 4096) && Nat.beq z.length n with
   | true=>forceL (reps z len) fun cells=>zaj (zev (fun i=>some (i*n,n)) cells ((parts.toList.map (·.1)).zip vs)) fun l=>zaj (mrow el l (0,0)) fun id=>zak (zbD id 0 len len)
   | false=>zah
  | _,_=>zah
 | none=>zah
def zkS (a:Addr):Option Bool->Option Nat->M Xl
 | some true,some n=>zaj (zbx a n) fun vs=>zak (.agg ⟨vs⟩)
 | some false,some _=>zaj (zbx a 1) fun vs=>maev vs.head?
 | _,_=>zah
def zfz (t:Xm) (a:Operand) (e:En):M Xl:=match e a with
 | some (.pointer (some a))=>zkS a (zge P t) (szOf P t)
 | _=>zah
def zep (t:Xm) (a x:Operand) (e:En):M Xl:=match e a,(e x).bind zik,szOf P t with
 | some (.pointer (some a)),some vs,some n=>match Nat.beq vs.length n with
  | true=>zaj (zbO a vs) fun _=>zak unV
  | false=>zah
 | _,_,_=>zah
def zdh (x:Operand) (e:En):M Xl:=match e x with
 | some (.pointer (some a))=>zak (.pointer (some a))
 | some (.func (.func f) a b)=>zak (.func (.func f) a b)
 | some (.iface t v)=>zak (.iface t v)
 | _=>zah
def zlS (k:IntKind) (n:Int):M Int:=match k,n with
 | .i64,.ofNat m=>forceN m fun m=>match Nat.ble m 4611686018427387904 with
  | true=>zak (.ofNat m)
  | false=>forceI (IntKind.wrap .i64 (.ofNat m)) zak
 | k,n=>forceI (k.wrap n) zak
def zqL (m n:Nat):Int:=match Nat.ble n m with
 | true=>.ofNat (m-n)
 | false=>.negSucc (n-m-1)
def ltI:Int->Int->Bool
 | .ofNat m,.ofNat n=>Nat.blt m n
 | .ofNat _,.negSucc _=>false
 | .negSucc _,.ofNat _=>true
 | .negSucc m,.negSucc n=>Nat.blt n m
def eqI:Int->Int->Bool
 | .ofNat m,.ofNat n=>Nat.beq m n
 | .negSucc m,.negSucc n=>Nat.beq m n
 | _,_=>false
def addI:Int->Int->Int
 | .ofNat m,.ofNat n=>.ofNat (m+n)
 | a,b=>a+b
def subI:Int->Int->Int
 | .ofNat m,.ofNat n=>zqL m n
 | a,b=>a-b
def zpk:IntKind->IntKind->Bool
 | .i64,.i64 | .u8,.u8 | .i32,.i32 | .u32,.u32 | .u64,.u64=>true
 | _,_=>false
def nilV (op:BinOp) (d:Option TypeDesc) (a b:Xl):M Xl:=match op,d with
 | .eql,some d=>(match zjt d a b with
  | true=>zak (.bool false)
  | false=>zah)
 | .neq,some d=>(match zjt d a b with
  | true=>zak (.bool true)
  | false=>zah)
 | _,_=>zah
def binV (op:BinOp) (t:Xm) (x y:Operand) (a b:Xl):M Xl:=match zaL a && zaL b with
 | true=>zdN P (do eqGuard op t x y a b;binOp op t a b)
 | false=>nilV op (P.underlying t) a b
def cmpV (c:Int->Int->Bool) (op:BinOp) (t:Xm) (x y:Operand):Xl->Xl->M Xl
 | .int k a,.int k' b=>match zpk k k' with
  | true=>forceB (c a b) fun b=>zak (.bool b)
  | false=>zah
 | a,b=>binV P op t x y a b
def zgQ (c:Int->Int->Int) (op:BinOp) (t:Xm) (x y:Operand):Xl->Xl->M Xl
 | .int k a,.int k' b=>match zpk k k' with
  | true=>zaj (zlS k (c a b)) fun n=>zak (.int k n)
  | false=>zah
 | a,b=>binV P op t x y a b
def binD (op:BinOp) (t:Xm) (x y:Operand):Xl->Xl->M Xl:=match op with
 | .add=>zgQ P addI .add t x y
 | .sub=>zgQ P subI .sub t x y
 | .eql=>cmpV P eqI .eql t x y
 | .neq=>cmpV P (fun a b=> !(eqI a b)) .neq t x y
 | .lss=>cmpV P ltI .lss t x y
 | .leq=>cmpV P (fun a b=> !(ltI b a)) .leq t x y
 | .gtr=>cmpV P (fun a b=>ltI b a) .gtr t x y
 | .geq=>cmpV P (fun a b=> !(ltI a b)) .geq t x y
 | op=>binV P op t x y
def zhl (op:BinOp) (t:Xm) (x y:Operand) (e:En):M Xl:=match e x,e y with
 | some a,some b=>binD P op t x y a b
 | _,_=>zah
def zfs (op:UnOp) (x:Operand) (e:En):M Xl:=match e x with
 | some a=>match zaL a with
  | true=>zdN P (Op.unary op a)
  | false=>zah
 | none=>zah
def zgu (src dst:Xm) (b:ByteArray):M Xl:=match zcj P dst with
 | some el=>match isU8 P el && (P.underlying src).isSome && Nat.ble b.size 4096 with
  | true=>forceL (b.data.toList.map fun x=>Value.int .u8 x.toNat) fun l=>zaj (mrow el l (1,1)) fun id=>forceN l.length fun n=>zak (zbD id 0 n n)
  | false=>zah
 | none=>zdN P (convert src dst (.string b))
def zpj (vs:Xj):M Xl:=match bytesOf vs with
 | some bs=>forceL bs fun bs=>zak (.string ⟨⟨bs⟩⟩)
 | none=>zah
def zhP (src dst:Xm) (a:Addr) (n c:Nat):M Xl:=match zcj P src,P.underlying dst with
 | some el,some .string=>match isU8 P el with
  | true=>(match Nat.beq n 0 with
   | true=>zak (.string ⟨⟨[]⟩⟩)
   | false=>zaj (zbx a n) zpj)
  | false=>zah
 | some _,some (.slice el')=>match Nat.beq src dst && isU8 P el' && Nat.blt 0 c,a with
  | true,⟨b,off,none⟩=>match Nat.ble 16 b with
   | true=>zaj (zbC b) fun cc=>(match Nat.beq cc.2.1 154 with
    | true=>zah
    | false=>zak (zbD b off n c))
   | false=>zah
  | _,_=>zah
 | _,_=>zah
def zgP (src dst:Xm) (b off:Nat):M Xl:=match P.underlying src,P.underlying dst with
 | some (.pointer t),some .unsafePointer=>match szOf P t with
  | some (_+1)=>zaj (zbC b) fun c=>match Nat.blt off c.1.length with
   | true=>zak (ptrV b off)
   | false=>zah
  | _=>zah
 | _,_=>zah
def zcM (src dst:Xm) (x:Operand) (e:En):M Xl:=match e x with
 | some (.string b)=>zgu P src dst b
 | some (.slice (some a) n c)=>zhP P src dst a n c
 | some (.pointer (some ⟨b,off,none⟩))=>zgP P src dst b off
 | some v=>match zaL v with
  | true=>zdN P (convert src dst v)
  | false=>zah
 | none=>zah
def zbm (t:Xm) (x:Operand) (e:En):M Xl:=match P.underlying t with
 | some (.interface _)=>zah
 | some _=>zaj (maev (e x)) fun v=>zak (.iface t v)
 | none=>zah
def fnOk:Fn->Bool
 | .func _=>true
 | _=>false
def zcp (fn:Fn) (first captured:Array Operand) (e:En):M Xl:=match fnOk fn with
 | true=>zaj (aevs e first.toList) fun a=>zaj (aevs e captured.toList) fun b=>zak (.func fn ⟨a⟩ ⟨b⟩)
 | false=>zah
def zcQ (r:Option Operand):M Xl:=match r with
 | none=>zaj (mnew (.map #[] 0)) fun id=>zak (.map (some id))
 | some _=>zah
def zcf (t:Xm) (l c:Operand) (e:En):M Xl:=match e l,e c,zcj P t with
 | some (.int .i64 (.ofNat n)),some (.int .i64 (.ofNat m)),some el=>match szOf P el,(P.info? el).map (·.bytes),zeL P el with
  | some size,some bytes,some z=>match (Nat.ble n m && Nat.ble m 4096) && (Nat.ble bytes 4096 && Nat.beq z.length size)with
   | true=>forceL (reps z m) fun l=>zaj (mrow el l (0,0)) fun id=>zak (zbD id 0 n m)
   | false=>zah
  | _,_,_=>zah
 | _,_,_=>zah
def zes (t:Xm) (x:Operand) (lo hi mx:Option Operand) (e:En):M Xl:=
 zaj (maev (e x)) fun x=>zaj (mopt e lo) fun lo=>zaj (mopt e hi) fun hi=>zaj (mopt e mx) fun mx=>zia P t x lo hi mx
def zzu (t:Xm) (f:Nat):Option Nat:=match zju P t f with
 | some (off,ft)=>match szOf P ft with
  | some (_+1)=>some off
  | _=>none
 | none=>none
def zjr (a:Addr) (n:Nat):M Xl:=zaj (addA a n) fun a=>zak (.pointer (some a))
def zbZ (t:Xm) (x:Operand) (f:Nat) (e:En):M Xl:=match zzu P t f,e x with
 | some off,some (.pointer (some a))=>zjr a off
 | _,_=>zah
def zen (t:Xm) (x:Operand) (f:Nat) (e:En):M Xl:=match zju P t f,e x with
 | some (off,ft),some (.agg ⟨l⟩)=>zjh P ft l off
 | _,_=>zah
def zph (t:Xm):Option (Nat×Nat×Xm):=match P.underlying t with
 | some (.array n el)=>match szOf P el with
  | some z=>some (n,z,el)
  | none=>none
 | _=>none
def zca (t:Xm) (x ix:Operand) (e:En):M Xl:=match e x,e ix with
 | some (.pointer (some a)),some (.int _ (.ofNat i))=>match zph P t with
  | some (n,z,_)=>match Nat.blt i n with
   | true=>zjr a (i*z)
   | false=>zah
  | none=>zah
 | some (.slice (some a) n _),some (.int _ (.ofNat i))=>match (zcj P t).bind (szOf P),Nat.blt i n with
  | some z,true=>zjr a (i*z)
  | _,_=>zah
 | _,_=>zah
def zer (t:Xm) (x ix:Operand) (e:En):M Xl:=match e x,e ix with
 | some (.string b),some (.int k i)=>zdN P (Instr.index t (.string b) (.int k i))
 | some (.agg ⟨l⟩),some (.int _ (.ofNat i))=>match zph P t with
  | some (n,z,el)=>match Nat.blt i n with
   | true=>zjh P el l (i*z)
   | false=>zah
  | none=>zah
 | _,_=>zah
def zgv (ok:Bool) (v:Xl) (b:Bool):M Xl:=match zaL v,ok with
 | true,true=>zak (.tuple ⟨[v,.bool b]⟩)
 | true,false=>zak v
 | false,_=>zah
def zlc (t:Xm) (k:Xl) (ok:Bool) (o:Obj):M Xl:=match o,P.underlying t with
 | .map es _,some (.map kt el)=>match prun P (Instr.checkKey es.isEmpty 10000 kt k),prun P (Instr.findKey kt k es.toList)with
  | some _,some (some (_,v))=>zgv ok v true
  | some _,some none=>match (P.info? el).bind (·.zero)with
   | some z=>zgv ok z false
   | none=>zah
  | _,_=>zah
 | _,_=>zah
def zdz (t:Xm) (x ix:Operand) (ok:Bool) (e:En):M Xl:=match e x,e ix with
 | some (.map (some r)),some k=>match zaL k with
  | true=>zaj (mget r) (zlc P t k ok)
  | false=>zah
 | _,_=>zah
def zpb (t:Xm) (r:Nat) (k v:Xl) (o:Obj):M Xl:=match o,P.underlying t with
 | .map ⟨es⟩ c,some (.map kt _)=>match prun P (Instr.checkKey false 10000 kt k),prun P (Instr.findKey kt k es)with
  | some _,some none=>forceL (es++[{ key:=k,val:=v,born:=c }]) fun es=>forceN (c+1) fun c=>zaj (mset r (some (.map ⟨es⟩ c))) fun _=>zak unV
  | _,_=>zah
 | _,_=>zah
def zbh (t:Xm) (m k x:Operand) (e:En):M Xl:=match e m,e k,e x with
 | some (.map (some r)),some k,some v=>match zaL k && zaL v with
  | true=>zaj (mget r) (zpb P t r k v)
  | false=>zah
 | _,_,_=>zah
def zjw (t u:Xm) (ok:Bool) (v:Xl):M Xl:=match Nat.beq u t,ok with
 | true,true=>zak (.tuple ⟨[v,.bool true]⟩)
 | true,false=>zak v
 | false,true=>match (P.info? t).bind (·.zero)with
  | some z=>match zaL z with
   | true=>zak (.tuple ⟨[z,.bool false]⟩)
   | false=>zah
  | none=>zah
 | false,false=>zah
def zbM (x:Operand) (t:Xm) (ok:Bool) (e:En):M Xl:=match P.underlying t with
 | some (.interface _)=>zah
 | some _=>(match e x with
  | some (.iface u v)=>zjw P t u ok v
  | _=>zah)
 | none=>zah
def zcT (t:Operand) (i:Nat) (e:En):M Xl:=match e t with
 | some (.tuple ⟨l⟩)=>maev l[i]?
 | _=>zah
def zmj (t:Xm) (x:Xl):M Xl:=match P.underlying t,x with
 | some (.slice _),.slice _ n _=>zak (.int .i64 (.ofNat n))
 | some (.array n _),_=>zak (.int .i64 (.ofNat n))
 | some .string,.string b=>forceN b.size fun n=>zak (.int .i64 (.ofNat n))
 | _,_=>zah
def zkD (t:Xm) (x:Xl):M Xl:=match P.underlying t,x with
 | some (.slice _),.slice none _ c=>zak (.int .i64 (.ofNat c))
 | some (.slice _),.slice (some ⟨b,off,none⟩) _ c=>zaj (zbC b) fun d=>match Nat.beq d.2.2.1 0 || !(Nat.beq (off+c*d.2.2.1) d.1.length)with
  | true=>zak (.int .i64 (.ofNat c))
  | false=>zak (.chan none)
 | _,_=>zah
def zgx (t:Xm) (x:Xl):M Xl:=match P.underlying t,x with
 | some (.slice el),.slice (some a) n _=>match Nat.beq n 0 with
  | true=>zak unV
  | false=>match zeL P el with
   | some z=>forceL (reps z n) fun l=>zaj (zbO a l) fun _=>zak unV
   | none=>zah
 | _,_=>zah
def zhS (t:Xm) (x y:Xl):M Xl:=match (zcj P t).bind (szOf P),x,lenK y with
 | some z,.slice (some a) n _,some m=>forceN (Nat.min m n) fun k=>zaj (zeR z k y) fun vs=>match Nat.beq k 0 with
  | true=>zak (.int .i64 0)
  | false=>zaj (zbO a vs) fun _=>zak (.int .i64 (.ofNat k))
 | _,_,_=>zah
def biPl (vs:Xj) (x:Sem Xl):M Xl:=match vs.all zaL with
 | true=>zdN P x
 | false=>zah
def zix (ty:Xm) (b:Builtin) (ts:List Xm) (vs:Xj):M Xl:=match b,ts,vs with
 | .len,t::_,x::_=>zmj P t x
 | .cap,t::_,x::_=>zkD P t x
 | .append,t::ts,[x,y]=>zgw P t ts.head? x y
 | .min,ts,vs=>biPl P vs (Builtin.min_ ⟨ts⟩ ty ⟨vs⟩)
 | .max,ts,vs=>biPl P vs (Builtin.max_ ⟨ts⟩ ty ⟨vs⟩)
 | .clear,t::_,[x]=>zgx P t x
 | .copy,t::_,[x,y]=>zhS P t x y
 | _,_,_=>zah
def zdM (ty:Xm) (b:Builtin) (args:Array Operand) (ts:Array Xm) (e:En):M Xl:=zaj (aevs e args.toList) fun vs=>zix P ty b ts.toList vs
def zsr (fv:Xl) (args:Xj):Option (FuncId×Xj):=match fv with
 | .func (.func f) ⟨a⟩ ⟨b⟩=>some (f,a++(args++b))
 | _=>none
def zpQ (t:Xm) (name:String):Option FuncId:=match P.info? t with
 | some i=>match i.methods.find? (·.name == name)with
  | some m=>match m.path.isEmpty,m.func,P.underlying t with
   | true,some (_,false),some (.pointer _)=>none
   | true,some (f,false),some _=>some f
   | _,_,_=>none
  | none=>none
 | none=>none
def zfn (E:zas) (f:Operand) (args:Array Operand) (e:En):M Xl:=zaj (maev (e f)) fun fv=>zaj (aevs e args.toList) fun vs=>match zsr fv vs with
 | some (g,vs)=>forceL vs fun vs=>zdk (E g vs)
 | none=>zah
def zfi (E:zas) (r:Operand) (name:String) (args:Array Operand) (e:En):M Xl:=match e r with
 | some (.iface t v)=>zaj (aevs e args.toList) fun vs=>match zpQ P t name with
  | some g=>zdk (E g (v::vs))
  | none=>zah
 | _=>zah
def zmm (fv:Xl) (vs:Xj):M Deferred:=match fv with
 | .func (.func g) ⟨a⟩ ⟨b⟩=>forceL (a++vs) fun vs=>zak { target:=.fn (.func g) ⟨b⟩,args:=⟨vs⟩ }
 | _=>zah
def zgG (f:Operand) (args:Array Operand) (e:En):M Deferred:=zaj (maev (e f)) fun fv=>zaj (aevs e args.toList) fun vs=>zmm fv vs
structure Dsp where
 f:zas->En->List Deferred->M (Xl×List Deferred)
def zaN (F:En->M Xl):Dsp:=⟨fun _ e ds=>zaj (F e) fun v=>zak (v,ds)⟩
def disp (o:Oper):Dsp:=match o.op with
 | .move x=>zaN (zdV x)
 | .assign x=>zaN (zdV x)
 | .pick c a b=>zaN (zfP c a b)
 | .alloc t=>zaN fun _=>zeq P t
 | .box t x=>zaN (zgT t x)
 | .build t parts=>zaN (zej P t parts)
 | .buildSlice t len parts=>zaN (zbP P t len parts)
 | .load t a=>zaN (zfz P t a)
 | .store t a x=>zaN (zep P t a x)
 | .nilCheck x=>zaN (zdh x)
 | .binOp op t x y _=>zaN (zhl P op t x y)
 | .unOp op _ x=>zaN (zfs P op x)
 | .convert src dst x=>zaN (zcM P src dst x)
 | .makeInterface t x=>zaN (zbm P t x)
 | .makeFunc fn a b=>zaN (zcp fn a b)
 | .makeMap _ r=>zaN fun _=>zcQ r
 | .makeSlice t l c=>zaN (zcf P t l c)
 | .slice t x lo hi mx=>zaN (zes P t x lo hi mx)
 | .fieldAddr t x f=>zaN (zbZ P t x f)
 | .field t x f=>zaN (zen P t x f)
 | .indexAddr t x ix=>zaN (zca P t x ix)
 | .index t x ix=>zaN (zer P t x ix)
 | .lookup t x ix ok=>zaN (zdz P t x ix ok)
 | .mapUpdate t m k x=>zaN (zbh P t m k x)
 | .insert t m k x=>zaN (zbh P t m k x)
 | .typeAssert x _ t ok=>zaN (zbM P x t ok)
 | .extract t i=>zaN (zcT t i)
 | .call { callee:=.builtin b,args,argTypes }=>zaN (zdM P o.type b args argTypes)
 | .call { callee:=.value f,args,argTypes:=_ }=>⟨fun E e ds=>zaj (zfn E f args e) fun v=>zak (v,ds)⟩
 | .call { callee:=.invoke r name,args,argTypes:=_ }=>⟨fun E e ds=>zaj (zfi P E r name args e) fun v=>zak (v,ds)⟩
 | .defer { callee:=.value f,args,argTypes:=_ }=>⟨fun _ e ds=>zaj (zgG f args e) fun d=>zak (unV,d::ds)⟩
 | _=>⟨fun _ _ _=>zah⟩
def zeo (ops:Array Oper) (t:TT) (o:Oper):Option Bool:=match o.guard with
 | none=>some true
 | some (j,want)=>match (ops[j]?).bind (·.dst)with
  | some d=>match Nat.ble d 255,zaD t d with
   | true,.bool b=>some (b == want)
   | true,.chan none=>none
   | true,_=>some false
   | false,_=>none
  | none=>some false
def putK (N:Nat) (t:TT) (d:Option Tmp) (v:Xl):M TT:=match d with
 | none=>zak t
 | some d=>match Nat.blt d N with
  | true=>tset8 t d v zak
  | false=>zah
abbrev Ac:=TT×List Deferred
def opK (E:zas) (N:Nat) (ops:Array Oper) (o:Oper) (a:Ac):M Ac:=match a with
 | (t,ds)=>match zeo ops t o with
  | none=>zah
  | some false=>zaj (putK N t o.dst unV) fun t=>zak (t,ds)
  | some true=>(match disp P o with
   | ⟨f⟩=>zaj (f E (aev t) ds) fun x=>match x with
    | (v,ds)=>zaj (putK N t o.dst v) fun t=>zak (t,ds))
def opsK (E:zas) (N:Nat) (ops:Array Oper):List Oper->Ac->M Ac
 | [],a=>zak a
 | o::l,a=>zaj (opK P E N ops o a) fun a=>opsK E N ops l a
def zeP (l:List Operand):Nat:=match l with
 | []=>0
 | .tmp k::l=>Nat.lor (Nat.shiftLeft 1 k) (zeP l)
 | _::l=>zeP l
def zdt (d:Option Tmp):Nat:=match d with
 | some d=>Nat.shiftLeft 1 d
 | none=>0
def zfL (ops:Array Oper) (o:Oper):Nat:=Nat.lor (zdt o.dst) (Nat.lor (zeP o.op.operands.toList) (match o.guard with
 | some (j,_)=>zdt ((ops[j]?).bind (·.dst))
 | none=>0))
structure Trk where
 q:Nat
 a:Nat
 tw:Nat
 ta:Nat
def zdZ (x y:Trk):Bool:= !(Nat.beq (Nat.lor (Nat.lor (Nat.land x.q y.a) (Nat.land y.q x.a)) (Nat.lor (Nat.land x.tw y.ta) (Nat.land y.tw x.ta))) 0)
def zpd (bef:Nat) (x:Trk):Nat->List Trk->Bool
 | 0,_=>true
 | _,[]=>true
 | k+1,y::l=>(!(zdZ y x) || Nat.testBit bef k) && zpd bef x k l
def mtrk {α:Type} (F:M α):M (α×Nat×Nat):=⟨fun s K=>match s with
 | ⟨h,n,rd,wr⟩=>F.run ⟨h,n,0,0⟩ fun a s=>match s with
  | ⟨h,n,r,q⟩=>forceN (Nat.lor rd r) fun rd=>forceN (Nat.lor wr q) fun wr=>K (a,r,q) ⟨h,n,rd,wr⟩⟩
def zfR (E:zas) (N:Nat) (ops:Array Oper) (ds:List Deferred):List Oper->Xh->Nat->List Trk->TT->M TT
 | [],_,_,_,t=>zak t
 | o::l,bef,k,acc,t=>zaj (mtrk (opK P E N ops o (t,ds))) fun x=>match x with
  | ((t,ds'),r,q)=>
   let x:Trk:=⟨q,Nat.lor r q,zdt o.dst,zfL ops o⟩
   match ds'.isEmpty && zpd (bef.headD 0) x k acc with
   | true=>forceN (k+1) fun k=>zfR E N ops ds l bef.tail k (x::acc) t
   | false=>zah
def zsO (ops:Array Oper):Bool:=(List.range ops.size).all fun i=>((ops[i]?).map fun o=>o.after.all fun e=> !Region.binds .any e || decide (e.on<i)).getD true
abbrev Ea:=Exit×TT×List Deferred
abbrev EvT:=Code->Nat->Ac->M Ea
def ziL (E:zas) (ops:Array Oper) (N:Nat) (a:Ac):M Ea:=match zsO ops,a with
 | true,(t,[])=>zaj (zfR P E N ops [] ops.toList (Region.before ops).toList 0 [] t) fun t=>zak (.normal,t,[])
 | _,_=>zah
def zdS (Ev:EvT) (b:Code) (N:Nat) (x:Ea):M Ea:=match x with
 | (.normal,t,ds)=>Ev b N (t,ds)
 | x=>zak x
def ziA (Ev:EvT) (c:Operand) (a b:Code) (N:Nat) (x:Ac):M Ea:=match aev x.1 c with
 | some (.bool true)=>Ev a N x
 | some (.bool false)=>Ev b N x
 | _=>zah
def zmG (id:Nat) (x:Ea):M Ea:=match x with
 | (.exit id',a)=>match Nat.beq id' id with
  | true=>zak (.normal,a)
  | false=>zak (.exit id',a)
 | x=>zak x
def zmQ (x:Ea):M Ea:=match x with
 | (.goto _,_)=>zah
 | x=>zak x
structure Stp where
 f:EvT->zas->Nat->Ac->M Ea
def stpV (c:Code):Stp:=match c with
 | .skip=>⟨fun _ _ _ a=>zak (.normal,a)⟩
 | .label _=>⟨fun _ _ _ a=>zak (.normal,a)⟩
 | .region _ ops false=>⟨fun _ E N a=>zaj (opsK P E N ops ops.toList a) fun a=>zak (.normal,a)⟩
 | .region _ ops true=>⟨fun _ E N a=>ziL P E ops N a⟩
 | .seq x y=>⟨fun Ev _ N a=>zaj (Ev x N a) (zdS Ev y N)⟩
 | .cond c x y=>⟨fun Ev _ N a=>ziA Ev c x y N a⟩
 | .block id c=>⟨fun Ev _ N a=>zaj (Ev c N a) (zmG id)⟩
 | .loop c=>⟨fun Ev _ N a=>zaj (Ev c N a) (zdS Ev (.loop c) N)⟩
 | .scope c=>⟨fun Ev _ N a=>zaj (Ev c N a) zmQ⟩
 | .exit id=>⟨fun _ _ _ a=>zak (.exit id,a)⟩
 | .ret=>⟨fun _ _ _ a=>zak (.ret,a)⟩
 | _=>⟨fun _ _ _ _=>zah⟩
def zqI (Ev:EvT) (E:zas) (c:Code) (N:Nat) (a:Ac):M Ea:=match stpV P c with
 | ⟨f⟩=>f Ev E N a
def resK (t:TT):List ResultVar->M (Xj)
 | []=>zak []
 | .tmp k::l=>match Nat.ble k 255 with
  | true=>zaj (resK t l) fun vs=>zak (zaD t k::vs)
  | false=>zah
 | .cell a ty::l=>match Nat.ble a 255,zaD t a with
  | true,.pointer (some x)=>zaj (zkS x (zge P ty) (szOf P ty)) fun v=>zaj (resK t l) fun vs=>zak (v::vs)
  | _,_=>zah
def tupK (vs:Xj):Xl:=match vs with
 | [v]=>v
 | vs=>.tuple ⟨vs⟩
def zeE:TT->Nat->Xj->M TT
 | t,_,[]=>zak t
 | t,k,v::l=>zaj (tset8 t k v zak) fun t=>forceN (k+1) fun k=>zeE t k l
abbrev Hook:=FuncId->Xj->Option (Hp->Option (Xl×Hp))
def zlZ (fn:Func) (x:Ea):M Xl:=match x with
 | (.normal,t,[])=>zaj (resK P t fn.results.toList) fun vs=>zak (tupK vs)
 | (.ret,t,[])=>zaj (resK P t fn.results.toList) fun vs=>zak (tupK vs)
 | _=>zah
def zfQ (Ev:EvT) (fn:Func) (args:Xj):M Xl:=
 match fn.body,Nat.ble fn.ntmps 256 && Nat.ble args.length fn.ntmps with
 | some c,true=>zaj (zeE (tmk8 unV) 0 args) fun t=>zaj (Ev c fn.ntmps (t,[])) (zlZ P fn)
 | _,_=>zah
def zdn (X:Hook) (Ev:EvT):zas:=fun f Aa s=>match X f Aa with
 | some _=>none
 | none=>match P.funcs[f]? with
  | none=>none
  | some fn=>(zfQ P Ev fn Aa).run s fun v s=>some (v,s)
def defK (D:Hook) (E:zas) (d:Deferred):M Xl:=match d.target,d.args with
 | .fn (.func g) ⟨b⟩,⟨a⟩=>forceL (a++b) fun vs=>match D g vs with
  | some F=>zdk F
  | none=>zdk (E g vs)
 | _,_=>zah
def zgp (D:Hook) (E:zas):List Deferred->M Unit
 | []=>zak ()
 | d::ds=>zaj (defK D E d) fun _=>zgp D E ds
def zic (D:Hook) (E:zas) (fn:Func) (x:Ea):M Xl:=match x with
 | (.normal,t,ds)=>zaj (zgp D E ds) fun _=>zaj (resK P t fn.results.toList) fun vs=>zak (tupK vs)
 | (.ret,t,ds)=>zaj (zgp D E ds) fun _=>zaj (resK P t fn.results.toList) fun vs=>zak (tupK vs)
 | _=>zah
def zfD (D:Hook) (Ev:EvT) (E:zas) (fn:Func) (args:Xj):M Xl:=
 match fn.body,Nat.ble fn.ntmps 256 && Nat.ble args.length fn.ntmps with
 | some c,true=>zaj (zeE (tmk8 unV) 0 args) fun t=>zaj (Ev c fn.ntmps (t,[])) (zic P D E fn)
 | _,_=>zah
def zdQ (X D:Hook) (Ev:EvT) (E:zas) (f:FuncId) (args:Xj) (s:Hp):Option (Xl×Hp):=
 match X f args with
 | some F=>F s
 | none=>match P.funcs[f]? with
  | none=>none
  | some fn=>(zfD P D Ev E fn args).run s fun v s=>some (v,s)
def ev (X D:Hook):Nat->EvT
 | 0=>fun _ _ _=>zah
 | n+1=>zqI P (ev X D n) (zdQ P X D (ev X D n) (zdn P X (ev X D n)))
def call (X D:Hook) (n:Nat):zas:=zdQ P X D (ev P X D n) (zdn P X (ev P X D n))
end
end Go.Proofs.YtgjolijncmkkhaaGreatDoor
namespace Go.Proofs.YtgjolijncmkkhaaGreatDoor
set_option linter.unusedVariables false
theorem zxJ (k i:Nat):Nat.beq (Nat.land k (2 ^ i)) 0 = !k.testBit i:=by
 have h:∀j,(Nat.land k (2 ^ i)).testBit j=(k.testBit j && decide (i=j)):=fun j=>by
  show (k &&& 2 ^ i).testBit j=_
  rw [Nat.testBit_and,Nat.testBit_two_pow]
 cases hb:k.testBit i with
 | false=>
  have h0:Nat.land k (2 ^ i)=0:=by
   apply Nat.eq_of_testBit_eq
   intro j
   rw [h j,Nat.zero_testBit]
   by_cases e:i=j
   ·subst e;rw [hb];rfl
   ·simp [e]
  rw [h0];rfl
 | true=>
  have hi:=h i
  rw [hb]at hi
  cases hz:Nat.beq (Nat.land k (2 ^ i)) 0 with
  | false=>rfl
  | true=>
   rw [Nat.eq_of_beq_eq_true hz]at hi
   simp at hi
theorem zrj (k j m:Nat):(k % 2 ^ m=j % 2 ^ m)↔∀b,b<m->k.testBit b=j.testBit b:=by
 constructor
 ·intro h b hb
  have:=congrArg (fun x=>Nat.testBit x b) h
  simpa [Nat.testBit_mod_two_pow,hb]using this
 ·intro h
  apply Nat.eq_of_testBit_eq
  intro b
  rw [Nat.testBit_mod_two_pow,Nat.testBit_mod_two_pow]
  by_cases hb:b<m
  ·rw [h b hb]
  ·simp [hb]
theorem zbL (k j i:Nat):(k % 2 ^ (i+1)=j % 2 ^ (i+1))↔(k % 2 ^ i=j % 2 ^ i∧k.testBit i=j.testBit i):=by
 rw [zrj,zrj]
 constructor
 ·exact fun h=>⟨fun b hb=>h b (by omega),h i (by omega)⟩
 ·intro h b hb
  by_cases e:b=i
  ·subst e;exact h.2
  ·exact h.1 b (by omega)
theorem zam (k i n:Nat) (hn:n=2 ^ i):Nat.beq (Nat.land k n) 0 = !k.testBit i:=by subst hn;exact zxJ k i
theorem tset0_eq.{u} {α:Type} {β:Sort u} (t:T0 α) (k:Nat) (v:α) (K:T0 α->β):tset0 t k v K=K (tset0 t k v id):=rfl
theorem zoy {α:Type} (t:T0 α) (k j:Nat) (v:α):zeZ (tset0 t k v id) j=if k % 2 ^ 0=j % 2 ^ 0 then v else zeZ t j:=by
 rw [if_pos (by simp [Nat.mod_one])];rfl
theorem zyI {α:Type} (x:α) (j:Nat):zeZ (tmk0 x) j=x:=rfl
theorem tset1_eq.{u} {α:Type} {β:Sort u} (t:T1 α) (k:Nat) (v:α) (K:T1 α->β):tset1 t k v K=K (tset1 t k v id):=by
 obtain⟨a,b⟩:=t
 unfold tset1
 cases Nat.beq (Nat.land k 1) 0
 ·exact (tset0_eq b k v _).trans (congrArg K (tset0_eq b k v (fun x=>(⟨a,x⟩:T1 α))).symm)
 ·exact (tset0_eq a k v _).trans (congrArg K (tset0_eq a k v (fun x=>(⟨x,b⟩:T1 α))).symm)
theorem zny {α:Type} (t:T1 α) (k j:Nat) (v:α):zdv (tset1 t k v id) j=if k % 2 ^ 1=j % 2 ^ 1 then v else zdv t j:=by
 obtain⟨a,b⟩:=t
 have hm:=zbL k j 0
 have hk:=zam k 0 1 rfl
 have hj:=zam j 0 1 rfl
 have h1:tset1 ⟨a,b⟩ k v id=if k.testBit 0 then (⟨a,tset0 b k v id⟩:T1 α) else ⟨tset0 a k v id,b⟩:=by
  unfold tset1
  simp only [hk]
  cases k.testBit 0
  ·exact tset0_eq a k v _
  ·exact tset0_eq b k v _
 have h2:∀t:T1 α,zdv t j=if j.testBit 0 then zeZ t.b j else zeZ t.a j:=by
  intro t
  unfold zdv
  simp only [hj]
  cases j.testBit 0<;>rfl
 rw [h1,h2,h2]
 have ga:=zoy a k j v
 have gb:=zoy b k j v
 by_cases hc:k % 2 ^ 0=j % 2 ^ 0
 ·rw [if_pos hc]at ga gb
  cases e1:k.testBit 0<;>cases e2:j.testBit 0<;>rw [e1,e2]at hm
  ·rw [if_pos (show k % 2 ^ 1=j % 2 ^ 1 from hm.2 ⟨hc,rfl⟩)];exact ga
  ·rw [if_neg (show ¬ (k % 2 ^ 1=j % 2 ^ 1) from fun h=>by cases (hm.1 h).2)];rfl
  ·rw [if_neg (show ¬ (k % 2 ^ 1=j % 2 ^ 1) from fun h=>by cases (hm.1 h).2)];rfl
  ·rw [if_pos (show k % 2 ^ 1=j % 2 ^ 1 from hm.2 ⟨hc,rfl⟩)];exact gb
 ·rw [if_neg hc]at ga gb
  rw [if_neg (show ¬ (k % 2 ^ 1=j % 2 ^ 1) from fun h=>hc (hm.1 h).1)]
  cases k.testBit 0<;>cases j.testBit 0
  ·exact ga
  ·rfl
  ·rfl
  ·exact gb
theorem zyR {α:Type} (x:α) (j:Nat):zdv (tmk1 x) j=x:=by
 simp only [zdv,tmk1]
 split<;>exact zyI x j
theorem tset2_eq.{u} {α:Type} {β:Sort u} (t:T2 α) (k:Nat) (v:α) (K:T2 α->β):tset2 t k v K=K (tset2 t k v id):=by
 obtain⟨a,b⟩:=t
 unfold tset2
 cases Nat.beq (Nat.land k 2) 0
 ·exact (tset1_eq b k v _).trans (congrArg K (tset1_eq b k v (fun x=>(⟨a,x⟩:T2 α))).symm)
 ·exact (tset1_eq a k v _).trans (congrArg K (tset1_eq a k v (fun x=>(⟨x,b⟩:T2 α))).symm)
theorem znG {α:Type} (t:T2 α) (k j:Nat) (v:α):zdm (tset2 t k v id) j=if k % 2 ^ 2=j % 2 ^ 2 then v else zdm t j:=by
 obtain⟨a,b⟩:=t
 have hm:=zbL k j 1
 have hk:=zam k 1 2 rfl
 have hj:=zam j 1 2 rfl
 have h1:tset2 ⟨a,b⟩ k v id=if k.testBit 1 then (⟨a,tset1 b k v id⟩:T2 α) else ⟨tset1 a k v id,b⟩:=by
  unfold tset2
  simp only [hk]
  cases k.testBit 1
  ·exact tset1_eq a k v _
  ·exact tset1_eq b k v _
 have h2:∀t:T2 α,zdm t j=if j.testBit 1 then zdv t.b j else zdv t.a j:=by
  intro t
  unfold zdm
  simp only [hj]
  cases j.testBit 1<;>rfl
 rw [h1,h2,h2]
 have ga:=zny a k j v
 have gb:=zny b k j v
 by_cases hc:k % 2 ^ 1=j % 2 ^ 1
 ·rw [if_pos hc]at ga gb
  cases e1:k.testBit 1<;>cases e2:j.testBit 1<;>rw [e1,e2]at hm
  ·rw [if_pos (show k % 2 ^ 2=j % 2 ^ 2 from hm.2 ⟨hc,rfl⟩)];exact ga
  ·rw [if_neg (show ¬ (k % 2 ^ 2=j % 2 ^ 2) from fun h=>by cases (hm.1 h).2)];rfl
  ·rw [if_neg (show ¬ (k % 2 ^ 2=j % 2 ^ 2) from fun h=>by cases (hm.1 h).2)];rfl
  ·rw [if_pos (show k % 2 ^ 2=j % 2 ^ 2 from hm.2 ⟨hc,rfl⟩)];exact gb
 ·rw [if_neg hc]at ga gb
  rw [if_neg (show ¬ (k % 2 ^ 2=j % 2 ^ 2) from fun h=>hc (hm.1 h).1)]
  cases k.testBit 1<;>cases j.testBit 1
  ·exact ga
  ·rfl
  ·rfl
  ·exact gb
theorem zyC {α:Type} (x:α) (j:Nat):zdm (tmk2 x) j=x:=by
 simp only [zdm,tmk2]
 split<;>exact zyR x j
theorem tset3_eq.{u} {α:Type} {β:Sort u} (t:T3 α) (k:Nat) (v:α) (K:T3 α->β):tset3 t k v K=K (tset3 t k v id):=by
 obtain⟨a,b⟩:=t
 unfold tset3
 cases Nat.beq (Nat.land k 4) 0
 ·exact (tset2_eq b k v _).trans (congrArg K (tset2_eq b k v (fun x=>(⟨a,x⟩:T3 α))).symm)
 ·exact (tset2_eq a k v _).trans (congrArg K (tset2_eq a k v (fun x=>(⟨x,b⟩:T3 α))).symm)
theorem znB {α:Type} (t:T3 α) (k j:Nat) (v:α):zdp (tset3 t k v id) j=if k % 2 ^ 3=j % 2 ^ 3 then v else zdp t j:=by
 obtain⟨a,b⟩:=t
 have hm:=zbL k j 2
 have hk:=zam k 2 4 rfl
 have hj:=zam j 2 4 rfl
 have h1:tset3 ⟨a,b⟩ k v id=if k.testBit 2 then (⟨a,tset2 b k v id⟩:T3 α) else ⟨tset2 a k v id,b⟩:=by
  unfold tset3
  simp only [hk]
  cases k.testBit 2
  ·exact tset2_eq a k v _
  ·exact tset2_eq b k v _
 have h2:∀t:T3 α,zdp t j=if j.testBit 2 then zdm t.b j else zdm t.a j:=by
  intro t
  unfold zdp
  simp only [hj]
  cases j.testBit 2<;>rfl
 rw [h1,h2,h2]
 have ga:=znG a k j v
 have gb:=znG b k j v
 by_cases hc:k % 2 ^ 2=j % 2 ^ 2
 ·rw [if_pos hc]at ga gb
  cases e1:k.testBit 2<;>cases e2:j.testBit 2<;>rw [e1,e2]at hm
  ·rw [if_pos (show k % 2 ^ 3=j % 2 ^ 3 from hm.2 ⟨hc,rfl⟩)];exact ga
  ·rw [if_neg (show ¬ (k % 2 ^ 3=j % 2 ^ 3) from fun h=>by cases (hm.1 h).2)];rfl
  ·rw [if_neg (show ¬ (k % 2 ^ 3=j % 2 ^ 3) from fun h=>by cases (hm.1 h).2)];rfl
  ·rw [if_pos (show k % 2 ^ 3=j % 2 ^ 3 from hm.2 ⟨hc,rfl⟩)];exact gb
 ·rw [if_neg hc]at ga gb
  rw [if_neg (show ¬ (k % 2 ^ 3=j % 2 ^ 3) from fun h=>hc (hm.1 h).1)]
  cases k.testBit 2<;>cases j.testBit 2
  ·exact ga
  ·rfl
  ·rfl
  ·exact gb
theorem zyY {α:Type} (x:α) (j:Nat):zdp (tmk3 x) j=x:=by
 simp only [zdp,tmk3]
 split<;>exact zyC x j
theorem tset4_eq.{u} {α:Type} {β:Sort u} (t:T4 α) (k:Nat) (v:α) (K:T4 α->β):tset4 t k v K=K (tset4 t k v id):=by
 obtain⟨a,b⟩:=t
 unfold tset4
 cases Nat.beq (Nat.land k 8) 0
 ·exact (tset3_eq b k v _).trans (congrArg K (tset3_eq b k v (fun x=>(⟨a,x⟩:T4 α))).symm)
 ·exact (tset3_eq a k v _).trans (congrArg K (tset3_eq a k v (fun x=>(⟨x,b⟩:T4 α))).symm)
theorem znT {α:Type} (t:T4 α) (k j:Nat) (v:α):zdr (tset4 t k v id) j=if k % 2 ^ 4=j % 2 ^ 4 then v else zdr t j:=by
 obtain⟨a,b⟩:=t
 have hm:=zbL k j 3
 have hk:=zam k 3 8 rfl
 have hj:=zam j 3 8 rfl
 have h1:tset4 ⟨a,b⟩ k v id=if k.testBit 3 then (⟨a,tset3 b k v id⟩:T4 α) else ⟨tset3 a k v id,b⟩:=by
  unfold tset4
  simp only [hk]
  cases k.testBit 3
  ·exact tset3_eq a k v _
  ·exact tset3_eq b k v _
 have h2:∀t:T4 α,zdr t j=if j.testBit 3 then zdp t.b j else zdp t.a j:=by
  intro t
  unfold zdr
  simp only [hj]
  cases j.testBit 3<;>rfl
 rw [h1,h2,h2]
 have ga:=znB a k j v
 have gb:=znB b k j v
 by_cases hc:k % 2 ^ 3=j % 2 ^ 3
 ·rw [if_pos hc]at ga gb
  cases e1:k.testBit 3<;>cases e2:j.testBit 3<;>rw [e1,e2]at hm
  ·rw [if_pos (show k % 2 ^ 4=j % 2 ^ 4 from hm.2 ⟨hc,rfl⟩)];exact ga
  ·rw [if_neg (show ¬ (k % 2 ^ 4=j % 2 ^ 4) from fun h=>by cases (hm.1 h).2)];rfl
  ·rw [if_neg (show ¬ (k % 2 ^ 4=j % 2 ^ 4) from fun h=>by cases (hm.1 h).2)];rfl
  ·rw [if_pos (show k % 2 ^ 4=j % 2 ^ 4 from hm.2 ⟨hc,rfl⟩)];exact gb
 ·rw [if_neg hc]at ga gb
  rw [if_neg (show ¬ (k % 2 ^ 4=j % 2 ^ 4) from fun h=>hc (hm.1 h).1)]
  cases k.testBit 3<;>cases j.testBit 3
  ·exact ga
  ·rfl
  ·rfl
  ·exact gb
theorem zyS {α:Type} (x:α) (j:Nat):zdr (tmk4 x) j=x:=by
 simp only [zdr,tmk4]
 split<;>exact zyY x j
theorem tset5_eq.{u} {α:Type} {β:Sort u} (t:T5 α) (k:Nat) (v:α) (K:T5 α->β):tset5 t k v K=K (tset5 t k v id):=by
 obtain⟨a,b⟩:=t
 unfold tset5
 cases Nat.beq (Nat.land k 16) 0
 ·exact (tset4_eq b k v _).trans (congrArg K (tset4_eq b k v (fun x=>(⟨a,x⟩:T5 α))).symm)
 ·exact (tset4_eq a k v _).trans (congrArg K (tset4_eq a k v (fun x=>(⟨x,b⟩:T5 α))).symm)
theorem zno {α:Type} (t:T5 α) (k j:Nat) (v:α):zdx (tset5 t k v id) j=if k % 2 ^ 5=j % 2 ^ 5 then v else zdx t j:=by
 obtain⟨a,b⟩:=t
 have hm:=zbL k j 4
 have hk:=zam k 4 16 rfl
 have hj:=zam j 4 16 rfl
 have h1:tset5 ⟨a,b⟩ k v id=if k.testBit 4 then (⟨a,tset4 b k v id⟩:T5 α) else ⟨tset4 a k v id,b⟩:=by
  unfold tset5
  simp only [hk]
  cases k.testBit 4
  ·exact tset4_eq a k v _
  ·exact tset4_eq b k v _
 have h2:∀t:T5 α,zdx t j=if j.testBit 4 then zdr t.b j else zdr t.a j:=by
  intro t
  unfold zdx
  simp only [hj]
  cases j.testBit 4<;>rfl
 rw [h1,h2,h2]
 have ga:=znT a k j v
 have gb:=znT b k j v
 by_cases hc:k % 2 ^ 4=j % 2 ^ 4
 ·rw [if_pos hc]at ga gb
  cases e1:k.testBit 4<;>cases e2:j.testBit 4<;>rw [e1,e2]at hm
  ·rw [if_pos (show k % 2 ^ 5=j % 2 ^ 5 from hm.2 ⟨hc,rfl⟩)];exact ga
  ·rw [if_neg (show ¬ (k % 2 ^ 5=j % 2 ^ 5) from fun h=>by cases (hm.1 h).2)];rfl
  ·rw [if_neg (show ¬ (k % 2 ^ 5=j % 2 ^ 5) from fun h=>by cases (hm.1 h).2)];rfl
  ·rw [if_pos (show k % 2 ^ 5=j % 2 ^ 5 from hm.2 ⟨hc,rfl⟩)];exact gb
 ·rw [if_neg hc]at ga gb
  rw [if_neg (show ¬ (k % 2 ^ 5=j % 2 ^ 5) from fun h=>hc (hm.1 h).1)]
  cases k.testBit 4<;>cases j.testBit 4
  ·exact ga
  ·rfl
  ·rfl
  ·exact gb
theorem zxo {α:Type} (x:α) (j:Nat):zdx (tmk5 x) j=x:=by
 simp only [zdx,tmk5]
 split<;>exact zyS x j
theorem tset6_eq.{u} {α:Type} {β:Sort u} (t:T6 α) (k:Nat) (v:α) (K:T6 α->β):tset6 t k v K=K (tset6 t k v id):=by
 obtain⟨a,b⟩:=t
 unfold tset6
 cases Nat.beq (Nat.land k 32) 0
 ·exact (tset5_eq b k v _).trans (congrArg K (tset5_eq b k v (fun x=>(⟨a,x⟩:T6 α))).symm)
 ·exact (tset5_eq a k v _).trans (congrArg K (tset5_eq a k v (fun x=>(⟨x,b⟩:T6 α))).symm)
theorem znu {α:Type} (t:T6 α) (k j:Nat) (v:α):zdw (tset6 t k v id) j=if k % 2 ^ 6=j % 2 ^ 6 then v else zdw t j:=by
 obtain⟨a,b⟩:=t
 have hm:=zbL k j 5
 have hk:=zam k 5 32 rfl
 have hj:=zam j 5 32 rfl
 have h1:tset6 ⟨a,b⟩ k v id=if k.testBit 5 then (⟨a,tset5 b k v id⟩:T6 α) else ⟨tset5 a k v id,b⟩:=by
  unfold tset6
  simp only [hk]
  cases k.testBit 5
  ·exact tset5_eq a k v _
  ·exact tset5_eq b k v _
 have h2:∀t:T6 α,zdw t j=if j.testBit 5 then zdx t.b j else zdx t.a j:=by
  intro t
  unfold zdw
  simp only [hj]
  cases j.testBit 5<;>rfl
 rw [h1,h2,h2]
 have ga:=zno a k j v
 have gb:=zno b k j v
 by_cases hc:k % 2 ^ 5=j % 2 ^ 5
 ·rw [if_pos hc]at ga gb
  cases e1:k.testBit 5<;>cases e2:j.testBit 5<;>rw [e1,e2]at hm
  ·rw [if_pos (show k % 2 ^ 6=j % 2 ^ 6 from hm.2 ⟨hc,rfl⟩)];exact ga
  ·rw [if_neg (show ¬ (k % 2 ^ 6=j % 2 ^ 6) from fun h=>by cases (hm.1 h).2)];rfl
  ·rw [if_neg (show ¬ (k % 2 ^ 6=j % 2 ^ 6) from fun h=>by cases (hm.1 h).2)];rfl
  ·rw [if_pos (show k % 2 ^ 6=j % 2 ^ 6 from hm.2 ⟨hc,rfl⟩)];exact gb
 ·rw [if_neg hc]at ga gb
  rw [if_neg (show ¬ (k % 2 ^ 6=j % 2 ^ 6) from fun h=>hc (hm.1 h).1)]
  cases k.testBit 5<;>cases j.testBit 5
  ·exact ga
  ·rfl
  ·rfl
  ·exact gb
theorem zyX {α:Type} (x:α) (j:Nat):zdw (tmk6 x) j=x:=by
 simp only [zdw,tmk6]
 split<;>exact zxo x j
theorem tset7_eq.{u} {α:Type} {β:Sort u} (t:T7 α) (k:Nat) (v:α) (K:T7 α->β):tset7 t k v K=K (tset7 t k v id):=by
 obtain⟨a,b⟩:=t
 unfold tset7
 cases Nat.beq (Nat.land k 64) 0
 ·exact (tset6_eq b k v _).trans (congrArg K (tset6_eq b k v (fun x=>(⟨a,x⟩:T7 α))).symm)
 ·exact (tset6_eq a k v _).trans (congrArg K (tset6_eq a k v (fun x=>(⟨x,b⟩:T7 α))).symm)
theorem zod {α:Type} (t:T7 α) (k j:Nat) (v:α):zds (tset7 t k v id) j=if k % 2 ^ 7=j % 2 ^ 7 then v else zds t j:=by
 obtain⟨a,b⟩:=t
 have hm:=zbL k j 6
 have hk:=zam k 6 64 rfl
 have hj:=zam j 6 64 rfl
 have h1:tset7 ⟨a,b⟩ k v id=if k.testBit 6 then (⟨a,tset6 b k v id⟩:T7 α) else ⟨tset6 a k v id,b⟩:=by
  unfold tset7
  simp only [hk]
  cases k.testBit 6
  ·exact tset6_eq a k v _
  ·exact tset6_eq b k v _
 have h2:∀t:T7 α,zds t j=if j.testBit 6 then zdw t.b j else zdw t.a j:=by
  intro t
  unfold zds
  simp only [hj]
  cases j.testBit 6<;>rfl
 rw [h1,h2,h2]
 have ga:=znu a k j v
 have gb:=znu b k j v
 by_cases hc:k % 2 ^ 6=j % 2 ^ 6
 ·rw [if_pos hc]at ga gb
  cases e1:k.testBit 6<;>cases e2:j.testBit 6<;>rw [e1,e2]at hm
  ·rw [if_pos (show k % 2 ^ 7=j % 2 ^ 7 from hm.2 ⟨hc,rfl⟩)];exact ga
  ·rw [if_neg (show ¬ (k % 2 ^ 7=j % 2 ^ 7) from fun h=>by cases (hm.1 h).2)];rfl
  ·rw [if_neg (show ¬ (k % 2 ^ 7=j % 2 ^ 7) from fun h=>by cases (hm.1 h).2)];rfl
  ·rw [if_pos (show k % 2 ^ 7=j % 2 ^ 7 from hm.2 ⟨hc,rfl⟩)];exact gb
 ·rw [if_neg hc]at ga gb
  rw [if_neg (show ¬ (k % 2 ^ 7=j % 2 ^ 7) from fun h=>hc (hm.1 h).1)]
  cases k.testBit 6<;>cases j.testBit 6
  ·exact ga
  ·rfl
  ·rfl
  ·exact gb
theorem zzb {α:Type} (x:α) (j:Nat):zds (tmk7 x) j=x:=by
 simp only [zds,tmk7]
 split<;>exact zyX x j
theorem tset8_eq.{u} {α:Type} {β:Sort u} (t:T8 α) (k:Nat) (v:α) (K:T8 α->β):tset8 t k v K=K (tset8 t k v id):=by
 obtain⟨a,b⟩:=t
 unfold tset8
 cases Nat.beq (Nat.land k 128) 0
 ·exact (tset7_eq b k v _).trans (congrArg K (tset7_eq b k v (fun x=>(⟨a,x⟩:T8 α))).symm)
 ·exact (tset7_eq a k v _).trans (congrArg K (tset7_eq a k v (fun x=>(⟨x,b⟩:T8 α))).symm)
theorem zie {α:Type} (t:T8 α) (k j:Nat) (v:α):zaD (tset8 t k v id) j=if k % 2 ^ 8=j % 2 ^ 8 then v else zaD t j:=by
 obtain⟨a,b⟩:=t
 have hm:=zbL k j 7
 have hk:=zam k 7 128 rfl
 have hj:=zam j 7 128 rfl
 have h1:tset8 ⟨a,b⟩ k v id=if k.testBit 7 then (⟨a,tset7 b k v id⟩:T8 α) else ⟨tset7 a k v id,b⟩:=by
  unfold tset8
  simp only [hk]
  cases k.testBit 7
  ·exact tset7_eq a k v _
  ·exact tset7_eq b k v _
 have h2:∀t:T8 α,zaD t j=if j.testBit 7 then zds t.b j else zds t.a j:=by
  intro t
  unfold zaD
  simp only [hj]
  cases j.testBit 7<;>rfl
 rw [h1,h2,h2]
 have ga:=zod a k j v
 have gb:=zod b k j v
 by_cases hc:k % 2 ^ 7=j % 2 ^ 7
 ·rw [if_pos hc]at ga gb
  cases e1:k.testBit 7<;>cases e2:j.testBit 7<;>rw [e1,e2]at hm
  ·rw [if_pos (show k % 2 ^ 8=j % 2 ^ 8 from hm.2 ⟨hc,rfl⟩)];exact ga
  ·rw [if_neg (show ¬ (k % 2 ^ 8=j % 2 ^ 8) from fun h=>by cases (hm.1 h).2)];rfl
  ·rw [if_neg (show ¬ (k % 2 ^ 8=j % 2 ^ 8) from fun h=>by cases (hm.1 h).2)];rfl
  ·rw [if_pos (show k % 2 ^ 8=j % 2 ^ 8 from hm.2 ⟨hc,rfl⟩)];exact gb
 ·rw [if_neg hc]at ga gb
  rw [if_neg (show ¬ (k % 2 ^ 8=j % 2 ^ 8) from fun h=>hc (hm.1 h).1)]
  cases k.testBit 7<;>cases j.testBit 7
  ·exact ga
  ·rfl
  ·rfl
  ·exact gb
theorem zpU {α:Type} (x:α) (j:Nat):zaD (tmk8 x) j=x:=by
 simp only [zaD,tmk8]
 split<;>exact zzb x j
theorem tset9_eq.{u} {α:Type} {β:Sort u} (t:T9 α) (k:Nat) (v:α) (K:T9 α->β):tset9 t k v K=K (tset9 t k v id):=by
 obtain⟨a,b⟩:=t
 unfold tset9
 cases Nat.beq (Nat.land k 256) 0
 ·exact (tset8_eq b k v _).trans (congrArg K (tset8_eq b k v (fun x=>(⟨a,x⟩:T9 α))).symm)
 ·exact (tset8_eq a k v _).trans (congrArg K (tset8_eq a k v (fun x=>(⟨x,b⟩:T9 α))).symm)
theorem zor {α:Type} (t:T9 α) (k j:Nat) (v:α):zdo (tset9 t k v id) j=if k % 2 ^ 9=j % 2 ^ 9 then v else zdo t j:=by
 obtain⟨a,b⟩:=t
 have hm:=zbL k j 8
 have hk:=zam k 8 256 rfl
 have hj:=zam j 8 256 rfl
 have h1:tset9 ⟨a,b⟩ k v id=if k.testBit 8 then (⟨a,tset8 b k v id⟩:T9 α) else ⟨tset8 a k v id,b⟩:=by
  unfold tset9
  simp only [hk]
  cases k.testBit 8
  ·exact tset8_eq a k v _
  ·exact tset8_eq b k v _
 have h2:∀t:T9 α,zdo t j=if j.testBit 8 then zaD t.b j else zaD t.a j:=by
  intro t
  unfold zdo
  simp only [hj]
  cases j.testBit 8<;>rfl
 rw [h1,h2,h2]
 have ga:=zie a k j v
 have gb:=zie b k j v
 by_cases hc:k % 2 ^ 8=j % 2 ^ 8
 ·rw [if_pos hc]at ga gb
  cases e1:k.testBit 8<;>cases e2:j.testBit 8<;>rw [e1,e2]at hm
  ·rw [if_pos (show k % 2 ^ 9=j % 2 ^ 9 from hm.2 ⟨hc,rfl⟩)];exact ga
  ·rw [if_neg (show ¬ (k % 2 ^ 9=j % 2 ^ 9) from fun h=>by cases (hm.1 h).2)];rfl
  ·rw [if_neg (show ¬ (k % 2 ^ 9=j % 2 ^ 9) from fun h=>by cases (hm.1 h).2)];rfl
  ·rw [if_pos (show k % 2 ^ 9=j % 2 ^ 9 from hm.2 ⟨hc,rfl⟩)];exact gb
 ·rw [if_neg hc]at ga gb
  rw [if_neg (show ¬ (k % 2 ^ 9=j % 2 ^ 9) from fun h=>hc (hm.1 h).1)]
  cases k.testBit 8<;>cases j.testBit 8
  ·exact ga
  ·rfl
  ·rfl
  ·exact gb
theorem zxt {α:Type} (x:α) (j:Nat):zdo (tmk9 x) j=x:=by
 simp only [zdo,tmk9]
 split<;>exact zpU x j
theorem tset10_eq.{u} {α:Type} {β:Sort u} (t:T10 α) (k:Nat) (v:α) (K:T10 α->β):tset10 t k v K=K (tset10 t k v id):=by
 obtain⟨a,b⟩:=t
 unfold tset10
 cases Nat.beq (Nat.land k 512) 0
 ·exact (tset9_eq b k v _).trans (congrArg K (tset9_eq b k v (fun x=>(⟨a,x⟩:T10 α))).symm)
 ·exact (tset9_eq a k v _).trans (congrArg K (tset9_eq a k v (fun x=>(⟨x,b⟩:T10 α))).symm)
theorem zkI {α:Type} (t:T10 α) (k j:Nat) (v:α):zcC (tset10 t k v id) j=if k % 2 ^ 10=j % 2 ^ 10 then v else zcC t j:=by
 obtain⟨a,b⟩:=t
 have hm:=zbL k j 9
 have hk:=zam k 9 512 rfl
 have hj:=zam j 9 512 rfl
 have h1:tset10 ⟨a,b⟩ k v id=if k.testBit 9 then (⟨a,tset9 b k v id⟩:T10 α) else ⟨tset9 a k v id,b⟩:=by
  unfold tset10
  simp only [hk]
  cases k.testBit 9
  ·exact tset9_eq a k v _
  ·exact tset9_eq b k v _
 have h2:∀t:T10 α,zcC t j=if j.testBit 9 then zdo t.b j else zdo t.a j:=by
  intro t
  unfold zcC
  simp only [hj]
  cases j.testBit 9<;>rfl
 rw [h1,h2,h2]
 have ga:=zor a k j v
 have gb:=zor b k j v
 by_cases hc:k % 2 ^ 9=j % 2 ^ 9
 ·rw [if_pos hc]at ga gb
  cases e1:k.testBit 9<;>cases e2:j.testBit 9<;>rw [e1,e2]at hm
  ·rw [if_pos (show k % 2 ^ 10=j % 2 ^ 10 from hm.2 ⟨hc,rfl⟩)];exact ga
  ·rw [if_neg (show ¬ (k % 2 ^ 10=j % 2 ^ 10) from fun h=>by cases (hm.1 h).2)];rfl
  ·rw [if_neg (show ¬ (k % 2 ^ 10=j % 2 ^ 10) from fun h=>by cases (hm.1 h).2)];rfl
  ·rw [if_pos (show k % 2 ^ 10=j % 2 ^ 10 from hm.2 ⟨hc,rfl⟩)];exact gb
 ·rw [if_neg hc]at ga gb
  rw [if_neg (show ¬ (k % 2 ^ 10=j % 2 ^ 10) from fun h=>hc (hm.1 h).1)]
  cases k.testBit 9<;>cases j.testBit 9
  ·exact ga
  ·rfl
  ·rfl
  ·exact gb
theorem zvz {α:Type} (x:α) (j:Nat):zcC (zoU x) j=x:=by
 simp only [zcC,zoU]
 split<;>exact zxt x j
theorem tset11_eq.{u} {α:Type} {β:Sort u} (t:T11 α) (k:Nat) (v:α) (K:T11 α->β):tset11 t k v K=K (tset11 t k v id):=by
 obtain⟨a,b⟩:=t
 unfold tset11
 cases Nat.beq (Nat.land k 1024) 0
 ·exact (tset10_eq b k v _).trans (congrArg K (tset10_eq b k v (fun x=>(⟨a,x⟩:T11 α))).symm)
 ·exact (tset10_eq a k v _).trans (congrArg K (tset10_eq a k v (fun x=>(⟨x,b⟩:T11 α))).symm)
theorem zkJ {α:Type} (t:T11 α) (k j:Nat) (v:α):zcE (tset11 t k v id) j=if k % 2 ^ 11=j % 2 ^ 11 then v else zcE t j:=by
 obtain⟨a,b⟩:=t
 have hm:=zbL k j 10
 have hk:=zam k 10 1024 rfl
 have hj:=zam j 10 1024 rfl
 have h1:tset11 ⟨a,b⟩ k v id=if k.testBit 10 then (⟨a,tset10 b k v id⟩:T11 α) else ⟨tset10 a k v id,b⟩:=by
  unfold tset11
  simp only [hk]
  cases k.testBit 10
  ·exact tset10_eq a k v _
  ·exact tset10_eq b k v _
 have h2:∀t:T11 α,zcE t j=if j.testBit 10 then zcC t.b j else zcC t.a j:=by
  intro t
  unfold zcE
  simp only [hj]
  cases j.testBit 10<;>rfl
 rw [h1,h2,h2]
 have ga:=zkI a k j v
 have gb:=zkI b k j v
 by_cases hc:k % 2 ^ 10=j % 2 ^ 10
 ·rw [if_pos hc]at ga gb
  cases e1:k.testBit 10<;>cases e2:j.testBit 10<;>rw [e1,e2]at hm
  ·rw [if_pos (show k % 2 ^ 11=j % 2 ^ 11 from hm.2 ⟨hc,rfl⟩)];exact ga
  ·rw [if_neg (show ¬ (k % 2 ^ 11=j % 2 ^ 11) from fun h=>by cases (hm.1 h).2)];rfl
  ·rw [if_neg (show ¬ (k % 2 ^ 11=j % 2 ^ 11) from fun h=>by cases (hm.1 h).2)];rfl
  ·rw [if_pos (show k % 2 ^ 11=j % 2 ^ 11 from hm.2 ⟨hc,rfl⟩)];exact gb
 ·rw [if_neg hc]at ga gb
  rw [if_neg (show ¬ (k % 2 ^ 11=j % 2 ^ 11) from fun h=>hc (hm.1 h).1)]
  cases k.testBit 10<;>cases j.testBit 10
  ·exact ga
  ·rfl
  ·rfl
  ·exact gb
theorem zvG {α:Type} (x:α) (j:Nat):zcE (zpl x) j=x:=by
 simp only [zcE,zpl]
 split<;>exact zvz x j
theorem tset12_eq.{u} {α:Type} {β:Sort u} (t:T12 α) (k:Nat) (v:α) (K:T12 α->β):tset12 t k v K=K (tset12 t k v id):=by
 obtain⟨a,b⟩:=t
 unfold tset12
 cases Nat.beq (Nat.land k 2048) 0
 ·exact (tset11_eq b k v _).trans (congrArg K (tset11_eq b k v (fun x=>(⟨a,x⟩:T12 α))).symm)
 ·exact (tset11_eq a k v _).trans (congrArg K (tset11_eq a k v (fun x=>(⟨x,b⟩:T12 α))).symm)
theorem zmn {α:Type} (t:T12 α) (k j:Nat) (v:α):zcA (tset12 t k v id) j=if k % 2 ^ 12=j % 2 ^ 12 then v else zcA t j:=by
 obtain⟨a,b⟩:=t
 have hm:=zbL k j 11
 have hk:=zam k 11 2048 rfl
 have hj:=zam j 11 2048 rfl
 have h1:tset12 ⟨a,b⟩ k v id=if k.testBit 11 then (⟨a,tset11 b k v id⟩:T12 α) else ⟨tset11 a k v id,b⟩:=by
  unfold tset12
  simp only [hk]
  cases k.testBit 11
  ·exact tset11_eq a k v _
  ·exact tset11_eq b k v _
 have h2:∀t:T12 α,zcA t j=if j.testBit 11 then zcE t.b j else zcE t.a j:=by
  intro t
  unfold zcA
  simp only [hj]
  cases j.testBit 11<;>rfl
 rw [h1,h2,h2]
 have ga:=zkJ a k j v
 have gb:=zkJ b k j v
 by_cases hc:k % 2 ^ 11=j % 2 ^ 11
 ·rw [if_pos hc]at ga gb
  cases e1:k.testBit 11<;>cases e2:j.testBit 11<;>rw [e1,e2]at hm
  ·rw [if_pos (show k % 2 ^ 12=j % 2 ^ 12 from hm.2 ⟨hc,rfl⟩)];exact ga
  ·rw [if_neg (show ¬ (k % 2 ^ 12=j % 2 ^ 12) from fun h=>by cases (hm.1 h).2)];rfl
  ·rw [if_neg (show ¬ (k % 2 ^ 12=j % 2 ^ 12) from fun h=>by cases (hm.1 h).2)];rfl
  ·rw [if_pos (show k % 2 ^ 12=j % 2 ^ 12 from hm.2 ⟨hc,rfl⟩)];exact gb
 ·rw [if_neg hc]at ga gb
  rw [if_neg (show ¬ (k % 2 ^ 12=j % 2 ^ 12) from fun h=>hc (hm.1 h).1)]
  cases k.testBit 11<;>cases j.testBit 11
  ·exact ga
  ·rfl
  ·rfl
  ·exact gb
theorem zwN {α:Type} (x:α) (j:Nat):zcA (zoP x) j=x:=by
 simp only [zcA,zoP]
 split<;>exact zvG x j
theorem tset13_eq.{u} {α:Type} {β:Sort u} (t:T13 α) (k:Nat) (v:α) (K:T13 α->β):tset13 t k v K=K (tset13 t k v id):=by
 obtain⟨a,b⟩:=t
 unfold tset13
 cases Nat.beq (Nat.land k 4096) 0
 ·exact (tset12_eq b k v _).trans (congrArg K (tset12_eq b k v (fun x=>(⟨a,x⟩:T13 α))).symm)
 ·exact (tset12_eq a k v _).trans (congrArg K (tset12_eq a k v (fun x=>(⟨x,b⟩:T13 α))).symm)
theorem zuY {α:Type} (t:T13 α) (k j:Nat) (v:α):zbr (tset13 t k v id) j=if k % 2 ^ 13=j % 2 ^ 13 then v else zbr t j:=by
 obtain⟨a,b⟩:=t
 have hm:=zbL k j 12
 have hk:=zam k 12 4096 rfl
 have hj:=zam j 12 4096 rfl
 have h1:tset13 ⟨a,b⟩ k v id=if k.testBit 12 then (⟨a,tset12 b k v id⟩:T13 α) else ⟨tset12 a k v id,b⟩:=by
  unfold tset13
  simp only [hk]
  cases k.testBit 12
  ·exact tset12_eq a k v _
  ·exact tset12_eq b k v _
 have h2:∀t:T13 α,zbr t j=if j.testBit 12 then zcA t.b j else zcA t.a j:=by
  intro t
  unfold zbr
  simp only [hj]
  cases j.testBit 12<;>rfl
 rw [h1,h2,h2]
 have ga:=zmn a k j v
 have gb:=zmn b k j v
 by_cases hc:k % 2 ^ 12=j % 2 ^ 12
 ·rw [if_pos hc]at ga gb
  cases e1:k.testBit 12<;>cases e2:j.testBit 12<;>rw [e1,e2]at hm
  ·rw [if_pos (show k % 2 ^ 13=j % 2 ^ 13 from hm.2 ⟨hc,rfl⟩)];exact ga
  ·rw [if_neg (show ¬ (k % 2 ^ 13=j % 2 ^ 13) from fun h=>by cases (hm.1 h).2)];rfl
  ·rw [if_neg (show ¬ (k % 2 ^ 13=j % 2 ^ 13) from fun h=>by cases (hm.1 h).2)];rfl
  ·rw [if_pos (show k % 2 ^ 13=j % 2 ^ 13 from hm.2 ⟨hc,rfl⟩)];exact gb
 ·rw [if_neg hc]at ga gb
  rw [if_neg (show ¬ (k % 2 ^ 13=j % 2 ^ 13) from fun h=>hc (hm.1 h).1)]
  cases k.testBit 12<;>cases j.testBit 12
  ·exact ga
  ·rfl
  ·rfl
  ·exact gb
theorem znn {α:Type} (x:α) (j:Nat):zbr (zjx x) j=x:=by
 simp only [zbr,zjx]
 split<;>exact zwN x j
theorem zkT {α:Type} (t:T13 α) (k j:Nat) (v:α) (hk:k<=8191) (hj:j<=8191):zbr (tset13 t k v id) j=if k=j then v else zbr t j:=by
 rw [zuY,Nat.mod_eq_of_lt (by omega),Nat.mod_eq_of_lt (by omega)]
theorem zdG {α:Type} (t:T8 α) (k j:Nat) (v:α) (hk:k<=255) (hj:j<=255):zaD (tset8 t k v id) j=if k=j then v else zaD t j:=by
 rw [zie,Nat.mod_eq_of_lt (by omega),Nat.mod_eq_of_lt (by omega)]
theorem forceN_eq.{u} {β:Sort u} (n:Nat) (K:Nat->β):forceN n K=K n:=by cases n<;>rfl
theorem forceI_eq.{u} {β:Sort u} (n:Int) (K:Int->β):forceI n K=K n:=match n with
 | .ofNat n=>forceN_eq n fun n=>K (.ofNat n)
 | .negSucc n=>forceN_eq n fun n=>K (.negSucc n)
theorem forceB_eq.{u} {β:Sort u} (n:Bool) (K:Bool->β):forceB n K=K n:=by cases n<;>rfl
theorem forceL_eq.{u} {α:Type} {β:Sort u} (l:List α) (K:List α->β):forceL l K=K l:=by
 induction l generalizing K with
 | nil=>rfl
 | cons x l ih=>rw [forceL,ih]
theorem forceV_eq.{u} {β:Sort u} (v:Xl) (K:Xl->β):forceV v K=K v:=by
 unfold forceV
 split
 ·exact forceB_eq _ _
 ·exact forceI_eq _ _
 ·exact forceL_eq _ _
 ·exact forceL_eq _ _
 ·rfl
end Go.Proofs.YtgjolijncmkkhaaGreatDoor
namespace Go.Proofs.YtgjolijncmkkhaaGreatDoor
open Go.RowKit
set_option linter.unusedVariables false
structure Pl where
 blk:Nat
 off:Nat
 sz:Nat
 es:Nat
 sl:Nat
abbrev Rn:=Nat->Option Pl
def LR (R:Xl->Xl->Prop):Xj->Xj->Prop
 | [],l=>l=[]
 | v::l,l'=>∃v' t,l'=v'::t∧R v v'∧LR R l t
def SlR (ρ:Rn) (a:Addr) (l c:Nat) (v':Xl):Prop:=
 a.spot=none∧l<=c∧∃p,ρ a.block=some p∧∃a' c',v'=.slice (some a') l c'∧c'=c+(if a.off+c*p.es=p.sz then p.sl else 0)∧
  (c'≠0->a'=⟨p.blk,p.off+a.off,none⟩)∧c'<=9223372036854775807
def zwe:Fn->Prop
 | .yield _=>False
 | _=>True
def VR (ρ:Rn):Nat->Xl->Xl->Prop
 | 0,_,_=>False
 | n+1,v,v'=>match v with
  | .chan none=>True
  | .bool b=>v'=.bool b
  | .int k i=>v'=.int k i
  | .string s=>v'=.string s
  | .pointer none=>v'=.pointer none
  | .pointer (some a)=>a.spot=none∧∃p,ρ a.block=some p∧v'=.pointer (some ⟨p.blk,p.off+a.off,none⟩)
  | .slice none l c=>l=0∧c=0∧v'=.slice none 0 0
  | .slice (some a) l c=>SlR ρ a l c v'
  | .map none=>v'=.map none
  | .map (some r)=>∃p,ρ r=some p∧v'=.map (some p.blk)
  | .func fn f c=>zwe fn∧∃f' c',v'=.func fn ⟨f'⟩ ⟨c'⟩∧LR (VR ρ n) f.toList f'∧LR (VR ρ n) c.toList c'
  | .nilFunc=>v'=.nilFunc
  | .iface t x=>∃x',v'=.iface t x'∧VR ρ n x x'
  | .nilIface=>v'=.nilIface
  | .agg cs=>∃cs',v'=.agg ⟨cs'⟩∧LR (VR ρ n) cs.toList cs'
  | .tuple cs=>∃cs',v'=.tuple ⟨cs'⟩∧LR (VR ρ n) cs.toList cs'
  | _=>False
def VL (ρ:Rn) (v v':Xl):Prop:=∃n,VR ρ n v v'
theorem LR.mono {R S:Xl->Xl->Prop} (h:∀v v',R v v'->S v v'):∀{l l':Xj},LR R l l'->LR S l l'
 | [],_,e=>e
 | v::l,_,⟨v',t,e,hv,ht⟩=>⟨v',t,e,h _ _ hv,LR.mono h ht⟩
theorem VR.up {ρ:Rn}:∀{n:Nat} {v v':Xl},VR ρ n v v'->VR ρ (n+1) v v'
 | 0,v,v',h=>h.elim
 | n+1,v,v',h=>by
  have ih:∀x x',VR ρ n x x'->VR ρ (n+1) x x':=fun _ _=>VR.up
  unfold VR at h ⊢
  split at h<;>first
   | exact h
   | (obtain⟨h1,f',c',e,h2,h3⟩:=h;exact⟨h1,f',c',e,h2.mono ih,h3.mono ih⟩)
   | (obtain⟨x',e,h2⟩:=h;exact⟨x',e,ih _ _ h2⟩)
   | (obtain⟨x',e,h2⟩:=h;exact⟨x',e,h2.mono ih⟩)
theorem VR.le {ρ:Rn} {n m:Nat} {v v':Xl} (h:VR ρ n v v') (hm:n<=m):VR ρ m v v':=by
 induction m with
 | zero=>
  have:n=0:=by omega
  subst this;exact h
 | succ m ih=>
  by_cases e:n=m+1
  ·subst e;exact h
  ·exact (ih (by omega)).up
theorem LR.deep {ρ:Rn}:∀{l l':Xj},LR (VL ρ) l l'->∃n,LR (VR ρ n) l l'
 | [],_,e=>⟨0,e⟩
 | v::l,_,⟨v',t,e,⟨n,hv⟩,ht⟩=>by
  obtain⟨m,hm⟩:=LR.deep ht
  exact⟨n+m,v',t,e,hv.le (by omega),hm.mono fun _ _ h=>h.le (by omega)⟩
theorem LR.flat {ρ:Rn} {n:Nat} {l l':Xj} (h:LR (VR ρ n) l l'):LR (VL ρ) l l':=h.mono fun _ _ h=>⟨n,h⟩
section
variable {ρ:Rn} {v':Xl}
theorem VL.bool {b:Bool}:VL ρ (.bool b) v'↔v'=.bool b:=⟨fun ⟨n,h⟩=>by cases n with | zero=>exact h.elim | succ n=>exact h,fun h=>⟨1,h⟩⟩
theorem VL.int {k:IntKind} {i:Int}:VL ρ (.int k i) v'↔v'=.int k i:=⟨fun ⟨n,h⟩=>by cases n with | zero=>exact h.elim | succ n=>exact h,fun h=>⟨1,h⟩⟩
theorem VL.string {s:ByteArray}:VL ρ (.string s) v'↔v'=.string s:=⟨fun ⟨n,h⟩=>by cases n with | zero=>exact h.elim | succ n=>exact h,fun h=>⟨1,h⟩⟩
theorem VL.ptr {a:Addr}:VL ρ (.pointer (some a)) v'↔a.spot=none∧∃p,ρ a.block=some p∧v'=.pointer (some ⟨p.blk,p.off+a.off,none⟩):=
 ⟨fun ⟨n,h⟩=>by cases n with | zero=>exact h.elim | succ n=>exact h,fun h=>⟨1,h⟩⟩
theorem VL.nilp:VL ρ (.pointer none) v'↔v'=.pointer none:=⟨fun ⟨n,h⟩=>by cases n with | zero=>exact h.elim | succ n=>exact h,fun h=>⟨1,h⟩⟩
theorem VL.nils {l c:Nat}:VL ρ (.slice none l c) v'↔l=0∧c=0∧v'=.slice none 0 0:=⟨fun ⟨n,h⟩=>by cases n with | zero=>exact h.elim | succ n=>exact h,fun h=>⟨1,h⟩⟩
theorem VL.slice {a:Addr} {l c:Nat}:VL ρ (.slice (some a) l c) v'↔SlR ρ a l c v':=⟨fun ⟨n,h⟩=>by cases n with | zero=>exact h.elim | succ n=>exact h,fun h=>⟨1,h⟩⟩
theorem VL.map {r:Nat}:VL ρ (.map (some r)) v'↔∃p,ρ r=some p∧v'=.map (some p.blk):=⟨fun ⟨n,h⟩=>by cases n with | zero=>exact h.elim | succ n=>exact h,fun h=>⟨1,h⟩⟩
theorem VL.nilm:VL ρ (.map none) v'↔v'=.map none:=⟨fun ⟨n,h⟩=>by cases n with | zero=>exact h.elim | succ n=>exact h,fun h=>⟨1,h⟩⟩
theorem VL.nilf:VL ρ .nilFunc v'↔v'=.nilFunc:=⟨fun ⟨n,h⟩=>by cases n with | zero=>exact h.elim | succ n=>exact h,fun h=>⟨1,h⟩⟩
theorem VL.nili:VL ρ .nilIface v'↔v'=.nilIface:=⟨fun ⟨n,h⟩=>by cases n with | zero=>exact h.elim | succ n=>exact h,fun h=>⟨1,h⟩⟩
theorem VL.junk:VL ρ (.chan none) v':=⟨1,trivial⟩
theorem VL.agg {l:Xj}:VL ρ (.agg ⟨l⟩) v'↔∃l',v'=.agg ⟨l'⟩∧LR (VL ρ) l l':=by
 constructor
 ·rintro⟨n,h⟩
  cases n with
  | zero=>exact h.elim
  | succ n=>obtain⟨l',e,h⟩:=h;exact⟨l',e,h.flat⟩
 ·rintro⟨l',e,h⟩
  obtain⟨n,hn⟩:=h.deep
  exact⟨n+1,l',e,hn⟩
theorem VL.tuple {l:Xj}:VL ρ (.tuple ⟨l⟩) v'↔∃l',v'=.tuple ⟨l'⟩∧LR (VL ρ) l l':=by
 constructor
 ·rintro⟨n,h⟩
  cases n with
  | zero=>exact h.elim
  | succ n=>obtain⟨l',e,h⟩:=h;exact⟨l',e,h.flat⟩
 ·rintro⟨l',e,h⟩
  obtain⟨n,hn⟩:=h.deep
  exact⟨n+1,l',e,hn⟩
theorem VL.iface {t:Xm} {x:Xl}:VL ρ (.iface t x) v'↔∃x',v'=.iface t x'∧VL ρ x x':=by
 constructor
 ·rintro⟨n,h⟩
  cases n with
  | zero=>exact h.elim
  | succ n=>obtain⟨l',e,h⟩:=h;exact⟨l',e,n,h⟩
 ·rintro⟨l',e,n,h⟩
  exact⟨n+1,l',e,h⟩
theorem VL.func {fn:Fn} {f c:Xj}:VL ρ (.func fn ⟨f⟩ ⟨c⟩) v'↔zwe fn∧∃f' c',v'=.func fn ⟨f'⟩ ⟨c'⟩∧LR (VL ρ) f f'∧LR (VL ρ) c c':=by
 constructor
 ·rintro⟨n,h⟩
  cases n with
  | zero=>exact h.elim
  | succ n=>obtain⟨h1,f',c',e,h2,h3⟩:=h;exact⟨h1,f',c',e,h2.flat,h3.flat⟩
 ·rintro⟨h1,f',c',e,h2,h3⟩
  obtain⟨n,hn⟩:=h2.deep
  obtain⟨m,hm⟩:=h3.deep
  exact⟨n+m+1,h1,f',c',e,hn.mono fun _ _ h=>h.le (by omega),hm.mono fun _ _ h=>h.le (by omega)⟩
end
def Rn.le (ρ ρ':Rn):Prop:=∀i p,ρ i=some p->ρ' i=some p
theorem SlR.grow {ρ ρ':Rn} (hρ:ρ.le ρ') {a:Addr} {l c:Nat} {v':Xl} (h:SlR ρ a l c v'):SlR ρ' a l c v':=by
 obtain⟨h1,h2,p,h3,h4⟩:=h
 exact⟨h1,h2,p,hρ _ _ h3,h4⟩
theorem VR.grow {ρ ρ':Rn} (hρ:ρ.le ρ'):∀{n:Nat} {v v':Xl},VR ρ n v v'->VR ρ' n v v'
 | 0,v,v',h=>h.elim
 | n+1,v,v',h=>by
  have ih:∀x x',VR ρ n x x'->VR ρ' n x x':=fun _ _=>VR.grow hρ
  unfold VR at h ⊢
  split at h<;>first
   | exact h
   | exact h.grow hρ
   | (obtain⟨h1,f',c',e,h2,h3⟩:=h;exact⟨h1,f',c',e,h2.mono ih,h3.mono ih⟩)
   | (obtain⟨h1,p,e,h2⟩:=h;exact⟨h1,p,hρ _ _ e,h2⟩)
   | (obtain⟨p,e,h2⟩:=h;exact⟨p,hρ _ _ e,h2⟩)
   | (obtain⟨x',e,h2⟩:=h;exact⟨x',e,ih _ _ h2⟩)
   | (obtain⟨x',e,h2⟩:=h;exact⟨x',e,h2.mono ih⟩)
theorem VL.grow {ρ ρ':Rn} (hρ:ρ.le ρ') {v v':Xl} (h:VL ρ v v'):VL ρ' v v':=by
 obtain⟨n,h⟩:=h
 exact⟨n,h.grow hρ⟩
theorem LR.grow {ρ ρ':Rn} (hρ:ρ.le ρ') {l l':Xj} (h:LR (VL ρ) l l'):LR (VL ρ') l l':=h.mono fun _ _ h=>h.grow hρ
theorem Rn.le.rfl {ρ:Rn}:ρ.le ρ:=fun _ _ h=>h
theorem Rn.le.trans {a b c:Rn} (h:a.le b) (k:b.le c):a.le c:=fun i p e=>k i p (h i p e)
theorem LR.len {R:Xl->Xl->Prop}:∀{l l':Xj},LR R l l'->l'.length=l.length
 | [],_,e=>by rw [e]
 | v::l,_,⟨v',t,e,_,ht⟩=>by rw [e,List.length_cons,List.length_cons,LR.len ht]
theorem LR.at {R:Xl->Xl->Prop}:∀{l l':Xj} {i:Nat} {v:Xl},LR R l l'->l[i]? = some v->∃v',l'[i]? = some v'∧R v v'
 | [],_,i,v,e,h=>by simp at h
 | x::l,_,0,v,⟨v',t,e,hv,_⟩,h=>by
  subst e
  simp at h
  subst h
  exact⟨v',by simp,hv⟩
 | x::l,_,i+1,v,⟨v',t,e,_,ht⟩,h=>by
  subst e
  simpa using LR.at ht (by simpa using h)
theorem LR.of {R:Xl->Xl->Prop}:∀{l l':Xj},l'.length=l.length->(∀(i:Nat) v v',l[i]? = some v->l'[i]? = some v'->R v v')->LR R l l'
 | [],l',e,_=>by
  show l'=[]
  simpa using e
 | v::l,[],e,_=>by simp at e
 | v::l,v'::t,e,h=>⟨v',t,rfl,h 0 v v' (by simp) (by simp),LR.of (by simpa using e) fun i x x' hx Aa=>h (i+1) x x' (by simpa using hx) (by simpa using Aa)⟩
theorem LR.app {R:Xl->Xl->Prop}:∀{l l' k k':Xj},LR R l l'->LR R k k'->LR R (l++k) (l'++k')
 | [],_,k,k',e,h=>by rw [e];exact h
 | v::l,_,k,k',⟨v',t,e,hv,ht⟩,h=>⟨v',t++k',by rw [e];rfl,hv,LR.app ht h⟩
theorem LR.take {R:Xl->Xl->Prop}:∀{l l':Xj} (n:Nat),LR R l l'->LR R (l.take n) (l'.take n)
 | l,l',0,_=>by simp [LR]
 | [],_,n+1,e=>by rw [e];simp [LR]
 | v::l,_,n+1,⟨v',t,e,hv,ht⟩=>⟨v',t.take n,by rw [e];rfl,hv,LR.take n ht⟩
theorem LR.drop {R:Xl->Xl->Prop}:∀{l l':Xj} (n:Nat),LR R l l'->LR R (l.drop n) (l'.drop n)
 | l,l',0,h=>h
 | [],_,n+1,e=>by rw [e];simp [LR]
 | v::l,_,n+1,⟨v',t,e,hv,ht⟩=>by subst e;exact LR.drop n ht
theorem zdP {ρ:Rn} {v v':Xl} (h:zgD v=true):VL ρ v v'↔v'=v:=by
 cases v with
 | bool b=>exact VL.bool
 | int k i=>exact VL.int
 | string s=>exact VL.string
 | pointer a=>cases a with
  | none=>exact VL.nilp
  | some a=>cases h
 | slice a l c=>cases a with
  | none=>
   rw [zgD,Bool.and_eq_true]at h
   have h1:=Nat.eq_of_beq_eq_true h.1
   have h2:=Nat.eq_of_beq_eq_true h.2
   subst h1 h2
   rw [VL.nils]
   simp
  | some a=>cases h
 | map r=>cases r with
  | none=>exact VL.nilm
  | some a=>cases h
 | nilFunc=>exact VL.nilf
 | nilIface=>exact VL.nili
 | _=>cases h
theorem zeX {ρ:Rn}:∀{l l':Xj},zkU l=true->(LR (VL ρ) l l'↔l'=l)
 | [],_,_=>Iff.rfl
 | v::l,l',h=>by
  rw [zkU,Bool.and_eq_true]at h
  constructor
  ·rintro⟨v',t,e,hv,ht⟩
   rw [e,(zdP h.1).1 hv,(zeX h.2).1 ht]
  ·intro e
   exact⟨v,l,e,(zdP h.1).2 rfl,(zeX h.2).2 rfl⟩
theorem zhd {ρ:Rn} {v v':Xl} (h:zlr v=true):VL ρ v v'↔v'=v:=by
 unfold zlr at h
 split at h
 ·rw [VL.agg]
  constructor
  ·rintro⟨l',e,hl⟩;rw [e,(zeX h).1 hl]
  ·intro e;exact⟨_,e,(zeX h).2 rfl⟩
 ·exact zdP h
theorem zeW {ρ:Rn}:∀{l l':Xj},zme l=true->(LR (VL ρ) l l'↔l'=l)
 | [],_,_=>Iff.rfl
 | v::l,l',h=>by
  rw [zme,Bool.and_eq_true]at h
  constructor
  ·rintro⟨v',t,e,hv,ht⟩
   rw [e,(zhd h.1).1 hv,(zeW h.2).1 ht]
  ·intro e
   exact⟨v,l,e,(zhd h.1).2 rfl,(zeW h.2).2 rfl⟩
theorem zcs {ρ:Rn} {v v':Xl} (h:zaL v=true):VL ρ v v'↔v'=v:=by
 unfold zaL at h
 split at h
 ·rw [VL.tuple]
  constructor
  ·rintro⟨l',e,hl⟩;rw [e,(zeW h).1 hl]
  ·intro e;exact⟨_,e,(zeW h).2 rfl⟩
 ·exact zhd h
abbrev Hf:=Nat->Option Obj
def Fz (n:Nat) (fz:Nat×Nat):Prop:=fz.1=fz.2∨n<=fz.1
theorem Fz.no {n:Nat} {fz:Nat×Nat} (h:Fz n fz):∀o,o<n->¬ (fz.1<=o∧o<fz.2):=fun o ho hc=>by
 rcases h with h | h<;>omega
def Fy (T:Xm) (fl:Nat×Nat) (n:Nat) (fz:Nat×Nat):Prop:=Fz n fz∧(T=154->fl.1=0->fz.1=fz.2)
theorem Fy.no {T:Xm} {fl:Nat×Nat} {n:Nat} {fz:Nat×Nat} (h:Fy T fl n fz):∀o,o<n->¬ (fz.1<=o∧o<fz.2):=h.1.no
def ObjR (ρ:Rn) (w:Xk) (id:Nat):Obj->Prop
 | .cells cs T fl=>∃p,ρ id=some p∧p.sz=cs.size∧(fl.1=0->p.sl=0)∧(fl.1≠0->p.es=fl.1)∧
   ∃c' el' fz,w.heap[p.blk]? = some (.cells c' el' fz)∧p.off+p.sz+p.sl*p.es<=c'.size∧(16<=id->Fy T fl c'.size fz)∧
    ∀k v,cs[k]? = some v->∃v',c'[p.off+k]? = some v'∧VL ρ v v'
 | .map es clk=>∃p,ρ id=some p∧w.heap[p.blk]? = some (.map es clk)
 | _=>False
structure HR (w0:Xk) (B:Nat) (ρ:Rn) (h:Hf) (w:Xk):Prop where
 below:Below B w0 w
 base:B<=w0.heap.size
 obj:∀id o,h id=some o->ObjR ρ w id o
 sep:∀i j oi oj pi pj,i≠j->h i=some oi->h j=some oj->ρ i=some pi->ρ j=some pj->pi.blk≠pj.blk
 own:∀id o p,h id=some o->16<=id->ρ id=some p->B<=p.blk
 glo:∀g,g<16->∃p,ρ g=some p∧p.blk=g∧p.off=0
def Hp.f (s:Hp):Hf:=fun id=>if id<=8191 then zbr s.h id else none
end Go.Proofs.YtgjolijncmkkhaaGreatDoor
namespace Go.Proofs.YtgjolijncmkkhaaGreatDoor
set_option linter.unusedVariables false
structure FrE (s s':Hp) (r q:Nat):Prop where
 n:s.n<=s'.n
 rd:s'.rd=s.rd ||| r
 wr:s'.wr=s.wr ||| q
 off:∀id,q.testBit id=false->s'.f id=s.f id
 new:∀id,s.n<=id->id<s'.n->q.testBit id=true
structure Ag (s g:Hp) (a:Nat):Prop where
 n:g.n=s.n
 on:∀id,a.testBit id=true->g.f id=s.f id
structure Pat (s' g g':Hp) (r q:Nat):Prop where
 n:g'.n=s'.n
 rd:g'.rd=g.rd ||| r
 wr:g'.wr=g.wr ||| q
 on:∀id,q.testBit id=true->g'.f id=s'.f id
 off:∀id,q.testBit id=false->g'.f id=g.f id
structure Good {α:Type} (F:M α):Prop where
 ok:∀{β:Type} (s:Hp) (K:α->Hp->Option β) (x:β),F.run s K=some x->∃a s' r q,(∀{γ:Type} (J:α->Hp->Option γ),F.run s J=J a s')∧FrE s s' r q∧
  ∀g,Ag s g (r ||| q)->∃g',Pat s' g g' r q∧∀{γ:Type} (J:α->Hp->Option γ),F.run g J=J a g'
theorem zae {α:Type}:Good (zah (α:=α)):=⟨fun _ _ _ h=>by cases h⟩
theorem zaf {α:Type} (a:α):Good (zak a):=⟨fun s K x h=>
 ⟨a,s,0,0,fun _=>rfl,⟨Nat.le_refl _,by simp,by simp,fun _ _=>rfl,fun id h1 h2=>by omega⟩,
  fun g hg=>⟨g,⟨hg.n,by simp,by simp,fun id h=>by simp at h,fun _ _=>rfl⟩,fun _=>rfl⟩⟩⟩
theorem zab {α δ:Type} {F:M α} {G:α->M δ} (hF:Good F) (hG:∀a,Good (G a)):Good (zaj F G):=by
 refine⟨fun {β} s K x h=> ?_⟩
 obtain⟨a,s1,r1,q1,e1,f1,g1⟩:=hF.ok s (fun a s=>(G a).run s K) x h
 have h2:(G a).run s1 K=some x:=(e1 fun a s=>(G a).run s K).symm.trans h
 obtain⟨b,s2,r2,q2,e2,f2,g2⟩:=(hG a).ok s1 K x h2
 refine⟨b,s2,r1 ||| r2,q1 ||| q2,fun J=>(e1 fun a s=>(G a).run s J).trans (e2 J),⟨Nat.le_trans f1.n f2.n,?_,?_,?_,?_⟩,?_⟩
 ·rw [f2.rd,f1.rd,Nat.or_assoc]
 ·rw [f2.wr,f1.wr,Nat.or_assoc]
 ·intro id h
  rw [Nat.testBit_or,Bool.or_eq_false_iff]at h
  rw [f2.off id h.2,f1.off id h.1]
 ·intro id h1 h2
  rw [Nat.testBit_or,Bool.or_eq_true]
  by_cases hc:id<s1.n
  ·exact .inl (f1.new id h1 hc)
  ·exact .inr (f2.new id (by omega) h2)
 ·intro g hg
  obtain⟨g',hp,eg⟩:=g1 g ⟨hg.n,fun id h=>hg.on id (by
   simp only [Nat.testBit_or,Bool.or_eq_true]at h ⊢
   rcases h with h | h
   ·exact .inl (.inl h)
   ·exact .inr (.inl h))⟩
  obtain⟨Ba,Aa,Ca⟩:=g2 g' ⟨hp.n,fun id h=>by
   cases hq:q1.testBit id with
   | true=>exact hp.on id hq
   | false=>
    rw [hp.off id hq,f1.off id hq]
    refine hg.on id ?_
    simp only [Nat.testBit_or,Bool.or_eq_true]at h ⊢
    rcases h with h | h
    ·exact .inl (.inr h)
    ·exact .inr (.inr h)⟩
  refine⟨Ba,⟨Aa.n,?_,?_,?_,?_⟩,fun J=>(eg fun a s=>(G a).run s J).trans (Ca J)⟩
  ·rw [Aa.rd,hp.rd,Nat.or_assoc]
  ·rw [Aa.wr,hp.wr,Nat.or_assoc]
  ·intro id h
   cases hq:q2.testBit id with
   | true=>exact Aa.on id hq
   | false=>
    rw [Aa.off id hq,f2.off id hq]
    rw [Nat.testBit_or,hq,Bool.or_false]at h
    exact hp.on id h
  ·intro id h
   rw [Nat.testBit_or,Bool.or_eq_false_iff]at h
   rw [Aa.off id h.2,hp.off id h.1]
theorem zmR (b id:Nat):(Nat.shiftLeft 1 b).testBit id=decide (b=id):=by
 show (1 <<< b).testBit id=_
 rw [Nat.one_shiftLeft,Nat.testBit_two_pow]
theorem zet (b:Nat):(Nat.shiftLeft 1 b).testBit b=true:=by rw [zmR];simp
theorem zfV {b id:Nat} (h:(Nat.shiftLeft 1 b).testBit id=false):b≠id:=by rw [zmR]at h;simpa using h
theorem zeu {b id:Nat} (h:(Nat.shiftLeft 1 b).testBit id=true):b=id:=by rw [zmR]at h;simpa using h
theorem zsM {β:Type} (s:Hp) (b:Nat) (K:Obj->Hp->Option β) :
  (mget b).run s K=match s.f b with
   | some o=>K o ⟨s.h,s.n,s.rd ||| Nat.shiftLeft 1 b,s.wr⟩
   | none=>none:=by
 obtain⟨h,n,rd,wr⟩:=s
 unfold mget Hp.f
 simp only []
 cases hb:Nat.ble b 8191 with
 | true=>
  rw [if_pos (Nat.le_of_ble_eq_true hb)]
  simp only []
  cases zbr h b with
  | none=>rfl
  | some o=>exact forceN_eq _ _
 | false=>
  rw [if_neg (fun h=>by rw [Nat.ble_eq_true_of_le h]at hb;cases hb)]
theorem zcY (b:Nat):Good (mget b):=by
 refine⟨fun {β} s K x h=> ?_⟩
 simp only [zsM]at h ⊢
 cases hb:s.f b with
 | none=>rw [hb]at h;cases h
 | some o=>
  refine⟨o,⟨s.h,s.n,s.rd ||| Nat.shiftLeft 1 b,s.wr⟩,Nat.shiftLeft 1 b,0,fun J=>rfl,⟨Nat.le_refl _,rfl,by simp,fun _ _=>rfl,fun id h1 h2=>by simp at h2;omega⟩,?_⟩
  intro g hg
  have Aa:g.f b=some o:=by rw [hg.on b (by rw [Nat.testBit_or,zet];rfl),hb]
  refine⟨⟨g.h,g.n,g.rd ||| Nat.shiftLeft 1 b,g.wr⟩,⟨hg.n,rfl,by simp,fun id h=>by simp at h,fun _ _=>rfl⟩,fun J=> ?_⟩
  rw [Aa]
def Hp.put (s:Hp) (b:Nat) (o:Option Obj) (n:Nat):Hp:=⟨tset13 s.h b o id,n,s.rd,s.wr ||| Nat.shiftLeft 1 b⟩
theorem zeH (s:Hp) (b:Nat) (o:Option Obj) (n:Nat) (hb:b<=8191) (id:Nat):(s.put b o n).f id=if b=id then o else s.f id:=by
 unfold Hp.put Hp.f
 by_cases hi:id<=8191
 ·rw [if_pos hi,if_pos hi]
  exact zkT _ _ _ _ hb hi
 ·rw [if_neg hi,if_neg hi,if_neg (by omega)]
theorem ztd {β:Type} (s:Hp) (b:Nat) (o:Option Obj) (K:Unit->Hp->Option β) :
  (mset b o).run s K=if 16<=b∧b<=8191 then K () (s.put b o s.n) else none:=by
 obtain⟨h,n,rd,wr⟩:=s
 unfold mset
 simp only []
 cases hb:Nat.ble b 8191 && Nat.ble 16 b with
 | true=>
  rw [Bool.and_eq_true]at hb
  rw [if_pos ⟨Nat.le_of_ble_eq_true hb.2,Nat.le_of_ble_eq_true hb.1⟩]
  simp only []
  rw [tset13_eq]
  exact forceN_eq _ _
 | false=>
  rw [if_neg]
  rintro⟨h1,h2⟩
  rw [Nat.ble_eq_true_of_le h1,Nat.ble_eq_true_of_le h2]at hb
  cases hb
theorem zto {β:Type} (s:Hp) (o:Obj) (K:Nat->Hp->Option β) :
  (mnew o).run s K=if 16<=s.n∧s.n<=8191 then K s.n (s.put s.n (some o) (s.n+1)) else none:=by
 obtain⟨h,n,rd,wr⟩:=s
 unfold mnew
 simp only []
 cases hb:Nat.ble n 8191 && Nat.ble 16 n with
 | true=>
  rw [Bool.and_eq_true]at hb
  rw [if_pos ⟨Nat.le_of_ble_eq_true hb.2,Nat.le_of_ble_eq_true hb.1⟩]
  simp only []
  rw [tset13_eq]
  exact (forceN_eq _ _).trans (forceN_eq _ _)
 | false=>
  rw [if_neg]
  rintro⟨h1,h2⟩
  rw [Nat.ble_eq_true_of_le h1,Nat.ble_eq_true_of_le h2]at hb
  cases hb
theorem zcv (b:Nat) (o:Option Obj):Good (mset b o):=by
 refine⟨fun {β} s K x h=> ?_⟩
 simp only [ztd]at h ⊢
 split at h
 ·rename_i hc
  refine⟨(),s.put b o s.n,0,Nat.shiftLeft 1 b,fun J=>if_pos hc,⟨Nat.le_refl _,by simp [Hp.put],rfl,fun id h=> ?_,fun id h1 h2=>by simp [Hp.put]at h2;omega⟩,?_⟩
  ·rw [zeH _ _ _ _ hc.2,if_neg (zfV h)]
  ·intro g hg
   refine⟨g.put b o g.n,⟨hg.n,by simp [Hp.put],rfl,fun id h=> ?_,fun id h=> ?_⟩,fun J=>if_pos hc⟩
   ·rw [zeH _ _ _ _ hc.2,zeH _ _ _ _ hc.2,if_pos (zeu h),if_pos (zeu h)]
   ·rw [zeH _ _ _ _ hc.2,if_neg (zfV h)]
 ·cases h
theorem zki (o:Obj):Good (mnew o):=by
 refine⟨fun {β} s K x h=> ?_⟩
 simp only [zto]at h ⊢
 split at h
 ·rename_i hc
  refine⟨s.n,s.put s.n (some o) (s.n+1),0,Nat.shiftLeft 1 s.n,fun J=>if_pos hc,⟨by simp [Hp.put],by simp [Hp.put],rfl,fun id h=> ?_,fun id h1 h2=> ?_⟩,?_⟩
  ·rw [zeH _ _ _ _ hc.2,if_neg (zfV h)]
  ·simp only [Hp.put]at h2
   have:s.n=id:=by omega
   rw [<-this]
   exact zet _
  ·intro g hg
   rw [hg.n]
   refine⟨g.put s.n (some o) (s.n+1),⟨rfl,by simp [Hp.put],rfl,fun id h=> ?_,fun id h=> ?_⟩,fun J=>if_pos hc⟩
   ·rw [zeH _ _ _ _ hc.2,zeH _ _ _ _ hc.2,if_pos (zeu h),if_pos (zeu h)]
   ·rw [zeH _ _ _ _ hc.2,if_neg (zfV h)]
 ·cases h
end Go.Proofs.YtgjolijncmkkhaaGreatDoor
