/- Own texts joined: EvH, EvI, EvW, EvO, EvP, EvQ, EvS. -/
import Derived.Test.YtgjolijncmkkhaaGreatDoorQa
import Derived.Test.YtgjolijncmkkhaaGreatDoorQi
import Derived.Laws.Cells
import Derived.Laws.Entries
namespace Go.Proofs.YtgjolijncmkkhaaGreatDoor
set_option linter.unusedVariables false
variable (P:Program)
theorem zbo (x:Option Xl):Good (maev x):=by
 unfold maev
 repeat' (first | with_reducible exact zae | with_reducible exact zaf _ | (with_reducible refine zab ?_ fun _=> ?_) | rw [forceN_eq] | rw [forceL_eq] | rw [forceI_eq] | rw [forceV_eq] | rw [forceB_eq] | rw [tset8_eq] | split)
theorem zaV (e:Operand->Option Xl):∀l,Good (aevs e l)
 | []=>zaf _
 | x::l=>by
  unfold aevs
  split
  ·exact zab (zaV e l) fun _=>zaf _
  ·exact zae
theorem zce (off n:Nat) (l:Xj):Good (cutV off n l):=by
 unfold cutV
 repeat' (first | with_reducible exact zae | with_reducible exact zaf _ | (with_reducible refine zab ?_ fun _=> ?_) | rw [forceN_eq] | rw [forceL_eq] | rw [forceI_eq] | rw [forceV_eq] | rw [forceB_eq] | rw [tset8_eq] | split)
theorem zff (off:Nat) (vs l:Xj):Good (zjB off vs l):=by
 unfold zjB
 repeat' (first | with_reducible exact zae | with_reducible exact zaf _ | (with_reducible refine zab ?_ fun _=> ?_) | rw [forceN_eq] | rw [forceL_eq] | rw [forceI_eq] | rw [forceV_eq] | rw [forceB_eq] | rw [tset8_eq] | split)
theorem zrB (o:Obj):Good (zlm o):=by
 unfold zlm
 repeat' (first | with_reducible exact zae | with_reducible exact zaf _ | (with_reducible refine zab ?_ fun _=> ?_) | rw [forceN_eq] | rw [forceL_eq] | rw [forceI_eq] | rw [forceV_eq] | rw [forceB_eq] | rw [tset8_eq] | split)
theorem zau (b:Nat):Good (zbC b):=zab (zcY b) zrB
theorem zan (a:Addr) (n:Nat):Good (zbx a n):=by
 unfold zbx
 repeat' (first | with_reducible exact zae | with_reducible exact zce _ _ _ | with_reducible exact zau _ | (with_reducible refine zab ?_ fun _=> ?_) | rw [forceN_eq] | rw [forceL_eq] | rw [forceI_eq] | rw [forceV_eq] | rw [forceB_eq] | rw [tset8_eq] | split)
theorem zaF (a:Addr) (vs:Xj):Good (zbO a vs):=by
 unfold zbO
 repeat' (first | with_reducible exact zae | with_reducible exact zcv _ _ | with_reducible exact zff _ _ _ | with_reducible exact zau _ | (with_reducible refine zab ?_ fun _=> ?_) | rw [forceN_eq] | rw [forceL_eq] | rw [forceI_eq] | rw [forceV_eq] | rw [forceB_eq] | rw [tset8_eq] | split)
theorem zaM (t:Xm) (l:Xj) (fl:Nat×Nat):Good (mrow t l fl):=by
 unfold mrow
 repeat' (first | with_reducible exact zae | with_reducible exact zki _ | (with_reducible refine zab ?_ fun _=> ?_) | rw [forceN_eq] | rw [forceL_eq] | rw [forceI_eq] | rw [forceV_eq] | rw [forceB_eq] | rw [tset8_eq] | split)
theorem znm (a:Addr) (n:Nat):Good (addA a n):=by
 unfold addA
 repeat' (first | with_reducible exact zae | with_reducible exact zaf _ | (with_reducible refine zab ?_ fun _=> ?_) | rw [forceN_eq] | rw [forceL_eq] | rw [forceI_eq] | rw [forceV_eq] | rw [forceB_eq] | rw [tset8_eq] | split)
theorem zkN (t:Xm) (l:Xj) (off:Nat):Good (zjh P t l off):=by
 unfold zjh
 repeat' (first | with_reducible exact zae | with_reducible exact zaf _ | with_reducible exact zbo _ | with_reducible exact zce _ _ _ | (with_reducible refine zab ?_ fun _=> ?_) | rw [forceN_eq] | rw [forceL_eq] | rw [forceI_eq] | rw [forceV_eq] | rw [forceB_eq] | rw [tset8_eq] | split)
theorem zdi (pl:Nat->Option (Nat×Nat)):∀(rest:List (Nat×Xl)) (cells:Xj),Good (zev pl cells rest)
 | [],cells=>by unfold zev;exact zaf _
 | (i,v)::rest,cells=>by
  unfold zev
  split
  ·split
   ·split
    ·exact zab (zff _ _ _) fun c=>zdi pl rest c
    ·exact zae
   ·exact zae
  ·exact zae
theorem zcu (x:Sem Xl):Good (zdN P x):=by
 unfold zdN
 repeat' (first | with_reducible exact zae | with_reducible exact zaf _ | (with_reducible refine zab ?_ fun _=> ?_) | rw [forceN_eq] | rw [forceL_eq] | rw [forceI_eq] | rw [forceV_eq] | rw [forceB_eq] | rw [tset8_eq] | split)
theorem zeC (size n:Nat) (x:Xl):Good (zeR size n x):=by
 unfold zeR
 repeat' (first | with_reducible exact zae | with_reducible exact zaf _ | with_reducible exact zan _ _ | (with_reducible refine zab ?_ fun _=> ?_) | rw [forceN_eq] | rw [forceL_eq] | rw [forceI_eq] | rw [forceV_eq] | rw [forceB_eq] | rw [tset8_eq] | split)
theorem zrF (el:Xm) (z off len need:Nat) (l new:Xj):Good (zfx el z off len need l new):=by
 unfold zfx
 repeat' (first | with_reducible exact zaf _ | with_reducible exact zce _ _ _ | with_reducible exact zaM _ _ _ | (with_reducible refine zab ?_ fun _=> ?_) | rw [forceN_eq] | rw [forceL_eq] | rw [forceI_eq] | rw [forceV_eq] | rw [forceB_eq] | rw [tset8_eq] | split)
theorem zsb (el:Xm) (z n:Nat) (new:Xj):Good (zmh el z n new):=by
 unfold zmh
 repeat' (first | with_reducible exact zae | with_reducible exact zaf _ | with_reducible exact zaM _ _ _ | (with_reducible refine zab ?_ fun _=> ?_) | rw [forceN_eq] | rw [forceL_eq] | rw [forceI_eq] | rw [forceV_eq] | rw [forceB_eq] | rw [tset8_eq] | split)
theorem zuq (z b off len n need cap:Nat) (new:Xj):Good (zoY z b off len n need cap new):=by
 unfold zoY
 repeat' (first | with_reducible exact zaf _ | with_reducible exact zaF _ _ | (with_reducible refine zab ?_ fun _=> ?_) | rw [forceN_eq] | rw [forceL_eq] | rw [forceI_eq] | rw [forceV_eq] | rw [forceB_eq] | rw [tset8_eq] | split)
theorem zrH (el:Xm) (z b off len need cap:Nat) (new:Xj):Good (zlD el z b off len need cap new):=by
 unfold zlD
 repeat' (first | with_reducible exact zae | with_reducible exact zcv _ _ | with_reducible exact zau _ | with_reducible exact zrF _ _ _ _ _ _ _ | (with_reducible refine zab ?_ fun _=> ?_) | rw [forceN_eq] | rw [forceL_eq] | rw [forceI_eq] | rw [forceV_eq] | rw [forceB_eq] | rw [tset8_eq] | split)
theorem zur (el:Xm) (z b off len cap n:Nat) (new:Xj):Good (zlx el z b off len cap n new):=by
 unfold zlx
 repeat' (first | with_reducible exact zuq _ _ _ _ _ _ _ _ | with_reducible exact zrH _ _ _ _ _ _ _ _ | (with_reducible refine zab ?_ fun _=> ?_) | rw [forceN_eq] | rw [forceL_eq] | rw [forceI_eq] | rw [forceV_eq] | rw [forceB_eq] | rw [tset8_eq] | split)
theorem zuf (el:Xm) (z:Nat) (x:Xl) (n:Nat) (new:Xj):Good (zje el z x n new):=by
 unfold zje
 repeat' (first | with_reducible exact zae | with_reducible exact zsb _ _ _ _ | with_reducible exact zur _ _ _ _ _ _ _ _ | (with_reducible refine zab ?_ fun _=> ?_) | rw [forceN_eq] | rw [forceL_eq] | rw [forceI_eq] | rw [forceV_eq] | rw [forceB_eq] | rw [tset8_eq] | split)
theorem zpC (at0:Xm) (at1:Option Xm) (x y:Xl):Good (zgw P at0 at1 x y):=by
 unfold zgw
 repeat' (first | with_reducible exact zae | with_reducible exact zeC _ _ _ | with_reducible exact zuf _ _ _ _ _ | (with_reducible refine zab ?_ fun _=> ?_) | rw [forceN_eq] | rw [forceL_eq] | rw [forceI_eq] | rw [forceV_eq] | rw [forceB_eq] | rw [tset8_eq] | split)
theorem zoL (n size b off:Nat) (lo hi mx:Option Xl):Good (zhm n size b off lo hi mx):=by
 unfold zhm
 repeat' (first | with_reducible exact zae | with_reducible exact zaf _ | with_reducible exact zau _ | (with_reducible refine zab ?_ fun _=> ?_) | rw [forceN_eq] | rw [forceL_eq] | rw [forceI_eq] | rw [forceV_eq] | rw [forceB_eq] | rw [tset8_eq] | split)
theorem zqZ (size b off len cap:Nat) (lo hi mx:Option Xl):Good (zjo size b off len cap lo hi mx):=by
 unfold zjo
 repeat' (first | with_reducible exact zae | with_reducible exact zaf _ | with_reducible exact zau _ | (with_reducible refine zab ?_ fun _=> ?_) | rw [forceN_eq] | rw [forceL_eq] | rw [forceI_eq] | rw [forceV_eq] | rw [forceB_eq] | rw [tset8_eq] | split)
theorem zqY (t:Xm) (x:Xl) (lo hi mx:Option Xl):Good (zfk P t x lo hi mx):=by
 unfold zfk
 repeat' (first | with_reducible exact zae | with_reducible exact zcu _ _ | (with_reducible refine zab ?_ fun _=> ?_) | rw [forceN_eq] | rw [forceL_eq] | rw [forceI_eq] | rw [forceV_eq] | rw [forceB_eq] | rw [tset8_eq] | split)
theorem zrN (t:Xm) (x:Xl) (lo hi mx:Option Xl):Good (zia P t x lo hi mx):=by
 unfold zia
 repeat' (first | with_reducible exact zae | with_reducible exact zoL _ _ _ _ _ _ _ | with_reducible exact zqZ _ _ _ _ _ _ _ _ | with_reducible exact zqY _ _ _ _ _ _ | (with_reducible refine zab ?_ fun _=> ?_) | rw [forceN_eq] | rw [forceL_eq] | rw [forceI_eq] | rw [forceV_eq] | rw [forceB_eq] | rw [tset8_eq] | split)
theorem znN (e:En) (y:Option Operand):Good (mopt e y):=by
 unfold mopt
 repeat' (first | with_reducible exact zae | with_reducible exact zaf _ | (with_reducible refine zab ?_ fun _=> ?_) | rw [forceN_eq] | rw [forceL_eq] | rw [forceI_eq] | rw [forceV_eq] | rw [forceB_eq] | rw [tset8_eq] | split)
theorem zeD (x:Operand) (e:En):Good (zdV x e):=by
 unfold zdV
 repeat' (first | with_reducible exact zbo _ | (with_reducible refine zab ?_ fun _=> ?_) | rw [forceN_eq] | rw [forceL_eq] | rw [forceI_eq] | rw [forceV_eq] | rw [forceB_eq] | rw [tset8_eq] | split)
theorem zjH (c a b:Operand) (e:En):Good (zfP c a b e):=by
 unfold zfP
 repeat' (first | with_reducible exact zae | with_reducible exact zbo _ | (with_reducible refine zab ?_ fun _=> ?_) | rw [forceN_eq] | rw [forceL_eq] | rw [forceI_eq] | rw [forceV_eq] | rw [forceB_eq] | rw [tset8_eq] | split)
theorem zij (t:Xm):Good (zeq P t):=by
 unfold zeq
 repeat' (first | with_reducible exact zae | with_reducible exact zaf _ | with_reducible exact zaM _ _ _ | (with_reducible refine zab ?_ fun _=> ?_) | rw [forceN_eq] | rw [forceL_eq] | rw [forceI_eq] | rw [forceV_eq] | rw [forceB_eq] | rw [tset8_eq] | split)
theorem zlb (t:Xm) (x:Operand) (e:En):Good (zgT t x e):=by
 unfold zgT
 repeat' (first | with_reducible exact zae | with_reducible exact zaf _ | with_reducible exact zaM _ _ _ | (with_reducible refine zab ?_ fun _=> ?_) | rw [forceN_eq] | rw [forceL_eq] | rw [forceI_eq] | rw [forceV_eq] | rw [forceB_eq] | rw [tset8_eq] | split)
theorem zhV (t:Xm) (parts:Array (Nat×Operand)) (e:En):Good (zej P t parts e):=by
 unfold zej
 repeat' (first | with_reducible exact zae | with_reducible exact zaf _ | with_reducible exact zaV _ _ | with_reducible exact zdi _ _ _ | (with_reducible refine zab ?_ fun _=> ?_) | rw [forceN_eq] | rw [forceL_eq] | rw [forceI_eq] | rw [forceV_eq] | rw [forceB_eq] | rw [tset8_eq] | split)
theorem zeT (t:Xm) (len:Nat) (parts:Array (Nat×Operand)) (e:En):Good (zbP P t len parts e):=by
 unfold zbP
 repeat' (first | with_reducible exact zae | with_reducible exact zaf _ | with_reducible exact zaV _ _ | with_reducible exact zaM _ _ _ | with_reducible exact zdi _ _ _ | (with_reducible refine zab ?_ fun _=> ?_) | rw [forceN_eq] | rw [forceL_eq] | rw [forceI_eq] | rw [forceV_eq] | rw [forceB_eq] | rw [tset8_eq] | split)
theorem zhG (a:Addr) (x:Option Bool) (y:Option Nat):Good (zkS a x y):=by
 unfold zkS
 repeat' (first | with_reducible exact zae | with_reducible exact zaf _ | with_reducible exact zbo _ | with_reducible exact zan _ _ | (with_reducible refine zab ?_ fun _=> ?_) | rw [forceN_eq] | rw [forceL_eq] | rw [forceI_eq] | rw [forceV_eq] | rw [forceB_eq] | rw [tset8_eq] | split)
theorem zjN (t:Xm) (a:Operand) (e:En):Good (zfz P t a e):=by
 unfold zfz
 repeat' (first | with_reducible exact zae | with_reducible exact zhG _ _ _ | (with_reducible refine zab ?_ fun _=> ?_) | rw [forceN_eq] | rw [forceL_eq] | rw [forceI_eq] | rw [forceV_eq] | rw [forceB_eq] | rw [tset8_eq] | split)
theorem zib (t:Xm) (a x:Operand) (e:En):Good (zep P t a x e):=by
 unfold zep
 repeat' (first | with_reducible exact zae | with_reducible exact zaf _ | with_reducible exact zaF _ _ | (with_reducible refine zab ?_ fun _=> ?_) | rw [forceN_eq] | rw [forceL_eq] | rw [forceI_eq] | rw [forceV_eq] | rw [forceB_eq] | rw [tset8_eq] | split)
theorem zgl (x:Operand) (e:En):Good (zdh x e):=by
 unfold zdh
 repeat' (first | with_reducible exact zae | with_reducible exact zaf _ | (with_reducible refine zab ?_ fun _=> ?_) | rw [forceN_eq] | rw [forceL_eq] | rw [forceI_eq] | rw [forceV_eq] | rw [forceB_eq] | rw [tset8_eq] | split)
theorem zlW (k:IntKind) (n:Int):Good (zlS k n):=by
 unfold zlS
 repeat' (first | with_reducible exact zaf _ | (with_reducible refine zab ?_ fun _=> ?_) | rw [forceN_eq] | rw [forceL_eq] | rw [forceI_eq] | rw [forceV_eq] | rw [forceB_eq] | rw [tset8_eq] | split)
theorem zxm (op:BinOp) (d:Option TypeDesc) (a b:Xl):Good (nilV op d a b):=by
 unfold nilV
 repeat' (first | with_reducible exact zae | with_reducible exact zaf _ | (with_reducible refine zab ?_ fun _=> ?_) | rw [forceN_eq] | rw [forceL_eq] | rw [forceI_eq] | rw [forceV_eq] | rw [forceB_eq] | rw [tset8_eq] | split)
theorem ziF (op:BinOp) (t:Xm) (x y:Operand) (a b:Xl):Good (binV P op t x y a b):=by
 unfold binV
 repeat' (first | with_reducible exact zcu _ _ | with_reducible exact zxm _ _ _ _ | (with_reducible refine zab ?_ fun _=> ?_) | rw [forceN_eq] | rw [forceL_eq] | rw [forceI_eq] | rw [forceV_eq] | rw [forceB_eq] | rw [tset8_eq] | split)
theorem zwq (c:Int->Int->Bool) (op:BinOp) (t:Xm) (x y:Operand) (a b:Xl):Good (cmpV P c op t x y a b):=by
 unfold cmpV
 repeat' (first | with_reducible exact zae | with_reducible exact zaf _ | with_reducible exact ziF _ _ _ _ _ _ _ | (with_reducible refine zab ?_ fun _=> ?_) | rw [forceN_eq] | rw [forceL_eq] | rw [forceI_eq] | rw [forceV_eq] | rw [forceB_eq] | rw [tset8_eq] | split)
theorem zrQ (c:Int->Int->Int) (op:BinOp) (t:Xm) (x y:Operand) (a b:Xl):Good (zgQ P c op t x y a b):=by
 unfold zgQ
 repeat' (first | with_reducible exact zae | with_reducible exact zaf _ | with_reducible exact zlW _ _ | with_reducible exact ziF _ _ _ _ _ _ _ | (with_reducible refine zab ?_ fun _=> ?_) | rw [forceN_eq] | rw [forceL_eq] | rw [forceI_eq] | rw [forceV_eq] | rw [forceB_eq] | rw [tset8_eq] | split)
theorem zwX (op:BinOp) (t:Xm) (x y:Operand) (a b:Xl):Good (binD P op t x y a b):=by
 unfold binD
 repeat' (first | with_reducible exact ziF _ _ _ _ _ _ _ | with_reducible exact zwq _ _ _ _ _ _ _ _ | with_reducible exact zrQ _ _ _ _ _ _ _ _ | (with_reducible refine zab ?_ fun _=> ?_) | rw [forceN_eq] | rw [forceL_eq] | rw [forceI_eq] | rw [forceV_eq] | rw [forceB_eq] | rw [tset8_eq] | split)
theorem zkM (op:BinOp) (t:Xm) (x y:Operand) (e:En):Good (zhl P op t x y e):=by
 unfold zhl
 repeat' (first | with_reducible exact zae | with_reducible exact zwX _ _ _ _ _ _ _ | (with_reducible refine zab ?_ fun _=> ?_) | rw [forceN_eq] | rw [forceL_eq] | rw [forceI_eq] | rw [forceV_eq] | rw [forceB_eq] | rw [tset8_eq] | split)
theorem zjU (op:UnOp) (x:Operand) (e:En):Good (zfs P op x e):=by
 unfold zfs
 repeat' (first | with_reducible exact zae | with_reducible exact zcu _ _ | (with_reducible refine zab ?_ fun _=> ?_) | rw [forceN_eq] | rw [forceL_eq] | rw [forceI_eq] | rw [forceV_eq] | rw [forceB_eq] | rw [tset8_eq] | split)
theorem zqX (src dst:Xm) (b:ByteArray):Good (zgu P src dst b):=by
 unfold zgu
 repeat' (first | with_reducible exact zae | with_reducible exact zaf _ | with_reducible exact zaM _ _ _ | with_reducible exact zcu _ _ | (with_reducible refine zab ?_ fun _=> ?_) | rw [forceN_eq] | rw [forceL_eq] | rw [forceI_eq] | rw [forceV_eq] | rw [forceB_eq] | rw [tset8_eq] | split)
theorem zlB (vs:Xj):Good (zpj vs):=by
 unfold zpj
 repeat' (first | with_reducible exact zae | with_reducible exact zaf _ | (with_reducible refine zab ?_ fun _=> ?_) | rw [forceN_eq] | rw [forceL_eq] | rw [forceI_eq] | rw [forceV_eq] | rw [forceB_eq] | rw [tset8_eq] | split)
theorem zrS (src dst:Xm) (a:Addr) (n c:Nat):Good (zhP P src dst a n c):=by
 unfold zhP
 repeat' (first | with_reducible exact zae | with_reducible exact zaf _ | with_reducible exact zau _ | with_reducible exact zan _ _ | with_reducible exact zlB _ | (with_reducible refine zab ?_ fun _=> ?_) | rw [forceN_eq] | rw [forceL_eq] | rw [forceI_eq] | rw [forceV_eq] | rw [forceB_eq] | rw [tset8_eq] | split)
theorem zre (src dst:Xm) (b off:Nat):Good (zgP P src dst b off):=by
 unfold zgP
 repeat' (first | with_reducible exact zae | with_reducible exact zaf _ | with_reducible exact zau _ | (with_reducible refine zab ?_ fun _=> ?_) | rw [forceN_eq] | rw [forceL_eq] | rw [forceI_eq] | rw [forceV_eq] | rw [forceB_eq] | rw [tset8_eq] | split)
theorem zgz (src dst:Xm) (x:Operand) (e:En):Good (zcM P src dst x e):=by
 unfold zcM
 repeat' (first | with_reducible exact zae | with_reducible exact zcu _ _ | with_reducible exact zqX _ _ _ _ | with_reducible exact zrS _ _ _ _ _ _ | with_reducible exact zre _ _ _ _ _ | (with_reducible refine zab ?_ fun _=> ?_) | rw [forceN_eq] | rw [forceL_eq] | rw [forceI_eq] | rw [forceV_eq] | rw [forceB_eq] | rw [tset8_eq] | split)
theorem zdY (t:Xm) (x:Operand) (e:En):Good (zbm P t x e):=by
 unfold zbm
 repeat' (first | with_reducible exact zae | with_reducible exact zaf _ | with_reducible exact zbo _ | (with_reducible refine zab ?_ fun _=> ?_) | rw [forceN_eq] | rw [forceL_eq] | rw [forceI_eq] | rw [forceV_eq] | rw [forceB_eq] | rw [tset8_eq] | split)
theorem zgh (fn:Fn) (a b:Array Operand) (e:En):Good (zcp fn a b e):=by
 unfold zcp
 repeat' (first | with_reducible exact zae | with_reducible exact zaf _ | with_reducible exact zaV _ _ | (with_reducible refine zab ?_ fun _=> ?_) | rw [forceN_eq] | rw [forceL_eq] | rw [forceI_eq] | rw [forceV_eq] | rw [forceB_eq] | rw [tset8_eq] | split)
theorem zgI (r:Option Operand):Good (zcQ r):=by
 unfold zcQ
 repeat' (first | with_reducible exact zae | with_reducible exact zaf _ | with_reducible exact zki _ | (with_reducible refine zab ?_ fun _=> ?_) | rw [forceN_eq] | rw [forceL_eq] | rw [forceI_eq] | rw [forceV_eq] | rw [forceB_eq] | rw [tset8_eq] | split)
theorem zfO (t:Xm) (l c:Operand) (e:En):Good (zcf P t l c e):=by
 unfold zcf
 repeat' (first | with_reducible exact zae | with_reducible exact zaf _ | with_reducible exact zaM _ _ _ | (with_reducible refine zab ?_ fun _=> ?_) | rw [forceN_eq] | rw [forceL_eq] | rw [forceI_eq] | rw [forceV_eq] | rw [forceB_eq] | rw [tset8_eq] | split)
theorem zim (t:Xm) (x:Operand) (lo hi mx:Option Operand) (e:En):Good (zes P t x lo hi mx e):=by
 unfold zes
 repeat' (first | with_reducible exact zbo _ | with_reducible exact zrN _ _ _ _ _ _ | with_reducible exact znN _ _ | (with_reducible refine zab ?_ fun _=> ?_) | rw [forceN_eq] | rw [forceL_eq] | rw [forceI_eq] | rw [forceV_eq] | rw [forceB_eq] | rw [tset8_eq] | split)
theorem zlh (a:Addr) (n:Nat):Good (zjr a n):=by
 unfold zjr
 repeat' (first | with_reducible exact zaf _ | with_reducible exact znm _ _ | (with_reducible refine zab ?_ fun _=> ?_) | rw [forceN_eq] | rw [forceL_eq] | rw [forceI_eq] | rw [forceV_eq] | rw [forceB_eq] | rw [tset8_eq] | split)
theorem zfC (t:Xm) (x:Operand) (f:Nat) (e:En):Good (zbZ P t x f e):=by
 unfold zbZ
 repeat' (first | with_reducible exact zae | with_reducible exact zlh _ _ | (with_reducible refine zab ?_ fun _=> ?_) | rw [forceN_eq] | rw [forceL_eq] | rw [forceI_eq] | rw [forceV_eq] | rw [forceB_eq] | rw [tset8_eq] | split)
theorem zhZ (t:Xm) (x:Operand) (f:Nat) (e:En):Good (zen P t x f e):=by
 unfold zen
 repeat' (first | with_reducible exact zae | with_reducible exact zkN _ _ _ _ | (with_reducible refine zab ?_ fun _=> ?_) | rw [forceN_eq] | rw [forceL_eq] | rw [forceI_eq] | rw [forceV_eq] | rw [forceB_eq] | rw [tset8_eq] | split)
theorem zfF (t:Xm) (x ix:Operand) (e:En):Good (zca P t x ix e):=by
 unfold zca
 repeat' (first | with_reducible exact zae | with_reducible exact zlh _ _ | (with_reducible refine zab ?_ fun _=> ?_) | rw [forceN_eq] | rw [forceL_eq] | rw [forceI_eq] | rw [forceV_eq] | rw [forceB_eq] | rw [tset8_eq] | split)
theorem ziE (t:Xm) (x ix:Operand) (e:En):Good (zer P t x ix e):=by
 unfold zer
 repeat' (first | with_reducible exact zae | with_reducible exact zkN _ _ _ _ | with_reducible exact zcu _ _ | (with_reducible refine zab ?_ fun _=> ?_) | rw [forceN_eq] | rw [forceL_eq] | rw [forceI_eq] | rw [forceV_eq] | rw [forceB_eq] | rw [tset8_eq] | split)
theorem zry (ok:Bool) (v:Xl) (b:Bool):Good (zgv ok v b):=by
 unfold zgv
 repeat' (first | with_reducible exact zae | with_reducible exact zaf _ | (with_reducible refine zab ?_ fun _=> ?_) | rw [forceN_eq] | rw [forceL_eq] | rw [forceI_eq] | rw [forceV_eq] | rw [forceB_eq] | rw [tset8_eq] | split)
theorem zrZ (t:Xm) (k:Xl) (ok:Bool) (o:Obj):Good (zlc P t k ok o):=by
 unfold zlc
 repeat' (first | with_reducible exact zae | with_reducible exact zry _ _ _ | (with_reducible refine zab ?_ fun _=> ?_) | rw [forceN_eq] | rw [forceL_eq] | rw [forceI_eq] | rw [forceV_eq] | rw [forceB_eq] | rw [tset8_eq] | split)
theorem zhM (t:Xm) (x ix:Operand) (ok:Bool) (e:En):Good (zdz P t x ix ok e):=by
 unfold zdz
 repeat' (first | with_reducible exact zae | with_reducible exact zcY _ | with_reducible exact zrZ _ _ _ _ _ | (with_reducible refine zab ?_ fun _=> ?_) | rw [forceN_eq] | rw [forceL_eq] | rw [forceI_eq] | rw [forceV_eq] | rw [forceB_eq] | rw [tset8_eq] | split)
theorem ztO (t:Xm) (r:Nat) (k v:Xl) (o:Obj):Good (zpb P t r k v o):=by
 unfold zpb
 repeat' (first | with_reducible exact zae | with_reducible exact zaf _ | with_reducible exact zcv _ _ | (with_reducible refine zab ?_ fun _=> ?_) | rw [forceN_eq] | rw [forceL_eq] | rw [forceI_eq] | rw [forceV_eq] | rw [forceB_eq] | rw [tset8_eq] | split)
theorem zct (t:Xm) (m k x:Operand) (e:En):Good (zbh P t m k x e):=by
 unfold zbh
 repeat' (first | with_reducible exact zae | with_reducible exact zcY _ | with_reducible exact ztO _ _ _ _ _ _ | (with_reducible refine zab ?_ fun _=> ?_) | rw [forceN_eq] | rw [forceL_eq] | rw [forceI_eq] | rw [forceV_eq] | rw [forceB_eq] | rw [tset8_eq] | split)
theorem zqF (t u:Xm) (ok:Bool) (v:Xl):Good (zjw P t u ok v):=by
 unfold zjw
 repeat' (first | with_reducible exact zae | with_reducible exact zaf _ | (with_reducible refine zab ?_ fun _=> ?_) | rw [forceN_eq] | rw [forceL_eq] | rw [forceI_eq] | rw [forceV_eq] | rw [forceB_eq] | rw [tset8_eq] | split)
theorem zeU (x:Operand) (t:Xm) (ok:Bool) (e:En):Good (zbM P x t ok e):=by
 unfold zbM
 repeat' (first | with_reducible exact zae | with_reducible exact zqF _ _ _ _ _ | (with_reducible refine zab ?_ fun _=> ?_) | rw [forceN_eq] | rw [forceL_eq] | rw [forceI_eq] | rw [forceV_eq] | rw [forceB_eq] | rw [tset8_eq] | split)
theorem zgL (t:Operand) (i:Nat) (e:En):Good (zcT t i e):=by
 unfold zcT
 repeat' (first | with_reducible exact zae | with_reducible exact zbo _ | (with_reducible refine zab ?_ fun _=> ?_) | rw [forceN_eq] | rw [forceL_eq] | rw [forceI_eq] | rw [forceV_eq] | rw [forceB_eq] | rw [tset8_eq] | split)
theorem ztF (t:Xm) (x:Xl):Good (zmj P t x):=by
 unfold zmj
 repeat' (first | with_reducible exact zae | with_reducible exact zaf _ | (with_reducible refine zab ?_ fun _=> ?_) | rw [forceN_eq] | rw [forceL_eq] | rw [forceI_eq] | rw [forceV_eq] | rw [forceB_eq] | rw [tset8_eq] | split)
theorem zuM (t:Xm) (x:Xl):Good (zkD P t x):=by
 unfold zkD
 repeat' (first | with_reducible exact zae | with_reducible exact zaf _ | with_reducible exact zau _ | (with_reducible refine zab ?_ fun _=> ?_) | rw [forceN_eq] | rw [forceL_eq] | rw [forceI_eq] | rw [forceV_eq] | rw [forceB_eq] | rw [tset8_eq] | split)
theorem zrm (t:Xm) (x:Xl):Good (zgx P t x):=by
 unfold zgx
 repeat' (first | with_reducible exact zae | with_reducible exact zaf _ | with_reducible exact zaF _ _ | (with_reducible refine zab ?_ fun _=> ?_) | rw [forceN_eq] | rw [forceL_eq] | rw [forceI_eq] | rw [forceV_eq] | rw [forceB_eq] | rw [tset8_eq] | split)
theorem zrX (t:Xm) (x y:Xl):Good (zhS P t x y):=by
 unfold zhS
 repeat' (first | with_reducible exact zae | with_reducible exact zaf _ | with_reducible exact zaF _ _ | with_reducible exact zeC _ _ _ | (with_reducible refine zab ?_ fun _=> ?_) | rw [forceN_eq] | rw [forceL_eq] | rw [forceI_eq] | rw [forceV_eq] | rw [forceB_eq] | rw [tset8_eq] | split)
theorem zvU (vs:Xj) (x:Sem Xl):Good (biPl P vs x):=by
 unfold biPl
 repeat' (first | with_reducible exact zae | with_reducible exact zcu _ _ | (with_reducible refine zab ?_ fun _=> ?_) | rw [forceN_eq] | rw [forceL_eq] | rw [forceI_eq] | rw [forceV_eq] | rw [forceB_eq] | rw [tset8_eq] | split)
theorem zjR (ty:Xm) (b:Builtin) (ts:List Xm) (vs:Xj):Good (zix P ty b ts vs):=by
 unfold zix
 repeat' (first | with_reducible exact zae | with_reducible exact zpC _ _ _ _ _ | with_reducible exact ztF _ _ _ | with_reducible exact zuM _ _ _ | with_reducible exact zrm _ _ _ | with_reducible exact zrX _ _ _ _ | with_reducible exact zvU _ _ _ | (with_reducible refine zab ?_ fun _=> ?_) | rw [forceN_eq] | rw [forceL_eq] | rw [forceI_eq] | rw [forceV_eq] | rw [forceB_eq] | rw [tset8_eq] | split)
theorem zgO (ty:Xm) (b:Builtin) (args:Array Operand) (ts:Array Xm) (e:En):Good (zdM P ty b args ts e):=by
 unfold zdM
 repeat' (first | with_reducible exact zaV _ _ | with_reducible exact zjR _ _ _ _ _ | (with_reducible refine zab ?_ fun _=> ?_) | rw [forceN_eq] | rw [forceL_eq] | rw [forceI_eq] | rw [forceV_eq] | rw [forceB_eq] | rw [tset8_eq] | split)
theorem zrT (fv:Xl) (vs:Xj):Good (zmm fv vs):=by
 unfold zmm
 repeat' (first | with_reducible exact zae | with_reducible exact zaf _ | (with_reducible refine zab ?_ fun _=> ?_) | rw [forceN_eq] | rw [forceL_eq] | rw [forceI_eq] | rw [forceV_eq] | rw [forceB_eq] | rw [tset8_eq] | split)
theorem ziK (f:Operand) (args:Array Operand) (e:En):Good (zgG f args e):=by
 unfold zgG
 repeat' (first | with_reducible exact zbo _ | with_reducible exact zaV _ _ | with_reducible exact zrT _ _ | (with_reducible refine zab ?_ fun _=> ?_) | rw [forceN_eq] | rw [forceL_eq] | rw [forceI_eq] | rw [forceV_eq] | rw [forceB_eq] | rw [tset8_eq] | split)
end Go.Proofs.YtgjolijncmkkhaaGreatDoor
namespace Go.Proofs.YtgjolijncmkkhaaGreatDoor
set_option linter.unusedVariables false
variable (P:Program)
theorem zgr {F:M Xl} (hF:Good F):Good (zdk fun s=>F.run s fun v s=>some (v,s)):=by
 have Aa:∀{γ:Type} (s:Hp) (J:Xl->Hp->Option γ) (a:Xl) (s':Hp),(∀{γ:Type} (J:Xl->Hp->Option γ),F.run s J=J a s')->
   (zdk fun s=>F.run s fun v s=>some (v,s)).run s J=J a s':=by
  intro γ s J a s' e
  show (match F.run s fun v s=>some (v,s)with | some (v,s)=>J v s | none=>none)=_
  rw [e fun v s=>some (v,s)]
 refine⟨fun {β} s K x h=> ?_⟩
 have hs:∃y,F.run s (fun v s=>some (v,s))=some y:=by
  cases hc:F.run s (fun v s=>some (v,s))with
  | some y=>exact⟨y,rfl⟩
  | none=>
   have:(zdk fun s=>F.run s fun v s=>some (v,s)).run s K=none:=by
    show (match F.run s fun v s=>some (v,s)with | some (v,s)=>K v s | none=>none)=_
    rw [hc]
   rw [this]at h
   cases h
 obtain⟨y,hy⟩:=hs
 obtain⟨a,s',r,q,e,f,g⟩:=hF.ok s _ y hy
 refine⟨a,s',r,q,fun J=>Aa s J a s' e,f,fun g0 hg=> ?_⟩
 obtain⟨g',hp,eg⟩:=g g0 hg
 exact⟨g',hp,fun J=>Aa g0 J a g' eg⟩
theorem zeN {v:Xl}:Good (zdk fun s=>some (v,s)):=zaf v
def zbg (E:zas):Prop:=∀f vs,Good (zdk (E f vs))
def zaX (X:Hook):Prop:=∀f vs F,X f vs=some F->Good (zdk F)
theorem ziy {E:zas} (hE:zbg E) (f:Operand) (args:Array Operand) (e:En):Good (zfn E f args e):=by
 unfold zfn
 refine zab (zbo _) fun fv=>zab (zaV _ _) fun vs=> ?_
 split
 ·rw [forceL_eq];exact hE _ _
 ·exact zae
theorem ziO {E:zas} (hE:zbg E) (r:Operand) (name:String) (args:Array Operand) (e:En):Good (zfi P E r name args e):=by
 unfold zfi
 split
 ·refine zab (zaV _ _) fun vs=> ?_
  split
  ·exact hE _ _
  ·exact zae
 ·exact zae
theorem ziB {E:zas} (hE:zbg E) (o:Oper) (e:En) (ds:List Deferred):Good ((disp P o).f E e ds):=by
 have pd:∀F:En->M Xl,(∀e,Good (F e))->Good ((zaN F).f E e ds):=fun F h=>zab (h e) fun v=>zaf _
 unfold disp
 split
 ·(apply pd;intro e;exact zeD _ _)
 ·(apply pd;intro e;exact zeD _ _)
 ·(apply pd;intro e;exact zjH _ _ _ _)
 ·(apply pd;intro e;exact zij _ _)
 ·(apply pd;intro e;exact zlb _ _ _)
 ·(apply pd;intro e;exact zhV _ _ _ _)
 ·(apply pd;intro e;exact zeT _ _ _ _ _)
 ·(apply pd;intro e;exact zjN _ _ _ _)
 ·(apply pd;intro e;exact zib _ _ _ _ _)
 ·(apply pd;intro e;exact zgl _ _)
 ·(apply pd;intro e;exact zkM _ _ _ _ _ _)
 ·(apply pd;intro e;exact zjU _ _ _ _)
 ·(apply pd;intro e;exact zgz _ _ _ _ _)
 ·(apply pd;intro e;exact zdY _ _ _ _)
 ·(apply pd;intro e;exact zgh _ _ _ _)
 ·(apply pd;intro e;exact zgI _)
 ·(apply pd;intro e;exact zfO _ _ _ _ _)
 ·(apply pd;intro e;exact zim _ _ _ _ _ _ _)
 ·(apply pd;intro e;exact zfC _ _ _ _ _)
 ·(apply pd;intro e;exact zhZ _ _ _ _ _)
 ·(apply pd;intro e;exact zfF _ _ _ _ _)
 ·(apply pd;intro e;exact ziE _ _ _ _ _)
 ·(apply pd;intro e;exact zhM _ _ _ _ _ _)
 ·(apply pd;intro e;exact zct _ _ _ _ _ _)
 ·(apply pd;intro e;exact zct _ _ _ _ _ _)
 ·(apply pd;intro e;exact zeU _ _ _ _ _)
 ·(apply pd;intro e;exact zgL _ _ _)
 ·(apply pd;intro e;exact zgO _ _ _ _ _ _)
 ·exact zab (ziy hE _ _ _) fun v=>zaf _
 ·exact zab (ziO P hE _ _ _ _) fun v=>zaf _
 ·exact zab (ziK _ _ _) fun v=>zaf _
 ·exact zae
theorem zdJ (N:Nat) (t:TT) (d:Option Tmp) (v:Xl):Good (putK N t d v):=by
 unfold putK
 split
 ·exact zaf _
 ·split
  ·rw [tset8_eq];exact zaf _
  ·exact zae
theorem zfr {E:zas} (hE:zbg E) (N:Nat) (ops:Array Oper) (o:Oper) (a:Ac):Good (opK P E N ops o a):=by
 unfold opK
 obtain⟨t,ds⟩:=a
 simp only []
 split
 ·exact zae
 ·exact zab (zdJ _ _ _ _) fun t=>zaf _
 ·exact zab (ziB P hE o _ ds) fun x=>zab (zdJ _ _ _ _) fun t=>zaf _
theorem zgf {E:zas} (hE:zbg E) (N:Nat) (ops:Array Oper):∀(l:List Oper) (a:Ac),Good (opsK P E N ops l a)
 | [],a=>zaf a
 | o::l,a=>zab (zfr P hE N ops o a) fun a=>zgf hE N ops l a
theorem zjy {α γ:Type} (F:M α) (s:Hp) (J:α×Nat×Nat->Hp->Option γ) :
  (mtrk F).run s J=F.run ⟨s.h,s.n,0,0⟩ fun a s'=>J (a,s'.rd,s'.wr) ⟨s'.h,s'.n,s.rd ||| s'.rd,s.wr ||| s'.wr⟩:=by
 obtain⟨h,n,rd,wr⟩:=s
 show (F.run ⟨h,n,0,0⟩ fun a s=>_)=_
 congr 1
 funext a s'
 obtain⟨h',n',r,q⟩:=s'
 exact (forceN_eq _ _).trans (forceN_eq _ _)
theorem znc {α:Type} {F:M α} (hF:Good F):Good (mtrk F):=by
 refine⟨fun {β} s K x h=> ?_⟩
 rw [zjy]at h
 obtain⟨a,s',r,q,e,f,g⟩:=hF.ok _ _ x h
 have hr:s'.rd=r:=by rw [f.rd];simp
 have hq:s'.wr=q:=by rw [f.wr];simp
 refine⟨(a,r,q),⟨s'.h,s'.n,s.rd ||| r,s.wr ||| q⟩,r,q,fun J=> ?_,⟨f.n,rfl,rfl,fun id h=>f.off id h,fun id h1 h2=>f.new id h1 h2⟩,fun g0 hg=> ?_⟩
 ·rw [zjy,e,hr,hq]
 ·obtain⟨g',hp,eg⟩:=g ⟨g0.h,g0.n,0,0⟩ ⟨hg.n,fun id h=>hg.on id h⟩
  have Aa:g'.rd=r:=by rw [hp.rd];simp
  have Ba:g'.wr=q:=by rw [hp.wr];simp
  refine⟨⟨g'.h,g'.n,g0.rd ||| r,g0.wr ||| q⟩,⟨hp.n,rfl,rfl,fun id h=>hp.on id h,fun id h=>hp.off id h⟩,fun J=> ?_⟩
  rw [zjy,eg,Aa,Ba]
theorem zhp {E:zas} (hE:zbg E) (N:Nat) (ops:Array Oper) (ds:List Deferred):∀(l:List Oper) (bef:Xh) (k:Nat) (acc:List Trk) (t:TT),Good (zfR P E N ops ds l bef k acc t)
 | [],bef,k,acc,t=>zaf t
 | o::l,bef,k,acc,t=>by
  unfold zfR
  refine zab (znc (zfr P hE N ops o _)) fun x=> ?_
  obtain⟨⟨t',Aa⟩,r,q⟩:=x
  simp only []
  split
  ·rw [forceN_eq];exact zhp hE N ops ds l _ _ _ _
  ·exact zae
theorem zsi {Ev:EvT} {E:zas} (hv:∀c N a,Good (Ev c N a)) (hE:zbg E) (c:Code) (N:Nat) (a:Ac):Good (zqI P Ev E c N a):=by
 have Aa:∀b N x,Good (zdS Ev b N x):=by
  intro b N x
  unfold zdS
  split
  ·exact hv _ _ _
  ·exact zaf _
 show Good ((stpV P c).f Ev E N a)
 unfold stpV
 split
 ·exact zaf _
 ·exact zaf _
 ·exact zab (zgf P hE _ _ _ _) fun _=>zaf _
 ·show Good (ziL P E _ N a)
  unfold ziL
  split
  ·exact zab (zhp P hE _ _ _ _ _ _ _ _) fun _=>zaf _
  ·exact zae
 ·exact zab (hv _ _ _) fun _=>Aa _ _ _
 ·show Good (ziA Ev _ _ _ N a)
  unfold ziA
  split
  ·exact hv _ _ _
  ·exact hv _ _ _
  ·exact zae
 ·refine zab (hv _ _ _) fun _=> ?_
  unfold zmG
  split
  ·split<;>exact zaf _
  ·exact zaf _
 ·exact zab (hv _ _ _) fun _=>Aa _ _ _
 ·refine zab (hv _ _ _) fun _=> ?_
  unfold zmQ
  split
  ·exact zae
  ·exact zaf _
 ·exact zaf _
 ·exact zaf _
 ·exact zae
theorem zaZ (t:TT):∀l,Good (resK P t l)
 | []=>zaf _
 | .tmp k::l=>by
  unfold resK
  split
  ·exact zab (zaZ t l) fun _=>zaf _
  ·exact zae
 | .cell a ty::l=>by
  unfold resK
  split
  ·exact zab (zhG _ _ _) fun _=>zab (zaZ t l) fun _=>zaf _
  ·exact zae
theorem zcx:∀(l:Xj) (t:TT) (k:Nat),Good (zeE t k l)
 | [],t,k=>by unfold zeE;exact zaf _
 | v::l,t,k=>by
  unfold zeE
  refine zab ?_ fun t=> ?_
  ·rw [tset8_eq];exact zaf _
  ·rw [forceN_eq];exact zcx l _ _
theorem zcq {D:Hook} {E:zas} (hD:zaX D) (hE:zbg E):∀ds,Good (zgp D E ds)
 | []=>zaf _
 | d::ds=>by
  refine zab ?_ fun _=>zcq hD hE ds
  unfold defK
  split
  ·rw [forceL_eq]
   split
   ·rename_i F hF
    exact hD _ _ _ hF
   ·exact hE _ _
  ·exact zae
theorem zhK {X D:Hook} {Ev:EvT} {E:zas} (hX:zaX X) (hD:zaX D) (hv:∀c N a,Good (Ev c N a)) (hE:zbg E):zbg (zdQ P X D Ev E):=by
 intro f vs
 have h1:∀fn,Good (zfD P D Ev E fn vs):=by
  intro fn
  unfold zfD
  split
  ·refine zab (zcx _ _ _) fun t=>zab (hv _ _ _) fun x=> ?_
   unfold zic
   split
   ·exact zab (zcq hD hE _) fun _=>zab (zaZ P _ _) fun _=>zaf _
   ·exact zab (zcq hD hE _) fun _=>zab (zaZ P _ _) fun _=>zaf _
   ·exact zae
  ·exact zae
 cases hx:X f vs with
 | some F=>
  have:zdQ P X D Ev E f vs=F:=by funext s;unfold zdQ;rw [hx]
  rw [this];exact hX _ _ _ hx
 | none=>
  cases hf:P.funcs[f]? with
  | none=>
   have:zdQ P X D Ev E f vs=fun _=>none:=by funext s;unfold zdQ;rw [hx,hf]
   rw [this];exact zae
  | some fn=>
   have:zdQ P X D Ev E f vs=fun s=>(zfD P D Ev E fn vs).run s fun v s=>some (v,s):=by funext s;unfold zdQ;rw [hx,hf]
   rw [this];exact zgr (h1 fn)
theorem zee {X:Hook} {Ev:EvT} (hv:∀c N a,Good (Ev c N a)):zbg (zdn P X Ev):=by
 intro f vs
 have h1:∀fn,Good (zfQ P Ev fn vs):=by
  intro fn
  unfold zfQ
  split
  ·refine zab (zcx _ _ _) fun t=>zab (hv _ _ _) fun x=> ?_
   unfold zlZ
   split
   ·exact zab (zaZ P _ _) fun _=>zaf _
   ·exact zab (zaZ P _ _) fun _=>zaf _
   ·exact zae
  ·exact zae
 cases hx:X f vs with
 | some F=>
  have:zdn P X Ev f vs=fun _=>none:=by funext s;unfold zdn;rw [hx]
  rw [this];exact zae
 | none=>
  cases hf:P.funcs[f]? with
  | none=>
   have:zdn P X Ev f vs=fun _=>none:=by funext s;unfold zdn;rw [hx,hf]
   rw [this];exact zae
  | some fn=>
   have:zdn P X Ev f vs=fun s=>(zfQ P Ev fn vs).run s fun v s=>some (v,s):=by funext s;unfold zdn;rw [hx,hf]
   rw [this];exact zgr (h1 fn)
theorem zcI {X D:Hook} (hX:zaX X) (hD:zaX D):∀n c N a,Good (ev P X D n c N a)
 | 0,c,N,a=>zae
 | n+1,c,N,a=>zsi P (zcI hX hD n) (zhK P hX hD (zcI hX hD n) (zee P (zcI hX hD n))) c N a
theorem zwv {X D:Hook} (hX:zaX X) (hD:zaX D) (n:Nat):zbg (call P X D n):=
 zhK P hX hD (zcI P hX hD n) (zee P (zcI P hX hD n))
end Go.Proofs.YtgjolijncmkkhaaGreatDoor
namespace Go.Proofs.YtgjolijncmkkhaaGreatDoor
open Go.RowKit
set_option linter.unusedVariables false
variable {P:Program}
theorem zcB (b o i:Nat):(⟨b,o,none⟩:Addr).add i=⟨b,o+i,none⟩:=by
 unfold Addr.add
 split
 ·rename_i h;subst h;rfl
 ·rfl
theorem zfj {w:Xk} {b:Nat} {c:Array Xl} {t:Xm} {fz:Nat×Nat} (h:w.heap[b]? = some (.cells c t fz)) (o:Nat):w.cell? ⟨b,o,none⟩=c[o]? :=by
 simp [World.cell?,h]
theorem zqr {w:Xk} {b:Nat} {c:Array Xl} {t:Xm} {fz:Nat×Nat} (h:w.heap[b]? = some (.cells c t fz)) (o:Nat) (cs:Xj)
  (hc:∀(j:Nat) v,cs[j]? = some v->c[o+j]? = some v):(loadCells ⟨b,o,none⟩ cs.length).run P w=.ok cs.toArray w:=
 run_loadCells_list w _ cs fun j v hj=>by rw [zcB,zfj h];exact hc j v hj
structure Tw (w w':Xk) (b:Nat):Prop where
 os:w'.os=w.os
 tape:w'.tape=w.tape
 output:w'.output=w.output
 size:w'.heap.size=w.heap.size
 other:∀x,x≠b->w'.heap[x]? = w.heap[x]?
theorem Tw.rfl {w:Xk} {b:Nat}:Tw w w b:=⟨Eq.refl _,Eq.refl _,Eq.refl _,Eq.refl _,fun _ _=>Eq.refl _⟩
theorem Tw.trans {a b c:Xk} {k:Nat} (h:Tw a b k) (h':Tw b c k):Tw a c k:=
 ⟨h'.os.trans h.os,h'.tape.trans h.tape,h'.output.trans h.output,h'.size.trans h.size,fun x hx=>(h'.other x hx).trans (h.other x hx)⟩
theorem zBH {w:Xk} {b o:Nat} {c:Array Xl} {t:Xm} {fz:Nat×Nat} (h:w.heap[b]? = some (.cells c t fz)) (v:Xl) :
  Tw w (w.setCell ⟨b,o,none⟩ v) b∧(w.setCell ⟨b,o,none⟩ v).heap[b]? = some (.cells (c.setIfInBounds o v) t fz):=by
 refine⟨⟨rfl,rfl,rfl,by simp [World.setCell],fun x hx=> ?_⟩,?_⟩
 ·simp only [World.setCell,Array.getElem?_modify]
  rw [if_neg (fun e=>hx e.symm)]
 ·simp [World.setCell,Array.getElem?_modify,h]
theorem zgo {b o:Nat} {t:Xm} {fz:Nat×Nat}:∀(vs:Xj) (i:Nat) (w:Xk) (c:Array Xl),w.heap[b]? = some (.cells c t fz)->o+i+vs.length<=c.size->
  (∀k,k<c.size->¬ (fz.1<=k∧k<fz.2))->(∀v∈vs,v.oneCell'=true)->
  ∃w' c',(storeCells ⟨b,o,none⟩ vs i).run P w=.ok () w'∧w'.heap[b]? = some (.cells c' t fz)∧c'.size=c.size∧Tw w w' b∧
   ∀k,c'[k]? = if o+i<=k∧k<o+i+vs.length then vs[k-(o+i)]? else c[k]?
 | [],i,w,c,h,hl,hf,h1=>⟨w,c,rfl,h,rfl,.rfl,fun k=>by rw [if_neg (by simp)]⟩
 | v::vs,i,w,c,h,hl,hf,h1=>by
  simp only [List.length_cons]at hl
  obtain⟨tw,hb⟩:=zBH (o:=o+i) h v
  have Ba:(c.setIfInBounds (o+i) v).size=c.size:=by simp
  obtain⟨w',c',hr,Ca,Fa,Ga,hk⟩:=zgo (o:=o) vs (i+1) _ _ hb (by rw [Ba];omega) (by rw [Ba];exact hf) (fun u hu=>h1 u (List.mem_cons_of_mem _ hu))
  refine⟨w',c',?_,Ca,Fa.trans Ba,tw.trans Ga,fun k=> ?_⟩
  ·have Aa:w.cell? ⟨b,o+i,none⟩=some c[o+i]:=by rw [zfj h,Array.getElem?_eq_getElem (by omega)]
   have Da:w.frozen? ⟨b,o+i,none⟩=false:=by
    have:=hf (o+i) (by omega)
    simp only [World.frozen?,h]
    simpa using this
   simp only [storeCells,Sem.run_bind,zcB,run_store P w _ v _ (h1 v (List.mem_cons_self)),Aa,Da,Bool.false_eq_true,if_false]
   exact hr
  ·rw [hk k]
   by_cases h2:o+i<=k∧k<o+i+(v::vs).length
   ·rw [if_pos h2]
    simp only [List.length_cons]at h2
    by_cases h3:k=o+i
    ·rw [if_neg (by omega),Array.getElem?_setIfInBounds,if_pos h3.symm]
     subst h3
     rw [if_pos (by omega)]
     simp
    ·rw [if_pos (by omega),show k-(o+i)=(k-(o+(i+1)))+1 by omega]
     rfl
   ·rw [if_neg h2]
    simp only [List.length_cons]at h2
    rw [if_neg (by omega),Array.getElem?_setIfInBounds,if_neg (by omega)]
section
variable {w0 w w':Xk} {B:Nat} {ρ ρ':Rn} {h h':Hf}
theorem ObjR.grow (hρ:ρ.le ρ') {id:Nat} {o:Obj} (ho:ObjR ρ w id o):ObjR ρ' w id o:=by
 cases o with
 | cells cs el fl=>
  obtain⟨p,h1,h2,h3,h4,c',Aa,fz,h5,h6,h7,h8⟩:=ho
  exact⟨p,hρ _ _ h1,h2,h3,h4,c',Aa,fz,h5,h6,h7,fun k v hk=>let ⟨v',hv,hl⟩:=h8 k v hk;⟨v',hv,hl.grow hρ⟩⟩
 | map es c=>
  obtain⟨p,h1,h2⟩:=ho
  exact⟨p,hρ _ _ h1,h2⟩
 | _=>exact ho
theorem ObjR.place {id:Nat} {o:Obj} (ho:ObjR ρ w id o):∃p,ρ id=some p∧p.blk<w.heap.size:=by
 have lt:∀{b:Nat} {x:Obj},w.heap[b]? = some x->b<w.heap.size:=by
  intro b x hx
  rcases Nat.lt_or_ge b w.heap.size with h | h
  ·exact h
  ·rw [Array.getElem?_eq_none h]at hx;cases hx
 cases o with
 | cells cs el fl=>
  obtain⟨p,h1,_,_,_,c',Aa,fz,h5,_⟩:=ho
  exact⟨p,h1,lt h5⟩
 | map es c=>
  obtain⟨p,h1,h2⟩:=ho
  exact⟨p,h1,lt h2⟩
 | _=>exact ho.elim
theorem ObjR.same {id:Nat} {o:Obj} (ho:ObjR ρ w id o) (hw:∀p,ρ id=some p->w'.heap[p.blk]? = w.heap[p.blk]?):ObjR ρ w' id o:=by
 cases o with
 | cells cs el fl=>
  obtain⟨p,h1,h2,h3,h4,c',Aa,fz,h5,h6⟩:=ho
  exact⟨p,h1,h2,h3,h4,c',Aa,fz,(hw p h1).trans h5,h6⟩
 | map es c=>
  obtain⟨p,h1,h2⟩:=ho
  exact⟨p,h1,(hw p h1).trans h2⟩
 | _=>exact ho
theorem HR.drop (H:HR w0 B ρ h w) (hh:∀id o,h' id=some o->h id=some o):HR w0 B ρ h' w:=
 ⟨H.below,H.base,fun id o e=>H.obj id o (hh _ _ e),fun i j oi oj pi pj Aa hi hj=>H.sep i j oi oj pi pj Aa (hh _ _ hi) (hh _ _ hj),fun id o p e=>H.own id o p (hh _ _ e),H.glo⟩
theorem HR.congr (H:HR w0 B ρ h w) (hh:∀id,h' id=h id):HR w0 B ρ h' w:=H.drop fun id o e=>(hh id).symm.trans e
theorem HR.drew (H:HR w0 B ρ h w) (n:Nat):HR w0 B ρ h { w with drawn:=n }:=
 ⟨⟨H.below.os,H.below.tape,H.below.output,H.below.size,H.below.block⟩,H.base,fun id o e=>(H.obj id o e).same fun _ _=>rfl,H.sep,H.own,H.glo⟩
def Rn.put (ρ:Rn) (n:Nat) (p:Pl):Rn:=fun i=>if i=n then some p else ρ i
theorem Rn.put_le {n:Nat} (hn:ρ n=none) (p:Pl):ρ.le (ρ.put n p):=fun i q e=>by
 unfold Rn.put
 by_cases hi:i=n
 ·subst hi;rw [hn]at e;cases e
 ·rw [if_neg hi];exact e
def Hf.put (h:Hf) (n:Nat) (o:Option Obj):Hf:=fun i=>if n=i then o else h i
theorem HR.new (H:HR w0 B ρ h w) {n:Nat} (hn:ρ n=none) (h16:16<=n) {o:Obj} {p:Pl} (hp:B<=p.blk) (hfar:∀id o p',h id=some o->ρ id=some p'->p'.blk≠p.blk)
  (hb:Below B w0 w') (hw:∀id o p',h id=some o->ρ id=some p'->w'.heap[p'.blk]? = w.heap[p'.blk]?) (ho:ObjR (ρ.put n p) w' n o):HR w0 B (ρ.put n p) (h.put n (some o)) w':=by
 have Da:=Rn.put_le hn p
 have Ha:∀id o,h id=some o->id≠n:=fun id o e Aa=>by
  obtain⟨q,hq,_⟩:=(H.obj id o e).place
  rw [Aa,hn]at hq;cases hq
 have Ba:∀id,id≠n->ρ.put n p id=ρ id:=fun id Aa=>if_neg Aa
 refine⟨hb,H.base,fun id o' e=> ?_,fun i j oi oj pi pj Fa hi hj ei ej=> ?_,fun id o' p' e Ca ep=> ?_,fun g hg=> ?_⟩
 ·unfold Hf.put at e
  by_cases Aa:n=id
  ·rw [if_pos Aa]at e
   cases e
   rw [<-Aa];exact ho
  ·rw [if_neg Aa]at e
   exact ((H.obj id o' e).same fun p' Ga=>hw id o' p' e Ga).grow Da
 ·unfold Hf.put at hi hj
  by_cases h1:n=i
  ·by_cases h2:n=j
   ·omega
   ·rw [if_neg h2]at hj
    rw [Ba j (fun e=>h2 e.symm)]at ej
    have:ρ.put n p i=some p:=by rw [<-h1];exact if_pos rfl
    rw [this]at ei;cases ei
    exact fun e=>hfar j oj pj hj ej e.symm
  ·rw [if_neg h1]at hi
   rw [Ba i (fun e=>h1 e.symm)]at ei
   by_cases h2:n=j
   ·have:ρ.put n p j=some p:=by rw [<-h2];exact if_pos rfl
    rw [this]at ej;cases ej
    exact hfar i oi pi hi ei
   ·rw [if_neg h2]at hj
    rw [Ba j (fun e=>h2 e.symm)]at ej
    exact H.sep i j oi oj pi pj Fa hi hj ei ej
 ·unfold Hf.put at e
  by_cases Aa:n=id
  ·have:ρ.put n p id=some p:=by rw [<-Aa];exact if_pos rfl
   rw [this]at ep;cases ep
   exact hp
  ·rw [if_neg Aa]at e
   rw [Ba id (fun e=>Aa e.symm)]at ep
   exact H.own id o' p' e Ca ep
 ·obtain⟨q,h1,h2⟩:=H.glo g hg
  exact⟨q,Da _ _ h1,h2⟩
theorem HR.set (H:HR w0 B ρ h w) {n:Nat} {o o':Obj} {p:Pl} (hn:h n=some o) (hp:ρ n=some p) (hb:Below B w0 w')
  (hw:∀x,x≠p.blk->w'.heap[x]? = w.heap[x]?) (ho:ObjR ρ w' n o'):HR w0 B ρ (h.put n (some o')) w':=by
 refine⟨hb,H.base,fun id x e=> ?_,fun i j oi oj pi pj Ca hi hj ei ej=> ?_,fun id x p' e Aa ep=> ?_,H.glo⟩
 ·unfold Hf.put at e
  by_cases hid:n=id
  ·rw [if_pos hid]at e;cases e;rw [<-hid];exact ho
  ·rw [if_neg hid]at e
   exact (H.obj id x e).same fun p' Da=>hw _ (fun e'=>H.sep n id o x p p' hid hn e hp Da e'.symm)
 ·have Ba:∀i oi,(h.put n (some o')) i=some oi->∃x,h i=some x:=by
   intro i oi e
   unfold Hf.put at e
   by_cases hid:n=i
   ·exact⟨o,hid ▸ hn⟩
   ·rw [if_neg hid]at e;exact⟨oi,e⟩
  obtain⟨x,hx⟩:=Ba i oi hi
  obtain⟨y,hy⟩:=Ba j oj hj
  exact H.sep i j x y pi pj Ca hx hy ei ej
 ·unfold Hf.put at e
  by_cases hid:n=id
  ·exact H.own id o p' (hid ▸ hn) Aa ep
  ·rw [if_neg hid]at e;exact H.own id x p' e Aa ep
end
end Go.Proofs.YtgjolijncmkkhaaGreatDoor
namespace Go.Proofs.YtgjolijncmkkhaaGreatDoor
open Go.RowKit
set_option linter.unusedVariables false
structure Tells {α:Type} (F:M α) (s:Hp) (a:α) (s':Hp):Prop where
 eq:∀{β:Type} (J:α->Hp->Option β),F.run s J=J a s'
theorem Tells.pair {α:Type} {F:M α} {s s':Hp} {a:α} (h:Tells F s a s'):F.run s (fun a s=>some (a,s))=some (a,s'):=h.eq _
theorem zad {α:Type} {a b:α} {s s':Hp} (h:Tells (zak a) s b s'):b=a∧s'=s:=by
 have e:some (a,s)=some (b,s'):=h.pair
 cases e
 exact⟨rfl,rfl⟩
theorem zag {α:Type} {b:α} {s s':Hp} (h:Tells zah s b s'):False:=by
 have e:none=some (b,s'):=h.pair
 cases e
theorem zac {α γ:Type} {F:M α} {G:α->M γ} (hF:Good F) {s s':Hp} {b:γ} (h:Tells (zaj F G) s b s'):∃a s1,Tells F s a s1∧Tells (G a) s1 b s'∧s.n<=s1.n:=by
 obtain⟨a,s1,r,q,e,f,_⟩:=hF.ok s _ _ h.pair
 exact⟨a,s1,⟨fun J=>e J⟩,⟨fun J=>(e fun a s=>(G a).run s J).symm.trans (h.eq J)⟩,f.n⟩
theorem Tells.le {α:Type} {F:M α} (hF:Good F) {s s':Hp} {a:α} (h:Tells F s a s'):s.n<=s'.n:=by
 obtain⟨b,s1,r,q,e,f,_⟩:=hF.ok s _ _ h.pair
 have e2:some (b,s1)=some (a,s'):=(e fun a s=>some (a,s)).symm.trans h.pair
 cases e2
 exact f.n
theorem zgn {b:Nat} {s s':Hp} {o:Obj} (h:Tells (mget b) s o s'):s.f b=some o∧s'.f=s.f∧s'.n=s.n:=by
 have e:=h.pair
 rw [zsM]at e
 cases hb:s.f b with
 | none=>rw [hb]at e;cases e
 | some x=>rw [hb]at e;cases e;exact⟨rfl,rfl,rfl⟩
theorem zeK {b:Nat} {o:Option Obj} {s s':Hp} {u:Unit} (h:Tells (mset b o) s u s'):16<=b∧s'.f=s.f.put b o∧s'.n=s.n:=by
 have e:=h.pair
 rw [ztd]at e
 split at e
 ·rename_i hc
  cases e
  refine⟨hc.1,?_,rfl⟩
  funext id
  rw [zeH _ _ _ _ hc.2];rfl
 ·cases e
theorem zol {o:Obj} {s s':Hp} {id:Nat} (h:Tells (mnew o) s id s'):id=s.n∧16<=s.n∧s'.f=s.f.put s.n (some o)∧s'.n=s.n+1:=by
 have e:=h.pair
 rw [zto]at e
 split at e
 ·rename_i hc
  cases e
  refine⟨rfl,hc.1,?_,rfl⟩
  funext id
  rw [zeH _ _ _ _ hc.2];rfl
 ·cases e
theorem zdL {off n:Nat} {l vs:Xj} {s s':Hp} (h:Tells (cutV off n l) s vs s'):off+n<=l.length∧vs=(l.drop off).take n∧s'=s:=by
 unfold cutV at h
 split at h
 ·rename_i hb
  rw [forceL_eq]at h
  obtain⟨h1,h2⟩:=zad h
  exact⟨Nat.le_of_ble_eq_true hb,h1,h2⟩
 ·exact (zag h).elim
theorem zjE {off:Nat} {vs l k:Xj} {s s':Hp} (h:Tells (zjB off vs l) s k s'):off+vs.length<=l.length∧k=l.take off++(vs++l.drop (off+vs.length))∧s'=s:=by
 unfold zjB at h
 split at h
 ·rename_i hb
  rw [forceL_eq]at h
  obtain⟨h1,h2⟩:=zad h
  exact⟨Nat.le_of_ble_eq_true hb,h1,h2⟩
 ·exact (zag h).elim
theorem zaW {b:Nat} {s s':Hp} {c:Xj×Xm×(Nat×Nat)} (h:Tells (zbC b) s c s'):s.f b=some (.cells ⟨c.1⟩ c.2.1 c.2.2)∧s'.f=s.f∧s'.n=s.n:=by
 obtain⟨o,s1,h1,h2,_⟩:=zac (zcY b) h
 obtain⟨e1,e2,e3⟩:=zgn h1
 unfold zlm at h2
 split at h2
 ·obtain⟨rfl,rfl⟩:=zad h2
  exact⟨e1,e2,e3⟩
 ·exact (zag h2).elim
theorem zaY {a:Addr} {n:Nat} {vs:Xj} {s s':Hp} (h:Tells (zbx a n) s vs s') :
  ∃b off l t fl,a=⟨b,off,none⟩∧s.f b=some (.cells ⟨l⟩ t fl)∧off+n<=l.length∧vs=(l.drop off).take n∧s'.f=s.f∧s'.n=s.n:=by
 unfold zbx at h
 split at h
 ·rename_i b off
  obtain⟨c,s1,h1,h2,_⟩:=zac (zau b) h
  obtain⟨e1,e2,e3⟩:=zaW h1
  obtain⟨f1,f2,rfl⟩:=zdL h2
  exact⟨b,off,c.1,c.2.1,c.2.2,rfl,e1,f1,f2,e2,e3⟩
 ·exact (zag h).elim
theorem zjP {a:Addr} {vs:Xj} {u:Unit} {s s':Hp} (h:Tells (zbO a vs) s u s') :
  ∃b off l t fl,a=⟨b,off,none⟩∧16<=b∧s.f b=some (.cells ⟨l⟩ t fl)∧off+vs.length<=l.length∧vs.all oneV=true∧
   s'.f=s.f.put b (some (.cells ⟨l.take off++(vs++l.drop (off+vs.length))⟩ t fl))∧s'.n=s.n:=by
 unfold zbO at h
 split at h
 ·rename_i b off
  obtain⟨c,s1,h1,h2,_⟩:=zac (zau b) h
  obtain⟨e1,e2,e3⟩:=zaW h1
  split at h2
  ·rename_i Aa
   obtain⟨l,s2,h3,h4,_⟩:=zac (zff _ _ _) h2
   obtain⟨f1,rfl,rfl⟩:=zjE h3
   obtain⟨g1,g2,g3⟩:=zeK h4
   exact⟨b,off,c.1,c.2.1,c.2.2,rfl,g1,e1,f1,Aa,by rw [g2,e2],by rw [g3,e3]⟩
  ·exact (zag h2).elim
 ·exact (zag h).elim
theorem zdE {t:Xm} {l:Xj} {fl:Nat×Nat} {id:Nat} {s s':Hp} (h:Tells (mrow t l fl) s id s') :
  l.all oneV=true∧id=s.n∧16<=s.n∧s'.f=s.f.put s.n (some (.cells ⟨l⟩ t fl))∧s'.n=s.n+1:=by
 unfold mrow at h
 split at h
 ·rename_i h1
  obtain⟨e1,e2,e3,e4⟩:=zol h
  exact⟨h1,e1,e2,e3,e4⟩
 ·exact (zag h).elim
theorem zcn {x:Option Xl} {v:Xl} {s s':Hp} (h:Tells (maev x) s v s'):x=some v∧s'=s:=by
 unfold maev at h
 split at h
 ·obtain⟨rfl,rfl⟩:=zad h;exact⟨rfl,rfl⟩
 ·exact (zag h).elim
variable {P:Program}
def Free (ρ:Rn) (n m:Nat):Prop:=∀id,n<=id->id<m->ρ id=none
structure Ext (ρ ρ':Rn) (n m:Nat):Prop where
 le:ρ.le ρ'
 out:∀id,¬ (n<=id∧id<m)->ρ' id=ρ id
theorem Ext.rfl {ρ:Rn} {n m:Nat}:Ext ρ ρ n m:=⟨.rfl,fun _ _=>Eq.refl _⟩
theorem Ext.trans {a b c:Rn} {n m k:Nat} (h:Ext a b n m) (h':Ext b c m k) (hn:n<=m) (hm:m<=k):Ext a c n k:=
 ⟨h.le.trans h'.le,fun id Aa=>(h'.out id (by omega)).trans (h.out id (by omega))⟩
theorem Ext.put {ρ:Rn} {n:Nat} (hn:ρ n=none) (p:Pl):Ext ρ (ρ.put n p) n (n+1):=⟨Rn.put_le hn p,fun id Aa=>if_neg (by omega)⟩
theorem Free.left {ρ:Rn} {n m k:Nat} (h:Free ρ n k) (hm:m<=k):Free ρ n m:=fun id h1 h2=>h id h1 (by omega)
theorem Free.right {ρ ρ':Rn} {n m k:Nat} (h:Free ρ n k) (hn:n<=m) (e:Ext ρ ρ' n m):Free ρ' m k:=fun id h1 h2=>by
 rw [e.out id (by omega)];exact h id (by omega) h2
def Sim (P:Program) {α γ:Type} (ρ0:Rn) (F:M α) (c:Sem γ) (R:Rn->α->γ->Prop):Prop:=
 ∀(w0:Xk) (B:Nat) (s s':Hp) (a:α) (ρ:Rn) (w:Xk),ρ0.le ρ->Tells F s a s'->HR w0 B ρ s.f w->Free ρ s.n s'.n->
  ∃v w' ρ',c.run P w=.ok v w'∧HR w0 B ρ' s'.f w'∧Ext ρ ρ' s.n s'.n∧R ρ' a v
theorem Sim.bind {α γ δ ε:Type} {ρ0:Rn} {F:M α} {G:α->M δ} {c:Sem γ} {k:γ->Sem ε} {R:Rn->α->γ->Prop} {S:Rn->δ->ε->Prop}
  (hF:Good F) (hG:∀a,Good (G a)) (h:Sim P ρ0 F c R) (hk:∀ρ a v,ρ0.le ρ->R ρ a v->Sim P ρ (G a) (k v) S):Sim P ρ0 (zaj F G) (c >>= k) S:=by
 intro w0 B s s' b ρ w hρ ht H Aa
 obtain⟨a,s1,h1,h2,hn⟩:=zac hF ht
 have Ba:=h2.le (hG a)
 obtain⟨v,w1,ρ1,hr,H1,he,hR⟩:=h w0 B s s1 a ρ w hρ h1 H (Aa.left Ba)
 obtain⟨v2,w2,ρ2,Ca,H2,Da,hS⟩:=hk ρ1 a v (hρ.trans he.le) hR w0 B s1 s' b ρ1 w1 .rfl h2 H1 (Aa.right hn he)
 refine⟨v2,w2,ρ2,?_,H2,he.trans Da hn Ba,hS⟩
 rw [Sem.run_bind,hr]
 exact Ca
theorem Sim.fail {α γ:Type} {ρ0:Rn} {c:Sem γ} {R:Rn->α->γ->Prop}:Sim P ρ0 zah c R:=fun _ _ _ _ _ _ _ _ h=>(zag h).elim
theorem Sim.pure {α γ:Type} {ρ0:Rn} {a:α} {v:γ} {R:Rn->α->γ->Prop} (h:∀ρ,ρ0.le ρ->R ρ a v):Sim P ρ0 (zak a) (Pure.pure v) R:=by
 intro w0 B s s' b ρ w hρ ht H Aa
 obtain⟨rfl,rfl⟩:=zad ht
 exact⟨v,w,ρ,Eq.refl _,H,.rfl,h ρ hρ⟩
theorem Sim.skip {α γ δ:Type} {ρ0:Rn} {F:M α} {c:Sem γ} {k:γ->Sem δ} {R:Rn->α->δ->Prop} (v:γ) (hc:∀w,c.run P w=.ok v w) (h:Sim P ρ0 F (k v) R):Sim P ρ0 F (c >>= k) R:=by
 intro w0 B s s' b ρ w hρ ht H Ba
 obtain⟨v2,w2,ρ2,hr,Aa⟩:=h w0 B s s' b ρ w hρ ht H Ba
 refine⟨v2,w2,ρ2,?_,Aa⟩
 rw [Sem.run_bind,hc]
 exact hr
theorem Sim.mono {α γ:Type} {ρ0:Rn} {F:M α} {c:Sem γ} {R S:Rn->α->γ->Prop} (h:Sim P ρ0 F c R) (hRS:∀ρ a v,ρ0.le ρ->R ρ a v->S ρ a v):Sim P ρ0 F c S:=by
 intro w0 B s s' b ρ w hρ ht H Aa
 obtain⟨v2,w2,ρ2,hr,H2,he,hR⟩:=h w0 B s s' b ρ w hρ ht H Aa
 exact⟨v2,w2,ρ2,hr,H2,he,hRS _ _ _ (hρ.trans he.le) hR⟩
theorem zBI {ρ:Rn} {v v':Xl} (h:VL ρ v v') (h1:oneV v=true):v'.oneCell'=true:=by
 cases v with
 | bool b=>rw [VL.bool.1 h];rfl
 | int k i=>rw [VL.int.1 h];rfl
 | string s=>rw [VL.string.1 h];rfl
 | pointer a=>cases a with
  | none=>rw [VL.nilp.1 h];rfl
  | some a=>obtain⟨_,p,_,e⟩:=VL.ptr.1 h;rw [e];rfl
 | slice a l c=>cases a with
  | none=>rw [(VL.nils.1 h).2.2];rfl
  | some a=>obtain⟨_,_,p,_,a',c',e,_⟩:=VL.slice.1 h;rw [e];rfl
 | map r=>cases r with
  | none=>rw [VL.nilm.1 h];rfl
  | some a=>obtain⟨p,_,e⟩:=VL.map.1 h;rw [e];rfl
 | func fn f c=>
  obtain⟨f⟩:=f
  obtain⟨c⟩:=c
  obtain⟨_,f',c',e,_⟩:=VL.func.1 h;rw [e];rfl
 | nilFunc=>rw [VL.nilf.1 h];rfl
 | iface t x=>obtain⟨x',e,_⟩:=VL.iface.1 h;rw [e];rfl
 | nilIface=>rw [VL.nili.1 h];rfl
 | agg c=>cases h1
 | tuple c=>cases h1
 | chan c=>cases h1
 | float k b=>obtain⟨n,h⟩:=h;cases n<;>exact h.elim
 | complex k a b=>obtain⟨n,h⟩:=h;cases n<;>exact h.elim
theorem zgH {ρ:Rn}:∀{l l':Xj},LR (VL ρ) l l'->l.all oneV=true->∀v∈l',v.oneCell'=true
 | [],_,e,_,v,hv=>by rw [e]at hv;cases hv
 | x::l,_,⟨x',t,e,hx,ht⟩,h1,v,hv=>by
  rw [List.all_cons,Bool.and_eq_true]at h1
  rw [e]at hv
  cases hv with
  | head=>exact zBI hx h1.1
  | tail _ hm=>exact zgH ht h1.2 v hm
theorem zsJ {w0 w:Xk} {B:Nat} {ρ:Rn} {h:Hf} {b off n:Nat} {l:Xj} {t:Xm} {fl:Nat×Nat} {p:Pl} (H:HR w0 B ρ h w) (hp:ρ b=some p) (e1:h b=some (.cells ⟨l⟩ t fl)) (e2:off+n<=l.length) :
  ∃l',(loadCells ⟨p.blk,p.off+off,none⟩ n).run P w=.ok ⟨l'⟩ w∧LR (VL ρ) ((l.drop off).take n) l'∧l'.length=n:=by
 obtain⟨q,hq,h2,h3,h4,c',Ja,fz,h5,h6,h7,h8⟩:=H.obj b _ e1
 rw [hp]at hq
 cases hq
 have Ka:p.sz=l.length:=h2
 have Ga:((l.drop off).take n).length=n:=by rw [List.length_take,List.length_drop];omega
 have Fa:∃l',l'.length=n∧(∀(j:Nat) v',l'[j]? = some v'->c'[p.off+off+j]? = some v')∧LR (VL ρ) ((l.drop off).take n) l':=by
  refine⟨(c'.toList.drop (p.off+off)).take n,?_,fun j v' hj=> ?_,?_⟩
  ·rw [List.length_take,List.length_drop,Array.length_toList];omega
  ·rw [List.getElem?_take]at hj
   split at hj
   ·rw [List.getElem?_drop,Array.getElem?_toList]at hj;exact hj
   ·cases hj
  ·refine LR.of ?_ fun i v v' hv Aa=> ?_
   ·rw [Ga,List.length_take,List.length_drop,Array.length_toList];omega
   ·rw [List.getElem?_take]at hv Aa
    split at hv
    ·rename_i Ca
     rw [if_pos Ca]at Aa
     rw [List.getElem?_drop]at hv
     rw [List.getElem?_drop,Array.getElem?_toList]at Aa
     obtain⟨u,hu,Ia⟩:=h8 (off+i) v (by simpa using hv)
     rw [show p.off+(off+i)=p.off+off+i by omega,Aa]at hu
     cases hu;exact Ia
    ·cases hv
 obtain⟨l',Ba,Ha,Da⟩:=Fa
 refine⟨l',?_,Da,Ba⟩
 have:=zqr (P:=P) h5 (p.off+off) l' Ha
 rw [Ba]at this
 exact this
theorem zht {ρ0:Rn} {a a':Addr} {n:Nat} (ha:VL ρ0 (.pointer (some a)) (.pointer (some a'))) :
  Sim P ρ0 (zbx a n) (loadCells a' n) (fun ρ vs x=>∃l',x=⟨l'⟩∧LR (VL ρ) vs l'∧vs.length=n):=by
 intro w0 B s s' vs ρ w hρ ht H Ba
 obtain⟨b,Aa,l,t,fl,rfl,e1,e2,rfl,e3,e4⟩:=zaY ht
 obtain⟨_,p,hp,ep⟩:=VL.ptr.1 (ha.grow hρ)
 cases ep
 obtain⟨l',h1,h2,h3⟩:=zsJ (P:=P) H hp e1 e2
 exact⟨⟨l'⟩,w,ρ,h1,H.congr fun id=>by rw [e3],.rfl,l',Eq.refl _,h2,by rw [List.length_take,List.length_drop];omega⟩
theorem zeO {ρ0:Rn} {a a':Addr} {vs vs':Xj} (ha:VL ρ0 (.pointer (some a)) (.pointer (some a'))) (hv:LR (VL ρ0) vs vs') :
  Sim P ρ0 (zbO a vs) (storeCells a' vs') (fun _ _ _=>True):=by
 intro w0 B s s' u ρ w hρ ht H Ka
 obtain⟨b,Ba,l,t,fl,rfl,Fa,e1,e2,e3,e4,e5⟩:=zjP ht
 obtain⟨_,p,hp,ep⟩:=VL.ptr.1 (ha.grow hρ)
 cases ep
 have Ca:=hv.grow hρ
 have Ha:=Ca.len
 obtain⟨q,hq,h2,h3,h4,c',Ga,fz,h5,h6,h7,h8⟩:=H.obj b _ e1
 rw [show (ρ b=some p) from hp]at hq
 cases hq
 have La:p.sz=l.length:=h2
 obtain⟨w',c2,hr,Ja,Da,tw,hk⟩:=zgo (P:=P) (o:=p.off+Ba) vs' 0 w c' h5 (by omega) (h7 Fa).no (zgH Ca e3)
 have hB:B<=p.blk:=H.own b _ p e1 Fa hp
 refine⟨(),w',ρ,hr,?_,.rfl,trivial⟩
 rw [e4]
 refine H.set e1 hp (H.below.trans ⟨tw.os,tw.tape,tw.output,by rw [tw.size];exact Nat.le_refl _,fun k hk=>tw.other k (by omega)⟩) (fun x hx=>tw.other x hx) ?_
 refine⟨p,hp,?_,h3,h4,c2,Ga,fz,Ja,by rw [Da];exact h6,by rw [Da];exact h7,fun k v Ia=> ?_⟩
 ·simp only [List.size_toArray,List.length_append,List.length_take,List.length_drop]
  omega
 ·have Aa:(l.take Ba++(vs++l.drop (Ba+vs.length)))[k]? = some v:=by simpa using Ia
  rw [hk (p.off+k)]
  by_cases hin:Ba<=k∧k<Ba+vs.length
  ·rw [if_pos (by omega)]
   rw [List.getElem?_append_right (by rw [List.length_take];omega),List.getElem?_append_left (by rw [List.length_take];omega),List.length_take,show k-min Ba l.length=k-Ba by omega]at Aa
   rw [show p.off+k-(p.off+Ba+0)=k-Ba by omega]
   exact Ca.at Aa
  ·rw [if_neg (by omega)]
   have:l[k]? = some v:=by
    by_cases hlt:k<Ba
    ·rw [List.getElem?_append_left (by rw [List.length_take];omega),List.getElem?_take,if_pos hlt]at Aa
     exact Aa
    ·rw [List.getElem?_append_right (by rw [List.length_take];omega),List.getElem?_append_right (by rw [List.length_take];omega),List.length_take,List.getElem?_drop]at Aa
     rw [<-Aa]
     congr 1
     omega
   exact h8 k v (by simpa using this)
end Go.Proofs.YtgjolijncmkkhaaGreatDoor
namespace Go.Proofs.YtgjolijncmkkhaaGreatDoor
open Go.RowKit
set_option linter.unusedVariables false
variable {P:Program} {ρ0:Rn}
def EnvR (ρ:Rn) (e:En) (m:Operand->Xl):Prop:=∀x v,e x=some v->VL ρ v (m x)
def OpR (ρ:Rn) (v:Xl) (nx:Next):Prop:=(∃v',nx=.value v'∧VL ρ v v')∨(nx=.skip∧v=unV)
theorem Sim.value {F:M Xl} {c:Sem Xl} (h:Sim P ρ0 F c fun ρ a v=>VL ρ a v):Sim P ρ0 F (c >>= fun x=>Pure.pure (Next.value x)) OpR:=by
 intro w0 B s s' a ρ w hρ ht H Aa
 obtain⟨v,w',ρ',hr,H',he,hR⟩:=h w0 B s s' a ρ w hρ ht H Aa
 refine⟨.value v,w',ρ',?_,H',he,.inl ⟨v,rfl,hR⟩⟩
 rw [Sem.run_bind,hr];rfl
theorem zAg {x:Option Xl} {c:Sem Xl} {v':Xl} (hc:c=Pure.pure v') (hx:∀v,x=some v->VL ρ0 v v'):Sim P ρ0 (maev x) c fun ρ a v=>VL ρ a v:=by
 intro w0 B s s' a ρ w hρ ht H Aa
 obtain⟨rfl,rfl⟩:=zcn ht
 exact⟨v',w,ρ,by rw [hc];rfl,H,.rfl,(hx a rfl).grow hρ⟩
theorem zho {e:En} {m:Operand->Xl} (he:EnvR ρ0 e m) (x:Operand):Sim P ρ0 (zdV x e) (Pure.pure (Next.value (m x))) OpR:=by
 have:=Sim.value (P:=P) (zAg (c:=Pure.pure (m x)) rfl fun v hv=>he x v hv)
 exact this
theorem zxp {e:En} {m:Operand->Xl} (he:EnvR ρ0 e m) (c a b:Operand) :
  Sim P ρ0 (zfP c a b e) (do Pure.pure (Next.value (if <-asBool (m c) then m a else m b))) OpR:=by
 unfold zfP
 split
 ·rename_i hc
  have:=VL.bool.1 (he c _ hc)
  rw [this]
  exact zho he a
 ·rename_i hc
  have:=VL.bool.1 (he c _ hc)
  rw [this]
  exact zho he b
 ·exact .fail
theorem zhi {ρ:Rn} {v v':Xl} {vs:Xj} (h:VL ρ v v') (hc:zik v=some vs):LR (VL ρ) vs v'.cells.toList:=by
 have one:∀{x x':Xl},VL ρ x x'->x'.cells = #[x']->LR (VL ρ) [x] x'.cells.toList:=fun hx e=>by
  rw [e];exact⟨_,[],rfl,hx,rfl⟩
 unfold zik at hc
 split at hc
 ·cases hc
  obtain⟨l',e,hl⟩:=VL.agg.1 h
  rw [e];exact hl
 ·cases hc
 ·rename_i h1 h2
  cases hc
  cases v with
  | agg c=>obtain⟨l⟩:=c;exact (h1 l rfl).elim
  | chan c=>exact (h2 c rfl).elim
  | bool b=>exact one h (by rw [VL.bool.1 h];rfl)
  | int k i=>exact one h (by rw [VL.int.1 h];rfl)
  | string s=>exact one h (by rw [VL.string.1 h];rfl)
  | pointer a=>cases a with
   | none=>exact one h (by rw [VL.nilp.1 h];rfl)
   | some a=>exact one h (by obtain⟨_,p,_,e⟩:=VL.ptr.1 h;rw [e];rfl)
  | slice a l c=>cases a with
   | none=>exact one h (by rw [(VL.nils.1 h).2.2];rfl)
   | some a=>exact one h (by obtain⟨_,_,p,_,a',c',e,_⟩:=VL.slice.1 h;rw [e];rfl)
  | map r=>cases r with
   | none=>exact one h (by rw [VL.nilm.1 h];rfl)
   | some a=>exact one h (by obtain⟨p,_,e⟩:=VL.map.1 h;rw [e];rfl)
  | func fn f c=>
   obtain⟨f⟩:=f
   obtain⟨c⟩:=c
   exact one h (by obtain⟨_,f',c',e,_⟩:=VL.func.1 h;rw [e];rfl)
  | nilFunc=>exact one h (by rw [VL.nilf.1 h];rfl)
  | iface t x=>exact one h (by obtain⟨x',e,_⟩:=VL.iface.1 h;rw [e];rfl)
  | nilIface=>exact one h (by rw [VL.nili.1 h];rfl)
  | tuple c=>obtain⟨l⟩:=c;exact one h (by obtain⟨l',e,_⟩:=VL.tuple.1 h;rw [e];rfl)
  | float k b=>obtain⟨n,h⟩:=h;cases n<;>exact h.elim
  | complex k a b=>obtain⟨n,h⟩:=h;cases n<;>exact h.elim
theorem zdg {ρ:Rn} {v:Xl} (h:zaL v=true):VL ρ v v:=(zcs h).2 rfl
theorem zcb {ρ:Rn} {v:Xl} (h:zaL v=true):LR (VL ρ) v.cells.toList v.cells.toList:=by
 have hs:VL ρ v v:=zdg h
 cases v with
 | agg c=>
  obtain⟨l⟩:=c
  obtain⟨l',e,hl⟩:=VL.agg.1 hs
  cases e
  exact hl
 | chan c=>cases h
 | _=>exact⟨_,[],rfl,hs,rfl⟩
theorem zjv {w0 w w':Xk} {B:Nat} {ρ:Rn} {h:Hf} {n:Nat} {l l' rest:Xj} {t t':Xm} {fl fz:Nat×Nat} (es sl:Nat) (H:HR w0 B ρ h w) (hn:ρ n=none) (h16:16<=n)
  (hl:LR (VL ρ) l l') (hf0:fl.1=0->sl=0) (hf1:fl.1≠0->es=fl.1) (hr:sl*es<=rest.length) (hb:Below B w0 w')
  (hw:w'.heap[w.heap.size]? = some (.cells ⟨l'++rest⟩ t' fz)) (ho:∀x,x<w.heap.size->w'.heap[x]? = w.heap[x]?) (hfz:Fy t fl (l'++rest).length fz) :
  HR w0 B (ρ.put n ⟨w.heap.size,0,l.length,es,sl⟩) (h.put n (some (.cells ⟨l⟩ t fl))) w':=by
 have Da:=Rn.put_le hn ⟨w.heap.size,0,l.length,es,sl⟩
 have Fa:=hl.len
 refine H.new hn h16 (Nat.le_trans H.base H.below.size) (fun id o p Ba hp=> ?_) hb (fun id o p Ba hp=> ?_) ?_
 ·obtain⟨q,hq,Aa⟩:=(H.obj id o Ba).place
  rw [hp]at hq;cases hq
  exact Nat.ne_of_lt Aa
 ·obtain⟨q,hq,Aa⟩:=(H.obj id o Ba).place
  rw [hp]at hq;cases hq
  exact ho _ Aa
 ·refine⟨_,if_pos rfl,rfl,hf0,hf1,⟨l'++rest⟩,t',fz,hw,?_,(fun _=>hfz),fun k v hk=> ?_⟩
  ·simp only [List.size_toArray,List.length_append];omega
  ·obtain⟨v',h1,h2⟩:=hl.at (i:=k) (v:=v) (by simpa using hk)
   refine⟨v',?_,h2.grow Da⟩
   simp only [Nat.zero_add]
   have Ca:k<l'.length:=by
    rcases Nat.lt_or_ge k l'.length with h | h
    ·exact h
    ·rw [List.getElem?_eq_none h]at h1;cases h1
   simpa [List.getElem?_append_left Ca]using h1
theorem zdT {B:Nat} {w0 w:Xk} (h:Below B w0 w) (hB:B<=w.heap.size) (o:Obj):Below B w0 { w with heap:=w.heap.push o }:=h.alloc hB o
theorem zji {t:Xm} {l l':Xj} (hl:LR (VL ρ0) l l') :
  Sim P ρ0 (mrow t l (0,0)) (newRow t ⟨l'⟩) fun ρ id a=>∃p,ρ id=some p∧p.off=0∧p.sl=0∧a=⟨p.blk,0,none⟩:=by
 intro w0 B s s' id ρ w hρ ht H Aa
 obtain⟨h1,rfl,Ba,e1,e2⟩:=zdE ht
 have hn:=Aa s.n (Nat.le_refl _) (by omega)
 refine⟨⟨w.heap.size,0,none⟩,{ w with heap:=w.heap.push (.cells ⟨l'⟩ t) },ρ.put s.n ⟨w.heap.size,0,l.length,0,0⟩,rfl,?_,?_,_,if_pos rfl,rfl,rfl,rfl⟩
 ·rw [e1]
  refine zjv (rest:=[]) (t':=t) (fz:=(0,0)) 0 0 H hn Ba (hl.grow hρ) (fun _=>rfl) (fun h=>absurd rfl h) (by simp) (zdT H.below (Nat.le_trans H.base H.below.size) _) ?_ (fun x hx=> ?_) ⟨.inl rfl,fun _ _=>rfl⟩
  ·simp
  ·rw [Array.getElem?_push,if_neg (by omega)]
 ·rw [e2];exact .put hn _
theorem zwO {ρ:Rn} {id:Nat} {p:Pl} (h:ρ id=some p) (h0:p.off=0):VL ρ (ptrV id 0) (.pointer (some ⟨p.blk,0,none⟩)):=
 VL.ptr.2 ⟨rfl,p,h,by simp [h0]⟩
theorem zps {ρ:Rn} {id n c:Nat} {p:Pl} (h:ρ id=some p) (h0:p.off=0) (hs:p.sl=0) (hn:n<=c) (hc:c<=9223372036854775807):VL ρ (zbD id 0 n c) (.slice (some ⟨p.blk,0,none⟩) n c):=
 VL.slice.2 ⟨rfl,hn,p,h,_,c,rfl,by rw [hs];simp,fun _=>by simp [h0],hc⟩
theorem zcy {t:Xm} {z:Xj} (h:zeL P t=some z):∃v,zaL v=true∧z=v.cells.toList∧∀w,(zeroValue t).run P w=.ok v w:=by
 unfold zeL at h
 split at h
 ·rename_i v hv
  split at h
  ·rename_i hp
   cases h
   refine⟨v,hp,rfl,fun w=> ?_⟩
   cases hi:P.info? t with
   | none=>rw [hi]at hv;cases hv
   | some i=>
    rw [hi]at hv
    simp only [Option.bind_some]at hv
    simp [zeroValue,typeInfo,hi,hv]
  ·cases h
 ·cases h
theorem zaQ {t:Xm} {n:Nat} (h:szOf P t=some n) (w:Xk):(sizeOf t).run P w=.ok n w:=by
 unfold szOf at h
 cases hi:P.info? t with
 | none=>rw [hi]at h;cases h
 | some i=>rw [hi]at h;cases h;simp [Go.sizeOf,typeInfo,hi]
theorem ziW {t:Xm} {b:Bool} (h:zge P t=some b) (w:Xk):(isAgg t).run P w=.ok b w:=by
 unfold zge at h
 split at h
 ·rename_i d hd;cases h;simp [isAgg,run_underlying hd]
 ·rename_i d hd;cases h;simp [isAgg,run_underlying hd]
 ·rename_i d h1 h2 hd
  cases h
  simp only [isAgg,Sem.run_bind,run_underlying hd,Result.andThen_ok]
  cases d<;>first
   | rfl
   | exact (h1 _ rfl).elim
   | exact (h2 _ _ rfl).elim
 ·cases h
theorem zvj (t:Xm):Sim P ρ0 (zeq P t) (Instr.alloc t true (.tuple #[])) fun ρ a v=>VL ρ a v:=by
 unfold zeq
 split
 ·rename_i z hz
  obtain⟨v,hp,rfl,hr⟩:=zcy hz
  unfold Instr.alloc
  refine Sim.skip v hr ?_
  refine Sim.bind (zaM _ _ _) (fun _=>zaf _) (zji (zcb hp)) fun ρ id a hρ h=> ?_
  obtain⟨p,h1,h2,h3,rfl⟩:=h
  exact Sim.pure fun ρ' hρ'=>zwO (hρ' _ _ h1) h2
 ·exact .fail
theorem zzX {e:En} {m:Operand->Xl} (he:EnvR ρ0 e m) (t:Xm) (x:Operand):Sim P ρ0 (zgT t x e) (Instr.box t (m x)) fun ρ a v=>VL ρ a v:=by
 unfold zgT
 split
 ·rename_i vs hv
  cases hx:e x with
  | none=>rw [hx]at hv;cases hv
  | some v=>
   rw [hx]at hv
   unfold Instr.box
   refine Sim.bind (zaM _ _ _) (fun _=>zaf _) (zji (l':=(m x).cells.toList) (zhi (he x v hx) hv)) fun ρ id a hρ h=> ?_
   obtain⟨p,h1,h2,h3,rfl⟩:=h
   exact Sim.pure fun ρ' hρ'=>zwO (hρ' _ _ h1) h2
 ·exact .fail
theorem zoG {a a':Addr} (t:Xm) (ha:VL ρ0 (.pointer (some a)) (.pointer (some a'))):Sim P ρ0 (zkS a (zge P t) (szOf P t)) (loadVar t a') fun ρ a v=>VL ρ a v:=by
 cases hg:zge P t with
 | none=>cases szOf P t<;>exact .fail
 | some b=>
  cases hz:szOf P t with
  | none=>cases b<;>exact .fail
  | some n=>
   unfold loadVar
   refine Sim.skip b (ziW hg) ?_
   cases b with
   | true=>
    simp only [if_true]
    refine Sim.skip n (zaQ hz) ?_
    refine Sim.bind (zan _ _) (fun _=>zaf _) (zht ha) fun ρ vs Ga hρ h=> ?_
    obtain⟨l',rfl,hl,_⟩:=h
    exact Sim.pure fun ρ' hρ'=>VL.agg.2 ⟨l',rfl,hl.grow hρ'⟩
   | false=>
    simp only [Bool.false_eq_true,if_false]
    intro w0 B s s' v ρ w hρ ht H Da
    obtain⟨vs,s1,h1,h2,hn⟩:=zac (zan _ _) ht
    obtain⟨e1,rfl⟩:=zcn h2
    obtain⟨Ga,w',ρ',hr,H',hE,l',rfl,hl,Ca⟩:=zht (P:=P) (n:=1) ha w0 B s _ vs ρ w hρ h1 H Da
    match vs,Ca with
    | [x],_=>
     simp at e1
     subst e1
     obtain⟨x',tl,e3,hx,Fa⟩:=hl
     have Ba:tl=[]:=Fa
     subst Ba
     subst e3
     refine⟨x',w',ρ',?_,H',hE,hx⟩
     simp only [loadCells,loadCellsFrom,Sem.run_bind]at hr
     have Aa:a'.add 0=a':=by simp [Addr.add]
     rw [Aa]at hr
     cases hq:(load a').run P w with
     | ok y wy=>
      rw [hq]at hr
      simp only [Result.andThen,Sem.run_pure,Result.ok.injEq]at hr
      obtain⟨e5,e6⟩:=hr
      subst e6
      have : #[].push y = #[x']:=e5
      simp at this
      rw [this]
     | halt y wy=>rw [hq]at hr;cases hr
theorem zcV {a:Addr} (w:Xk):(Instr.sureAddr (.pointer (some a))).run P w=.ok a w:=rfl
theorem zzf {e:En} {m:Operand->Xl} (he:EnvR ρ0 e m) (t:Xm) (x:Operand):Sim P ρ0 (zfz P t x e) (Instr.loadAt t (m x)) fun ρ a v=>VL ρ a v:=by
 unfold zfz
 split
 ·rename_i a ha
  have h1:=he x _ ha
  obtain⟨_,p,_,e1⟩:=VL.ptr.1 h1
  rw [e1]at h1 ⊢
  exact Sim.skip _ zcV (zoG t h1)
 ·exact .fail
theorem zvh {e:En} {m:Operand->Xl} (he:EnvR ρ0 e m) (t:Xm) (x y:Operand) :
  Sim P ρ0 (zep P t x y e) (do Instr.storeAt t (m x) (m y);Pure.pure Next.skip) OpR:=by
 unfold zep
 split
 ·rename_i a vs n ha hv hz
  cases hy:e y with
  | none=>rw [hy]at hv;cases hv
  | some v=>
   rw [hy]at hv
   have h1:=he x _ ha
   have h2:=zhi (he y v hy) hv
   obtain⟨_,p,_,e1⟩:=VL.ptr.1 h1
   rw [e1]at h1 ⊢
   split
   ·rename_i hn
    have Aa:(m y).cells.size=n:=by
     have:=h2.len
     rw [Array.length_toList]at this
     rw [this];exact Nat.eq_of_beq_eq_true hn
    intro w0 B s s' u ρ w hρ ht H Ba
    obtain⟨u1,s1,t1,t2,Ca⟩:=zac (zaF _ _) ht
    obtain⟨rfl,rfl⟩:=zad t2
    obtain⟨v1,w',ρ',hr,H',hE,_⟩:=zeO (P:=P) h1 h2 w0 B s s' u1 ρ w hρ t1 H Ba
    refine⟨.skip,w',ρ',?_,H',hE,.inr ⟨rfl,rfl⟩⟩
    simp only [Instr.storeAt,Sem.run_bind,zcV,Result.andThen,storeVar,zaQ hz,Aa,ne_eq,not_true_eq_false,if_false,Sem.run_pure]
    rw [hr]
   ·exact .fail
 ·exact .fail
end Go.Proofs.YtgjolijncmkkhaaGreatDoor
namespace Go.Proofs.YtgjolijncmkkhaaGreatDoor
open Go.RowKit
set_option linter.unusedVariables false
variable {P:Program} {ρ0:Rn}
theorem zco {α:Type}:∀(c:Sem α) (a:α),prun P c=some a->∀w,c.run P w=.ok a w
 | .pure x,a,h,w=>by cases h;rfl
 | .program k,a,h,w=>zco (k P) a h w
 | .mark _ k,a,h,w=>zco k a h w
 | .load _ _ _,a,h,w=>by cases h
 | .store _ _ _ _,a,h,w=>by cases h
 | .new _ _,a,h,w=>by cases h
 | .shape _ _,a,h,w=>by cases h
 | .freeze _ _ _,a,h,w=>by cases h
 | .frozen _ _,a,h,w=>by cases h
 | .getObj _ _,a,h,w=>by cases h
 | .setObj _ _ _,a,h,w=>by cases h
 | .choose _ _,a,h,w=>by cases h
 | .sys _ _,a,h,w=>by cases h
 | .halt _,a,h,w=>by cases h
theorem Sim.of {α γ:Type} {a:α} {v:γ} {c:Sem γ} {R:Rn->α->γ->Prop} (hc:∀w,c.run P w=.ok v w) (h:∀ρ,ρ0.le ρ->R ρ a v):Sim P ρ0 (zak a) c R:=by
 intro w0 B s s' b ρ w hρ ht H Aa
 obtain⟨rfl,rfl⟩:=zad ht
 exact⟨v,w,ρ,hc w,H,.rfl,h ρ hρ⟩
theorem zcP {c:Sem Xl}:Sim P ρ0 (zdN P c) c fun ρ a v=>VL ρ a v:=by
 unfold zdN
 split
 ·rename_i v hv
  split
  ·rename_i hp
   rw [forceV_eq]
   exact Sim.of (zco c v hv) fun ρ _=>zdg hp
  ·exact .fail
 ·exact .fail
theorem zfH {e:En} {m:Operand->Xl} (he:EnvR ρ0 e m) {x:Operand} {v:Xl} (hx:e x=some v) (hp:zaL v=true):m x=v:=(zcs hp).1 (he x v hx)
theorem zmt (m n:Nat):Nat.beq m n=decide (m=n):=by
 cases h:Nat.beq m n with
 | true=>simp [Nat.eq_of_beq_eq_true h]
 | false=>
  symm
  rw [decide_eq_false_iff_not]
  intro e
  subst e
  rw [Nat.beq_refl]at h;cases h
theorem zpX (a b:Int):eqI a b=(a == b):=by
 rw [Bool.eq_iff_iff,beq_iff_eq]
 cases a<;>cases b<;>simp [eqI,zmt]<;>omega
theorem blt_eq (m n:Nat):Nat.blt m n=decide (m<n):=by
 cases h:Nat.blt m n with
 | true=>have:=Nat.le_of_ble_eq_true h;simp;omega
 | false=>
  symm
  rw [decide_eq_false_iff_not]
  intro Aa
  have:Nat.blt m n=true:=Nat.ble_eq_true_of_le Aa
  rw [this]at h;cases h
theorem zkL (a b:Int):ltI a b=decide (a<b):=by
 rw [Bool.eq_iff_iff,decide_eq_true_iff]
 cases a<;>cases b<;>simp only [ltI,blt_eq,decide_eq_true_iff,Bool.false_eq_true,false_iff,true_iff,Int.ofNat_eq_natCast]<;>omega
theorem zAT (a b:Int):addI a b=a+b:=by
 cases a<;>cases b<;>rfl
theorem zvd (m n:Nat):zqL m n=(m:Int)-n:=by
 unfold zqL
 split
 ·rename_i h
  have:=Nat.le_of_ble_eq_true h
  show ((m-n:Nat):Int)=_
  omega
 ·rename_i h
  have:¬ n<=m:=fun hc=>by rw [Nat.ble_eq_true_of_le hc]at h;cases h
  rw [Int.negSucc_eq]
  omega
theorem zzR (a b:Int):subI a b=a-b:=by
 cases a<;>cases b<;>first | exact zvd _ _ | rfl
theorem zko {k k':IntKind} (h:zpk k k'=true):k'=k:=by
 cases k<;>cases k'<;>first | rfl | cases h
theorem zlM (m:Nat) (h:m<=4611686018427387904):IntKind.wrap .i64 (Int.ofNat m)=Int.ofNat m:=by
 have h1:(Int.ofNat m) % (2 ^ 64:Int)=Int.ofNat m:=Int.emod_eq_of_lt (by simp) (by show (m:Int)<_;omega)
 show (let m':=(Int.ofNat m) % (2 ^ 64:Int);if (true && decide (m' ≥ (2 ^ 63:Int)))=true then m' - (2 ^ 64:Int) else m')=_
 simp only [h1]
 rw [if_neg]
 simp
 omega
theorem ztU {k:IntKind} {n m:Int} {s s':Hp} (h:Tells (zlS k n) s m s'):m=k.wrap n∧s'=s:=by
 unfold zlS at h
 split at h
 ·rw [forceN_eq]at h
  split at h
  ·rename_i hb
   obtain⟨rfl,rfl⟩:=zad h
   exact⟨(zlM _ (Nat.le_of_ble_eq_true hb)).symm,rfl⟩
  ·rw [forceI_eq]at h
   exact zad h
 ·rw [forceI_eq]at h
  exact zad h
theorem znp {op:BinOp} {t:Xm} {x y:Operand} {k k':IntKind} {a b:Int} (w:Xk):(eqGuard op t x y (.int k a) (.int k' b)).run P w=.ok () w:=by
 unfold eqGuard
 cases op<;>rfl
theorem zfh {c:Int->Int->Bool} {op:BinOp} {t:Xm} {x y:Operand} {a b a' b':Xl} (ha:VL ρ0 a a') (hb:VL ρ0 b b')
  (hop:∀k i j w,(binOp op t (.int k i) (.int k j)).run P w=.ok (.bool (c i j)) w)
  (hv:Sim P ρ0 (binV P op t x y a b) (do eqGuard op t x y a' b';binOp op t a' b') fun ρ a v=>VL ρ a v) :
  Sim P ρ0 (cmpV P c op t x y a b) (do eqGuard op t x y a' b';binOp op t a' b') fun ρ a v=>VL ρ a v:=by
 unfold cmpV
 split
 ·rename_i k i k' j
  have e1:=VL.int.1 ha
  have e2:=VL.int.1 hb
  subst e1 e2
  split
  ·rename_i hk
   have:=zko hk
   subst this
   rw [forceB_eq]
   refine Sim.of (fun w=> ?_) fun ρ _=>VL.bool.2 rfl
   simp only [Sem.run_bind,znp,Result.andThen,hop]
  ·exact .fail
 ·exact hv
theorem zoA {c:Int->Int->Int} {op:BinOp} {t:Xm} {x y:Operand} {a b a' b':Xl} (ha:VL ρ0 a a') (hb:VL ρ0 b b')
  (hop:∀k i j w,(binOp op t (.int k i) (.int k j)).run P w=.ok (.int k (k.wrap (c i j))) w)
  (hv:Sim P ρ0 (binV P op t x y a b) (do eqGuard op t x y a' b';binOp op t a' b') fun ρ a v=>VL ρ a v) :
  Sim P ρ0 (zgQ P c op t x y a b) (do eqGuard op t x y a' b';binOp op t a' b') fun ρ a v=>VL ρ a v:=by
 unfold zgQ
 split
 ·rename_i k i k' j
  have e1:=VL.int.1 ha
  have e2:=VL.int.1 hb
  subst e1 e2
  split
  ·rename_i hk
   have:=zko hk
   subst this
   intro w0 B s s' v ρ w hρ ht H Aa
   obtain⟨n,s1,h1,h2,_⟩:=zac (zlW _ _) ht
   obtain⟨rfl,rfl⟩:=ztU h1
   obtain⟨rfl,rfl⟩:=zad h2
   refine⟨_,w,ρ,?_,H,.rfl,VL.int.2 rfl⟩
   simp only [Sem.run_bind,znp,Result.andThen,hop]
  ·exact .fail
 ·exact hv
theorem zoB {t:Xm} {d:TypeDesc} {a b a' b':Xl} (hd:P.underlying t=some d) (ha:VL ρ0 a a') (hb:VL ρ0 b b') (h:zjt d a b=true) (w:Xk) :
  (Op.equal t a' b').run P w=.ok false w∧(∀op x y,(eqGuard op t x y a' b').run P w=.ok () w)∧
   (∀w,(binOp .eql t a' b').run P w=((Op.equal t a' b') >>= fun r=>Pure.pure (Value.bool r)).run P w)∧(∀w,(binOp .neq t a' b').run P w=((Op.equal t a' b') >>= fun r=>Pure.pure (Value.bool !r)).run P w):=by
 have Aa:∀(X Y:Xl),(∀d,(Op.equalIn (d+1) t X Y).run P w=.ok false w)->(Op.equal t X Y).run P w=.ok false w:=fun _ _ h=>h 9999
 unfold zjt at h
 split at h
 ·obtain⟨_,p,_,e⟩:=VL.ptr.1 ha
  have e2:=VL.nilp.1 hb
  subst e e2
  exact⟨Aa _ _ (fun d=>by simp [Op.equalIn,run_underlying hd]),fun op x y=>by unfold eqGuard;cases op<;>rfl,fun _=>rfl,fun _=>rfl⟩
 ·obtain⟨_,p,_,e⟩:=VL.ptr.1 hb
  have e2:=VL.nilp.1 ha
  subst e e2
  exact⟨Aa _ _ (fun d=>by simp [Op.equalIn,run_underlying hd]),fun op x y=>by unfold eqGuard;cases op<;>rfl,fun _=>rfl,fun _=>rfl⟩
 ·obtain⟨_,_,p,_,a2,c2,e,_⟩:=VL.slice.1 ha
  have e2:=(VL.nils.1 hb).2.2
  subst e e2
  exact⟨Aa _ _ (fun d=>by simp [Op.equalIn,run_underlying hd]),fun op x y=>by unfold eqGuard;cases op<;>rfl,fun _=>rfl,fun _=>rfl⟩
 ·obtain⟨_,_,p,_,a2,c2,e,_⟩:=VL.slice.1 hb
  have e2:=(VL.nils.1 ha).2.2
  subst e e2
  exact⟨Aa _ _ (fun d=>by simp [Op.equalIn,run_underlying hd]),fun op x y=>by unfold eqGuard;cases op<;>rfl,fun _=>rfl,fun _=>rfl⟩
 ·rename_i fn f c
  obtain⟨f⟩:=f
  obtain⟨c⟩:=c
  obtain⟨_,f',c',e,_⟩:=VL.func.1 ha
  have e2:=VL.nilf.1 hb
  subst e e2
  exact⟨Aa _ _ (fun d=>by simp [Op.equalIn,run_underlying hd]),fun op x y=>by unfold eqGuard;cases op<;>rfl,fun _=>rfl,fun _=>rfl⟩
 ·rename_i fn f c
  obtain⟨f⟩:=f
  obtain⟨c⟩:=c
  obtain⟨_,f',c',e,_⟩:=VL.func.1 hb
  have e2:=VL.nilf.1 ha
  subst e e2
  exact⟨Aa _ _ (fun d=>by simp [Op.equalIn,run_underlying hd]),fun op x y=>by unfold eqGuard;cases op<;>rfl,fun _=>rfl,fun _=>rfl⟩
 ·obtain⟨x',e,_⟩:=VL.iface.1 ha
  have e2:=VL.nili.1 hb
  subst e e2
  exact⟨Aa _ _ (fun d=>by simp [Op.equalIn,run_underlying hd]),fun op x y=>by unfold eqGuard;cases op<;>rfl,fun _=>rfl,fun _=>rfl⟩
 ·obtain⟨x',e,_⟩:=VL.iface.1 hb
  have e2:=VL.nili.1 ha
  subst e e2
  exact⟨Aa _ _ (fun d=>by simp [Op.equalIn,run_underlying hd]),fun op x y=>by unfold eqGuard;cases op<;>rfl,fun _=>rfl,fun _=>rfl⟩
 ·obtain⟨p,_,e⟩:=VL.map.1 ha
  have e2:=VL.nilm.1 hb
  subst e e2
  exact⟨Aa _ _ (fun d=>by simp [Op.equalIn,run_underlying hd]),fun op x y=>by unfold eqGuard;cases op<;>rfl,fun _=>rfl,fun _=>rfl⟩
 ·obtain⟨p,_,e⟩:=VL.map.1 hb
  have e2:=VL.nilm.1 ha
  subst e e2
  exact⟨Aa _ _ (fun d=>by simp [Op.equalIn,run_underlying hd]),fun op x y=>by unfold eqGuard;cases op<;>rfl,fun _=>rfl,fun _=>rfl⟩
 ·cases h
theorem zcw {op:BinOp} {t:Xm} {x y:Operand} {a b a' b':Xl} (ha:VL ρ0 a a') (hb:VL ρ0 b b') :
  Sim P ρ0 (binV P op t x y a b) (do eqGuard op t x y a' b';binOp op t a' b') fun ρ a v=>VL ρ a v:=by
 unfold binV
 split
 ·rename_i hp
  rw [Bool.and_eq_true]at hp
  rw [(zcs hp.1).1 ha,(zcs hp.2).1 hb]
  exact zcP
 ·unfold nilV
  split
  ·rename_i d hd
   split
   ·rename_i hn
    refine Sim.of (v:=.bool false) (fun w=> ?_) fun ρ _=>VL.bool.2 rfl
    obtain⟨h1,h2,h3,h4⟩:=zoB hd ha hb hn w
    simp only [Sem.run_bind,h2,Result.andThen,h3,h1,Sem.run_pure]
   ·exact .fail
  ·rename_i d hd
   split
   ·rename_i hn
    refine Sim.of (v:=.bool true) (fun w=> ?_) fun ρ _=>VL.bool.2 rfl
    obtain⟨h1,h2,h3,h4⟩:=zoB hd ha hb hn w
    simp only [Sem.run_bind,h2,Result.andThen,h4,h1,Sem.run_pure,Bool.not_false]
   ·exact .fail
  ·exact .fail
theorem zvn (i j:Int):decide (i<=j) = !decide (j<i):=by
 rw [Bool.eq_iff_iff]
 simp
theorem zAK {e:En} {m:Operand->Xl} (he:EnvR ρ0 e m) (op:BinOp) (t:Xm) (x y:Operand) :
  Sim P ρ0 (zhl P op t x y e) (do eqGuard op t x y (m x) (m y);binOp op t (m x) (m y)) fun ρ a v=>VL ρ a v:=by
 unfold zhl
 split
 ·rename_i a b hx hy
  have ha:=he x _ hx
  have hb:=he y _ hy
  unfold binD
  split
  ·exact zoA ha hb (fun k i j w=>by simp [binOp,Op.intArith,zAT]) (zcw ha hb)
  ·exact zoA ha hb (fun k i j w=>by simp [binOp,Op.intArith,zzR]) (zcw ha hb)
  ·exact zfh ha hb (fun k i j w=>by simp [binOp,Op.intCmp,zpX]) (zcw ha hb)
  ·exact zfh ha hb (fun k i j w=>by simp [binOp,Op.intCmp,zpX,bne]) (zcw ha hb)
  ·exact zfh ha hb (fun k i j w=>by simp [binOp,Op.intCmp,zkL]) (zcw ha hb)
  ·exact zfh ha hb (fun k i j w=>by simp [binOp,Op.intCmp,zkL];exact zvn _ _) (zcw ha hb)
  ·exact zfh ha hb (fun k i j w=>by simp [binOp,Op.intCmp,zkL]) (zcw ha hb)
  ·exact zfh ha hb (fun k i j w=>by simp [binOp,Op.intCmp,zkL];exact zvn _ _) (zcw ha hb)
  ·exact zcw ha hb
 ·exact .fail
theorem zBR {e:En} {m:Operand->Xl} (he:EnvR ρ0 e m) (op:UnOp) (x:Operand):Sim P ρ0 (zfs P op x e) (Op.unary op (m x)) fun ρ a v=>VL ρ a v:=by
 unfold zfs
 split
 ·rename_i a hx
  split
  ·rename_i hp
   rw [zfH he hx hp]
   exact zcP
  ·exact .fail
 ·exact .fail
theorem zqh {e:En} {m:Operand->Xl} (he:EnvR ρ0 e m) (x:Operand) (o:Oper) (ho:o.op=.nilCheck x):Sim P ρ0 (zdh x e) (execOp m o) OpR:=by
 unfold zdh
 split
 ·rename_i a hx
  have h1:=he x _ hx
  obtain⟨_,p,_,e1⟩:=VL.ptr.1 h1
  have hE:execOp m o=Pure.pure (Next.value (m x)):=by simp only [execOp,ho,e1]
  rw [hE]
  exact Sim.pure fun ρ hρ=>.inl ⟨_,rfl,h1.grow hρ⟩
 ·rename_i f a b hx
  obtain⟨a⟩:=a
  obtain⟨b⟩:=b
  have h1:=he x _ hx
  obtain⟨_,f',c',e1,_⟩:=VL.func.1 h1
  have hE:execOp m o=Pure.pure (Next.value (m x)):=by simp only [execOp,ho,e1]
  rw [hE]
  exact Sim.pure fun ρ hρ=>.inl ⟨_,rfl,h1.grow hρ⟩
 ·rename_i t v hx
  have h1:=he x _ hx
  obtain⟨x',e1,_⟩:=VL.iface.1 h1
  have hE:execOp m o=Pure.pure (Next.value (m x)):=by simp only [execOp,ho,e1]
  rw [hE]
  exact Sim.pure fun ρ hρ=>.inl ⟨_,rfl,h1.grow hρ⟩
 ·exact .fail
end Go.Proofs.YtgjolijncmkkhaaGreatDoor
namespace Go.Proofs.YtgjolijncmkkhaaGreatDoor
open Go.RowKit
set_option linter.unusedVariables false
variable {P:Program} {ρ0:Rn}
theorem Sim.aevs {γ δ:Type} {e:En} {m:Operand->Xl} (he:EnvR ρ0 e m) {c:Sem δ} {R:Rn->γ->δ->Prop}:∀(l:List Operand) {G:Xj->M γ},(∀vs,Good (G vs))->
  (∀vs,LR (VL ρ0) vs (l.map m)->Sim P ρ0 (G vs) c R)->Sim P ρ0 (zaj (aevs e l) G) c R:=by
 have tl:∀(l:List Operand) (s s':Hp) (vs:Xj),Tells (Go.Proofs.YtgjolijncmkkhaaGreatDoor.aevs e l) s vs s'->s'=s∧LR (VL ρ0) vs (l.map m):=by
  intro l
  induction l with
  | nil=>
   intro s s' vs h
   obtain⟨rfl,rfl⟩:=zad h
   exact⟨rfl,rfl⟩
  | cons x l ih=>
   intro s s' vs h
   unfold Go.Proofs.YtgjolijncmkkhaaGreatDoor.aevs at h
   split at h
   ·rename_i v hv
    obtain⟨ws,s1,h1,h2,_⟩:=zac (zaV e l) h
    obtain⟨rfl,hl⟩:=ih _ _ _ h1
    obtain⟨rfl,rfl⟩:=zad h2
    exact⟨rfl,m x,l.map m,rfl,he x v hv,hl⟩
   ·exact (zag h).elim
 intro l G hG h w0 B s s' a ρ w hρ ht H Aa
 obtain⟨vs,s1,h1,h2,_⟩:=zac (zaV e l) ht
 obtain⟨rfl,hl⟩:=tl l _ _ _ h1
 exact h vs hl w0 B _ s' a ρ w hρ h2 H Aa
theorem Sim.aev1 {γ δ:Type} {x:Option Xl} {G:Xl->M γ} {c:Sem δ} {R:Rn->γ->δ->Prop} (h:∀v,x=some v->Sim P ρ0 (G v) c R):Sim P ρ0 (zaj (maev x) G) c R:=by
 intro w0 B s s' a ρ w hρ ht H Aa
 obtain⟨v,s1,h1,h2,_⟩:=zac (zbo x) ht
 obtain⟨e1,rfl⟩:=zcn h1
 exact h v e1 w0 B _ s' a ρ w hρ h2 H Aa
theorem Sim.cut {γ δ:Type} {off n:Nat} {l:Xj} {G:Xj->M γ} {c:Sem δ} {R:Rn->γ->δ->Prop} (h:off+n<=l.length->Sim P ρ0 (G ((l.drop off).take n)) c R):Sim P ρ0 (zaj (cutV off n l) G) c R:=by
 intro w0 B s s' a ρ w hρ ht H Aa
 obtain⟨vs,s1,h1,h2,_⟩:=zac (zce _ _ _) ht
 obtain⟨e1,rfl,rfl⟩:=zdL h1
 exact h e1 w0 B _ s' a ρ w hρ h2 H Aa
theorem zqH (l:Xj) (off n:Nat):(⟨l⟩:Array Xl).extract off (off+n)=⟨(l.drop off).take n⟩:=by
 apply Array.ext'
 simp
theorem zpE {t:Xm} {l l':Xj} {off:Nat} (hl:LR (VL ρ0) l l'):Sim P ρ0 (zjh P t l off) (part t ⟨l'⟩ off) fun ρ a v=>VL ρ a v:=by
 unfold zjh
 split
 ·rename_i n hg hz
  unfold part
  refine Sim.skip true (ziW hg) ?_
  simp only [if_true]
  refine Sim.skip n (zaQ hz) ?_
  refine Sim.cut fun Ba=> ?_
  exact Sim.pure fun ρ hρ=>VL.agg.2 ⟨_,by rw [zqH],((hl.grow hρ).drop off).take n⟩
 ·rename_i n hg hz
  unfold part
  refine Sim.skip false (ziW hg) ?_
  simp only [Bool.false_eq_true,if_false]
  intro w0 B s s' a ρ w hρ ht H Aa
  obtain⟨e1,rfl⟩:=zcn ht
  obtain⟨v',e2,hv⟩:=(hl.grow hρ).at e1
  refine⟨v',w,ρ,?_,H,.rfl,hv⟩
  have:(⟨l'⟩:Array Xl)[off]? = some v':=by simpa using e2
  rw [this];rfl
 ·exact .fail
theorem zjY {t:Xm} {f off:Nat} {ft:Xm} (h:zju P t f=some (off,ft)):∃fs fd,P.underlying t=some (.struct fs)∧fs[f]? = some fd∧fd.offset=off∧fd.type=ft:=by
 unfold zju at h
 split at h
 ·rename_i fs hu
  split at h
  ·rename_i fd hf
   cases h
   exact⟨fs,fd,hu,hf,rfl,rfl⟩
  ·cases h
 ·cases h
theorem zwx {e:En} {m:Operand->Xl} (he:EnvR ρ0 e m) (t:Xm) (x:Operand) (f:Nat):Sim P ρ0 (zen P t x f e) (Instr.field t (m x) f) fun ρ a v=>VL ρ a v:=by
 unfold zen
 split
 ·rename_i Ba ft l hf hx
  obtain⟨fs,fd,hu,Aa,rfl,rfl⟩:=zjY hf
  obtain⟨l',e1,hl⟩:=VL.agg.1 (he x _ hx)
  unfold Instr.field
  refine Sim.skip _ (run_underlying hu) ?_
  simp only [Aa,e1]
  refine Sim.skip (⟨l'⟩:Array Xl) (fun _=>rfl) ?_
  exact zpE hl
 ·exact .fail
theorem zvP {a b:Addr} {n:Nat} {s s':Hp} (h:Tells (addA a n) s b s'):∃k off,a=⟨k,off,none⟩∧b=⟨k,off+n,none⟩∧s'=s:=by
 unfold addA at h
 split at h
 ·rw [forceN_eq]at h
  obtain⟨rfl,rfl⟩:=zad h
  exact⟨_,_,rfl,rfl,rfl⟩
 ·exact (zag h).elim
theorem zhU {a a':Addr} {n:Nat} (ha:VL ρ0 (.pointer (some a)) (.pointer (some a'))):Sim P ρ0 (zjr a n) (Pure.pure (Value.pointer (some (a'.add n)))) fun ρ a v=>VL ρ a v:=by
 intro w0 B s s' v ρ w hρ ht H Ba
 obtain⟨b,s1,h1,h2,_⟩:=zac (znm _ _) ht
 obtain⟨k,Aa,rfl,rfl,rfl⟩:=zvP h1
 obtain⟨rfl,rfl⟩:=zad h2
 refine⟨_,w,ρ,rfl,H,.rfl,?_⟩
 obtain⟨_,p,hp,e1⟩:=VL.ptr.1 (ha.grow hρ)
 cases e1
 refine VL.ptr.2 ⟨rfl,p,hp,?_⟩
 rw [zcB]
 simp only [Nat.add_assoc]
theorem zoN {e:En} {m:Operand->Xl} (he:EnvR ρ0 e m) (t:Xm) (x:Operand) (f:Nat):Sim P ρ0 (zbZ P t x f e) (Instr.fieldAt t (m x) f) fun ρ a v=>VL ρ a v:=by
 unfold zbZ
 split
 ·rename_i Da a hf hx
  unfold zzu at hf
  split at hf
  ·rename_i Aa ft Ba
   split at hf
   ·rename_i k hz
    cases hf
    obtain⟨fs,fd,hu,Ca,rfl,rfl⟩:=zjY Ba
    have h1:=he x _ hx
    obtain⟨_,p,_,e1⟩:=VL.ptr.1 h1
    rw [e1]at h1 ⊢
    unfold Instr.fieldAt
    refine Sim.skip _ (run_underlying hu) ?_
    simp only [Ca]
    refine Sim.skip _ zcV ?_
    refine Sim.skip _ (fun w=> ?_) (zhU h1)
    unfold fieldPlace
    simp only [Sem.run_bind,zaQ hz,Result.andThen,Nat.add_one_ne_zero,if_false,Sem.run_pure]
   ·cases hf
  ·cases hf
 ·exact .fail
theorem zoe {t el:Xm} {n z:Nat} (h:zph P t=some (n,z,el)):P.underlying t=some (.array n el)∧szOf P el=some z:=by
 unfold zph at h
 split at h
 ·rename_i hu
  split at h
  ·rename_i hz;cases h;exact⟨hu,hz⟩
  ·cases h
 ·cases h
theorem zcS {t el:Xm} (h:zcj P t=some el):P.underlying t=some (.slice el):=by
 unfold zcj at h
 split at h
 ·rename_i hu;cases h;exact hu
 ·cases h
theorem zcZ {i n:Nat} (h:Nat.blt i n=true):i<n:=by rw [blt_eq]at h;simpa using h
theorem zoM {e:En} {m:Operand->Xl} (he:EnvR ρ0 e m) (t:Xm) (x ix:Operand):Sim P ρ0 (zca P t x ix e) (Instr.indexAt t (m x) (m ix)) fun ρ a v=>VL ρ a v:=by
 unfold zca
 split
 ·rename_i a k i hx hi
  split
  ·rename_i n z el hA
   split
   ·rename_i Ca
    obtain⟨hu,hz⟩:=zoe hA
    have h1:=he x _ hx
    have h2:=VL.int.1 (he ix _ hi)
    obtain⟨_,p,_,e1⟩:=VL.ptr.1 h1
    rw [e1]at h1 ⊢
    rw [h2]
    have hb:(0:Int)<=(i:Int)∧(i:Int)<(n:Int):=⟨Int.natCast_nonneg _,by have:=zcZ Ca;omega⟩
    intro w0 B s s' v ρ w hρ ht H Da
    obtain⟨v',w',ρ',hr,Aa⟩:=zhU (P:=P) h1 w0 B s s' v ρ w hρ ht H Da
    refine⟨v',w',ρ',?_,Aa⟩
    rw [<-hr]
    simp only [Instr.indexAt,asIntOf,Sem.run_bind,Sem.run_pure,Result.andThen,run_underlying hu,zcV,Int.ofNat_eq_natCast,Int.toNat_natCast]
    rw [if_pos hb]
    simp only [Sem.run_bind,zaQ hz,Result.andThen]
    try rfl
   ·exact .fail
  ·exact .fail
 ·rename_i a n c k i hx hi
  split
  ·rename_i z Ba Ca
   cases hel:zcj P t with
   | none=>rw [hel]at Ba;cases Ba
   | some el=>
    rw [hel]at Ba
    have hz:szOf P el=some z:=Ba
    have hu:=zcS hel
    have h2:=VL.int.1 (he ix _ hi)
    obtain⟨Ga,Ia,p,hp,a',c',e1,e2,e3,_⟩:=VL.slice.1 (he x _ hx)
    have Fa:=zcZ Ca
    have Ha:=e3 (by omega)
    have h1:VL ρ0 (.pointer (some a)) (.pointer (some a')):=VL.ptr.2 ⟨Ga,p,hp,by rw [Ha]⟩
    rw [e1,h2]
    have hb:(0:Int)<=(i:Int)∧(i:Int)<(n:Int):=⟨Int.natCast_nonneg _,by omega⟩
    intro w0 B s s' v ρ w hρ ht H Da
    obtain⟨v',w',ρ',hr,Aa⟩:=zhU (P:=P) h1 w0 B s s' v ρ w hρ ht H Da
    refine⟨v',w',ρ',?_,Aa⟩
    rw [<-hr]
    simp only [Instr.indexAt,asIntOf,Sem.run_bind,Sem.run_pure,Result.andThen,run_underlying hu,Int.ofNat_eq_natCast,Int.toNat_natCast]
    rw [if_pos hb]
    simp only [Sem.run_bind,zaQ hz,Result.andThen]
    try rfl
  ·exact .fail
 ·exact .fail
theorem zvb {e:En} {m:Operand->Xl} (he:EnvR ρ0 e m) (t:Xm) (x ix:Operand):Sim P ρ0 (zer P t x ix e) (Instr.index t (m x) (m ix)) fun ρ a v=>VL ρ a v:=by
 unfold zer
 split
 ·rename_i b k i hx hi
  rw [VL.string.1 (he x _ hx),VL.int.1 (he ix _ hi)]
  exact zcP
 ·rename_i l k i hx hi
  split
  ·rename_i n z el hA
   split
   ·rename_i Ba
    obtain⟨hu,hz⟩:=zoe hA
    obtain⟨l',e1,hl⟩:=VL.agg.1 (he x _ hx)
    rw [e1,VL.int.1 (he ix _ hi)]
    have hb:(0:Int)<=(i:Int)∧(i:Int)<(n:Int):=⟨Int.natCast_nonneg _,by have:=zcZ Ba;omega⟩
    intro w0 B s s' v ρ w hρ ht H Ca
    obtain⟨v',w',ρ',hr,Aa⟩:=zpE (P:=P) hl w0 B s s' v ρ w hρ ht H Ca
    refine⟨v',w',ρ',?_,Aa⟩
    rw [<-hr]
    simp only [Instr.index,asIntOf,Sem.run_bind,Sem.run_pure,Result.andThen,run_underlying hu,Int.ofNat_eq_natCast,Int.toNat_natCast]
    rw [if_pos hb]
    simp only [Sem.run_bind,zaQ hz,Result.andThen]
    try rfl
   ·exact .fail
  ·exact .fail
 ·exact .fail
theorem zrY {e:En} {m:Operand->Xl} (he:EnvR ρ0 e m) (x:Operand) (i:Nat):Sim P ρ0 (zcT x i e) (Instr.extract (m x) i) fun ρ a v=>VL ρ a v:=by
 unfold zcT
 split
 ·rename_i l hx
  obtain⟨l',e1,hl⟩:=VL.tuple.1 (he x _ hx)
  rw [e1]
  intro w0 B s s' v ρ w hρ ht H Aa
  obtain⟨e2,rfl⟩:=zcn ht
  obtain⟨v',e3,hv⟩:=(hl.grow hρ).at e2
  refine⟨v',w,ρ,?_,H,.rfl,hv⟩
  have:(⟨l'⟩:Array Xl)[i]? = some v':=by simpa using e3
  simp only [Instr.extract,this];rfl
 ·exact .fail
theorem zjD {e:En} {m:Operand->Xl} (he:EnvR ρ0 e m) (t:Xm) (x:Operand):Sim P ρ0 (zbm P t x e) (Instr.makeInterface t (m x)) fun ρ a v=>VL ρ a v:=by
 unfold zbm
 split
 ·exact .fail
 ·rename_i d Aa hu
  refine Sim.aev1 fun v hv=> ?_
  refine Sim.of (v:=.iface t (m x)) (fun w=> ?_) fun ρ hρ=>VL.iface.2 ⟨_,rfl,(he x v hv).grow hρ⟩
  simp only [Instr.makeInterface,Sem.run_bind,run_underlying hu,Result.andThen]
  cases d<;>first
   | rfl
   | exact (Aa _ rfl).elim
 ·exact .fail
theorem zrc {e:En} {m:Operand->Xl} (he:EnvR ρ0 e m) (fn:Fn) (a b:Array Operand):Sim P ρ0 (zcp fn a b e) (Instr.makeFunc fn (a.map m) (b.map m)) fun ρ a v=>VL ρ a v:=by
 unfold zcp
 split
 ·rename_i hf
  refine Sim.aevs he _ (fun _=>zab (zaV _ _) fun _=>zaf _) fun vs Ba=>Sim.aevs he _ (fun _=>zaf _) fun us Aa=> ?_
  refine Sim.of (v:=.func fn (a.map m) (b.map m)) (fun w=>rfl) fun ρ hρ=>VL.func.2 ⟨?_,_,_,?_,Ba.grow hρ,Aa.grow hρ⟩
  ·cases fn<;>first | exact trivial | cases hf
  ·congr 1<;>(apply Array.ext';simp)
 ·exact .fail
theorem zsa (t:Xm) (r:Option Operand) (m:Operand->Xl):Sim P ρ0 (zcQ r) (Instr.makeMap t (r.map m)) fun ρ a v=>VL ρ a v:=by
 unfold zcQ
 split
 ·intro w0 B s s' v ρ w hρ ht H Ca
  obtain⟨id,s1,h1,h2,_⟩:=zac (zki _) ht
  obtain⟨rfl,Da,e1,e2⟩:=zol h1
  obtain⟨rfl,rfl⟩:=zad h2
  have hn:=Ca s.n (Nat.le_refl _) (by omega)
  refine⟨.map (some w.heap.size),{ w with heap:=w.heap.push (.map #[] 0) },ρ.put s.n ⟨w.heap.size,0,0,0,0⟩,rfl,?_,?_,VL.map.2 ⟨_,if_pos rfl,rfl⟩⟩
  ·rw [e1]
   refine H.new hn Da (Nat.le_trans H.base H.below.size) (fun id o p Aa hp=> ?_) (zdT H.below (Nat.le_trans H.base H.below.size) _) (fun id o p Aa hp=> ?_) ?_
   ·obtain⟨q,hq,Ba⟩:=(H.obj id o Aa).place
    rw [hp]at hq;cases hq
    exact Nat.ne_of_lt Ba
   ·obtain⟨q,hq,Ba⟩:=(H.obj id o Aa).place
    rw [hp]at hq;cases hq
    simp only []
    rw [Array.getElem?_push,if_neg (by omega)]
   ·exact⟨_,if_pos rfl,by simp⟩
  ·rw [e2];exact .put hn _
 ·exact .fail
end Go.Proofs.YtgjolijncmkkhaaGreatDoor
