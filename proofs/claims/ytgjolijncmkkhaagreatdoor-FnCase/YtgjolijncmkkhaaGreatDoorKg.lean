/- Own texts joined: L2bent. -/
import Derived.Test.YtgjolijncmkkhaaGreatDoorKa
import Derived.Test.YtgjolijncmkkhaaGreatDoorKe
import Derived.Test.YtgjolijncmkkhaaGreatDoorKf
import Derived.Lib.SlBytesConst
import Derived.Deep.AppendLies
import Derived.Deep.RegionLaw
import Derived.Deep.Cut
import Derived.Deep.CutRange
import Derived.Deep.CutBlock
namespace Go.Proofs.YtgjolijncmkkhaaGreatDoor
open Go.RowKit
set_option linter.unusedVariables false
set_option maxRecDepth 100000
theorem zwS {α:Type} (P:Nat->α->Prop):∃f:α->Nat,∀a d,P d a->∃D,D=f a∧P D a∧D<=d:=by
 have Aa:∀(n:Nat) (a:α),P n a->∃d,P d a∧∀e,P e a->d<=e:=by
  intro n
  induction n using Nat.strongRecOn with
  | ind n ih=>
   intro a h
   by_cases hx:∃m,m<n∧P m a
   ·obtain⟨m,hm,hp⟩:=hx
    exact ih m hm a hp
   ·exact⟨n,h,fun e he=>Nat.le_of_not_lt (fun Ba=>hx ⟨e,Ba,he⟩)⟩
 have all:∀a,∃d,∀e,P e a->P d a∧d<=e:=fun a=>by
  by_cases hx:∃n,P n a
  ·obtain⟨n,hn⟩:=hx
   obtain⟨d,h1,h2⟩:=Aa n a hn
   exact⟨d,fun e he=>⟨h1,h2 e he⟩⟩
  ·exact⟨0,fun e he=>absurd ⟨e,he⟩ hx⟩
 exact⟨fun a=>Classical.choose (all a),fun a d h=>⟨_,rfl,Classical.choose_spec (all a) d h⟩⟩
def BS (w0 w:Xk) (g:Nat) (code:Xl) (l:Xg) (b:Nat) (wr:Xk):Prop:=NB wr w.heap.size∧NB wr b∧w.heap.size<b∧Cur w0 wr g code l∧w.grownBy wr (some g)
theorem BS.frm {w0 w wr w':Xk} {g b:Nat} {code:Xl} {l:Xg} {S:Xh} (h:BS w0 w g code l b wr) (f:Frm wr w' S) (hS:∀q∈S,q=g∨w.heap.size<q) (hg:g<w.heap.size) (hb:b∉S) (hC:Cur w0 w' g code l):BS w0 w g code l b w':=by
 obtain⟨h1,h2,h3,h4,h5⟩:=h
 refine⟨h1.frm f (fun e=>by rcases hS _ e with e | e<;>omega),h2.frm f hb,h3,hC,?_⟩
 refine⟨f.os.trans h5.os,f.tape.trans h5.tape,f.output.trans h5.output,Nat.le_trans h5.size f.size,fun k hk hn=> ?_⟩
 rw [f.block k (Nat.lt_of_lt_of_le hk h5.size) (fun e=>by
  rcases hS _ e with rfl | e
  ·exact hn rfl
  ·omega)]
 exact h5.block k hk hn
theorem BS.store {w0 w wr:Xk} {g b bx off:Nat} {code:Xl} {l:Xg} (h:BS w0 w g code l b wr) (hr:(bx=b∧off=0)∨bx≠b) (hbx:w.heap.size<bx) (hg:g<w.heap.size) (hs:w0.heap.size<=w.heap.size) (i:Nat) (v:Xl) (hv:Shp i v):BS w0 w g code l b (wr.setCell ⟨bx,off+i,none⟩ v):=by
 obtain⟨h1,h2,h3,h4,h5⟩:=h
 have f:=zap wr bx (off+i) v
 refine⟨h1.frm f (by simp;omega),h2.store hr i v hv,h3,h4.set' (Frm.toGrown' f) (by omega) (by omega),?_⟩
 exact zcM h5 (Frm.toGrown' f) (fun q hq=>by cases hq;omega)
def Tg (H b:Nat) (wr:Xk) (bx off:Nat) (u0 u1 u2 u3 u4:Xl):Prop:=N5 wr bx off u0 u1 u2 u3 u4∧Raw wr 5 1 u2∧Raw wr 132 2 u3∧Raw wr 29 5 u4∧(∀q∈FB u2++FB u3++FB u4,H<q∧q≠bx∧q≠b)∧H<bx∧((bx=b∧off=0)∨bx≠b)
theorem Tg.frm {H b:Nat} {wr w':Xk} {bx off:Nat} {u0 u1 u2 u3 u4:Xl} {S:Xh} (h:Tg H b wr bx off u0 u1 u2 u3 u4) (f:Frm wr w' S) (hx:bx∉S) (hS:∀q∈FB u2++FB u3++FB u4,q∉S):Tg H b w' bx off u0 u1 u2 u3 u4:=by
 obtain⟨h1,h2,h3,h4,h5,h6,h7⟩:=h
 exact⟨h1.frm f hx,h2.frm f (fun q hq=>hS q (by simp [hq])),h3.frm f (fun q hq=>hS q (by simp [hq])),h4.frm f (fun q hq=>hS q (by simp [hq])),h5,h6,h7⟩
def Dn (H b g:Nat) (d:Nat) (s:Xl×Xk):Prop:=∃bx off u0 u1 u2 u3 u4,∃(t:Tr (d+1)) (F:Xh),s.1=.pointer (some ⟨bx,off,none⟩)∧N5 s.2 bx off u0 u1 u2 u3 u4∧OwNodeM (d+1) s.2 [u0,u1,u2,u3,u4] t F∧F.Nodup∧(∀q∈F,H<q∧q≠b)∧bx∉F∧H<bx∧((bx=b∧off=0)∨bx≠b)∧SmT (d+1) t∧g<H∧∃K,K+10000*d<=40000∧Cx b (BL H b) s.2 bx off (F++[g,H]) K
theorem Dn.frm {H b g d:Nat} {p:Xl} {wr w':Xk} {S:Xh} (h:Dn H b g d (p,wr)) (f:Frm wr w' S) (hS':∀q∈S,q=g):Dn H b g d (p,w'):=by
 obtain⟨bx,Aa,u0,u1,u2,u3,u4,t,F,h1,h2,h3,h4,h5,h6,h7,h8,h9,hg,K,hK,hC⟩:=h
 have hS:∀q∈S,q<=H:=fun q hq=>by rw [hS' q hq];omega
 exact⟨bx,Aa,u0,u1,u2,u3,u4,t,F,h1,h2.frm f (fun e=>by have:=hS _ e;omega),OwNodeM.frm h3 f (fun q hq e=>by have:=hS _ e;have:=(h5 q hq).1;omega),h4,h5,h6,h7,h8,h9,hg,K,hK,hC.step f (fun q hq=>by simp [hS' q hq]) (fun e=>by have:=hS _ e;omega) h2.lt⟩
def capS:Nat->Nat
 | 0=>0
 | n+1=>80+3*capS n
theorem zuJ:∀(l:List (Xg×Xg)),SmA l->szA l<=17*l.length
 | [],_=>by simp [szA]
 | x::l,h=>by
  have h1:=zuJ l fun y hy=>h y (List.mem_cons_of_mem _ hy)
  obtain⟨h2,h3⟩:=h x (List.mem_cons_self ..)
  unfold szA at h1 ⊢
  simp only [List.map_cons,List.sum_cons,List.length_cons]
  omega
theorem znZ:∀(n:Nat) (t:Tr n),SmT n t->szT n t<=capS n
 | 0,t,_=>Nat.le_refl _
 | n+1,t,⟨h1,h2,h3,h4,h5,h6⟩=>by
  have h7:=zuJ _ h4
  have h8:∀(l:List (Tr n)),(∀k∈l,SmT n k)->(l.map (szT n)).sum<=capS n*l.length:=by
   intro l
   induction l with
   | nil=>simp
   | cons x l ih=>
    intro hl
    have:=ih fun k hk=>hl k (List.mem_cons_of_mem _ hk)
    have:=znZ n x (hl x (List.mem_cons_self ..))
    simp only [List.map_cons,List.sum_cons,List.length_cons,Nat.mul_succ]
    omega
  have h9:=h8 _ h6
  have Aa:capS n*t.kids.length<=capS n*3:=Nat.mul_le_mul_left _ h5
  show t.name.length+t.text.length+szA t.attrs+(t.kids.length+(t.kids.map (szT n)).sum)<=80+3*capS n
  omega
theorem zoH:∀d,d<=4->capS (d+1)<=10000
 | 0,_ | 1,_ | 2,_ | 3,_ | 4,_=>by decide
theorem Dn.rx {H b g d:Nat} {p:Xl} {w:Xk} (h:Dn H b g d (p,w)) (hb:b<w.heap.size):RXn H b 0 w:=by
 obtain⟨bx,Aa,u0,u1,u2,u3,u4,t,F,h1,h2,h3,h4,h5,h6,h7,h8,h9,hg,K,hK,hC⟩:=h
 exact TX.rx (g:=g) ⟨d,_,F,K,zkQ h3,h4,h5,h6,h7,hg,hb,h2,hC,by rw [znW];exact Nat.le_trans (znZ _ _ h9) (Nat.le_trans (zoH d (by omega)) (by decide)),by omega⟩
theorem NB.lt {w:Xk} {b:Nat} (h:NB w b):b<w.heap.size:=by
 obtain⟨_,_,_,_,_,_,_,_,_,_,_,_,_,h⟩:=h
 exact h.lt
theorem NB.put5 {w:Xk} {rb:Nat} (h:NB w rb) (u0 u1 u2 u3 u4:Xl):N5 (((((w.setCell ⟨rb,0,none⟩ u0).setCell ⟨rb,1,none⟩ u1).setCell ⟨rb,2,none⟩ u2).setCell ⟨rb,3,none⟩ u3).setCell ⟨rb,4,none⟩ u4) rb 0 u0 u1 u2 u3 u4:=by
 obtain⟨kd,a1,n1,c1,a2,n2,c2,a3,n3,c3,a4,n4,c4,h⟩:=h
 have:=((((h.put (i:=0) (v:=u0)).put (i:=1) (v:=u1)).put (i:=2) (v:=u2)).put (i:=3) (v:=u3)).put (i:=4) (v:=u4)
 simpa using this
theorem zoE (w:Xk) (rb:Nat) (u0 u1 u2 u3 u4:Xl):Frm w (((((w.setCell ⟨rb,0,none⟩ u0).setCell ⟨rb,1,none⟩ u1).setCell ⟨rb,2,none⟩ u2).setCell ⟨rb,3,none⟩ u3).setCell ⟨rb,4,none⟩ u4) [rb]:=
 ((((zap _ _ _ _).trans (zap _ _ _ _)).trans (zap _ _ _ _)).trans (zap _ _ _ _)).trans (zap _ _ _ _)
theorem Frm.cell4 {w w':Xk} {S:Xh} {bx off:Nat} (hf:Frm w w' S) (h:Bk w bx off) (hn:bx∉S):w'.cell? ⟨bx,off+4,none⟩=w.cell? ⟨bx,off+4,none⟩:=by
 unfold World.cell?
 rw [hf.block bx h.lt hn]
def Lb21 (w0 wst w3:Xk) (g b bx off:Nat) (code:Xl) (l:Xg) (ka:Xi) (kc dd:Nat) (ks:List (Tr (dd+1))) (Fk:Xh) (s1 s2 s3 s5 s6 s7 s8 s9 s10 s11 s12 s13 s14 s15 s16 s17 s18 s19 s20 s21 s22 s23 s24 s25 s26 s27 s28 s29 s30 s31 s32 s33 s34 s35 s36 s37 s38 s39 s40 s41 s42 s43 s44 s45 s46 s47 s48 s49 s50 s51 s52 s53 s54 s55 s56 s57 s58 s59 s60 s61 s62 s63 s64 s65 s66 s67 s68 s69 s70 s71 s72 s73 s74 s75 s76 s77 s78 s79 s80 s81 s82 s83 s84 s85 s86 s87 s88 s89 s90 s91 s92 s93 s94 s95 s96 s97 s98 s99 s100 s101 s102 s118 s119 s120 s121 s122 s123 s124 s125 s126 s127 s128 s129:Xl) (L:Array Bool) (a:Act) (w:Xk):Prop:=
 ∀C:Prop,(∀(b0 b1 b2 b3 b4 b5 b6 b7 b8 b9 b10 b11 b12 b13 b14 b15 b16:Bool) (x103 x104 x105 x106 x107 x108 x109 x110 x111 x112 x113 x114 x115 x116 x117:Xl),L = #[b0,b1,b2,b3,b4,b5,b6,b7,b8,b9,b10,b11,b12,b13,b14,b15,b16]->a={ tmps:= #[.pointer (some ⟨g,0,none⟩),s1,s2,s3,.pointer (some ⟨bx,off,none⟩),s5,s6,s7,s8,s9,s10,s11,s12,s13,s14,s15,s16,s17,s18,s19,s20,s21,s22,s23,s24,s25,s26,s27,s28,s29,s30,s31,s32,s33,s34,s35,s36,s37,s38,s39,s40,s41,s42,s43,s44,s45,s46,s47,s48,s49,s50,s51,s52,s53,s54,s55,s56,s57,s58,s59,s60,s61,s62,s63,s64,s65,s66,s67,s68,s69,s70,s71,s72,s73,s74,s75,s76,s77,s78,s79,s80,s81,s82,s83,s84,s85,s86,s87,s88,s89,s90,s91,s92,s93,s94,s95,s96,s97,s98,s99,s100,s101,s102,x103,x104,x105,x106,x107,x108,x109,x110,x111,x112,x113,x114,x115,x116,x117,s118,s119,s120,s121,s122,s123,s124,s125,s126,s127,s128,s129],defers:=[] }->BS w0 wst g code l b w->(Frm w3 w (bx::g::Fk)∧∀j,j≠off+4->w.cell? ⟨bx,j,none⟩=w3.cell? ⟨bx,j,none⟩)->Bk w bx off->(b11=false->w.cell? ⟨bx,off+4,none⟩=some (.slice ka ks.length kc)∧OwKidsM (dd+1) w (.slice ka ks.length kc) ks Fk)->(b0=true->x103=.pointer (some ⟨bx,off,none⟩))->(b1=true->x104=.pointer (some ⟨bx,off,none⟩))->(b2=true->x105=.pointer (some ⟨bx,off+4,none⟩))->(b3=true->x106=.slice ka ks.length kc)->(b4=true->x107=.pointer (some ⟨g,0,none⟩))->(b5=true->∃y:Int,0<=y∧y<2∧x108=.int .i64 y)->(b6=true->∃y:Int,0<=y∧y<2∧x109=.int .i64 (30+y))->(b7=true->∃p m,x110=.slice (some ⟨p,0,none⟩) m m∧m<=31∧w3.heap.size<=p∧(b8=false->RowM w 0 (.slice (some ⟨p,0,none⟩) m m) (List.replicate m 0)))->(b8=true->True∧∃kd' a1' n1' c1' a2' n2' c2',x111=.agg #[.int .i64 kd',.slice a1' n1' c1',.slice a2' n2' c2',.slice none 0 0,.slice none 0 0]∧(b13=false->LfK w3.heap.size w kd' (.slice a1' n1' c1') (.slice a2' n2' c2')))->(b9=true->x112=.int .i64 (ks.length:Int))->(b10=true->∃z,x113=.slice (some ⟨z,0,none⟩) 1 1∧w3.heap.size<=z∧(b11=false->Loc w z #[.int .i64 0,.slice none 0 0,.slice none 0 0,.slice none 0 0,.slice none 0 0] 29))->(b11=true->b3=true∧b10=true∧True∧∃gq cq,x114=.slice (some ⟨gq,0,none⟩) (ks.length+1) cq∧AppF wst.heap.size b bx w3.heap.size Fk dd ks b13 w gq cq)->(b12=true->b11=true∧∃gq cq,x114=.slice (some ⟨gq,0,none⟩) (ks.length+1) cq∧x115=.pointer (some ⟨gq,ks.length*5,none⟩))->(b14=true->x116=.pointer (some ⟨bx,off,none⟩))->(b15=true->x117=.pointer (some ⟨bx,off+4,none⟩))->(b16=true->b11=true∧w.cell? ⟨bx,off+4,none⟩=some x114)->C)->C
theorem zsQ {i:Nat} (h:i<17):i=0∨i=1∨i=2∨i=3∨i=4∨i=5∨i=6∨i=7∨i=8∨i=9∨i=10∨i=11∨i=12∨i=13∨i=14∨i=15∨i=16:=by omega
def Lb11 (w0 wst w3:Xk) (g b bx off:Nat) (code:Xl) (l:Xg) (ka:Xi) (kc dd:Nat) (ks:List (Tr (dd+1))) (Fk:Xh) (s1 s2 s3 s5 s6 s7 s8 s9 s10 s11 s12 s13 s14 s15 s16 s17 s18 s19 s20 s21 s22 s23 s24 s25 s26 s27 s28 s29 s30 s31 s32 s33 s34 s35 s36 s37 s38 s39 s40 s54 s55 s56 s57 s58 s59 s60 s61 s62 s63 s64 s65 s66 s67 s68 s69 s70 s71 s72 s73 s74 s75 s76 s77 s78 s79 s80 s81 s82 s83 s84 s85 s86 s87 s88 s89 s90 s91 s92 s93 s94 s95 s96 s97 s98 s99 s100 s101 s102 s103 s104 s105 s106 s107 s108 s109 s110 s111 s112 s113 s114 s115 s116 s117 s118 s119 s120 s121 s122 s123 s124 s125 s126 s127 s128 s129:Xl) (L:Array Bool) (a:Act) (w:Xk):Prop:=
 ∀C:Prop,(∀(b0 b1 b2 b3 b4 b5 b6 b7 b8 b9 b10 b11 b12 b13 b14:Bool) (x41 x42 x43 x44 x45 x46 x47 x48 x49 x50 x51 x52 x53:Xl),L = #[b0,b1,b2,b3,b4,b5,b6,b7,b8,b9,b10,b11,b12,b13,b14]->a={ tmps:= #[.pointer (some ⟨g,0,none⟩),s1,s2,s3,.pointer (some ⟨bx,off,none⟩),s5,s6,s7,s8,s9,s10,s11,s12,s13,s14,s15,s16,s17,s18,s19,s20,s21,s22,s23,s24,s25,s26,s27,s28,s29,s30,s31,s32,s33,s34,s35,s36,s37,s38,s39,s40,x41,x42,x43,x44,x45,x46,x47,x48,x49,x50,x51,x52,x53,s54,s55,s56,s57,s58,s59,s60,s61,s62,s63,s64,s65,s66,s67,s68,s69,s70,s71,s72,s73,s74,s75,s76,s77,s78,s79,s80,s81,s82,s83,s84,s85,s86,s87,s88,s89,s90,s91,s92,s93,s94,s95,s96,s97,s98,s99,s100,s101,s102,s103,s104,s105,s106,s107,s108,s109,s110,s111,s112,s113,s114,s115,s116,s117,s118,s119,s120,s121,s122,s123,s124,s125,s126,s127,s128,s129],defers:=[] }->BS w0 wst g code l b w->(Frm w3 w (bx::g::Fk)∧∀j,j≠off+4->w.cell? ⟨bx,j,none⟩=w3.cell? ⟨bx,j,none⟩)->Bk w bx off->(b9=false->w.cell? ⟨bx,off+4,none⟩=some (.slice ka ks.length kc)∧OwKidsM (dd+1) w (.slice ka ks.length kc) ks Fk)->(b0=true->x41=.pointer (some ⟨bx,off,none⟩))->(b1=true->x42=.pointer (some ⟨bx,off,none⟩))->(b2=true->x43=.pointer (some ⟨bx,off+4,none⟩))->(b3=true->x44=.slice ka ks.length kc)->(b4=true->∃p,x45=.slice (some ⟨p,0,none⟩) 1 1∧w3.heap.size<=p∧(b5=false->Loc w p #[.int .u8 98] 5))->(b5=true->b4=true∧∃p,x46=.slice (some ⟨p,0,none⟩) 1 1∧w3.heap.size<=p∧(b6=false->RowM w 0 (.slice (some ⟨p,0,none⟩) 1 1) [98]))->(b6=true->b5=true∧∃kd' a1' n1' c1' a2' n2' c2',x47=.agg #[.int .i64 kd',.slice a1' n1' c1',.slice a2' n2' c2',.slice none 0 0,.slice none 0 0]∧(b11=false->LfK w3.heap.size w kd' (.slice a1' n1' c1') (.slice a2' n2' c2')))->(b7=true->x48=.int .i64 (ks.length:Int))->(b8=true->∃z,x49=.slice (some ⟨z,0,none⟩) 1 1∧w3.heap.size<=z∧(b9=false->Loc w z #[.int .i64 0,.slice none 0 0,.slice none 0 0,.slice none 0 0,.slice none 0 0] 29))->(b9=true->b3=true∧b8=true∧b5=true∧∃gq cq,x50=.slice (some ⟨gq,0,none⟩) (ks.length+1) cq∧AppF wst.heap.size b bx w3.heap.size Fk dd ks b11 w gq cq)->(b10=true->b9=true∧∃gq cq,x50=.slice (some ⟨gq,0,none⟩) (ks.length+1) cq∧x51=.pointer (some ⟨gq,ks.length*5,none⟩))->(b12=true->x52=.pointer (some ⟨bx,off,none⟩))->(b13=true->x53=.pointer (some ⟨bx,off+4,none⟩))->(b14=true->b9=true∧w.cell? ⟨bx,off+4,none⟩=some x50)->C)->C
theorem zsB {i:Nat} (h:i<15):i=0∨i=1∨i=2∨i=3∨i=4∨i=5∨i=6∨i=7∨i=8∨i=9∨i=10∨i=11∨i=12∨i=13∨i=14:=by omega
theorem BS.put5 {w0 w wr:Xk} {g b:Nat} {code:Xl} {l:Xg} (h:BS w0 w g code l b wr) (hg:g<w.heap.size) (hs:w0.heap.size<=w.heap.size) (u1 u4:Xl) (h1:∃a n c,u1=.slice a n c) (h4:∃a n c,u4=.slice a n c) :
  BS w0 w g code l b (((((wr.setCell ⟨b,0,none⟩ (.int .i64 0)).setCell ⟨b,1,none⟩ u1).setCell ⟨b,2,none⟩ (.slice none 0 0)).setCell ⟨b,3,none⟩ (.slice none 0 0)).setCell ⟨b,4,none⟩ u4):=by
 obtain⟨a1,n1,c1,rfl⟩:=h1
 obtain⟨a4,n4,c4,rfl⟩:=h4
 have hb:=h.2.2.1
 have s0:=h.store (bx:=b) (off:=0) (.inl ⟨rfl,rfl⟩) hb hg hs 0 (.int .i64 0) ⟨_,rfl⟩
 have s1:=s0.store (bx:=b) (off:=0) (.inl ⟨rfl,rfl⟩) hb hg hs 1 (.slice a1 n1 c1) ⟨_,_,_,rfl⟩
 have s2:=s1.store (bx:=b) (off:=0) (.inl ⟨rfl,rfl⟩) hb hg hs 2 (.slice none 0 0) ⟨_,_,_,rfl⟩
 have s3:=s2.store (bx:=b) (off:=0) (.inl ⟨rfl,rfl⟩) hb hg hs 3 (.slice none 0 0) ⟨_,_,_,rfl⟩
 have s4:=s3.store (bx:=b) (off:=0) (.inl ⟨rfl,rfl⟩) hb hg hs 4 (.slice a4 n4 c4) ⟨_,_,_,rfl⟩
 simpa using s4
set_option maxHeartbeats 25600000 in
theorem zsv (w0 wst:Xk) (g:Nat) (code:Xl) (l:Xg) (h:Cur w0 wst g code l) :
  Calls Tryz.prog 35 #[.pointer (some ⟨g,0,none⟩)] wst fun e w'=>∃kd a1 n1 c1 a2 n2 c2 a3 n3 c3 a4 n4 c4,e=.returned (.agg #[.int .i64 kd,.slice a1 n1 c1,.slice a2 n2 c2,.slice a3 n3 c3,.slice a4 n4 c4])∧RdX w' (List.range wst.heap.size) [.int .i64 kd,.slice a1 n1 c1,.slice a2 n2 c2,.slice a3 n3 c3,.slice a4 n4 c4] 1000000∧Cur w0 w' g code l∧wst.grownBy w' (some g):=by
 have ga:=h.lt
 have Nc:=h.below.size
 have hA:=(Below.refl wst.heap.size wst).alloc (Nat.le_refl _) (.cells #[.int .i64 0,.slice none 0 0,.slice none 0 0,.slice none 0 0,.slice none 0 0] 29)
 have lr:=Loc.made wst #[.int .i64 0,.slice none 0 0,.slice none 0 0,.slice none 0 0,.slice none 0 0] 29
 have HD:=hide (zlp 4 (by decide) w0 _ g code l (h.keepAll hA))
 have LL:=hide (And.intro hA lr)
 clear hA lr h
 go_enter Tryz.func35,Tryz.ntmps35
 go_wp2_with fail
 refine (zaa HD).mono ?_
 rintro e w1 ⟨k,p1,n1,c1,p2,n2,c2,p3,n3,c3,p4,n4,c4,rfl,⟨t,F,hN,rb,Td,Pb⟩,se,He⟩
 obtain⟨hA,lr⟩:=zaa LL
 clear LL HD
 simp only [World.size_alloc]at Td
 have Yd:=lr.frm (Frm.ofGrown He) (by simp;omega)
 have be:=zcP hA He
 have Ed:=(Below.refl w1.heap.size w1).alloc (Nat.le_refl _) (.cells #[.int .i64 k,.slice p1 n1 c1,.slice p2 n2 c2,.slice p3 n3 c3,.slice p4 n4 c4] 29)
 have lb:=Loc.made w1 #[.int .i64 k,.slice p1 n1 c1,.slice p2 n2 c2,.slice p3 n3 c3,.slice p4 n4 c4] 29
 have hb:wst.heap.size<w1.heap.size:=Yd.lt
 have ma:BS w0 wst g code l w1.heap.size _:=⟨⟨_,_,_,_,_,_,_,_,_,_,_,_,_,N5.loc (Yd.all Ed)⟩,⟨_,_,_,_,_,_,_,_,_,_,_,_,_,N5.loc lb⟩,hb,se.keepAll Ed,zcC be Ed⟩
 have Sc:Dn wst.heap.size w1.heap.size g 4 (.pointer (some ⟨w1.heap.size,0,none⟩),w1.alloc (.cells #[.int .i64 k,.slice p1 n1 c1,.slice p2 n2 c2,.slice p3 n3 c3,.slice p4 n4 c4] 29)):=
  ⟨w1.heap.size,0,_,_,_,_,_,t,F,rfl,N5.loc lb,hN.keep Ed,rb,fun q hq=>by have:=Td q hq;omega,fun e=>by have:=Td _ e;omega,hb,.inl ⟨rfl,rfl⟩,Pb,ga,0,by decide,Cx.root _ _ _ _⟩
 have LL:=hide (And.intro ma Sc)
 have HO:=hide (zeU w0 _ g code l 5 ma.2.2.2.1 (by decide) (by decide))
 clear hA lr Yd be Ed lb ma Sc hN rb Td Pb se He
 go_upto_region 2 with fail
 generalize (w1.alloc (.cells #[.int .i64 k,.slice p1 n1 c1,.slice p2 n2 c2,.slice p3 n3 c3,.slice p4 n4 c4] 29))=w2 at *
 generalize w1.heap.size=b at *
 go_wp2_with fail
 refine (zaa HO).mono ?_
 rintro e w3 ⟨b5,rfl,ce,ad⟩
 obtain⟨ma,Sc⟩:=zaa LL
 clear LL HO
 have jc:=ma.frm (Frm.ofGrown ad) (fun q hq=>by simp at hq;exact .inl hq) ga (by simp;omega) ce
 have Ic:=Sc.frm (Frm.ofGrown ad) (fun q hq=>by simpa using hq)
 clear ma Sc ce ad
 cases b5 with
 | false=>
  obtain⟨Lc,⟨kd,a1,n1,c1,a2,n2,c2,a3,n3,c3,a4,n4,c4,mb⟩,Od,hC,hG⟩:=jc
  have Cc:=Lc.put5 (.int .i64 kd) (.slice a1 n1 c1) (.slice a2 n2 c2) (.slice a3 n3 c3) (.slice a4 n4 c4)
  have Qc:=zoE w3 wst.heap.size (.int .i64 kd) (.slice a1 n1 c1) (.slice a2 n2 c2) (.slice a3 n3 c3) (.slice a4 n4 c4)
  have zb:=hC.set' (Frm.toGrown' Qc) (by omega) Nc
  have fb:=zcM hG (Frm.toGrown' Qc) (fun q hq=>by cases hq;exact Nat.le_refl _)
  obtain⟨_,_,_,_,_,_,_,_,_,_,_,_,_,gb⟩:=id Lc
  obtain⟨y0,y1,y2,y3,y4⟩:=gb.cells
  have g0:=gb.frozen 0
  have g1:=gb.frozen 1
  have g2:=gb.frozen 2
  have g3:=gb.frozen 3
  have g4:=gb.frozen 4
  obtain⟨z0,z1,z2,z3,z4⟩:=mb.cells
  simp only [Nat.zero_add]at y0 y1 y2 y3 y4 z0 z1 z2 z3 z4
  have Jc:=((RX.rd (⟨0,by decide,Ic.rx mb.lt⟩) mb).frm Qc (by simp [zbZ])).less (S':=List.range wst.heap.size) (fun q hq=>by rw [zbZ];have:=List.mem_range.1 hq;omega)
  have HE:=hide (And.intro Cc.cells (And.intro zb (And.intro fb Jc)))
  clear Jc Cc Qc zb fb Lc gb mb hC hG Ic
  go_wp2_with fail
  obtain⟨⟨r0,r1,r2,r3,r4⟩,zb,fb,Jc⟩:=zaa HE
  simp only [Nat.zero_add]at r0 r1 r2 r3 r4
  exact bodyPost_ret (v:=.agg #[.int .i64 kd,.slice a1 n1 c1,.slice a2 n2 c2,.slice a3 n3 c3,.slice a4 n4 c4]) (by simp [results,Tryz.results35,go_sem,r0,r1,r2,r3,r4]) rfl ⟨_,_,_,_,_,_,_,_,_,_,_,_,_,rfl,Jc,zb,fb⟩
 | true=>
 obtain⟨f,hf⟩:=zwS (Dn wst.heap.size b g)
 have kb:=hide jc
 have je:=hide Ic
 clear jc Ic
 go_wp2_with fail
 go_loopw [4] (fun p wr=>BS w0 wst g code l b wr∧∃d,Dn wst.heap.size b g d (p,wr)) (fun p wr=>f (p,wr))
 case atStart=>exact⟨zaa kb,4,zaa je⟩
 case round=>
  clear kb je
  obtain⟨ma,d,hd⟩:=hrel
  obtain⟨D,Cf,Re,-⟩:=hf _ _ hd
  clear hd d
  obtain⟨bx,Ja,u0,u1,u2,u3,u4,t,F,rfl,sb,Dc,rb,hF,Gc,Ec,fa,Pb,-,Kx,ac,Pc⟩:=id Re
  obtain⟨va,vb,vc,vd,Fc,Fd,e0,k1,k2,Pe,wd,Md,Qd,Oe⟩:=id Dc
  simp only [List.cons.injEq,and_true]at e0
  obtain⟨rfl,rfl,rfl,rfl,rfl⟩:=e0
  obtain⟨x1,y1,rfl⟩:=Pe.shape
  obtain⟨x2,y2,rfl⟩:=wd.shape
  obtain⟨x3,y3,rfl,_,_⟩:=Elems.shape (OwAttrsM.rd Md)
  obtain⟨x4,y4,rfl,_,_⟩:=Elems.shape (OwKidsM.rd Qd)
  obtain⟨z0,z1,z2,z3,z4⟩:=sb.cells
  have md:t.kids.length<=3:=Pb.2.2.2.2.1
  have kb:=hide ma
  have Gd:=hide (show TX wst.heap.size b g wr bx Ja _ _ _ _ _ from ⟨D,_,F,Kx,zkQ Dc,rb,hF,Gc,Ec,ga,ma.2.1.lt,sb,Pc,by rw [znW];exact Nat.le_trans (znZ _ _ Pb) (Nat.le_trans (zoH D (by omega)) (by decide)),by omega⟩)
  have rc:=hide (show Tg wst.heap.size b wr bx Ja _ _ _ _ _ from ⟨sb,wd.raw,(by obtain⟨_,_,_,_,_,q,_⟩:=Md;exact zrL q),(by obtain⟨_,_,_,_,_,q,_⟩:=Qd;exact zrL q),fun q hq=>by
   have jd:q∈F:=by
    obtain⟨_,_,_,_,_,_,q3⟩:=Md
    obtain⟨_,_,_,_,_,_,q4⟩:=Qd
    rw [Oe,q3,q4]
    simp only [List.mem_append]at hq ⊢
    rcases hq with (hq | hq) | hq
    ·exact .inl (.inl (.inr hq))
    ·exact .inl (.inr (.inl hq))
    ·exact .inr (.inl hq)
   exact⟨(hF q jd).1,fun e=>Gc (e ▸ jd),(hF q jd).2⟩,Ec,fa⟩)
  have Kf:t.text.length<=8∧t.attrs.length<=3:=⟨Pb.2.1,Pb.2.2.1⟩
  have sc:=hide (And.intro sb (And.intro Dc (And.intro rb (And.intro hF (And.intro Gc (And.intro Pb (And.intro ac Pc)))))))
  clear Re ma sb Dc Pe wd Md Qd Pb ac Pc
  go_upto_region 5 with fail
  go_cut [22] from 13 to 22 (fun tv wx=>∃bb:Bool,tv=.bool bb∧(bb=true->0<t.kids.length)∧Cur w0 wx g code l∧wr.grownBy wx (some g))
  case first=>
   have bd:=(zaa kb).2.2.2.1
   by_cases Hd:0<t.kids.length
   ·have Zd:(0:Int)<(t.kids.length:Int):=by omega
    have HO:=hide (zeU w0 wr g code l 2 bd (by decide) (by decide))
    clear bd
    go_wp2_with fail
    refine (zaa HO).mono ?_
    rintro e w4 ⟨b6,rfl,uc,Id⟩
    go_wp2_with fail
    go_meet
    exact⟨_,rfl,(fun _=>Hd),uc,Id⟩
   ·have Zd:¬ (0:Int)<(t.kids.length:Int):=by omega
    go_wp2_with fail
    go_meet
    exact⟨false,rfl,(fun h=>by cases h),bd,World.grownBy.refl _ _⟩
  case rest=>
  obtain⟨bb,rfl,zd,uc,Id⟩:=hcut
  have Ga:=Frm.ofGrown Id
  have Hc:=(zaa kb).frm Ga (fun q hq=>by simp at hq;exact .inl hq) ga (by have:=(zaa kb).2.2.1;simp;omega) uc
  have mc:=(zaa Gd).frm Ga
  have Wc:=(zaa rc).frm Ga (by simp;omega) (fun q hq e=>by have:=((zaa rc).2.2.2.2.1 q hq).1;simp at e;omega)
  clear kb rc Gd hF Gc Oe z0 z1 z2 z3 z4 rb
  cases bb with
  | true=>
   have Hd:=zd rfl
   obtain⟨sb,Dc,rb,hF,Gc,Pb,ac,Pc⟩:=zaa sc
   have lc:=sb.frm Ga (by simp;omega)
   have fc:=Dc.frm Ga (fun q hq e=>by have:=(hF q hq).1;simp at e;omega)
   have Wf:t.kids.length=t.kids.length:=rfl
   obtain⟨gk,cp,_,_,_,_,_,_,e4,_⟩:=fc.kid rb 0 Hd
   injection e4 with e41 _ e43
   subst e41 e43
   have sc:=hide (And.intro lc (And.intro fc (And.intro rb (And.intro hF (And.intro Gc (And.intro Pb (And.intro ac (Pc.step Ga (fun q hq=>by simp at hq;simp [hq]) (by simp;omega) sb.lt))))))))
   have pd:Below wc.heap.size wc wc.drew:=(Below.refl _ _).drew
   have HB:=hide (zbp w0 wc.drew g code l (t.kids.length:Int) (uc.keepAll pd) (by omega) (by omega))
   have kb:=hide Hc
   have te:wc.drew.cell? ⟨bx,Ja+4,none⟩=some (.slice (some ⟨gk,0,none⟩) t.kids.length y4):=lc.cells.2.2.2.2
   have Le:∀args wst,(callFunc 52 args).run Tryz.prog wst=.ok (.enter 52 args) wst:=enters_of Tryz.func52 (by kernel_rfl) rfl
   clear zd sb Dc lc fc rb hF Gc Pb Wc mc Hc Ga Id ac Pc
   go_wp2_with fail
   go_region_law (refine zcN (by rfl) 52 [.tmp 27,.tmp 32] #[63,3] (by rfl) Le [.pointer (some ⟨g,0,none⟩),.int .i64 (t.kids.length:Int)] (by rfl) (zaa HB) ?_;clear HB;rintro e w6 ⟨kk,Ke,ue,rfl,ub,Hb⟩;obtain⟨kk,rfl⟩:=Int.eq_ofNat_of_zero_le Ke;have If:w6.cell? ⟨bx,Ja+4,none⟩=some (.slice (some ⟨gk,0,none⟩) t.kids.length y4):=(Hb.cell_far ⟨bx,Ja+4,none⟩ (by have:=(zaa sc).1.lt;exact this) (by simp;omega)).trans te;refine⟨_,rfl,?_⟩)
   all_goals
    have md:kk<t.kids.length:=by omega
    have Zb:wc.grownBy w6 (some g):=⟨Hb.os,Hb.tape,Hb.output,Hb.size,Hb.block⟩
    have Ga:=Frm.ofGrown Zb
    obtain⟨sb,Dc,rb,hF,Gc,Pb,ac,Pc⟩:=zaa sc
    have Jb:=(zaa kb).frm Ga (fun q hq=>by simp at hq;exact .inl hq) ga (by have:=(zaa kb).2.2.1;simp;omega) ub
    obtain⟨wf,pf,v0,v1,v2,v3,v4,F',e4,gd,ud,od,Te,Sd,ee,Se⟩:=Cx.kid Pc sb Dc rb Gc (by simp;omega) (fun q hq=>by have:=(hF q hq).1;simp;omega) (fun q hq=>by have:=hF q hq;rw [zbZ];omega) kk md
    injection e4 with e41 _ _
    injection e41 with e41
    injection e41 with e41 _ _
    subst e41
    have fe:=Pb.2.2.2.2.2 _ (List.getElem_mem md)
    have Sc:∃d,d<D∧Dn wst.heap.size b g d (.pointer (some ⟨gk,kk*5,none⟩),w6):=by
     cases D with
     | zero=>exact ud.elim
     | succ d=>exact⟨d,Nat.lt_succ_self _,gk,kk*5,v0,v1,v2,v3,v4,t.kids[kk],F',rfl,gd.frm Ga (by have:=(hF _ Sd).1;simp;omega),OwNodeM.frm ud Ga (fun q hq e=>by have:=(hF q (Te q hq)).1;simp at e;omega),od,fun q hq=>hF q (Te q hq),ee,(hF _ Sd).1,.inr (hF _ Sd).2,fe,ga,_,by have:=Nat.le_trans (znZ _ _ Pb) (zoH (d+1) (by omega));omega,Se.step Ga (fun q hq=>by simp at hq;simp [hq]) (by have:=(hF _ Sd).1;simp;omega) gd.lt⟩
    have HE:=hide (And.intro Jb Sc)
    clear sb Dc rb hF Gc Pb gd ud Se fe Jb Sc Ga te If Hb Zb sc kb ac Pc
    go_wp2_with fail
    go_roundw
    case rel=>exact⟨(zaa HE).1,by obtain⟨d,_,h⟩:=(zaa HE).2;exact⟨d,h⟩⟩
    case measure=>
     obtain⟨d,Dg,Ff⟩:=(zaa HE).2
     obtain⟨D2,Vf,_,Cg⟩:=hf _ _ Ff
     rw [<-Cf,<-Vf]
     omega
  | false=>
   have kb:=hide Hc
   have rc:=hide Wc
   have Gd:=hide mc
   have HO:=hide (zbp w0 wc g code l 7 uc (by decide) (by decide))
   clear zd sc Hc Wc mc uc Id Ga
   go_wp2_with fail
   refine (zaa HO).mono ?_
   rintro e w5 ⟨ks,cf,Uf,rfl,pe,Ne⟩
   have Ga:=Frm.ofGrown Ne
   have yc:=(zaa kb).frm Ga (fun q hq=>by simp at hq;exact .inl hq) ga (by have:=(zaa kb).2.2.1;simp;omega) pe
   have Ad:=(zaa rc).frm Ga (by simp;omega) (fun q hq e=>by have:=((zaa rc).2.2.2.2.1 q hq).1;simp at e;omega)
   have Ia:=hide yc
   have Ba:=hide Ad
   have oa:=hide ((zaa Gd).frm Ga)
   clear HO kb rc Gd Ga Ne yc Ad pe
   go_upto_block 2 with fail
   go_cut [] from 5 to 128 (fun wx=>BS w0 wst g code l b wx∧RX wst.heap.size b wx)
   case first=>
    by_cases k0:ks=0
    ·subst k0
     have HO:=hide (zbp w0 w5 g code l 4 (zaa Ia).2.2.2.1 (by decide) (by decide))
     go_wp2_with fail
     refine (zaa HO).mono ?_
     rintro e w6 ⟨y,yb,xb,rfl,ub,Hb⟩
     have Ga:=Frm.ofGrown Hb
     have Jb:=(zaa Ia).frm Ga (fun q hq=>by simp at hq;exact .inl hq) ga (by have:=(zaa Ia).2.2.1;simp;omega) ub
     have Lb:=(zaa Ba).frm Ga (by have:=(zaa Ba).2.2.2.2.2.1;simp;omega) (fun q hq e=>by have:=((zaa Ba).2.2.2.2.1 q hq).1;simp at e;omega)
     obtain⟨fd,_,_,_,_,Ec,fa⟩:=Lb
     obtain⟨z0,_,_,_,_⟩:=fd.cells
     have g0:=fd.frozen Ja
     have HE:=hide (fun v hv=>Jb.store fa Ec ga Nc 0 v hv)
     obtain⟨_,_,_,_,_,_,_,_,-,la⟩:=((zaa oa).frm Ga).parts
     have HX:=hide (fun x k1 k2=>la.kind x k1 k2)
     clear la oa Jb fd Hb ub Ga HO Ia Ba fa
     go_wp2_with fail
     go_meet
     exact⟨zaa HE _ ⟨_,rfl⟩,zaa HX _ (by omega) (by omega)⟩
    by_cases k1:ks=1
    ·subst k1
     have hA:=(Below.refl w5.heap.size w5).alloc (Nat.le_refl _) (.cells #[.string ⟨#[]⟩,.string ⟨#[80]⟩,.string ⟨#[49,97]⟩,.string ⟨#[116,111,111,108,111,110,103,120,120]⟩,.string ⟨#[98,114]⟩] 9)
     have lt:=Loc.made w5 #[.string ⟨#[]⟩,.string ⟨#[80]⟩,.string ⟨#[49,97]⟩,.string ⟨#[116,111,111,108,111,110,103,120,120]⟩,.string ⟨#[98,114]⟩] 9
     have Gg:=(zaa Ia).2.2.2.1.lt
     have HO:=hide (zbp w0 _ g code l 5 ((zaa Ia).2.2.2.1.keepAll hA) (by decide) (by decide))
     have LL:=hide (And.intro hA lt)
     clear hA lt
     go_wp2_with fail
     refine (zaa HO).mono ?_
     rintro e w6 ⟨y,yb,xb,rfl,ub,Hb⟩
     obtain⟨hA,lt⟩:=zaa LL
     clear LL HO
     have Zb:=zcP hA Hb
     have Qe:=lt.frm (Frm.ofGrown Hb) (by simp;omega)
     obtain⟨y,rfl⟩:=Int.eq_ofNat_of_zero_le yb
     obtain⟨s,hs,qa⟩:∃s:ByteArray,w6.cell? ⟨w5.heap.size,y,none⟩=some (.string s)∧s.size<=9:=by
      rw [Qe.cell y]
      have hk:y<5:=by omega
      match y,hk with
      | 0,_=>exact⟨_,rfl,by decide⟩
      | 1,_=>exact⟨_,rfl,by decide⟩
      | 2,_=>exact⟨_,rfl,by decide⟩
      | 3,_=>exact⟨_,rfl,by decide⟩
      | 4,_=>exact⟨_,rfl,by decide⟩
     have Ga:=Frm.ofGrown Zb
     have Jb:=(zaa Ia).frm Ga (fun q hq=>by simp at hq;exact .inl hq) ga (by have:=(zaa Ia).2.2.1;simp;omega) ub
     have Lb:=(zaa Ba).frm Ga (by have:=(zaa Ba).2.2.2.2.2.1;simp;omega) (fun q hq e=>by have:=((zaa Ba).2.2.2.2.1 q hq).1;simp at e;omega)
     obtain⟨w7,Eg,Ge,oc,hB⟩:=zhk w6 s (by omega)
     have wb:=Jb.frm (Frm.ofBelow hB []) (fun q hq=>by cases hq) ga (by simp) (ub.keepAll hB)
     have Kc:=Lb.frm (Frm.ofBelow hB []) (by simp) (fun _ _=>by simp)
     obtain⟨dc,_,_,_,_,Ec,fa⟩:=Kc
     obtain⟨_,z1,_,_,_⟩:=dc.cells
     have g1:=dc.frozen (Ja+1)
     have HE:=hide (fun v hv=>wb.store fa Ec ga Nc 1 v hv)
     obtain⟨_,_,_,_,_,_,_,_,-,la⟩:=(((zaa oa).frm Ga).frm (Frm.ofBelow hB [g])).parts
     have sd:=Lb.1.lt
     have df:=Jb.2.1.lt
     have HX:=hide (la.name (oc.mono (Nat.zero_le _)) (by rw [oc.len];omega) (fun q hq=>by simp [FB,Value.ownBlock]at hq;omega))
     clear la oa sd df
     have qf:(y:Int)<5:=xb
     clear Jb wb Lb dc Hb Zb ub Ga Ia Ba fa hA lt Qe oc hB
     go_wp2_with fail
     go_meet
     exact⟨zaa HE _ ⟨_,_,_,rfl⟩,zaa HX⟩
    by_cases k2:ks=2
    ·subst k2
     obtain⟨iz,rf⟩:=zty0
     have pd:Below w5.heap.size w5 w5.drew:=(Below.refl _ _).drew
     have HB:=hide (zcX w0 w5.drew g code l ((zaa Ia).2.2.2.1.keepAll pd))
     have Le:∀args wst,(callFunc 70 args).run Tryz.prog wst=.ok (.enter 70 args) wst:=enters_of Tryz.func70 (by kernel_rfl) rfl
     have Sf:w5.drew.cell? ⟨bx,Ja+2,none⟩=some (.slice x2 t.text.length y2):=(zaa Ba).1.cells.2.2.1
     have Od:=(zaa Ba).1.lt
     have kf:=(zaa Ba).2.2.2.2.2.1
     go_wp2_with fail
     go_region_law
      (first
       | (refine zcN (by rfl) 70 [.tmp 80] #[63] (by rfl) Le [.pointer (some ⟨g,0,none⟩)] (by rfl) (zaa HB) ?_;clear HB;rintro e w6 ⟨y,yb,xb,rfl,ub,Hb⟩;have sf:IntKind.u8.wrap y=y:=(IntWalk.u8_in y ⟨yb,xb⟩);have Zb:w5.grownBy w6 (some g):=⟨Hb.os,Hb.tape,Hb.output,Hb.size,Hb.block⟩;have Ga:=Frm.ofGrown Zb;have Jb:=(zaa Ia).frm Ga (fun q hq=>by simp at hq;exact .inl hq) ga (by have:=(zaa Ia).2.2.1;simp;omega) ub;have Lb:=(zaa Ba).frm Ga (by simp;omega) (fun q hq e=>by have:=((zaa Ba).2.2.2.2.1 q hq).1;simp at e;omega);have Af:=Lb.1.cells.2.2.1;have Ld:Below w6.heap.size w6 (w6.alloc (.cells #[.int .u8 y] 5)):=(Below.refl _ _).alloc (Nat.le_refl _) _;have Kc:=Lb.frm (Frm.ofBelow Ld []) (by simp) (fun _ _=>by simp);have wb:=Jb.frm (Frm.ofBelow Ld []) (fun q hq=>by cases hq) ga (by simp) (ub.keepAll Ld);have gf:=Kc.1.cells.2.2.1;have HW:=hide (And.intro wb Kc);obtain⟨_,_,_,Ue,_,_,_,_,-,la⟩:=(((zaa oa).frm Ga).frm (Frm.ofBelow Ld [g])).parts;have Ze:=la.r2.len;have ab:=hide la;have Vd:=hide (And.intro ((Loc.made w6 #[.int .u8 y] 5).cell 0) (zbC w6 y yb xb));clear la;clear Jb Lb wb Kc Ga Hb ub;refine⟨_,rfl,?_⟩)
       | (refine zvK (by rfl) (.tmp 79) (.tmp 83) (by rfl) 0 (.slice x2 t.text.length y2) Ue (by rfl) (zaa ab).r2 w6.heap.size 1 y (by rfl) yb xb (zaa Vd).1 (zaa Vd).2 (by omega) (Nat.zero_le _) ?_;intro v8 w8 Aa Pd me;obtain⟨a8,c8,rfl⟩:=Aa.shape;have ld:=(zaa ab).text' Pd Aa me;rw [show (Ue++[y]).length=t.text.length+1 by simp [Ze]]at ld;have HX:=hide ld;clear Aa ld;have hS:∀q∈(Value.slice x2 t.text.length y2).ownBlock.toList,wst.heap.size<q∧q≠bx∧q≠b:=(fun q hq=>(zaa HW).2.2.2.2.2.1 q (by simp only [FB,List.mem_append];exact .inl (.inl hq)));have Ga:=Frm.ofGrown Pd;have Fe:=(zaa HW).2.1.frm Ga (fun e=>(hS bx e).2.1 rfl);have Bg:=Fe.cells.2.2.1;have yf:=Fe.frozen (Ja+2)))
     all_goals
      obtain⟨wb,Kc⟩:=zaa HW
      have qe:=wb.frm Ga (fun q hq=>.inr (hS q hq).1) ga (fun e=>(hS b e).2.2 rfl) (wb.2.2.2.1.keep Pd (fun e=>by have:=(hS g (by rw [<-e];simp)).1;omega) (fun q hq=>by have:=(hS q (by rw [hq];simp)).1;omega))
      have HE:=hide (fun v hv=>qe.store Kc.2.2.2.2.2.2 Kc.2.2.2.2.2.1 ga Nc 2 v hv)
      clear wb Kc qe Ga hS Fe Pd me HW Sf Af gf ab Vd Ze
      go_wp2_with fail
      go_meet
      exact⟨zaa HE _ ⟨_,_,_,rfl⟩,zaa HX⟩
    by_cases k3:ks=3
    ·subst k3
     have kc:=Lib.run_convert_bytes_const (P:=Tryz.prog) w5 22 5 #[.int .u8 97] 1 1 Tryz.underlying22 Tryz.underlying5
     have hA:Below w5.heap.size w5 ((w5.alloc (.cells #[.int .u8 97] 5 (1,2))).alloc (.cells #[.slice (some ⟨w5.heap.size,0,none⟩) 1 1,.slice none 0 0] 132)):=zam ((Below.refl _ _).alloc (Nat.le_refl _) _) ((Below.refl _ _).alloc (Nat.le_refl _) _)
     have Jb:=(zaa Ia).frm (Frm.ofBelow hA []) (fun q hq=>by cases hq) ga (by simp) ((zaa Ia).2.2.2.1.keepAll hA)
     have Lb:=(zaa Ba).frm (Frm.ofBelow hA []) (by simp) (fun _ _=>by simp)
     obtain⟨_,_,_,_,re,_,Je,_,-,Bd⟩:=(zaa oa).parts
     have la:=Bd.keep hA
     have ge:RowM ((w5.alloc (.cells #[.int .u8 97] 5 (1,2))).alloc (.cells #[.slice (some ⟨w5.heap.size,0,none⟩) 1 1,.slice none 0 0] 132)) 0 (.slice (some ⟨w5.heap.size,0,none⟩) 1 1) [97]:=(zno w5 97 (by decide) (by decide)).keep ((Below.refl _ _).alloc (Nat.le_refl _) _)
     have oe:∀q∈Je,q<w5.heap.size:=fun q hq=>OwElems.ltM Bd.r3 (fun _ _ _ hr=>OwAttrM.lt hr) q hq
     have xc:Je.Nodup:=(List.nodup_append.1 (List.nodup_append.1 Bd.nd).1).2.1
     obtain⟨xa,ya,ea,_,_⟩:=Elems.shape (OwAttrsM.rd Bd.r3)
     have Tc:re.length=t.attrs.length:=by injection ea with _ e _;exact e.symm
     have ab:=hide la
     have cc:=hide (And.intro ge (And.intro oe (And.intro xc Tc)))
     clear Bd la ge oe xc ea Tc oa
     have he:∀j u,[.slice (some ⟨w5.heap.size,0,none⟩) 1 1,.slice none 0 0][j]? = some u->((w5.alloc (.cells #[.int .u8 97] 5 (1,2))).alloc (.cells #[.slice (some ⟨w5.heap.size,0,none⟩) 1 1,.slice none 0 0] 132)).cell? ((⟨w5.heap.size+1,0,none⟩:Addr).add j)=some u:=fun j u hu=>by
      have:=World.news_of_block (heap_alloc_new (w5.alloc (.cells #[.int .u8 97] 5 (1,2))) (.cells #[.slice (some ⟨w5.heap.size,0,none⟩) 1 1,.slice none 0 0] 132)) j u (by simpa using hu)
      simpa using this
     have HW:=hide (And.intro Jb (And.intro Lb he))
     obtain⟨i0,Nf,Zf,Kd,Jf⟩:=info_parts zmA
     have z3:=(zaa Ba).1.cells.2.2.2.1
     clear Jb Lb he hA
     go_wp2_with (at_builtin;refine zqY (R:=OwAttrM) (fun h f d=>OwAttrM.frm h f d) rfl _ _ 26 rfl 132 i0 (.agg #[.slice none 0 0,.slice none 0 0]) 2 48 Tryz.underlying26 Nf Zf Kd Jf rfl (by decide) (.slice x3 t.attrs.length y3) re Je rfl (zaa ab).r3 (zaa cc).2.2.1 ⟨w5.heap.size+1,0,none⟩ 1 [.slice (some ⟨w5.heap.size,0,none⟩) 1 1,.slice none 0 0] ([97],[]) [w5.heap.size] rfl rfl (zaa HW).2.2 (fun u hu=>by simp at hu;rcases hu with rfl | rfl<;>rfl) ⟨_,_,rfl,(zaa cc).1,zbT _ _,by simp [FB,Value.ownBlock]⟩ (by simp) (fun q hq e=>by have:=(zaa cc).2.1 q hq;simp at e;omega) (fun q hq=>by rcases hq with hq | hq;(have:=(zaa cc).2.1 q hq;simp;omega);(simp at hq;simp;omega)) (by have:=(zaa cc).2.2.2;unfold maxLen;omega) (by have:=(zaa cc).2.2.2;omega) ?_)
     intro g6 Tf w6 F6 Jd Be ne Ga Ae
     have hX:=TP.attrs (zaa ab) Ga Jd (by simp [szA];omega) (fun q hq=>by
      have:=(zaa ab).hbx
      have:=(zaa ab).n5.lt
      have:=(zaa ab).hbw
      have Od:=(zaa Ba).1.lt
      have Xe:=(zaa Ia).2.1.lt
      rcases ne q hq with h | h | h
      ·have:=(zaa ab).far q (by simp [h])
       exact⟨by omega,this.2.1,this.2.2.1⟩
      ·have h:q=w5.heap.size:=by simpa using h
       omega
      ·have h:q=w5.heap.size+1+1:=by simpa using h
       omega)
     have HX:=hide hX
     clear hX Jd Be ne Ae ab Ba Ia
     have Ye:=Frm.toGrownV Ga
     obtain⟨Jb,Lb,_⟩:=zaa HW
     have hS:∀q∈(Value.slice x3 t.attrs.length y3).ownBlock.toList,wst.heap.size<q∧q≠bx∧q≠b:=fun q hq=>Lb.2.2.2.2.1 q (by simp only [FB,List.mem_append];exact .inl (.inr hq))
     have wb:=Jb.frm Ga (fun q hq=>.inr (hS q hq).1) ga (fun e=>(hS b e).2.2 rfl) (Jb.2.2.2.1.keep Ye (fun e=>by have:=(hS g (by rw [<-e];simp)).1;omega) (fun q hq=>by have:=(hS q (by rw [hq];simp)).1;omega))
     have dc:=Lb.1.frm Ga (fun e=>(hS bx e).2.1 rfl)
     obtain⟨_,_,_,Fg,_⟩:=dc.cells
     have g3:=dc.frozen (Ja+3)
     have HE:=hide (fun v hv=>wb.store Lb.2.2.2.2.2.2 Lb.2.2.2.2.2.1 ga Nc 3 v hv)
     clear Jb wb Lb dc Ye Ga HW hS z3 cc
     go_wp2_with fail
     go_meet
     exact⟨zaa HE _ ⟨_,_,_,rfl⟩,zaa HX⟩
    by_cases k4:ks=4
    ·subst k4
     obtain⟨dd,_,_,_,_,ks,_,Fk,-,la⟩:=(zaa oa).parts
     obtain⟨xa,ya,ea,_,_⟩:=Elems.shape (OwKidsM.rd la.r4)
     have Tc:ks.length=t.kids.length:=by injection ea with _ e _;exact e.symm
     have ab:=hide la
     have ra:=(zaa Ba).1.cells.2.2.2.2
     have Kb:=(zaa Ba).1.bk
     obtain⟨ka,ze⟩:∃ka,ka=x4:=⟨_,rfl⟩
     obtain⟨kc,af⟩:∃kc,kc=y4:=⟨_,rfl⟩
     subst ze af
     have ob:OwKidsM (dd+1) w5 (.slice ka t.kids.length kc) ks Fk:=la.r4
     rw [<-Tc]at ra ob
     have ib:ks.length<=1000:=by omega
     have bc:Fk.Nodup:=(List.nodup_append.1 la.nd).2.1
     have pb:=OwElems.ltM la.r4 (fun _ _ _ hr=>OwNodeM.lt hr)
     have qb:∀q∈Fk,wst.heap.size<q∧q≠bx∧q≠b∧q<w5.heap.size:=fun q hq=>⟨(la.far q (by simp [hq])).1,(la.far q (by simp [hq])).2.2.1,(la.far q (by simp [hq])).2.1,pb q hq⟩
     clear la ea oa
     have fa:=(zaa Ba).2.2.2.2.2.2
     have Ec:=(zaa Ba).2.2.2.2.2.1
     have ma:=zaa Ia
     obtain⟨w3,ed⟩:∃w3,w3=w5:=⟨_,rfl⟩
     subst ed
     have Ef:=ma.2.1.lt
     have Me:Bk w3.drew bx Ja:=Kb
     have Ie:=Kb.lt
     have Ce:w3.drew.cell? ⟨bx,Ja+4,none⟩=some (.slice ka ks.length kc):=ra
     have ec:OwKidsM (dd+1) w3.drew (.slice ka ks.length kc) ks Fk:=OwKidsM.frm ob (Frm.ofBelow ((Below.refl _ _).drew) []) (by simp)
     have Zc:BS w0 wst g code l b w3.drew:=ma.frm (Frm.ofBelow ((Below.refl _ _).drew) []) (fun q hq=>by cases hq) ga (by simp) (ma.2.2.2.1.keepAll ((Below.refl _ _).drew))
     have yd:Frm w3 w3.drew (bx::g::Fk)∧∀j,j≠Ja+4->w3.drew.cell? ⟨bx,j,none⟩=w3.cell? ⟨bx,j,none⟩:=⟨Frm.ofBelow ((Below.refl _ _).drew) _,fun _ _=>rfl⟩
     clear Ba Ia ob ra Kb pb Tc
     go_wp2_with fail
     refine zeT (by kernel_rfl) (Lb21 w0 wst w3 g b bx Ja code l ka kc dd ks Fk (undef) (.pointer (some ⟨wst.heap.size,0,none⟩)) (.pointer (some ⟨b,0,none⟩)) (undef) (undef) (.pointer (some ⟨g,0,none⟩)) (.agg #[.int .i64 k,.slice p1 n1 c1,.slice p2 n2 c2,.slice p3 n3 c3,.slice p4 n4 c4]) (.pointer (some ⟨g,0,none⟩)) (.bool true) (.bool false) (undef) (u13) (u14) (u15) (u16) (u17) (u18) (u19) (u20) (u21) (.bool false) (u23) (u24) (u25) (u26) (u27) (u28) (u29) (u30) (u31) (u32) (u33) (u34) (.pointer (some ⟨g,0,none⟩)) (.int .i64 4) (undef) (undef) (undef) (undef) (undef) (undef) (undef) (undef) (undef) (undef) (undef) (undef) (undef) (undef) (undef) (undef) (undef) (.bool false) (.bool false) (undef) (undef) (undef) (undef) (undef) (undef) (.bool false) (.bool false) (undef) (undef) (undef) (undef) (undef) (undef) (undef) (undef) (undef) (.bool false) (.bool false) (undef) (undef) (undef) (undef) (undef) (undef) (undef) (undef) (undef) (undef) (undef) (undef) (.bool false) (.bool false) (undef) (undef) (undef) (undef) (undef) (undef) (undef) (undef) (undef) (undef) (undef) (undef) (.bool true) (.bool true) (undef) (undef) (undef) (undef) (undef) (undef) (undef) (undef) (undef) (undef) (undef) (undef)) ?sz ?h0 ?step ?dn
     case sz=>
      intro L a w hI
      refine hI _ ?_
      intro b0 b1 b2 b3 b4 b5 b6 b7 b8 b9 Ma Fa Za Xa Wa Ib Gb ba Ya Na ca Ua Va da aa Ra Qa Ta ia Pa Oa Sa eL eA h0 h1 h2 h3 f0 f1 f2 f3 f4 f5 f6 f7 f8 f9 La ua Ka Da Fb pa
      subst eL
      rfl
     case h0=>
      exact fun _ k_=>k_ false false false false false false false false false false false false false false false false false _ _ _ _ _ _ _ _ _ _ _ _ _ _ _ rfl rfl Zc yd Me (fun _=>⟨Ce,ec⟩) (fun h=>by cases h) (fun h=>by cases h) (fun h=>by cases h) (fun h=>by cases h) (fun h=>by cases h) (fun h=>by cases h) (fun h=>by cases h) (fun h=>by cases h) (fun h=>by cases h) (fun h=>by cases h) (fun h=>by cases h) (fun h=>by cases h) (fun h=>by cases h) (fun h=>by cases h) (fun h=>by cases h) (fun h=>by cases h)
     case step=>
      intro L a w i o hI hi ho
      refine hI _ ?_
      clear hI
      intro b0 b1 b2 b3 b4 b5 b6 b7 b8 b9 Ma Fa Za Xa Wa Ib Gb ba Ya Na ca Ua Va da aa Ra Qa Ta ia Pa Oa Sa eL eA h0 h1 h2 h3 f0 f1 f2 f3 f4 f5 f6 f7 f8 f9 La ua Ka Da Fb pa
      subst eL eA
      rcases zsQ (zjJ hi)with rfl | rfl | rfl | rfl | rfl | rfl | rfl | rfl | rfl | rfl | rfl | rfl | rfl | rfl | rfl | rfl | rfl
      ·obtain rfl:=Option.some.inj ho
       go_simp
       exact fun _ k_=>k_ true b1 b2 b3 b4 b5 b6 b7 b8 b9 Ma Fa Za Xa Wa Ib Gb _ Ya Na ca Ua Va da aa Ra Qa Ta ia Pa Oa Sa rfl rfl h0 h1 h2 h3 (fun _=>rfl) f1 f2 f3 f4 f5 f6 f7 f8 f9 La ua Ka Da Fb pa
      ·have g0:=zak hi ho 0
       obtain rfl:=Option.some.inj ho
       have e0:=f0 (g0 (by kernel_rfl))
       subst e0
       go_simp
       exact fun _ k_=>k_ b0 true b2 b3 b4 b5 b6 b7 b8 b9 Ma Fa Za Xa Wa Ib Gb _ _ Na ca Ua Va da aa Ra Qa Ta ia Pa Oa Sa rfl rfl h0 h1 h2 h3 f0 (fun _=>rfl) f2 f3 f4 f5 f6 f7 f8 f9 La ua Ka Da Fb pa
      ·have g1:=zak hi ho 1
       obtain rfl:=Option.some.inj ho
       have e1:=f1 (g1 (by kernel_rfl))
       subst e1
       go_simp
       exact fun _ k_=>k_ b0 b1 true b3 b4 b5 b6 b7 b8 b9 Ma Fa Za Xa Wa Ib Gb ba _ _ ca Ua Va da aa Ra Qa Ta ia Pa Oa Sa rfl rfl h0 h1 h2 h3 f0 f1 (fun _=>rfl) f3 f4 f5 f6 f7 f8 f9 La ua Ka Da Fb pa
      ·have g2:=zak hi ho 2
       obtain rfl:=Option.some.inj ho
       have e2:=f2 (g2 (by kernel_rfl))
       subst e2
       have Ha:b3=false:=by simpa using zaz rfl hi
       have ck:=(h3 (by cases hb:Fa with
        | false=>rfl
        | true=>have:=(ua hb).1;rw [Ha]at this;cases this)).1
       clear Ha
       go_simp
       exact fun _ k_=>k_ b0 b1 b2 true b4 b5 b6 b7 b8 b9 Ma Fa Za Xa Wa Ib Gb ba Ya _ _ Ua Va da aa Ra Qa Ta ia Pa Oa Sa rfl rfl h0 h1 h2 h3 f0 f1 f2 (fun _=>rfl) f4 f5 f6 f7 f8 f9 La (fun h=>⟨rfl,(ua h).2⟩) Ka Da Fb pa
      ·obtain rfl:=Option.some.inj ho
       go_simp
       exact fun _ k_=>k_ b0 b1 b2 b3 true b5 b6 b7 b8 b9 Ma Fa Za Xa Wa Ib Gb ba Ya Na ca _ Va da aa Ra Qa Ta ia Pa Oa Sa rfl rfl h0 h1 h2 h3 f0 f1 f2 f3 (fun _=>rfl) f5 f6 f7 f8 f9 La ua Ka Da Fb pa
      ·have g4:=zak hi ho 4
       have Ha:b5=false:=by simpa using zaz rfl hi
       obtain rfl:=Option.some.inj ho
       have e4:=f4 (g4 (by kernel_rfl))
       subst e4
       clear Ha
       go_simp
       refine (zbp w0 w g code l 2 h0.2.2.2.1 (by decide) (by decide)).mono ?_
       rintro e w9 ⟨y,yb,xb,rfl,zb,fb⟩
       have hf:=Frm.ofGrown fb
       have sa:=h0.frm hf (fun q hq=>by simp at hq;exact .inl hq) ga (by have:=h0.2.2.1;simp;omega) zb
       have Ca:bx∉(some g).toList:=by simp;omega
       have qa:Frm w3 w9 (bx::g::Fk)∧∀j,j≠Ja+4->(w9).cell? ⟨bx,j,none⟩=w3.cell? ⟨bx,j,none⟩:=⟨h1.1.trans (hf.mono (fun q hq=>by simp at hq;simp [hq])),fun j hj=>(World.cell?_of_block (hf.block bx h2.lt Ca)).trans (h1.2 j hj)⟩
       have tb:∀q∈Fk,q∉(some g).toList:=fun q hq=>by have:=(qb q hq).1;simp;omega
       have nm:∀q∈(some g).toList,q<w3.heap.size:=fun q hq=>by simp at hq;omega
       have nA:∀q∈(some g).toList,q<=wst.heap.size∨q=bx:=fun q hq=>by simp at hq;omega
       have nz:∀z,w3.heap.size<=z->Loc w z #[.int .i64 0,.slice none 0 0,.slice none 0 0,.slice none 0 0,.slice none 0 0] 29->z∉(some g).toList:=fun z hz _=>by simp;omega
       exact fun _ k_=>k_ b0 b1 b2 b3 b4 true b6 b7 b8 b9 Ma Fa Za Xa Wa Ib Gb ba Ya Na ca _ _ da aa Ra Qa Ta ia Pa Oa Sa rfl rfl sa qa (h2.frm hf Ca) (fun ha=>⟨(hf.cell4 h2 Ca).trans (h3 ha).1,OwKidsM.frm (h3 ha).2 hf tb⟩) f0 f1 f2 f3 f4 (fun _=>⟨y,yb,xb,rfl⟩) f6 (fun h=>by obtain⟨p,m,e,hm,hp,t⟩:=f7 h;exact⟨p,m,e,hm,hp,fun ha=>(t ha).frm hf (fun q hq hs=>by have e9:q=p:=(by simpa [FB,Value.ownBlock,eq_comm]using hq);have:=nm q hs;omega)⟩) (fun h=>by obtain⟨e0,Eb,Db,za,Cb,wa,Ab,Bb,e,t⟩:=f8 h;exact⟨e0,Eb,Db,za,Cb,wa,Ab,Bb,e,fun ha=>(t ha).frm hf nm⟩) f9 (fun h=>by obtain⟨z,e,hz,t⟩:=La h;exact⟨z,e,hz,fun ha=>(t ha).frm hf (nz z hz (t ha))⟩) (fun h=>by obtain⟨e1,e2,e3,gq,cq,e,t⟩:=ua h;exact⟨e1,e2,e3,gq,cq,e,t.frm hf nA⟩) Ka Da Fb (fun h=>⟨(pa h).1,(hf.cell4 h2 Ca).trans (pa h).2⟩)
      ·have g5:=zak hi ho 5
       obtain rfl:=Option.some.inj ho
       obtain⟨y,yb,xb,ex⟩:=f5 (g5 (by kernel_rfl))
       subst ex
       have Df:IntKind.i64.wrap (30+y)=30+y:=by rw [IntKind.wrap_i64];omega
       go_simp
       exact fun _ k_=>k_ b0 b1 b2 b3 b4 b5 true b7 b8 b9 Ma Fa Za Xa Wa Ib Gb ba Ya Na ca Ua _ _ aa Ra Qa Ta ia Pa Oa Sa rfl rfl h0 h1 h2 h3 f0 f1 f2 f3 f4 (fun _=>⟨y,yb,xb,rfl⟩) (fun _=>⟨y,yb,xb,by first | rfl | rw [Df]⟩) f7 f8 f9 La ua Ka Da Fb pa
      ·have g6:=zak hi ho 6
       obtain rfl:=Option.some.inj ho
       obtain⟨y,yb,xb,ex⟩:=f6 (g6 (by kernel_rfl))
       subst ex
       have Nb:=fun (o:Obj)=>Frm.ofBelow ((Below.refl w.heap.size w).alloc (Nat.le_refl _) o) []
       have We:=fun (o:Obj)=>h0.frm (Nb o) (fun q hq=>by cases hq) ga (by simp) (h0.2.2.2.1.keepAll ((Below.refl w.heap.size w).alloc (Nat.le_refl _) o))
       have Rc:w3.heap.size<=w.heap.size:=h1.1.size
       have Ca:bx∉([]:Xh):=by simp
       have ae:=fun (o:Obj)=>(⟨h1.1.trans ((Nb o).mono (fun q hq=>by cases hq)),fun j hj=>(World.cell?_of_block ((Nb o).block bx h2.lt Ca)).trans (h1.2 j hj)⟩:Frm w3 (w.alloc o) (bx::g::Fk)∧∀j,j≠Ja+4->(w.alloc o).cell? ⟨bx,j,none⟩=w3.cell? ⟨bx,j,none⟩)
       have tb:∀q∈Fk,q∉([]:Xh):=fun _ _=>by simp
       have nm:∀q∈([]:Xh),q<w3.heap.size:=fun _ h=>by cases h
       have nA:∀q∈([]:Xh),q<=wst.heap.size∨q=bx:=fun _ h=>by cases h
       have nz:∀z,w3.heap.size<=z->Loc w z #[.int .i64 0,.slice none 0 0,.slice none 0 0,.slice none 0 0,.slice none 0 0] 29->z∉([]:Xh):=fun _ _ _=>by simp
       by_cases hy:y=0
       ·subst hy
        go_simp
        exact fun _ k_=>k_ b0 b1 b2 b3 b4 b5 b6 true b8 b9 Ma Fa Za Xa Wa Ib Gb ba Ya Na ca Ua Va _ _ Ra Qa Ta ia Pa Oa Sa rfl rfl ((We _)) ((ae _)) ((h2.frm (Nb _) Ca)) (fun ha=>⟨((Nb _).cell4 h2 Ca).trans (h3 ha).1,OwKidsM.frm (h3 ha).2 (Nb _) tb⟩) f0 f1 f2 f3 f4 f5 (fun _=>⟨0,by decide,by decide,rfl⟩) (fun _=>⟨_,_,rfl,by decide,Rc,fun _=>zoW w _ 30 (by decide) (by kernel_rfl)⟩) (fun h=>by obtain⟨e0,Eb,Db,za,Cb,wa,Ab,Bb,e,t⟩:=f8 h;exact⟨e0,Eb,Db,za,Cb,wa,Ab,Bb,e,fun ha=>(t ha).frm (Nb _) nm⟩) f9 (fun h=>by obtain⟨z,e,hz,t⟩:=La h;exact⟨z,e,hz,fun ha=>(t ha).frm (Nb _) (nz z hz (t ha))⟩) (fun h=>by obtain⟨e1,e2,e3,gq,cq,e,t⟩:=ua h;exact⟨e1,e2,e3,gq,cq,e,t.frm (Nb _) nA⟩) Ka Da Fb (fun h=>⟨(pa h).1,((Nb _).cell4 h2 Ca).trans (pa h).2⟩)
       obtain rfl:y=1:=by omega
       go_simp
       exact fun _ k_=>k_ b0 b1 b2 b3 b4 b5 b6 true b8 b9 Ma Fa Za Xa Wa Ib Gb ba Ya Na ca Ua Va _ _ Ra Qa Ta ia Pa Oa Sa rfl rfl ((We _)) ((ae _)) ((h2.frm (Nb _) Ca)) (fun ha=>⟨((Nb _).cell4 h2 Ca).trans (h3 ha).1,OwKidsM.frm (h3 ha).2 (Nb _) tb⟩) f0 f1 f2 f3 f4 f5 (fun _=>⟨1,by decide,by decide,rfl⟩) (fun _=>⟨_,_,rfl,by decide,Rc,fun _=>zoW w _ 31 (by decide) (by kernel_rfl)⟩) (fun h=>by obtain⟨e0,Eb,Db,za,Cb,wa,Ab,Bb,e,t⟩:=f8 h;exact⟨e0,Eb,Db,za,Cb,wa,Ab,Bb,e,fun ha=>(t ha).frm (Nb _) nm⟩) f9 (fun h=>by obtain⟨z,e,hz,t⟩:=La h;exact⟨z,e,hz,fun ha=>(t ha).frm (Nb _) (nz z hz (t ha))⟩) (fun h=>by obtain⟨e1,e2,e3,gq,cq,e,t⟩:=ua h;exact⟨e1,e2,e3,gq,cq,e,t.frm (Nb _) nA⟩) Ka Da Fb (fun h=>⟨(pa h).1,((Nb _).cell4 h2 Ca).trans (pa h).2⟩)
      ·have g7:=zak hi ho 7
       have Ha:b8=false:=by simpa using zaz rfl hi
       obtain rfl:=Option.some.inj ho
       obtain⟨p,m,ex,hm,hp,tp⟩:=f7 (g7 (by kernel_rfl))
       have EB:=hide (tp Ha)
       clear tp Ha
       subst ex
       go_simp
       exact fun _ k_=>k_ b0 b1 b2 b3 b4 b5 b6 b7 true b9 Ma Fa Za Xa Wa Ib Gb ba Ya Na ca Ua Va da _ _ Qa Ta ia Pa Oa Sa rfl rfl h0 h1 h2 h3 f0 f1 f2 f3 f4 f5 f6 (fun _=>⟨p,m,rfl,hm,hp,fun h=>by cases h⟩) (fun _=>⟨trivial,_,_,_,_,_,_,_,rfl,fun _=>zyM (zaa EB) (by simp;omega) (fun q hq=>by have e9:q=p:=(by simpa [FB,Value.ownBlock,eq_comm]using hq);omega)⟩) f9 La ua Ka Da Fb pa
      ·have g3:=zak hi ho 3
       obtain rfl:=Option.some.inj ho
       have e3:=f3 (g3 (by kernel_rfl))
       subst e3
       go_simp
       exact fun _ k_=>k_ b0 b1 b2 b3 b4 b5 b6 b7 b8 true Ma Fa Za Xa Wa Ib Gb ba Ya Na _ Ua Va da aa Ra _ Ta ia Pa Oa Sa rfl rfl h0 h1 h2 h3 f0 f1 f2 f3 f4 f5 f6 f7 f8 (fun _=>rfl) La ua Ka Da Fb pa
      ·have Ha:Ma=false:=by simpa using zaz rfl hi
       obtain rfl:=Option.some.inj ho
       have Uc:Below w.heap.size w (w.alloc (.cells #[.int .i64 0,.slice none 0 0,.slice none 0 0,.slice none 0 0,.slice none 0 0] 29)):=(Below.refl _ _).alloc (Nat.le_refl _) _
       have Cd:=Loc.made w #[.int .i64 0,.slice none 0 0,.slice none 0 0,.slice none 0 0,.slice none 0 0] 29
       have hf:=Frm.ofBelow Uc []
       have sa:=h0.frm hf (fun q hq=>by cases hq) ga (by simp) (h0.2.2.2.1.keepAll Uc)
       have Ca:bx∉([]:Xh):=by simp
       have qa:Frm w3 _ (bx::g::Fk)∧∀j,j≠Ja+4->World.cell? _ ⟨bx,j,none⟩=w3.cell? ⟨bx,j,none⟩:=⟨h1.1.trans (hf.mono (fun q hq=>by cases hq)),fun j hj=>(World.cell?_of_block (hf.block bx h2.lt Ca)).trans (h1.2 j hj)⟩
       have tb:∀q∈Fk,q∉([]:Xh):=fun _ _=>by simp
       have nm:∀q∈([]:Xh),q<w3.heap.size:=fun _ h=>by cases h
       have nA:∀q∈([]:Xh),q<=wst.heap.size∨q=bx:=fun _ h=>by cases h
       have nz:∀z,w3.heap.size<=z->Loc w z #[.int .i64 0,.slice none 0 0,.slice none 0 0,.slice none 0 0,.slice none 0 0] 29->z∉([]:Xh):=fun _ _ _=>by simp
       have Rc:w3.heap.size<=w.heap.size:=h1.1.size
       have Vc:=hide Ha
       clear Ha
       go_simp
       exact fun _ k_=>k_ b0 b1 b2 b3 b4 b5 b6 b7 b8 b9 true Fa Za Xa Wa Ib Gb ba Ya Na ca Ua Va da aa Ra Qa _ ia Pa Oa Sa rfl rfl sa qa (h2.frm hf Ca) (fun ha=>⟨(hf.cell4 h2 Ca).trans (h3 ha).1,OwKidsM.frm (h3 ha).2 hf tb⟩) f0 f1 f2 f3 f4 f5 f6 (fun h=>by obtain⟨p,m,e,hm,hp,t⟩:=f7 h;exact⟨p,m,e,hm,hp,fun ha=>(t ha).frm hf (fun q hq hs=>by have e9:q=p:=(by simpa [FB,Value.ownBlock,eq_comm]using hq);have:=nm q hs;omega)⟩) (fun h=>by obtain⟨e0,Eb,Db,za,Cb,wa,Ab,Bb,e,t⟩:=f8 h;exact⟨e0,Eb,Db,za,Cb,wa,Ab,Bb,e,fun ha=>(t ha).frm hf nm⟩) f9 (fun _=>⟨w.heap.size,rfl,Rc,fun _=>Cd⟩) (fun h=>by have:=(ua h).2.1;rw [zaa Vc]at this;cases this) Ka Da Fb (fun h=>⟨(pa h).1,(hf.cell4 h2 Ca).trans (pa h).2⟩)
      ·have g3:=zak hi ho 3
       have De:=zak hi ho 10
       have Ha:Fa=false:=by simpa using zaz rfl hi
       obtain rfl:=Option.some.inj ho
       have t3:b3=true:=g3 (by kernel_rfl)
       have ke:Ma=true:=De (by kernel_rfl)
       have e1:=f3 t3
       obtain⟨z,ez,hz,Ee⟩:=La ke
       have lz:=Ee Ha
       have hr:=(h3 Ha).2
       subst e1 ez
       have Kd:=(fun q (hq:q∈Fk)=>(qb q hq).2.2.2)
       have Bc:=h1.1.size
       refine zoU (H:=wst.heap.size) (b:=b) (bx:=bx) (m:=w3.heap.size) (by rfl) (.tmp 106) (.tmp 113) (by rfl) ka kc (by rfl) hr bc z (by rfl) lz qb Bc (by have:=h0.2.2.1;omega) ib ?_
       intro gq cq w9 nc hf
       have hS:∀q∈FB (.slice ka ks.length kc),wst.heap.size<q∧q≠bx∧q≠b∧q∈Fk:=fun q hq=>by have hm:q∈Fk:=ztw hr q hq;exact⟨(qb q hm).1,(qb q hm).2.1,(qb q hm).2.2.1,hm⟩
       have fb:=Frm.toGrownV hf
       have sa:=h0.frm hf (fun q hq=>.inr (hS q hq).1) ga (fun e=>(hS b e).2.2.1 rfl) (h0.2.2.2.1.keep fb (fun e=>by have:=(hS g (by rw [FB,<-e];simp)).1;omega) (fun q hq=>by have:=(hS q (by rw [FB,hq];simp)).1;omega))
       have Ca:bx∉FB (.slice ka ks.length kc):=fun e=>(hS bx e).2.1 rfl
       have qa:Frm w3 w9 (bx::g::Fk)∧∀j,j≠Ja+4->(w9).cell? ⟨bx,j,none⟩=w3.cell? ⟨bx,j,none⟩:=⟨h1.1.trans (hf.mono (fun q hq=>by simp [(hS q hq).2.2.2])),fun j hj=>(World.cell?_of_block (hf.block bx h2.lt Ca)).trans (h1.2 j hj)⟩
       have nm:∀q∈FB (.slice ka ks.length kc),q<w3.heap.size:=fun q hq=>Kd q (hS q hq).2.2.2
       exact fun _ k_=>k_ b0 b1 b2 b3 b4 b5 b6 b7 b8 b9 Ma true Za Xa Wa Ib Gb ba Ya Na _ Ua Va da aa Ra Qa _ _ Pa Oa Sa rfl rfl sa qa (h2.frm hf Ca) (fun ha=>by cases ha) f0 f1 f2 (fun _=>rfl) f4 f5 f6 (fun h=>by obtain⟨p,m,e,hm,hp,t⟩:=f7 h;exact⟨p,m,e,hm,hp,fun ha=>(t ha).frm hf (fun q hq hs=>by have e9:q=p:=(by simpa [FB,Value.ownBlock,eq_comm]using hq);have:=nm q hs;omega)⟩) (fun h=>by obtain⟨e0,Eb,Db,za,Cb,wa,Ab,Bb,e,t⟩:=f8 h;exact⟨e0,Eb,Db,za,Cb,wa,Ab,Bb,e,fun ha=>(t ha).frm hf nm⟩) f9 (fun _=>⟨z,rfl,hz,fun ha=>by cases ha⟩) (fun _=>⟨t3,ke,trivial,gq,cq,rfl,nc _⟩) (fun h=>by have:=(Ka h).1;rw [Ha]at this;cases this) Da Fb (fun h=>by have:=(pa h).1;rw [Ha]at this;cases this)
      ·have xd:=zak hi ho 11
       have g9:=zak hi ho 9
       obtain rfl:=Option.some.inj ho
       have ta:Fa=true:=xd (by kernel_rfl)
       obtain⟨e1,e2,e3,gq,cq,ex,Aa⟩:=ua ta
       have el:=f9 (g9 (by kernel_rfl))
       subst ex el
       have Of:(ks.length:Int)<((ks.length+1:Nat):Int):=by omega
       have Xd:(ks.length:Int)<(ks.length:Int)+1:=by omega
       have Hd:(0:Int)<=(ks.length:Int):=by omega
       have EB:=hide (And.intro ta (And.intro e1 (And.intro e2 e3)))
       clear ta e1 e2 e3
       go_simp
       exact fun _ k_=>k_ b0 b1 b2 b3 b4 b5 b6 b7 b8 b9 Ma Fa true Xa Wa Ib Gb ba Ya Na ca Ua Va da aa Ra _ Ta _ _ Oa Sa rfl rfl h0 h1 h2 h3 f0 f1 f2 f3 f4 f5 f6 f7 f8 (fun _=>rfl) La (fun _=>⟨(zaa EB).2.1,(zaa EB).2.2.1,(zaa EB).2.2.2,gq,cq,rfl,Aa⟩) (fun _=>⟨(zaa EB).1,gq,cq,rfl,rfl⟩) Da Fb pa
      ·have qd:=zak hi ho 12
       have g8:=zak hi ho 8
       have Ha:Xa=false:=by simpa using zaz rfl hi
       obtain rfl:=Option.some.inj ho
       obtain⟨ta,gq,cq,ex,ei⟩:=Ka (qd (by kernel_rfl))
       have tn:b8=true:=g8 (by kernel_rfl)
       obtain⟨eM,Eb,Db,za,Cb,wa,Ab,Bb,en,Mc⟩:=f8 tn
       obtain⟨e1,e2,e3,gr,cr,Dd,Aa⟩:=ua ta
       have Wd:=Dd.symm.trans ex
       injection Wd with y1 _ y3
       injection y1 with y1
       injection y1 with y1 _ _
       subst y1 y3
       clear Dd
       have Mc:=Mc Ha
       rw [Ha]at Aa
       obtain⟨_,Yf,Rf⟩:=Aa.cell (ks.length*5) (by omega)
       obtain⟨_,Qf,ye⟩:=Aa.cell (ks.length*5+1) (by omega)
       obtain⟨_,bf,mf⟩:=Aa.cell (ks.length*5+2) (by omega)
       obtain⟨_,Bf,Pf⟩:=Aa.cell (ks.length*5+3) (by omega)
       obtain⟨_,we,xe⟩:=Aa.cell (ks.length*5+4) (by omega)
       obtain⟨o1,o2,o3,o4,_⟩:=Aa.own
       have hf:Frm w ((((((w).setCell ⟨gr,ks.length*5,none⟩ (.int .i64 Eb)).setCell ⟨gr,ks.length*5+1,none⟩ (.slice Db za Cb)).setCell ⟨gr,ks.length*5+2,none⟩ (.slice wa Ab Bb)).setCell ⟨gr,ks.length*5+3,none⟩ (.slice none 0 0)).setCell ⟨gr,ks.length*5+4,none⟩ (.slice none 0 0)) [gr]:=((((zap _ _ _ _).trans (zap _ _ _ _)).trans (zap _ _ _ _)).trans (zap _ _ _ _)).trans (zap _ _ _ _)
       have Bc:=h1.1.size
       have ja:=Aa.set5 Mc (by have:=h0.2.2.1;omega)
       have sa:=h0.frm hf (fun q hq=>by simp at hq;right;omega) ga (by simp;omega) (h0.2.2.2.1.keep (Frm.toGrown' hf) (by simp;omega) (fun q hq=>by cases hq;omega))
       have Ca:bx∉[gr]:=by simp;omega
       have qa:Frm w3 _ (bx::g::Fk)∧∀j,j≠Ja+4->World.cell? _ ⟨bx,j,none⟩=w3.cell? ⟨bx,j,none⟩:=⟨ziQ h1.1 hf (fun q hq=>by simp at hq;subst hq;rcases o4 with h | h;exact .inl (by simp [h]);exact .inr h),fun j hj=>(World.cell?_of_block (hf.block bx h2.lt Ca)).trans (h1.2 j hj)⟩
       have na:=h2.frm hf Ca
       have ic:=hide (fun h=>(hf.cell4 h2 Ca).trans (pa h).2)
       have EB:=hide (And.intro ta (And.intro e1 (And.intro e2 (And.intro e3 (And.intro tn eM)))))
       have HW:=hide (And.intro sa (And.intro qa (And.intro na ja)))
       clear ta tn eM e1 e2 e3 sa qa na ja hf Aa Mc Ha
       subst ei en ex
       clear ua f8
       go_simp
       exact fun _ k_=>k_ b0 b1 b2 b3 b4 b5 b6 b7 b8 b9 Ma Fa Za true Wa Ib Gb ba Ya Na ca Ua Va da aa _ Qa Ta _ _ Oa Sa rfl rfl ((zaa HW).1) ((zaa HW).2.1) ((zaa HW).2.2.1) (fun ha=>by rw [(zaa EB).1]at ha;cases ha) f0 f1 f2 f3 f4 f5 f6 (fun h=>by obtain⟨p,m,e,hm,hp,_⟩:=f7 h;exact⟨p,m,e,hm,hp,fun ha=>by rw [(zaa EB).2.2.2.2.1]at ha;cases ha⟩) (fun _=>⟨(zaa EB).2.2.2.2.2,_,_,_,_,_,_,_,rfl,fun h=>by cases h⟩) f9 (fun h=>by obtain⟨z,e,hz,_⟩:=La h;exact⟨z,e,hz,fun ha=>by rw [(zaa EB).1]at ha;cases ha⟩) (fun _=>⟨(zaa EB).2.1,(zaa EB).2.2.1,(zaa EB).2.2.2.1,gr,cr,rfl,(zaa HW).2.2.2⟩) (fun _=>⟨(zaa EB).1,gr,cr,rfl,rfl⟩) Da Fb (fun h=>⟨(zaa EB).1,zaa ic h⟩)
      ·have g0:=zak hi ho 0
       obtain rfl:=Option.some.inj ho
       have e0:=f0 (g0 (by kernel_rfl))
       subst e0
       go_simp
       exact fun _ k_=>k_ b0 b1 b2 b3 b4 b5 b6 b7 b8 b9 Ma Fa Za Xa true Ib Gb _ Ya Na ca Ua Va da aa Ra Qa Ta ia Pa _ Sa rfl rfl h0 h1 h2 h3 f0 f1 f2 f3 f4 f5 f6 f7 f8 f9 La ua Ka (fun _=>rfl) Fb pa
      ·have Xf:=zak hi ho 14
       obtain rfl:=Option.some.inj ho
       have Gf:=Da (Xf (by kernel_rfl))
       subst Gf
       go_simp
       exact fun _ k_=>k_ b0 b1 b2 b3 b4 b5 b6 b7 b8 b9 Ma Fa Za Xa Wa true Gb ba Ya Na ca Ua Va da aa Ra Qa Ta ia Pa _ _ rfl rfl h0 h1 h2 h3 f0 f1 f2 f3 f4 f5 f6 f7 f8 f9 La ua Ka Da (fun _=>rfl) pa
      ·have ve:=zak hi ho 15
       have xd:=zak hi ho 11
       obtain rfl:=Option.some.inj ho
       have ta:Fa=true:=xd (by kernel_rfl)
       have ef:=Fb (ve (by kernel_rfl))
       obtain⟨e1,e2,e3,gq,cq,ex,Aa⟩:=ua ta
       subst ef ex
       obtain⟨_,c4,t4⟩:=h2.cell 4 (by decide)
       have sa:=h0.store fa Ec ga Nc 4 (.slice (some ⟨gq,0,none⟩) (ks.length+1) cq) ⟨_,_,_,rfl⟩
       have hf:=zap w bx (Ja+4) (.slice (some ⟨gq,0,none⟩) (ks.length+1) cq)
       have qa:Frm w3 _ (bx::g::Fk)∧∀j,j≠Ja+4->World.cell? _ ⟨bx,j,none⟩=w3.cell? ⟨bx,j,none⟩:=⟨h1.1.trans (hf.mono (by simp)),fun j hj=>(h2.put_other j hj (.slice (some ⟨gq,0,none⟩) (ks.length+1) cq)).trans (h1.2 j hj)⟩
       have na:=h2.set (Ja+4) (.slice (some ⟨gq,0,none⟩) (ks.length+1) cq)
       have ic:=hide (h2.put4 (.slice (some ⟨gq,0,none⟩) (ks.length+1) cq))
       have ja:=Aa.frm hf (fun q hq=>by simp at hq;exact .inr hq)
       have nm:∀q∈[bx],q<w3.heap.size:=fun q hq=>by simp at hq;omega
       have zc:=hide hf
       have EB:=hide (And.intro ta (And.intro e1 (And.intro e2 e3)))
       have HW:=hide (And.intro sa (And.intro qa (And.intro na ja)))
       clear ta e1 e2 e3 sa qa na ja hf Aa
       clear ua
       go_simp
       exact fun _ k_=>k_ b0 b1 b2 b3 b4 b5 b6 b7 b8 b9 Ma Fa Za Xa Wa Ib true ba Ya Na ca Ua Va da aa Ra Qa Ta _ Pa Oa _ rfl rfl ((zaa HW).1) ((zaa HW).2.1) ((zaa HW).2.2.1) (fun ha=>by rw [(zaa EB).1]at ha;cases ha) f0 f1 f2 f3 f4 f5 f6 (fun h=>by obtain⟨p,m,e,hm,hp,t⟩:=f7 h;exact⟨p,m,e,hm,hp,fun ha=>(t ha).frm (zaa zc) (fun q hq hs=>by have e9:q=p:=(by simpa [FB,Value.ownBlock,eq_comm]using hq);have:=nm q hs;omega)⟩) (fun h=>by obtain⟨e0,Eb,Db,za,Cb,wa,Ab,Bb,e,t⟩:=f8 h;exact⟨e0,Eb,Db,za,Cb,wa,Ab,Bb,e,fun ha=>(t ha).frm (zaa zc) nm⟩) f9 (fun h=>by obtain⟨z,e,hz,_⟩:=La h;exact⟨z,e,hz,fun ha=>by rw [(zaa EB).1]at ha;cases ha⟩) (fun _=>⟨(zaa EB).2.1,(zaa EB).2.2.1,(zaa EB).2.2.2,gq,cq,rfl,(zaa HW).2.2.2⟩) Ka Da (fun _=>rfl) (fun _=>⟨(zaa EB).1,zaa ic⟩)
     case dn=>
      intro L a w4 hI td
      have cb:=zdz (L:=L) (by refine hI _ ?_;intro b0 b1 b2 b3 b4 b5 b6 b7 b8 b9 Ma Fa Za Xa Wa Ib Gb ba Ya Na ca Ua Va da aa Ra Qa Ta ia Pa Oa Sa eL eA h0 h1 h2 h3 f0 f1 f2 f3 f4 f5 f6 f7 f8 f9 La ua Ka Da Fb pa;subst eL;rfl) (by kernel_rfl) td 17
      refine hI _ ?_
      clear hI
      intro b0 b1 b2 b3 b4 b5 b6 b7 b8 b9 Ma Fa Za Xa Wa Ib Gb ba Ya Na ca Ua Va da aa Ra Qa Ta ia Pa Oa Sa eL eA h0 h1 h2 h3 f0 f1 f2 f3 f4 f5 f6 f7 f8 f9 La ua Ka Da Fb pa
      subst eL eA
      have tA:Fa=true:=cb 11 (by omega) (by decide)
      have tS:Gb=true:=cb 16 (by omega) (by decide)
      obtain⟨_,_,_,gq,cq,ex,y,Fq,q1,q2,q3,q4,q5⟩:=ua tA
      have hc:=(pa tS).2
      rw [ex]at hc
      have HE:=hide (And.intro h0 ((zaa ab).kids h1.1 h1.2 hc h2 q1 (Nat.le_trans (zps ks y q3) (by omega)) (fun q hq=>⟨(q4 q hq).1,(q4 q hq).2.2.1⟩)))
      clear h0 h1 h2 h3 cb f0 f1 f2 f3 f4 f5 f6 f7 f8 f9 La ua Ka Da Fb pa tA tS hc q1 q2 q3 q4 q5
      go_wp2_with fail
      go_meet
      exact zaa HE
    by_cases k5:ks=5
    ·subst k5
     have HX:=hide ((zaa oa).rx)
     clear Ba oa
     go_wp2_with fail
     go_loopw [5] (fun i wr=>∃j:Nat,j<=25∧i=.int .i64 j∧BS w0 wst g code l b wr∧RXn wst.heap.size b j wr) (fun i _=>25-(intOf i).toNat)
     case atStart=>exact⟨0,by decide,rfl,zaa Ia,zaa HX⟩
     case round=>
      clear Ia HX
      obtain⟨j,hj,rfl,ma,pc⟩:=hrel
      by_cases hj5:j<25
      ·have gc:(j:Int)<25:=by omega
       have kc:=Lib.run_convert_bytes_const (P:=Tryz.prog) wr 22 5 #[.int .u8 112] 1 1 Tryz.underlying22 Tryz.underlying5
       obtain⟨Lc,⟨kd,a1,n1,c1,a2,n2,c2,a3,n3,c3,a4,n4,c4,mb⟩,Od,hC,hG⟩:=id ma
       have cd:Below wr.heap.size wr (wr.alloc (.cells #[.int .u8 112] 5 (1,2))):=(Below.refl _ _).alloc (Nat.le_refl _) _
       have hA:Below wr.heap.size wr ((wr.alloc (.cells #[.int .u8 112] 5 (1,2))).alloc (.cells #[.int .i64 kd,.slice a1 n1 c1,.slice a2 n2 c2,.slice a3 n3 c3,.slice a4 n4 c4] 29)):=zam cd ((Below.refl _ _).alloc (Nat.le_refl _) _)
       obtain⟨z0,z1,z2,z3,z4⟩:=(mb.frm (Frm.ofBelow cd []) (by simp)).cells
       have qc:=mb.frm (Frm.ofBelow hA []) (by simp)
       obtain⟨y0,y1,y2,y3,y4⟩:=qc.cells
       have g0:=qc.frozen 0
       have g1:=qc.frozen 1
       have g2:=qc.frozen 2
       have g3:=qc.frozen 3
       have g4:=qc.frozen 4
       have Ve:=ma.frm (Frm.ofBelow hA []) (fun q hq=>by cases hq) ga (by simp) (hC.keepAll hA)
       have HE:=hide (fun u1 u4 (h1:∃a n c,u1=.slice a n c) (h4:∃a n c,u4=.slice a n c)=>BS.put5 Ve ga Nc u1 u4 h1 h4)
       have Xe:=mb.lt
       have HX:=hide (RXn.wrap pc mb hA (r:=wr.heap.size+1) (by have:=Loc.made (wr.alloc (.cells #[.int .u8 112] 5 (1,2))) #[.int .i64 kd,.slice a1 n1 c1,.slice a2 n2 c2,.slice a3 n3 c3,.slice a4 n4 c4] 29;simpa using this) (((zno wr 112 (by decide) (by decide)).keep ((Below.refl _ _).alloc (Nat.le_refl _) _)).bl (Frm.refl _ []) (by simp) _ (fun q hq=>by simp [FB,Value.ownBlock]at hq;rw [zbZ];omega)) rfl (by omega))
       simp only [Nat.zero_add]at y0 y1 y2 y3 y4 z0 z1 z2 z3 z4
       clear Xe pc ma Lc mb hC hG cd hA qc Ve
       go_wp2_with fail
       go_roundw
       case rel=>exact⟨j+1,by omega,by go_num,zaa HE _ _ ⟨_,_,_,rfl⟩ ⟨_,_,_,rfl⟩,zaa HX⟩
       case measure=>simp [intOf];omega
      ·have gc:¬ (j:Int)<25:=by omega
       have HE:=hide (And.intro ma (show RX wst.heap.size b wr from ⟨j,hj,pc⟩))
       clear ma pc
       go_wp2_with fail
       go_meet
       exact zaa HE
    obtain rfl:ks=6:=by omega
    clear k0 k1 k2 k3 k4 k5
    obtain⟨dd,_,_,_,_,tc,_,Xc,-,la⟩:=(zaa oa).parts
    obtain⟨xa,ya,ea,_,_⟩:=Elems.shape (OwKidsM.rd la.r4)
    have Tc:tc.length=t.kids.length:=by injection ea with _ e _;exact e.symm
    have ra:=(zaa Ba).1.cells.2.2.2.2
    have ob:OwKidsM (dd+1) w5 (.slice x4 t.kids.length y4) tc Xc:=la.r4
    rw [<-Tc]at ra ob
    have pb:=OwElems.ltM la.r4 (fun _ _ _ hr=>OwNodeM.lt hr)
    have Ud:=hide (show BS w0 wst g code l b w5∧Bk w5 bx Ja∧∃ka kc ks Fk,ks.length<=3+0∧szK (dd+1) ks<=szK (dd+1) tc+101*0∧w5.cell? ⟨bx,Ja+4,none⟩=some (.slice ka ks.length kc)∧OwKidsM (dd+1) w5 (.slice ka ks.length kc) ks Fk∧Fk.Nodup∧∀q∈Fk,wst.heap.size<q∧q≠bx∧q≠b∧(q∈Xc∨w5.heap.size<=q) from ⟨zaa Ia,(zaa Ba).1.bk,_,_,tc,Xc,by omega,by omega,ra,ob,(List.nodup_append.1 la.nd).2.1,fun q hq=>⟨(la.far q (by simp [hq])).1,(la.far q (by simp [hq])).2.2.1,(la.far q (by simp [hq])).2.1,.inl hq⟩⟩)
    have ab:=hide la
    clear la ea Tc ra ob oa
    go_wp2_with fail
    go_loopw [6] (fun i wr=>∃j:Nat,j<=120∧i=.int .i64 j∧BS w0 wst g code l b wr∧Bk wr bx Ja∧(Frm w5 wr (bx::g::Xc)∧∀j',j'≠Ja+4->wr.cell? ⟨bx,j',none⟩=w5.cell? ⟨bx,j',none⟩)∧∃ka kc ks Fk,ks.length<=3+j∧szK (dd+1) ks<=szK (dd+1) tc+101*j∧wr.cell? ⟨bx,Ja+4,none⟩=some (.slice ka ks.length kc)∧OwKidsM (dd+1) wr (.slice ka ks.length kc) ks Fk∧Fk.Nodup∧∀q∈Fk,wst.heap.size<q∧q≠bx∧q≠b∧(q∈Xc∨w5.heap.size<=q)) (fun i _=>120-(intOf i).toNat)
    case atStart=>exact⟨0,by decide,rfl,(zaa Ud).1,(zaa Ud).2.1,⟨Frm.refl _ _,fun _ _=>rfl⟩,(zaa Ud).2.2⟩
    case round=>
     have Ec:=(zaa Ba).2.2.2.2.2.1
     have fa:=(zaa Ba).2.2.2.2.2.2
     clear Ud
     obtain⟨j,hj,rfl,ma,Kb,Yc,ka,kc,ks,Fk,ee,tf,ra,ob,bc,Oc⟩:=hrel
     by_cases hj5:j<120
     ·have gc:(j:Int)<120:=by omega
      obtain⟨w3,ed⟩:∃w3,w3=wr:=⟨_,rfl⟩
      subst ed
      have Ie:=Kb.lt
      have Ef:=ma.2.1.lt
      have ib:ks.length<=1000:=by omega
      have pb:=OwElems.ltM ob (fun _ _ _ hr=>OwNodeM.lt hr)
      have qb:∀q∈Fk,wst.heap.size<q∧q≠bx∧q≠b∧q<w3.heap.size:=fun q hq=>⟨(Oc q hq).1,(Oc q hq).2.1,(Oc q hq).2.2.1,pb q hq⟩
      have Me:Bk w3.drew bx Ja:=Kb
      have Ce:w3.drew.cell? ⟨bx,Ja+4,none⟩=some (.slice ka ks.length kc):=ra
      have ec:OwKidsM (dd+1) w3.drew (.slice ka ks.length kc) ks Fk:=OwKidsM.frm ob (Frm.ofBelow ((Below.refl _ _).drew) []) (by simp)
      have Zc:BS w0 wst g code l b w3.drew:=ma.frm (Frm.ofBelow ((Below.refl _ _).drew) []) (fun q hq=>by cases hq) ga (by simp) (ma.2.2.2.1.keepAll ((Below.refl _ _).drew))
      have yd:Frm w3 w3.drew (bx::g::Fk)∧∀j,j≠Ja+4->w3.drew.cell? ⟨bx,j,none⟩=w3.cell? ⟨bx,j,none⟩:=⟨Frm.ofBelow ((Below.refl _ _).drew) _,fun _ _=>rfl⟩
      clear Kb ra ma ob pb
      go_wp2_with fail
      refine zeT (by kernel_rfl) (Lb11 w0 wst w3 g b bx Ja code l ka kc dd ks Fk (undef) (.pointer (some ⟨wst.heap.size,0,none⟩)) (.pointer (some ⟨b,0,none⟩)) (undef) (.int .i64 (j:Int)) (.pointer (some ⟨g,0,none⟩)) (.agg #[.int .i64 k,.slice p1 n1 c1,.slice p2 n2 c2,.slice p3 n3 c3,.slice p4 n4 c4]) (.pointer (some ⟨g,0,none⟩)) (.bool true) (.bool false) (undef) (u13) (u14) (u15) (u16) (u17) (u18) (u19) (u20) (u21) (.bool false) (u23) (u24) (u25) (u26) (u27) (u28) (u29) (u30) (u31) (u32) (u33) (u34) (.pointer (some ⟨g,0,none⟩)) (.int .i64 6) (.int .i64 (j:Int)) (.bool true) (u39) (u40) (.bool false) (.bool false) (undef) (undef) (undef) (undef) (undef) (undef) (.bool false) (.bool false) (undef) (undef) (undef) (undef) (undef) (undef) (undef) (undef) (undef) (.bool false) (.bool false) (undef) (undef) (undef) (undef) (undef) (undef) (undef) (undef) (undef) (undef) (undef) (undef) (.bool false) (.bool false) (undef) (undef) (undef) (undef) (undef) (undef) (undef) (undef) (undef) (undef) (undef) (undef) (.bool false) (.bool false) (undef) (undef) (undef) (undef) (undef) (undef) (undef) (undef) (undef) (undef) (undef) (undef) (undef) (undef) (undef) (.bool false) (.bool false) (undef) (undef) (undef) (undef) (undef) (undef) (undef) (undef) (undef) (undef)) ?sz ?h0 ?step ?dn
      case sz=>
       intro L a w hI
       refine hI _ ?_
       intro b0 b1 b2 b3 b4 b5 b6 b7 b8 b9 Ma Fa Za Xa Wa jb Vb Qb db Sb Yb Ob Ub Tb nb Rb Wb Xb eL eA h0 h1 h2 h3 f0 f1 f2 f3 f4 f5 f6 f7 f8 f9 La Ka Mb Da
       subst eL
       rfl
      case h0=>
       exact fun _ k_=>k_ false false false false false false false false false false false false false false false _ _ _ _ _ _ _ _ _ _ _ _ _ rfl rfl Zc yd Me (fun _=>⟨Ce,ec⟩) (fun h=>by cases h) (fun h=>by cases h) (fun h=>by cases h) (fun h=>by cases h) (fun h=>by cases h) (fun h=>by cases h) (fun h=>by cases h) (fun h=>by cases h) (fun h=>by cases h) (fun h=>by cases h) (fun h=>by cases h) (fun h=>by cases h) (fun h=>by cases h) (fun h=>by cases h)
      case step=>
       intro L a w i o hI hi ho
       refine hI _ ?_
       clear hI
       intro b0 b1 b2 b3 b4 b5 b6 b7 b8 b9 Ma Fa Za Xa Wa jb Vb Qb db Sb Yb Ob Ub Tb nb Rb Wb Xb eL eA h0 h1 h2 h3 f0 f1 f2 f3 f4 f5 f6 f7 f8 f9 La Ka Mb Da
       subst eL eA
       rcases zsB (zjJ hi)with rfl | rfl | rfl | rfl | rfl | rfl | rfl | rfl | rfl | rfl | rfl | rfl | rfl | rfl | rfl
       ·obtain rfl:=Option.some.inj ho
        go_simp
        exact fun _ k_=>k_ true b1 b2 b3 b4 b5 b6 b7 b8 b9 Ma Fa Za Xa Wa _ Vb Qb db Sb Yb Ob Ub Tb nb Rb Wb Xb rfl rfl h0 h1 h2 h3 (fun _=>rfl) f1 f2 f3 f4 f5 f6 f7 f8 f9 La Ka Mb Da
       ·have g0:=zak hi ho 0
        obtain rfl:=Option.some.inj ho
        have e0:=f0 (g0 (by kernel_rfl))
        subst e0
        go_simp
        exact fun _ k_=>k_ b0 true b2 b3 b4 b5 b6 b7 b8 b9 Ma Fa Za Xa Wa _ _ Qb db Sb Yb Ob Ub Tb nb Rb Wb Xb rfl rfl h0 h1 h2 h3 f0 (fun _=>rfl) f2 f3 f4 f5 f6 f7 f8 f9 La Ka Mb Da
       ·have g1:=zak hi ho 1
        obtain rfl:=Option.some.inj ho
        have e1:=f1 (g1 (by kernel_rfl))
        subst e1
        go_simp
        exact fun _ k_=>k_ b0 b1 true b3 b4 b5 b6 b7 b8 b9 Ma Fa Za Xa Wa jb _ _ db Sb Yb Ob Ub Tb nb Rb Wb Xb rfl rfl h0 h1 h2 h3 f0 f1 (fun _=>rfl) f3 f4 f5 f6 f7 f8 f9 La Ka Mb Da
       ·have g2:=zak hi ho 2
        obtain rfl:=Option.some.inj ho
        have e2:=f2 (g2 (by kernel_rfl))
        subst e2
        have Ha:b3=false:=by simpa using zaz rfl hi
        have ck:=(h3 (by cases hb:b9 with
         | false=>rfl
         | true=>have:=(f9 hb).1;rw [Ha]at this;cases this)).1
        clear Ha
        go_simp
        exact fun _ k_=>k_ b0 b1 b2 true b4 b5 b6 b7 b8 b9 Ma Fa Za Xa Wa jb Vb _ _ Sb Yb Ob Ub Tb nb Rb Wb Xb rfl rfl h0 h1 h2 h3 f0 f1 f2 (fun _=>rfl) f4 f5 f6 f7 f8 (fun h=>⟨rfl,(f9 h).2⟩) La Ka Mb Da
       ·have Ha:b4=false:=by simpa using zaz rfl hi
        obtain rfl:=Option.some.inj ho
        have Uc:Below w.heap.size w (w.alloc (.cells #[.int .u8 98] 5)):=(Below.refl _ _).alloc (Nat.le_refl _) _
        have Cd:=Loc.made w #[.int .u8 98] 5
        have hf:=Frm.ofBelow Uc []
        have sa:=h0.frm hf (fun q hq=>by cases hq) ga (by simp) (h0.2.2.2.1.keepAll Uc)
        have Ca:bx∉([]:Xh):=by simp
        have qa:Frm w3 _ (bx::g::Fk)∧∀j,j≠Ja+4->World.cell? _ ⟨bx,j,none⟩=w3.cell? ⟨bx,j,none⟩:=⟨h1.1.trans (hf.mono (fun q hq=>by cases hq)),fun j hj=>(World.cell?_of_block (hf.block bx h2.lt Ca)).trans (h1.2 j hj)⟩
        have tb:∀q∈Fk,q∉([]:Xh):=fun _ _=>by simp
        have nm:∀q∈([]:Xh),q<w3.heap.size:=fun _ h=>by cases h
        have nA:∀q∈([]:Xh),q<=wst.heap.size∨q=bx:=fun _ h=>by cases h
        have nz:∀z,w3.heap.size<=z->Loc w z #[.int .i64 0,.slice none 0 0,.slice none 0 0,.slice none 0 0,.slice none 0 0] 29->z∉([]:Xh):=fun _ _ _=>by simp
        have np:∀p,w3.heap.size<=p->Loc w p #[.int .u8 98] 5->p∉([]:Xh):=fun _ _ _=>by simp
        have Rc:w3.heap.size<=w.heap.size:=h1.1.size
        have Vc:=hide Ha
        clear Ha
        go_simp
        exact fun _ k_=>k_ b0 b1 b2 b3 true b5 b6 b7 b8 b9 Ma Fa Za Xa Wa jb Vb Qb db _ Yb Ob Ub Tb nb Rb Wb Xb rfl rfl sa qa (h2.frm hf Ca) (fun ha=>⟨(hf.cell4 h2 Ca).trans (h3 ha).1,OwKidsM.frm (h3 ha).2 hf tb⟩) f0 f1 f2 f3 (fun _=>⟨w.heap.size,rfl,Rc,fun _=>Cd⟩) (fun h=>by have:=(f5 h).1;rw [zaa Vc]at this;cases this) (fun h=>by obtain⟨e0,Eb,Db,za,Cb,wa,Ab,Bb,e,t⟩:=f6 h;exact⟨e0,Eb,Db,za,Cb,wa,Ab,Bb,e,fun ha=>(t ha).frm hf nm⟩) f7 (fun h=>by obtain⟨z,e,hz,t⟩:=f8 h;exact⟨z,e,hz,fun ha=>(t ha).frm hf (nz z hz (t ha))⟩) (fun h=>by obtain⟨e1,e2,e3,gq,cq,e,t⟩:=f9 h;exact⟨e1,e2,e3,gq,cq,e,t.frm hf nA⟩) La Ka Mb (fun h=>⟨(Da h).1,(hf.cell4 h2 Ca).trans (Da h).2⟩)
       ·have g4:=zak hi ho 4
        have Ha:b5=false:=by simpa using zaz rfl hi
        obtain rfl:=Option.some.inj ho
        have eb:b4=true:=g4 (by kernel_rfl)
        obtain⟨p,ex,hp,ie⟩:=f4 eb
        have lp:=ie Ha
        subst ex
        obtain⟨w9,Ge,hf,lf,na⟩:=zwC w p 1 1 #[.int .u8 98] lp
        have vf:p≠g:=by have:=h1.1.size;omega
        have ff:RowM w9 0 (.slice (some ⟨p,0,none⟩) 1 1) [98]:=⟨by intro y hy;simp at hy;omega,.inr ⟨p,1,_,_,rfl,Nat.zero_le _,na,by intro j hj;simp;omega,by simp,by simp [maxLen],rfl,rfl⟩⟩
        have uf:=lp.lt
        have sa:=h0.frm hf (fun q hq=>by simp at hq;right;omega) ga (by simp;omega) (h0.2.2.2.1.keep (Frm.toGrown' hf) (by simp;omega) (fun q hq=>by cases hq;omega))
        have qa:Frm w3 w9 (bx::g::Fk)∧∀j,j≠Ja+4->w9.cell? ⟨bx,j,none⟩=w3.cell? ⟨bx,j,none⟩:=⟨ziQ h1.1 hf (fun q hq=>by simp at hq;omega),fun j hj=>(World.cell?_of_block (hf.block bx h2.lt (by simp;omega))).trans (h1.2 j hj)⟩
        have Ca:bx∉[p]:=by simp;omega
        have tb:∀q∈Fk,q∉[p]:=fun q hq=>by have:=(qb q hq).2.2.2;simp;omega
        have nz:∀z,w3.heap.size<=z->Loc w z #[.int .i64 0,.slice none 0 0,.slice none 0 0,.slice none 0 0,.slice none 0 0] 29->z∉[p]:=fun z _ lz e=>by
         simp at e
         subst e
         unfold Loc at lz lp
         rw [lz]at lp
         injection lp with lp
         injection lp with _ h9
         revert h9
         decide
        have Vc:=hide Ha
        have EB:=hide eb
        clear Ha eb ie lp
        go_simp
        exact fun _ k_=>k_ b0 b1 b2 b3 b4 true b6 b7 b8 b9 Ma Fa Za Xa Wa jb Vb Qb db _ _ Ob Ub Tb nb Rb Wb Xb rfl rfl sa qa (h2.frm hf Ca) (fun ha=>⟨(hf.cell4 h2 Ca).trans (h3 ha).1,OwKidsM.frm (h3 ha).2 hf tb⟩) f0 f1 f2 f3 (fun _=>⟨p,rfl,hp,fun h=>by cases h⟩) (fun _=>⟨zaa EB,p,rfl,hp,fun _=>ff⟩) (fun h=>by have:=(f6 h).1;rw [zaa Vc]at this;cases this) f7 (fun h=>by obtain⟨z,e,hz,t⟩:=f8 h;exact⟨z,e,hz,fun ha=>(t ha).frm hf (nz z hz (t ha))⟩) (fun h=>by have:=(f9 h).2.2.1;rw [zaa Vc]at this;cases this) La Ka Mb (fun h=>⟨(Da h).1,(hf.cell4 h2 Ca).trans (Da h).2⟩)
       ·have g5:=zak hi ho 5
        have Ha:b6=false:=by simpa using zaz rfl hi
        obtain rfl:=Option.some.inj ho
        obtain⟨eb,p,ex,hp,tp⟩:=f5 (g5 (by kernel_rfl))
        have EB:=hide (And.intro (g5 (by kernel_rfl)) (And.intro eb (tp Ha)))
        clear eb Ha tp
        subst ex
        go_simp
        exact fun _ k_=>k_ b0 b1 b2 b3 b4 b5 true b7 b8 b9 Ma Fa Za Xa Wa jb Vb Qb db Sb _ _ Ub Tb nb Rb Wb Xb rfl rfl h0 h1 h2 h3 f0 f1 f2 f3 f4 (fun _=>⟨(zaa EB).2.1,p,rfl,hp,fun h=>by cases h⟩) (fun _=>⟨(zaa EB).1,_,_,_,_,_,_,_,rfl,fun _=>zyN (zaa EB).2.2 (by simp) (fun q hq=>by have e9:q=p:=(by simpa [FB,Value.ownBlock,eq_comm]using hq);omega)⟩) f7 f8 f9 La Ka Mb Da
       ·have g3:=zak hi ho 3
        obtain rfl:=Option.some.inj ho
        have e3:=f3 (g3 (by kernel_rfl))
        subst e3
        go_simp
        exact fun _ k_=>k_ b0 b1 b2 b3 b4 b5 b6 true b8 b9 Ma Fa Za Xa Wa jb Vb Qb _ Sb Yb Ob _ Tb nb Rb Wb Xb rfl rfl h0 h1 h2 h3 f0 f1 f2 f3 f4 f5 f6 (fun _=>rfl) f8 f9 La Ka Mb Da
       ·have Ha:b8=false:=by simpa using zaz rfl hi
        obtain rfl:=Option.some.inj ho
        have Uc:Below w.heap.size w (w.alloc (.cells #[.int .i64 0,.slice none 0 0,.slice none 0 0,.slice none 0 0,.slice none 0 0] 29)):=(Below.refl _ _).alloc (Nat.le_refl _) _
        have Cd:=Loc.made w #[.int .i64 0,.slice none 0 0,.slice none 0 0,.slice none 0 0,.slice none 0 0] 29
        have hf:=Frm.ofBelow Uc []
        have sa:=h0.frm hf (fun q hq=>by cases hq) ga (by simp) (h0.2.2.2.1.keepAll Uc)
        have Ca:bx∉([]:Xh):=by simp
        have qa:Frm w3 _ (bx::g::Fk)∧∀j,j≠Ja+4->World.cell? _ ⟨bx,j,none⟩=w3.cell? ⟨bx,j,none⟩:=⟨h1.1.trans (hf.mono (fun q hq=>by cases hq)),fun j hj=>(World.cell?_of_block (hf.block bx h2.lt Ca)).trans (h1.2 j hj)⟩
        have tb:∀q∈Fk,q∉([]:Xh):=fun _ _=>by simp
        have nm:∀q∈([]:Xh),q<w3.heap.size:=fun _ h=>by cases h
        have nA:∀q∈([]:Xh),q<=wst.heap.size∨q=bx:=fun _ h=>by cases h
        have nz:∀z,w3.heap.size<=z->Loc w z #[.int .i64 0,.slice none 0 0,.slice none 0 0,.slice none 0 0,.slice none 0 0] 29->z∉([]:Xh):=fun _ _ _=>by simp
        have np:∀p,w3.heap.size<=p->Loc w p #[.int .u8 98] 5->p∉([]:Xh):=fun _ _ _=>by simp
        have Rc:w3.heap.size<=w.heap.size:=h1.1.size
        have Vc:=hide Ha
        clear Ha
        go_simp
        exact fun _ k_=>k_ b0 b1 b2 b3 b4 b5 b6 b7 true b9 Ma Fa Za Xa Wa jb Vb Qb db Sb Yb Ob Ub _ nb Rb Wb Xb rfl rfl sa qa (h2.frm hf Ca) (fun ha=>⟨(hf.cell4 h2 Ca).trans (h3 ha).1,OwKidsM.frm (h3 ha).2 hf tb⟩) f0 f1 f2 f3 (fun h=>by obtain⟨p,e,hp,t⟩:=f4 h;exact⟨p,e,hp,fun ha=>(t ha).frm hf (np p hp (t ha))⟩) (fun h=>by obtain⟨e0,p,e,hp,t⟩:=f5 h;exact⟨e0,p,e,hp,fun ha=>(t ha).frm hf (fun q hq hs=>by have e9:q=p:=(by simpa [FB,Value.ownBlock,eq_comm]using hq);have:=nm q hs;omega)⟩) (fun h=>by obtain⟨e0,Eb,Db,za,Cb,wa,Ab,Bb,e,t⟩:=f6 h;exact⟨e0,Eb,Db,za,Cb,wa,Ab,Bb,e,fun ha=>(t ha).frm hf nm⟩) f7 (fun _=>⟨w.heap.size,rfl,Rc,fun _=>Cd⟩) (fun h=>by have:=(f9 h).2.1;rw [zaa Vc]at this;cases this) La Ka Mb (fun h=>⟨(Da h).1,(hf.cell4 h2 Ca).trans (Da h).2⟩)
       ·have g3:=zak hi ho 3
        have g8:=zak hi ho 8
        have g5:=zak hi ho 5
        have Ha:b9=false:=by simpa using zaz rfl hi
        obtain rfl:=Option.some.inj ho
        have t3:b3=true:=g3 (by kernel_rfl)
        have t8:b8=true:=g8 (by kernel_rfl)
        have t5:b5=true:=g5 (by kernel_rfl)
        have e1:=f3 t3
        obtain⟨z,ez,hz,Ee⟩:=f8 t8
        have lz:=Ee Ha
        have hr:=(h3 Ha).2
        subst e1 ez
        have Kd:=(fun q (hq:q∈Fk)=>(qb q hq).2.2.2)
        have Bc:=h1.1.size
        refine zoU (H:=wst.heap.size) (b:=b) (bx:=bx) (m:=w3.heap.size) (by rfl) (.tmp 44) (.tmp 49) (by rfl) ka kc (by rfl) hr bc z (by rfl) lz qb Bc (by have:=h0.2.2.1;omega) ib ?_
        intro gq cq w9 nc hf
        have hS:∀q∈FB (.slice ka ks.length kc),wst.heap.size<q∧q≠bx∧q≠b∧q∈Fk:=fun q hq=>by have hm:q∈Fk:=ztw hr q hq;exact⟨(qb q hm).1,(qb q hm).2.1,(qb q hm).2.2.1,hm⟩
        have fb:=Frm.toGrownV hf
        have sa:=h0.frm hf (fun q hq=>.inr (hS q hq).1) ga (fun e=>(hS b e).2.2.1 rfl) (h0.2.2.2.1.keep fb (fun e=>by have:=(hS g (by rw [FB,<-e];simp)).1;omega) (fun q hq=>by have:=(hS q (by rw [FB,hq];simp)).1;omega))
        have Ca:bx∉FB (.slice ka ks.length kc):=fun e=>(hS bx e).2.1 rfl
        have qa:Frm w3 w9 (bx::g::Fk)∧∀j,j≠Ja+4->(w9).cell? ⟨bx,j,none⟩=w3.cell? ⟨bx,j,none⟩:=⟨h1.1.trans (hf.mono (fun q hq=>by simp [(hS q hq).2.2.2])),fun j hj=>(World.cell?_of_block (hf.block bx h2.lt Ca)).trans (h1.2 j hj)⟩
        have nm:∀q∈FB (.slice ka ks.length kc),q<w3.heap.size:=fun q hq=>Kd q (hS q hq).2.2.2
        exact fun _ k_=>k_ b0 b1 b2 b3 b4 b5 b6 b7 b8 true Ma Fa Za Xa Wa jb Vb Qb _ Sb Yb Ob Ub _ _ Rb Wb Xb rfl rfl sa qa (h2.frm hf Ca) (fun ha=>by cases ha) f0 f1 f2 (fun _=>rfl) (fun h=>by obtain⟨p,e,hp,_⟩:=f4 h;exact⟨p,e,hp,fun ha=>by rw [t5]at ha;cases ha⟩) (fun h=>by obtain⟨e0,p,e,hp,t⟩:=f5 h;exact⟨e0,p,e,hp,fun ha=>(t ha).frm hf (fun q hq hs=>by have e9:q=p:=(by simpa [FB,Value.ownBlock,eq_comm]using hq);have:=nm q hs;omega)⟩) (fun h=>by obtain⟨e0,Eb,Db,za,Cb,wa,Ab,Bb,e,t⟩:=f6 h;exact⟨e0,Eb,Db,za,Cb,wa,Ab,Bb,e,fun ha=>(t ha).frm hf nm⟩) f7 (fun _=>⟨z,rfl,hz,fun ha=>by cases ha⟩) (fun _=>⟨t3,t8,t5,gq,cq,rfl,nc _⟩) (fun h=>by have:=(La h).1;rw [Ha]at this;cases this) Ka Mb (fun h=>by have:=(Da h).1;rw [Ha]at this;cases this)
       ·have g9:=zak hi ho 9
        have g7:=zak hi ho 7
        obtain rfl:=Option.some.inj ho
        have ta:b9=true:=g9 (by kernel_rfl)
        obtain⟨e1,e2,e3,gq,cq,ex,Aa⟩:=f9 ta
        have el:=f7 (g7 (by kernel_rfl))
        subst ex el
        have Of:(ks.length:Int)<((ks.length+1:Nat):Int):=by omega
        have Xd:(ks.length:Int)<(ks.length:Int)+1:=by omega
        have Hd:(0:Int)<=(ks.length:Int):=by omega
        have EB:=hide (And.intro ta (And.intro e1 (And.intro e2 e3)))
        clear ta e1 e2 e3
        go_simp
        exact fun _ k_=>k_ b0 b1 b2 b3 b4 b5 b6 b7 b8 b9 true Fa Za Xa Wa jb Vb Qb db Sb Yb Ob _ Tb _ _ Wb Xb rfl rfl h0 h1 h2 h3 f0 f1 f2 f3 f4 f5 f6 (fun _=>rfl) f8 (fun _=>⟨(zaa EB).2.1,(zaa EB).2.2.1,(zaa EB).2.2.2,gq,cq,rfl,Aa⟩) (fun _=>⟨(zaa EB).1,gq,cq,rfl,rfl⟩) Ka Mb Da
       ·have De:=zak hi ho 10
        have g6:=zak hi ho 6
        have Ha:Fa=false:=by simpa using zaz rfl hi
        obtain rfl:=Option.some.inj ho
        obtain⟨ta,gq,cq,ex,ei⟩:=La (De (by kernel_rfl))
        have tn:b6=true:=g6 (by kernel_rfl)
        obtain⟨eM,Eb,Db,za,Cb,wa,Ab,Bb,en,Mc⟩:=f6 tn
        obtain⟨e1,e2,e3,gr,cr,Dd,Aa⟩:=f9 ta
        have Wd:=Dd.symm.trans ex
        injection Wd with y1 _ y3
        injection y1 with y1
        injection y1 with y1 _ _
        subst y1 y3
        clear Dd
        have Mc:=Mc Ha
        rw [Ha]at Aa
        obtain⟨_,Yf,Rf⟩:=Aa.cell (ks.length*5) (by omega)
        obtain⟨_,Qf,ye⟩:=Aa.cell (ks.length*5+1) (by omega)
        obtain⟨_,bf,mf⟩:=Aa.cell (ks.length*5+2) (by omega)
        obtain⟨_,Bf,Pf⟩:=Aa.cell (ks.length*5+3) (by omega)
        obtain⟨_,we,xe⟩:=Aa.cell (ks.length*5+4) (by omega)
        obtain⟨o1,o2,o3,o4,_⟩:=Aa.own
        have hf:Frm w ((((((w).setCell ⟨gr,ks.length*5,none⟩ (.int .i64 Eb)).setCell ⟨gr,ks.length*5+1,none⟩ (.slice Db za Cb)).setCell ⟨gr,ks.length*5+2,none⟩ (.slice wa Ab Bb)).setCell ⟨gr,ks.length*5+3,none⟩ (.slice none 0 0)).setCell ⟨gr,ks.length*5+4,none⟩ (.slice none 0 0)) [gr]:=((((zap _ _ _ _).trans (zap _ _ _ _)).trans (zap _ _ _ _)).trans (zap _ _ _ _)).trans (zap _ _ _ _)
        have Bc:=h1.1.size
        have ja:=Aa.set5 Mc (by have:=h0.2.2.1;omega)
        have sa:=h0.frm hf (fun q hq=>by simp at hq;right;omega) ga (by simp;omega) (h0.2.2.2.1.keep (Frm.toGrown' hf) (by simp;omega) (fun q hq=>by cases hq;omega))
        have Ca:bx∉[gr]:=by simp;omega
        have qa:Frm w3 _ (bx::g::Fk)∧∀j,j≠Ja+4->World.cell? _ ⟨bx,j,none⟩=w3.cell? ⟨bx,j,none⟩:=⟨ziQ h1.1 hf (fun q hq=>by simp at hq;subst hq;rcases o4 with h | h;exact .inl (by simp [h]);exact .inr h),fun j hj=>(World.cell?_of_block (hf.block bx h2.lt Ca)).trans (h1.2 j hj)⟩
        have na:=h2.frm hf Ca
        have ic:=hide (fun h=>(hf.cell4 h2 Ca).trans (Da h).2)
        have EB:=hide (And.intro ta (And.intro e1 (And.intro e2 (And.intro e3 (And.intro tn eM)))))
        have HW:=hide (And.intro sa (And.intro qa (And.intro na ja)))
        clear ta tn eM e1 e2 e3 sa qa na ja hf Aa Mc Ha
        subst ei en ex
        clear f9 f6
        go_simp
        exact fun _ k_=>k_ b0 b1 b2 b3 b4 b5 b6 b7 b8 b9 Ma true Za Xa Wa jb Vb Qb db Sb Yb _ Ub Tb _ _ Wb Xb rfl rfl ((zaa HW).1) ((zaa HW).2.1) ((zaa HW).2.2.1) (fun ha=>by rw [(zaa EB).1]at ha;cases ha) f0 f1 f2 f3 (fun h=>by obtain⟨p,e,hp,_⟩:=f4 h;exact⟨p,e,hp,fun ha=>by rw [(zaa EB).2.2.2.1]at ha;cases ha⟩) (fun h=>by obtain⟨e0,p,e,hp,_⟩:=f5 h;exact⟨e0,p,e,hp,fun ha=>by rw [(zaa EB).2.2.2.2.1]at ha;cases ha⟩) (fun _=>⟨(zaa EB).2.2.2.2.2,_,_,_,_,_,_,_,rfl,fun h=>by cases h⟩) f7 (fun h=>by obtain⟨z,e,hz,_⟩:=f8 h;exact⟨z,e,hz,fun ha=>by rw [(zaa EB).1]at ha;cases ha⟩) (fun _=>⟨(zaa EB).2.1,(zaa EB).2.2.1,(zaa EB).2.2.2.1,gr,cr,rfl,(zaa HW).2.2.2⟩) (fun _=>⟨(zaa EB).1,gr,cr,rfl,rfl⟩) Ka Mb (fun h=>⟨(zaa EB).1,zaa ic h⟩)
       ·have g0:=zak hi ho 0
        obtain rfl:=Option.some.inj ho
        have e0:=f0 (g0 (by kernel_rfl))
        subst e0
        go_simp
        exact fun _ k_=>k_ b0 b1 b2 b3 b4 b5 b6 b7 b8 b9 Ma Fa true Xa Wa _ Vb Qb db Sb Yb Ob Ub Tb nb Rb _ Xb rfl rfl h0 h1 h2 h3 f0 f1 f2 f3 f4 f5 f6 f7 f8 f9 La (fun _=>rfl) Mb Da
       ·have qd:=zak hi ho 12
        obtain rfl:=Option.some.inj ho
        have Mf:=Ka (qd (by kernel_rfl))
        subst Mf
        go_simp
        exact fun _ k_=>k_ b0 b1 b2 b3 b4 b5 b6 b7 b8 b9 Ma Fa Za true Wa jb Vb Qb db Sb Yb Ob Ub Tb nb Rb _ _ rfl rfl h0 h1 h2 h3 f0 f1 f2 f3 f4 f5 f6 f7 f8 f9 La Ka (fun _=>rfl) Da
       ·have jf:=zak hi ho 13
        have g9:=zak hi ho 9
        obtain rfl:=Option.some.inj ho
        have ta:b9=true:=g9 (by kernel_rfl)
        have ef:=Mb (jf (by kernel_rfl))
        obtain⟨e1,e2,e3,gq,cq,ex,Aa⟩:=f9 ta
        subst ef ex
        obtain⟨_,c4,t4⟩:=h2.cell 4 (by decide)
        have sa:=h0.store fa Ec ga Nc 4 (.slice (some ⟨gq,0,none⟩) (ks.length+1) cq) ⟨_,_,_,rfl⟩
        have hf:=zap w bx (Ja+4) (.slice (some ⟨gq,0,none⟩) (ks.length+1) cq)
        have qa:Frm w3 _ (bx::g::Fk)∧∀j,j≠Ja+4->World.cell? _ ⟨bx,j,none⟩=w3.cell? ⟨bx,j,none⟩:=⟨h1.1.trans (hf.mono (by simp)),fun j hj=>(h2.put_other j hj (.slice (some ⟨gq,0,none⟩) (ks.length+1) cq)).trans (h1.2 j hj)⟩
        have na:=h2.set (Ja+4) (.slice (some ⟨gq,0,none⟩) (ks.length+1) cq)
        have ic:=hide (h2.put4 (.slice (some ⟨gq,0,none⟩) (ks.length+1) cq))
        have ja:=Aa.frm hf (fun q hq=>by simp at hq;exact .inr hq)
        have nm:∀q∈[bx],q<w3.heap.size:=fun q hq=>by simp at hq;omega
        have zc:=hide hf
        have EB:=hide (And.intro ta (And.intro e1 (And.intro e2 e3)))
        have HW:=hide (And.intro sa (And.intro qa (And.intro na ja)))
        clear ta e1 e2 e3 sa qa na ja hf Aa
        clear f9
        go_simp
        exact fun _ k_=>k_ b0 b1 b2 b3 b4 b5 b6 b7 b8 b9 Ma Fa Za Xa true jb Vb Qb db Sb Yb Ob Ub Tb _ Rb Wb _ rfl rfl ((zaa HW).1) ((zaa HW).2.1) ((zaa HW).2.2.1) (fun ha=>by rw [(zaa EB).1]at ha;cases ha) f0 f1 f2 f3 (fun h=>by obtain⟨p,e,hp,_⟩:=f4 h;exact⟨p,e,hp,fun ha=>by rw [(zaa EB).2.2.2]at ha;cases ha⟩) (fun h=>by obtain⟨e0,p,e,hp,t⟩:=f5 h;exact⟨e0,p,e,hp,fun ha=>(t ha).frm (zaa zc) (fun q hq hs=>by have e9:q=p:=(by simpa [FB,Value.ownBlock,eq_comm]using hq);have:=nm q hs;omega)⟩) (fun h=>by obtain⟨e0,Eb,Db,za,Cb,wa,Ab,Bb,e,t⟩:=f6 h;exact⟨e0,Eb,Db,za,Cb,wa,Ab,Bb,e,fun ha=>(t ha).frm (zaa zc) nm⟩) f7 (fun h=>by obtain⟨z,e,hz,_⟩:=f8 h;exact⟨z,e,hz,fun ha=>by rw [(zaa EB).1]at ha;cases ha⟩) (fun _=>⟨(zaa EB).2.1,(zaa EB).2.2.1,(zaa EB).2.2.2,gq,cq,rfl,(zaa HW).2.2.2⟩) La Ka (fun _=>rfl) (fun _=>⟨(zaa EB).1,zaa ic⟩)
      case dn=>
       intro L a w4 hI td
       have cb:=zdz (L:=L) (by refine hI _ ?_;intro b0 b1 b2 b3 b4 b5 b6 b7 b8 b9 Ma Fa Za Xa Wa jb Vb Qb db Sb Yb Ob Ub Tb nb Rb Wb Xb eL eA h0 h1 h2 h3 f0 f1 f2 f3 f4 f5 f6 f7 f8 f9 La Ka Mb Da;subst eL;rfl) (by kernel_rfl) td 15
       refine hI _ ?_
       clear hI
       intro b0 b1 b2 b3 b4 b5 b6 b7 b8 b9 Ma Fa Za Xa Wa jb Vb Qb db Sb Yb Ob Ub Tb nb Rb Wb Xb eL eA h0 h1 h2 h3 f0 f1 f2 f3 f4 f5 f6 f7 f8 f9 La Ka Mb Da
       subst eL eA
       have tA:b9=true:=cb 9 (by omega) (by decide)
       have tS:Wa=true:=cb 14 (by omega) (by decide)
       obtain⟨_,_,_,gq,cq,ex,y,Fq,q1,q2,q3,q4,q5⟩:=f9 tA
       have hc:=(Da tS).2
       rw [ex]at hc
       have xf:=zps ks y q3
       have nf:=h1.1.size
       have zf:=Yc.1.size
       have HX:=hide (show BS w0 wst g code l b w4∧Bk w4 bx Ja∧(Frm w5 w4 (bx::g::Xc)∧∀j',j'≠Ja+4->w4.cell? ⟨bx,j',none⟩=w5.cell? ⟨bx,j',none⟩)∧∃ka kc ks Fk,ks.length<=3+(j+1)∧szK (dd+1) ks<=szK (dd+1) tc+101*(j+1)∧w4.cell? ⟨bx,Ja+4,none⟩=some (.slice ka ks.length kc)∧OwKidsM (dd+1) w4 (.slice ka ks.length kc) ks Fk∧Fk.Nodup∧∀q∈Fk,wst.heap.size<q∧q≠bx∧q≠b∧(q∈Xc∨w5.heap.size<=q) from ⟨h0,h2,⟨ziQ Yc.1 h1.1 (fun q hq=>by
         simp only [List.mem_cons]at hq ⊢
         rcases hq with e | e | hq
         ·exact .inl (.inl e)
         ·exact .inl (.inr (.inl e))
         ·exact (Oc q hq).2.2.2.imp (fun e=>.inr (.inr e)) id),fun j' de=>(h1.2 j' de).trans (Yc.2 j' de)⟩,_,cq,ks++[y],Fq,by simp;omega,by omega,by rw [List.length_append];exact hc,by rw [List.length_append];exact q1,q2,fun q hq=>⟨(q4 q hq).1,(q4 q hq).2.1,(q4 q hq).2.2.1,by
          rcases (q4 q hq).2.2.2 with e | e
          ·exact (Oc q e).2.2.2
          ·exact .inr (by omega)⟩⟩)
       clear h0 h1 h2 h3 cb f0 f1 f2 f3 f4 f5 f6 f7 f8 f9 La Ka Mb Da tA tS hc q1 q2 q3 q4 q5 Yc Oc
       go_wp2_with fail
       go_roundw
       case rel=>exact⟨j+1,by omega,by go_num,zaa HX⟩
       case measure=>simp [intOf];omega
     ·have gc:¬ (j:Int)<120:=by omega
      have HE:=hide (And.intro ma ((zaa ab).kids Yc.1 Yc.2 ra Kb ob (by omega) (fun q hq=>⟨(Oc q hq).1,(Oc q hq).2.2.1⟩)))
      clear ma Kb ra ob Oc Yc
      go_wp2_with fail
      go_meet
      exact zaa HE
   case rest=>
   obtain⟨ma,pc⟩:=hcut
   obtain⟨Lc,⟨kd,a1,n1,c1,a2,n2,c2,a3,n3,c3,a4,n4,c4,mb⟩,Od,hC,hG⟩:=ma
   have Cc:=Lc.put5 (.int .i64 kd) (.slice a1 n1 c1) (.slice a2 n2 c2) (.slice a3 n3 c3) (.slice a4 n4 c4)
   have Qc:=zoE wc wst.heap.size (.int .i64 kd) (.slice a1 n1 c1) (.slice a2 n2 c2) (.slice a3 n3 c3) (.slice a4 n4 c4)
   have zb:=hC.set' (Frm.toGrown' Qc) (by omega) Nc
   have fb:=zcM hG (Frm.toGrown' Qc) (fun q hq=>by cases hq;exact Nat.le_refl _)
   obtain⟨_,_,_,_,_,_,_,_,_,_,_,_,_,gb⟩:=id Lc
   obtain⟨y0,y1,y2,y3,y4⟩:=gb.cells
   have g0:=gb.frozen 0
   have g1:=gb.frozen 1
   have g2:=gb.frozen 2
   have g3:=gb.frozen 3
   have g4:=gb.frozen 4
   obtain⟨z0,z1,z2,z3,z4⟩:=mb.cells
   simp only [Nat.zero_add]at y0 y1 y2 y3 y4 z0 z1 z2 z3 z4
   have Jc:=((RX.rd (pc) mb).frm Qc (by simp [zbZ])).less (S':=List.range wst.heap.size) (fun q hq=>by rw [zbZ];have:=List.mem_range.1 hq;omega)
   have HE:=hide (And.intro Cc.cells (And.intro zb (And.intro fb Jc)))
   clear Jc Cc Qc zb fb Lc gb mb hC hG pc
   go_wp2_with fail
   obtain⟨⟨r0,r1,r2,r3,r4⟩,zb,fb,Jc⟩:=zaa HE
   simp only [Nat.zero_add]at r0 r1 r2 r3 r4
   exact bodyPost_ret (v:=.agg #[.int .i64 kd,.slice a1 n1 c1,.slice a2 n2 c2,.slice a3 n3 c3,.slice a4 n4 c4]) (by simp [results,Tryz.results35,go_sem,r0,r1,r2,r3,r4]) rfl ⟨_,_,_,_,_,_,_,_,_,_,_,_,_,rfl,Jc,zb,fb⟩
end Go.Proofs.YtgjolijncmkkhaaGreatDoor
