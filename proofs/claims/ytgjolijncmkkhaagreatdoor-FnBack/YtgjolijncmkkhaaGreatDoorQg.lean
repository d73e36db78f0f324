/- Own texts joined: L2bent. -/
import Derived.Test.YtgjolijncmkkhaaGreatDoorQa
import Derived.Test.YtgjolijncmkkhaaGreatDoorQe
import Derived.Test.YtgjolijncmkkhaaGreatDoorQf
import Derived.Lib.SlBytesConst
import Derived.Deep.AppendLies
import Derived.Deep.RegionLaw
import Derived.Deep.Cut
import Derived.Deep.CutRange
import Derived.Deep.CutBlock
namespace Go.Proofs.YtgjolijncmkkhaaGreatDoor
open Go.RowKit
set_option linter.unusedVariables false
set_option maxRecDepth 100000
theorem zyw {α:Type} (P:Nat->α->Prop):∃f:α->Nat,∀a d,P d a->∃D,D=f a∧P D a∧D<=d:=by
 have Aa:∀(n:Nat) (a:α),P n a->∃d,P d a∧∀e,P e a->d<=e:=by
  intro n
  induction n using Nat.strongRecOn with
  | ind n ih=>
   intro a h
   by_cases hx:∃m,m<n∧P m a
   ·obtain⟨m,hm,hp⟩:=hx
    exact ih m hm a hp
   ·exact⟨n,h,fun e he=>Nat.le_of_not_lt (fun Ba=>hx ⟨e,Ba,he⟩)⟩
 have all:∀a,∃d,∀e,P e a->P d a∧d<=e:=fun a=>by
  by_cases hx:∃n,P n a
  ·obtain⟨n,hn⟩:=hx
   obtain⟨d,h1,h2⟩:=Aa n a hn
   exact⟨d,fun e he=>⟨h1,h2 e he⟩⟩
  ·exact⟨0,fun e he=>absurd ⟨e,he⟩ hx⟩
 exact⟨fun a=>Classical.choose (all a),fun a d h=>⟨_,rfl,Classical.choose_spec (all a) d h⟩⟩
def BS (w0 w:Xk) (g:Nat) (code:Xl) (l:Xg) (b:Nat) (wr:Xk):Prop:=NB wr w.heap.size∧NB wr b∧w.heap.size<b∧Cur w0 wr g code l∧w.grownBy wr (some g)
theorem BS.frm {w0 w wr w':Xk} {g b:Nat} {code:Xl} {l:Xg} {S:Xh} (h:BS w0 w g code l b wr) (f:Frm wr w' S) (hS:∀q∈S,q=g∨w.heap.size<q) (hg:g<w.heap.size) (hb:b∉S) (hC:Cur w0 w' g code l):BS w0 w g code l b w':=by
 obtain⟨h1,h2,h3,h4,h5⟩:=h
 refine⟨h1.frm f (fun e=>by rcases hS _ e with e | e<;>omega),h2.frm f hb,h3,hC,?_⟩
 refine⟨f.os.trans h5.os,f.tape.trans h5.tape,f.output.trans h5.output,Nat.le_trans h5.size f.size,fun k hk hn=> ?_⟩
 rw [f.block k (Nat.lt_of_lt_of_le hk h5.size) (fun e=>by
  rcases hS _ e with rfl | e
  ·exact hn rfl
  ·omega)]
 exact h5.block k hk hn
theorem BS.store {w0 w wr:Xk} {g b bx off:Nat} {code:Xl} {l:Xg} (h:BS w0 w g code l b wr) (hr:(bx=b∧off=0)∨bx≠b) (hbx:w.heap.size<bx) (hg:g<w.heap.size) (hs:w0.heap.size<=w.heap.size) (i:Nat) (v:Xl) (hv:Shp i v):BS w0 w g code l b (wr.setCell ⟨bx,off+i,none⟩ v):=by
 obtain⟨h1,h2,h3,h4,h5⟩:=h
 have f:=zaq wr bx (off+i) v
 refine⟨h1.frm f (by simp;omega),h2.store hr i v hv,h3,h4.set' (Frm.toGrown' f) (by omega) (by omega),?_⟩
 exact zcU h5 (Frm.toGrown' f) (fun q hq=>by cases hq;omega)
def Tg (H b:Nat) (wr:Xk) (bx off:Nat) (u0 u1 u2 u3 u4:Xl):Prop:=N5 wr bx off u0 u1 u2 u3 u4∧Raw wr 5 1 u2∧Raw wr 132 2 u3∧Raw wr 29 5 u4∧(∀q∈FB u2++FB u3++FB u4,H<q∧q≠bx∧q≠b)∧H<bx∧((bx=b∧off=0)∨bx≠b)
theorem Tg.frm {H b:Nat} {wr w':Xk} {bx off:Nat} {u0 u1 u2 u3 u4:Xl} {S:Xh} (h:Tg H b wr bx off u0 u1 u2 u3 u4) (f:Frm wr w' S) (hx:bx∉S) (hS:∀q∈FB u2++FB u3++FB u4,q∉S):Tg H b w' bx off u0 u1 u2 u3 u4:=by
 obtain⟨h1,h2,h3,h4,h5,h6,h7⟩:=h
 exact⟨h1.frm f hx,h2.frm f (fun q hq=>hS q (by simp [hq])),h3.frm f (fun q hq=>hS q (by simp [hq])),h4.frm f (fun q hq=>hS q (by simp [hq])),h5,h6,h7⟩
def Dn (H b g:Nat) (d:Nat) (s:Xl×Xk):Prop:=∃bx off u0 u1 u2 u3 u4,∃(t:Tr (d+1)) (F:Xh),s.1=.pointer (some ⟨bx,off,none⟩)∧N5 s.2 bx off u0 u1 u2 u3 u4∧OwNodeM (d+1) s.2 [u0,u1,u2,u3,u4] t F∧F.Nodup∧(∀q∈F,H<q∧q≠b)∧bx∉F∧H<bx∧((bx=b∧off=0)∨bx≠b)∧SmT (d+1) t∧g<H∧∃K,K+10000*d<=40000∧Cx b (BL H b) s.2 bx off (F++[g,H]) K
theorem Dn.frm {H b g d:Nat} {p:Xl} {wr w':Xk} {S:Xh} (h:Dn H b g d (p,wr)) (f:Frm wr w' S) (hS':∀q∈S,q=g):Dn H b g d (p,w'):=by
 obtain⟨bx,Aa,u0,u1,u2,u3,u4,t,F,h1,h2,h3,h4,h5,h6,h7,h8,h9,hg,K,hK,hC⟩:=h
 have hS:∀q∈S,q<=H:=fun q hq=>by rw [hS' q hq];omega
 exact⟨bx,Aa,u0,u1,u2,u3,u4,t,F,h1,h2.frm f (fun e=>by have:=hS _ e;omega),OwNodeM.frm h3 f (fun q hq e=>by have:=hS _ e;have:=(h5 q hq).1;omega),h4,h5,h6,h7,h8,h9,hg,K,hK,hC.step f (fun q hq=>by simp [hS' q hq]) (fun e=>by have:=hS _ e;omega) h2.lt⟩
def capS:Nat->Nat
 | 0=>0
 | n+1=>80+3*capS n
theorem zwd:∀(l:List (Xg×Xg)),SmA l->szA l<=17*l.length
 | [],_=>by simp [szA]
 | x::l,h=>by
  have h1:=zwd l fun y hy=>h y (List.mem_cons_of_mem _ hy)
  obtain⟨h2,h3⟩:=h x (List.mem_cons_self ..)
  unfold szA at h1 ⊢
  simp only [List.map_cons,List.sum_cons,List.length_cons]
  omega
theorem zoT:∀(n:Nat) (t:Tr n),SmT n t->szT n t<=capS n
 | 0,t,_=>Nat.le_refl _
 | n+1,t,⟨h1,h2,h3,h4,h5,h6⟩=>by
  have h7:=zwd _ h4
  have h8:∀(l:List (Tr n)),(∀k∈l,SmT n k)->(l.map (szT n)).sum<=capS n*l.length:=by
   intro l
   induction l with
   | nil=>simp
   | cons x l ih=>
    intro hl
    have:=ih fun k hk=>hl k (List.mem_cons_of_mem _ hk)
    have:=zoT n x (hl x (List.mem_cons_self ..))
    simp only [List.map_cons,List.sum_cons,List.length_cons,Nat.mul_succ]
    omega
  have h9:=h8 _ h6
  have Aa:capS n*t.kids.length<=capS n*3:=Nat.mul_le_mul_left _ h5
  show t.name.length+t.text.length+szA t.attrs+(t.kids.length+(t.kids.map (szT n)).sum)<=80+3*capS n
  omega
theorem zpJ:∀d,d<=4->capS (d+1)<=10000
 | 0,_ | 1,_ | 2,_ | 3,_ | 4,_=>by decide
theorem Dn.rx {H b g d:Nat} {p:Xl} {w:Xk} (h:Dn H b g d (p,w)) (hb:b<w.heap.size):RXn H b 0 w:=by
 obtain⟨bx,Aa,u0,u1,u2,u3,u4,t,F,h1,h2,h3,h4,h5,h6,h7,h8,h9,hg,K,hK,hC⟩:=h
 exact TX.rx (g:=g) ⟨d,_,F,K,zls h3,h4,h5,h6,h7,hg,hb,h2,hC,by rw [zoQ];exact Nat.le_trans (zoT _ _ h9) (Nat.le_trans (zpJ d (by omega)) (by decide)),by omega⟩
theorem NB.lt {w:Xk} {b:Nat} (h:NB w b):b<w.heap.size:=by
 obtain⟨_,_,_,_,_,_,_,_,_,_,_,_,_,h⟩:=h
 exact h.lt
theorem NB.put5 {w:Xk} {rb:Nat} (h:NB w rb) (u0 u1 u2 u3 u4:Xl):N5 (((((w.setCell ⟨rb,0,none⟩ u0).setCell ⟨rb,1,none⟩ u1).setCell ⟨rb,2,none⟩ u2).setCell ⟨rb,3,none⟩ u3).setCell ⟨rb,4,none⟩ u4) rb 0 u0 u1 u2 u3 u4:=by
 obtain⟨kd,a1,n1,c1,a2,n2,c2,a3,n3,c3,a4,n4,c4,h⟩:=h
 have:=((((h.put (i:=0) (v:=u0)).put (i:=1) (v:=u1)).put (i:=2) (v:=u2)).put (i:=3) (v:=u3)).put (i:=4) (v:=u4)
 simpa using this
theorem zpF (w:Xk) (rb:Nat) (u0 u1 u2 u3 u4:Xl):Frm w (((((w.setCell ⟨rb,0,none⟩ u0).setCell ⟨rb,1,none⟩ u1).setCell ⟨rb,2,none⟩ u2).setCell ⟨rb,3,none⟩ u3).setCell ⟨rb,4,none⟩ u4) [rb]:=
 ((((zaq _ _ _ _).trans (zaq _ _ _ _)).trans (zaq _ _ _ _)).trans (zaq _ _ _ _)).trans (zaq _ _ _ _)
theorem Frm.cell4 {w w':Xk} {S:Xh} {bx off:Nat} (hf:Frm w w' S) (h:Bk w bx off) (hn:bx∉S):w'.cell? ⟨bx,off+4,none⟩=w.cell? ⟨bx,off+4,none⟩:=by
 unfold World.cell?
 rw [hf.block bx h.lt hn]
def Lb21 (w0 wst w3:Xk) (g b bx off:Nat) (code:Xl) (l:Xg) (ka:Xi) (kc dd:Nat) (ks:List (Tr (dd+1))) (Fk:Xh) (s1 s2 s3 s5 s6 s7 s8 s9 s10 s11 s12 s13 s14 s15 s16 s17 s18 s19 s20 s21 s22 s23 s24 s25 s26 s27 s28 s29 s30 s31 s32 s33 s34 s35 s36 s37 s38 s39 s40 s41 s42 s43 s44 s45 s46 s47 s48 s49 s50 s51 s52 s53 s54 s55 s56 s57 s58 s59 s60 s61 s62 s63 s64 s65 s66 s67 s68 s69 s70 s71 s72 s73 s74 s75 s76 s77 s78 s79 s80 s81 s82 s83 s84 s85 s86 s87 s88 s89 s90 s91 s92 s93 s94 s95 s96 s97 s98 s99 s100 s101 s102 s118 s119 s120 s121 s122 s123 s124 s125 s126 s127 s128 s129:Xl) (L:Array Bool) (a:Act) (w:Xk):Prop:=
 ∀C:Prop,(∀(b0 b1 b2 b3 b4 b5 b6 b7 b8 b9 b10 b11 b12 b13 b14 b15 b16:Bool) (x103 x104 x105 x106 x107 x108 x109 x110 x111 x112 x113 x114 x115 x116 x117:Xl),L = #[b0,b1,b2,b3,b4,b5,b6,b7,b8,b9,b10,b11,b12,b13,b14,b15,b16]->a={ tmps:= #[.pointer (some ⟨g,0,none⟩),s1,s2,s3,.pointer (some ⟨bx,off,none⟩),s5,s6,s7,s8,s9,s10,s11,s12,s13,s14,s15,s16,s17,s18,s19,s20,s21,s22,s23,s24,s25,s26,s27,s28,s29,s30,s31,s32,s33,s34,s35,s36,s37,s38,s39,s40,s41,s42,s43,s44,s45,s46,s47,s48,s49,s50,s51,s52,s53,s54,s55,s56,s57,s58,s59,s60,s61,s62,s63,s64,s65,s66,s67,s68,s69,s70,s71,s72,s73,s74,s75,s76,s77,s78,s79,s80,s81,s82,s83,s84,s85,s86,s87,s88,s89,s90,s91,s92,s93,s94,s95,s96,s97,s98,s99,s100,s101,s102,x103,x104,x105,x106,x107,x108,x109,x110,x111,x112,x113,x114,x115,x116,x117,s118,s119,s120,s121,s122,s123,s124,s125,s126,s127,s128,s129],defers:=[] }->BS w0 wst g code l b w->(Frm w3 w (bx::g::Fk)∧∀j,j≠off+4->w.cell? ⟨bx,j,none⟩=w3.cell? ⟨bx,j,none⟩)->Bk w bx off->(b11=false->w.cell? ⟨bx,off+4,none⟩=some (.slice ka ks.length kc)∧OwKidsM (dd+1) w (.slice ka ks.length kc) ks Fk)->(b0=true->x103=.pointer (some ⟨bx,off,none⟩))->(b1=true->x104=.pointer (some ⟨bx,off,none⟩))->(b2=true->x105=.pointer (some ⟨bx,off+4,none⟩))->(b3=true->x106=.slice ka ks.length kc)->(b4=true->x107=.pointer (some ⟨g,0,none⟩))->(b5=true->∃y:Int,0<=y∧y<2∧x108=.int .i64 y)->(b6=true->∃y:Int,0<=y∧y<2∧x109=.int .i64 (30+y))->(b7=true->∃p m,x110=.slice (some ⟨p,0,none⟩) m m∧m<=31∧w3.heap.size<=p∧(b8=false->RowM w 0 (.slice (some ⟨p,0,none⟩) m m) (List.replicate m 0)))->(b8=true->True∧∃kd' a1' n1' c1' a2' n2' c2',x111=.agg #[.int .i64 kd',.slice a1' n1' c1',.slice a2' n2' c2',.slice none 0 0,.slice none 0 0]∧(b13=false->LfK w3.heap.size w kd' (.slice a1' n1' c1') (.slice a2' n2' c2')))->(b9=true->x112=.int .i64 (ks.length:Int))->(b10=true->∃z,x113=.slice (some ⟨z,0,none⟩) 1 1∧w3.heap.size<=z∧(b11=false->Loc w z #[.int .i64 0,.slice none 0 0,.slice none 0 0,.slice none 0 0,.slice none 0 0] 29))->(b11=true->b3=true∧b10=true∧True∧∃gq cq,x114=.slice (some ⟨gq,0,none⟩) (ks.length+1) cq∧AppF wst.heap.size b bx w3.heap.size Fk dd ks b13 w gq cq)->(b12=true->b11=true∧∃gq cq,x114=.slice (some ⟨gq,0,none⟩) (ks.length+1) cq∧x115=.pointer (some ⟨gq,ks.length*5,none⟩))->(b14=true->x116=.pointer (some ⟨bx,off,none⟩))->(b15=true->x117=.pointer (some ⟨bx,off+4,none⟩))->(b16=true->b11=true∧w.cell? ⟨bx,off+4,none⟩=some x114)->C)->C
theorem zue {i:Nat} (h:i<17):i=0∨i=1∨i=2∨i=3∨i=4∨i=5∨i=6∨i=7∨i=8∨i=9∨i=10∨i=11∨i=12∨i=13∨i=14∨i=15∨i=16:=by omega
def Lb11 (w0 wst w3:Xk) (g b bx off:Nat) (code:Xl) (l:Xg) (ka:Xi) (kc dd:Nat) (ks:List (Tr (dd+1))) (Fk:Xh) (s1 s2 s3 s5 s6 s7 s8 s9 s10 s11 s12 s13 s14 s15 s16 s17 s18 s19 s20 s21 s22 s23 s24 s25 s26 s27 s28 s29 s30 s31 s32 s33 s34 s35 s36 s37 s38 s39 s40 s54 s55 s56 s57 s58 s59 s60 s61 s62 s63 s64 s65 s66 s67 s68 s69 s70 s71 s72 s73 s74 s75 s76 s77 s78 s79 s80 s81 s82 s83 s84 s85 s86 s87 s88 s89 s90 s91 s92 s93 s94 s95 s96 s97 s98 s99 s100 s101 s102 s103 s104 s105 s106 s107 s108 s109 s110 s111 s112 s113 s114 s115 s116 s117 s118 s119 s120 s121 s122 s123 s124 s125 s126 s127 s128 s129:Xl) (L:Array Bool) (a:Act) (w:Xk):Prop:=
 ∀C:Prop,(∀(b0 b1 b2 b3 b4 b5 b6 b7 b8 b9 b10 b11 b12 b13 b14:Bool) (x41 x42 x43 x44 x45 x46 x47 x48 x49 x50 x51 x52 x53:Xl),L = #[b0,b1,b2,b3,b4,b5,b6,b7,b8,b9,b10,b11,b12,b13,b14]->a={ tmps:= #[.pointer (some ⟨g,0,none⟩),s1,s2,s3,.pointer (some ⟨bx,off,none⟩),s5,s6,s7,s8,s9,s10,s11,s12,s13,s14,s15,s16,s17,s18,s19,s20,s21,s22,s23,s24,s25,s26,s27,s28,s29,s30,s31,s32,s33,s34,s35,s36,s37,s38,s39,s40,x41,x42,x43,x44,x45,x46,x47,x48,x49,x50,x51,x52,x53,s54,s55,s56,s57,s58,s59,s60,s61,s62,s63,s64,s65,s66,s67,s68,s69,s70,s71,s72,s73,s74,s75,s76,s77,s78,s79,s80,s81,s82,s83,s84,s85,s86,s87,s88,s89,s90,s91,s92,s93,s94,s95,s96,s97,s98,s99,s100,s101,s102,s103,s104,s105,s106,s107,s108,s109,s110,s111,s112,s113,s114,s115,s116,s117,s118,s119,s120,s121,s122,s123,s124,s125,s126,s127,s128,s129],defers:=[] }->BS w0 wst g code l b w->(Frm w3 w (bx::g::Fk)∧∀j,j≠off+4->w.cell? ⟨bx,j,none⟩=w3.cell? ⟨bx,j,none⟩)->Bk w bx off->(b9=false->w.cell? ⟨bx,off+4,none⟩=some (.slice ka ks.length kc)∧OwKidsM (dd+1) w (.slice ka ks.length kc) ks Fk)->(b0=true->x41=.pointer (some ⟨bx,off,none⟩))->(b1=true->x42=.pointer (some ⟨bx,off,none⟩))->(b2=true->x43=.pointer (some ⟨bx,off+4,none⟩))->(b3=true->x44=.slice ka ks.length kc)->(b4=true->∃p,x45=.slice (some ⟨p,0,none⟩) 1 1∧w3.heap.size<=p∧(b5=false->Loc w p #[.int .u8 98] 5))->(b5=true->b4=true∧∃p,x46=.slice (some ⟨p,0,none⟩) 1 1∧w3.heap.size<=p∧(b6=false->RowM w 0 (.slice (some ⟨p,0,none⟩) 1 1) [98]))->(b6=true->b5=true∧∃kd' a1' n1' c1' a2' n2' c2',x47=.agg #[.int .i64 kd',.slice a1' n1' c1',.slice a2' n2' c2',.slice none 0 0,.slice none 0 0]∧(b11=false->LfK w3.heap.size w kd' (.slice a1' n1' c1') (.slice a2' n2' c2')))->(b7=true->x48=.int .i64 (ks.length:Int))->(b8=true->∃z,x49=.slice (some ⟨z,0,none⟩) 1 1∧w3.heap.size<=z∧(b9=false->Loc w z #[.int .i64 0,.slice none 0 0,.slice none 0 0,.slice none 0 0,.slice none 0 0] 29))->(b9=true->b3=true∧b8=true∧b5=true∧∃gq cq,x50=.slice (some ⟨gq,0,none⟩) (ks.length+1) cq∧AppF wst.heap.size b bx w3.heap.size Fk dd ks b11 w gq cq)->(b10=true->b9=true∧∃gq cq,x50=.slice (some ⟨gq,0,none⟩) (ks.length+1) cq∧x51=.pointer (some ⟨gq,ks.length*5,none⟩))->(b12=true->x52=.pointer (some ⟨bx,off,none⟩))->(b13=true->x53=.pointer (some ⟨bx,off+4,none⟩))->(b14=true->b9=true∧w.cell? ⟨bx,off+4,none⟩=some x50)->C)->C
theorem ztP {i:Nat} (h:i<15):i=0∨i=1∨i=2∨i=3∨i=4∨i=5∨i=6∨i=7∨i=8∨i=9∨i=10∨i=11∨i=12∨i=13∨i=14:=by omega
theorem BS.put5 {w0 w wr:Xk} {g b:Nat} {code:Xl} {l:Xg} (h:BS w0 w g code l b wr) (hg:g<w.heap.size) (hs:w0.heap.size<=w.heap.size) (u1 u4:Xl) (h1:∃a n c,u1=.slice a n c) (h4:∃a n c,u4=.slice a n c) :
  BS w0 w g code l b (((((wr.setCell ⟨b,0,none⟩ (.int .i64 0)).setCell ⟨b,1,none⟩ u1).setCell ⟨b,2,none⟩ (.slice none 0 0)).setCell ⟨b,3,none⟩ (.slice none 0 0)).setCell ⟨b,4,none⟩ u4):=by
 obtain⟨a1,n1,c1,rfl⟩:=h1
 obtain⟨a4,n4,c4,rfl⟩:=h4
 have hb:=h.2.2.1
 have s0:=h.store (bx:=b) (off:=0) (.inl ⟨rfl,rfl⟩) hb hg hs 0 (.int .i64 0) ⟨_,rfl⟩
 have s1:=s0.store (bx:=b) (off:=0) (.inl ⟨rfl,rfl⟩) hb hg hs 1 (.slice a1 n1 c1) ⟨_,_,_,rfl⟩
 have s2:=s1.store (bx:=b) (off:=0) (.inl ⟨rfl,rfl⟩) hb hg hs 2 (.slice none 0 0) ⟨_,_,_,rfl⟩
 have s3:=s2.store (bx:=b) (off:=0) (.inl ⟨rfl,rfl⟩) hb hg hs 3 (.slice none 0 0) ⟨_,_,_,rfl⟩
 have s4:=s3.store (bx:=b) (off:=0) (.inl ⟨rfl,rfl⟩) hb hg hs 4 (.slice a4 n4 c4) ⟨_,_,_,rfl⟩
 simpa using s4
set_option maxHeartbeats 25600000 in
theorem ztH (w0 wst:Xk) (g:Nat) (code:Xl) (l:Xg) (h:Cur w0 wst g code l) :
  Calls Tryz.prog 35 #[.pointer (some ⟨g,0,none⟩)] wst fun e w'=>∃kd a1 n1 c1 a2 n2 c2 a3 n3 c3 a4 n4 c4,e=.returned (.agg #[.int .i64 kd,.slice a1 n1 c1,.slice a2 n2 c2,.slice a3 n3 c3,.slice a4 n4 c4])∧RdX w' (List.range wst.heap.size) [.int .i64 kd,.slice a1 n1 c1,.slice a2 n2 c2,.slice a3 n3 c3,.slice a4 n4 c4] 1000000∧Cur w0 w' g code l∧wst.grownBy w' (some g):=by
 have ga:=h.lt
 have Qc:=h.below.size
 have hA:=(Below.refl wst.heap.size wst).alloc (Nat.le_refl _) (.cells #[.int .i64 0,.slice none 0 0,.slice none 0 0,.slice none 0 0,.slice none 0 0] 29)
 have lr:=Loc.made wst #[.int .i64 0,.slice none 0 0,.slice none 0 0,.slice none 0 0,.slice none 0 0] 29
 have HD:=hide (zlV 4 (by decide) w0 _ g code l (h.keepAll hA))
 have LL:=hide (And.intro hA lr)
 clear hA lr h
 go_enter Tryz.func35,Tryz.ntmps35
 go_wp2_with fail
 refine (zaa HD).mono ?_
 rintro e w1 ⟨k,p1,n1,c1,p2,n2,c2,p3,n3,c3,p4,n4,c4,rfl,⟨t,F,hN,tb,Yd,Qb⟩,xe,Me⟩
 obtain⟨hA,lr⟩:=zaa LL
 clear LL HD
 simp only [World.size_alloc]at Yd
 have ed:=lr.frm (Frm.ofGrown Me) (by simp;omega)
 have ge:=zcW hA Me
 have Jd:=(Below.refl w1.heap.size w1).alloc (Nat.le_refl _) (.cells #[.int .i64 k,.slice p1 n1 c1,.slice p2 n2 c2,.slice p3 n3 c3,.slice p4 n4 c4] 29)
 have lb:=Loc.made w1 #[.int .i64 k,.slice p1 n1 c1,.slice p2 n2 c2,.slice p3 n3 c3,.slice p4 n4 c4] 29
 have hb:wst.heap.size<w1.heap.size:=ed.lt
 have ma:BS w0 wst g code l w1.heap.size _:=⟨⟨_,_,_,_,_,_,_,_,_,_,_,_,_,N5.loc (ed.all Jd)⟩,⟨_,_,_,_,_,_,_,_,_,_,_,_,_,N5.loc lb⟩,hb,xe.keepAll Jd,zcG ge Jd⟩
 have Vc:Dn wst.heap.size w1.heap.size g 4 (.pointer (some ⟨w1.heap.size,0,none⟩),w1.alloc (.cells #[.int .i64 k,.slice p1 n1 c1,.slice p2 n2 c2,.slice p3 n3 c3,.slice p4 n4 c4] 29)):=
  ⟨w1.heap.size,0,_,_,_,_,_,t,F,rfl,N5.loc lb,hN.keep Jd,tb,fun q hq=>by have:=Yd q hq;omega,fun e=>by have:=Yd _ e;omega,hb,.inl ⟨rfl,rfl⟩,Qb,ga,0,by decide,Cx.root _ _ _ _⟩
 have LL:=hide (And.intro ma Vc)
 have HO:=hide (zfg w0 _ g code l 5 ma.2.2.2.1 (by decide) (by decide))
 clear hA lr ed ge Jd lb ma Vc hN tb Yd Qb xe Me
 go_upto_region 2 with fail
 generalize (w1.alloc (.cells #[.int .i64 k,.slice p1 n1 c1,.slice p2 n2 c2,.slice p3 n3 c3,.slice p4 n4 c4] 29))=w2 at *
 generalize w1.heap.size=b at *
 go_wp2_with fail
 refine (zaa HO).mono ?_
 rintro e w3 ⟨b5,rfl,he,gd⟩
 obtain⟨ma,Vc⟩:=zaa LL
 clear LL HO
 have nc:=ma.frm (Frm.ofGrown gd) (fun q hq=>by simp at hq;exact .inl hq) ga (by simp;omega) he
 have Kc:=Vc.frm (Frm.ofGrown gd) (fun q hq=>by simpa using hq)
 clear ma Vc he gd
 cases b5 with
 | false=>
  obtain⟨Nc,⟨kd,a1,n1,c1,a2,n2,c2,a3,n3,c3,a4,n4,c4,ob⟩,Ud,hC,hG⟩:=nc
  have Ec:=Nc.put5 (.int .i64 kd) (.slice a1 n1 c1) (.slice a2 n2 c2) (.slice a3 n3 c3) (.slice a4 n4 c4)
  have Tc:=zpF w3 wst.heap.size (.int .i64 kd) (.slice a1 n1 c1) (.slice a2 n2 c2) (.slice a3 n3 c3) (.slice a4 n4 c4)
  have Cc:=hC.set' (Frm.toGrown' Tc) (by omega) Qc
  have gb:=zcU hG (Frm.toGrown' Tc) (fun q hq=>by cases hq;exact Nat.le_refl _)
  obtain⟨_,_,_,_,_,_,_,_,_,_,_,_,_,ib⟩:=id Nc
  obtain⟨y0,y1,y2,y3,y4⟩:=ib.cells
  have g0:=ib.frozen 0
  have g1:=ib.frozen 1
  have g2:=ib.frozen 2
  have g3:=ib.frozen 3
  have g4:=ib.frozen 4
  obtain⟨z0,z1,z2,z3,z4⟩:=ob.cells
  simp only [Nat.zero_add]at y0 y1 y2 y3 y4 z0 z1 z2 z3 z4
  have Lc:=((RX.rd (⟨0,by decide,Kc.rx ob.lt⟩) ob).frm Tc (by simp [zci])).less (S':=List.range wst.heap.size) (fun q hq=>by rw [zci];have:=List.mem_range.1 hq;omega)
  have HE:=hide (And.intro Ec.cells (And.intro Cc (And.intro gb Lc)))
  clear Lc Ec Tc Cc gb Nc ib ob hC hG Kc
  go_wp2_with fail
  obtain⟨⟨r0,r1,r2,r3,r4⟩,Cc,gb,Lc⟩:=zaa HE
  simp only [Nat.zero_add]at r0 r1 r2 r3 r4
  exact bodyPost_ret (v:=.agg #[.int .i64 kd,.slice a1 n1 c1,.slice a2 n2 c2,.slice a3 n3 c3,.slice a4 n4 c4]) (by simp [results,Tryz.results35,go_sem,r0,r1,r2,r3,r4]) rfl ⟨_,_,_,_,_,_,_,_,_,_,_,_,_,rfl,Lc,Cc,gb⟩
 | true=>
 obtain⟨f,hf⟩:=zyw (Dn wst.heap.size b g)
 have nb:=hide nc
 have pe:=hide Kc
 clear nc Kc
 go_wp2_with fail
 go_loopw [4] (fun p wr=>BS w0 wst g code l b wr∧∃d,Dn wst.heap.size b g d (p,wr)) (fun p wr=>f (p,wr))
 case atStart=>exact⟨zaa nb,4,zaa pe⟩
 case round=>
  clear nb pe
  obtain⟨ma,d,hd⟩:=hrel
  obtain⟨D,If,We,-⟩:=hf _ _ hd
  clear hd d
  obtain⟨bx,Ja,u0,u1,u2,u3,u4,t,F,rfl,ub,Gc,tb,hF,Ic,Hc,fa,Qb,-,Kx,dc,Sc⟩:=id We
  obtain⟨va,vb,vc,vd,Fc,Fd,e0,k1,k2,Ue,Be,Td,Wd,Te⟩:=id Gc
  simp only [List.cons.injEq,and_true]at e0
  obtain⟨rfl,rfl,rfl,rfl,rfl⟩:=e0
  obtain⟨x1,y1,rfl⟩:=Ue.shape
  obtain⟨x2,y2,rfl⟩:=Be.shape
  obtain⟨x3,y3,rfl,_,_⟩:=Elems.shape (OwAttrsM.rd Td)
  obtain⟨x4,y4,rfl,_,_⟩:=Elems.shape (OwKidsM.rd Wd)
  obtain⟨z0,z1,z2,z3,z4⟩:=ub.cells
  have td:t.kids.length<=3:=Qb.2.2.2.2.1
  have nb:=hide ma
  have Ld:=hide (show TX wst.heap.size b g wr bx Ja _ _ _ _ _ from ⟨D,_,F,Kx,zls Gc,tb,hF,Ic,Hc,ga,ma.2.1.lt,ub,Sc,by rw [zoQ];exact Nat.le_trans (zoT _ _ Qb) (Nat.le_trans (zpJ D (by omega)) (by decide)),by omega⟩)
  have xc:=hide (show Tg wst.heap.size b wr bx Ja _ _ _ _ _ from ⟨ub,Be.raw,(by obtain⟨_,_,_,_,_,q,_⟩:=Td;exact zsR q),(by obtain⟨_,_,_,_,_,q,_⟩:=Wd;exact zsR q),fun q hq=>by
   have qd:q∈F:=by
    obtain⟨_,_,_,_,_,_,q3⟩:=Td
    obtain⟨_,_,_,_,_,_,q4⟩:=Wd
    rw [Te,q3,q4]
    simp only [List.mem_append]at hq ⊢
    rcases hq with (hq | hq) | hq
    ·exact .inl (.inl (.inr hq))
    ·exact .inl (.inr (.inl hq))
    ·exact .inr (.inl hq)
   exact⟨(hF q qd).1,fun e=>Ic (e ▸ qd),(hF q qd).2⟩,Hc,fa⟩)
  have Qf:t.text.length<=8∧t.attrs.length<=3:=⟨Qb.2.1,Qb.2.2.1⟩
  have yc:=hide (And.intro ub (And.intro Gc (And.intro tb (And.intro hF (And.intro Ic (And.intro Qb (And.intro dc Sc)))))))
  clear We ma ub Gc Ue Be Td Wd Qb dc Sc
  go_upto_region 5 with fail
  go_cut [22] from 13 to 22 (fun tv wx=>∃bb:Bool,tv=.bool bb∧(bb=true->0<t.kids.length)∧Cur w0 wx g code l∧wr.grownBy wx (some g))
  case first=>
   have jd:=(zaa nb).2.2.2.1
   by_cases Md:0<t.kids.length
   ·have fd:(0:Int)<(t.kids.length:Int):=by omega
    have HO:=hide (zfg w0 wr g code l 2 jd (by decide) (by decide))
    clear jd
    go_wp2_with fail
    refine (zaa HO).mono ?_
    rintro e w4 ⟨b6,rfl,Ad,Od⟩
    go_wp2_with fail
    go_meet
    exact⟨_,rfl,(fun _=>Md),Ad,Od⟩
   ·have fd:¬ (0:Int)<(t.kids.length:Int):=by omega
    go_wp2_with fail
    go_meet
    exact⟨false,rfl,(fun h=>by cases h),jd,World.grownBy.refl _ _⟩
  case rest=>
  obtain⟨bb,rfl,Ee,Ad,Od⟩:=hcut
  have Ga:=Frm.ofGrown Od
  have Jc:=(zaa nb).frm Ga (fun q hq=>by simp at hq;exact .inl hq) ga (by have:=(zaa nb).2.2.1;simp;omega) Ad
  have qc:=(zaa Ld).frm Ga
  have Zc:=(zaa xc).frm Ga (by simp;omega) (fun q hq e=>by have:=((zaa xc).2.2.2.2.1 q hq).1;simp at e;omega)
  clear nb xc Ld hF Ic Te z0 z1 z2 z3 z4 tb
  cases bb with
  | true=>
   have Md:=Ee rfl
   obtain⟨ub,Gc,tb,hF,Ic,Qb,dc,Sc⟩:=zaa yc
   have oc:=ub.frm Ga (by simp;omega)
   have jc:=Gc.frm Ga (fun q hq e=>by have:=(hF q hq).1;simp at e;omega)
   have bf:t.kids.length=t.kids.length:=rfl
   obtain⟨gk,cp,_,_,_,_,_,_,e4,_⟩:=jc.kid tb 0 Md
   injection e4 with e41 _ e43
   subst e41 e43
   have yc:=hide (And.intro oc (And.intro jc (And.intro tb (And.intro hF (And.intro Ic (And.intro Qb (And.intro dc (Sc.step Ga (fun q hq=>by simp at hq;simp [hq]) (by simp;omega) ub.lt))))))))
   have wd:Below wc.heap.size wc wc.drew:=(Below.refl _ _).drew
   have HB:=hide (zbv w0 wc.drew g code l (t.kids.length:Int) (Ad.keepAll wd) (by omega) (by omega))
   have nb:=hide Jc
   have ye:wc.drew.cell? ⟨bx,Ja+4,none⟩=some (.slice (some ⟨gk,0,none⟩) t.kids.length y4):=oc.cells.2.2.2.2
   have Qe:∀args wst,(callFunc 52 args).run Tryz.prog wst=.ok (.enter 52 args) wst:=enters_of Tryz.func52 (by kernel_rfl) rfl
   clear Ee ub Gc oc jc tb hF Ic Qb Zc qc Jc Ga Od dc Sc
   go_wp2_with fail
   go_region_law (refine zbW (by rfl) 52 [.tmp 27,.tmp 32] #[63,3] (by rfl) Qe [.pointer (some ⟨g,0,none⟩),.int .i64 (t.kids.length:Int)] (by rfl) (zaa HB) ?_;clear HB;rintro e w6 ⟨kk,Pe,ze,rfl,xb,Hb⟩;obtain⟨kk,rfl⟩:=Int.eq_ofNat_of_zero_le Pe;have Of:w6.cell? ⟨bx,Ja+4,none⟩=some (.slice (some ⟨gk,0,none⟩) t.kids.length y4):=(Hb.cell_far ⟨bx,Ja+4,none⟩ (by have:=(zaa yc).1.lt;exact this) (by simp;omega)).trans ye;refine⟨_,rfl,?_⟩)
   all_goals
    have td:kk<t.kids.length:=by omega
    have ab:wc.grownBy w6 (some g):=⟨Hb.os,Hb.tape,Hb.output,Hb.size,Hb.block⟩
    have Ga:=Frm.ofGrown ab
    obtain⟨ub,Gc,tb,hF,Ic,Qb,dc,Sc⟩:=zaa yc
    have Jb:=(zaa nb).frm Ga (fun q hq=>by simp at hq;exact .inl hq) ga (by have:=(zaa nb).2.2.1;simp;omega) xb
    obtain⟨Cg,uf,v0,v1,v2,v3,v4,F',e4,pd,Ae,ud,Ye,Xd,je,Xe⟩:=Cx.kid Sc ub Gc tb Ic (by simp;omega) (fun q hq=>by have:=(hF q hq).1;simp;omega) (fun q hq=>by have:=hF q hq;rw [zci];omega) kk td
    injection e4 with e41 _ _
    injection e41 with e41
    injection e41 with e41 _ _
    subst e41
    have ke:=Qb.2.2.2.2.2 _ (List.getElem_mem td)
    have Vc:∃d,d<D∧Dn wst.heap.size b g d (.pointer (some ⟨gk,kk*5,none⟩),w6):=by
     cases D with
     | zero=>exact Ae.elim
     | succ d=>exact⟨d,Nat.lt_succ_self _,gk,kk*5,v0,v1,v2,v3,v4,t.kids[kk],F',rfl,pd.frm Ga (by have:=(hF _ Xd).1;simp;omega),OwNodeM.frm Ae Ga (fun q hq e=>by have:=(hF q (Ye q hq)).1;simp at e;omega),ud,fun q hq=>hF q (Ye q hq),je,(hF _ Xd).1,.inr (hF _ Xd).2,ke,ga,_,by have:=Nat.le_trans (zoT _ _ Qb) (zpJ (d+1) (by omega));omega,Xe.step Ga (fun q hq=>by simp at hq;simp [hq]) (by have:=(hF _ Xd).1;simp;omega) pd.lt⟩
    have HE:=hide (And.intro Jb Vc)
    clear ub Gc tb hF Ic Qb pd Ae Xe ke Jb Vc Ga ye Of Hb ab yc nb dc Sc
    go_wp2_with fail
    go_roundw
    case rel=>exact⟨(zaa HE).1,by obtain⟨d,_,h⟩:=(zaa HE).2;exact⟨d,h⟩⟩
    case measure=>
     obtain⟨d,Ig,Mf⟩:=(zaa HE).2
     obtain⟨D2,af,_,Hg⟩:=hf _ _ Mf
     rw [<-If,<-af]
     omega
  | false=>
   have nb:=hide Jc
   have xc:=hide Zc
   have Ld:=hide qc
   have HO:=hide (zbv w0 wc g code l 7 Ad (by decide) (by decide))
   clear Ee yc Jc Zc qc Ad Od Ga
   go_wp2_with fail
   refine (zaa HO).mono ?_
   rintro e w5 ⟨ks,kf,Zf,rfl,ue,Se⟩
   have Ga:=Frm.ofGrown Se
   have Cd:=(zaa nb).frm Ga (fun q hq=>by simp at hq;exact .inl hq) ga (by have:=(zaa nb).2.2.1;simp;omega) ue
   have Ed:=(zaa xc).frm Ga (by simp;omega) (fun q hq e=>by have:=((zaa xc).2.2.2.2.1 q hq).1;simp at e;omega)
   have Ia:=hide Cd
   have Ba:=hide Ed
   have oa:=hide ((zaa Ld).frm Ga)
   clear HO nb xc Ld Ga Se Cd Ed ue
   go_upto_block 2 with fail
   go_cut [] from 5 to 128 (fun wx=>BS w0 wst g code l b wx∧RX wst.heap.size b wx)
   case first=>
    by_cases k0:ks=0
    ·subst k0
     have HO:=hide (zbv w0 w5 g code l 4 (zaa Ia).2.2.2.1 (by decide) (by decide))
     go_wp2_with fail
     refine (zaa HO).mono ?_
     rintro e w6 ⟨y,Bc,zb,rfl,xb,Hb⟩
     have Ga:=Frm.ofGrown Hb
     have Jb:=(zaa Ia).frm Ga (fun q hq=>by simp at hq;exact .inl hq) ga (by have:=(zaa Ia).2.2.1;simp;omega) xb
     have Lb:=(zaa Ba).frm Ga (by have:=(zaa Ba).2.2.2.2.2.1;simp;omega) (fun q hq e=>by have:=((zaa Ba).2.2.2.2.1 q hq).1;simp at e;omega)
     obtain⟨od,_,_,_,_,Hc,fa⟩:=Lb
     obtain⟨z0,_,_,_,_⟩:=od.cells
     have g0:=od.frozen Ja
     have HE:=hide (fun v hv=>Jb.store fa Hc ga Qc 0 v hv)
     obtain⟨_,_,_,_,_,_,_,_,-,la⟩:=((zaa oa).frm Ga).parts
     have HX:=hide (fun x k1 k2=>la.kind x k1 k2)
     clear la oa Jb od Hb xb Ga HO Ia Ba fa
     go_wp2_with fail
     go_meet
     exact⟨zaa HE _ ⟨_,rfl⟩,zaa HX _ (by omega) (by omega)⟩
    by_cases k1:ks=1
    ·subst k1
     have hA:=(Below.refl w5.heap.size w5).alloc (Nat.le_refl _) (.cells #[.string ⟨#[]⟩,.string ⟨#[80]⟩,.string ⟨#[49,97]⟩,.string ⟨#[116,111,111,108,111,110,103,120,120]⟩,.string ⟨#[98,114]⟩] 9)
     have lt:=Loc.made w5 #[.string ⟨#[]⟩,.string ⟨#[80]⟩,.string ⟨#[49,97]⟩,.string ⟨#[116,111,111,108,111,110,103,120,120]⟩,.string ⟨#[98,114]⟩] 9
     have Lg:=(zaa Ia).2.2.2.1.lt
     have HO:=hide (zbv w0 _ g code l 5 ((zaa Ia).2.2.2.1.keepAll hA) (by decide) (by decide))
     have LL:=hide (And.intro hA lt)
     clear hA lt
     go_wp2_with fail
     refine (zaa HO).mono ?_
     rintro e w6 ⟨y,Bc,zb,rfl,xb,Hb⟩
     obtain⟨hA,lt⟩:=zaa LL
     clear LL HO
     have ab:=zcW hA Hb
     have Ve:=lt.frm (Frm.ofGrown Hb) (by simp;omega)
     obtain⟨y,rfl⟩:=Int.eq_ofNat_of_zero_le Bc
     obtain⟨s,hs,qa⟩:∃s:ByteArray,w6.cell? ⟨w5.heap.size,y,none⟩=some (.string s)∧s.size<=9:=by
      rw [Ve.cell y]
      have hk:y<5:=by omega
      match y,hk with
      | 0,_=>exact⟨_,rfl,by decide⟩
      | 1,_=>exact⟨_,rfl,by decide⟩
      | 2,_=>exact⟨_,rfl,by decide⟩
      | 3,_=>exact⟨_,rfl,by decide⟩
      | 4,_=>exact⟨_,rfl,by decide⟩
     have Ga:=Frm.ofGrown ab
     have Jb:=(zaa Ia).frm Ga (fun q hq=>by simp at hq;exact .inl hq) ga (by have:=(zaa Ia).2.2.1;simp;omega) xb
     have Lb:=(zaa Ba).frm Ga (by have:=(zaa Ba).2.2.2.2.2.1;simp;omega) (fun q hq e=>by have:=((zaa Ba).2.2.2.2.1 q hq).1;simp at e;omega)
     obtain⟨w7,Jg,Le,sc,hB⟩:=zhI w6 s (by omega)
     have yb:=Jb.frm (Frm.ofBelow hB []) (fun q hq=>by cases hq) ga (by simp) (xb.keepAll hB)
     have Mc:=Lb.frm (Frm.ofBelow hB []) (by simp) (fun _ _=>by simp)
     obtain⟨gc,_,_,_,_,Hc,fa⟩:=Mc
     obtain⟨_,z1,_,_,_⟩:=gc.cells
     have g1:=gc.frozen (Ja+1)
     have HE:=hide (fun v hv=>yb.store fa Hc ga Qc 1 v hv)
     obtain⟨_,_,_,_,_,_,_,_,-,la⟩:=(((zaa oa).frm Ga).frm (Frm.ofBelow hB [g])).parts
     have yd:=Lb.1.lt
     have lf:=Jb.2.1.lt
     have HX:=hide (la.name (sc.mono (Nat.zero_le _)) (by rw [sc.len];omega) (fun q hq=>by simp [FB,Value.ownBlock]at hq;omega))
     clear la oa yd lf
     have vf:(y:Int)<5:=zb
     clear Jb yb Lb gc Hb ab xb Ga Ia Ba fa hA lt Ve sc hB
     go_wp2_with fail
     go_meet
     exact⟨zaa HE _ ⟨_,_,_,rfl⟩,zaa HX⟩
    by_cases k2:ks=2
    ·subst k2
     obtain⟨iz,wf⟩:=zty0
     have wd:Below w5.heap.size w5 w5.drew:=(Below.refl _ _).drew
     have HB:=hide (zde w0 w5.drew g code l ((zaa Ia).2.2.2.1.keepAll wd))
     have Qe:∀args wst,(callFunc 70 args).run Tryz.prog wst=.ok (.enter 70 args) wst:=enters_of Tryz.func70 (by kernel_rfl) rfl
     have Xf:w5.drew.cell? ⟨bx,Ja+2,none⟩=some (.slice x2 t.text.length y2):=(zaa Ba).1.cells.2.2.1
     have Ud:=(zaa Ba).1.lt
     have qf:=(zaa Ba).2.2.2.2.2.1
     go_wp2_with fail
     go_region_law
      (first
       | (refine zbW (by rfl) 70 [.tmp 80] #[63] (by rfl) Qe [.pointer (some ⟨g,0,none⟩)] (by rfl) (zaa HB) ?_;clear HB;rintro e w6 ⟨y,Bc,zb,rfl,xb,Hb⟩;have xf:IntKind.u8.wrap y=y:=(IntWalk.u8_in y ⟨Bc,zb⟩);have ab:w5.grownBy w6 (some g):=⟨Hb.os,Hb.tape,Hb.output,Hb.size,Hb.block⟩;have Ga:=Frm.ofGrown ab;have Jb:=(zaa Ia).frm Ga (fun q hq=>by simp at hq;exact .inl hq) ga (by have:=(zaa Ia).2.2.1;simp;omega) xb;have Lb:=(zaa Ba).frm Ga (by simp;omega) (fun q hq e=>by have:=((zaa Ba).2.2.2.2.1 q hq).1;simp at e;omega);have Ff:=Lb.1.cells.2.2.1;have Sd:Below w6.heap.size w6 (w6.alloc (.cells #[.int .u8 y] 5)):=(Below.refl _ _).alloc (Nat.le_refl _) _;have Mc:=Lb.frm (Frm.ofBelow Sd []) (by simp) (fun _ _=>by simp);have yb:=Jb.frm (Frm.ofBelow Sd []) (fun q hq=>by cases hq) ga (by simp) (xb.keepAll Sd);have nf:=Mc.1.cells.2.2.1;have HW:=hide (And.intro yb Mc);obtain⟨_,_,_,Ze,_,_,_,_,-,la⟩:=(((zaa oa).frm Ga).frm (Frm.ofBelow Sd [g])).parts;have ee:=la.r2.len;have cb:=hide la;have ad:=hide (And.intro ((Loc.made w6 #[.int .u8 y] 5).cell 0) (zfl w6 y Bc zb));clear la;clear Jb Lb yb Mc Ga Hb xb;refine⟨_,rfl,?_⟩)
       | (refine zxg (by rfl) (.tmp 79) (.tmp 83) (by rfl) 0 (.slice x2 t.text.length y2) Ze (by rfl) (zaa cb).r2 w6.heap.size 1 y (by rfl) Bc zb (zaa ad).1 (zaa ad).2 (by omega) (Nat.zero_le _) ?_;intro v8 w8 Aa Vd re;obtain⟨a8,c8,rfl⟩:=Aa.shape;have sd:=(zaa cb).text' Vd Aa re;rw [show (Ze++[y]).length=t.text.length+1 by simp [ee]]at sd;have HX:=hide sd;clear Aa sd;have hS:∀q∈(Value.slice x2 t.text.length y2).ownBlock.toList,wst.heap.size<q∧q≠bx∧q≠b:=(fun q hq=>(zaa HW).2.2.2.2.2.1 q (by simp only [FB,List.mem_append];exact .inl (.inl hq)));have Ga:=Frm.ofGrown Vd;have Ke:=(zaa HW).2.1.frm Ga (fun e=>(hS bx e).2.1 rfl);have Gg:=Ke.cells.2.2.1;have Eg:=Ke.frozen (Ja+2)))
     all_goals
      obtain⟨yb,Mc⟩:=zaa HW
      have ve:=yb.frm Ga (fun q hq=>.inr (hS q hq).1) ga (fun e=>(hS b e).2.2 rfl) (yb.2.2.2.1.keep Vd (fun e=>by have:=(hS g (by rw [<-e];simp)).1;omega) (fun q hq=>by have:=(hS q (by rw [hq];simp)).1;omega))
      have HE:=hide (fun v hv=>ve.store Mc.2.2.2.2.2.2 Mc.2.2.2.2.2.1 ga Qc 2 v hv)
      clear yb Mc ve Ga hS Ke Vd re HW Xf Ff nf cb ad ee
      go_wp2_with fail
      go_meet
      exact⟨zaa HE _ ⟨_,_,_,rfl⟩,zaa HX⟩
    by_cases k3:ks=3
    ·subst k3
     have kc:=Lib.run_convert_bytes_const (P:=Tryz.prog) w5 22 5 #[.int .u8 97] 1 1 Tryz.underlying22 Tryz.underlying5
     have hA:Below w5.heap.size w5 ((w5.alloc (.cells #[.int .u8 97] 5 (1,2))).alloc (.cells #[.slice (some ⟨w5.heap.size,0,none⟩) 1 1,.slice none 0 0] 132)):=zal ((Below.refl _ _).alloc (Nat.le_refl _) _) ((Below.refl _ _).alloc (Nat.le_refl _) _)
     have Jb:=(zaa Ia).frm (Frm.ofBelow hA []) (fun q hq=>by cases hq) ga (by simp) ((zaa Ia).2.2.2.1.keepAll hA)
     have Lb:=(zaa Ba).frm (Frm.ofBelow hA []) (by simp) (fun _ _=>by simp)
     obtain⟨_,_,_,_,we,_,Oe,_,-,Gd⟩:=(zaa oa).parts
     have la:=Gd.keep hA
     have me:RowM ((w5.alloc (.cells #[.int .u8 97] 5 (1,2))).alloc (.cells #[.slice (some ⟨w5.heap.size,0,none⟩) 1 1,.slice none 0 0] 132)) 0 (.slice (some ⟨w5.heap.size,0,none⟩) 1 1) [97]:=(zoh w5 97 (by decide) (by decide)).keep ((Below.refl _ _).alloc (Nat.le_refl _) _)
     have te:∀q∈Oe,q<w5.heap.size:=fun q hq=>OwElems.ltM Gd.r3 (fun _ _ _ hr=>OwAttrM.lt hr) q hq
     have Bd:Oe.Nodup:=(List.nodup_append.1 (List.nodup_append.1 Gd.nd).1).2.1
     obtain⟨xa,ya,ea,_,_⟩:=Elems.shape (OwAttrsM.rd Gd.r3)
     have Wc:we.length=t.attrs.length:=by injection ea with _ e _;exact e.symm
     have cb:=hide la
     have fc:=hide (And.intro me (And.intro te (And.intro Bd Wc)))
     clear Gd la me te Bd ea Wc oa
     have ne:∀j u,[.slice (some ⟨w5.heap.size,0,none⟩) 1 1,.slice none 0 0][j]? = some u->((w5.alloc (.cells #[.int .u8 97] 5 (1,2))).alloc (.cells #[.slice (some ⟨w5.heap.size,0,none⟩) 1 1,.slice none 0 0] 132)).cell? ((⟨w5.heap.size+1,0,none⟩:Addr).add j)=some u:=fun j u hu=>by
      have:=World.news_of_block (heap_alloc_new (w5.alloc (.cells #[.int .u8 97] 5 (1,2))) (.cells #[.slice (some ⟨w5.heap.size,0,none⟩) 1 1,.slice none 0 0] 132)) j u (by simpa using hu)
      simpa using this
     have HW:=hide (And.intro Jb (And.intro Lb ne))
     obtain⟨i0,Sf,ff,Qd,Pf⟩:=info_parts znl
     have z3:=(zaa Ba).1.cells.2.2.2.1
     clear Jb Lb ne hA
     go_wp2_with (at_builtin;refine zsc (R:=OwAttrM) (fun h f d=>OwAttrM.frm h f d) rfl _ _ 26 rfl 132 i0 (.agg #[.slice none 0 0,.slice none 0 0]) 2 48 Tryz.underlying26 Sf ff Qd Pf rfl (by decide) (.slice x3 t.attrs.length y3) we Oe rfl (zaa cb).r3 (zaa fc).2.2.1 ⟨w5.heap.size+1,0,none⟩ 1 [.slice (some ⟨w5.heap.size,0,none⟩) 1 1,.slice none 0 0] ([97],[]) [w5.heap.size] rfl rfl (zaa HW).2.2 (fun u hu=>by simp at hu;rcases hu with rfl | rfl<;>rfl) ⟨_,_,rfl,(zaa fc).1,zcc _ _,by simp [FB,Value.ownBlock]⟩ (by simp) (fun q hq e=>by have:=(zaa fc).2.1 q hq;simp at e;omega) (fun q hq=>by rcases hq with hq | hq;(have:=(zaa fc).2.1 q hq;simp;omega);(simp at hq;simp;omega)) (by have:=(zaa fc).2.2.2;unfold maxLen;omega) (by have:=(zaa fc).2.2.2;omega) ?_)
     intro g6 Yf w6 F6 Pd Ge se Ga Fe
     have hX:=TP.attrs (zaa cb) Ga Pd (by simp [szA];omega) (fun q hq=>by
      have:=(zaa cb).hbx
      have:=(zaa cb).n5.lt
      have:=(zaa cb).hbw
      have Ud:=(zaa Ba).1.lt
      have ce:=(zaa Ia).2.1.lt
      rcases se q hq with h | h | h
      ·have:=(zaa cb).far q (by simp [h])
       exact⟨by omega,this.2.1,this.2.2.1⟩
      ·have h:q=w5.heap.size:=by simpa using h
       omega
      ·have h:q=w5.heap.size+1+1:=by simpa using h
       omega)
     have HX:=hide hX
     clear hX Pd Ge se Fe cb Ba Ia
     have de:=Frm.toGrownV Ga
     obtain⟨Jb,Lb,_⟩:=zaa HW
     have hS:∀q∈(Value.slice x3 t.attrs.length y3).ownBlock.toList,wst.heap.size<q∧q≠bx∧q≠b:=fun q hq=>Lb.2.2.2.2.1 q (by simp only [FB,List.mem_append];exact .inl (.inr hq))
     have yb:=Jb.frm Ga (fun q hq=>.inr (hS q hq).1) ga (fun e=>(hS b e).2.2 rfl) (Jb.2.2.2.1.keep de (fun e=>by have:=(hS g (by rw [<-e];simp)).1;omega) (fun q hq=>by have:=(hS q (by rw [hq];simp)).1;omega))
     have gc:=Lb.1.frm Ga (fun e=>(hS bx e).2.1 rfl)
     obtain⟨_,_,_,Kg,_⟩:=gc.cells
     have g3:=gc.frozen (Ja+3)
     have HE:=hide (fun v hv=>yb.store Lb.2.2.2.2.2.2 Lb.2.2.2.2.2.1 ga Qc 3 v hv)
     clear Jb yb Lb gc de Ga HW hS z3 fc
     go_wp2_with fail
     go_meet
     exact⟨zaa HE _ ⟨_,_,_,rfl⟩,zaa HX⟩
    by_cases k4:ks=4
    ·subst k4
     obtain⟨dd,_,_,_,_,ks,_,Fk,-,la⟩:=(zaa oa).parts
     obtain⟨xa,ya,ea,_,_⟩:=Elems.shape (OwKidsM.rd la.r4)
     have Wc:ks.length=t.kids.length:=by injection ea with _ e _;exact e.symm
     have cb:=hide la
     have ra:=(zaa Ba).1.cells.2.2.2.2
     have Kb:=(zaa Ba).1.bk
     obtain⟨ka,Ef⟩:∃ka,ka=x4:=⟨_,rfl⟩
     obtain⟨kc,gf⟩:∃kc,kc=y4:=⟨_,rfl⟩
     subst Ef gf
     have qb:OwKidsM (dd+1) w5 (.slice ka t.kids.length kc) ks Fk:=la.r4
     rw [<-Wc]at ra qb
     have jb:ks.length<=1000:=by omega
     have ec:Fk.Nodup:=(List.nodup_append.1 la.nd).2.1
     have rb:=OwElems.ltM la.r4 (fun _ _ _ hr=>OwNodeM.lt hr)
     have sb:∀q∈Fk,wst.heap.size<q∧q≠bx∧q≠b∧q<w5.heap.size:=fun q hq=>⟨(la.far q (by simp [hq])).1,(la.far q (by simp [hq])).2.2.1,(la.far q (by simp [hq])).2.1,rb q hq⟩
     clear la ea oa
     have fa:=(zaa Ba).2.2.2.2.2.2
     have Hc:=(zaa Ba).2.2.2.2.2.1
     have ma:=zaa Ia
     obtain⟨w3,md⟩:∃w3,w3=w5:=⟨_,rfl⟩
     subst md
     have Kf:=ma.2.1.lt
     have Re:Bk w3.drew bx Ja:=Kb
     have Ne:=Kb.lt
     have He:w3.drew.cell? ⟨bx,Ja+4,none⟩=some (.slice ka ks.length kc):=ra
     have ic:OwKidsM (dd+1) w3.drew (.slice ka ks.length kc) ks Fk:=OwKidsM.frm qb (Frm.ofBelow ((Below.refl _ _).drew) []) (by simp)
     have cc:BS w0 wst g code l b w3.drew:=ma.frm (Frm.ofBelow ((Below.refl _ _).drew) []) (fun q hq=>by cases hq) ga (by simp) (ma.2.2.2.1.keepAll ((Below.refl _ _).drew))
     have De:Frm w3 w3.drew (bx::g::Fk)∧∀j,j≠Ja+4->w3.drew.cell? ⟨bx,j,none⟩=w3.cell? ⟨bx,j,none⟩:=⟨Frm.ofBelow ((Below.refl _ _).drew) _,fun _ _=>rfl⟩
     clear Ba Ia qb ra Kb rb Wc
     go_wp2_with fail
     refine zea (by kernel_rfl) (Lb21 w0 wst w3 g b bx Ja code l ka kc dd ks Fk (undef) (.pointer (some ⟨wst.heap.size,0,none⟩)) (.pointer (some ⟨b,0,none⟩)) (undef) (undef) (.pointer (some ⟨g,0,none⟩)) (.agg #[.int .i64 k,.slice p1 n1 c1,.slice p2 n2 c2,.slice p3 n3 c3,.slice p4 n4 c4]) (.pointer (some ⟨g,0,none⟩)) (.bool true) (.bool false) (undef) (u13) (u14) (u15) (u16) (u17) (u18) (u19) (u20) (u21) (.bool false) (u23) (u24) (u25) (u26) (u27) (u28) (u29) (u30) (u31) (u32) (u33) (u34) (.pointer (some ⟨g,0,none⟩)) (.int .i64 4) (undef) (undef) (undef) (undef) (undef) (undef) (undef) (undef) (undef) (undef) (undef) (undef) (undef) (undef) (undef) (undef) (undef) (.bool false) (.bool false) (undef) (undef) (undef) (undef) (undef) (undef) (.bool false) (.bool false) (undef) (undef) (undef) (undef) (undef) (undef) (undef) (undef) (undef) (.bool false) (.bool false) (undef) (undef) (undef) (undef) (undef) (undef) (undef) (undef) (undef) (undef) (undef) (undef) (.bool false) (.bool false) (undef) (undef) (undef) (undef) (undef) (undef) (undef) (undef) (undef) (undef) (undef) (undef) (.bool true) (.bool true) (undef) (undef) (undef) (undef) (undef) (undef) (undef) (undef) (undef) (undef) (undef) (undef)) ?sz ?h0 ?step ?dn
     case sz=>
      intro L a w hI
      refine hI _ ?_
      intro b0 b1 b2 b3 b4 b5 b6 b7 b8 b9 Ma Fa Za Xa Wa Ib Gb ba Ya Na ca Ua Va da aa Ra Qa Ta ia Pa Oa Sa eL eA h0 h1 h2 h3 f0 f1 f2 f3 f4 f5 f6 f7 f8 f9 La ua Ka Da Fb pa
      subst eL
      rfl
     case h0=>
      exact fun _ k_=>k_ false false false false false false false false false false false false false false false false false _ _ _ _ _ _ _ _ _ _ _ _ _ _ _ rfl rfl cc De Re (fun _=>⟨He,ic⟩) (fun h=>by cases h) (fun h=>by cases h) (fun h=>by cases h) (fun h=>by cases h) (fun h=>by cases h) (fun h=>by cases h) (fun h=>by cases h) (fun h=>by cases h) (fun h=>by cases h) (fun h=>by cases h) (fun h=>by cases h) (fun h=>by cases h) (fun h=>by cases h) (fun h=>by cases h) (fun h=>by cases h) (fun h=>by cases h)
     case step=>
      intro L a w i o hI hi ho
      refine hI _ ?_
      clear hI
      intro b0 b1 b2 b3 b4 b5 b6 b7 b8 b9 Ma Fa Za Xa Wa Ib Gb ba Ya Na ca Ua Va da aa Ra Qa Ta ia Pa Oa Sa eL eA h0 h1 h2 h3 f0 f1 f2 f3 f4 f5 f6 f7 f8 f9 La ua Ka Da Fb pa
      subst eL eA
      rcases zue (zft hi)with rfl | rfl | rfl | rfl | rfl | rfl | rfl | rfl | rfl | rfl | rfl | rfl | rfl | rfl | rfl | rfl | rfl
      ·obtain rfl:=Option.some.inj ho
       go_simp
       exact fun _ k_=>k_ true b1 b2 b3 b4 b5 b6 b7 b8 b9 Ma Fa Za Xa Wa Ib Gb _ Ya Na ca Ua Va da aa Ra Qa Ta ia Pa Oa Sa rfl rfl h0 h1 h2 h3 (fun _=>rfl) f1 f2 f3 f4 f5 f6 f7 f8 f9 La ua Ka Da Fb pa
      ·have g0:=zai hi ho 0
       obtain rfl:=Option.some.inj ho
       have e0:=f0 (g0 (by kernel_rfl))
       subst e0
       go_simp
       exact fun _ k_=>k_ b0 true b2 b3 b4 b5 b6 b7 b8 b9 Ma Fa Za Xa Wa Ib Gb _ _ Na ca Ua Va da aa Ra Qa Ta ia Pa Oa Sa rfl rfl h0 h1 h2 h3 f0 (fun _=>rfl) f2 f3 f4 f5 f6 f7 f8 f9 La ua Ka Da Fb pa
      ·have g1:=zai hi ho 1
       obtain rfl:=Option.some.inj ho
       have e1:=f1 (g1 (by kernel_rfl))
       subst e1
       go_simp
       exact fun _ k_=>k_ b0 b1 true b3 b4 b5 b6 b7 b8 b9 Ma Fa Za Xa Wa Ib Gb ba _ _ ca Ua Va da aa Ra Qa Ta ia Pa Oa Sa rfl rfl h0 h1 h2 h3 f0 f1 (fun _=>rfl) f3 f4 f5 f6 f7 f8 f9 La ua Ka Da Fb pa
      ·have g2:=zai hi ho 2
       obtain rfl:=Option.some.inj ho
       have e2:=f2 (g2 (by kernel_rfl))
       subst e2
       have Ha:b3=false:=by simpa using zao rfl hi
       have ck:=(h3 (by cases hb:Fa with
        | false=>rfl
        | true=>have:=(ua hb).1;rw [Ha]at this;cases this)).1
       clear Ha
       go_simp
       exact fun _ k_=>k_ b0 b1 b2 true b4 b5 b6 b7 b8 b9 Ma Fa Za Xa Wa Ib Gb ba Ya _ _ Ua Va da aa Ra Qa Ta ia Pa Oa Sa rfl rfl h0 h1 h2 h3 f0 f1 f2 (fun _=>rfl) f4 f5 f6 f7 f8 f9 La (fun h=>⟨rfl,(ua h).2⟩) Ka Da Fb pa
      ·obtain rfl:=Option.some.inj ho
       go_simp
       exact fun _ k_=>k_ b0 b1 b2 b3 true b5 b6 b7 b8 b9 Ma Fa Za Xa Wa Ib Gb ba Ya Na ca _ Va da aa Ra Qa Ta ia Pa Oa Sa rfl rfl h0 h1 h2 h3 f0 f1 f2 f3 (fun _=>rfl) f5 f6 f7 f8 f9 La ua Ka Da Fb pa
      ·have g4:=zai hi ho 4
       have Ha:b5=false:=by simpa using zao rfl hi
       obtain rfl:=Option.some.inj ho
       have e4:=f4 (g4 (by kernel_rfl))
       subst e4
       clear Ha
       go_simp
       refine (zbv w0 w g code l 2 h0.2.2.2.1 (by decide) (by decide)).mono ?_
       rintro e w9 ⟨y,Bc,zb,rfl,Cc,gb⟩
       have hf:=Frm.ofGrown gb
       have sa:=h0.frm hf (fun q hq=>by simp at hq;exact .inl hq) ga (by have:=h0.2.2.1;simp;omega) Cc
       have Ca:bx∉(some g).toList:=by simp;omega
       have qa:Frm w3 w9 (bx::g::Fk)∧∀j,j≠Ja+4->(w9).cell? ⟨bx,j,none⟩=w3.cell? ⟨bx,j,none⟩:=⟨h1.1.trans (hf.mono (fun q hq=>by simp at hq;simp [hq])),fun j hj=>(World.cell?_of_block (hf.block bx h2.lt Ca)).trans (h1.2 j hj)⟩
       have wb:∀q∈Fk,q∉(some g).toList:=fun q hq=>by have:=(sb q hq).1;simp;omega
       have nm:∀q∈(some g).toList,q<w3.heap.size:=fun q hq=>by simp at hq;omega
       have nA:∀q∈(some g).toList,q<=wst.heap.size∨q=bx:=fun q hq=>by simp at hq;omega
       have nz:∀z,w3.heap.size<=z->Loc w z #[.int .i64 0,.slice none 0 0,.slice none 0 0,.slice none 0 0,.slice none 0 0] 29->z∉(some g).toList:=fun z hz _=>by simp;omega
       exact fun _ k_=>k_ b0 b1 b2 b3 b4 true b6 b7 b8 b9 Ma Fa Za Xa Wa Ib Gb ba Ya Na ca _ _ da aa Ra Qa Ta ia Pa Oa Sa rfl rfl sa qa (h2.frm hf Ca) (fun ha=>⟨(hf.cell4 h2 Ca).trans (h3 ha).1,OwKidsM.frm (h3 ha).2 hf wb⟩) f0 f1 f2 f3 f4 (fun _=>⟨y,Bc,zb,rfl⟩) f6 (fun h=>by obtain⟨p,m,e,hm,hp,t⟩:=f7 h;exact⟨p,m,e,hm,hp,fun ha=>(t ha).frm hf (fun q hq hs=>by have e9:q=p:=(by simpa [FB,Value.ownBlock,eq_comm]using hq);have:=nm q hs;omega)⟩) (fun h=>by obtain⟨e0,Eb,Db,za,Cb,wa,Ab,Bb,e,t⟩:=f8 h;exact⟨e0,Eb,Db,za,Cb,wa,Ab,Bb,e,fun ha=>(t ha).frm hf nm⟩) f9 (fun h=>by obtain⟨z,e,hz,t⟩:=La h;exact⟨z,e,hz,fun ha=>(t ha).frm hf (nz z hz (t ha))⟩) (fun h=>by obtain⟨e1,e2,e3,gq,cq,e,t⟩:=ua h;exact⟨e1,e2,e3,gq,cq,e,t.frm hf nA⟩) Ka Da Fb (fun h=>⟨(pa h).1,(hf.cell4 h2 Ca).trans (pa h).2⟩)
      ·have g5:=zai hi ho 5
       obtain rfl:=Option.some.inj ho
       obtain⟨y,Bc,zb,ex⟩:=f5 (g5 (by kernel_rfl))
       subst ex
       have Jf:IntKind.i64.wrap (30+y)=30+y:=by rw [IntKind.wrap_i64];omega
       go_simp
       exact fun _ k_=>k_ b0 b1 b2 b3 b4 b5 true b7 b8 b9 Ma Fa Za Xa Wa Ib Gb ba Ya Na ca Ua _ _ aa Ra Qa Ta ia Pa Oa Sa rfl rfl h0 h1 h2 h3 f0 f1 f2 f3 f4 (fun _=>⟨y,Bc,zb,rfl⟩) (fun _=>⟨y,Bc,zb,by first | rfl | rw [Jf]⟩) f7 f8 f9 La ua Ka Da Fb pa
      ·have g6:=zai hi ho 6
       obtain rfl:=Option.some.inj ho
       obtain⟨y,Bc,zb,ex⟩:=f6 (g6 (by kernel_rfl))
       subst ex
       have Ob:=fun (o:Obj)=>Frm.ofBelow ((Below.refl w.heap.size w).alloc (Nat.le_refl _) o) []
       have be:=fun (o:Obj)=>h0.frm (Ob o) (fun q hq=>by cases hq) ga (by simp) (h0.2.2.2.1.keepAll ((Below.refl w.heap.size w).alloc (Nat.le_refl _) o))
       have Uc:w3.heap.size<=w.heap.size:=h1.1.size
       have Ca:bx∉([]:Xh):=by simp
       have fe:=fun (o:Obj)=>(⟨h1.1.trans ((Ob o).mono (fun q hq=>by cases hq)),fun j hj=>(World.cell?_of_block ((Ob o).block bx h2.lt Ca)).trans (h1.2 j hj)⟩:Frm w3 (w.alloc o) (bx::g::Fk)∧∀j,j≠Ja+4->(w.alloc o).cell? ⟨bx,j,none⟩=w3.cell? ⟨bx,j,none⟩)
       have wb:∀q∈Fk,q∉([]:Xh):=fun _ _=>by simp
       have nm:∀q∈([]:Xh),q<w3.heap.size:=fun _ h=>by cases h
       have nA:∀q∈([]:Xh),q<=wst.heap.size∨q=bx:=fun _ h=>by cases h
       have nz:∀z,w3.heap.size<=z->Loc w z #[.int .i64 0,.slice none 0 0,.slice none 0 0,.slice none 0 0,.slice none 0 0] 29->z∉([]:Xh):=fun _ _ _=>by simp
       by_cases hy:y=0
       ·subst hy
        go_simp
        exact fun _ k_=>k_ b0 b1 b2 b3 b4 b5 b6 true b8 b9 Ma Fa Za Xa Wa Ib Gb ba Ya Na ca Ua Va _ _ Ra Qa Ta ia Pa Oa Sa rfl rfl ((be _)) ((fe _)) ((h2.frm (Ob _) Ca)) (fun ha=>⟨((Ob _).cell4 h2 Ca).trans (h3 ha).1,OwKidsM.frm (h3 ha).2 (Ob _) wb⟩) f0 f1 f2 f3 f4 f5 (fun _=>⟨0,by decide,by decide,rfl⟩) (fun _=>⟨_,_,rfl,by decide,Uc,fun _=>zqa w _ 30 (by decide) (by kernel_rfl)⟩) (fun h=>by obtain⟨e0,Eb,Db,za,Cb,wa,Ab,Bb,e,t⟩:=f8 h;exact⟨e0,Eb,Db,za,Cb,wa,Ab,Bb,e,fun ha=>(t ha).frm (Ob _) nm⟩) f9 (fun h=>by obtain⟨z,e,hz,t⟩:=La h;exact⟨z,e,hz,fun ha=>(t ha).frm (Ob _) (nz z hz (t ha))⟩) (fun h=>by obtain⟨e1,e2,e3,gq,cq,e,t⟩:=ua h;exact⟨e1,e2,e3,gq,cq,e,t.frm (Ob _) nA⟩) Ka Da Fb (fun h=>⟨(pa h).1,((Ob _).cell4 h2 Ca).trans (pa h).2⟩)
       obtain rfl:y=1:=by omega
       go_simp
       exact fun _ k_=>k_ b0 b1 b2 b3 b4 b5 b6 true b8 b9 Ma Fa Za Xa Wa Ib Gb ba Ya Na ca Ua Va _ _ Ra Qa Ta ia Pa Oa Sa rfl rfl ((be _)) ((fe _)) ((h2.frm (Ob _) Ca)) (fun ha=>⟨((Ob _).cell4 h2 Ca).trans (h3 ha).1,OwKidsM.frm (h3 ha).2 (Ob _) wb⟩) f0 f1 f2 f3 f4 f5 (fun _=>⟨1,by decide,by decide,rfl⟩) (fun _=>⟨_,_,rfl,by decide,Uc,fun _=>zqa w _ 31 (by decide) (by kernel_rfl)⟩) (fun h=>by obtain⟨e0,Eb,Db,za,Cb,wa,Ab,Bb,e,t⟩:=f8 h;exact⟨e0,Eb,Db,za,Cb,wa,Ab,Bb,e,fun ha=>(t ha).frm (Ob _) nm⟩) f9 (fun h=>by obtain⟨z,e,hz,t⟩:=La h;exact⟨z,e,hz,fun ha=>(t ha).frm (Ob _) (nz z hz (t ha))⟩) (fun h=>by obtain⟨e1,e2,e3,gq,cq,e,t⟩:=ua h;exact⟨e1,e2,e3,gq,cq,e,t.frm (Ob _) nA⟩) Ka Da Fb (fun h=>⟨(pa h).1,((Ob _).cell4 h2 Ca).trans (pa h).2⟩)
      ·have g7:=zai hi ho 7
       have Ha:b8=false:=by simpa using zao rfl hi
       obtain rfl:=Option.some.inj ho
       obtain⟨p,m,ex,hm,hp,tp⟩:=f7 (g7 (by kernel_rfl))
       have EB:=hide (tp Ha)
       clear tp Ha
       subst ex
       go_simp
       exact fun _ k_=>k_ b0 b1 b2 b3 b4 b5 b6 b7 true b9 Ma Fa Za Xa Wa Ib Gb ba Ya Na ca Ua Va da _ _ Qa Ta ia Pa Oa Sa rfl rfl h0 h1 h2 h3 f0 f1 f2 f3 f4 f5 f6 (fun _=>⟨p,m,rfl,hm,hp,fun h=>by cases h⟩) (fun _=>⟨trivial,_,_,_,_,_,_,_,rfl,fun _=>zAC (zaa EB) (by simp;omega) (fun q hq=>by have e9:q=p:=(by simpa [FB,Value.ownBlock,eq_comm]using hq);omega)⟩) f9 La ua Ka Da Fb pa
      ·have g3:=zai hi ho 3
       obtain rfl:=Option.some.inj ho
       have e3:=f3 (g3 (by kernel_rfl))
       subst e3
       go_simp
       exact fun _ k_=>k_ b0 b1 b2 b3 b4 b5 b6 b7 b8 true Ma Fa Za Xa Wa Ib Gb ba Ya Na _ Ua Va da aa Ra _ Ta ia Pa Oa Sa rfl rfl h0 h1 h2 h3 f0 f1 f2 f3 f4 f5 f6 f7 f8 (fun _=>rfl) La ua Ka Da Fb pa
      ·have Ha:Ma=false:=by simpa using zao rfl hi
       obtain rfl:=Option.some.inj ho
       have Xc:Below w.heap.size w (w.alloc (.cells #[.int .i64 0,.slice none 0 0,.slice none 0 0,.slice none 0 0,.slice none 0 0] 29)):=(Below.refl _ _).alloc (Nat.le_refl _) _
       have Hd:=Loc.made w #[.int .i64 0,.slice none 0 0,.slice none 0 0,.slice none 0 0,.slice none 0 0] 29
       have hf:=Frm.ofBelow Xc []
       have sa:=h0.frm hf (fun q hq=>by cases hq) ga (by simp) (h0.2.2.2.1.keepAll Xc)
       have Ca:bx∉([]:Xh):=by simp
       have qa:Frm w3 _ (bx::g::Fk)∧∀j,j≠Ja+4->World.cell? _ ⟨bx,j,none⟩=w3.cell? ⟨bx,j,none⟩:=⟨h1.1.trans (hf.mono (fun q hq=>by cases hq)),fun j hj=>(World.cell?_of_block (hf.block bx h2.lt Ca)).trans (h1.2 j hj)⟩
       have wb:∀q∈Fk,q∉([]:Xh):=fun _ _=>by simp
       have nm:∀q∈([]:Xh),q<w3.heap.size:=fun _ h=>by cases h
       have nA:∀q∈([]:Xh),q<=wst.heap.size∨q=bx:=fun _ h=>by cases h
       have nz:∀z,w3.heap.size<=z->Loc w z #[.int .i64 0,.slice none 0 0,.slice none 0 0,.slice none 0 0,.slice none 0 0] 29->z∉([]:Xh):=fun _ _ _=>by simp
       have Uc:w3.heap.size<=w.heap.size:=h1.1.size
       have Yc:=hide Ha
       clear Ha
       go_simp
       exact fun _ k_=>k_ b0 b1 b2 b3 b4 b5 b6 b7 b8 b9 true Fa Za Xa Wa Ib Gb ba Ya Na ca Ua Va da aa Ra Qa _ ia Pa Oa Sa rfl rfl sa qa (h2.frm hf Ca) (fun ha=>⟨(hf.cell4 h2 Ca).trans (h3 ha).1,OwKidsM.frm (h3 ha).2 hf wb⟩) f0 f1 f2 f3 f4 f5 f6 (fun h=>by obtain⟨p,m,e,hm,hp,t⟩:=f7 h;exact⟨p,m,e,hm,hp,fun ha=>(t ha).frm hf (fun q hq hs=>by have e9:q=p:=(by simpa [FB,Value.ownBlock,eq_comm]using hq);have:=nm q hs;omega)⟩) (fun h=>by obtain⟨e0,Eb,Db,za,Cb,wa,Ab,Bb,e,t⟩:=f8 h;exact⟨e0,Eb,Db,za,Cb,wa,Ab,Bb,e,fun ha=>(t ha).frm hf nm⟩) f9 (fun _=>⟨w.heap.size,rfl,Uc,fun _=>Hd⟩) (fun h=>by have:=(ua h).2.1;rw [zaa Yc]at this;cases this) Ka Da Fb (fun h=>⟨(pa h).1,(hf.cell4 h2 Ca).trans (pa h).2⟩)
      ·have g3:=zai hi ho 3
       have Ie:=zai hi ho 10
       have Ha:Fa=false:=by simpa using zao rfl hi
       obtain rfl:=Option.some.inj ho
       have t3:b3=true:=g3 (by kernel_rfl)
       have qe:Ma=true:=Ie (by kernel_rfl)
       have e1:=f3 t3
       obtain⟨z,ez,hz,Je⟩:=La qe
       have lz:=Je Ha
       have hr:=(h3 Ha).2
       subst e1 ez
       have Qd:=(fun q (hq:q∈Fk)=>(sb q hq).2.2.2)
       have Dc:=h1.1.size
       refine zpY (H:=wst.heap.size) (b:=b) (bx:=bx) (m:=w3.heap.size) (by rfl) (.tmp 106) (.tmp 113) (by rfl) ka kc (by rfl) hr ec z (by rfl) lz sb Dc (by have:=h0.2.2.1;omega) jb ?_
       intro gq cq w9 rc hf
       have hS:∀q∈FB (.slice ka ks.length kc),wst.heap.size<q∧q≠bx∧q≠b∧q∈Fk:=fun q hq=>by have hm:q∈Fk:=zuN hr q hq;exact⟨(sb q hm).1,(sb q hm).2.1,(sb q hm).2.2.1,hm⟩
       have gb:=Frm.toGrownV hf
       have sa:=h0.frm hf (fun q hq=>.inr (hS q hq).1) ga (fun e=>(hS b e).2.2.1 rfl) (h0.2.2.2.1.keep gb (fun e=>by have:=(hS g (by rw [FB,<-e];simp)).1;omega) (fun q hq=>by have:=(hS q (by rw [FB,hq];simp)).1;omega))
       have Ca:bx∉FB (.slice ka ks.length kc):=fun e=>(hS bx e).2.1 rfl
       have qa:Frm w3 w9 (bx::g::Fk)∧∀j,j≠Ja+4->(w9).cell? ⟨bx,j,none⟩=w3.cell? ⟨bx,j,none⟩:=⟨h1.1.trans (hf.mono (fun q hq=>by simp [(hS q hq).2.2.2])),fun j hj=>(World.cell?_of_block (hf.block bx h2.lt Ca)).trans (h1.2 j hj)⟩
       have nm:∀q∈FB (.slice ka ks.length kc),q<w3.heap.size:=fun q hq=>Qd q (hS q hq).2.2.2
       exact fun _ k_=>k_ b0 b1 b2 b3 b4 b5 b6 b7 b8 b9 Ma true Za Xa Wa Ib Gb ba Ya Na _ Ua Va da aa Ra Qa _ _ Pa Oa Sa rfl rfl sa qa (h2.frm hf Ca) (fun ha=>by cases ha) f0 f1 f2 (fun _=>rfl) f4 f5 f6 (fun h=>by obtain⟨p,m,e,hm,hp,t⟩:=f7 h;exact⟨p,m,e,hm,hp,fun ha=>(t ha).frm hf (fun q hq hs=>by have e9:q=p:=(by simpa [FB,Value.ownBlock,eq_comm]using hq);have:=nm q hs;omega)⟩) (fun h=>by obtain⟨e0,Eb,Db,za,Cb,wa,Ab,Bb,e,t⟩:=f8 h;exact⟨e0,Eb,Db,za,Cb,wa,Ab,Bb,e,fun ha=>(t ha).frm hf nm⟩) f9 (fun _=>⟨z,rfl,hz,fun ha=>by cases ha⟩) (fun _=>⟨t3,qe,trivial,gq,cq,rfl,rc _⟩) (fun h=>by have:=(Ka h).1;rw [Ha]at this;cases this) Da Fb (fun h=>by have:=(pa h).1;rw [Ha]at this;cases this)
      ·have Ce:=zai hi ho 11
       have g9:=zai hi ho 9
       obtain rfl:=Option.some.inj ho
       have ta:Fa=true:=Ce (by kernel_rfl)
       obtain⟨e1,e2,e3,gq,cq,ex,Aa⟩:=ua ta
       have el:=f9 (g9 (by kernel_rfl))
       subst ex el
       have Tf:(ks.length:Int)<((ks.length+1:Nat):Int):=by omega
       have cd:(ks.length:Int)<(ks.length:Int)+1:=by omega
       have Md:(0:Int)<=(ks.length:Int):=by omega
       have EB:=hide (And.intro ta (And.intro e1 (And.intro e2 e3)))
       clear ta e1 e2 e3
       go_simp
       exact fun _ k_=>k_ b0 b1 b2 b3 b4 b5 b6 b7 b8 b9 Ma Fa true Xa Wa Ib Gb ba Ya Na ca Ua Va da aa Ra _ Ta _ _ Oa Sa rfl rfl h0 h1 h2 h3 f0 f1 f2 f3 f4 f5 f6 f7 f8 (fun _=>rfl) La (fun _=>⟨(zaa EB).2.1,(zaa EB).2.2.1,(zaa EB).2.2.2,gq,cq,rfl,Aa⟩) (fun _=>⟨(zaa EB).1,gq,cq,rfl,rfl⟩) Da Fb pa
      ·have xd:=zai hi ho 12
       have g8:=zai hi ho 8
       have Ha:Xa=false:=by simpa using zao rfl hi
       obtain rfl:=Option.some.inj ho
       obtain⟨ta,gq,cq,ex,ei⟩:=Ka (xd (by kernel_rfl))
       have tn:b8=true:=g8 (by kernel_rfl)
       obtain⟨eM,Eb,Db,za,Cb,wa,Ab,Bb,en,Oc⟩:=f8 tn
       obtain⟨e1,e2,e3,gr,cr,Id,Aa⟩:=ua ta
       have bd:=Id.symm.trans ex
       injection bd with y1 _ y3
       injection y1 with y1
       injection y1 with y1 _ _
       subst y1 y3
       clear Id
       have Oc:=Oc Ha
       rw [Ha]at Aa
       obtain⟨_,df,Wf⟩:=Aa.cell (ks.length*5) (by omega)
       obtain⟨_,Vf,Df⟩:=Aa.cell (ks.length*5+1) (by omega)
       obtain⟨_,jf,sf⟩:=Aa.cell (ks.length*5+2) (by omega)
       obtain⟨_,Gf,Uf⟩:=Aa.cell (ks.length*5+3) (by omega)
       obtain⟨_,Bf,Cf⟩:=Aa.cell (ks.length*5+4) (by omega)
       obtain⟨o1,o2,o3,o4,_⟩:=Aa.own
       have hf:Frm w ((((((w).setCell ⟨gr,ks.length*5,none⟩ (.int .i64 Eb)).setCell ⟨gr,ks.length*5+1,none⟩ (.slice Db za Cb)).setCell ⟨gr,ks.length*5+2,none⟩ (.slice wa Ab Bb)).setCell ⟨gr,ks.length*5+3,none⟩ (.slice none 0 0)).setCell ⟨gr,ks.length*5+4,none⟩ (.slice none 0 0)) [gr]:=((((zaq _ _ _ _).trans (zaq _ _ _ _)).trans (zaq _ _ _ _)).trans (zaq _ _ _ _)).trans (zaq _ _ _ _)
       have Dc:=h1.1.size
       have ja:=Aa.set5 Oc (by have:=h0.2.2.1;omega)
       have sa:=h0.frm hf (fun q hq=>by simp at hq;right;omega) ga (by simp;omega) (h0.2.2.2.1.keep (Frm.toGrown' hf) (by simp;omega) (fun q hq=>by cases hq;omega))
       have Ca:bx∉[gr]:=by simp;omega
       have qa:Frm w3 _ (bx::g::Fk)∧∀j,j≠Ja+4->World.cell? _ ⟨bx,j,none⟩=w3.cell? ⟨bx,j,none⟩:=⟨zjp h1.1 hf (fun q hq=>by simp at hq;subst hq;rcases o4 with h | h;exact .inl (by simp [h]);exact .inr h),fun j hj=>(World.cell?_of_block (hf.block bx h2.lt Ca)).trans (h1.2 j hj)⟩
       have na:=h2.frm hf Ca
       have mc:=hide (fun h=>(hf.cell4 h2 Ca).trans (pa h).2)
       have EB:=hide (And.intro ta (And.intro e1 (And.intro e2 (And.intro e3 (And.intro tn eM)))))
       have HW:=hide (And.intro sa (And.intro qa (And.intro na ja)))
       clear ta tn eM e1 e2 e3 sa qa na ja hf Aa Oc Ha
       subst ei en ex
       clear ua f8
       go_simp
       exact fun _ k_=>k_ b0 b1 b2 b3 b4 b5 b6 b7 b8 b9 Ma Fa Za true Wa Ib Gb ba Ya Na ca Ua Va da aa _ Qa Ta _ _ Oa Sa rfl rfl ((zaa HW).1) ((zaa HW).2.1) ((zaa HW).2.2.1) (fun ha=>by rw [(zaa EB).1]at ha;cases ha) f0 f1 f2 f3 f4 f5 f6 (fun h=>by obtain⟨p,m,e,hm,hp,_⟩:=f7 h;exact⟨p,m,e,hm,hp,fun ha=>by rw [(zaa EB).2.2.2.2.1]at ha;cases ha⟩) (fun _=>⟨(zaa EB).2.2.2.2.2,_,_,_,_,_,_,_,rfl,fun h=>by cases h⟩) f9 (fun h=>by obtain⟨z,e,hz,_⟩:=La h;exact⟨z,e,hz,fun ha=>by rw [(zaa EB).1]at ha;cases ha⟩) (fun _=>⟨(zaa EB).2.1,(zaa EB).2.2.1,(zaa EB).2.2.2.1,gr,cr,rfl,(zaa HW).2.2.2⟩) (fun _=>⟨(zaa EB).1,gr,cr,rfl,rfl⟩) Da Fb (fun h=>⟨(zaa EB).1,zaa mc h⟩)
      ·have g0:=zai hi ho 0
       obtain rfl:=Option.some.inj ho
       have e0:=f0 (g0 (by kernel_rfl))
       subst e0
       go_simp
       exact fun _ k_=>k_ b0 b1 b2 b3 b4 b5 b6 b7 b8 b9 Ma Fa Za Xa true Ib Gb _ Ya Na ca Ua Va da aa Ra Qa Ta ia Pa _ Sa rfl rfl h0 h1 h2 h3 f0 f1 f2 f3 f4 f5 f6 f7 f8 f9 La ua Ka (fun _=>rfl) Fb pa
      ·have cf:=zai hi ho 14
       obtain rfl:=Option.some.inj ho
       have Nf:=Da (cf (by kernel_rfl))
       subst Nf
       go_simp
       exact fun _ k_=>k_ b0 b1 b2 b3 b4 b5 b6 b7 b8 b9 Ma Fa Za Xa Wa true Gb ba Ya Na ca Ua Va da aa Ra Qa Ta ia Pa _ _ rfl rfl h0 h1 h2 h3 f0 f1 f2 f3 f4 f5 f6 f7 f8 f9 La ua Ka Da (fun _=>rfl) pa
      ·have Af:=zai hi ho 15
       have Ce:=zai hi ho 11
       obtain rfl:=Option.some.inj ho
       have ta:Fa=true:=Ce (by kernel_rfl)
       have ef:=Fb (Af (by kernel_rfl))
       obtain⟨e1,e2,e3,gq,cq,ex,Aa⟩:=ua ta
       subst ef ex
       obtain⟨_,c4,t4⟩:=h2.cell 4 (by decide)
       have sa:=h0.store fa Hc ga Qc 4 (.slice (some ⟨gq,0,none⟩) (ks.length+1) cq) ⟨_,_,_,rfl⟩
       have hf:=zaq w bx (Ja+4) (.slice (some ⟨gq,0,none⟩) (ks.length+1) cq)
       have qa:Frm w3 _ (bx::g::Fk)∧∀j,j≠Ja+4->World.cell? _ ⟨bx,j,none⟩=w3.cell? ⟨bx,j,none⟩:=⟨h1.1.trans (hf.mono (by simp)),fun j hj=>(h2.put_other j hj (.slice (some ⟨gq,0,none⟩) (ks.length+1) cq)).trans (h1.2 j hj)⟩
       have na:=h2.set (Ja+4) (.slice (some ⟨gq,0,none⟩) (ks.length+1) cq)
       have mc:=hide (h2.put4 (.slice (some ⟨gq,0,none⟩) (ks.length+1) cq))
       have ja:=Aa.frm hf (fun q hq=>by simp at hq;exact .inr hq)
       have nm:∀q∈[bx],q<w3.heap.size:=fun q hq=>by simp at hq;omega
       have Dd:=hide hf
       have EB:=hide (And.intro ta (And.intro e1 (And.intro e2 e3)))
       have HW:=hide (And.intro sa (And.intro qa (And.intro na ja)))
       clear ta e1 e2 e3 sa qa na ja hf Aa
       clear ua
       go_simp
       exact fun _ k_=>k_ b0 b1 b2 b3 b4 b5 b6 b7 b8 b9 Ma Fa Za Xa Wa Ib true ba Ya Na ca Ua Va da aa Ra Qa Ta _ Pa Oa _ rfl rfl ((zaa HW).1) ((zaa HW).2.1) ((zaa HW).2.2.1) (fun ha=>by rw [(zaa EB).1]at ha;cases ha) f0 f1 f2 f3 f4 f5 f6 (fun h=>by obtain⟨p,m,e,hm,hp,t⟩:=f7 h;exact⟨p,m,e,hm,hp,fun ha=>(t ha).frm (zaa Dd) (fun q hq hs=>by have e9:q=p:=(by simpa [FB,Value.ownBlock,eq_comm]using hq);have:=nm q hs;omega)⟩) (fun h=>by obtain⟨e0,Eb,Db,za,Cb,wa,Ab,Bb,e,t⟩:=f8 h;exact⟨e0,Eb,Db,za,Cb,wa,Ab,Bb,e,fun ha=>(t ha).frm (zaa Dd) nm⟩) f9 (fun h=>by obtain⟨z,e,hz,_⟩:=La h;exact⟨z,e,hz,fun ha=>by rw [(zaa EB).1]at ha;cases ha⟩) (fun _=>⟨(zaa EB).2.1,(zaa EB).2.2.1,(zaa EB).2.2.2,gq,cq,rfl,(zaa HW).2.2.2⟩) Ka Da (fun _=>rfl) (fun _=>⟨(zaa EB).1,zaa mc⟩)
     case dn=>
      intro L a w4 hI zd
      have db:=zcm (L:=L) (by refine hI _ ?_;intro b0 b1 b2 b3 b4 b5 b6 b7 b8 b9 Ma Fa Za Xa Wa Ib Gb ba Ya Na ca Ua Va da aa Ra Qa Ta ia Pa Oa Sa eL eA h0 h1 h2 h3 f0 f1 f2 f3 f4 f5 f6 f7 f8 f9 La ua Ka Da Fb pa;subst eL;rfl) (by kernel_rfl) zd 17
      refine hI _ ?_
      clear hI
      intro b0 b1 b2 b3 b4 b5 b6 b7 b8 b9 Ma Fa Za Xa Wa Ib Gb ba Ya Na ca Ua Va da aa Ra Qa Ta ia Pa Oa Sa eL eA h0 h1 h2 h3 f0 f1 f2 f3 f4 f5 f6 f7 f8 f9 La ua Ka Da Fb pa
      subst eL eA
      have tA:Fa=true:=db 11 (by omega) (by decide)
      have tS:Gb=true:=db 16 (by omega) (by decide)
      obtain⟨_,_,_,gq,cq,ex,y,Fq,q1,q2,q3,q4,q5⟩:=ua tA
      have hc:=(pa tS).2
      rw [ex]at hc
      have HE:=hide (And.intro h0 ((zaa cb).kids h1.1 h1.2 hc h2 q1 (Nat.le_trans (zqv ks y q3) (by omega)) (fun q hq=>⟨(q4 q hq).1,(q4 q hq).2.2.1⟩)))
      clear h0 h1 h2 h3 db f0 f1 f2 f3 f4 f5 f6 f7 f8 f9 La ua Ka Da Fb pa tA tS hc q1 q2 q3 q4 q5
      go_wp2_with fail
      go_meet
      exact zaa HE
    by_cases k5:ks=5
    ·subst k5
     have HX:=hide ((zaa oa).rx)
     clear Ba oa
     go_wp2_with fail
     go_loopw [5] (fun i wr=>∃j:Nat,j<=25∧i=.int .i64 j∧BS w0 wst g code l b wr∧RXn wst.heap.size b j wr) (fun i _=>25-(intOf i).toNat)
     case atStart=>exact⟨0,by decide,rfl,zaa Ia,zaa HX⟩
     case round=>
      clear Ia HX
      obtain⟨j,hj,rfl,ma,tc⟩:=hrel
      by_cases hj5:j<25
      ·have lc:(j:Int)<25:=by omega
       have kc:=Lib.run_convert_bytes_const (P:=Tryz.prog) wr 22 5 #[.int .u8 112] 1 1 Tryz.underlying22 Tryz.underlying5
       obtain⟨Nc,⟨kd,a1,n1,c1,a2,n2,c2,a3,n3,c3,a4,n4,c4,ob⟩,Ud,hC,hG⟩:=id ma
       have ld:Below wr.heap.size wr (wr.alloc (.cells #[.int .u8 112] 5 (1,2))):=(Below.refl _ _).alloc (Nat.le_refl _) _
       have hA:Below wr.heap.size wr ((wr.alloc (.cells #[.int .u8 112] 5 (1,2))).alloc (.cells #[.int .i64 kd,.slice a1 n1 c1,.slice a2 n2 c2,.slice a3 n3 c3,.slice a4 n4 c4] 29)):=zal ld ((Below.refl _ _).alloc (Nat.le_refl _) _)
       obtain⟨z0,z1,z2,z3,z4⟩:=(ob.frm (Frm.ofBelow ld []) (by simp)).cells
       have uc:=ob.frm (Frm.ofBelow hA []) (by simp)
       obtain⟨y0,y1,y2,y3,y4⟩:=uc.cells
       have g0:=uc.frozen 0
       have g1:=uc.frozen 1
       have g2:=uc.frozen 2
       have g3:=uc.frozen 3
       have g4:=uc.frozen 4
       have ae:=ma.frm (Frm.ofBelow hA []) (fun q hq=>by cases hq) ga (by simp) (hC.keepAll hA)
       have HE:=hide (fun u1 u4 (h1:∃a n c,u1=.slice a n c) (h4:∃a n c,u4=.slice a n c)=>BS.put5 ae ga Qc u1 u4 h1 h4)
       have ce:=ob.lt
       have HX:=hide (RXn.wrap tc ob hA (r:=wr.heap.size+1) (by have:=Loc.made (wr.alloc (.cells #[.int .u8 112] 5 (1,2))) #[.int .i64 kd,.slice a1 n1 c1,.slice a2 n2 c2,.slice a3 n3 c3,.slice a4 n4 c4] 29;simpa using this) (((zoh wr 112 (by decide) (by decide)).keep ((Below.refl _ _).alloc (Nat.le_refl _) _)).bl (Frm.refl _ []) (by simp) _ (fun q hq=>by simp [FB,Value.ownBlock]at hq;rw [zci];omega)) rfl (by omega))
       simp only [Nat.zero_add]at y0 y1 y2 y3 y4 z0 z1 z2 z3 z4
       clear ce tc ma Nc ob hC hG ld hA uc ae
       go_wp2_with fail
       go_roundw
       case rel=>exact⟨j+1,by omega,by go_num,zaa HE _ _ ⟨_,_,_,rfl⟩ ⟨_,_,_,rfl⟩,zaa HX⟩
       case measure=>simp [intOf];omega
      ·have lc:¬ (j:Int)<25:=by omega
       have HE:=hide (And.intro ma (show RX wst.heap.size b wr from ⟨j,hj,tc⟩))
       clear ma tc
       go_wp2_with fail
       go_meet
       exact zaa HE
    obtain rfl:ks=6:=by omega
    clear k0 k1 k2 k3 k4 k5
    obtain⟨dd,_,_,_,_,zc,_,ac,-,la⟩:=(zaa oa).parts
    obtain⟨xa,ya,ea,_,_⟩:=Elems.shape (OwKidsM.rd la.r4)
    have Wc:zc.length=t.kids.length:=by injection ea with _ e _;exact e.symm
    have ra:=(zaa Ba).1.cells.2.2.2.2
    have qb:OwKidsM (dd+1) w5 (.slice x4 t.kids.length y4) zc ac:=la.r4
    rw [<-Wc]at ra qb
    have rb:=OwElems.ltM la.r4 (fun _ _ _ hr=>OwNodeM.lt hr)
    have Zd:=hide (show BS w0 wst g code l b w5∧Bk w5 bx Ja∧∃ka kc ks Fk,ks.length<=3+0∧szK (dd+1) ks<=szK (dd+1) zc+101*0∧w5.cell? ⟨bx,Ja+4,none⟩=some (.slice ka ks.length kc)∧OwKidsM (dd+1) w5 (.slice ka ks.length kc) ks Fk∧Fk.Nodup∧∀q∈Fk,wst.heap.size<q∧q≠bx∧q≠b∧(q∈ac∨w5.heap.size<=q) from ⟨zaa Ia,(zaa Ba).1.bk,_,_,zc,ac,by omega,by omega,ra,qb,(List.nodup_append.1 la.nd).2.1,fun q hq=>⟨(la.far q (by simp [hq])).1,(la.far q (by simp [hq])).2.2.1,(la.far q (by simp [hq])).2.1,.inl hq⟩⟩)
    have cb:=hide la
    clear la ea Wc ra qb oa
    go_wp2_with fail
    go_loopw [6] (fun i wr=>∃j:Nat,j<=120∧i=.int .i64 j∧BS w0 wst g code l b wr∧Bk wr bx Ja∧(Frm w5 wr (bx::g::ac)∧∀j',j'≠Ja+4->wr.cell? ⟨bx,j',none⟩=w5.cell? ⟨bx,j',none⟩)∧∃ka kc ks Fk,ks.length<=3+j∧szK (dd+1) ks<=szK (dd+1) zc+101*j∧wr.cell? ⟨bx,Ja+4,none⟩=some (.slice ka ks.length kc)∧OwKidsM (dd+1) wr (.slice ka ks.length kc) ks Fk∧Fk.Nodup∧∀q∈Fk,wst.heap.size<q∧q≠bx∧q≠b∧(q∈ac∨w5.heap.size<=q)) (fun i _=>120-(intOf i).toNat)
    case atStart=>exact⟨0,by decide,rfl,(zaa Zd).1,(zaa Zd).2.1,⟨Frm.refl _ _,fun _ _=>rfl⟩,(zaa Zd).2.2⟩
    case round=>
     have Hc:=(zaa Ba).2.2.2.2.2.1
     have fa:=(zaa Ba).2.2.2.2.2.2
     clear Zd
     obtain⟨j,hj,rfl,ma,Kb,bc,ka,kc,ks,Fk,je,yf,ra,qb,ec,Rc⟩:=hrel
     by_cases hj5:j<120
     ·have lc:(j:Int)<120:=by omega
      obtain⟨w3,md⟩:∃w3,w3=wr:=⟨_,rfl⟩
      subst md
      have Ne:=Kb.lt
      have Kf:=ma.2.1.lt
      have jb:ks.length<=1000:=by omega
      have rb:=OwElems.ltM qb (fun _ _ _ hr=>OwNodeM.lt hr)
      have sb:∀q∈Fk,wst.heap.size<q∧q≠bx∧q≠b∧q<w3.heap.size:=fun q hq=>⟨(Rc q hq).1,(Rc q hq).2.1,(Rc q hq).2.2.1,rb q hq⟩
      have Re:Bk w3.drew bx Ja:=Kb
      have He:w3.drew.cell? ⟨bx,Ja+4,none⟩=some (.slice ka ks.length kc):=ra
      have ic:OwKidsM (dd+1) w3.drew (.slice ka ks.length kc) ks Fk:=OwKidsM.frm qb (Frm.ofBelow ((Below.refl _ _).drew) []) (by simp)
      have cc:BS w0 wst g code l b w3.drew:=ma.frm (Frm.ofBelow ((Below.refl _ _).drew) []) (fun q hq=>by cases hq) ga (by simp) (ma.2.2.2.1.keepAll ((Below.refl _ _).drew))
      have De:Frm w3 w3.drew (bx::g::Fk)∧∀j,j≠Ja+4->w3.drew.cell? ⟨bx,j,none⟩=w3.cell? ⟨bx,j,none⟩:=⟨Frm.ofBelow ((Below.refl _ _).drew) _,fun _ _=>rfl⟩
      clear Kb ra ma qb rb
      go_wp2_with fail
      refine zea (by kernel_rfl) (Lb11 w0 wst w3 g b bx Ja code l ka kc dd ks Fk (undef) (.pointer (some ⟨wst.heap.size,0,none⟩)) (.pointer (some ⟨b,0,none⟩)) (undef) (.int .i64 (j:Int)) (.pointer (some ⟨g,0,none⟩)) (.agg #[.int .i64 k,.slice p1 n1 c1,.slice p2 n2 c2,.slice p3 n3 c3,.slice p4 n4 c4]) (.pointer (some ⟨g,0,none⟩)) (.bool true) (.bool false) (undef) (u13) (u14) (u15) (u16) (u17) (u18) (u19) (u20) (u21) (.bool false) (u23) (u24) (u25) (u26) (u27) (u28) (u29) (u30) (u31) (u32) (u33) (u34) (.pointer (some ⟨g,0,none⟩)) (.int .i64 6) (.int .i64 (j:Int)) (.bool true) (u39) (u40) (.bool false) (.bool false) (undef) (undef) (undef) (undef) (undef) (undef) (.bool false) (.bool false) (undef) (undef) (undef) (undef) (undef) (undef) (undef) (undef) (undef) (.bool false) (.bool false) (undef) (undef) (undef) (undef) (undef) (undef) (undef) (undef) (undef) (undef) (undef) (undef) (.bool false) (.bool false) (undef) (undef) (undef) (undef) (undef) (undef) (undef) (undef) (undef) (undef) (undef) (undef) (.bool false) (.bool false) (undef) (undef) (undef) (undef) (undef) (undef) (undef) (undef) (undef) (undef) (undef) (undef) (undef) (undef) (undef) (.bool false) (.bool false) (undef) (undef) (undef) (undef) (undef) (undef) (undef) (undef) (undef) (undef)) ?sz ?h0 ?step ?dn
      case sz=>
       intro L a w hI
       refine hI _ ?_
       intro b0 b1 b2 b3 b4 b5 b6 b7 b8 b9 Ma Fa Za Xa Wa kb Wb Rb fb Tb Zb Pb Vb Ub pb Sb Xb Yb eL eA h0 h1 h2 h3 f0 f1 f2 f3 f4 f5 f6 f7 f8 f9 La Ka Nb Da
       subst eL
       rfl
      case h0=>
       exact fun _ k_=>k_ false false false false false false false false false false false false false false false _ _ _ _ _ _ _ _ _ _ _ _ _ rfl rfl cc De Re (fun _=>⟨He,ic⟩) (fun h=>by cases h) (fun h=>by cases h) (fun h=>by cases h) (fun h=>by cases h) (fun h=>by cases h) (fun h=>by cases h) (fun h=>by cases h) (fun h=>by cases h) (fun h=>by cases h) (fun h=>by cases h) (fun h=>by cases h) (fun h=>by cases h) (fun h=>by cases h) (fun h=>by cases h)
      case step=>
       intro L a w i o hI hi ho
       refine hI _ ?_
       clear hI
       intro b0 b1 b2 b3 b4 b5 b6 b7 b8 b9 Ma Fa Za Xa Wa kb Wb Rb fb Tb Zb Pb Vb Ub pb Sb Xb Yb eL eA h0 h1 h2 h3 f0 f1 f2 f3 f4 f5 f6 f7 f8 f9 La Ka Nb Da
       subst eL eA
       rcases ztP (zft hi)with rfl | rfl | rfl | rfl | rfl | rfl | rfl | rfl | rfl | rfl | rfl | rfl | rfl | rfl | rfl
       ·obtain rfl:=Option.some.inj ho
        go_simp
        exact fun _ k_=>k_ true b1 b2 b3 b4 b5 b6 b7 b8 b9 Ma Fa Za Xa Wa _ Wb Rb fb Tb Zb Pb Vb Ub pb Sb Xb Yb rfl rfl h0 h1 h2 h3 (fun _=>rfl) f1 f2 f3 f4 f5 f6 f7 f8 f9 La Ka Nb Da
       ·have g0:=zai hi ho 0
        obtain rfl:=Option.some.inj ho
        have e0:=f0 (g0 (by kernel_rfl))
        subst e0
        go_simp
        exact fun _ k_=>k_ b0 true b2 b3 b4 b5 b6 b7 b8 b9 Ma Fa Za Xa Wa _ _ Rb fb Tb Zb Pb Vb Ub pb Sb Xb Yb rfl rfl h0 h1 h2 h3 f0 (fun _=>rfl) f2 f3 f4 f5 f6 f7 f8 f9 La Ka Nb Da
       ·have g1:=zai hi ho 1
        obtain rfl:=Option.some.inj ho
        have e1:=f1 (g1 (by kernel_rfl))
        subst e1
        go_simp
        exact fun _ k_=>k_ b0 b1 true b3 b4 b5 b6 b7 b8 b9 Ma Fa Za Xa Wa kb _ _ fb Tb Zb Pb Vb Ub pb Sb Xb Yb rfl rfl h0 h1 h2 h3 f0 f1 (fun _=>rfl) f3 f4 f5 f6 f7 f8 f9 La Ka Nb Da
       ·have g2:=zai hi ho 2
        obtain rfl:=Option.some.inj ho
        have e2:=f2 (g2 (by kernel_rfl))
        subst e2
        have Ha:b3=false:=by simpa using zao rfl hi
        have ck:=(h3 (by cases hb:b9 with
         | false=>rfl
         | true=>have:=(f9 hb).1;rw [Ha]at this;cases this)).1
        clear Ha
        go_simp
        exact fun _ k_=>k_ b0 b1 b2 true b4 b5 b6 b7 b8 b9 Ma Fa Za Xa Wa kb Wb _ _ Tb Zb Pb Vb Ub pb Sb Xb Yb rfl rfl h0 h1 h2 h3 f0 f1 f2 (fun _=>rfl) f4 f5 f6 f7 f8 (fun h=>⟨rfl,(f9 h).2⟩) La Ka Nb Da
       ·have Ha:b4=false:=by simpa using zao rfl hi
        obtain rfl:=Option.some.inj ho
        have Xc:Below w.heap.size w (w.alloc (.cells #[.int .u8 98] 5)):=(Below.refl _ _).alloc (Nat.le_refl _) _
        have Hd:=Loc.made w #[.int .u8 98] 5
        have hf:=Frm.ofBelow Xc []
        have sa:=h0.frm hf (fun q hq=>by cases hq) ga (by simp) (h0.2.2.2.1.keepAll Xc)
        have Ca:bx∉([]:Xh):=by simp
        have qa:Frm w3 _ (bx::g::Fk)∧∀j,j≠Ja+4->World.cell? _ ⟨bx,j,none⟩=w3.cell? ⟨bx,j,none⟩:=⟨h1.1.trans (hf.mono (fun q hq=>by cases hq)),fun j hj=>(World.cell?_of_block (hf.block bx h2.lt Ca)).trans (h1.2 j hj)⟩
        have wb:∀q∈Fk,q∉([]:Xh):=fun _ _=>by simp
        have nm:∀q∈([]:Xh),q<w3.heap.size:=fun _ h=>by cases h
        have nA:∀q∈([]:Xh),q<=wst.heap.size∨q=bx:=fun _ h=>by cases h
        have nz:∀z,w3.heap.size<=z->Loc w z #[.int .i64 0,.slice none 0 0,.slice none 0 0,.slice none 0 0,.slice none 0 0] 29->z∉([]:Xh):=fun _ _ _=>by simp
        have np:∀p,w3.heap.size<=p->Loc w p #[.int .u8 98] 5->p∉([]:Xh):=fun _ _ _=>by simp
        have Uc:w3.heap.size<=w.heap.size:=h1.1.size
        have Yc:=hide Ha
        clear Ha
        go_simp
        exact fun _ k_=>k_ b0 b1 b2 b3 true b5 b6 b7 b8 b9 Ma Fa Za Xa Wa kb Wb Rb fb _ Zb Pb Vb Ub pb Sb Xb Yb rfl rfl sa qa (h2.frm hf Ca) (fun ha=>⟨(hf.cell4 h2 Ca).trans (h3 ha).1,OwKidsM.frm (h3 ha).2 hf wb⟩) f0 f1 f2 f3 (fun _=>⟨w.heap.size,rfl,Uc,fun _=>Hd⟩) (fun h=>by have:=(f5 h).1;rw [zaa Yc]at this;cases this) (fun h=>by obtain⟨e0,Eb,Db,za,Cb,wa,Ab,Bb,e,t⟩:=f6 h;exact⟨e0,Eb,Db,za,Cb,wa,Ab,Bb,e,fun ha=>(t ha).frm hf nm⟩) f7 (fun h=>by obtain⟨z,e,hz,t⟩:=f8 h;exact⟨z,e,hz,fun ha=>(t ha).frm hf (nz z hz (t ha))⟩) (fun h=>by obtain⟨e1,e2,e3,gq,cq,e,t⟩:=f9 h;exact⟨e1,e2,e3,gq,cq,e,t.frm hf nA⟩) La Ka Nb (fun h=>⟨(Da h).1,(hf.cell4 h2 Ca).trans (Da h).2⟩)
       ·have g4:=zai hi ho 4
        have Ha:b5=false:=by simpa using zao rfl hi
        obtain rfl:=Option.some.inj ho
        have eb:b4=true:=g4 (by kernel_rfl)
        obtain⟨p,ex,hp,oe⟩:=f4 eb
        have lp:=oe Ha
        subst ex
        obtain⟨w9,Le,hf,rf,na⟩:=zyb w p 1 1 #[.int .u8 98] lp
        have Bg:p≠g:=by have:=h1.1.size;omega
        have mf:RowM w9 0 (.slice (some ⟨p,0,none⟩) 1 1) [98]:=⟨by intro y hy;simp at hy;omega,.inr ⟨p,1,_,_,rfl,Nat.zero_le _,na,by intro j hj;simp;omega,by simp,by simp [maxLen],rfl,rfl⟩⟩
        have zf:=lp.lt
        have sa:=h0.frm hf (fun q hq=>by simp at hq;right;omega) ga (by simp;omega) (h0.2.2.2.1.keep (Frm.toGrown' hf) (by simp;omega) (fun q hq=>by cases hq;omega))
        have qa:Frm w3 w9 (bx::g::Fk)∧∀j,j≠Ja+4->w9.cell? ⟨bx,j,none⟩=w3.cell? ⟨bx,j,none⟩:=⟨zjp h1.1 hf (fun q hq=>by simp at hq;omega),fun j hj=>(World.cell?_of_block (hf.block bx h2.lt (by simp;omega))).trans (h1.2 j hj)⟩
        have Ca:bx∉[p]:=by simp;omega
        have wb:∀q∈Fk,q∉[p]:=fun q hq=>by have:=(sb q hq).2.2.2;simp;omega
        have nz:∀z,w3.heap.size<=z->Loc w z #[.int .i64 0,.slice none 0 0,.slice none 0 0,.slice none 0 0,.slice none 0 0] 29->z∉[p]:=fun z _ lz e=>by
         simp at e
         subst e
         unfold Loc at lz lp
         rw [lz]at lp
         injection lp with lp
         injection lp with _ h9
         revert h9
         decide
        have Yc:=hide Ha
        have EB:=hide eb
        clear Ha eb oe lp
        go_simp
        exact fun _ k_=>k_ b0 b1 b2 b3 b4 true b6 b7 b8 b9 Ma Fa Za Xa Wa kb Wb Rb fb _ _ Pb Vb Ub pb Sb Xb Yb rfl rfl sa qa (h2.frm hf Ca) (fun ha=>⟨(hf.cell4 h2 Ca).trans (h3 ha).1,OwKidsM.frm (h3 ha).2 hf wb⟩) f0 f1 f2 f3 (fun _=>⟨p,rfl,hp,fun h=>by cases h⟩) (fun _=>⟨zaa EB,p,rfl,hp,fun _=>mf⟩) (fun h=>by have:=(f6 h).1;rw [zaa Yc]at this;cases this) f7 (fun h=>by obtain⟨z,e,hz,t⟩:=f8 h;exact⟨z,e,hz,fun ha=>(t ha).frm hf (nz z hz (t ha))⟩) (fun h=>by have:=(f9 h).2.2.1;rw [zaa Yc]at this;cases this) La Ka Nb (fun h=>⟨(Da h).1,(hf.cell4 h2 Ca).trans (Da h).2⟩)
       ·have g5:=zai hi ho 5
        have Ha:b6=false:=by simpa using zao rfl hi
        obtain rfl:=Option.some.inj ho
        obtain⟨eb,p,ex,hp,tp⟩:=f5 (g5 (by kernel_rfl))
        have EB:=hide (And.intro (g5 (by kernel_rfl)) (And.intro eb (tp Ha)))
        clear eb Ha tp
        subst ex
        go_simp
        exact fun _ k_=>k_ b0 b1 b2 b3 b4 b5 true b7 b8 b9 Ma Fa Za Xa Wa kb Wb Rb fb Tb _ _ Vb Ub pb Sb Xb Yb rfl rfl h0 h1 h2 h3 f0 f1 f2 f3 f4 (fun _=>⟨(zaa EB).2.1,p,rfl,hp,fun h=>by cases h⟩) (fun _=>⟨(zaa EB).1,_,_,_,_,_,_,_,rfl,fun _=>zAD (zaa EB).2.2 (by simp) (fun q hq=>by have e9:q=p:=(by simpa [FB,Value.ownBlock,eq_comm]using hq);omega)⟩) f7 f8 f9 La Ka Nb Da
       ·have g3:=zai hi ho 3
        obtain rfl:=Option.some.inj ho
        have e3:=f3 (g3 (by kernel_rfl))
        subst e3
        go_simp
        exact fun _ k_=>k_ b0 b1 b2 b3 b4 b5 b6 true b8 b9 Ma Fa Za Xa Wa kb Wb Rb _ Tb Zb Pb _ Ub pb Sb Xb Yb rfl rfl h0 h1 h2 h3 f0 f1 f2 f3 f4 f5 f6 (fun _=>rfl) f8 f9 La Ka Nb Da
       ·have Ha:b8=false:=by simpa using zao rfl hi
        obtain rfl:=Option.some.inj ho
        have Xc:Below w.heap.size w (w.alloc (.cells #[.int .i64 0,.slice none 0 0,.slice none 0 0,.slice none 0 0,.slice none 0 0] 29)):=(Below.refl _ _).alloc (Nat.le_refl _) _
        have Hd:=Loc.made w #[.int .i64 0,.slice none 0 0,.slice none 0 0,.slice none 0 0,.slice none 0 0] 29
        have hf:=Frm.ofBelow Xc []
        have sa:=h0.frm hf (fun q hq=>by cases hq) ga (by simp) (h0.2.2.2.1.keepAll Xc)
        have Ca:bx∉([]:Xh):=by simp
        have qa:Frm w3 _ (bx::g::Fk)∧∀j,j≠Ja+4->World.cell? _ ⟨bx,j,none⟩=w3.cell? ⟨bx,j,none⟩:=⟨h1.1.trans (hf.mono (fun q hq=>by cases hq)),fun j hj=>(World.cell?_of_block (hf.block bx h2.lt Ca)).trans (h1.2 j hj)⟩
        have wb:∀q∈Fk,q∉([]:Xh):=fun _ _=>by simp
        have nm:∀q∈([]:Xh),q<w3.heap.size:=fun _ h=>by cases h
        have nA:∀q∈([]:Xh),q<=wst.heap.size∨q=bx:=fun _ h=>by cases h
        have nz:∀z,w3.heap.size<=z->Loc w z #[.int .i64 0,.slice none 0 0,.slice none 0 0,.slice none 0 0,.slice none 0 0] 29->z∉([]:Xh):=fun _ _ _=>by simp
        have np:∀p,w3.heap.size<=p->Loc w p #[.int .u8 98] 5->p∉([]:Xh):=fun _ _ _=>by simp
        have Uc:w3.heap.size<=w.heap.size:=h1.1.size
        have Yc:=hide Ha
        clear Ha
        go_simp
        exact fun _ k_=>k_ b0 b1 b2 b3 b4 b5 b6 b7 true b9 Ma Fa Za Xa Wa kb Wb Rb fb Tb Zb Pb Vb _ pb Sb Xb Yb rfl rfl sa qa (h2.frm hf Ca) (fun ha=>⟨(hf.cell4 h2 Ca).trans (h3 ha).1,OwKidsM.frm (h3 ha).2 hf wb⟩) f0 f1 f2 f3 (fun h=>by obtain⟨p,e,hp,t⟩:=f4 h;exact⟨p,e,hp,fun ha=>(t ha).frm hf (np p hp (t ha))⟩) (fun h=>by obtain⟨e0,p,e,hp,t⟩:=f5 h;exact⟨e0,p,e,hp,fun ha=>(t ha).frm hf (fun q hq hs=>by have e9:q=p:=(by simpa [FB,Value.ownBlock,eq_comm]using hq);have:=nm q hs;omega)⟩) (fun h=>by obtain⟨e0,Eb,Db,za,Cb,wa,Ab,Bb,e,t⟩:=f6 h;exact⟨e0,Eb,Db,za,Cb,wa,Ab,Bb,e,fun ha=>(t ha).frm hf nm⟩) f7 (fun _=>⟨w.heap.size,rfl,Uc,fun _=>Hd⟩) (fun h=>by have:=(f9 h).2.1;rw [zaa Yc]at this;cases this) La Ka Nb (fun h=>⟨(Da h).1,(hf.cell4 h2 Ca).trans (Da h).2⟩)
       ·have g3:=zai hi ho 3
        have g8:=zai hi ho 8
        have g5:=zai hi ho 5
        have Ha:b9=false:=by simpa using zao rfl hi
        obtain rfl:=Option.some.inj ho
        have t3:b3=true:=g3 (by kernel_rfl)
        have t8:b8=true:=g8 (by kernel_rfl)
        have t5:b5=true:=g5 (by kernel_rfl)
        have e1:=f3 t3
        obtain⟨z,ez,hz,Je⟩:=f8 t8
        have lz:=Je Ha
        have hr:=(h3 Ha).2
        subst e1 ez
        have Qd:=(fun q (hq:q∈Fk)=>(sb q hq).2.2.2)
        have Dc:=h1.1.size
        refine zpY (H:=wst.heap.size) (b:=b) (bx:=bx) (m:=w3.heap.size) (by rfl) (.tmp 44) (.tmp 49) (by rfl) ka kc (by rfl) hr ec z (by rfl) lz sb Dc (by have:=h0.2.2.1;omega) jb ?_
        intro gq cq w9 rc hf
        have hS:∀q∈FB (.slice ka ks.length kc),wst.heap.size<q∧q≠bx∧q≠b∧q∈Fk:=fun q hq=>by have hm:q∈Fk:=zuN hr q hq;exact⟨(sb q hm).1,(sb q hm).2.1,(sb q hm).2.2.1,hm⟩
        have gb:=Frm.toGrownV hf
        have sa:=h0.frm hf (fun q hq=>.inr (hS q hq).1) ga (fun e=>(hS b e).2.2.1 rfl) (h0.2.2.2.1.keep gb (fun e=>by have:=(hS g (by rw [FB,<-e];simp)).1;omega) (fun q hq=>by have:=(hS q (by rw [FB,hq];simp)).1;omega))
        have Ca:bx∉FB (.slice ka ks.length kc):=fun e=>(hS bx e).2.1 rfl
        have qa:Frm w3 w9 (bx::g::Fk)∧∀j,j≠Ja+4->(w9).cell? ⟨bx,j,none⟩=w3.cell? ⟨bx,j,none⟩:=⟨h1.1.trans (hf.mono (fun q hq=>by simp [(hS q hq).2.2.2])),fun j hj=>(World.cell?_of_block (hf.block bx h2.lt Ca)).trans (h1.2 j hj)⟩
        have nm:∀q∈FB (.slice ka ks.length kc),q<w3.heap.size:=fun q hq=>Qd q (hS q hq).2.2.2
        exact fun _ k_=>k_ b0 b1 b2 b3 b4 b5 b6 b7 b8 true Ma Fa Za Xa Wa kb Wb Rb _ Tb Zb Pb Vb _ _ Sb Xb Yb rfl rfl sa qa (h2.frm hf Ca) (fun ha=>by cases ha) f0 f1 f2 (fun _=>rfl) (fun h=>by obtain⟨p,e,hp,_⟩:=f4 h;exact⟨p,e,hp,fun ha=>by rw [t5]at ha;cases ha⟩) (fun h=>by obtain⟨e0,p,e,hp,t⟩:=f5 h;exact⟨e0,p,e,hp,fun ha=>(t ha).frm hf (fun q hq hs=>by have e9:q=p:=(by simpa [FB,Value.ownBlock,eq_comm]using hq);have:=nm q hs;omega)⟩) (fun h=>by obtain⟨e0,Eb,Db,za,Cb,wa,Ab,Bb,e,t⟩:=f6 h;exact⟨e0,Eb,Db,za,Cb,wa,Ab,Bb,e,fun ha=>(t ha).frm hf nm⟩) f7 (fun _=>⟨z,rfl,hz,fun ha=>by cases ha⟩) (fun _=>⟨t3,t8,t5,gq,cq,rfl,rc _⟩) (fun h=>by have:=(La h).1;rw [Ha]at this;cases this) Ka Nb (fun h=>by have:=(Da h).1;rw [Ha]at this;cases this)
       ·have g9:=zai hi ho 9
        have g7:=zai hi ho 7
        obtain rfl:=Option.some.inj ho
        have ta:b9=true:=g9 (by kernel_rfl)
        obtain⟨e1,e2,e3,gq,cq,ex,Aa⟩:=f9 ta
        have el:=f7 (g7 (by kernel_rfl))
        subst ex el
        have Tf:(ks.length:Int)<((ks.length+1:Nat):Int):=by omega
        have cd:(ks.length:Int)<(ks.length:Int)+1:=by omega
        have Md:(0:Int)<=(ks.length:Int):=by omega
        have EB:=hide (And.intro ta (And.intro e1 (And.intro e2 e3)))
        clear ta e1 e2 e3
        go_simp
        exact fun _ k_=>k_ b0 b1 b2 b3 b4 b5 b6 b7 b8 b9 true Fa Za Xa Wa kb Wb Rb fb Tb Zb Pb _ Ub _ _ Xb Yb rfl rfl h0 h1 h2 h3 f0 f1 f2 f3 f4 f5 f6 (fun _=>rfl) f8 (fun _=>⟨(zaa EB).2.1,(zaa EB).2.2.1,(zaa EB).2.2.2,gq,cq,rfl,Aa⟩) (fun _=>⟨(zaa EB).1,gq,cq,rfl,rfl⟩) Ka Nb Da
       ·have Ie:=zai hi ho 10
        have g6:=zai hi ho 6
        have Ha:Fa=false:=by simpa using zao rfl hi
        obtain rfl:=Option.some.inj ho
        obtain⟨ta,gq,cq,ex,ei⟩:=La (Ie (by kernel_rfl))
        have tn:b6=true:=g6 (by kernel_rfl)
        obtain⟨eM,Eb,Db,za,Cb,wa,Ab,Bb,en,Oc⟩:=f6 tn
        obtain⟨e1,e2,e3,gr,cr,Id,Aa⟩:=f9 ta
        have bd:=Id.symm.trans ex
        injection bd with y1 _ y3
        injection y1 with y1
        injection y1 with y1 _ _
        subst y1 y3
        clear Id
        have Oc:=Oc Ha
        rw [Ha]at Aa
        obtain⟨_,df,Wf⟩:=Aa.cell (ks.length*5) (by omega)
        obtain⟨_,Vf,Df⟩:=Aa.cell (ks.length*5+1) (by omega)
        obtain⟨_,jf,sf⟩:=Aa.cell (ks.length*5+2) (by omega)
        obtain⟨_,Gf,Uf⟩:=Aa.cell (ks.length*5+3) (by omega)
        obtain⟨_,Bf,Cf⟩:=Aa.cell (ks.length*5+4) (by omega)
        obtain⟨o1,o2,o3,o4,_⟩:=Aa.own
        have hf:Frm w ((((((w).setCell ⟨gr,ks.length*5,none⟩ (.int .i64 Eb)).setCell ⟨gr,ks.length*5+1,none⟩ (.slice Db za Cb)).setCell ⟨gr,ks.length*5+2,none⟩ (.slice wa Ab Bb)).setCell ⟨gr,ks.length*5+3,none⟩ (.slice none 0 0)).setCell ⟨gr,ks.length*5+4,none⟩ (.slice none 0 0)) [gr]:=((((zaq _ _ _ _).trans (zaq _ _ _ _)).trans (zaq _ _ _ _)).trans (zaq _ _ _ _)).trans (zaq _ _ _ _)
        have Dc:=h1.1.size
        have ja:=Aa.set5 Oc (by have:=h0.2.2.1;omega)
        have sa:=h0.frm hf (fun q hq=>by simp at hq;right;omega) ga (by simp;omega) (h0.2.2.2.1.keep (Frm.toGrown' hf) (by simp;omega) (fun q hq=>by cases hq;omega))
        have Ca:bx∉[gr]:=by simp;omega
        have qa:Frm w3 _ (bx::g::Fk)∧∀j,j≠Ja+4->World.cell? _ ⟨bx,j,none⟩=w3.cell? ⟨bx,j,none⟩:=⟨zjp h1.1 hf (fun q hq=>by simp at hq;subst hq;rcases o4 with h | h;exact .inl (by simp [h]);exact .inr h),fun j hj=>(World.cell?_of_block (hf.block bx h2.lt Ca)).trans (h1.2 j hj)⟩
        have na:=h2.frm hf Ca
        have mc:=hide (fun h=>(hf.cell4 h2 Ca).trans (Da h).2)
        have EB:=hide (And.intro ta (And.intro e1 (And.intro e2 (And.intro e3 (And.intro tn eM)))))
        have HW:=hide (And.intro sa (And.intro qa (And.intro na ja)))
        clear ta tn eM e1 e2 e3 sa qa na ja hf Aa Oc Ha
        subst ei en ex
        clear f9 f6
        go_simp
        exact fun _ k_=>k_ b0 b1 b2 b3 b4 b5 b6 b7 b8 b9 Ma true Za Xa Wa kb Wb Rb fb Tb Zb _ Vb Ub _ _ Xb Yb rfl rfl ((zaa HW).1) ((zaa HW).2.1) ((zaa HW).2.2.1) (fun ha=>by rw [(zaa EB).1]at ha;cases ha) f0 f1 f2 f3 (fun h=>by obtain⟨p,e,hp,_⟩:=f4 h;exact⟨p,e,hp,fun ha=>by rw [(zaa EB).2.2.2.1]at ha;cases ha⟩) (fun h=>by obtain⟨e0,p,e,hp,_⟩:=f5 h;exact⟨e0,p,e,hp,fun ha=>by rw [(zaa EB).2.2.2.2.1]at ha;cases ha⟩) (fun _=>⟨(zaa EB).2.2.2.2.2,_,_,_,_,_,_,_,rfl,fun h=>by cases h⟩) f7 (fun h=>by obtain⟨z,e,hz,_⟩:=f8 h;exact⟨z,e,hz,fun ha=>by rw [(zaa EB).1]at ha;cases ha⟩) (fun _=>⟨(zaa EB).2.1,(zaa EB).2.2.1,(zaa EB).2.2.2.1,gr,cr,rfl,(zaa HW).2.2.2⟩) (fun _=>⟨(zaa EB).1,gr,cr,rfl,rfl⟩) Ka Nb (fun h=>⟨(zaa EB).1,zaa mc h⟩)
       ·have g0:=zai hi ho 0
        obtain rfl:=Option.some.inj ho
        have e0:=f0 (g0 (by kernel_rfl))
        subst e0
        go_simp
        exact fun _ k_=>k_ b0 b1 b2 b3 b4 b5 b6 b7 b8 b9 Ma Fa true Xa Wa _ Wb Rb fb Tb Zb Pb Vb Ub pb Sb _ Yb rfl rfl h0 h1 h2 h3 f0 f1 f2 f3 f4 f5 f6 f7 f8 f9 La (fun _=>rfl) Nb Da
       ·have xd:=zai hi ho 12
        obtain rfl:=Option.some.inj ho
        have Rf:=Ka (xd (by kernel_rfl))
        subst Rf
        go_simp
        exact fun _ k_=>k_ b0 b1 b2 b3 b4 b5 b6 b7 b8 b9 Ma Fa Za true Wa kb Wb Rb fb Tb Zb Pb Vb Ub pb Sb _ _ rfl rfl h0 h1 h2 h3 f0 f1 f2 f3 f4 f5 f6 f7 f8 f9 La Ka (fun _=>rfl) Da
       ·have pf:=zai hi ho 13
        have g9:=zai hi ho 9
        obtain rfl:=Option.some.inj ho
        have ta:b9=true:=g9 (by kernel_rfl)
        have ef:=Nb (pf (by kernel_rfl))
        obtain⟨e1,e2,e3,gq,cq,ex,Aa⟩:=f9 ta
        subst ef ex
        obtain⟨_,c4,t4⟩:=h2.cell 4 (by decide)
        have sa:=h0.store fa Hc ga Qc 4 (.slice (some ⟨gq,0,none⟩) (ks.length+1) cq) ⟨_,_,_,rfl⟩
        have hf:=zaq w bx (Ja+4) (.slice (some ⟨gq,0,none⟩) (ks.length+1) cq)
        have qa:Frm w3 _ (bx::g::Fk)∧∀j,j≠Ja+4->World.cell? _ ⟨bx,j,none⟩=w3.cell? ⟨bx,j,none⟩:=⟨h1.1.trans (hf.mono (by simp)),fun j hj=>(h2.put_other j hj (.slice (some ⟨gq,0,none⟩) (ks.length+1) cq)).trans (h1.2 j hj)⟩
        have na:=h2.set (Ja+4) (.slice (some ⟨gq,0,none⟩) (ks.length+1) cq)
        have mc:=hide (h2.put4 (.slice (some ⟨gq,0,none⟩) (ks.length+1) cq))
        have ja:=Aa.frm hf (fun q hq=>by simp at hq;exact .inr hq)
        have nm:∀q∈[bx],q<w3.heap.size:=fun q hq=>by simp at hq;omega
        have Dd:=hide hf
        have EB:=hide (And.intro ta (And.intro e1 (And.intro e2 e3)))
        have HW:=hide (And.intro sa (And.intro qa (And.intro na ja)))
        clear ta e1 e2 e3 sa qa na ja hf Aa
        clear f9
        go_simp
        exact fun _ k_=>k_ b0 b1 b2 b3 b4 b5 b6 b7 b8 b9 Ma Fa Za Xa true kb Wb Rb fb Tb Zb Pb Vb Ub _ Sb Xb _ rfl rfl ((zaa HW).1) ((zaa HW).2.1) ((zaa HW).2.2.1) (fun ha=>by rw [(zaa EB).1]at ha;cases ha) f0 f1 f2 f3 (fun h=>by obtain⟨p,e,hp,_⟩:=f4 h;exact⟨p,e,hp,fun ha=>by rw [(zaa EB).2.2.2]at ha;cases ha⟩) (fun h=>by obtain⟨e0,p,e,hp,t⟩:=f5 h;exact⟨e0,p,e,hp,fun ha=>(t ha).frm (zaa Dd) (fun q hq hs=>by have e9:q=p:=(by simpa [FB,Value.ownBlock,eq_comm]using hq);have:=nm q hs;omega)⟩) (fun h=>by obtain⟨e0,Eb,Db,za,Cb,wa,Ab,Bb,e,t⟩:=f6 h;exact⟨e0,Eb,Db,za,Cb,wa,Ab,Bb,e,fun ha=>(t ha).frm (zaa Dd) nm⟩) f7 (fun h=>by obtain⟨z,e,hz,_⟩:=f8 h;exact⟨z,e,hz,fun ha=>by rw [(zaa EB).1]at ha;cases ha⟩) (fun _=>⟨(zaa EB).2.1,(zaa EB).2.2.1,(zaa EB).2.2.2,gq,cq,rfl,(zaa HW).2.2.2⟩) La Ka (fun _=>rfl) (fun _=>⟨(zaa EB).1,zaa mc⟩)
      case dn=>
       intro L a w4 hI zd
       have db:=zcm (L:=L) (by refine hI _ ?_;intro b0 b1 b2 b3 b4 b5 b6 b7 b8 b9 Ma Fa Za Xa Wa kb Wb Rb fb Tb Zb Pb Vb Ub pb Sb Xb Yb eL eA h0 h1 h2 h3 f0 f1 f2 f3 f4 f5 f6 f7 f8 f9 La Ka Nb Da;subst eL;rfl) (by kernel_rfl) zd 15
       refine hI _ ?_
       clear hI
       intro b0 b1 b2 b3 b4 b5 b6 b7 b8 b9 Ma Fa Za Xa Wa kb Wb Rb fb Tb Zb Pb Vb Ub pb Sb Xb Yb eL eA h0 h1 h2 h3 f0 f1 f2 f3 f4 f5 f6 f7 f8 f9 La Ka Nb Da
       subst eL eA
       have tA:b9=true:=db 9 (by omega) (by decide)
       have tS:Wa=true:=db 14 (by omega) (by decide)
       obtain⟨_,_,_,gq,cq,ex,y,Fq,q1,q2,q3,q4,q5⟩:=f9 tA
       have hc:=(Da tS).2
       rw [ex]at hc
       have Dg:=zqv ks y q3
       have tf:=h1.1.size
       have Fg:=bc.1.size
       have HX:=hide (show BS w0 wst g code l b w4∧Bk w4 bx Ja∧(Frm w5 w4 (bx::g::ac)∧∀j',j'≠Ja+4->w4.cell? ⟨bx,j',none⟩=w5.cell? ⟨bx,j',none⟩)∧∃ka kc ks Fk,ks.length<=3+(j+1)∧szK (dd+1) ks<=szK (dd+1) zc+101*(j+1)∧w4.cell? ⟨bx,Ja+4,none⟩=some (.slice ka ks.length kc)∧OwKidsM (dd+1) w4 (.slice ka ks.length kc) ks Fk∧Fk.Nodup∧∀q∈Fk,wst.heap.size<q∧q≠bx∧q≠b∧(q∈ac∨w5.heap.size<=q) from ⟨h0,h2,⟨zjp bc.1 h1.1 (fun q hq=>by
         simp only [List.mem_cons]at hq ⊢
         rcases hq with e | e | hq
         ·exact .inl (.inl e)
         ·exact .inl (.inr (.inl e))
         ·exact (Rc q hq).2.2.2.imp (fun e=>.inr (.inr e)) id),fun j' ie=>(h1.2 j' ie).trans (bc.2 j' ie)⟩,_,cq,ks++[y],Fq,by simp;omega,by omega,by rw [List.length_append];exact hc,by rw [List.length_append];exact q1,q2,fun q hq=>⟨(q4 q hq).1,(q4 q hq).2.1,(q4 q hq).2.2.1,by
          rcases (q4 q hq).2.2.2 with e | e
          ·exact (Rc q e).2.2.2
          ·exact .inr (by omega)⟩⟩)
       clear h0 h1 h2 h3 db f0 f1 f2 f3 f4 f5 f6 f7 f8 f9 La Ka Nb Da tA tS hc q1 q2 q3 q4 q5 bc Rc
       go_wp2_with fail
       go_roundw
       case rel=>exact⟨j+1,by omega,by go_num,zaa HX⟩
       case measure=>simp [intOf];omega
     ·have lc:¬ (j:Int)<120:=by omega
      have HE:=hide (And.intro ma ((zaa cb).kids bc.1 bc.2 ra Kb qb (by omega) (fun q hq=>⟨(Rc q hq).1,(Rc q hq).2.2.1⟩)))
      clear ma Kb ra qb Rc bc
      go_wp2_with fail
      go_meet
      exact zaa HE
   case rest=>
   obtain⟨ma,tc⟩:=hcut
   obtain⟨Nc,⟨kd,a1,n1,c1,a2,n2,c2,a3,n3,c3,a4,n4,c4,ob⟩,Ud,hC,hG⟩:=ma
   have Ec:=Nc.put5 (.int .i64 kd) (.slice a1 n1 c1) (.slice a2 n2 c2) (.slice a3 n3 c3) (.slice a4 n4 c4)
   have Tc:=zpF wc wst.heap.size (.int .i64 kd) (.slice a1 n1 c1) (.slice a2 n2 c2) (.slice a3 n3 c3) (.slice a4 n4 c4)
   have Cc:=hC.set' (Frm.toGrown' Tc) (by omega) Qc
   have gb:=zcU hG (Frm.toGrown' Tc) (fun q hq=>by cases hq;exact Nat.le_refl _)
   obtain⟨_,_,_,_,_,_,_,_,_,_,_,_,_,ib⟩:=id Nc
   obtain⟨y0,y1,y2,y3,y4⟩:=ib.cells
   have g0:=ib.frozen 0
   have g1:=ib.frozen 1
   have g2:=ib.frozen 2
   have g3:=ib.frozen 3
   have g4:=ib.frozen 4
   obtain⟨z0,z1,z2,z3,z4⟩:=ob.cells
   simp only [Nat.zero_add]at y0 y1 y2 y3 y4 z0 z1 z2 z3 z4
   have Lc:=((RX.rd (tc) ob).frm Tc (by simp [zci])).less (S':=List.range wst.heap.size) (fun q hq=>by rw [zci];have:=List.mem_range.1 hq;omega)
   have HE:=hide (And.intro Ec.cells (And.intro Cc (And.intro gb Lc)))
   clear Lc Ec Tc Cc gb Nc ib ob hC hG tc
   go_wp2_with fail
   obtain⟨⟨r0,r1,r2,r3,r4⟩,Cc,gb,Lc⟩:=zaa HE
   simp only [Nat.zero_add]at r0 r1 r2 r3 r4
   exact bodyPost_ret (v:=.agg #[.int .i64 kd,.slice a1 n1 c1,.slice a2 n2 c2,.slice a3 n3 c3,.slice a4 n4 c4]) (by simp [results,Tryz.results35,go_sem,r0,r1,r2,r3,r4]) rfl ⟨_,_,_,_,_,_,_,_,_,_,_,_,_,rfl,Lc,Cc,gb⟩
end Go.Proofs.YtgjolijncmkkhaaGreatDoor
