/- Own texts joined: L5fo, QGr, OpsS, SFo, L5os, FoldM, PjM, PjK, PjS. -/
import Derived.Test.YtlpnibbdmkeklaaGreatDoorJa
import Derived.Test.YtlpnibbdmkeklaaGreatDoorJb
import Derived.Test.YtlpnibbdmkeklaaGreatDoorJc
import Derived.Test.YtlpnibbdmkeklaaGreatDoorJd
import Derived.Test.YtlpnibbdmkeklaaGreatDoorJe
import Derived.Test.YtlpnibbdmkeklaaGreatDoorJf
import Derived.BigQuiet
namespace Go.Proofs.YtlpnibbdmkeklaaGreatDoor
open Go.RowKit
set_option linter.unusedVariables false
set_option maxRecDepth 100000
theorem zhO (w:World):Calls Tryz.prog 75 #[] w fun e w'=>e=.returned (.agg #[.int .i64 0,.int .i64 0])∧Below w.heap.size w w':=by
 have hA:=(Below.refl w.heap.size w).alloc (Nat.le_refl _) (.cells #[.int .i64 0,.int .i64 0] 81)
 have e0:=(Loc.made w #[.int .i64 0,.int .i64 0] 81).cell 0
 have e1:=(Loc.made w #[.int .i64 0,.int .i64 0] 81).cell 1
 go_enter Tryz.func75,Tryz.ntmps75
 go_wp2
 exact bodyPost_ret (v:=.agg #[.int .i64 0,.int .i64 0]) (by simp [results,Tryz.results75,go_sem,e0,e1]) rfl ⟨rfl,hA⟩
theorem zlw (w:World):Calls Tryz.prog 76 #[] w fun e w'=>e=.returned (.agg #[.int .i64 0,.int .i64 1])∧Below w.heap.size w w':=by
 have hA:=(Below.refl w.heap.size w).alloc (Nat.le_refl _) (.cells #[.int .i64 0,.int .i64 1] 81)
 have e0:=(Loc.made w #[.int .i64 0,.int .i64 1] 81).cell 0
 have e1:=(Loc.made w #[.int .i64 0,.int .i64 1] 81).cell 1
 go_enter Tryz.func76,Tryz.ntmps76
 go_wp2
 exact bodyPost_ret (v:=.agg #[.int .i64 0,.int .i64 1]) (by simp [results,Tryz.results76,go_sem,e0,e1]) rfl ⟨rfl,hA⟩
theorem zjU (w:World) (p:Nat) (h:Loc w p #[.int .u8 116,.int .u8 114,.int .u8 97,.int .u8 115,.int .u8 104] 5):∃w',(convert 22 22 (.slice (some ⟨p,0,none⟩) 5 5)).run Tryz.prog w=.ok (.slice (some ⟨p,0,none⟩) 5 5) w'∧Frm w w' [p]∧w'.heap.size=w.heap.size∧RowM w' 0 (.slice (some ⟨p,0,none⟩) 5 5) zhM:=by
 have hsh:w.shape? p=some (5,5):=by unfold World.shape?;unfold Loc at h;rw [h];rfl
 refine⟨w.freeze ⟨p,5,none⟩ 1,?_,?_,?_,?_⟩
 ·simp [convert,run_underlying Tryz.underlying22,run_underlying Tryz.underlying5,markStringish,hsh]
 ·unfold World.freeze
  rw [if_neg (by decide)]
  refine⟨rfl,rfl,rfl,by simp,fun k hk hn=> ?_⟩
  simp only [List.mem_singleton]at hn
  show (w.heap.modify p _)[k]? = w.heap[k]?
  rw [Array.getElem?_modify,if_neg (fun e=>hn e.symm)]
 ·unfold World.freeze
  rw [if_neg (by decide)]
  simp
 ·refine⟨fun x hx=>by simp [zhM]at hx;omega,.inr ⟨p,5,#[.int .u8 116,.int .u8 114,.int .u8 97,.int .u8 115,.int .u8 104],(5,6),rfl,Nat.zero_le _,?_,fun j hj=>by simp;omega,by decide,by decide,rfl,rfl⟩⟩
  unfold World.freeze
  rw [if_neg (by decide)]
  show (w.heap.modify p _)[p]? = _
  unfold Loc at h
  rw [Array.getElem?_modify,if_pos rfl,h]
  rfl
theorem zrD (l:List PlV) (o:OpV):(doV l o).length≤l.length+1:=by
 unfold doV
 split
 ·split<;>simp
 ·split
  ·simp
  ·split
   ·simp
   ·split
    ·split<;>simp
    ·split
     ·split<;>simp
     ·split<;>simp
theorem zkK {l:List PlV} {k:Nat} {p:PlV} (h:∀q∈l,q.attrs.length≤100) (hp:p.attrs.length≤100):∀q∈l.set k p,q.attrs.length≤100:=fun q hq=>(List.mem_or_eq_of_mem_set hq).elim (h q) (fun e=>e ▸ hp)
theorem zrY {l:List PlV} (h:∀p∈l,p.attrs.length≤100) (o:OpV):∀p∈doV l o,p.attrs.length≤100:=by
 unfold doV
 split
 ·split
  ·intro p hp
   rcases List.mem_append.1 hp with hp | hp
   ·exact h p hp
   ·simp at hp;subst hp;simp [newP]
  ·exact h
 ·split
  ·exact h
  ·split
   ·exact h
   ·rename_i p hk
    have hp:=h p (List.mem_of_getElem? hk)
    split
    ·split
     ·exact zkK h hp
     ·exact h
    ·split
     ·split
      ·exact zkK h hp
      ·exact h
     ·split
      ·refine zkK h ?_
       unfold zbp setAttrs
       split
       ·simp only;omega
       ·exact hp
      ·exact h
theorem AfS.keep {w0 w3 w w':World} {sb:Nat} {a:Option Addr} {c:Nat} {m:List PlV} {y:PlV} {F:List Nat} {gq cq:Nat} (h:AfS w0 w3 w sb a c m y F gq cq) (hb:Below w.heap.size w w'):AfS w0 w3 w' sb a c m y F gq cq:=by
 obtain⟨F',h1,h2,h3,h4,h5,h6,h7⟩:=h
 exact⟨F',h1.all hb,h2.frm (Frm.ofBelow hb []) (fun _ _=>by simp),h3,fun q hq=>⟨(h4 q hq).1,Nat.lt_of_lt_of_le (h4 q hq).2.1 hb.size,(h4 q hq).2.2⟩,h5,zad h6 hb,h7⟩
theorem SdE.keep {w0 w3 w w':World} {sb:Nat} {m:List PlV} {F:List Nat} (h:SdE w0 w3 sb m F w) (hb:Below w.heap.size w w'):SdE w0 w3 sb m F w':=by
 obtain⟨a,c,F',h1,h2⟩:=h
 exact⟨a,c,F',h1.keep hb,h2⟩
def Fo2 (w0 w5:World) (sb fb:Nat) (y:PlV) {n:Nat} (t:Nd (Tr n)) (a1 a3:Option Addr) (c1 c3:Nat) (s0 s1 s3 s4 s6 s18 s19 s20 s21 s22 s23 s24 s25 s26 s27 s28 s29 s30 s31 s32 s33 s34 s35 s36 s37 s38 s39 s40 s41:Value) (L:Array Bool) (a:Act) (w:World):Prop:=
 ∀C:Prop,(∀(b0 b1 b2 b3 b4 b5 b6 b7 b8 b9 b10 b11:Bool) (x7 x8 x9 x10 x11 x12 x13 x14 x15 x16 x17:Value),L = #[b0,b1,b2,b3,b4,b5,b6,b7,b8,b9,b10,b11]→a={ tmps:= #[s0,s1,.pointer (some ⟨fb,0,none⟩),s3,s4,.pointer (some ⟨sb,0,none⟩),s6,x7,x8,x9,x10,x11,x12,x13,x14,x15,x16,x17,s18,s19,s20,s21,s22,s23,s24,s25,s26,s27,s28,s29,s30,s31,s32,s33,s34,s35,s36,s37,s38,s39,s40,s41],defers:=[] }→Frm w5 w [sb]→(b9=false→StB w0 w sb none 0 [] [])→(b0=true→x7=.pointer (some ⟨sb,0,none⟩))→(b1=true→x8=.slice none 0 0)→(b2=true→x9=.agg #[.int .i64 0,.int .i64 0])→(b3=true→x10=.pointer (some ⟨fb,1,none⟩))→(b4=true→x11=.slice a1 t.name.length c1)→(b5=true→x12=.pointer (some ⟨fb,3,none⟩))→(b6=true→x13=.slice a3 t.attrs.length c3)→(b7=true→x14=.agg #[.int .i64 0,.int .i64 0,.int .i64 0,.int .i64 0,.slice none 0 0,.int .i64 0,.slice a1 t.name.length c1,.slice none 0 0,.slice a3 t.attrs.length c3])→(b8=true→∃z2,x15=.slice (some ⟨z2,0,none⟩) 1 1∧w5.heap.size≤z2∧(b9=false→Loc w z2 #[.int .i64 0,.int .i64 0,.int .i64 0,.int .i64 0,.slice none 0 0,.int .i64 0,.slice a1 t.name.length c1,.slice none 0 0,.slice a3 t.attrs.length c3] 117))→(b9=true→b1=true∧b8=true∧∃gq cq,x16=.slice (some ⟨gq,0,none⟩) 1 cq∧(b11=false→AfS w0 w5 w sb none 0 [] y [] gq cq))→(b10=true→x17=.pointer (some ⟨sb,0,none⟩))→(b11=true→b9=true∧SdE w0 w5 sb [y] [] w)→C)→C
theorem znS {i:Nat} (h:i<12):i=0∨i=1∨i=2∨i=3∨i=4∨i=5∨i=6∨i=7∨i=8∨i=9∨i=10∨i=11:=by omega
def Fo3 (w0 w5:World) (sb:Nat) (a_:Option Addr) (c_:Nat) (y:PlV) (F_:List Nat) (s0 s1 s2 s3 s4 s6 s7 s8 s9 s10 s11 s12 s13 s14 s15 s16 s17 s27 s28 s29 s30 s31 s32 s33 s34 s35 s36 s37 s38 s39 s40 s41:Value) (L:Array Bool) (a:Act) (w:World):Prop:=
 ∀C:Prop,(∀(b0 b1 b2 b3 b4 b5 b6 b7 b8 b9:Bool) (x18 x19 x20 x21 x22 x23 x24 x25 x26:Value),L = #[b0,b1,b2,b3,b4,b5,b6,b7,b8,b9]→a={ tmps:= #[s0,s1,s2,s3,s4,.pointer (some ⟨sb,0,none⟩),s6,s7,s8,s9,s10,s11,s12,s13,s14,s15,s16,s17,x18,x19,x20,x21,x22,x23,x24,x25,x26,s27,s28,s29,s30,s31,s32,s33,s34,s35,s36,s37,s38,s39,s40,s41],defers:=[] }→Frm w5 w (sb::F_)→(b7=false→StB w0 w sb a_ c_ [y] F_)→(b0=true→x18=.pointer (some ⟨sb,0,none⟩))→(b1=true→x19=.slice a_ 1 c_)→(b2=true→x20=.agg #[.int .i64 0,.int .i64 1])→(b3=true→∃p,x21=.slice (some ⟨p,0,none⟩) 5 5∧w5.heap.size≤p∧(b4=false→Loc w p #[.int .u8 116,.int .u8 114,.int .u8 97,.int .u8 115,.int .u8 104] 5))→(b4=true→b3=true∧∃p,x22=.slice (some ⟨p,0,none⟩) 5 5∧w5.heap.size≤p∧(b7=false→RowM w 0 (.slice (some ⟨p,0,none⟩) 5 5) zhM))→(b5=true→b4=true∧∃p,x22=.slice (some ⟨p,0,none⟩) 5 5∧x23=.agg #[.int .i64 0,.int .i64 1,.int .i64 0,.int .i64 0,.slice none 0 0,.int .i64 0,.slice (some ⟨p,0,none⟩) 5 5,.slice none 0 0,.slice none 0 0])→(b6=true→b4=true∧∃p z2,x22=.slice (some ⟨p,0,none⟩) 5 5∧x24=.slice (some ⟨z2,0,none⟩) 1 1∧w5.heap.size≤z2∧(b7=false→Loc w z2 #[.int .i64 0,.int .i64 1,.int .i64 0,.int .i64 0,.slice none 0 0,.int .i64 0,.slice (some ⟨p,0,none⟩) 5 5,.slice none 0 0,.slice none 0 0] 117))→(b7=true→b1=true∧b6=true∧∃gq cq,x25=.slice (some ⟨gq,0,none⟩) 2 cq∧(b9=false→AfS w0 w5 w sb a_ c_ [y] zaM F_ gq cq))→(b8=true→x26=.pointer (some ⟨sb,0,none⟩))→(b9=true→b7=true∧SdE w0 w5 sb [y,zaM] F_ w)→C)→C
theorem znQ {i:Nat} (h:i<10):i=0∨i=1∨i=2∨i=3∨i=4∨i=5∨i=6∨i=7∨i=8∨i=9:=by omega
def Fo4 (w0 w7:World) (sb fb:Nat) (a_:Option Addr) (c_:Nat) (m:List PlV) (F_:List Nat) {n:Nat} (t:Nd (Tr n)) (a1 a2 a3 a4:Option Addr) (c1 c2 c3 c4:Nat) (s0 s1 s3 s4 s6 s7 s8 s9 s10 s11 s12 s13 s14 s15 s16 s17 s18 s19 s20 s21 s22 s23 s24 s25 s26 s30 s31 s32 s33 s34 s35 s36 s37 s38 s39 s40 s41:Value) (L:Array Bool) (a:Act) (w:World):Prop:=
 ∀C:Prop,(∀(b0 b1 b2:Bool) (x27 x28 x29:Value),L = #[b0,b1,b2]→a={ tmps:= #[s0,s1,.pointer (some ⟨fb,0,none⟩),s3,s4,.pointer (some ⟨sb,0,none⟩),s6,s7,s8,s9,s10,s11,s12,s13,s14,s15,s16,s17,s18,s19,s20,s21,s22,s23,s24,s25,s26,x27,x28,x29,s30,s31,s32,s33,s34,s35,s36,s37,s38,s39,s40,s41],defers:=[] }→Frm w7 w (sb::F_)→(b2=false→StB w0 w sb a_ c_ m F_)→(b0=true→x27=.agg #[.int .i64 t.kind,.slice a1 t.name.length c1,.slice a2 t.text.length c2,.slice a3 t.attrs.length c3,.slice a4 t.kids.length c4])→(b1=true→x28=.agg #[.int .i64 0,.int .i64 0])→(b2=true→SdE w0 w7 sb (zaz n (0,0) t.kids m) F_ w)→C)→C
theorem znX {i:Nat} (h:i<3):i=0∨i=1∨i=2:=by omega
def zaJ {n:Nat} (t:Nd (Tr n)) (ops:List OpV):List PlV:=ops.foldl doV (zaz n (0,0) t.kids [⟨0,0,0,0,[],0,t.name,[],t.attrs⟩,zaM])
set_option maxHeartbeats 12800000 in
theorem zlx (n:Nat) (w:World) (t:Nd (Tr n)) (a1 a2 a3 a4 a5:Option Addr) (c1 c2 c3 c4 c5:Nat) (ops:List OpV) (h1_:Byt w (.slice a1 t.name.length c1) t.name) (h3_:RdAttrs w (.slice a3 t.attrs.length c3) t.attrs) (h4_:RdKids n w (.slice a4 t.kids.length c4) t.kids) (h5_:RdOps w (.slice a5 ops.length c5) ops) (hseed:(zaz n (0,0) t.kids [⟨0,0,0,0,[],0,t.name,[],t.attrs⟩,zaM]).length+ops.length≤99999) (hat:∀p∈zaz n (0,0) t.kids [⟨0,0,0,0,[],0,t.name,[],t.attrs⟩,zaM],p.attrs.length≤100) :
  Calls Tryz.prog 39 #[.agg #[.int .i64 t.kind,.slice a1 t.name.length c1,.slice a2 t.text.length c2,.slice a3 t.attrs.length c3,.slice a4 t.kids.length c4],.slice a5 ops.length c5] w fun e w'=>∃a c F,e=.returned (.agg #[.slice a (zaJ t ops).length c])∧PlsR w' (.slice a (zaJ t ops).length c) (zaJ t ops) F∧Below w.heap.size w w':=by
 obtain⟨w0,hw0⟩:∃w0,w0=w:=⟨_,rfl⟩
 obtain⟨w5,hw5⟩:∃w5,w5=(((w.alloc (.cells #[.int .i64 t.kind,.slice a1 t.name.length c1,.slice a2 t.text.length c2,.slice a3 t.attrs.length c3,.slice a4 t.kids.length c4] 37)).alloc (.cells #[.slice none 0 0] 58)).alloc (.cells #[.slice none 0 0] 58)):=⟨_,rfl⟩
 have hA:Below w0.heap.size w0 w5:=by rw [hw0,hw5];exact zad (zad ((Below.refl _ _).alloc (Nat.le_refl _) _) ((Below.refl _ _).alloc (Nat.le_refl _) _)) ((Below.refl _ _).alloc (Nat.le_refl _) _)
 have lf5:Loc w5 w.heap.size #[.int .i64 t.kind,.slice a1 t.name.length c1,.slice a2 t.text.length c2,.slice a3 t.attrs.length c3,.slice a4 t.kids.length c4] 37:=by rw [hw5];exact ((Loc.made w _ _).all ((Below.refl _ _).alloc (Nat.le_refl _) _)).all ((Below.refl _ _).alloc (Nat.le_refl _) _)
 have lr5:Loc w5 (w.heap.size+1) #[.slice none 0 0] 58:=by
  have h:=(Loc.made (w.alloc (.cells #[.int .i64 t.kind,.slice a1 t.name.length c1,.slice a2 t.text.length c2,.slice a3 t.attrs.length c3,.slice a4 t.kids.length c4] 37)) #[.slice none 0 0] 58).all ((Below.refl _ _).alloc (Nat.le_refl _) (.cells #[.slice none 0 0] 58))
  rw [hw5];simpa only [World.size_alloc]using h
 have ls5:Loc w5 (w.heap.size+1+1) #[.slice none 0 0] 58:=by
  have h:=Loc.made ((w.alloc (.cells #[.int .i64 t.kind,.slice a1 t.name.length c1,.slice a2 t.text.length c2,.slice a3 t.attrs.length c3,.slice a4 t.kids.length c4] 37)).alloc (.cells #[.slice none 0 0] 58)) #[.slice none 0 0] 58
  rw [hw5];simpa only [World.size_alloc]using h
 have hs0:w0.heap.size=w.heap.size:=by rw [hw0]
 have h5s:w5.heap.size=w.heap.size+1+1+1:=by rw [hw5];simp
 rw [←hw0]at h1_ h3_ h4_ h5_
 have HH:=hide (And.intro hA (And.intro lf5 (And.intro lr5 (And.intro ls5 (And.intro h5s hs0)))))
 have HW:=hide hw5
 have HW0:=hide hw0
 clear hA lf5 lr5 ls5 hw5 hw0 hs0 h5s
 go_enter Tryz.func39,Tryz.ntmps39
 go_wp2_with fail
 rw [←zaa HW]
 obtain⟨hA,lf5,lr5,ls5,h5s,hs0⟩:=zaa HH
 clear HH HW
 generalize hfb:w.heap.size=fb at *
 generalize hrb:fb+1=rb at *
 generalize hsb:rb+1=sb at *
 have nfb:fb∉[sb]:=by simp;omega
 have hst0:StB w0 w5 sb none 0 [] []:=⟨ls5,⟨[],[],rfl,rfl,fun i hi=>(by cases hi),World.ownsRow_nil _ _ _ _,rfl⟩,List.nodup_nil,fun q hq=>(by cases hq),by omega,hA⟩
 have nrb:rb∉[sb]:=by simp;omega
 have HN:=hide (And.intro hfb (And.intro hrb (And.intro hsb (And.intro hs0 h5s))))
 clear hfb hrb hsb hs0 h5s
 obtain⟨y,hy⟩:∃y:PlV,y=⟨0,0,0,0,[],0,t.name,[],t.attrs⟩:=⟨_,rfl⟩
 have hplf:∀w',PlF w0 w' [.int .i64 0,.int .i64 0,.int .i64 0,.int .i64 0,.slice none 0 0,.int .i64 0,.slice a1 t.name.length c1,.slice none 0 0,.slice a3 t.attrs.length c3] y []:=fun w'=>by
  rw [hy]
  exact⟨_,_,_,_,[],[],[],rfl,.inl ⟨⟨zdc,by simp [maxLen],.inl ⟨rfl,rfl⟩⟩,rfl⟩,.inl ⟨h1_,rfl⟩,⟨zbJ,by simp [maxLen],.inl ⟨rfl,rfl⟩⟩,.inl ⟨h3_,rfl⟩,rfl⟩
 obtain⟨i0',hi0',hz0',hz1',hz2'⟩:=info_parts zed
 rw [←hy]at hseed hat
 have HSD:=hide hseed
 have HAT:=hide hat
 replace hseed:(zaz n (0,0) t.kids [y,zaM]).length≤100000:=by omega
 clear hat
 have HY:=hide hy
 have HS:=hide hst0
 have HL:=hide lr5
 clear hy hst0 hA ls5 lr5
 refine zbN (by kernel_rfl) (Fo2 w0 w5 sb fb y t a1 a3 c1 c3 (.agg #[.int .i64 t.kind,.slice a1 t.name.length c1,.slice a2 t.text.length c2,.slice a3 t.attrs.length c3,.slice a4 t.kids.length c4]) (.slice a5 ops.length c5) (undef) (.pointer (some ⟨rb,0,none⟩)) (undef) (undef) (undef) (undef) (undef) (undef) (undef) (undef) (undef) (undef) (undef) (undef) (undef) (undef) (undef) (undef) (undef) (undef) (undef) (undef) (undef) (undef) (undef) (undef) (undef)) ?sz ?h0 ?stp ?dn
 case sz=>
  intro L a w hI
  refine hI _ ?_
  intro b0 b1 b2 b3 b4 b5 b6 b7 b8 b9 b10 b11 x7 x8 x9 x10 x11 x12 x13 x14 x15 x16 x17 eL eA h0 h1 f0 f1 f2 f3 f4 f5 f6 f7 f8 f9 f10 f11
  subst eL
  rfl
 case h0=>
  exact fun _ k_=>k_ false false false false false false false false false false false false _ _ _ _ _ _ _ _ _ _ _ rfl rfl (Frm.ofBelow ((Below.refl _ _).drew) _) (fun _=>(zaa HS).keep ((Below.refl _ _).drew)) (fun h=>by cases h) (fun h=>by cases h) (fun h=>by cases h) (fun h=>by cases h) (fun h=>by cases h) (fun h=>by cases h) (fun h=>by cases h) (fun h=>by cases h) (fun h=>by cases h) (fun h=>by cases h) (fun h=>by cases h) (fun h=>by cases h)
 case stp=>
  intro L a_9 w9_ i_ o_ hI hi ho
  refine hI _ ?_
  clear hI
  intro b0 b1 b2 b3 b4 b5 b6 b7 b8 b9 b10 b11 x7 x8 x9 x10 x11 x12 x13 x14 x15 x16 x17 eL eA h0 h1 f0 f1 f2 f3 f4 f5 f6 f7 f8 f9 f10 f11
  subst eL eA
  rcases znS (zcx hi)with rfl | rfl | rfl | rfl | rfl | rfl | rfl | rfl | rfl | rfl | rfl | rfl
  ·obtain rfl:=Option.some.inj ho
   go_simp
   exact fun _ k_=>k_ true b1 b2 b3 b4 b5 b6 b7 b8 b9 b10 b11 _ x8 x9 x10 x11 x12 x13 x14 x15 x16 x17 rfl rfl h0 h1 (fun _=>rfl) f1 f2 f3 f4 f5 f6 f7 f8 f9 f10 f11
  ·have g0:=zac hi ho 0
   obtain rfl:=Option.some.inj ho
   have e0:=f0 (g0 (by kernel_rfl))
   subst e0
   have hbz:b1=false:=by simpa using zaj rfl hi
   have cs:=(h1 (by cases hb:b9 with
    | false=>rfl
    | true=>have:=(f9 hb).1;rw [hbz]at this;cases this)).1.cell 0
   clear hbz
   go_simp
   exact fun _ k_=>k_ b0 true b2 b3 b4 b5 b6 b7 b8 b9 b10 b11 _ _ x9 x10 x11 x12 x13 x14 x15 x16 x17 rfl rfl h0 h1 f0 (fun _=>rfl) f2 f3 f4 f5 f6 f7 f8 (fun h=>⟨rfl,(f9 h).2⟩) f10 f11
  ·obtain rfl:=Option.some.inj ho
   go_simp
   refine (zhO w9_).mono ?_
   rintro e w8 ⟨rfl,hb9⟩
   exact fun _ k_=>k_ b0 b1 true b3 b4 b5 b6 b7 b8 b9 b10 b11 x7 x8 _ x10 x11 x12 x13 x14 x15 x16 x17 rfl rfl (h0.moreS (Frm.ofBelow hb9 []) (fun q hq=>by cases hq)) (fun h=>(h1 h).keep hb9) f0 f1 (fun _=>rfl) f3 f4 f5 f6 f7 (fun h=>by obtain⟨z2,e,hz,t⟩:=f8 h;exact⟨z2,e,hz,fun h=>(t h).all hb9⟩) (fun h=>by obtain⟨p1,p2,gq,cq,e,t⟩:=f9 h;exact⟨p1,p2,gq,cq,e,fun h=>(t h).keep hb9⟩) f10 (fun h=>⟨(f11 h).1,(f11 h).2.keep hb9⟩)
  ·obtain rfl:=Option.some.inj ho
   go_simp
   exact fun _ k_=>k_ b0 b1 b2 true b4 b5 b6 b7 b8 b9 b10 b11 x7 x8 x9 _ x11 x12 x13 x14 x15 x16 x17 rfl rfl h0 h1 f0 f1 f2 (fun _=>rfl) f4 f5 f6 f7 f8 f9 f10 f11
  ·have g3:=zac hi ho 3
   obtain rfl:=Option.some.inj ho
   have e3:=f3 (g3 (by kernel_rfl))
   subst e3
   have lf_:=lf5.frm h0 nfb
   have cq:=lf_.cell 1
   clear lf_
   go_simp
   exact fun _ k_=>k_ b0 b1 b2 b3 true b5 b6 b7 b8 b9 b10 b11 x7 x8 x9 _ _ x12 x13 x14 x15 x16 x17 rfl rfl h0 h1 f0 f1 f2 f3 (fun _=>rfl) f5 f6 f7 f8 f9 f10 f11
  ·obtain rfl:=Option.some.inj ho
   go_simp
   exact fun _ k_=>k_ b0 b1 b2 b3 b4 true b6 b7 b8 b9 b10 b11 x7 x8 x9 x10 x11 _ x13 x14 x15 x16 x17 rfl rfl h0 h1 f0 f1 f2 f3 f4 (fun _=>rfl) f6 f7 f8 f9 f10 f11
  ·have g5:=zac hi ho 5
   obtain rfl:=Option.some.inj ho
   have e5:=f5 (g5 (by kernel_rfl))
   subst e5
   have lf_:=lf5.frm h0 nfb
   have cq:=lf_.cell 3
   clear lf_
   go_simp
   exact fun _ k_=>k_ b0 b1 b2 b3 b4 b5 true b7 b8 b9 b10 b11 x7 x8 x9 x10 x11 _ _ x14 x15 x16 x17 rfl rfl h0 h1 f0 f1 f2 f3 f4 f5 (fun _=>rfl) f7 f8 f9 f10 f11
  ·have g2:=zac hi ho 2
   have g4:=zac hi ho 4
   have g6:=zac hi ho 6
   obtain rfl:=Option.some.inj ho
   have e2:=f2 (g2 (by kernel_rfl))
   subst e2
   have e4:=f4 (g4 (by kernel_rfl))
   subst e4
   have e6:=f6 (g6 (by kernel_rfl))
   subst e6
   go_simp
   exact fun _ k_=>k_ b0 b1 b2 b3 b4 b5 b6 true b8 b9 b10 b11 x7 x8 _ x10 _ x12 _ _ x15 x16 x17 rfl rfl h0 h1 f0 f1 f2 f3 f4 f5 f6 (fun _=>rfl) f8 f9 f10 f11
  ·have g7:=zac hi ho 7
   have hbz:b8=false:=by simpa using zaj rfl hi
   obtain rfl:=Option.some.inj ho
   have e7:=f7 (g7 (by kernel_rfl))
   subst e7
   have h7:b9=false:=by
    cases hb:b9 with
    | false=>rfl
    | true=>have:=(f9 hb).2.1;rw [hbz]at this;cases this
   have hb9:Below w9_.heap.size w9_ (w9_.alloc (.cells #[.int .i64 0,.int .i64 0,.int .i64 0,.int .i64 0,.slice none 0 0,.int .i64 0,.slice a1 t.name.length c1,.slice none 0 0,.slice a3 t.attrs.length c3] 117)):=(Below.refl _ _).alloc (Nat.le_refl _) _
   have lm9:=Loc.made w9_ #[.int .i64 0,.int .i64 0,.int .i64 0,.int .i64 0,.slice none 0 0,.int .i64 0,.slice a1 t.name.length c1,.slice none 0 0,.slice a3 t.attrs.length c3] 117
   have hw9:=h0.size
   have H7:=hide h7
   clear h7 hbz
   go_simp
   exact fun _ k_=>k_ b0 b1 b2 b3 b4 b5 b6 b7 true b9 b10 b11 x7 x8 x9 x10 x11 x12 x13 _ _ x16 x17 rfl rfl (h0.moreS (Frm.ofBelow hb9 []) (fun q hq=>by cases hq)) (fun h=>(h1 h).keep hb9) f0 f1 f2 f3 f4 f5 f6 (fun _=>rfl) (fun _=>⟨w9_.heap.size,rfl,hw9,fun _=>lm9⟩) (fun h=>by rw [zaa H7]at h;cases h) f10 (fun h=>by have:=(f11 h).1;rw [zaa H7]at this;cases this)
  ·have g1:=zac hi ho 1
   have g8:=zac hi ho 8
   have hbz:b9=false:=by simpa using zaj rfl hi
   obtain rfl:=Option.some.inj ho
   have t1:b1=true:=g1 (by kernel_rfl)
   have t8:b8=true:=g8 (by kernel_rfl)
   have e1:=f1 t1
   obtain⟨z2,ez,hz2,lz0⟩:=f8 t8
   have lz:=lz0 hbz
   have hs:=h1 hbz
   subst e1 ez
   refine zbO (R:=PlF w0) (fun h f d=>PlF.frm h f d) (by rfl) (.tmp 8) (.tmp 15) 56 (by rfl) 117 i0' (.agg #[.int .i64 0,.int .i64 0,.int .i64 0,.int .i64 0,.slice none 0 0,.int .i64 0,.slice none 0 0,.slice none 0 0,.slice none 0 0]) 9 136 Tryz.underlying56 hi0' hz0' hz1' hz2' rfl (by decide) _ ([]:List PlV) [] (by rfl) hs.2.1 hs.2.2.1 ⟨z2,0,none⟩ 1 [.int .i64 0,.int .i64 0,.int .i64 0,.int .i64 0,.slice none 0 0,.int .i64 0,.slice a1 t.name.length c1,.slice none 0 0,.slice a3 t.attrs.length c3] y [] (by rfl) rfl (fun i u hu=>World.news_of_block lz i u (by simpa using hu)) (by intro y hy;simp at hy;rcases hy with rfl | rfl | rfl | rfl | rfl | rfl | rfl | rfl | rfl<;>rfl) (hplf w9_) (by simp) (fun g hg hg'=>by cases hg) (fun q hq=>by rcases hq with hq | hq<;>cases hq) (by decide) (by decide) ?_
   intro g9 cap9 w9 F9 hF9 hN9 hM9 hf9 hg9
   have hF9l:=OwElems.lt hF9 (fun C x G h=>PlF.lt h)
   have hw95:=h0.size
   have hAf:AfS w0 w5 w9 sb none 0 [] y [] g9 cap9:=⟨F9,hs.1.frm hf9 (fun e=>by cases e),hF9,hN9,fun q hq=>⟨by
     rcases hM9 q hq with h | h | h
     ·cases h
     ·cases h
     ·have:=hs.2.2.2.2.2.size;omega,hF9l q hq,by
     rcases hM9 q hq with h | h | h
     ·cases h
     ·cases h
     ·have:=hs.1.lt;omega⟩,hs.2.2.2.2.1,hs.2.2.2.2.2.trans (hf9.below hs.2.2.2.2.2.size (fun q hq=>by cases hq)),fun q hq=>by
     rcases hM9 q hq with h | h | h
     ·cases h
     ·cases h
     ·right;omega⟩
   exact fun _ k_=>k_ b0 b1 b2 b3 b4 b5 b6 b7 b8 true b10 b11 x7 _ x9 x10 x11 x12 x13 x14 _ _ x17 rfl rfl (h0.moreS hf9 (fun q hq=>by cases hq)) (fun h=>by cases h) f0 (fun _=>rfl) f2 f3 f4 f5 f6 f7 (fun _=>⟨z2,rfl,hz2,fun h=>by cases h⟩) (fun _=>⟨t1,t8,g9,cap9,rfl,fun _=>hAf⟩) f10 (fun h=>by have:=(f11 h).1;rw [hbz]at this;cases this)
  ·obtain rfl:=Option.some.inj ho
   go_simp
   exact fun _ k_=>k_ b0 b1 b2 b3 b4 b5 b6 b7 b8 b9 true b11 x7 x8 x9 x10 x11 x12 x13 x14 x15 x16 _ rfl rfl h0 h1 f0 f1 f2 f3 f4 f5 f6 f7 f8 f9 (fun _=>rfl) f11
  ·have g9:=zac hi ho 9
   have g10:=zac hi ho 10
   have hbz:b11=false:=by simpa using zaj rfl hi
   obtain rfl:=Option.some.inj ho
   have t9:b9=true:=g9 (by kernel_rfl)
   have e10:=f10 (g10 (by kernel_rfl))
   obtain⟨t1,t8,gq,cq,ex,hAf0⟩:=f9 t9
   have hAf:=hAf0 hbz
   subst e10 ex
   have cs:=hAf.choose_spec.1.cell 0
   have fz:=hAf.choose_spec.1.frozen 0
   have hD:=hAf.done
   have hf:=h0.moreS (zab w9_ sb 0 (.slice (some ⟨gq,0,none⟩) 1 cq)) (fun q hq=>by simp at hq;left;simp [hq])
   have EB:=hide (And.intro t9 (And.intro t1 (And.intro t8 (And.intro hD hf))))
   clear t9 t1 t8 hD hf hbz hAf hAf0 f9
   go_simp
   exact fun _ k_=>k_ b0 b1 b2 b3 b4 b5 b6 b7 b8 b9 b10 true x7 x8 x9 x10 x11 x12 x13 x14 x15 _ _ rfl rfl ((zaa EB).2.2.2.2) (fun h=>by rw [(zaa EB).1]at h;cases h) f0 f1 f2 f3 f4 f5 f6 f7 (fun h=>by obtain⟨z2,e,hz,_⟩:=f8 h;exact⟨z2,e,hz,fun ha=>by rw [(zaa EB).1]at ha;cases ha⟩) (fun _=>⟨(zaa EB).2.1,(zaa EB).2.2.1,gq,cq,rfl,fun h=>by cases h⟩) (fun _=>rfl) (fun _=>⟨(zaa EB).1,(zaa EB).2.2.2.1⟩)
 case dn=>
  intro L a_9 w9_ hI hre
  have hall:=zbF (L:=L) (by refine hI _ ?_;intro b0 b1 b2 b3 b4 b5 b6 b7 b8 b9 b10 b11 x7 x8 x9 x10 x11 x12 x13 x14 x15 x16 x17 eL eA h0 h1 f0 f1 f2 f3 f4 f5 f6 f7 f8 f9 f10 f11;subst eL;rfl) (by kernel_rfl) hre 12
  refine hI _ ?_
  clear hI
  intro b0 b1 b2 b3 b4 b5 b6 b7 b8 b9 b10 b11 x7 x8 x9 x10 x11 x12 x13 x14 x15 x16 x17 eL eA h0 h1 f0 f1 f2 f3 f4 f5 f6 f7 f8 f9 f10 f11
  subst eL eA
  have t11:b11=true:=hall 11 (by omega) (by decide)
  obtain⟨a6,c6,F6,hs6,hF6⟩:=(f11 t11).2
  obtain⟨w6,hw6⟩:∃w6,w6=w9_:=⟨_,rfl⟩
  rw [←hw6]at hs6 ⊢
  have nF6:∀q,q=fb∨q=rb→q∉sb::F6:=fun q hq e=>by
   obtain⟨_,_,_,_,_⟩:=zaa HN
   rcases List.mem_cons.1 e with e | e
   ·rcases hq with h | h<;>omega
   ·rcases hF6 q e with h | h
    ·cases h
    ·rcases hq with h | h<;>omega
  have h56:=h0.size
  have lf6:=lf5.frm h0 nfb
  have lr6:=(zaa HL).frm h0 nrb
  rw [←hw6]at lf6 lr6 h56
  have HL6:=hide (And.intro lf6 lr6)
  clear hw6 hall hre t11 f0 f1 f2 f3 f4 f5 f6 f7 f8 f9 f10 f11 h0 h1 hplf lf5 lf6 lr6 HL nfb nrb
  have hF6l:∀q∈F6,q<w6.heap.size:=fun q hq=>(hs6.2.2.2.1 q hq).2.1
  have hsb6:=hs6.1.lt
  have hw06:=hs6.2.2.2.2.2.size
  have HS:=hide hs6
  have HF6:=hide (And.intro nF6 (And.intro hF6 h56))
  clear hs6 hF6 nF6 h56
  go_upto_region 3 with fail
  refine zbN (by kernel_rfl) (Fo3 w0 w6 sb a6 c6 y F6 (.agg #[.int .i64 t.kind,.slice a1 t.name.length c1,.slice a2 t.text.length c2,.slice a3 t.attrs.length c3,.slice a4 t.kids.length c4]) (.slice a5 ops.length c5) (.pointer (some ⟨fb,0,none⟩)) (undef) (.pointer (some ⟨rb,0,none⟩)) (undef) (x7) (x8) (x9) (x10) (x11) (x12) (x13) (x14) (x15) (x16) (x17) (undef) (undef) (undef) (undef) (undef) (undef) (undef) (undef) (undef) (undef) (undef) (undef) (undef) (undef) (undef)) ?sz ?h0 ?stp ?dn
  case sz=>
   intro L a w hI
   refine hI _ ?_
   intro b0 b1 b2 b3 b4 b5 b6 b7 b8 b9 x18 x19 x20 x21 x22 x23 x24 x25 x26 eL eA h0 h1 f0 f1 f2 f3 f4 f5 f6 f7 f8 f9
   subst eL
   rfl
  case h0=>
   exact fun _ k_=>k_ false false false false false false false false false false _ _ _ _ _ _ _ _ _ rfl rfl (Frm.ofBelow ((Below.refl _ _).drew) _) (fun _=>(zaa HS).keep ((Below.refl _ _).drew)) (fun h=>by cases h) (fun h=>by cases h) (fun h=>by cases h) (fun h=>by cases h) (fun h=>by cases h) (fun h=>by cases h) (fun h=>by cases h) (fun h=>by cases h) (fun h=>by cases h) (fun h=>by cases h)
  case stp=>
   intro L a_9 w9_ i_ o_ hI hi ho
   refine hI _ ?_
   clear hI
   intro b0 b1 b2 b3 b4 b5 b6 b7 b8 b9 x18 x19 x20 x21 x22 x23 x24 x25 x26 eL eA h0 h1 f0 f1 f2 f3 f4 f5 f6 f7 f8 f9
   subst eL eA
   rcases znQ (zcx hi)with rfl | rfl | rfl | rfl | rfl | rfl | rfl | rfl | rfl | rfl
   ·obtain rfl:=Option.some.inj ho
    go_simp
    exact fun _ k_=>k_ true b1 b2 b3 b4 b5 b6 b7 b8 b9 _ x19 x20 x21 x22 x23 x24 x25 x26 rfl rfl h0 h1 (fun _=>rfl) f1 f2 f3 f4 f5 f6 f7 f8 f9
   ·have g0:=zac hi ho 0
    obtain rfl:=Option.some.inj ho
    have e0:=f0 (g0 (by kernel_rfl))
    subst e0
    have hbz:b1=false:=by simpa using zaj rfl hi
    have cs:=(h1 (by cases hb:b7 with
     | false=>rfl
     | true=>have:=(f7 hb).1;rw [hbz]at this;cases this)).1.cell 0
    clear hbz
    go_simp
    exact fun _ k_=>k_ b0 true b2 b3 b4 b5 b6 b7 b8 b9 _ _ x20 x21 x22 x23 x24 x25 x26 rfl rfl h0 h1 f0 (fun _=>rfl) f2 f3 f4 f5 f6 (fun h=>⟨rfl,(f7 h).2⟩) f8 f9
   ·obtain rfl:=Option.some.inj ho
    go_simp
    refine (zlw w9_).mono ?_
    rintro e w8 ⟨rfl,hb9⟩
    exact fun _ k_=>k_ b0 b1 true b3 b4 b5 b6 b7 b8 b9 x18 x19 _ x21 x22 x23 x24 x25 x26 rfl rfl (h0.moreS (Frm.ofBelow hb9 []) (fun q hq=>by cases hq)) (fun h=>(h1 h).keep hb9) f0 f1 (fun _=>rfl) (fun h=>by obtain⟨p,e,hz,t⟩:=f3 h;exact⟨p,e,hz,fun h=>(t h).all hb9⟩) (fun h=>by obtain⟨p1,p,e,hz,t⟩:=f4 h;exact⟨p1,p,e,hz,fun h=>(t h).keep hb9⟩) f5 (fun h=>by obtain⟨p1,p,z2,e,e2,hz,t⟩:=f6 h;exact⟨p1,p,z2,e,e2,hz,fun h=>(t h).all hb9⟩) (fun h=>by obtain⟨p1,p2,gq,cq,e,t⟩:=f7 h;exact⟨p1,p2,gq,cq,e,fun h=>(t h).keep hb9⟩) f8 (fun h=>⟨(f9 h).1,(f9 h).2.keep hb9⟩)
   ·have hbz:b3=false:=by simpa using zaj rfl hi
    obtain rfl:=Option.some.inj ho
    have h4:b4=false:=by
     cases hb:b4 with
     | false=>rfl
     | true=>have:=(f4 hb).1;rw [hbz]at this;cases this
    have hb9:Below w9_.heap.size w9_ (w9_.alloc (.cells #[.int .u8 116,.int .u8 114,.int .u8 97,.int .u8 115,.int .u8 104] 5)):=(Below.refl _ _).alloc (Nat.le_refl _) _
    have lm9:=Loc.made w9_ #[.int .u8 116,.int .u8 114,.int .u8 97,.int .u8 115,.int .u8 104] 5
    have hw9:=h0.size
    have H4:=hide h4
    clear h4 hbz
    go_simp
    exact fun _ k_=>k_ b0 b1 b2 true b4 b5 b6 b7 b8 b9 x18 x19 x20 _ x22 x23 x24 x25 x26 rfl rfl (h0.moreS (Frm.ofBelow hb9 []) (fun q hq=>by cases hq)) (fun h=>(h1 h).keep hb9) f0 f1 f2 (fun _=>⟨w9_.heap.size,rfl,hw9,fun _=>lm9⟩) (fun h=>by rw [zaa H4]at h;cases h) f5 (fun h=>by obtain⟨p1,p,z2,e,e2,hz,t⟩:=f6 h;exact⟨p1,p,z2,e,e2,hz,fun h=>(t h).all hb9⟩) (fun h=>by obtain⟨p1,p2,gq,cq,e,t⟩:=f7 h;exact⟨p1,p2,gq,cq,e,fun h=>(t h).keep hb9⟩) f8 (fun h=>⟨(f9 h).1,(f9 h).2.keep hb9⟩)
   ·have g3:=zac hi ho 3
    have hbz:b4=false:=by simpa using zaj rfl hi
    obtain rfl:=Option.some.inj ho
    have t3:b3=true:=g3 (by kernel_rfl)
    obtain⟨p,ex,hp,lp0⟩:=f3 t3
    have lp:=lp0 hbz
    subst ex
    obtain⟨w9,hrun,hf,hsz9,hrow⟩:=zjU w9_ p lp
    have h5:b5=false:=by
     cases hb:b5 with
     | false=>rfl
     | true=>have:=(f5 hb).1;rw [hbz]at this;cases this
    have h6:b6=false:=by
     cases hb:b6 with
     | false=>rfl
     | true=>have:=(f6 hb).1;rw [hbz]at this;cases this
    have h7:b7=false:=by
     cases hb:b7 with
     | false=>rfl
     | true=>have:=(f7 hb).2.1;rw [h6]at this;cases this
    have hs9:StB w0 w9 sb _ _ _ _:=(h1 h7).frm hf (fun g hg e=>by simp at e;subst e;have:=hF6l g hg;omega) (by have:=hsb6;simp;omega) (fun q hq=>by simp at hq;have:=hw06;omega)
    have H5:=hide (And.intro h5 (And.intro h6 (And.intro h7 t3)))
    clear h5 h6 h7 t3 hbz lp lp0
    go_simp
    exact fun _ k_=>k_ b0 b1 b2 b3 true b5 b6 b7 b8 b9 x18 x19 x20 _ _ x23 x24 x25 x26 rfl rfl (h0.moreS hf (fun q hq=>by simp at hq;right;omega)) (fun _=>hs9) f0 f1 f2 (fun _=>⟨p,rfl,hp,fun h=>by cases h⟩) (fun _=>⟨(zaa H5).2.2.2,p,rfl,hp,fun _=>hrow⟩) (fun h=>by rw [(zaa H5).1]at h;cases h) (fun h=>by rw [(zaa H5).2.1]at h;cases h) (fun h=>by rw [(zaa H5).2.2.1]at h;cases h) f8 (fun h=>by have:=(f9 h).1;rw [(zaa H5).2.2.1]at this;cases this)
   ·have g2:=zac hi ho 2
    have g4:=zac hi ho 4
    obtain rfl:=Option.some.inj ho
    have e2:=f2 (g2 (by kernel_rfl))
    have t4:b4=true:=g4 (by kernel_rfl)
    obtain⟨t3,p,ex,hp,hr⟩:=f4 t4
    subst e2 ex
    have T4:=hide (And.intro t4 t3)
    clear t4 t3
    go_simp
    exact fun _ k_=>k_ b0 b1 b2 b3 b4 true b6 b7 b8 b9 x18 x19 _ x21 _ _ x24 x25 x26 rfl rfl h0 h1 f0 f1 (fun _=>rfl) f3 (fun _=>⟨(zaa T4).2,p,rfl,hp,hr⟩) (fun _=>⟨(zaa T4).1,p,rfl,rfl⟩) f6 f7 f8 f9
   ·have g5:=zac hi ho 5
    have hbz:b6=false:=by simpa using zaj rfl hi
    obtain rfl:=Option.some.inj ho
    obtain⟨t4,p,ex,en⟩:=f5 (g5 (by kernel_rfl))
    obtain⟨t3,p4,ex4,hp4,hr4⟩:=f4 t4
    have EP:=ex4.symm.trans ex
    injection EP with y1 _ _
    injection y1 with y1
    injection y1 with y1 _ _
    subst y1
    clear ex4
    subst ex en
    have h7:b7=false:=by
     cases hb:b7 with
     | false=>rfl
     | true=>have:=(f7 hb).2.1;rw [hbz]at this;cases this
    have hb9:Below w9_.heap.size w9_ (w9_.alloc (.cells #[.int .i64 0,.int .i64 1,.int .i64 0,.int .i64 0,.slice none 0 0,.int .i64 0,.slice (some ⟨p4,0,none⟩) 5 5,.slice none 0 0,.slice none 0 0] 117)):=(Below.refl _ _).alloc (Nat.le_refl _) _
    have lm9:=Loc.made w9_ #[.int .i64 0,.int .i64 1,.int .i64 0,.int .i64 0,.slice none 0 0,.int .i64 0,.slice (some ⟨p4,0,none⟩) 5 5,.slice none 0 0,.slice none 0 0] 117
    have hw9:=h0.size
    have H7:=hide (And.intro h7 (And.intro t4 t3))
    clear h7 hbz t4 t3
    go_simp
    exact fun _ k_=>k_ b0 b1 b2 b3 b4 b5 true b7 b8 b9 x18 x19 x20 x21 _ _ _ x25 x26 rfl rfl (h0.moreS (Frm.ofBelow hb9 []) (fun q hq=>by cases hq)) (fun h=>(h1 h).keep hb9) f0 f1 f2 (fun h=>by obtain⟨p,e,hz,t⟩:=f3 h;exact⟨p,e,hz,fun h=>(t h).all hb9⟩) (fun _=>⟨(zaa H7).2.2,p4,rfl,hp4,fun h=>(hr4 h).keep hb9⟩) (fun _=>⟨(zaa H7).2.1,p4,rfl,rfl⟩) (fun _=>⟨(zaa H7).2.1,p4,w9_.heap.size,rfl,rfl,hw9,fun _=>lm9⟩) (fun h=>by rw [(zaa H7).1]at h;cases h) f8 (fun h=>by have:=(f9 h).1;rw [(zaa H7).1]at this;cases this)
   ·have g1:=zac hi ho 1
    have g6:=zac hi ho 6
    have hbz:b7=false:=by simpa using zaj rfl hi
    obtain rfl:=Option.some.inj ho
    have t1:b1=true:=g1 (by kernel_rfl)
    have t6:b6=true:=g6 (by kernel_rfl)
    have e1:=f1 t1
    obtain⟨t4,p,z2,ep,ez,hz2,lz0⟩:=f6 t6
    obtain⟨t3,p4,ex4,hp4,hr4⟩:=f4 t4
    have EP:=ex4.symm.trans ep
    injection EP with y1 _ _
    injection y1 with y1
    injection y1 with y1 _ _
    subst y1
    have lz:=lz0 hbz
    have hs:=h1 hbz
    have hrow:=hr4 hbz
    subst e1 ez
    clear ex4
    subst ep
    have hzl:p4<w9_.heap.size:=(hrow.lt p4 rfl).2
    have hpF:p4∉F6:=fun h=>by have:=hF6l p4 h;omega
    have hpl:PlF w0 w9_ [.int .i64 0,.int .i64 1,.int .i64 0,.int .i64 0,.slice none 0 0,.int .i64 0,.slice (some ⟨p4,0,none⟩) 5 5,.slice none 0 0,.slice none 0 0] zaM [p4]:=⟨_,_,_,_,[],[p4],[],rfl,.inl ⟨⟨zdc,by simp [zaM,maxLen],.inl ⟨rfl,rfl⟩⟩,rfl⟩,.inr ⟨hrow,by simp [FB,Value.ownBlock]⟩,⟨zbJ,by simp [zaM,maxLen],.inl ⟨rfl,rfl⟩⟩,.inl ⟨⟨by simp [zaM,maxLen],.inl ⟨rfl,rfl⟩⟩,rfl⟩,rfl⟩
    refine zbO (R:=PlF w0) (fun h f d=>PlF.frm h f d) (by rfl) (.tmp 19) (.tmp 24) 56 (by rfl) 117 i0' (.agg #[.int .i64 0,.int .i64 0,.int .i64 0,.int .i64 0,.slice none 0 0,.int .i64 0,.slice none 0 0,.slice none 0 0,.slice none 0 0]) 9 136 Tryz.underlying56 hi0' hz0' hz1' hz2' rfl (by decide) _ [y] F6 (by rfl) hs.2.1 hs.2.2.1 ⟨z2,0,none⟩ 1 [.int .i64 0,.int .i64 1,.int .i64 0,.int .i64 0,.slice none 0 0,.int .i64 0,.slice (some ⟨p4,0,none⟩) 5 5,.slice none 0 0,.slice none 0 0] zaM [p4] (by rfl) rfl (fun i u hu=>World.news_of_block lz i u (by simpa using hu)) (by intro y hy;simp at hy;rcases hy with rfl | rfl | rfl | rfl | rfl | rfl | rfl | rfl | rfl<;>rfl) hpl (by simp) (fun g hg hg'=>by simp at hg';subst hg';exact hpF hg) (fun q hq=>by rcases hq with hq | hq;exact (hs.2.2.2.1 q hq).2.1;(simp at hq;subst hq;exact hzl)) (by unfold maxLen;simp) (by simp) ?_
    intro g9 cap9 w9 F9 hF9 hN9 hM9 hf9 hg9
    have hvF:∀q∈FB (.slice a6 [y].length c6),q∈F6:=fun q hq=>PlsF.head hs.2.1 q hq
    have hF9l:=OwElems.lt hF9 (fun C x G h=>PlF.lt h)
    have hw95:=h0.size
    have hAf:AfS w0 w6 w9 sb a6 c6 [y] zaM F6 g9 cap9:=⟨F9,hs.1.frm hf9 (fun e=>(hs.2.2.2.1 sb (hvF sb e)).2.2 rfl),hF9,hN9,fun q hq=>⟨by
      rcases hM9 q hq with h | h | h
      ·exact (hs.2.2.2.1 q h).1
      ·simp at h;have:=hw06;omega
      ·have:=hs.2.2.2.2.2.size;omega,hF9l q hq,by
      rcases hM9 q hq with h | h | h
      ·exact (hs.2.2.2.1 q h).2.2
      ·simp at h;have:=hsb6;omega
      ·have:=hs.1.lt;omega⟩,hs.2.2.2.2.1,hs.2.2.2.2.2.trans (hf9.below hs.2.2.2.2.2.size (fun q hq=>(hs.2.2.2.1 q (hvF q hq)).1)),fun q hq=>by
      rcases hM9 q hq with h | h | h
      ·exact .inl h
      ·simp at h;right;omega
      ·right;omega⟩
    have H7:=hide (And.intro t4 t3)
    clear t4 t3
    exact fun _ k_=>k_ b0 b1 b2 b3 b4 b5 b6 true b8 b9 x18 _ x20 x21 _ x23 _ _ x26 rfl rfl (h0.moreS hf9 (fun q hq=>.inl (List.mem_cons_of_mem _ (hvF q hq)))) (fun h=>by cases h) f0 (fun _=>rfl) f2 (fun h=>by obtain⟨p,e,hz,_⟩:=f3 h;exact⟨p,e,hz,fun h=>by rw [(zaa H7).1]at h;cases h⟩) (fun _=>⟨(zaa H7).2,p4,rfl,hp4,fun h=>by cases h⟩) f5 (fun _=>⟨(zaa H7).1,p4,z2,rfl,rfl,hz2,fun h=>by cases h⟩) (fun _=>⟨t1,t6,g9,cap9,rfl,fun _=>hAf⟩) f8 (fun h=>by have:=(f9 h).1;rw [hbz]at this;cases this)
   ·obtain rfl:=Option.some.inj ho
    go_simp
    exact fun _ k_=>k_ b0 b1 b2 b3 b4 b5 b6 b7 true b9 x18 x19 x20 x21 x22 x23 x24 x25 _ rfl rfl h0 h1 f0 f1 f2 f3 f4 f5 f6 f7 (fun _=>rfl) f9
   ·have g7:=zac hi ho 7
    have g8:=zac hi ho 8
    have g4:=zac hi ho 4
    have hbz:b9=false:=by simpa using zaj rfl hi
    obtain rfl:=Option.some.inj ho
    have t7:b7=true:=g7 (by kernel_rfl)
    have t4:b4=true:=g4 (by kernel_rfl)
    have e8:=f8 (g8 (by kernel_rfl))
    obtain⟨t1,t6,gq,cq,ex,hAf0⟩:=f7 t7
    have hAf:=hAf0 hbz
    subst e8 ex
    have cs:=hAf.choose_spec.1.cell 0
    have fz:=hAf.choose_spec.1.frozen 0
    have hD:=hAf.done
    have hf:=h0.moreS (zab w9_ sb 0 (.slice (some ⟨gq,0,none⟩) 2 cq)) (fun q hq=>by simp at hq;left;simp [hq])
    have EB:=hide (And.intro t7 (And.intro t1 (And.intro t6 (And.intro hD (And.intro hf t4)))))
    clear t7 t1 t6 hD hf hbz hAf hAf0 f7 t4
    go_simp
    exact fun _ k_=>k_ b0 b1 b2 b3 b4 b5 b6 b7 b8 true x18 x19 x20 x21 x22 x23 x24 _ _ rfl rfl ((zaa EB).2.2.2.2.1) (fun h=>by rw [(zaa EB).1]at h;cases h) f0 f1 f2 (fun h=>by obtain⟨p,e,hz,_⟩:=f3 h;exact⟨p,e,hz,fun h=>by rw [(zaa EB).2.2.2.2.2]at h;cases h⟩) (fun h=>by obtain⟨t3,p,e,hz,_⟩:=f4 h;exact⟨t3,p,e,hz,fun ha=>by rw [(zaa EB).1]at ha;cases ha⟩) f5 (fun h=>by obtain⟨t4,p,z2,e,e2,hz,_⟩:=f6 h;exact⟨t4,p,z2,e,e2,hz,fun ha=>by rw [(zaa EB).1]at ha;cases ha⟩) (fun _=>⟨(zaa EB).2.1,(zaa EB).2.2.1,gq,cq,rfl,fun h=>by cases h⟩) (fun _=>rfl) (fun _=>⟨(zaa EB).1,(zaa EB).2.2.2.1⟩)
  case dn=>
   intro L a_9 w9_ hI hre
   have hall:=zbF (L:=L) (by refine hI _ ?_;intro b0 b1 b2 b3 b4 b5 b6 b7 b8 b9 x18 x19 x20 x21 x22 x23 x24 x25 x26 eL eA h0 h1 f0 f1 f2 f3 f4 f5 f6 f7 f8 f9;subst eL;rfl) (by kernel_rfl) hre 10
   refine hI _ ?_
   clear hI
   intro b0 b1 b2 b3 b4 b5 b6 b7 b8 b9 x18 x19 x20 x21 x22 x23 x24 x25 x26 eL eA h0 h1 f0 f1 f2 f3 f4 f5 f6 f7 f8 f9
   subst eL eA
   have t9:b9=true:=hall 9 (by omega) (by decide)
   obtain⟨a7,c7,F7,hs7,hF7⟩:=(f9 t9).2
   obtain⟨w7,hw7⟩:∃w7,w7=w9_:=⟨_,rfl⟩
   rw [←hw7]at hs7 ⊢
   obtain⟨nF6,hF6,h56⟩:=zaa HF6
   have nF7:∀q,q=fb∨q=rb→q∉sb::F7:=fun q hq e=>by
    obtain⟨_,_,_,_,_⟩:=zaa HN
    have h67:=h0.size
    rcases List.mem_cons.1 e with e | e
    ·rcases hq with h | h<;>omega
    ·rcases hF7 q e with h | h
     ·exact nF6 q hq (List.mem_cons_of_mem _ h)
     ·rcases hq with h | h<;>omega
   have lf7:=(zaa HL6).1.frm h0 (nF6 _ (.inl rfl))
   have lr7:=(zaa HL6).2.frm h0 (nF6 _ (.inr rfl))
   rw [←hw7]at lf7 lr7
   have nfb7:=nF7 _ (.inl rfl)
   have nrb7:=nF7 _ (.inr rfl)
   have h67:=h0.size
   rw [←hw7]at h67
   have HL7:=hide (And.intro lr7 (show ∀q∈F7,sb<q by
    intro q hq
    obtain⟨_,_,_,_,_⟩:=zaa HN
    rcases hF7 q hq with h | h
    ·rcases hF6 q h with h | h
     ·cases h
     ·omega
    ·omega))
   clear hw7 hall hre t9 f0 f1 f2 f3 f4 f5 f6 f7 f8 f9 h0 h1 HS hF6l hsb6 hw06 HF6 nF6 hF6 nF7 lr7 HL6 h56 h67
   have HS:=hide hs7
   clear hs7 hF7
   go_upto_region 4 with fail
   refine zbN (by kernel_rfl) (Fo4 w0 w7 sb fb a7 c7 [y,zaM] F7 t a1 a2 a3 a4 c1 c2 c3 c4 (.agg #[.int .i64 t.kind,.slice a1 t.name.length c1,.slice a2 t.text.length c2,.slice a3 t.attrs.length c3,.slice a4 t.kids.length c4]) (.slice a5 ops.length c5) (undef) (.pointer (some ⟨rb,0,none⟩)) (undef) (x7) (x8) (x9) (x10) (x11) (x12) (x13) (x14) (x15) (x16) (x17) (x18) (x19) (x20) (x21) (x22) (x23) (x24) (x25) (x26) (undef) (undef) (undef) (undef) (undef) (undef) (undef) (undef) (undef) (undef) (undef) (undef)) ?sz ?h0 ?stp ?dn
   case sz=>
    intro L a w hI
    refine hI _ ?_
    intro b0 b1 b2 x27 x28 x29 eL eA h0 h1 f0 f1 f2
    subst eL
    rfl
   case h0=>
    exact fun _ k_=>k_ false false false _ _ _ rfl rfl (Frm.ofBelow ((Below.refl _ _).drew) _) (fun _=>(zaa HS).keep ((Below.refl _ _).drew)) (fun h=>by cases h) (fun h=>by cases h) (fun h=>by cases h)
   case stp=>
    intro L a_9 w9_ i_ o_ hI hi ho
    refine hI _ ?_
    clear hI
    intro b0 b1 b2 x27 x28 x29 eL eA h0 h1 f0 f1 f2
    subst eL eA
    rcases znX (zcx hi)with rfl | rfl | rfl
    ·obtain rfl:=Option.some.inj ho
     have lf_:=lf7.frm h0 nfb7
     have cq0:=lf_.cell 0
     have cq1:=lf_.cell 1
     have cq2:=lf_.cell 2
     have cq3:=lf_.cell 3
     have cq4:=lf_.cell 4
     clear lf_
     go_simp
     exact fun _ k_=>k_ true b1 b2 _ x28 x29 rfl rfl h0 h1 (fun _=>rfl) f1 f2
    ·obtain rfl:=Option.some.inj ho
     go_simp
     refine (zhO w9_).mono ?_
     rintro e w8 ⟨rfl,hb9⟩
     exact fun _ k_=>k_ b0 true b2 x27 _ x29 rfl rfl (h0.moreS (Frm.ofBelow hb9 []) (fun q hq=>by cases hq)) (fun h=>(h1 h).keep hb9) f0 (fun _=>rfl) (fun h=>(f2 h).keep hb9)
    ·have g0:=zac hi ho 0
     have g1:=zac hi ho 1
     have hbz:b2=false:=by simpa using zaj rfl hi
     obtain rfl:=Option.some.inj ho
     have e0:=f0 (g0 (by kernel_rfl))
     have e1:=f1 (g1 (by kernel_rfl))
     have hs:=h1 hbz
     subst e0 e1
     clear hbz
     have HC:=hide (zhD n w0 w9_ sb a7 c7 [y,zaM] F7 t.kids 0 0 t.kind a1 a2 a3 a4 t.name.length c1 t.text.length c2 t.attrs.length c3 c4 hs h4_ hseed)
     have hw79:=h0.size
     clear hs
     go_simp
     refine (zaa HC).mono ?_
     rintro e w8 ⟨⟨v,rfl⟩,a8,c8,F8,hs8,hf8,hF8⟩
     exact fun _ k_=>k_ b0 b1 true _ _ _ rfl rfl (h0.moreS hf8 (fun q hq=>.inl hq)) (fun h=>by cases h) (fun _=>rfl) (fun _=>rfl) (fun _=>⟨a8,c8,F8,hs8,fun q hq=>(hF8 q hq).imp id (fun h=>by omega)⟩)
   case dn=>
    intro L a_9 w9_ hI hre
    have hall:=zbF (L:=L) (by refine hI _ ?_;intro b0 b1 b2 x27 x28 x29 eL eA h0 h1 f0 f1 f2;subst eL;rfl) (by kernel_rfl) hre 3
    refine hI _ ?_
    clear hI
    intro b0 b1 b2 x27 x28 x29 eL eA h0 h1 f0 f1 f2
    subst eL eA
    have t2:b2=true:=hall 2 (by omega) (by decide)
    obtain⟨a8,c8,F8,hs8,hF8⟩:=f2 t2
    obtain⟨w8,hw8⟩:∃w8,w8=w9_:=⟨_,rfl⟩
    rw [←hw8]at hs8 ⊢
    have lr8:=(zaa HL7).1.frm h0 nrb7
    have h78:=h0.size
    rw [←hw8]at lr8 h78
    have hF88:∀q∈F8,sb<q:=fun q hq=>by
     rcases hF8 q hq with h | h
     ·exact (zaa HL7).2 q h
     ·have h9:=(zaa HS).1.lt;omega
    clear hw8 hall hre t2 f0 f1 f2 h0 h1 HS lf7 nfb7 nrb7 hF8 HL7 h78
    obtain⟨hfb,hrb,hsb,hws,_⟩:=zaa HN
    subst hfb hrb hsb
    clear HN
    have HS:=hide hs8
    clear hs8
    go_wp2_with fail
    obtain⟨S,hS⟩:∃S,S=zaz n (0,0) t.kids [y,zaM]:=⟨_,rfl⟩
    rw [←hS]at HS HSD HAT
    have HSS:=hide hS
    clear hS hseed
    have hSl:=zaa HSD
    have hw8:=lr8.lt
    go_loopw [6] (fun xv wr=>∃(j:Nat) (a':Option Addr) (c':Nat) (F':List Nat) (m:List PlV),j≤ops.length∧xv=.int .i64 (j:Int)∧m=(ops.take j).foldl doV S∧StB w0 wr (w.heap.size+1+1) a' c' m F'∧m.length≤S.length+j∧(∀p∈m,p.attrs.length≤100)∧Loc wr (w.heap.size+1) #[.slice none 0 0] 58∧(∀q∈F',w.heap.size+1+1<q)) (fun xv _=>ops.length-(intOf xv).toNat)
    case atStart=>exact⟨0,a8,c8,F8,S,Nat.zero_le _,rfl,rfl,zaa HS,Nat.le_refl _,zaa HAT,lr8,hF88⟩
    case round=>
     clear HS lr8 hF88
     obtain⟨j,a9,c9,F9,m,hj,rfl,hm,hs,hml,hma,lr,hF9⟩:=hrel
     have hsb9:=hs.1.lt
     by_cases hlt:j<ops.length
     ·have hlt':(j:Int)<(ops.length:Int):=by omega
      have hj0:(0:Int)≤(j:Int):=by omega
      obtain⟨bk,off,rfl,hbk,_,_,C,hC,hcell,k,nm,tx,eC,q1,q2,q3⟩:=Elems.at h5_ hlt
      obtain⟨o,ho⟩:∃o,o=ops[j]:=⟨_,rfl⟩
      have hnext:(ops.take (j+1)).foldl doV S=doV m o:=by rw [List.take_succ_eq_append_getElem hlt,List.foldl_append,←hm,←ho];rfl
      rw [←ho]at eC q1 q2 q3
      obtain⟨k1,d1,rfl,_⟩:=q1.shape
      obtain⟨k2,d2,rfl,_⟩:=q2.shape
      obtain⟨k3,d3,rfl,_⟩:=q3.shape
      have h06:=hs.2.2.2.2.2
      have z0:wr.cell? ⟨bk,off+j*12,none⟩=some (.int .i64 o.kind):=by have h7:=hcell 0 (by decide);rw [eC]at h7;simp only [List.getElem?_cons_zero,Nat.add_zero]at h7;exact (h06.cell (p:=⟨bk,off+j*12,none⟩) hbk).trans h7
      have z1:wr.cell? ⟨bk,off+j*12+1,none⟩=some (.int .i64 o.atN):=by have h7:=hcell 1 (by decide);rw [eC]at h7;simp only [List.getElem?_cons_zero,List.getElem?_cons_succ]at h7;exact (h06.cell (p:=⟨bk,off+j*12+1,none⟩) hbk).trans h7
      have z2:wr.cell? ⟨bk,off+j*12+2,none⟩=some (.int .i64 o.atR):=by have h7:=hcell 2 (by decide);rw [eC]at h7;simp only [List.getElem?_cons_zero,List.getElem?_cons_succ]at h7;exact (h06.cell (p:=⟨bk,off+j*12+2,none⟩) hbk).trans h7
      have z3:wr.cell? ⟨bk,off+j*12+3,none⟩=some (.int .i64 o.nodeN):=by have h7:=hcell 3 (by decide);rw [eC]at h7;simp only [List.getElem?_cons_zero,List.getElem?_cons_succ]at h7;exact (h06.cell (p:=⟨bk,off+j*12+3,none⟩) hbk).trans h7
      have z4:wr.cell? ⟨bk,off+j*12+4,none⟩=some (.int .i64 o.nodeR):=by have h7:=hcell 4 (by decide);rw [eC]at h7;simp only [List.getElem?_cons_zero,List.getElem?_cons_succ]at h7;exact (h06.cell (p:=⟨bk,off+j*12+4,none⟩) hbk).trans h7
      have z5:wr.cell? ⟨bk,off+j*12+5,none⟩=some (.int .i64 o.parN):=by have h7:=hcell 5 (by decide);rw [eC]at h7;simp only [List.getElem?_cons_zero,List.getElem?_cons_succ]at h7;exact (h06.cell (p:=⟨bk,off+j*12+5,none⟩) hbk).trans h7
      have z6:wr.cell? ⟨bk,off+j*12+6,none⟩=some (.int .i64 o.parR):=by have h7:=hcell 6 (by decide);rw [eC]at h7;simp only [List.getElem?_cons_zero,List.getElem?_cons_succ]at h7;exact (h06.cell (p:=⟨bk,off+j*12+6,none⟩) hbk).trans h7
      have z7:wr.cell? ⟨bk,off+j*12+7,none⟩=some (.slice k1 o.key.length d1):=by have h7:=hcell 7 (by decide);rw [eC]at h7;simp only [List.getElem?_cons_zero,List.getElem?_cons_succ]at h7;exact (h06.cell (p:=⟨bk,off+j*12+7,none⟩) hbk).trans h7
      have z8:wr.cell? ⟨bk,off+j*12+8,none⟩=some (.int .i64 o.elem):=by have h7:=hcell 8 (by decide);rw [eC]at h7;simp only [List.getElem?_cons_zero,List.getElem?_cons_succ]at h7;exact (h06.cell (p:=⟨bk,off+j*12+8,none⟩) hbk).trans h7
      have z9:wr.cell? ⟨bk,off+j*12+9,none⟩=some (.slice k2 o.name.length d2):=by have h7:=hcell 9 (by decide);rw [eC]at h7;simp only [List.getElem?_cons_zero,List.getElem?_cons_succ]at h7;exact (h06.cell (p:=⟨bk,off+j*12+9,none⟩) hbk).trans h7
      have z10:wr.cell? ⟨bk,off+j*12+10,none⟩=some (.slice k3 o.text.length d3):=by have h7:=hcell 10 (by decide);rw [eC]at h7;simp only [List.getElem?_cons_zero,List.getElem?_cons_succ]at h7;exact (h06.cell (p:=⟨bk,off+j*12+10,none⟩) hbk).trans h7
      have z11:wr.cell? ⟨bk,off+j*12+11,none⟩=some (.bool o.gone):=by have h7:=hcell 11 (by decide);rw [eC]at h7;simp only [List.getElem?_cons_zero,List.getElem?_cons_succ]at h7;exact (h06.cell (p:=⟨bk,off+j*12+11,none⟩) hbk).trans h7
      have HC:=hide (zqi w0 wr (w.heap.size+1+1) a9 c9 m F9 hs (by omega) hma o k1 k2 k3 d1 d2 d3 q1 q2 q3)
      have HX:=hide (And.intro hnext (And.intro (zrY hma o) (And.intro (zrD m o) (And.intro lr hF9))))
      clear hs hma lr hF9 hnext hcell eC q1 q2 q3 hm ho h06
      go_wp2_with fail
      refine (zaa HC).mono ?_
      rintro e w9 ⟨⟨v,rfl⟩,a10,c10,F10,hs10,hf10,hF10⟩
      obtain⟨hnext,hma,hln,lr,hF9⟩:=zaa HX
      have HE:=hide (show StB w0 w9 (w.heap.size+1+1) a10 c10 ((ops.take (j+1)).foldl doV S) F10∧(doV m o).length≤S.length+(j+1)∧(∀p∈(ops.take (j+1)).foldl doV S,p.attrs.length≤100)∧Loc w9 (w.heap.size+1) #[.slice none 0 0] 58∧(∀q∈F10,w.heap.size+1+1<q) from
       ⟨by rw [hnext];exact hs10,by omega,by rw [hnext];exact hma,lr.frm hf10 (by simp;intro h;have:=hF9 _ h;omega),fun q hq=>(hF10 q hq).elim (hF9 q) (fun h=>by omega)⟩)
      have HQ:=hide hnext
      clear HC HX hnext hma hln lr hF9 hs10 hf10 hF10 z0 z1 z2 z3 z4 z5 z6 z7 z8 z9 z10 z11
      go_wp2_with fail
      go_roundw
      case rel=>exact⟨j+1,a10,c10,F10,_,by omega,by go_num,rfl,(zaa HE).1,by rw [zaa HQ];exact (zaa HE).2.1,(zaa HE).2.2.1,(zaa HE).2.2.2.1,(zaa HE).2.2.2.2⟩
      case measure=>simp [intOf];omega
     ·have hlt':¬ (j:Int)<(ops.length:Int):=by omega
      have hme:m=ops.foldl doV S:=by rw [hm,List.take_of_length_le (by omega)]
      have y0:wr.cell? ⟨w.heap.size+1+1,0,none⟩=some (.slice a9 m.length c9):=hs.1.cell 0
      have r0:=lr.cell 0
      have rf:=lr.frozen 0
      have lrX:=lr.set 0 (.slice a9 m.length c9)
      have fX:=zab wr (w.heap.size+1) 0 (.slice a9 m.length c9)
      have hsX:StB w0 (wr.setCell ⟨w.heap.size+1,0,none⟩ (.slice a9 m.length c9)) (w.heap.size+1+1) a9 c9 m F9:=hs.frm fX (fun g hg e=>by simp at e;have:=hF9 g hg;omega) (by simp) (fun q hq=>by simp at hq;omega)
      have eX:=lrX.cell 0
      have hrd:=PlsR.of hsX.2.1 (fun C x G hr=>PlF.rd hr hsX.2.2.2.2.2)
      have hbX:=hsX.2.2.2.2.2
      have HE:=hide (And.intro hme (And.intro hrd (And.intro hbX eX)))
      clear hs lr lrX fX hsX hme hrd hbX hm hma hF9 eX
      go_wp2_with fail
      obtain⟨hme,hrd,hbX,eX⟩:=zaa HE
      have hmF:zaJ t ops=m:=by rw [hme,zaa HSS,zaa HY];rfl
      have hbX':Below w.heap.size w (wr.setCell ⟨w.heap.size+1,0,none⟩ (.slice a9 m.length c9)):=by have h9:=zaa HW0;rw [h9]at hbX;exact hbX
      exact bodyPost_ret (v:=.agg #[.slice a9 m.length c9]) (by simp [results,Tryz.results39,go_sem,eX]) rfl (by rw [hmF];first | exact⟨a9,c9,rfl,⟨_,hrd⟩,hbX'⟩ | exact⟨a9,c9,_,rfl,hrd,hbX'⟩)
structure Gr (w:World) where
 W:World
 h:Below w.heap.size w W
theorem zaC {P:Program} {id:Nat} {Q:Exit→Act→World→Prop} {a:Act} {w:World} {l:List Oper} (hm:P.follows .mixedOrders=true) (hB:Region.lexB .any l.toArray=true)
  (h:wpQuiet P l.toArray (fun w'=>∃p:Gr w,w'=p.W) (fun a'=>∀w',(∃p:Gr w,w'=p.W)→Q .normal a' w') l a):(Code.region id l.toArray true).wp P Q a w:=
 wp_region_quiet (C:=fun w'=>∃p:Gr w,w'=p.W) hm hB ⟨⟨w.drew,(Below.refl _ _).drew⟩,rfl⟩ (by simpa using h)
theorem Gr.cell {w:World} {a:Addr} {v:Value} (hb:a.block<w.heap.size) (h:w.cell? a=some v) (p:Gr w):p.W.cell? a=some v:=(p.h.cell hb).trans h
theorem zbT {P:Program} {f:FuncId} {args:Array Value} {w:World} {p:Gr w} {v:Value} (h:Calls P f args p.W fun e w'=>e=.returned v∧Below p.W.heap.size p.W w'):Calls P f args p.W fun e w''=>e=.returned v∧∃q:Gr w,w''=q.W:=
 h.mono fun _ _ ⟨he,hB⟩=>⟨he,⟨⟨_,zad p.h hB⟩,rfl⟩⟩
set_option maxHeartbeats 6400000 in
theorem zpt (w:World) (v:Value) (l:List OpV) (h:RdOps w v l) :
  Calls Tryz.prog 37 #[v] w fun e w'=>e=.returned (.bool (opsB l))∧Below w.heap.size w w':=by
 have hm:=h.1
 unfold maxLen at hm
 by_cases hlong:150<l.length
 ·obtain⟨a,cap,rfl,_,_⟩:=Elems.shape h
  have hd:(150:Int)<(l.length:Int):=by omega
  rw [zik hlong]
  go_enter Tryz.func37,Tryz.ntmps37
  go_wp2_with fail
  go_ret
  exact⟨rfl,Below.refl _ _⟩
 have hd:¬ (150:Int)<(l.length:Int):=by omega
 obtain⟨rfl,a,cap,rfl⟩ | ⟨b,off,cap,rfl,hnil,g4,g5⟩:=h.cases
 ·go_enter Tryz.func37,Tryz.ntmps37
  go_wp2_with fail
  refine wp_loop_rounds 1 ?_
  rw [rounds_succ]
  go_wp2_with fail
  go_ret
  exact⟨rfl,Below.refl _ _⟩
 have HG:=hide (fun hh=>zjc (l:=l) (by omega) hh)
 have HN:=hide (fun k hk hh=>zjD (l:=l) (k:=k) hk hh)
 generalize opsB l=res at *
 go_enter Tryz.func37,Tryz.ntmps37
 go_wp2_with fail
 go_loopw [3] (fun i wr=>∃k:Nat,k≤l.length∧i=.int .i64 k∧(∀j,j<k→okAt l j=true)∧Below w.heap.size w wr) (fun i _=>l.length-(intOf i).toNat)
 case atStart=>exact⟨0,Nat.zero_le _,rfl,fun j hj=>by omega,Below.refl _ _⟩
 case round=>
  obtain⟨k,hk,rfl,hok,hB⟩:=hrel
  by_cases hlt:k<l.length
  ·have HX:=hide (fun W u (hu:RdOp W u l[k])=>zqJ W u l[k] hu)
   have HL:=hide (fun W n r n' r'=>zfE W n r n' r')
   have H0:=hide (fun (h:opB l[k]=false)=>zmb hlt h)
   have HZ:=hide (fun (h:opB l[k]=true) (e:k=0)=>(show okAt l k=true by subst e;exact zpa hlt h))
   have HS:=hide (fun j (e:k=j+1) (h:opB l[k]=true)=>(show okAt l k=zam (l[j]'(by omega)).atN (l[j]'(by omega)).atR l[k].atN l[k].atR by subst e;exact zkL hlt h))
   have HP:=hide (fun j (e:k=j+1)=>zcv hB g4 (g5 j (by omega)))
   have HJ:=hide (fun j (hj:j<k+1) (h:okAt l k=true)=>(show okAt l j=true by rcases Nat.lt_succ_iff_lt_or_eq.1 hj with h1 | rfl;exact hok j h1;exact h))
   have HNK:=hide (fun (h:okAt l k=false)=>zaa HN k hlt h)
   obtain⟨a1,c1,a2,c2,a3,c3,e0,e1,e2,e3,e4,e5,e6,e7,e8,e9,e10,e11,hr⟩:=zcv hB g4 (g5 k hlt)
   have hlt':(k:Int)<(l.length:Int):=by omega
   have hk0:(0:Int)≤(k:Int):=by omega
   have HR:=hide hr
   unfold zaU at HR
   generalize hoo:l[k]=o at *
   generalize o.key.length=nK at *
   generalize o.name.length=nN at *
   generalize o.text.length=nT at *
   clear g5 hr hnil hoo HG HN hok
   generalize okAt l k=okk at *
   have g4':b<wr.heap.size:=Nat.lt_of_lt_of_le g4 hB.size
   have hNE:Nonempty (Gr wr):=⟨⟨wr,Below.refl _ _⟩⟩
   replace e0:=Gr.cell g4' e0
   replace e1:=Gr.cell g4' e1
   replace e2:=Gr.cell g4' e2
   replace e3:=Gr.cell g4' e3
   replace e4:=Gr.cell g4' e4
   replace e5:=Gr.cell g4' e5
   replace e6:=Gr.cell g4' e6
   replace e7:=Gr.cell g4' e7
   replace e8:=Gr.cell g4' e8
   replace e9:=Gr.cell g4' e9
   replace e10:=Gr.cell g4' e10
   replace e11:=Gr.cell g4' e11
   by_cases hq:opB o=true
   ·rw [hq]at HX
    rcases Nat.eq_zero_or_pos k with hz | hpos
    ·have HY:=hide (zaa HZ hq hz)
     have dz3:¬ 0<k:=by omega
     have dz4:decide (0<k)=false:=by simp;omega
     clear H0 HZ HS HP hq HL hz
     go_wp2_with fail
     refine zaC (by kernel_rfl) (by kernel_rfl) ?_
     repeat (go_big_quiet_step ((rename_i p;exact zbT (zaa HX _ _ ((zaa HR).keep p.h)))))
     refine wpQuiet_nil ?_
     rintro _ ⟨p,rfl⟩
     have hB3:=zad hB p.h
     clear e0 e1 e2 e3 e4 e5 e6 e7 e8 e9 e10 e11 HR
     go_wp2_with fail
     go_roundw
     case rel=>exact⟨k+1,by omega,by go_num,fun j hj=>zaa HJ j hj (zaa HY),hB3⟩
     case measure=>simp [intOf];omega
    ·obtain⟨j,ej⟩:∃j,k=j+1:=⟨k-1,by omega⟩
     have dz3:0<k:=hpos
     have dz4:decide (0<k)=true:=by simp;omega
     have hj1:(k:Int)-1=(j:Int):=by omega
     have hj0:(0:Int)≤(j:Int):=by omega
     have hjl:(j:Int)<(l.length:Int):=by omega
     obtain⟨pn,pr,i1,i2,HE⟩:∃pn pr,wr.cell? ⟨b,off+j*12+1,none⟩=some (.int .i64 pn)∧wr.cell? ⟨b,off+j*12+2,none⟩=some (.int .i64 pr)∧okk=zam pn pr o.atN o.atR:=by
      obtain⟨_,_,_,_,_,_,_,i1,i2,_⟩:=zaa HP j ej
      exact⟨_,_,i1,i2,zaa HS j ej hq⟩
     replace i1:=Gr.cell g4' i1
     replace i2:=Gr.cell g4' i2
     clear H0 HZ HS HP hq hpos
     have HLL:=hide (fun W=>zaa HL W pn pr o.atN o.atR)
     generalize zam pn pr o.atN o.atR=lb at *
     subst HE
     clear HL ej
     go_wp2_with fail
     refine zaC (by kernel_rfl) (by kernel_rfl) ?_
     repeat (go_big_quiet_step ((rename_i p;first | exact zbT (zaa HX _ _ ((zaa HR).keep p.h)) | exact zbT (zaa HLL _))))
     refine wpQuiet_nil ?_
     rintro _ ⟨p,rfl⟩
     have hB3:=zad hB p.h
     clear e0 e1 e2 e3 e4 e5 e6 e7 e8 e9 e10 e11 HR i1 i2
     cases okk with
     | true=>
      go_wp2_with fail
      go_roundw
      case rel=>exact⟨k+1,by omega,by go_num,fun j hj=>zaa HJ j hj rfl,hB3⟩
      case measure=>simp [intOf];omega
     | false=>
      have HF:=hide (zaa HNK rfl)
      clear HNK
      go_wp2_with fail
      go_ret
      exact⟨by rw [zaa HF];rfl,hB3⟩
   ·have hq':opB o=false:=by simpa using hq
    rw [hq']at HX
    have HY:=hide (zaa HNK (zaa H0 hq'))
    clear H0 HZ HS HP hq hq' HL HNK
    go_wp2_with fail
    refine zaC (by kernel_rfl) (by kernel_rfl) ?_
    repeat (go_big_quiet_step ((rename_i p;exact zbT (zaa HX _ _ ((zaa HR).keep p.h)))))
    refine wpQuiet_nil ?_
    rintro _ ⟨p,rfl⟩
    have hB3:=zad hB p.h
    clear e0 e1 e2 e3 e4 e5 e6 e7 e8 e9 e10 e11 HR
    go_wp2_with fail
    go_ret
    exact⟨by rw [zaa HY];rfl,hB3⟩
  ·have HY:=hide (zaa HG (fun j hj=>hok j (by omega)))
   clear g5
   go_wp2_with fail
   go_ret
   exact⟨by rw [zaa HY];rfl,hB⟩
def zdn {n:Nat} (t:Tr (n+1)) (ops:List OpV):Bool:=okN n t && !zar t.name && opsB ops
def zdO {n:Nat} (t:Tr (n+1)) (ops:List OpV):List PlV:=if zdn t ops=true then zaJ t ops else []
def FoR (w:World) (b:Bool) (R:List PlV) (e:Ending) (w':World):Prop:=∃a c F,e=.returned (.tuple #[.agg #[.slice a R.length c],.bool b])∧OwPls w' (.slice a R.length c) R F∧F.Nodup∧(∀q∈F,w.heap.size≤q∧q<w'.heap.size)∧Below w.heap.size w w'
theorem FoR.no {w w':World} (h:Below w.heap.size w w'):FoR w false [] (.returned (.tuple #[.agg #[.slice none 0 0],.bool false])) w':=
 ⟨none,0,[],rfl,⟨[],[],rfl,rfl,fun i hi=>(by cases hi),World.ownsRow_nil _ _ _ _,rfl⟩,List.nodup_nil,fun q hq=>(by cases hq),h⟩
def BdA (x:List Int×List Int):Prop:=x.1.length≤100000000∧x.2.length≤100000000
def BdP (p:PlV):Prop:=p.key.length≤100000000∧p.name.length≤100000000∧p.text.length≤100000000∧p.attrs.length≤100000000∧∀x∈p.attrs,BdA x
def BdO (l:List PlV):Prop:=l.length≤100000000∧∀p∈l,BdP p
def GdA (x:AtV):Prop:=x.1.length≤100∧x.2.length≤100
def Gd (p:PlV):Prop:=p.key.length≤100∧p.name.length≤100∧p.text.length≤100∧SrtA p.attrs∧p.attrs.length≤4∧∀x∈p.attrs,GdA x
theorem zfa {l:List Int} (h:zai l):okB l:=fun x hx=>by
 obtain⟨i,hi,rfl⟩:=List.getElem_of_mem hx
 have h1:=h.2.2 i hi
 rw [zcF hi]at h1
 unfold zcI at h1
 omega
theorem zoC {l:List AtV} (h:zal l):SrtA l:=by
 have hn:∀i (hi:i<l.length),zai l[i].1:=fun i hi=>by
  have h1:=(h.2 i hi).1
  rw [List.getD_eq_getElem?_getD,List.getElem?_eq_getElem hi]at h1
  exact h1
 have hs:∀i (hi:i+1<l.length),klB l[i].1 l[i+1].1=true:=fun i hi=>by
  have h1:=(h.2 (i+1) hi).2.2 (by omega)
  rw [show i+1-1=i by omega,List.getD_eq_getElem?_getD,List.getElem?_eq_getElem (show i<l.length by omega),List.getD_eq_getElem?_getD,List.getElem?_eq_getElem hi]at h1
  rw [←zfj (zfa (hn i (by omega))) (zfa (hn (i+1) hi))]
  exact h1
 refine List.pairwise_iff_getElem.2 (fun i j hi hj hij=> ?_)
 obtain⟨d,rfl⟩:∃d,j=i+1+d:=⟨j-i-1,by omega⟩
 induction d with
 | zero=>exact hs i hj
 | succ d ih=>exact zdB (ih (by omega) (by omega)) (hs (i+1+d) hj)
theorem zmv {l:List AtV} (h:zal l):SrtA l∧l.length≤4∧∀x∈l,GdA x:=by
 refine⟨zoC h,h.1,fun x hx=> ?_⟩
 obtain⟨i,hi,rfl⟩:=List.getElem_of_mem hx
 have h1:=h.2 i hi
 unfold zbY at h1
 rw [List.getD_eq_getElem?_getD,List.getElem?_eq_getElem hi]at h1
 have a1:=h1.1.2.1
 have a2:=h1.2.1.1
 simp only [Option.getD_some]at a1 a2
 exact⟨by omega,by omega⟩
theorem zjO {n:Nat} {deep:Int} {t:Tr (n+1)} {left:Int} (h:(okT (n+1) deep t left).1=true):t.name.length≤100∧t.text.length≤100∧SrtA t.attrs∧t.attrs.length≤4∧∀x∈t.attrs,GdA x:=by
 rw [zbj]at h
 by_cases h1:left-1<0∨20<deep
 ·rw [if_pos h1]at h;cases h
 ·rw [if_neg h1]at h
  by_cases h2:t.kind=1
  ·rw [if_pos h2]at h
   obtain⟨a1,a2,_,a4⟩:=(zaZ t).1 h
   have e:t.attrs=[]:=List.eq_nil_of_length_eq_zero a2
   rw [e]
   have:=a4.1
   exact⟨by omega,by omega,List.Pairwise.nil,by simp,fun x hx=>by cases hx⟩
  ·rw [if_neg h2]at h
   by_cases h3:zaP t=true
   ·obtain⟨_,a2,a3,a4,_⟩:=(zbe t).1 h3
    have:=a2.2.1
    exact⟨by omega,by omega,zmv a4⟩
   ·rw [if_neg h3]at h;cases h
theorem ziV:∀(n:Nat) (deep:Int) (ks:List (Tr n)) (left:Int) (i:IdV) (acc:List PlV),0≤left→(okK (okT n deep) ks left).1=true→∀p∈zaz n i ks acc,p∈acc∨Gd p
 | 0,deep,ks,left,i,acc,h0,h=>fun p hp=>.inl hp
 | n+1,deep,ks,left,i,acc,h0,h=>by
  have key:∀(f:Nd (Tr n)→Int→Bool×Int),(∀x left,f x left=okT (n+1) deep x left)→∀(ks:List (Nd (Tr n))) (k:Nat) (acc:List PlV) (left:Int),0≤left→(okK f ks left).1=true→
    ∀p∈(ks.zipIdx k).foldl (zaW n i) acc,p∈acc∨Gd p:=by
   intro f hf ks
   induction ks with
   | nil=>intro k acc left _ _ p hp;exact .inl hp
   | cons x r ih=>
    intro k acc left h0 h
    have h1':(f x left).1=true:=by
     cases hb:(f x left).1 with
     | true=>rfl
     | false=>simp [okK,hb]at h
    have e1:okK f (x::r) left=okK f r (f x left).2:=by simp [okK,h1']
    rw [e1]at h
    have h1:(okT (n+1) deep x left).1=true:=by rw [←hf];exact h1'
    have e3:=hf x left
    rw [e3]at h
    have hb:=zdA (n+1) deep x left h0
    obtain⟨p1,p2,p3,p4⟩:=zcq h1
    have hk:=ziV n (deep+1) x.kids (left-1) (0,(acc.length:Int)) (acc++[zaK acc.length i x k]) p2 p3
    have hr:=ih (k+1) (zaW n i acc (x,k)) _ (hb.2.2 h1) h
    rw [List.zipIdx_cons,List.foldl_cons]
    intro p hp
    rcases hr p hp with h7 | h7
    ·rcases hk p h7 with h8 | h8
     ·rcases List.mem_append.1 h8 with h9 | h9
      ·exact .inl h9
      ·have e:p=zaK acc.length i x k:=by simpa using h9
       subst e
       obtain⟨g1,g2,g3⟩:=zjO h1
       exact .inr ⟨by simp [zaK],g1,g2,g3⟩
     ·exact .inr h8
    ·exact .inr h7
  exact key (okT (n+1) deep) (fun _ _=>rfl) ks 0 acc left h0 h
theorem zlY:∀(n:Nat) (i:IdV) (ks:List (Tr n)) (acc:List PlV),Fr acc→SeedIds acc→(∃j,posP acc i=some j)→Fr (zaz n i ks acc)∧(∀id j,posP acc id=some j→posP (zaz n i ks acc) id=some j)∧∀k,k<acc.length→(zaz n i ks acc)[k]? = acc[k]?
 | 0,i,ks,acc,h,hs,hp=>⟨h,fun _ _ h=>h,fun _ _=>rfl⟩
 | n+1,i,ks,acc,h,hs,hp=>by
  have key:∀(ks:List (Nd (Tr n))) (k:Nat) (acc:List PlV),Fr acc→SeedIds acc→(∃j,posP acc i=some j)→Fr ((ks.zipIdx k).foldl (zaW n i) acc)∧(∀id j,posP acc id=some j→posP ((ks.zipIdx k).foldl (zaW n i) acc) id=some j)∧∀m,m<acc.length→((ks.zipIdx k).foldl (zaW n i) acc)[m]? = acc[m]? :=by
   intro ks
   induction ks with
   | nil=>intro k acc h _ _;exact⟨h,fun _ _ h=>h,fun _ _=>rfl⟩
   | cons x r ih=>
    intro k acc h hs hp
    obtain⟨j,hj⟩:=hp
    rw [List.zipIdx_cons,List.foldl_cons]
    have hn:posP acc (zaK acc.length i x k).id=none:=hs.new
    have h1:Fr (acc++[zaK acc.length i x k]):=h.add hn (show posP acc (zaK acc.length i x k).par=some j from hj)
    have hs1:SeedIds (acc++[zaK acc.length i x k]):=hs.snoc rfl rfl
    have hp1:posP (acc++[zaK acc.length i x k]) (0,(acc.length:Int))=some acc.length:=by
     have:=zge (i:=(zaK acc.length i x k).id) hn
     rw [if_pos rfl]at this
     exact this
    obtain⟨a1,a2,a3⟩:=zlY n (0,(acc.length:Int)) x.kids (acc++[zaK acc.length i x k]) h1 hs1 ⟨_,hp1⟩
    have hs2:SeedIds (zaW n i acc (x,k)):=SeedIds.K n _ _ _ hs1
    obtain⟨b1,b2,b3⟩:=ih (k+1) (zaW n i acc (x,k)) a1 hs2 ⟨j,a2 i j (zdm hj)⟩
    have hle:acc.length+1≤(zaW n i acc (x,k)).length:=zeW n i acc (x,k)
    refine⟨b1,fun id m hm=>b2 id m (a2 id m (zdm hm)),fun m hm=> ?_⟩
    rw [b3 m (by omega)]
    have:=a3 m (by simp;omega)
    rw [List.getElem?_append_left hm]at this
    exact this
  exact key ks 0 acc h hs hp
def zeD {n:Nat} (t:Nd (Tr n)):PlV:=⟨0,0,0,0,[],0,t.name,[],t.attrs⟩
def zaF {n:Nat} (t:Nd (Tr n)):List PlV:=[zeD t,zaM]
def zhH {n:Nat} (t:Nd (Tr n)):List PlV:=zaz n (0,0) t.kids (zaF t)
theorem zrw {n:Nat} (t:Nd (Tr n)):Fr (zaF t):=by
 refine⟨by simp [zaF],fun p h=> ?_,fun p h=> ?_,?_,fun i p hi h=> ?_,⟨fun _=>0,fun i p hi h=> ?_⟩⟩
 ·simp [zaF]at h;rw [←h];rfl
 ·simp [zaF]at h;rw [←h];rfl
 ·simp [zaF,zeD,zaM,PlV.id]
 ·have:=(List.getElem?_eq_some_iff.1 h).1
  simp [zaF]at this
  omega
 ·have:=(List.getElem?_eq_some_iff.1 h).1
  simp [zaF]at this
  omega
theorem zfp {n:Nat} (t:Nd (Tr n)):SeedIds (zaF t):=fun p hp=>by
 simp [zaF]at hp
 rcases hp with rfl | rfl
 ·exact⟨rfl,(show (0:Int)≤0 by decide),by simp [zaF,zeD]⟩
 ·exact⟨rfl,(show (0:Int)≤1 by decide),by simp [zaF,zaM]⟩
structure Alg (l:List PlV) (done:List OpV):Prop where
 fr:Fr l
 gd:∀p∈l,Gd p
 kd:Kd2 l
 ids:∀p∈l,p.idN=0∨∃o∈done,p.id=o.at'
 len:l.length≤121+done.length
theorem Alg.at {l:List PlV} {done:List OpV} (h:Alg l done):AtI l:=fun p hp=>⟨(h.gd p hp).2.2.2.1,(h.gd p hp).2.2.2.2.1⟩
theorem zjA {n:Nat} {t:Tr (n+1)} (h:okN n t=true):Alg (zhH t) []:=by
 obtain⟨hk,ho⟩:=Bool.and_eq_true_iff.1 (show (decide (t.kind=0) && (okT (n+1) 1 t 120).1)=true from h)
 obtain⟨p1,p2,p3,p4⟩:=zcq ho
 obtain⟨g1,g2,g3⟩:=zjO ho
 have hbase:∀p∈zaF t,Gd p:=fun p hp=>by
  simp [zaF]at hp
  rcases hp with rfl | rfl
  ·exact⟨by simp [zeD],g1,by simp [zeD],g3⟩
  ·exact⟨by simp [zaM],by decide,by simp [zaM],List.Pairwise.nil,by simp [zaM],fun x hx=>by cases hx⟩
 obtain⟨f1,f2,f3⟩:=zlY n (0,0) t.kids (zaF t) (zrw t) (zfp t) ⟨0,posP_some.2 ⟨by simp [zaF],rfl,fun j hj=>by omega⟩⟩
 refine⟨f1,fun p hp=> ?_,fun k p hk2 hp=> ?_,fun p hp=>.inl ((zfp t).K n (0,0) t.kids (zaF t) p hp).1,?_⟩
 ·rcases ziV n 2 t.kids (120-1) (0,0) (zaF t) p2 p3 p hp with e | e
  ·exact hbase p e
  ·exact e
 ·rw [show zhH t=zaz n (0,0) t.kids (zaF t) from rfl,f3 k (by simpa [zaF]using hk2)]at hp
  match k,hk2 with
  | 0,_=>simp [zaF]at hp;rw [←hp];rfl
  | 1,_=>simp [zaF]at hp;rw [←hp];rfl
 ·have h9:(zhH t).length≤(zaF t).length+119:=(zlL h (zaF t) (fun p hp=>(hbase p hp).2.2.2.2.1)).1
  have e2:(zaF t).length=2:=rfl
  rw [e2]at h9
  exact h9
theorem zqH {l:List AtV} (h:∀x∈l,GdA x) (o:OpV) (hn:o.name.length≤100) (ht:o.text.length≤100):∀x∈chgI l o,GdA x:=by
 have hx:GdA (o.name,o.text):=⟨hn,ht⟩
 unfold chgI
 intro x hx'
 split at hx'
 ·split at hx'
  ·rcases List.mem_append.1 hx' with e | e
   ·exact h x (List.mem_of_mem_take e)
   ·exact h x (List.mem_of_mem_drop e)
  ·rcases List.mem_or_eq_of_mem_set hx' with e | e
   ·exact h x e
   ·rw [e];exact hx
 ·split at hx'
  ·exact h x hx'
  ·split at hx'
   ·exact h x hx'
   ·rcases List.mem_append.1 hx' with e | e
    ·exact h x (List.mem_of_mem_take e)
    ·rcases List.mem_cons.1 e with e | e
     ·rw [e];exact hx
     ·exact h x (List.mem_of_mem_drop e)
theorem zsr {l:List PlV} (h:∀p∈l,Gd p) (o:OpV) (hk:o.key.length≤100) (hn:o.name.length≤100) (ht:o.text.length≤100):∀p∈doV l o,Gd p:=by
 unfold doV
 split
 ·split
  ·intro p hp
   rcases List.mem_append.1 hp with hp | hp
   ·exact h p hp
   ·have e:p=newP o:=by simpa using hp
    rw [e]
    exact⟨hk,hn,ht,List.Pairwise.nil,by simp [newP],fun x hx=>by cases hx⟩
  ·exact h
 ·split
  ·exact h
  ·split
   ·exact h
   ·rename_i p hp
    obtain⟨a1,a2,a3,a4,a5,a6⟩:=h p (List.mem_of_getElem? hp)
    split
    ·split
     ·intro q hq
      rcases zcE hq with hq | rfl
      ·exact h q hq
      ·exact⟨hk,a2,a3,a4,a5,a6⟩
     ·exact h
    ·split
     ·split
      ·intro q hq
       rcases zcE hq with hq | rfl
       ·exact h q hq
       ·exact⟨a1,a2,ht,a4,a5,a6⟩
      ·exact h
     ·split
      ·intro q hq
       rcases zcE hq with hq | rfl
       ·exact h q hq
       ·refine⟨a1,a2,a3,?_⟩
        show SrtA (setAttrs p.attrs o)∧(setAttrs p.attrs o).length≤4∧∀x∈setAttrs p.attrs o,GdA x
        rw [zfw a4 a5]
        exact⟨zhW a4 o,zhS a5 o,zqH a6 o hn ht⟩
      ·exact h
theorem zso {l:List PlV} (o:OpV):∀p∈doV l o,(∃q∈l,p.id=q.id)∨p.id=o.at':=by
 unfold doV
 split
 ·split
  ·intro p hp
   rcases List.mem_append.1 hp with hp | hp
   ·exact .inl ⟨p,hp,rfl⟩
   ·have e:p=newP o:=by simpa using hp
    rw [e];exact .inr rfl
  ·exact fun p hp=>.inl ⟨p,hp,rfl⟩
 ·split
  ·exact fun p hp=>.inl ⟨p,hp,rfl⟩
  ·split
   ·exact fun p hp=>.inl ⟨p,hp,rfl⟩
   ·rename_i p hp
    have hm:=List.mem_of_getElem? hp
    split
    ·split
     ·intro q hq
      rcases zcE hq with hq | rfl
      ·exact .inl ⟨q,hq,rfl⟩
      ·exact .inl ⟨p,hm,rfl⟩
     ·exact fun p hp=>.inl ⟨p,hp,rfl⟩
    ·split
     ·split
      ·intro q hq
       rcases zcE hq with hq | rfl
       ·exact .inl ⟨q,hq,rfl⟩
       ·exact .inl ⟨p,hm,rfl⟩
      ·exact fun p hp=>.inl ⟨p,hp,rfl⟩
     ·split
      ·intro q hq
       rcases zcE hq with hq | rfl
       ·exact .inl ⟨q,hq,rfl⟩
       ·exact .inl ⟨p,hm,rfl⟩
      ·exact fun p hp=>.inl ⟨p,hp,rfl⟩
theorem zsd (l:List PlV) (o:OpV):(doV l o).length≤l.length+1:=by
 unfold doV
 split
 ·split
  ·simp
  ·omega
 ·split
  ·omega
  ·split
   ·omega
   ·split
    ·split
     ·simp
     ·omega
    ·split
     ·split
      ·simp
      ·omega
     ·split
      ·simp
      ·omega
theorem zop {x:OpV} (h:zbl x=true):x.key.length=0∧x.name.length=0∧x.text.length=0:=by
 unfold zbl at h
 simp only [Bool.and_eq_true]at h
 obtain⟨_,_,_,_,h5,_,h7,h8,_⟩:=h
 have hz:∀{t:List Int},((t.length:Int) == 0)=true→t.length=0:=fun h=>by simpa using h
 exact⟨hz h5,hz h7,hz h8⟩
theorem zmd {o:OpV} (h:opB o=true):o.key.length≤100∧o.name.length≤100∧o.text.length≤100:=by
 have htx:∀{t:List Int},zbo t=true→t.length≤30:=fun h=>((zbB _).1 h).1
 have hnm:∀{t:List Int},zbA t=true→t.length≤8:=fun h=>((zbv _).1 h).2.1
 have hky:∀{t:List Int},keyB t=true→t.length≤12:=fun h=>((zei _).1 h).2.1
 have hz:∀{t:List Int},((t.length:Int) == 0)=true→t.length=0:=fun h=>by simpa using h
 rcases zhY h with hk | hk | hk | hk
 ·rw [zjp hk]at h
  simp only [Bool.and_eq_true]at h
  have h1:=hky h.2.1.2.1
  have h2:=h.2.1.2.2
  unfold zcy at h2
  by_cases e0:o.elem=0
  ·rw [if_pos e0,Bool.and_eq_true]at h2
   have:=hnm h2.1
   have:=hz h2.2
   omega
  ·rw [if_neg e0]at h2
   by_cases e1:o.elem=1
   ·rw [if_pos e1,Bool.and_eq_true]at h2
    have:=hz h2.1
    have:=htx h2.2
    omega
   ·rw [if_neg e1]at h2;cases h2
 ·rw [zjt hk]at h
  simp only [Bool.and_eq_true]at h
  have h1:=hky h.2.1.2.2
  have h2:=zop h.2.2
  have e1:o.name.length=0:=h2.2.1
  have e2:o.text.length=0:=h2.2.2
  omega
 ·rw [zjs hk]at h
  simp only [Bool.and_eq_true]at h
  have h1:=htx h.2.1.2
  have h2:=zop h.2.2
  have e1:o.key.length=0:=h2.1
  have e2:o.name.length=0:=h2.2.1
  omega
 ·rw [zjo hk]at h
  simp only [Bool.and_eq_true]at h
  have h1:=hnm h.2.1.2.1
  have h3:=h.2.1.2.2
  have h2:=zop h.2.2
  have e1:o.key.length=0:=h2.1
  unfold valB at h3
  by_cases eg:o.gone=true
  ·rw [if_pos eg]at h3
   have:=hz h3
   omega
  ·rw [if_neg eg]at h3
   have:=htx h3
   omega
theorem Alg.new {l:List PlV} {ops:List OpV} (ho:opsB ops=true) {j:Nat} (hj:j<ops.length) (h:Alg l (ops.take j)) (h0:ops[j].kind=0):posP l ops[j].at'=none:=posP_none.2 (fun p hp e=>by
 obtain⟨hst,_⟩:=zoJ (zdv ho hj) h0
 have h1:1≤ops[j].atN:=by unfold zan at hst;simp only [Bool.and_eq_true,decide_eq_true_eq]at hst;exact hst.1
 have eN:p.idN=ops[j].atN:=(Prod.mk.inj e).1
 rcases h.ids p hp with h9 | ⟨o,hom,h9⟩
 ·omega
 ·obtain⟨i,hi,rfl⟩:=List.getElem_of_mem hom
  have hi':i<j:=by rw [List.length_take]at hi;omega
  have hs:=zlz ho hi' hj
  have e2:(ops.take j)[i]=ops[i]'(by omega):=List.getElem_take ..
  rw [e2]at h9
  have e3:(ops[i]'(by omega)).at'=ops[j].at':=h9.symm.trans e
  have eA:(ops[i]'(by omega)).atN=ops[j].atN:=(Prod.mk.inj e3).1
  have eB:(ops[i]'(by omega)).atR=ops[j].atR:=(Prod.mk.inj e3).2
  rw [eA,eB,zpw]at hs
  cases hs)
theorem Alg.step {l:List PlV} {ops:List OpV} (ho:opsB ops=true) {j:Nat} (hj:j<ops.length) (h:Alg l (ops.take j)):Alg (doV l ops[j]) (ops.take (j+1)):=by
 obtain⟨k1,k2,k3⟩:=zmd (zdv ho hj)
 have e:ops.take (j+1)=ops.take j++[ops[j]]:=List.take_succ_eq_append_getElem hj
 refine⟨h.fr.do _ (fun h0=>h.new ho hj h0),zsr h.gd _ k1 k2 k3,h.kd.do h.fr.two _,fun p hp=> ?_,?_⟩
 ·rw [e]
  rcases zso _ p hp with ⟨q,hq,e1⟩ | e1
  ·rcases h.ids q hq with e2 | ⟨o,hom,e2⟩
   ·exact .inl (by have:=(Prod.mk.inj e1).1;omega)
   ·exact .inr ⟨o,List.mem_append_left _ hom,e1.trans e2⟩
  ·exact .inr ⟨ops[j],List.mem_append_right _ (List.mem_singleton.2 rfl),e1⟩
 ·have:=zsd l ops[j]
  have:=h.len
  rw [e,List.length_append,List.length_singleton]
  omega
def zdq {n:Nat} (t:Nd (Tr n)) (ops:List OpV) (j:Nat):List PlV:=(ops.take j).foldl doV (zhH t)
theorem zfg {n:Nat} (t:Nd (Tr n)) (ops:List OpV) {j:Nat} (hj:j<ops.length):zdq t ops (j+1)=doV (zdq t ops j) ops[j]:=by
 unfold zdq
 rw [List.take_succ_eq_append_getElem hj,List.foldl_append]
 rfl
theorem zga {n:Nat} (t:Nd (Tr n)) (ops:List OpV):zdq t ops ops.length=zaJ t ops:=by unfold zdq;rw [List.take_length];rfl
theorem zek {n:Nat} {t:Tr (n+1)} (h:okN n t=true) {ops:List OpV} (ho:opsB ops=true):∀j,j≤ops.length→Alg (zdq t ops j) (ops.take j)
 | 0,_=>by rw [List.take_zero];exact zjA h
 | j+1,hj=>by rw [zfg t ops (by omega)];exact (zek h ho j (by omega)).step ho (by omega)
theorem zrK {n:Nat} {t:Tr (n+1)} (h:okN n t=true) {ops:List OpV} (ho:opsB ops=true):BdO (zaJ t ops)∧(zaJ t ops).length≤271:=by
 have ha0:=zek h ho ops.length (Nat.le_refl _)
 rw [List.take_length]at ha0
 have ha:Alg (zaJ t ops) ops:=by
  have e:=zga (n:=n) t ops
  rw [←e]
  exact ha0
 have h1:=(zcW ho).1
 have h2:=ha.len
 refine⟨⟨by omega,fun p hp=> ?_⟩,by omega⟩
 obtain⟨a1,a2,a3,a4,a5,a6⟩:=ha.gd p hp
 exact⟨by omega,by omega,by omega,by omega,fun x hx=>⟨by have:=(a6 x hx).1;omega,by have:=(a6 x hx).2;omega⟩⟩
end Go.Proofs.YtlpnibbdmkeklaaGreatDoor
namespace Go.Proofs.YtlpnibbdmkeklaaGreatDoor
set_option linter.unusedVariables false
structure FrW (l:List PlV):Prop where
 two:2≤l.length
 root:∀p,l[0]? = some p→p.id=zak
 trash:∀p,l[1]? = some p→p.id=zag
 uniq:(l.map PlV.id).Nodup
 par:∀i p,2≤i→l[i]? = some p→∃j,posP l p.par=some j
theorem FrW.low {l:List PlV} (h:FrW l) {i:IdV} {k:Nat} (hk:posP l i=some k):k<2↔i=zak∨i=zag:=by
 obtain⟨p,hp,rfl⟩:=zbm hk
 have h2:=h.two
 obtain⟨p0,h0⟩:∃p0,l[0]? = some p0:=⟨l[0],by simp [show 0<l.length by omega]⟩
 obtain⟨p1,h1⟩:∃p1,l[1]? = some p1:=⟨l[1],by simp [show 1<l.length by omega]⟩
 constructor
 ·intro hlt
  match k,hlt with
  | 0,_=>exact .inl (h.root p hp)
  | 1,_=>exact .inr (h.trash p hp)
 ·rintro (e | e)
  ·have:=zbn h.uniq h0
   rw [h.root p0 h0,←e,hk]at this
   cases this;decide
  ·have:=zbn h.uniq h1
   rw [h.trash p1 h1,←e,hk]at this
   cases this;decide
theorem php:∀(n:Nat) (l:List Nat),l.Nodup→(∀x∈l,x<n)→l.length≤n
 | 0,l,_,h=>by
  cases l with
  | nil=>simp
  | cons a r=>exact absurd (h a (List.mem_cons_self ..)) (by omega)
 | n+1,l,hn,h=>by
  by_cases e:n∈l
  ·have h1:=php n (l.erase n) (hn.erase n) (fun x hx=>by
    have h2:=h x (List.mem_of_mem_erase hx)
    have h3:x≠n:=fun e'=>by
     subst e'
     exact (List.Nodup.not_mem_erase hn) hx
    omega)
   rw [List.length_erase_of_mem e]at h1
   omega
  ·have h1:=php n l hn (fun x hx=>by
    have h2:=h x hx
    have h3:x≠n:=fun e'=>e (e' ▸ hx)
    omega)
   omega
theorem zrk (n:Nat) (f:Nat→Nat) (h:∀i,i≤n→f i<n):∃a b,a<b∧b≤n∧f a=f b:=by
 by_cases hd:((List.range (n+1)).map f).Nodup
 ·have:=php n _ hd (fun x hx=>by
   obtain⟨i,hi,rfl⟩:=List.mem_map.1 hx
   exact h i (by have:=List.mem_range.1 hi;omega))
  simp at this
  omega
 ·have hd':¬ ∀i j (hi:i<((List.range (n+1)).map f).length) (hj:j<((List.range (n+1)).map f).length),i<j→((List.range (n+1)).map f)[i]≠((List.range (n+1)).map f)[j]:=fun h'=>hd (List.pairwise_iff_getElem.2 h')
  apply Classical.byContradiction
  intro hc
  apply hd'
  intro i j hi hj hij e
  simp at hi hj e
  exact hc ⟨i,j,hij,by omega,e⟩
def upP (l:List PlV) (i:Nat):Nat:=match l[i]? with
 | some p=>(posP l p.par).getD 0
 | none=>0
def upN (l:List PlV):Nat→Nat→Nat
 | 0,i=>i
 | m+1,i=>upN l m (upP l i)
theorem zgn (l:List PlV):∀(a b i:Nat),upN l (a+b) i=upN l b (upN l a i)
 | 0,b,i=>by simp [upN]
 | a+1,b,i=>by rw [show a+1+b=(a+b)+1 by omega,upN,upN,zgn l a b]
theorem zpk (l:List PlV) (m i:Nat):upN l (m+1) i=upP l (upN l m i):=by rw [zgn l m 1];rfl
theorem FrW.up {l:List PlV} (h:FrW l) {i:Nat} {p:PlV} (hi:2≤i) (hp:l[i]? = some p):posP l p.par=some (upP l i):=by
 obtain⟨j,hj⟩:=h.par i p hi hp
 unfold upP
 rw [hp]
 simp [hj]
theorem FrW.upLt {l:List PlV} (h:FrW l) (i:Nat):upP l i<l.length:=by
 have h2:=h.two
 unfold upP
 cases hp:l[i]? with
 | none=>simp;omega
 | some p=>
  simp only
  cases hq:posP l p.par with
  | none=>simp;omega
  | some k=>simp;exact (posP_some.1 hq).1
theorem zfQ {l:List PlV} (h:FrW l) {b:Nat} {q:PlV} (hq:l[b]? = some q):∀(m i f:Nat) (p:PlV),l[i]? = some p→(∀j,j<m→2≤upN l j i)→upN l m i=b→m<f→zav l f p.id q.id=true
 | 0,i,f,p,hp,_,he,hf=>by
  obtain⟨f',rfl⟩:∃f',f=f' + 1:=⟨f-1,by omega⟩
  have e:i=b:=he
  subst e
  rw [hp]at hq
  cases hq
  unfold zav
  rw [if_pos rfl]
 | m+1,i,f,p,hp,hj,he,hf=>by
  obtain⟨f',rfl⟩:∃f',f=f' + 1:=⟨f-1,by omega⟩
  have hi:2≤i:=hj 0 (by omega)
  have hk:=zbn h.uniq hp
  have hn:¬ (p.id=zak∨p.id=zag):=fun e=>by have:=(h.low hk).2 e;omega
  have hu:=h.up hi hp
  obtain⟨r,hr,er⟩:=zbm hu
  have ih:=zfQ h hq m (upP l i) f' r hr (fun j hj'=>hj (j+1) (by omega)) he (by omega)
  by_cases e:p.id=q.id
  ·unfold zav
   rw [if_pos e]
  ·unfold zav
   rw [if_neg e,if_neg hn,hk]
   simp only [hp]
   rw [←er]
   exact ih
theorem FrW.tops {l:List PlV} (h:FrW l) (hc:∀i p,2≤i→l[i]? = some p→zav l l.length p.par p.id=false) (i:Nat) (hi:i<l.length):∃m,m≤l.length∧upN l m i<2:=by
 apply Classical.byContradiction
 intro hno
 have hge:∀m,m≤l.length→2≤upN l m i:=fun m hm=>by
  rcases Nat.lt_or_ge (upN l m i) 2 with h' | h'
  ·exact absurd ⟨m,hm,h'⟩ hno
  ·exact h'
 have hlt:∀m,m≤l.length→upN l m i<l.length:=fun m hm=>by
  cases m with
  | zero=>exact hi
  | succ m=>rw [zpk];exact h.upLt _
 obtain⟨a,b,hab,hb,e⟩:=zrk l.length (fun m=>upN l m i) hlt
 have e:upN l a i=upN l b i:=e
 have hla:=hlt a (by omega)
 obtain⟨q,hq⟩:∃q,l[upN l a i]? = some q:=⟨l[upN l a i],by simp [hla]⟩
 have h2:=hge a (by omega)
 have hu:=h.up h2 hq
 obtain⟨r,hr,er⟩:=zbm hu
 have hm:upN l (b-a-1) (upP l (upN l a i))=upN l a i:=by
  have h3:=zgn l a (b-a) i
  rw [show a+(b-a)=b by omega]at h3
  rw [show b-a=(b-a-1)+1 by omega,upN]at h3
  rw [←h3,←e]
 have:=zfQ h hq (b-a-1) (upP l (upN l a i)) l.length r hr (fun j hj=>by
  have h3:=zgn l a (j+1) i
  rw [upN]at h3
  rw [←h3]
  exact hge _ (by omega)) hm (by omega)
 rw [er,hc _ q h2 hq]at this
 cases this
def depP (l:List PlV):Nat→Nat→Nat
 | 0,_=>0
 | f+1,i=>if i<2 then 0 else 1+depP l f (upP l i)
theorem ziY {l:List PlV}:∀(m f f' i:Nat),upN l m i<2→m≤f→m≤f'→depP l f i=depP l f' i
 | 0,f,f',i,h,_,_=>by
  have h:i<2:=h
  have:∀f,depP l f i=0:=fun f=>by
   cases f with
   | zero=>rfl
   | succ f=>unfold depP;rw [if_pos h]
  rw [this,this]
 | m+1,f,f',i,h,h1,h2=>by
  obtain⟨g,rfl⟩:∃g,f=g+1:=⟨f-1,by omega⟩
  obtain⟨g',rfl⟩:∃g',f'=g' + 1:=⟨f' - 1,by omega⟩
  unfold depP
  by_cases hi:i<2
  ·rw [if_pos hi,if_pos hi]
  ·rw [if_neg hi,if_neg hi,ziY m g g' (upP l i) h (by omega) (by omega)]
theorem FrW.fr {l:List PlV} (h:FrW l) (hc:∀i p,2≤i→l[i]? = some p→zav l l.length p.par p.id=false):Fr l:=by
 refine⟨h.two,h.root,h.trash,h.uniq,h.par,fun i=>depP l l.length ((posP l i).getD 0),fun i p hi hp=> ?_⟩
 have hlt:i<l.length:=(List.getElem?_eq_some_iff.1 hp).1
 simp only [zbn h.uniq hp,h.up hi hp,Option.getD_some]
 obtain⟨m,hm,ht⟩:=h.tops hc i hlt
 obtain⟨m',rfl⟩:∃m',m=m' + 1:=⟨m-1,by
  rcases Nat.eq_zero_or_pos m with e | e
  ·subst e
   have:i<2:=ht
   omega
  ·omega⟩
 have ht':upN l m' (upP l i)<2:=ht
 obtain⟨n,hn⟩:∃n,l.length=n+1:=⟨l.length-1,by omega⟩
 have e1:depP l l.length i=1+depP l n (upP l i):=by
  rw [hn]
  conv=>lhs;unfold depP
  rw [if_neg (by omega)]
 rw [e1,ziY m' n l.length (upP l i) ht' (by omega) (by omega)]
 omega
theorem FrW.within_under {l:List PlV} (h:FrW l) (b:IdV):∀(f g:Nat) (i:IdV) (k:Nat),posP l i=some k→f≤g→zav l f i b=true→zay l g i b=true
 | 0,_,_,_,_,_,h'=>by unfold zav at h';cases h'
 | f+1,0,_,_,_,h1,_=>by omega
 | f+1,g+1,i,k,hk,h1,h'=>by
  unfold zav at h'
  unfold zay
  by_cases e:i=b
  ·rw [if_pos e]
  ·rw [if_neg e]at h' ⊢
   by_cases hn:i=zak∨i=zag
   ·rw [if_pos hn]at h';cases h'
   ·rw [if_neg hn]at h'
    have hk2:¬ k<2:=fun e'=>hn ((h.low hk).1 e')
    obtain⟨p,hp,rfl⟩:=zbm hk
    obtain⟨j,hj⟩:=h.par k p (by omega) hp
    simp only [hk,hp]at h' ⊢
    rw [if_neg hk2]
    exact FrW.within_under h b f g p.par j hj (by omega) h'
theorem FrW.free {l:List PlV} (h:FrW l):(∀i p,2≤i→l[i]? = some p→zav l l.length p.par p.id=false)↔(∀i p,2≤i→l[i]? = some p→zay l (l.length+1) p.par p.id=false):=by
 constructor
 ·intro hc i p hi hp
  rw [(h.fr hc).under _ _ _ (h.up hi hp)]
  exact hc i p hi hp
 ·intro hc i p hi hp
  have h1:=hc i p hi hp
  rw [Bool.eq_false_iff]
  intro h2
  rw [h.within_under p.id l.length (l.length+1) p.par _ (h.up hi hp) (by omega) h2]at h1
  cases h1
theorem zjB:∀{a b c:List Int},klB a b=true→klB b c=true→klB a c=true
 | [],[],_,h,_=>by cases h
 | [],_::_,[],_,h=>by cases h
 | [],_::_,_::_,_,_=>rfl
 | _::_,[],_,h,_=>by cases h
 | _::_,_::_,[],_,h=>by cases h
 | x::a,y::b,z::c,h,k=>by
  rw [klB]at h k ⊢
  by_cases e1:x=y
  ·rw [if_pos e1]at h
   by_cases e2:y=z
   ·rw [if_pos e2]at k
    rw [if_pos (e1.trans e2)]
    exact zjB h k
   ·rw [if_neg e2]at k
    rw [if_neg (by rw [e1];exact e2),e1]
    exact k
  ·rw [if_neg e1]at h
   have h:=of_decide_eq_true h
   by_cases e2:y=z
   ·rw [←e2,if_neg e1]
    exact decide_eq_true h
   ·rw [if_neg e2]at k
    have k:=of_decide_eq_true k
    rw [if_neg (by omega)]
    exact decide_eq_true (by omega)
def zaw (a b:PlV):Bool:=klB a.key b.key || (!klB b.key a.key && zam a.idN a.idR b.idN b.idR)
theorem zeC (a b:PlV):zaw a b=true↔klB a.key b.key=true∨(a.key=b.key∧zam a.idN a.idR b.idN b.idR=true):=by
 have h1:=zec a.key b.key
 have h2:=zkI a.key b.key
 unfold zaw
 cases e1:klB a.key b.key
 ·cases e2:klB b.key a.key
  ·rw [e1,e2]at h1
   have h3:a.key=b.key:=by simpa using h1
   simp [h3]
  ·rw [e1,e2]at h1
   have h3:a.key≠b.key:=by simpa using h1
   simp [h3]
 ·simp
theorem zjh (a:PlV):zaw a a=false:=by
 rw [Bool.eq_false_iff]
 intro h
 rcases (zeC a a).1 h with h | ⟨_,h⟩
 ·rw [zmj]at h;cases h
 ·unfold zam at h;simp at h
theorem zdt {a b c:PlV} (h:zaw a b=true) (k:zaw b c=true):zaw a c=true:=by
 rw [zeC]at *
 rcases h with h | ⟨e,h⟩
 ·rcases k with k | ⟨e',_⟩
  ·exact .inl (zjB h k)
  ·exact .inl (e' ▸ h)
 ·rcases k with k | ⟨e',k⟩
  ·exact .inl (e ▸ k)
  ·refine .inr ⟨e.trans e',?_⟩
   unfold zam at *
   simp only [Bool.or_eq_true,decide_eq_true_eq,Bool.and_eq_true,beq_iff_eq]at *
   omega
theorem zmK {a b:PlV} (h:zaw a b=true) (k:zaw b a=true):False:=by
 have:=zdt h k
 rw [zjh]at this
 cases this
theorem ziv {a b:PlV} (h:a.id≠b.id):zaw a b=true∨zaw b a=true:=by
 rw [zeC,zeC]
 have h1:=zec a.key b.key
 by_cases e:a.key=b.key
 ·have h2:zam a.idN a.idR b.idN b.idR=true∨zam b.idN b.idR a.idN a.idR=true:=by
   unfold zam
   simp only [Bool.or_eq_true,decide_eq_true_eq,Bool.and_eq_true,beq_iff_eq]
   have h3:¬ (a.idN=b.idN∧a.idR=b.idR):=fun ⟨e1,e2⟩=>h (show (a.idN,a.idR)=(b.idN,b.idR) by rw [e1,e2])
   omega
  rcases h2 with h2 | h2
  ·exact .inl (.inr ⟨e,h2⟩)
  ·exact .inr (.inr ⟨e.symm,h2⟩)
 ·have h2:(klB a.key b.key || klB b.key a.key)=true:=by rw [h1];simp [e]
  rw [Bool.or_eq_true]at h2
  rcases h2 with h2 | h2
  ·exact .inl (.inl h2)
  ·exact .inr (.inl h2)
theorem zix {α:Type} {R:α→α→Prop} (asym:∀a b,R a b→R b a→False):∀{l1 l2:List α},l1.Perm l2→l1.Pairwise R→l2.Pairwise R→l1=l2
 | [],l2,hp,_,_=>by rw [List.Perm.nil_eq hp]
 | a::l1,[],hp,_,_=>by exact absurd hp.length_eq (by simp)
 | a::l1,b::l2,hp,h1,h2=>by
  have e:a=b:=by
   rcases List.mem_cons.1 (hp.mem_iff.1 (List.mem_cons_self ..))with h | h
   ·exact h
   ·rcases List.mem_cons.1 (hp.mem_iff.2 (List.mem_cons_self ..))with k | k
    ·exact k.symm
    ·exact absurd ((List.pairwise_cons.1 h2).1 a h) (fun h3=>asym _ _ ((List.pairwise_cons.1 h1).1 b k) h3)
  subst e
  rw [zix asym ((List.perm_cons a).1 hp) (List.pairwise_cons.1 h1).2 (List.pairwise_cons.1 h2).2]
def cutK (lt:Nat→Nat→Bool) (i:Nat) (out:List Nat):Nat→Nat
 | 0=>0
 | k+1=>if lt i (out.getD k 0)=true then cutK lt i out k else k+1
theorem zlF (lt:Nat→Nat→Bool) (i:Nat) (out:List Nat):∀k,cutK lt i out k≤k
 | 0=>Nat.le_refl _
 | k+1=>by
  unfold cutK
  by_cases h:lt i (out.getD k 0)=true
  ·rw [if_pos h];have:=zlF lt i out k;omega
  ·rw [if_neg h];exact Nat.le_refl _
theorem zgK (lt:Nat→Nat→Bool) (i:Nat) (out:List Nat):∀k j,cutK lt i out k≤j→j<k→lt i (out.getD j 0)=true
 | 0,j,_,h=>by omega
 | k+1,j,h,h'=>by
  unfold cutK at h
  by_cases e:lt i (out.getD k 0)=true
  ·rw [if_pos e]at h
   by_cases ej:j=k
   ·rw [ej];exact e
   ·exact zgK lt i out k j h (by omega)
  ·rw [if_neg e]at h;omega
theorem zlM (lt:Nat→Nat→Bool) (i:Nat) (out:List Nat):∀k,0<cutK lt i out k→lt i (out.getD (cutK lt i out k-1) 0)≠true
 | 0,h=>by exact absurd h (by simp [cutK])
 | k+1,h=>by
  unfold cutK at h ⊢
  by_cases e:lt i (out.getD k 0)=true
  ·rw [if_pos e]at h ⊢
   exact zlM lt i out k h
  ·rw [if_neg e]
   simpa using e
def insR (lt:Nat→Nat→Bool) (i:Nat) (out:List Nat):List Nat:=out.take (cutK lt i out out.length)++i::out.drop (cutK lt i out out.length)
theorem zfR (lt:Nat→Nat→Bool) (i:Nat) (out:List Nat):(insR lt i out).Perm (i::out):=by
 unfold insR
 have h:=List.perm_middle (a:=i) (l₁ :=out.take (cutK lt i out out.length)) (l₂ :=out.drop (cutK lt i out out.length))
 rw [List.take_append_drop]at h
 exact h
theorem zhP {out:List Nat} {j:Nat} (h:j<out.length):out.getD j 0=out[j]:=by simp [h]
theorem zll {lt:Nat→Nat→Bool} (tr:∀a b c,lt a b=true→lt b c=true→lt a c=true) {i:Nat} {out:List Nat} (tot:∀x∈out,lt i x=true∨lt x i=true) (h:out.Pairwise (fun a b=>lt a b=true)):(insR lt i out).Pairwise (fun a b=>lt a b=true):=by
 have hc:=zlF lt i out out.length
 have hb:=zgK lt i out out.length
 have ha:=zlM lt i out out.length
 unfold insR
 generalize cutK lt i out out.length=c at *
 have hpw:=List.pairwise_iff_getElem.1 h
 have hlow:∀x∈out.take c,lt x i=true:=fun x hx=>by
  obtain⟨j,hj,rfl⟩:=List.getElem_of_mem hx
  have hj':j<c:=by rw [List.length_take]at hj;omega
  have hjl:j<out.length:=by omega
  rw [List.getElem_take]
  have hlast:lt (out[c-1]'(by omega)) i=true:=by
   have h1:=ha (by omega)
   rw [zhP (by omega)]at h1
   rcases tot _ (List.getElem_mem (show c-1<out.length by omega))with h2 | h2
   ·exact absurd h2 h1
   ·exact h2
  by_cases e:j=c-1
  ·subst e;exact hlast
  ·exact tr _ _ _ (hpw j (c-1) hjl (by omega) (by omega)) hlast
 have hhigh:∀x∈out.drop c,lt i x=true:=fun x hx=>by
  obtain⟨j,hj,rfl⟩:=List.getElem_of_mem hx
  have hj':c+j<out.length:=by rw [List.length_drop]at hj;omega
  rw [List.getElem_drop]
  have:=hb (c+j) (by omega) hj'
  rwa [zhP hj']at this
 rw [List.pairwise_append]
 refine⟨h.sublist (List.take_sublist _ _),List.pairwise_cons.2 ⟨hhigh,h.sublist (List.drop_sublist _ _)⟩,fun a ha' b hb'=> ?_⟩
 rcases List.mem_cons.1 hb' with rfl | hb'
 ·exact hlow a ha'
 ·exact tr _ _ _ (hlow a ha') (hhigh b hb')
def zaY (l:List PlV) (i j:Nat):Bool:=match l[i]?,l[j]? with
 | some a,some b=>zaw a b
 | _,_=>false
theorem zkn (l:List PlV) (a b c:Nat) (h:zaY l a b=true) (k:zaY l b c=true):zaY l a c=true:=by
 unfold zaY at *
 cases ha:l[a]? with
 | none=>rw [ha]at h;cases h
 | some x=>
  cases hb:l[b]? with
  | none=>rw [ha,hb]at h;cases h
  | some y=>
   cases hc:l[c]? with
   | none=>rw [hb,hc]at k;cases k
   | some z=>
    rw [ha,hb]at h
    rw [hb,hc]at k
    exact zdt h k
theorem ziU {l:List PlV} {i j:Nat} (hi:i<l.length) (hj:j<l.length):zaY l i j=zaw l[i] l[j]:=by
 unfold zaY
 simp [hi,hj]
def zbU (l:List PlV) (id:IdV) (i:Nat):Bool:=match l[i]? with
 | some p=>decide (p.par=id)
 | none=>false
def zde (l:List PlV) (id:IdV) (out:List Nat) (i:Nat):List Nat:=if zbU l id i=true then insR (zaY l) i out else out
def zaR (l:List PlV) (id:IdV) (n:Nat):List Nat:=(List.range' 2 (n-2)).foldl (zde l id) []
theorem zdr (l:List PlV) (id:IdV) {n:Nat} (hn:2≤n):zaR l id (n+1)=zde l id (zaR l id n) n:=by
 unfold zaR
 rw [show n+1-2=(n-2)+1 by omega,List.range'_concat,List.foldl_append]
 simp only [List.foldl_cons,List.foldl_nil]
 rw [show 2+1*(n-2)=n by omega]
def zao (l:List PlV) (id:IdV):List Nat:=zaR l id l.length
theorem zfW {l:List PlV} (hu:(l.map PlV.id).Nodup) (id:IdV):∀n,n≤l.length→(zaR l id n).Perm ((List.range' 2 (n-2)).filter (zbU l id))∧(zaR l id n).Pairwise (fun a b=>zaY l a b=true)
 | 0,_=>⟨List.Perm.refl _,List.Pairwise.nil⟩
 | n+1,hn=>by
  by_cases h2:2≤n
  ·obtain⟨hp,hs⟩:=zfW hu id n (by omega)
   rw [zdr l id h2,show n+1-2=(n-2)+1 by omega,List.range'_concat,List.filter_append,show 2+1*(n-2)=n by omega]
   unfold zde
   by_cases hk:zbU l id n=true
   ·rw [if_pos hk]
    refine⟨?_,zll (zkn l) (fun x hx=> ?_) hs⟩
    ·refine (zfR _ _ _).trans ?_
     have e:List.filter (zbU l id) [n]=[n]:=by simp [hk]
     rw [e]
     exact ((List.Perm.cons n hp)).trans (List.perm_append_singleton n _).symm
    ·have hx1:=List.mem_filter.1 (hp.mem_iff.1 hx)
     have hx2:=List.mem_range'.1 hx1.1
     obtain⟨j,hj,rfl⟩:=hx2
     have hjn:2+1*j<n:=by omega
     rw [ziU (by omega) (by omega),ziU (by omega) (by omega)]
     refine ziv (fun e=> ?_)
     have:=(List.pairwise_iff_getElem.1 hu) (2+1*j) n (by simp;omega) (by simp;omega) hjn
     simp at this
     exact this (by simpa using e.symm)
   ·rw [if_neg hk]
    have e:List.filter (zbU l id) [n]=[]:=by simp [hk]
    rw [e,List.append_nil]
    exact⟨hp,hs⟩
  ·have e:zaR l id (n+1)=[]:=by
    unfold zaR
    rw [show n+1-2=0 by omega]
    rfl
   rw [e,show n+1-2=0 by omega]
   exact⟨List.Perm.refl _,List.Pairwise.nil⟩
theorem zfc {l:List PlV} (hu:(l.map PlV.id).Nodup) {id:IdV} {k:Nat} (h:k∈zao l id):2≤k∧k<l.length∧zbU l id k=true:=by
 have h1:=List.mem_filter.1 ((zfW hu id l.length (Nat.le_refl _)).1.mem_iff.1 h)
 obtain⟨j,hj,rfl⟩:=List.mem_range'.1 h1.1
 exact⟨by omega,by omega,h1.2⟩
def prjK {α:Type} (f:Nat→Int→α×Int):List Nat→List α→Int→List α×Int
 | [],acc,left=>(acc,left)
 | k::ks,acc,left=>if left≤0 then (acc,left) else prjK f ks (acc++[(f k left).1]) (f k left).2
def prj (l:List PlV):(m:Nat)→Nat→Int→Tr (m+1)×Int
 | 0=>fun k left=>match l[k]? with
  | some p=>((⟨p.kind,p.name,p.text,p.attrs,[]⟩:Nd (Tr 0)),left-1)
  | none=>((⟨0,[],[],[],[]⟩:Nd (Tr 0)),left-1)
 | m+1=>fun k left=>match l[k]? with
  | some p=>((⟨p.kind,p.name,p.text,p.attrs,(prjK (prj l m) (zao l p.id) [] (left-1)).1⟩:Nd (Tr (m+1))),(prjK (prj l m) (zao l p.id) [] (left-1)).2)
  | none=>((⟨0,[],[],[],[]⟩:Nd (Tr (m+1))),left-1)
def zaG (p:PlV):Tr 1:=(⟨p.kind,p.name,p.text,p.attrs,[]⟩:Nd (Tr 0))
def zbb (p:PlV):Bool:=(okT 1 1 (zaG p) 2).1
def topB (p:PlV):Bool:=decide (p.kind=0) && !zar p.name && zbz p.parN p.parR && decide (p.key.length=0)
def zgp (l:List PlV) (p:PlV):Bool:=keyB p.key && zae l p.par && !zay l (l.length+1) p.par p.id
def zcH (l:List PlV) (i:Nat) (p:PlV):Bool:=zbb p && idB p.idN p.idR && decide (posP l p.id=some i) && (if i<2 then topB p else zgp l p)
def idAt (l:List PlV) (i:Nat) (id:IdV):Bool:=match l[i]? with
 | some p=>decide (p.id=id)
 | none=>false
def zbh (l:List PlV) (f:Nat→PlV→Bool):Bool:=(List.range l.length).all (fun i=>match l[i]? with
 | some p=>f i p
 | none=>false)
theorem zbc (l:List PlV) (f:Nat→PlV→Bool):zbh l f=true↔∀i p,l[i]? = some p→f i p=true:=by
 unfold zbh
 rw [List.all_eq_true]
 constructor
 ·intro h i p hp
  have hlt:i<l.length:=(List.getElem?_eq_some_iff.1 hp).1
  have:=h i (List.mem_range.2 hlt)
  rw [hp]at this
  exact this
 ·intro h i hi
  have hlt:=List.mem_range.1 hi
  have hp:l[i]? = some l[i]:=by simp [hlt]
  rw [hp]
  exact h i _ hp
theorem zdl {l:List PlV} {i:Nat} {id:IdV} (hi:i<l.length):idAt l i id=true↔∀p,l[i]? = some p→p.id=id:=by
 unfold idAt
 have hp:l[i]? = some l[i]:=by simp [hi]
 rw [hp]
 simp
def stB (l:List PlV):Bool:=decide (2≤l.length) && decide (l.length≤272) && idAt l 0 zak && idAt l 1 zag && zbh l (zcH l)
def newB (l:List PlV) (i:Nat) (p:PlV):Bool:=decide (posP (l.take i) p.id=none) && idB p.idN p.idR && zbb p
def topI (l:List PlV) (i:Nat) (id:IdV):Bool:=match l[i]? with
 | some p=>decide (p.id=id) && decide (p.par=(0,0)) && decide (p.key.length=0) && zae l id
 | none=>false
def zbq (l:List PlV) (i:Nat) (p:PlV):Bool:=decide (i<2) || (keyB p.key && zae l p.par)
def zbu (l:List PlV) (i:Nat) (p:PlV):Bool:=decide (i<2) || !zav l l.length p.par p.id
def stI (l:List PlV):Bool:=decide (2≤l.length) && decide (l.length≤272) && zbh l (newB l) && topI l 0 zak && topI l 1 zag && zbh l (zbq l) && zbh l (zbu l)
theorem zfs (p:PlV):zbz p.parN p.parR=true↔p.par=(0,0):=by
 unfold zbz
 simp only [Bool.and_eq_true,decide_eq_true_eq]
 constructor
 ·rintro⟨h1,h2⟩
  show (p.parN,p.parR)=(0,0)
  rw [h1,h2]
 ·intro h
  exact Prod.mk.inj h
theorem zcK {l:List PlV} {id:IdV} {i:Nat} {p:PlV} (hk:posP l id=some i) (hp:l[i]? = some p):zae l id=(zcJ p && !zar p.name):=by
 unfold zae
 rw [hk]
 simp only [hp]
theorem zcC {l:List PlV} {id:IdV} (h:zae l id=true):∃j,posP l id=some j:=by
 unfold zae at h
 cases hk:posP l id with
 | none=>rw [hk]at h;cases h
 | some j=>exact⟨j,rfl⟩
theorem zdu {l:List PlV} (h:∀i p,l[i]? = some p→posP l p.id=some i):(l.map PlV.id).Nodup:=by
 refine List.pairwise_iff_getElem.2 (fun i j hi hj hij e=> ?_)
 simp at hi hj e
 have h1:=h i l[i] (by simp [hi])
 have h2:=h j l[j] (by simp [hj])
 rw [e,h2]at h1
 have:=Option.some.inj h1
 omega
theorem znh {l:List PlV} {i:Nat} {p:PlV} (hp:l[i]? = some p) (h:posP l p.id=some i):posP (l.take i) p.id=none:=by
 refine posP_none.2 (fun q hq e=> ?_)
 obtain⟨j,hj,rfl⟩:=List.getElem_of_mem hq
 have hj':j<i:=by rw [List.length_take]at hj;omega
 obtain⟨h1,_,h3⟩:=posP_some.1 h
 rw [List.getElem_take]at e
 exact h3 j hj' e
theorem zhv {l:List PlV} (h:∀i p,l[i]? = some p→posP (l.take i) p.id=none) {i:Nat} {p:PlV} (hp:l[i]? = some p):posP l p.id=some i:=by
 obtain⟨hlt,rfl⟩:=List.getElem?_eq_some_iff.1 hp
 refine posP_some.2 ⟨hlt,rfl,fun j hj e=> ?_⟩
 have h1:=posP_none.1 (h i l[i] hp) l[j] (by
  have:(l.take i)[j]'(by rw [List.length_take];omega)=l[j]:=List.getElem_take
  rw [←this]
  exact List.getElem_mem _)
 exact h1 e
theorem zgg (l:List PlV):stB l=stI l:=by
 rw [Bool.eq_iff_iff]
 unfold stB stI
 simp only [Bool.and_eq_true,decide_eq_true_eq,zbc]
 constructor
 ·rintro⟨⟨⟨⟨h2,hm⟩,h0⟩,h1⟩,he⟩
  rw [zdl (by omega)]at h0 h1
  have hpl:∀i p,l[i]? = some p→zbb p=true∧idB p.idN p.idR=true∧posP l p.id=some i∧(if i<2 then topB p else zgp l p)=true:=fun i p hp=>by
   have:=he i p hp
   unfold zcH at this
   simp only [Bool.and_eq_true,decide_eq_true_eq]at this
   exact⟨this.1.1.1,this.1.1.2,this.1.2,this.2⟩
  have hpos:=fun i p hp=>(hpl i p hp).2.2.1
  have hrest:∀i p,2≤i→l[i]? = some p→keyB p.key=true∧zae l p.par=true∧zay l (l.length+1) p.par p.id=false:=fun i p hi hp=>by
   have:=(hpl i p hp).2.2.2
   rw [if_neg (by omega)]at this
   unfold zgp at this
   simp only [Bool.and_eq_true,Bool.not_eq_true']at this
   exact⟨this.1.1,this.1.2,this.2⟩
  have hF:FrW l:=⟨h2,h0,h1,zdu hpos,fun i p hi hp=>zcC (hrest i p hi hp).2.1⟩
  have hfree:=hF.free.2 (fun i p hi hp=>(hrest i p hi hp).2.2)
  have htop:∀i id,i<2→(∀p,l[i]? = some p→p.id=id)→topI l i id=true:=fun i id hi hid=>by
   have hlt:i<l.length:=by omega
   have hp:l[i]? = some l[i]:=by simp [hlt]
   have ht:=(hpl i _ hp).2.2.2
   rw [if_pos hi]at ht
   unfold topB at ht
   simp only [Bool.and_eq_true,decide_eq_true_eq]at ht
   have hi2:=hid _ hp
   have hk:=hpos i _ hp
   rw [hi2]at hk
   unfold topI
   rw [hp]
   simp only [Bool.and_eq_true,decide_eq_true_eq]
   refine⟨⟨⟨hi2,(zfs _).1 ht.1.2⟩,ht.2⟩,?_⟩
   rw [zcK hk hp]
   unfold zcJ
   simp only [Bool.and_eq_true,decide_eq_true_eq]
   exact⟨ht.1.1.1,ht.1.1.2⟩
  refine⟨⟨⟨⟨⟨⟨h2,hm⟩,fun i p hp=> ?_⟩,htop 0 _ (by omega) h0⟩,htop 1 _ (by omega) h1⟩,fun i p hp=> ?_⟩,fun i p hp=> ?_⟩
  ·unfold newB
   simp only [Bool.and_eq_true,decide_eq_true_eq]
   exact⟨⟨znh hp (hpos i p hp),(hpl i p hp).2.1⟩,(hpl i p hp).1⟩
  ·unfold zbq
   rw [Bool.or_eq_true,decide_eq_true_eq]
   by_cases hi:i<2
   ·exact .inl hi
   ·refine .inr ?_
    rw [Bool.and_eq_true]
    exact⟨(hrest i p (by omega) hp).1,(hrest i p (by omega) hp).2.1⟩
  ·unfold zbu
   rw [Bool.or_eq_true,decide_eq_true_eq]
   by_cases hi:i<2
   ·exact .inl hi
   ·refine .inr ?_
    rw [hfree i p (by omega) hp]
    rfl
 ·rintro⟨⟨⟨⟨⟨⟨h2,hm⟩,hn⟩,ht0⟩,ht1⟩,hk⟩,hf⟩
  have hnew:∀i p,l[i]? = some p→posP (l.take i) p.id=none∧idB p.idN p.idR=true∧zbb p=true:=fun i p hp=>by
   have:=hn i p hp
   unfold newB at this
   simp only [Bool.and_eq_true,decide_eq_true_eq]at this
   exact⟨this.1.1,this.1.2,this.2⟩
  have hpos:=fun i p (hp:l[i]? = some p)=>zhv (fun i p hp=>(hnew i p hp).1) hp
  have htop:∀i id,i<2→topI l i id=true→∀p,l[i]? = some p→p.id=id∧topB p=true:=fun i id hi ht p hp=>by
   unfold topI at ht
   rw [hp]at ht
   simp only [Bool.and_eq_true,decide_eq_true_eq]at ht
   obtain⟨⟨⟨e1,e2⟩,e3⟩,e4⟩:=ht
   have hk:=hpos i p hp
   rw [e1]at hk
   rw [zcK hk hp]at e4
   unfold zcJ at e4
   simp only [Bool.and_eq_true,decide_eq_true_eq]at e4
   refine⟨e1,?_⟩
   unfold topB
   simp only [Bool.and_eq_true,decide_eq_true_eq]
   exact⟨⟨⟨e4.1,e4.2⟩,(zfs p).2 e2⟩,e3⟩
  have hkey:∀i p,2≤i→l[i]? = some p→keyB p.key=true∧zae l p.par=true:=fun i p hi hp=>by
   have:=hk i p hp
   unfold zbq at this
   rw [Bool.or_eq_true,decide_eq_true_eq,Bool.and_eq_true]at this
   rcases this with h | h
   ·omega
   ·exact h
  have hfree:∀i p,2≤i→l[i]? = some p→zav l l.length p.par p.id=false:=fun i p hi hp=>by
   have:=hf i p hp
   unfold zbu at this
   rw [Bool.or_eq_true,decide_eq_true_eq]at this
   rcases this with h | h
   ·omega
   ·simpa using h
  have hF:FrW l:=⟨h2,fun p hp=>(htop 0 _ (by omega) ht0 p hp).1,fun p hp=>(htop 1 _ (by omega) ht1 p hp).1,zdu hpos,fun i p hi hp=>zcC (hkey i p hi hp).2⟩
  have hund:=hF.free.1 hfree
  refine⟨⟨⟨⟨h2,hm⟩,(zdl (by omega)).2 hF.root⟩,(zdl (by omega)).2 hF.trash⟩,fun i p hp=> ?_⟩
  unfold zcH
  simp only [Bool.and_eq_true,decide_eq_true_eq]
  refine⟨⟨⟨(hnew i p hp).2.2,(hnew i p hp).2.1⟩,hpos i p hp⟩,?_⟩
  by_cases hi:i<2
  ·rw [if_pos hi]
   have:i=0∨i=1:=by omega
   rcases this with rfl | rfl
   ·exact (htop 0 _ (by omega) ht0 p hp).2
   ·exact (htop 1 _ (by omega) ht1 p hp).2
  ·rw [if_neg hi]
   unfold zgp
   simp only [Bool.and_eq_true,Bool.not_eq_true']
   exact⟨⟨(hkey i p (by omega) hp).1,(hkey i p (by omega) hp).2⟩,hund i p (by omega) hp⟩
theorem zhq {l:List PlV} (h:stB l=true):Fr l∧l.length≤272:=by
 have h':=h
 rw [zgg]at h'
 unfold stB at h
 unfold stI at h'
 simp only [Bool.and_eq_true,decide_eq_true_eq,zbc]at h h'
 obtain⟨⟨⟨⟨h2,hm⟩,h0⟩,h1⟩,he⟩:=h
 rw [zdl (by omega)]at h0 h1
 have hpos:∀i p,l[i]? = some p→posP l p.id=some i:=fun i p hp=>by
  have:=he i p hp
  unfold zcH at this
  simp only [Bool.and_eq_true,decide_eq_true_eq]at this
  exact this.1.2
 have hF:FrW l:=⟨h2,h0,h1,zdu hpos,fun i p hi hp=>by
  have:=h'.1.2 i p hp
  unfold zbq at this
  rw [Bool.or_eq_true,decide_eq_true_eq,Bool.and_eq_true]at this
  rcases this with h | h
  ·omega
  ·exact zcC h.2⟩
 exact⟨hF.fr (fun i p hi hp=>by
  have:=h'.2 i p hp
  unfold zbu at this
  rw [Bool.or_eq_true,decide_eq_true_eq]at this
  rcases this with h | h
  ·omega
  ·simpa using h),hm⟩
end Go.Proofs.YtlpnibbdmkeklaaGreatDoor
