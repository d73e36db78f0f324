/- Own texts joined: FoA, CloneI, HalfT, ToT2, ToT3, Apart, CopyI, CopyL, FoP, FoJ, FoOz, OpsZ. -/
import Derived.Test.YtgjolijncmkkhaaGreatDoorJa
import Derived.Test.YtgjolijncmkkhaaGreatDoorJb
import Derived.Test.YtgjolijncmkkhaaGreatDoorJe
import Derived.Test.YtgjolijncmkkhaaGreatDoorJo
import Derived.Test.YtgjolijncmkkhaaGreatDoorJp
import Derived.Test.YtgjolijncmkkhaaGreatDoorJq
import Derived.Deep.RegionLaw
import Derived.Lib.BufferMore
import Derived.Deep.RegionHeld3
import Derived.Test.YtgjolijncmkkhaaGreatDoorChecked
import Derived.WalkMore
namespace Go.Proofs.YtgjolijncmkkhaaGreatDoor
open Go.RowKit Go.Maps
set_option linter.unusedVariables false
set_option maxRecDepth 100000
theorem FSet.store {B:Nat} {o p:Xl} {w:Xk} {g:Nat} (h:FSet B o p w g) (o':Xl):FSet B o' p (w.setCell ⟨g,0,none⟩ o') g:=by
 rcases h with h | ⟨m,hm,h,hv⟩
 ·exact .inl (h.set 0 o')
 ·refine .inr ⟨m,hm,h.set 0 o',(heap_setCell_other w ⟨g,0,none⟩ m o' (fun e=> ?_)).trans hv⟩
  have e:m=g:=e
  unfold Loc at h
  obtain⟨es,c,ev⟩:=zqn
  rw [<-e,hv,ev]at h
  cases h
set_option maxHeartbeats 6400000 in
theorem zmv {B:Nat} {w:Xk} {g mb:Nat} {a:Xi} {c:Nat} {l:List PlV} {F:Xh} (h:FoS B w g mb a c l F) (p:PlV) (k n t s:Xi) (ck cn ct cs:Nat) (G:Xh)
  (hp:OwPlM w [.int .i64 p.idN,.int .i64 p.idR,.int .i64 p.parN,.int .i64 p.parR,.slice k p.key.length ck,.int .i64 p.kind,.slice n p.name.length cn,.slice t p.text.length ct,.slice s p.attrs.length cs] p G) (hGn:G.Nodup) (hGB:∀q∈G,B<=q) (hFG:∀q∈F,q∉G) (hid:okI p.id) (hpar:okI p.par) (hnew:posP l p.id=none) (hlen:l.length+1<=100000) :
  Calls Tryz.prog 87 #[.pointer (some ⟨g,0,none⟩),.agg #[.int .i64 p.idN,.int .i64 p.idR,.int .i64 p.parN,.int .i64 p.parR,.slice k p.key.length ck,.int .i64 p.kind,.slice n p.name.length cn,.slice t p.text.length ct,.slice s p.attrs.length cs]] w fun e w'=>e=.returned (.tuple #[])∧∃a' c' F',FoS B w' g mb a' c' (l++[p]) F'∧Frm w w' (g::mb::F)∧∀q∈F',q∈F∨q∈G∨w.heap.size<=q:=by
 refine zaF ?_
 intro Q HQ
 obtain⟨i0,ka,ma,na,la⟩:=info_parts zmG
 have hA:Below w.heap.size w (w.alloc (.cells #[.int .i64 p.idN,.int .i64 p.idR,.int .i64 p.parN,.int .i64 p.parR,.slice k p.key.length ck,.int .i64 p.kind,.slice n p.name.length cn,.slice t p.text.length ct,.slice s p.attrs.length cs] 146)):=(Below.refl _ _).alloc (Nat.le_refl _) _
 have Da:Below w.heap.size w (w.alloc (.cells #[.int .i64 p.idN,.int .i64 p.idR,.int .i64 p.parN,.int .i64 p.parR,.slice k p.key.length ck,.int .i64 p.kind,.slice n p.name.length cn,.slice t p.text.length ct,.slice s p.attrs.length cs] 146)).drew:=hA.drew
 have lb:=(Loc.made w #[.int .i64 p.idN,.int .i64 p.idR,.int .i64 p.parN,.int .i64 p.parR,.slice k p.key.length ck,.int .i64 p.kind,.slice n p.name.length cn,.slice t p.text.length ct,.slice s p.attrs.length cs] 146).all ((Below.refl _ _).drew)
 have h1:=h.keep Da
 obtain⟨w2,Ga,La,Xa⟩:=h1.map.put p hid hnew (by omega)
 obtain⟨ya,lg,ea,Za⟩:=h1.set.loc
 have g0:=(lg.cell 0).trans ea
 have g1:=(lg.cell 1).trans Za
 have b0:=lb.cell 0
 have b1:=lb.cell 1
 have f2:Frm (w.alloc (.cells #[.int .i64 p.idN,.int .i64 p.idR,.int .i64 p.parN,.int .i64 p.parR,.slice k p.key.length ck,.int .i64 p.kind,.slice n p.name.length cn,.slice t p.text.length ct,.slice s p.attrs.length cs] 146)).drew w2 [mb]:=Frm.ofGrown Xa
 have Ia:=h1.gm
 have Ka:=h1.mF
 have Oa:=h1.gF
 have s2:FSet (mb+1) (.slice a l.length c) (.map (some mb)) w2 g:=h1.set.frm f2 (by simpa using Ia) (fun q hq=>.inl (by have e:q=mb:=(by simpa using hq);omega))
 have r2:=h1.row.frm f2 (fun q hq e=>Ka (by have e9:q=mb:=(by simpa using e);rw [<-e9];exact hq))
 have qa:w.heap.size∉[mb]:=fun e=>by have e9:w.heap.size=mb:=(by simpa using e);have:=h.map.lt;omega
 have Ha:=lb.frm f2 qa
 have p2:OwPlM w2 [.int .i64 p.idN,.int .i64 p.idR,.int .i64 p.parN,.int .i64 p.parR,.slice k p.key.length ck,.int .i64 p.kind,.slice n p.name.length cn,.slice t p.text.length ct,.slice s p.attrs.length cs] p G:=(hp.frm (Frm.ofBelow Da []) (fun _ _=>by simp)).frm f2 (fun q hq e=>by
  have e9:q=mb:=by simpa using e
  subst e9
  obtain⟨es,k',e'⟩:=h.map.isMap
  exact (hp.typ q hq).notMap e')
 have oa:=h.len
 have HX:=hide (And.intro h (And.intro Da (And.intro f2 (And.intro s2 (And.intro r2 (And.intro Ha (And.intro p2 La)))))))
 have HG:=hide (And.intro hGn (And.intro hGB (And.intro hFG (And.intro hid hpar))))
 have HM:=hide (And.intro Ia (And.intro Ka Oa))
 unfold zbg at Ga
 have Ma:(Instr.mapUpdate 139 (.map (some mb)) (.agg #[.int .i64 p.idN,.int .i64 p.idR]) (.int .i64 (l.length:Int))).run Tryz.prog (w.alloc (.cells #[.int .i64 p.idN,.int .i64 p.idR,.int .i64 p.parN,.int .i64 p.parR,.slice k p.key.length ck,.int .i64 p.kind,.slice n p.name.length cn,.slice t p.text.length ct,.slice s p.attrs.length cs] 146)).drew=.ok () w2:=Ga
 clear h hp hGn hGB hFG hid hpar hnew hA Da h1 lg ea Za lb f2 Ia Ka Oa s2 r2 Ha p2 La Xa Ga
 go_enter Tryz.func87,Tryz.ntmps87
 go_wp2_with fail
 go_region
 clear g0 g1 b0 b1 Ma
 obtain⟨h,Da,f2,s2,r2,Ha,p2,La⟩:=zaa HX
 obtain⟨hGn,hGB,hFG,hid,hpar⟩:=zaa HG
 obtain⟨Ia,Ka,Oa⟩:=zaa HM
 have Sa:Below w2.heap.size w2 w2.drew:=(Below.refl _ _).drew
 have Aa:Below w2.heap.size w2 (w2.alloc (.cells #[.int .i64 p.idN,.int .i64 p.idR,.int .i64 p.parN,.int .i64 p.parR,.slice k p.key.length ck,.int .i64 p.kind,.slice n p.name.length cn,.slice t p.text.length ct,.slice s p.attrs.length cs] 146)).drew:=((Below.refl _ _).alloc (Nat.le_refl _) _).drew
 have Wa:=Aa
 have s3:=s2.frm (Frm.ofBelow Aa []) (by simp) (fun q hq=>by cases hq)
 have ba:=s2.frm (Frm.ofBelow Sa []) (by simp) (fun q hq=>by cases hq)
 obtain⟨Ab,Ya,ja,_⟩:=ba.loc
 obtain⟨ua,ha,ca,_⟩:=s3.loc
 have g0:w2.drew.cell? ⟨g,0,none⟩=some (.slice a l.length c):=(Ya.cell 0).trans ja
 have Bb:(w2.alloc (.cells #[.int .i64 p.idN,.int .i64 p.idR,.int .i64 p.parN,.int .i64 p.parR,.slice k p.key.length ck,.int .i64 p.kind,.slice n p.name.length cn,.slice t p.text.length ct,.slice s p.attrs.length cs] 146)).drew.cell? ⟨g,0,none⟩=some (.slice a l.length c):=(ha.cell 0).trans ca
 have Ba:=Ha.all Sa
 have p0:w2.drew.cell? ⟨w.heap.size,0,none⟩=_:=Ba.cell 0
 have p1:w2.drew.cell? ⟨w.heap.size,1,none⟩=_:=Ba.cell 1
 have xa:w2.drew.cell? ⟨w.heap.size,2,none⟩=_:=Ba.cell 2
 have p3:w2.drew.cell? ⟨w.heap.size,3,none⟩=_:=Ba.cell 3
 have p4:w2.drew.cell? ⟨w.heap.size,4,none⟩=_:=Ba.cell 4
 have p5:w2.drew.cell? ⟨w.heap.size,5,none⟩=_:=Ba.cell 5
 have p6:w2.drew.cell? ⟨w.heap.size,6,none⟩=_:=Ba.cell 6
 have p7:w2.drew.cell? ⟨w.heap.size,7,none⟩=_:=Ba.cell 7
 have p8:w2.drew.cell? ⟨w.heap.size,8,none⟩=_:=Ba.cell 8
 have sa:w2.drew.heap.size=w2.heap.size:=rfl
 have Qa:∀q∈FB (.slice a l.length c),q∈F:=fun q hq=>by
  obtain⟨_,_,_,_,_,_,e⟩:=r2
  rw [e]
  exact List.mem_append_left _ hq
 have HP:=hide (show OwPlsM (w2.alloc (.cells #[.int .i64 p.idN,.int .i64 p.idR,.int .i64 p.parN,.int .i64 p.parR,.slice k p.key.length ck,.int .i64 p.kind,.slice n p.name.length cn,.slice t p.text.length ct,.slice s p.attrs.length cs] 146)).drew (.slice a l.length c) l F∧F.Nodup∧OwPlM (w2.alloc (.cells #[.int .i64 p.idN,.int .i64 p.idR,.int .i64 p.parN,.int .i64 p.parR,.slice k p.key.length ck,.int .i64 p.kind,.slice n p.name.length cn,.slice t p.text.length ct,.slice s p.attrs.length cs] 146)).drew [.int .i64 p.idN,.int .i64 p.idR,.int .i64 p.parN,.int .i64 p.parR,.slice k p.key.length ck,.int .i64 p.kind,.slice n p.name.length cn,.slice t p.text.length ct,.slice s p.attrs.length cs] p G∧G.Nodup∧(∀g∈F,g∉G)∧(∀q,q∈F∨q∈G->q<(w2.alloc (.cells #[.int .i64 p.idN,.int .i64 p.idR,.int .i64 p.parN,.int .i64 p.parR,.slice k p.key.length ck,.int .i64 p.kind,.slice n p.name.length cn,.slice t p.text.length ct,.slice s p.attrs.length cs] 146)).drew.heap.size) from by
  refine⟨OwPlsM.frm r2 (Frm.ofBelow Aa []) (fun _ _=>by simp),h.nd,p2.frm (Frm.ofBelow Aa []) (fun _ _=>by simp),hGn,hFG,fun q hq=> ?_⟩
  have:=Aa.size
  rcases hq with hq | hq
  ·have:=OwPlsM.lt r2 q hq
   omega
  ·have:=p2.lt q hq
   omega)
 have aa:∀(i:Nat) (u:Xl),([.int .i64 p.idN,.int .i64 p.idR,.int .i64 p.parN,.int .i64 p.parR,.slice k p.key.length ck,.int .i64 p.kind,.slice n p.name.length cn,.slice t p.text.length ct,.slice s p.attrs.length cs])[i]? = some u->(w2.alloc (.cells #[.int .i64 p.idN,.int .i64 p.idR,.int .i64 p.parN,.int .i64 p.parR,.slice k p.key.length ck,.int .i64 p.kind,.slice n p.name.length cn,.slice t p.text.length ct,.slice s p.attrs.length cs] 146)).drew.cell? ((⟨w2.heap.size,0,none⟩:Addr).add i)=some u:=fun i u hu=>World.news_of_block (w:=(w2.alloc (.cells #[.int .i64 p.idN,.int .i64 p.idR,.int .i64 p.parN,.int .i64 p.parR,.slice k p.key.length ck,.int .i64 p.kind,.slice n p.name.length cn,.slice t p.text.length ct,.slice s p.attrs.length cs] 146)).drew) (heap_alloc_new w2 (.cells #[.int .i64 p.idN,.int .i64 p.idR,.int .i64 p.parN,.int .i64 p.parR,.slice k p.key.length ck,.int .i64 p.kind,.slice n p.name.length cn,.slice t p.text.length ct,.slice s p.attrs.length cs] 146)) i u (by simpa using hu)
 have da:=hide f2
 have Fa:=hide (And.intro s3 (And.intro (La.frm (Frm.ofBelow Aa []) (by simp)) (And.intro aa (f2.trans (Frm.ofBelow Aa _)))))
 have pa:g∉FB (.slice a l.length c):=fun e=>Oa (Qa g e)
 have ra:mb∉FB (.slice a l.length c):=fun e=>Ka (Qa mb e)
 clear aa s3 s2 ba Ya ha ja ca Ba Ha r2 p2 La f2 Aa Sa HX HG HM
 go_wp2_with fail
 go_region_law (refine zcr (R:=OwPlM) (fun h f d=>OwPlM.frm h f d) (by rfl) (.tmp 19) (.tmp 21) 105 (by rfl) 146 i0 (.agg #[.int .i64 0,.int .i64 0,.int .i64 0,.int .i64 0,.slice none 0 0,.int .i64 0,.slice none 0 0,.slice none 0 0,.slice none 0 0]) 9 136 Tryz.underlying105 ka ma na la rfl (by decide) _ l F (by rfl) (zaa HP).1 (zaa HP).2.1 ⟨w2.heap.size,0,none⟩ 1 [.int .i64 p.idN,.int .i64 p.idR,.int .i64 p.parN,.int .i64 p.parR,.slice k p.key.length ck,.int .i64 p.kind,.slice n p.name.length cn,.slice t p.text.length ct,.slice s p.attrs.length cs] p G (by rfl) rfl (zaa Fa).2.2.1 (by intro y hy;simp at hy;rcases hy with rfl | rfl | rfl | rfl | rfl | rfl | rfl | rfl | rfl<;>rfl) (zaa HP).2.2.1 (zaa HP).2.2.2.1 (zaa HP).2.2.2.2.1 (zaa HP).2.2.2.2.2 (by unfold maxLen;omega) (by omega) ?_;intro g9 Ca w9 F9 Ra ga Va Na ta;have s9:=(zaa Fa).1.frm Na pa (fun q hq=>.inr ((OwPlsM.typ (zaa HP).1 q (Qa q hq)).cells));obtain⟨va,Pa,fa,_⟩:=s9.loc;have za:=(Pa.cell 0).trans fa;have wa:=Pa.frozen 0)
 all_goals
  have fs:=zal w9 g 0 (.slice (some ⟨g9,0,none⟩) (l.length+1) Ca)
  have Ua:g∉F9:=fun e=>(OwPlsM.typ Ra g e).notL (by decide) Pa
  have h9:FoS B (w9.setCell ⟨g,0,none⟩ (.slice (some ⟨g9,0,none⟩) (l.length+1) Ca)) g mb (some ⟨g9,0,none⟩) Ca (l++[p]) F9:=by
   have Ta:(l++[p]).length=l.length+1:=by simp
   refine⟨by rw [Ta];exact s9.store _,((zaa Fa).2.1.frm Na ra).frm fs (by simpa using fun e=>Ia e.symm),by rw [Ta];exact OwPlsM.frm Ra fs (fun q hq e=>Ua (by have e9:q=g:=(by simpa using e);rw [<-e9];exact hq)),ga,fun q hq=> ?_,h.geg,h.gem,fun q hq=> ?_,by rw [Ta];exact hlen⟩
   ·rcases Va q hq with e | e | e
    ·exact h.ge q e
    ·exact hGB q e
    ·have:=h.geg
     have:=h.set.lt
     have:=Da.size
     have:=(zaa Fa).2.2.2.size
     have e1:(w2.alloc (.cells #[.int .i64 p.idN,.int .i64 p.idR,.int .i64 p.parN,.int .i64 p.parR,.slice k p.key.length ck,.int .i64 p.kind,.slice n p.name.length cn,.slice t p.text.length ct,.slice s p.attrs.length cs] 146)).drew.heap.size=w2.heap.size+1:=by simp [World.drew]
     have:=Wa.size
     have e2:=(show Frm _ w2 [mb] from zaa da).size
     omega
   ·rcases List.mem_append.1 hq with hq | hq
    ·exact h.ids q hq
    ·have e:q=p:=by simpa using hq
     rw [e]
     exact⟨hid,hpar⟩
  have ia:Frm w (w9.setCell ⟨g,0,none⟩ (.slice (some ⟨g9,0,none⟩) (l.length+1) Ca)) (g::mb::F):=by
   refine (Frm.ofBelow Da _).trans (((zaa Fa).2.2.2.mono ?_).trans ((Na.mono ?_).trans (fs.mono ?_)))
   ·intro q hq;have e:q=mb:=(by simpa using hq);simp [e]
   ·intro q hq;simp [Qa q hq]
   ·intro q hq;have e:q=g:=(by simpa using hq);simp [e]
  have Ja:∀q∈F9,q∈F∨q∈G∨w.heap.size<=q:=fun q hq=>by
   rcases Va q hq with e | e | e
   ·exact .inl e
   ·exact .inr (.inl e)
   ·right;right
    have:=Da.size
    have:=(zaa Fa).2.2.2.size
    have:=Wa.size
    have e2:=(show Frm _ w2 [mb] from zaa da).size
    omega
  have HE:=hide (zaa HQ (.returned (.tuple #[])) _ ⟨rfl,_,_,F9,h9,ia,Ja⟩)
  clear h9 ia Ja fs HQ Ra ga Va Na s9 Pa fa HP Fa
  go_wp2_with fail
  go_end0
  exact zaa HE
end Go.Proofs.YtgjolijncmkkhaaGreatDoor
namespace Go.Proofs.YtgjolijncmkkhaaGreatDoor
open Go.RowKit
set_option linter.unusedVariables false
set_option maxRecDepth 100000
set_option maxHeartbeats 1600000 in
theorem zgw (w:Xk) (v:Xl) (l:Xg) (h:Byt w v l) (hl:l.length<=67108864) :
  Calls Tryz.prog 71 #[v] w fun e w'=>∃v',e=.returned v'∧Own w' w.heap.size v' l∧Below w.heap.size w w':=by
 by_cases hv:v=.slice none 0 0
 ·subst hv
  have Da:l=[]:=by
   obtain⟨a,c,e,_⟩:=h.shape
   injection e with _ e2 _
   exact List.eq_nil_of_length_eq_zero e2.symm
  subst Da
  have hq:=Lib.run_eql_slice_nil_nil (P:=Tryz.prog) w 0 0 Tryz.underlying22
  go_enter Tryz.func71,Tryz.ntmps71
  go_wp2_with fail
  go_ret
  exact⟨_,rfl,⟨zbm,World.ownsRow_nil _ _ _ _⟩,Below.refl _ _⟩
 ·obtain⟨x,c,rfl⟩:∃x c,v=.slice (some x) l.length c:=by
   obtain⟨_,_,⟨e,_⟩ | ⟨x,Aa,rfl,hc,rfl⟩ | ⟨p,Ga,Aa,rfl,_⟩⟩:=h
   ·exact absurd e hv
   ·exact⟨x,Aa,rfl⟩
   ·exact⟨_,Aa,rfl⟩
  have hq:=Lib.run_eql_slice_some_nil (P:=Tryz.prog) w x l.length c Tryz.underlying22
  go_enter Tryz.func71,Tryz.ntmps71
  go_wp2_with (at_builtin;refine zdp rfl _ _ rfl w.heap.size _ [] rfl (zwx w) _ l rfl (h.alloc _) ?c1 ?c2 ?_)
  case c1=>first | omega | (simp;omega)
  case c2=>simp
  intro v1 w1 Ca Ba
  have Fa:Below w.heap.size w w1:=zjk ((Below.refl _ _).alloc (Nat.le_refl _) _) Ba (fun g hg=>by simp [Value.ownBlock]at hg;omega)
  clear Ba
  go_wp2
  go_ret
  exact⟨_,rfl,Ca,Fa⟩
structure Half {α:Type} (w:Xk) (e:Xm) (size g n:Nat) (l:List α) (R:Xj->α->Xh->Prop) (lo k:Nat):Prop where
 laid:∃(Cs:List (Xj)) (Fs:List (Xh)) (xs:Xj),Cs.length=k∧Fs.length=k∧(∀i (hi:i<l.length),i<k->(Cs.getD i []).length=size∧R (Cs.getD i []) l[i] (Fs.getD i []))∧
  w.ownsRow 0 e size (.slice (some ⟨g,0,none⟩) n n) n xs∧xs.take (k*size)=Cs.flatten∧Fs.flatten.Nodup∧Rng Fs.flatten lo w.heap.size
theorem Half.whole {α:Type} {w:Xk} {e:Xm} {size g n:Nat} {l:List α} {R:Xj->α->Xh->Prop} {lo:Nat} (h:Half w e size g n l R lo n) (hn:l.length=n) (hg:g<lo) :
  ∃F,OwElems w e size (.slice (some ⟨g,0,none⟩) n n) l R F∧F.Nodup∧(∀q∈F,g<=q∧q<w.heap.size):=by
 obtain⟨Cs,Fs,xs,h1,h2,h3,h4,h5,h6,h7⟩:=h.laid
 subst hn
 have hx:xs=Cs.flatten:=by rw [<-h5,List.take_of_length_le (by rw [h4.1];exact Nat.le_refl _)]
 subst hx
 have Aa:=(h4.lt g rfl).2
 refine⟨FB (.slice (some ⟨g,0,none⟩) l.length l.length)++Fs.flatten,⟨Cs,Fs,h1,h2,fun i hi=>h3 i hi hi,h4,rfl⟩,?_,fun q hq=> ?_⟩
 ·rw [List.nodup_append]
  refine⟨zbY _,h6,fun a ha b hb e=> ?_⟩
  have:=h7 b hb
  simp [FB,Value.ownBlock]at ha
  omega
 ·rcases List.mem_append.1 hq with h' | h'
  ·simp [FB,Value.ownBlock]at h';omega
  ·have:=h7 q h';omega
theorem Tryz.info132:(Tryz.prog.info? 132).map (fun i=>(i.zero,i.size,i.bytes))=some (some (.agg #[.slice none 0 0,.slice none 0 0]),2,48):=by kernel_rfl
theorem Tryz.info29:(Tryz.prog.info? 29).map (fun i=>(i.zero,i.size,i.bytes))=some (some (.agg #[.int .i64 0,.slice none 0 0,.slice none 0 0,.slice none 0 0,.slice none 0 0]),5,104):=by kernel_rfl
theorem zyY (w:Xk) (x y:Xl) (T:Xm):∀(j:Nat) (u:Xl),[x,y][j]? = some u->(w.alloc (.cells #[x,y] T)).cell? ((⟨w.heap.size,0,none⟩:Addr).add j)=some u:=by
 intro j u hu
 exact World.news_of_block (heap_alloc_new w (.cells #[x,y] T)) j u (by simpa using hu)
theorem zxE {w w':Xk} {b b':Nat} {u v:Xl} {l m:Xg} (h:Own w b u l) (k:Own w' b' v m) (hs:w.heap.size<=b'):(FB u++FB v).Nodup∧∀q∈FB u++FB v,q<w'.heap.size∨q<w.heap.size:=by
 refine⟨List.nodup_append.2 ⟨?_,?_,?_⟩,?_⟩
 ·unfold FB;cases u.ownBlock<;>simp
 ·unfold FB;cases v.ownBlock<;>simp
 ·intro a ha c hc e
  have h1:=(h.lt a (by simpa [FB]using ha)).2
  have h2:=(k.lt c (by simpa [FB]using hc)).1
  omega
 ·intro q hq
  rcases List.mem_append.1 hq with hq | hq
  ·exact .inr (h.lt q (by simpa [FB]using hq)).2
  ·exact .inl (k.lt q (by simpa [FB]using hq)).2
theorem zwL {w0n:Nat} {wr w2 w3:Xk} {b2:Nat} {v v2 v3:Xl} {l:List (Xg×Xg)} {x1 x2:Xg} {F:Xh} (hE:Below wr.heap.size wr w3) (h2:Own w2 b2 v2 x1) (hB3:Below w2.heap.size w2 w3) (h3:Own w3 w2.heap.size v3 x2) (hs:wr.heap.size<w2.heap.size)
  (hF:OwElems wr 132 2 v l (OwAttr wr) F) (hR:Rng F w0n wr.heap.size) (hb2:wr.heap.size<b2) {A:Array Xl} {T:Xm} :
  OwElems (w3.alloc (.cells A T)) 132 2 v l (OwAttr (w3.alloc (.cells A T))) F∧OwAttr (w3.alloc (.cells A T)) [v2,v3] (x1,x2) (FB v2++FB v3)∧(FB v2++FB v3).Nodup∧(∀g∈F,g∉FB v2++FB v3)∧(∀q,q∈F∨q∈FB v2++FB v3->q<(w3.alloc (.cells A T)).heap.size)∧(wr.heap.size∉FB v)∧(∀q∈FB v,q∈F)∧(∀q∈FB v2++FB v3,wr.heap.size<q):=by
 have Fa:Below wr.heap.size wr (w3.alloc (.cells A T)):=zam hE ((Below.refl _ _).alloc (Nat.le_refl _) _)
 have Aa:Own (w3.alloc (.cells A T)) b2 v2 x1:=(h2.keep hB3).alloc _
 have Da:Own (w3.alloc (.cells A T)) w2.heap.size v3 x2:=h3.alloc _
 have Ca:∀g∈F,g<wr.heap.size:=fun g hg=>(hR g hg).2
 obtain⟨nd,_⟩:=zxE h2 h3 (Nat.le_refl _)
 have Ba:∀q∈FB v2++FB v3,wr.heap.size<q∧q<(w3.alloc (.cells A T)).heap.size:=by
  intro q hq
  rcases List.mem_append.1 hq with hq | hq
  ·have:=Aa.lt q (by simpa [FB]using hq);omega
  ·have:=Da.lt q (by simpa [FB]using hq);have:=(h2.lt);have h5:=hs;exact⟨by have:=Aa.lt;omega,by omega⟩
 refine⟨OwAttrs.frm hF (Frm.ofBelow Fa []) (fun _ _=>by simp),⟨v2,v3,rfl,Aa.mono (Nat.zero_le _),Da.mono (Nat.zero_le _),rfl⟩,nd,fun g hg Ga=>by have:=Ca g hg;have:=(Ba g Ga).1;omega,fun q hq=> ?_,fun hq=> ?_,fun q hq=> ?_,fun q hq=>(Ba q hq).1⟩
 ·rcases hq with hq | hq
  ·have:=Ca q hq;have:=Fa.size;omega
  ·exact (Ba q hq).2
 ·obtain⟨_,_,_,_,_,h5,rfl⟩:=hF
  have:=Ca _ (List.mem_append_left _ hq)
  omega
 ·obtain⟨_,_,_,_,_,h5,rfl⟩:=hF
  exact List.mem_append_left _ hq
set_option maxHeartbeats 6400000 in
theorem zog (w:Xk) (v:Xl) (l:List (Xg×Xg)) (h:RdAttrs w v l) (hl:l.length<=4194304) (hx:∀x∈l,x.1.length<=4194304∧x.2.length<=4194304) :
  Calls Tryz.prog 72 #[v] w fun e w'=>∃u,e=.returned u∧∃F,OwAttrs w' u l F∧F.Nodup∧Rng F w.heap.size w'.heap.size∧Below w.heap.size w w':=by
 obtain⟨ad,cd,rfl,_,_⟩:=Elems.shape h
 obtain⟨i0,hi,ja,ka,ga⟩:=info_parts Tryz.info132
 have hm:(l.length:Int)<=9223372036854775807:=by omega
 go_enter Tryz.func72,Tryz.ntmps72
 go_wp2_with fail
 go_loopw [3,8] (fun b i wr=>∃j:Nat,j<=l.length∧i=.int .i64 j∧∃F,OwAttrs wr b (l.take j) F∧F.Nodup∧Rng F w.heap.size wr.heap.size∧Below w.heap.size w wr) (fun _ i _=>l.length-(intOf i).toNat)
 case atStart=>exact⟨0,Nat.zero_le _,rfl,[],⟨[],[],by simp,by simp,fun i hi=>by simp at hi,World.ownsRow_nil _ _ _ _,rfl⟩,List.nodup_nil,fun g hg=>by simp at hg,Below.refl _ _⟩
 case round=>
  obtain⟨j,hj,rfl,F,hF,hN,La,hB⟩:=hrel
  by_cases hjl:j<l.length
  ·have Fa:l.take (j+1)=l.take j++[l[j]]:=List.take_succ_eq_append_getElem hjl
   obtain⟨pb,Ba,rfl,Ya,ma,_,C,hC,Aa,Pa⟩:=h.at hjl
   clear ma
   have da:=hx l[j] (List.getElem_mem hjl)
   obtain⟨x,Ua⟩:∃x,x=l[j]:=⟨_,rfl⟩
   rw [<-Ua]at Pa Fa da
   obtain⟨y0,y1,rfl,Xa,Na⟩:=Pa
   have q0:=Aa 0 (by omega)
   have q1:=Aa 1 (by omega)
   simp only [List.getElem?_cons_zero,List.getElem?_cons_succ,Nat.add_zero]at q0 q1
   obtain⟨s0,g0,rfl,_,_⟩:=Xa.shape
   obtain⟨s1,g1,rfl,_,_⟩:=Na.shape
   have u0:wr.cell? ⟨pb,Ba+j*2,none⟩=some (.slice s0 x.1.length g0):=(hB.cell (p:=⟨pb,Ba+j*2,none⟩) Ya).trans q0
   have u1:wr.cell? ⟨pb,Ba+j*2+1,none⟩=some (.slice s1 x.2.length g1):=(hB.cell (p:=⟨pb,Ba+j*2+1,none⟩) Ya).trans q1
   have oa:(j:Int)<(l.length:Int):=by omega
   have Ta:Below wr.heap.size wr (wr.alloc (.cells #[.slice s0 x.1.length g0,.slice s1 x.2.length g1] 132)):=(Below.refl _ _).alloc (Nat.le_refl _) _
   have a1:=Loc.made wr #[.slice s0 x.1.length g0,.slice s1 x.2.length g1] 132
   have HF:=hide (show OwElems wr 132 2 _ (l.take j) (OwAttr wr) F from hF)
   have Ja:(l.take j).length=j:=by rw [List.length_take];omega
   have fa:=hide Fa
   clear hF Fa Ua Aa
   go_wp2_with fail
   generalize (wr.alloc (.cells #[.slice s0 x.1.length g0,.slice s1 x.2.length g1] 132))=w1 at *
   have Oa:=zam hB Ta
   have H1:=hide (zgw w1.drew (.slice s0 x.1.length g0) x.1 (Xa.keep (Oa.drew)) (by omega))
   have Ia:=a1.all ((Below.refl w1.heap.size w1).drew)
   have z0:w1.drew.cell? ⟨wr.heap.size,0,none⟩=some (.slice s0 x.1.length g0):=Ia.cell 0
   have z1:w1.drew.cell? ⟨wr.heap.size,1,none⟩=some (.slice s1 x.2.length g1):=Ia.cell 1
   have b0:w1.cell? ⟨wr.heap.size,0,none⟩=some (.slice s0 x.1.length g0):=a1.cell 0
   have b1:w1.cell? ⟨wr.heap.size,1,none⟩=some (.slice s1 x.2.length g1):=a1.cell 1
   have HR:=hide La
   have na:=hide hN
   clear La hN u0 u1
   go_region_held3 (fun w'=>w'.cell? ⟨wr.heap.size,0,none⟩=some (.slice s0 x.1.length g0)∧w'.cell? ⟨wr.heap.size,1,none⟩=some (.slice s1 x.2.length g1))
    (first | exact⟨by assumption,by assumption⟩ | simp [*])
    (first
     | (go_at_call 71;refine (zaa H1).mono ?_;clear H1;rintro e w2 ⟨v2,rfl,Wa,Da⟩;have a2:=Ia.all Da;have z0:w2.cell? ⟨wr.heap.size,0,none⟩=some (.slice s0 x.1.length g0):=a2.cell 0;have z1:w2.cell? ⟨wr.heap.size,1,none⟩=some (.slice s1 x.2.length g1):=a2.cell 1;have Ra:=zam Oa.drew Da;have ha:Below wr.heap.size wr w2:=zam Ta.drew Da;obtain⟨p2,k2,ba,_,_⟩:=Wa.byt.shape;subst ba)
     | (go_at_call 71;refine (zgw w2 (.slice s1 x.2.length g1) x.2 (Na.keep Ra) (by omega)).mono ?_;rintro e w3 ⟨v3,rfl,Sa,Ca⟩;have a3:=a2.all Ca;have z0:w3.cell? ⟨wr.heap.size,0,none⟩=some (.slice s0 x.1.length g0):=a3.cell 0;have z1:w3.cell? ⟨wr.heap.size,1,none⟩=some (.slice s1 x.2.length g1):=a3.cell 1;have aa:=zam Ra Ca;have ia:Below wr.heap.size wr w3:=zam ha Ca;obtain⟨p3,k3,Za,_,_⟩:=Sa.byt.shape;subst Za;have qa:(w3.alloc (.cells #[.slice p2 x.1.length k2,.slice p3 x.2.length k3] 132)).cell? ⟨wr.heap.size,0,none⟩=some (.slice s0 x.1.length g0):=(a3.alloc _).cell 0;have ra:(w3.alloc (.cells #[.slice p2 x.1.length k2,.slice p3 x.2.length k3] 132)).cell? ⟨wr.heap.size,1,none⟩=some (.slice s1 x.2.length g1):=(a3.alloc _).cell 1;have HY:=hide (zwL (A:= #[.slice p2 x.1.length k2,.slice p3 x.2.length k3]) (T:=132) ia Wa Ca Sa (Nat.lt_of_lt_of_le a1.lt Da.size) (zaa HF) (zaa HR) a1.lt))
     | (refine zcr (R:=OwAttr) (fun h f d=>OwAttr.frm h f d) rfl (.tmp 12) (.tmp 20) 26 rfl 132 i0 (.agg #[.slice none 0 0,.slice none 0 0]) 2 48 Tryz.underlying26 hi ja ka ga rfl (by decide) _ (l.take j) F (by rfl) (zaa HY).1 (zaa na) ⟨w3.heap.size,0,none⟩ 1 [.slice p2 x.1.length k2,.slice p3 x.2.length k3] x (FB (.slice p2 x.1.length k2)++FB (.slice p3 x.2.length k3)) (by rfl) rfl (zyY w3 _ _ _) (by intro y hy;simp at hy;rcases hy with rfl | rfl<;>rfl) (zaa HY).2.1 (zaa HY).2.2.1 (zaa HY).2.2.2.1 (zaa HY).2.2.2.2.1 (by rw [Ja];unfold maxLen;omega) (by rw [Ja];omega) ?_;intro g9 Ka w9 F9 Ga la Va Ma pa;have a9:=(a3.alloc (.cells #[.slice p2 x.1.length k2,.slice p3 x.2.length k3] 132)).frm Ma ((zaa HY).2.2.2.2.2.1);have z0:w9.cell? ⟨wr.heap.size,0,none⟩=some (.slice s0 x.1.length g0):=a9.cell 0;have z1:w9.cell? ⟨wr.heap.size,1,none⟩=some (.slice s1 x.2.length g1):=a9.cell 1))
   have Ha:Below w.heap.size w (w3.alloc (.cells #[.slice p2 x.1.length k2,.slice p3 x.2.length k3] 132)):=zam aa ((Below.refl _ _).alloc (Nat.le_refl _) _)
   have ea:Below w.heap.size w w9:=Ha.trans (Ma.below Ha.size (fun q hq=>(zaa HR q ((zaa HY).2.2.2.2.2.2.1 q hq)).1))
   have Qa:=hide (show OwAttrs w9 (.slice (some ⟨g9,0,none⟩) (j+1) Ka) (l.take (j+1)) F9 by
    rw [zaa fa]
    rw [Ja]at Ga
    exact Ga)
   have ca:=hide (show Rng F9 w.heap.size w9.heap.size from fun q hq=>⟨by
    rcases Va q hq with k | k | k
    ·exact (zaa HR q k).1
    ·have:=(zaa HY).2.2.2.2.2.2.2 q k;have:=hB.size;omega
    ·rw [k];exact Ha.size,OwAttrs.lt (zaa Qa) q hq⟩)
   clear Ga Va
   go_wp2_with fail
   go_roundw
   case rel=>exact⟨j+1,by omega,by go_num,F9,zaa Qa,la,zaa ca,ea⟩
   case measure=>simp [intOf];omega
  ·have e:j=l.length:=by omega
   subst e
   rw [List.take_length]at hF
   go_wp2_with fail
   go_ret
   exact⟨_,rfl,F,hF,hN,La,hB⟩
def Cl1 (w1:Xk) (bn pr:Nat) (T0 nmv txv atv:Xl) (kd:Int) (ln lt:Xg) (la:List (Xg×Xg)) (L:Array Bool) (a:Act) (w:Xk):Prop:=
 ∃b0 b1 b2 b3 b4 b5 b6 b7 b8 b9 b10 b11 b12 x3 x4 x5 x6 x7 x8 x9 x10 x11 x12 x13 x14,L = #[b0,b1,b2,b3,b4,b5,b6,b7,b8,b9,b10,b11,b12]∧a={ tmps:= #[T0,.pointer (some ⟨bn,0,none⟩),.pointer (some ⟨pr,0,none⟩),x3,x4,x5,x6,x7,x8,x9,x10,x11,x12,x13,x14],defers:=[] }∧Frm w1 w [pr]∧Loc w pr (if b12=true then #[.int .i64 kd,x7,x10,x13,.slice none 0 0] else #[.int .i64 0,.slice none 0 0,.slice none 0 0,.slice none 0 0,.slice none 0 0]) 29∧(b0=true->x3=.pointer (some ⟨bn,0,none⟩))∧(b1=true->x4=.int .i64 kd)∧(b2=true->x5=.pointer (some ⟨bn,1,none⟩))∧(b3=true->x6=nmv)∧(b4=true->Own w w1.heap.size x7 ln)∧(b5=true->x8=.pointer (some ⟨bn,2,none⟩))∧(b6=true->x9=txv)∧(b7=true->b4=true∧Own w w1.heap.size x10 lt∧∀q∈FB x10,q∉FB x7)∧(b8=true->x11=.pointer (some ⟨bn,3,none⟩))∧(b9=true->x12=atv)∧(b10=true->b7=true∧∃Fa,OwAttrs w x13 la Fa∧Fa.Nodup∧Rng Fa w1.heap.size w.heap.size∧∀q∈Fa,q∉FB x7∧q∉FB x10)∧(b11=true->b10=true∧x14=.agg #[.int .i64 kd,x7,x10,x13,.slice none 0 0])∧(b12=true->b11=true)
theorem zvZ {i:Nat} (h:i<13):i=0∨i=1∨i=2∨i=3∨i=4∨i=5∨i=6∨i=7∨i=8∨i=9∨i=10∨i=11∨i=12:=by omega
set_option maxHeartbeats 6400000 in
theorem zeh (n:Nat) (w0:Xk) (a b c d e:Xl) (t:Tr (n+1)) (hrd:RdNode (n+1) w0 [a,b,c,d,e] t) (hsz:szT (n+1) t<=2097152) :
  Calls Tryz.prog 80 #[.agg #[a,b,c,d,e]] w0 fun e w'=>∃p2 k2 p3 k3 p4 k4,e=.returned (.agg #[.int .i64 t.kind,.slice p2 t.name.length k2,.slice p3 t.text.length k3,.slice p4 t.attrs.length k4,.slice none 0 0])∧
   ∃Fa,Own w' 0 (.slice p2 t.name.length k2) t.name∧Own w' 0 (.slice p3 t.text.length k3) t.text∧OwAttrs w' (.slice p4 t.attrs.length k4) t.attrs Fa∧(FB (.slice p2 t.name.length k2)++FB (.slice p3 t.text.length k3)++Fa).Nodup∧Rng (FB (.slice p2 t.name.length k2)++FB (.slice p3 t.text.length k3)++Fa) (w0.heap.size+2) w'.heap.size∧Below w0.heap.size w0 w':=by
 have ba:szT (n+1) t=t.name.length+t.text.length+szA t.attrs+(t.kids.length+(t.kids.map (szT n)).sum):=rfl
 obtain⟨_,_,_,_,e0,k1,k2,hb,hc,hd,he⟩:=hrd
 simp only [List.cons.injEq,and_true]at e0
 obtain⟨rfl,rfl,rfl,rfl,rfl⟩:=e0
 obtain⟨ab,cb,rfl,_,_⟩:=hb.shape
 obtain⟨ac,cc,rfl,_,_⟩:=hc.shape
 obtain⟨ad,cd,rfl,_,_⟩:=Elems.shape hd
 obtain⟨ae,ce,rfl,_,_⟩:=Elems.shape he
 obtain⟨l0,l1,ja⟩:=two w0 #[.int .i64 t.kind,.slice ab t.name.length cb,.slice ac t.text.length cc,.slice ad t.attrs.length cd,.slice ae t.kids.length ce] #[.int .i64 0,.slice none 0 0,.slice none 0 0,.slice none 0 0,.slice none 0 0] 29 29
 have ta:t.attrs.length<=4194304:=by unfold szA at ba;omega
 have va:t.name.length<=4194304:=by omega
 have wa:t.text.length<=4194304:=by omega
 have ka:∀x∈t.attrs,x.1.length<=4194304∧x.2.length<=4194304:=fun x hx=>by have:=zzk hx;omega
 clear ba
 go_enter Tryz.func80,Tryz.ntmps80
 go_wp2_with fail
 generalize hW1:(w0.alloc (.cells #[.int .i64 t.kind,.slice ab t.name.length cb,.slice ac t.text.length cc,.slice ad t.attrs.length cd,.slice ae t.kids.length ce] 29)).alloc (.cells #[.int .i64 0,.slice none 0 0,.slice none 0 0,.slice none 0 0,.slice none 0 0] 29)=w1 at *
 have ia:w0.heap.size+2<=w1.heap.size:=by rw [<-hW1];simp
 clear hW1
 have qa:=hide ka
 clear ka
 have ga:w0.heap.size∉[w0.heap.size+1]:=by simp
 have fa:∀{w:Xk},Frm w1 w [w0.heap.size+1]->Below w0.heap.size w0 w:=fun f=>ja.trans (f.below ja.size (fun q hq=>by simp at hq;omega))
 refine zds (by kernel_rfl) (Cl1 w1 w0.heap.size (w0.heap.size+1) (.agg #[.int .i64 t.kind,.slice ab t.name.length cb,.slice ac t.text.length cc,.slice ad t.attrs.length cd,.slice ae t.kids.length ce]) (.slice ab t.name.length cb) (.slice ac t.text.length cc) (.slice ad t.attrs.length cd) t.kind t.name t.text t.attrs) ?sz ?h0 ?step ?dn
 case sz=>
   rintro L a w ⟨b0,b1,b2,b3,b4,b5,b6,b7,b8,b9,Ia,Ha,Ba,x3,x4,x5,x6,x7,x8,x9,Ma,Ka,Na,Ga,La,rfl,_⟩
   rfl
 case h0=>
   refine⟨false,false,false,false,false,false,false,false,false,false,false,false,false,undef,undef,undef,undef,undef,undef,undef,undef,undef,undef,undef,undef,rfl,rfl,Frm.ofBelow ((Below.refl _ _).drew) _,l1.all ((Below.refl _ _).drew),?_⟩
   simp
 case step=>
   intro L a w i o hI hi ho
   obtain⟨b0,b1,b2,b3,b4,b5,b6,b7,b8,b9,Ia,Ha,Ba,x3,x4,x5,x6,x7,x8,x9,Ma,Ka,Na,Ga,La,rfl,rfl,h0,h1,f0,f1,f2,f3,f4,f5,f6,f7,f8,f9,Aa,Ca,Da⟩:=hI
   rcases zvZ (zfU hi)with rfl | rfl | rfl | rfl | rfl | rfl | rfl | rfl | rfl | rfl | rfl | rfl | rfl
   ·obtain rfl:=Option.some.inj ho
    go_simp
    exact⟨true,b1,b2,b3,b4,b5,b6,b7,b8,b9,Ia,Ha,Ba,_,x4,x5,x6,x7,x8,x9,Ma,Ka,Na,Ga,La,rfl,rfl,h0,h1,(fun _=>rfl),f1,f2,f3,f4,f5,f6,f7,f8,f9,Aa,Ca,Da⟩
   ·have g0:=zai hi ho 0
    obtain rfl:=Option.some.inj ho
    have e0:=f0 (g0 (by kernel_rfl))
    subst e0
    have c0:w.cell? ⟨w0.heap.size,0,none⟩=some (.int .i64 t.kind):=(l0.frm h0 ga).cell 0
    go_simp
    exact⟨b0,true,b2,b3,b4,b5,b6,b7,b8,b9,Ia,Ha,Ba,_,_,x5,x6,x7,x8,x9,Ma,Ka,Na,Ga,La,rfl,rfl,h0,h1,f0,(fun _=>rfl),f2,f3,f4,f5,f6,f7,f8,f9,Aa,Ca,Da⟩
   ·obtain rfl:=Option.some.inj ho
    go_simp
    exact⟨b0,b1,true,b3,b4,b5,b6,b7,b8,b9,Ia,Ha,Ba,x3,x4,_,x6,x7,x8,x9,Ma,Ka,Na,Ga,La,rfl,rfl,h0,h1,f0,f1,(fun _=>rfl),f3,f4,f5,f6,f7,f8,f9,Aa,Ca,Da⟩
   ·have g2:=zai hi ho 2
    obtain rfl:=Option.some.inj ho
    have e2:=f2 (g2 (by kernel_rfl))
    subst e2
    have c0:w.cell? ⟨w0.heap.size,1,none⟩=some (.slice ab t.name.length cb):=(l0.frm h0 ga).cell 1
    go_simp
    exact⟨b0,b1,b2,true,b4,b5,b6,b7,b8,b9,Ia,Ha,Ba,x3,x4,_,_,x7,x8,x9,Ma,Ka,Na,Ga,La,rfl,rfl,h0,h1,f0,f1,f2,(fun _=>rfl),f4,f5,f6,f7,f8,f9,Aa,Ca,Da⟩
   ·have g3:=zai hi ho 3
    obtain rfl:=Option.some.inj ho
    have e3:=f3 (g3 (by kernel_rfl))
    subst e3
    have aa:b4=false:=by simpa using zas rfl hi
    have Ja:Ba=false:=by
     cases Ba with
     | false=>rfl
     | true=>have:=(f7 (Aa (Ca (Da rfl)).1).1).1;rw [aa]at this;cases this
    subst Ja
    go_simp
    refine (zgw w _ t.name (hb.keep (fa h0)) (by omega)).mono ?_
    rintro e w' ⟨v',rfl,Ua,Oa⟩
    exact⟨b0,b1,b2,b3,true,b5,b6,b7,b8,b9,Ia,Ha,false,x3,x4,x5,_,_,x8,x9,Ma,Ka,Na,Ga,La,rfl,rfl,h0.trans (Frm.ofBelow Oa _),h1.all Oa,f0,f1,f2,f3,(fun _=>Ua.mono h0.size),f5,f6,(fun h=>by rw [(f7 h).1]at aa;cases aa),f8,f9,(fun h=>by have:=(f7 (Aa h).1).1;rw [aa]at this;cases this),(fun h=>by have:=(f7 (Aa (Ca h).1).1).1;rw [aa]at this;cases this),Da⟩
   ·obtain rfl:=Option.some.inj ho
    go_simp
    exact⟨b0,b1,b2,b3,b4,true,b6,b7,b8,b9,Ia,Ha,Ba,x3,x4,x5,x6,x7,_,x9,Ma,Ka,Na,Ga,La,rfl,rfl,h0,h1,f0,f1,f2,f3,f4,(fun _=>rfl),f6,f7,f8,f9,Aa,Ca,Da⟩
   ·have g5:=zai hi ho 5
    obtain rfl:=Option.some.inj ho
    have e5:=f5 (g5 (by kernel_rfl))
    subst e5
    have c0:w.cell? ⟨w0.heap.size,2,none⟩=some (.slice ac t.text.length cc):=(l0.frm h0 ga).cell 2
    go_simp
    exact⟨b0,b1,b2,b3,b4,b5,true,b7,b8,b9,Ia,Ha,Ba,x3,x4,x5,x6,x7,_,_,Ma,Ka,Na,Ga,La,rfl,rfl,h0,h1,f0,f1,f2,f3,f4,f5,(fun _=>rfl),f7,f8,f9,Aa,Ca,Da⟩
   ·have g6:=zai hi ho 6
    have g4:=zai hi ho 4
    obtain rfl:=Option.some.inj ho
    have e6:=f6 (g6 (by kernel_rfl))
    have e4:b4=true:=g4 (by kernel_rfl)
    subst e6 e4
    have ea:b7=false:=by simpa using zas rfl hi
    have Ja:Ba=false:=by
     cases Ba with
     | false=>rfl
     | true=>have:=(Aa (Ca (Da rfl)).1).1;rw [ea]at this;cases this
    subst Ja
    go_simp
    refine (zgw w _ t.text (hc.keep (fa h0)) (by omega)).mono ?_
    rintro e w' ⟨v',rfl,Ua,Oa⟩
    exact⟨b0,b1,b2,b3,true,b5,b6,true,b8,b9,Ia,Ha,false,x3,x4,x5,x6,x7,x8,_,_,Ka,Na,Ga,La,rfl,rfl,h0.trans (Frm.ofBelow Oa _),h1.all Oa,f0,f1,f2,f3,(fun h=>(f4 h).keep Oa),f5,f6,(fun _=>⟨rfl,Ua.mono h0.size,fun q hq Ya=>by have:=(Ua.lt q (by simpa [FB]using hq)).1;have:=((f4 rfl).lt q (by simpa [FB]using Ya)).2;omega⟩),f8,f9,(fun h=>by rw [(Aa h).1]at ea;cases ea),(fun h=>by have:=(Aa (Ca h).1).1;rw [ea]at this;cases this),Da⟩
   ·obtain rfl:=Option.some.inj ho
    go_simp
    exact⟨b0,b1,b2,b3,b4,b5,b6,b7,true,b9,Ia,Ha,Ba,x3,x4,x5,x6,x7,x8,x9,Ma,_,Na,Ga,La,rfl,rfl,h0,h1,f0,f1,f2,f3,f4,f5,f6,f7,(fun _=>rfl),f9,Aa,Ca,Da⟩
   ·have g8:=zai hi ho 8
    obtain rfl:=Option.some.inj ho
    have e8:=f8 (g8 (by kernel_rfl))
    subst e8
    have c0:w.cell? ⟨w0.heap.size,3,none⟩=some (.slice ad t.attrs.length cd):=(l0.frm h0 ga).cell 3
    go_simp
    exact⟨b0,b1,b2,b3,b4,b5,b6,b7,b8,true,Ia,Ha,Ba,x3,x4,x5,x6,x7,x8,x9,Ma,_,_,Ga,La,rfl,rfl,h0,h1,f0,f1,f2,f3,f4,f5,f6,f7,f8,(fun _=>rfl),Aa,Ca,Da⟩
   ·have g9:=zai hi ho 9
    have g7:=zai hi ho 7
    obtain rfl:=Option.some.inj ho
    have e9:=f9 (g9 (by kernel_rfl))
    have e7:b7=true:=g7 (by kernel_rfl)
    have e4:=(f7 e7).1
    subst e9 e7 e4
    have Ra:Ia=false:=by simpa using zas rfl hi
    have Ja:Ba=false:=by
     cases Ba with
     | false=>rfl
     | true=>have:=(Ca (Da rfl)).1;rw [Ra]at this;cases this
    subst Ja
    go_simp
    refine (zog w _ t.attrs (RdAttrs.keep hd (fa h0)) ta (zaa qa)).mono ?_
    rintro e w' ⟨v',rfl,Fa,Ua,ua,r',Oa⟩
    exact⟨b0,b1,b2,b3,true,b5,b6,true,b8,b9,true,Ha,false,x3,x4,x5,x6,x7,x8,x9,Ma,Ka,_,_,La,rfl,rfl,h0.trans (Frm.ofBelow Oa _),h1.all Oa,f0,f1,f2,f3,(fun h=>(f4 h).keep Oa),f5,f6,(fun h=>⟨(f7 h).1,(f7 h).2.1.keep Oa,(f7 h).2.2⟩),f8,f9,(fun _=>⟨rfl,Fa,Ua,ua,r'.mono h0.size (Nat.le_refl _),fun q hq=>⟨fun Ya=>by have:=(r' q hq).1;have:=((f4 rfl).lt q (by simpa [FB]using Ya)).2;omega,fun Ya=>by have:=(r' q hq).1;have:=((f7 rfl).2.1.lt q (by simpa [FB]using Ya)).2;omega⟩⟩),(fun h=>by rw [(Ca h).1]at Ra;cases Ra),Da⟩
   ·have g1:=zai hi ho 1
    have sa:=zai hi ho 10
    obtain rfl:=Option.some.inj ho
    have e1:=f1 (g1 (by kernel_rfl))
    have Qa:Ia=true:=sa (by kernel_rfl)
    have e7:=(Aa Qa).1
    have e4:=(f7 e7).1
    subst e1 Qa e7 e4
    obtain⟨p2,Sa,Wa,_,_⟩:=(f4 rfl).byt.shape
    obtain⟨p3,Ta,Za,_,_⟩:=(f7 rfl).2.1.byt.shape
    obtain⟨_,Fa,q1,q2,q3,q4⟩:=Aa rfl
    obtain⟨p4,Pa,Va⟩:∃p4 Pa,Ga=.slice p4 t.attrs.length Pa:=by
     obtain⟨_,_,_,_,_,e4,_⟩:=q1
     exact zfc e4
    subst Wa Za Va
    go_simp
    exact⟨b0,b1,b2,b3,true,b5,b6,true,b8,b9,true,true,Ba,x3,_,x5,x6,_,x8,x9,_,Ka,Na,_,_,rfl,rfl,h0,h1,f0,f1,f2,f3,f4,f5,f6,f7,f8,f9,Aa,(fun _=>⟨rfl,rfl⟩),(fun h=>rfl)⟩
   ·have ra:=zai hi ho 11
    obtain rfl:=Option.some.inj ho
    have Xa:Ha=true:=ra (by kernel_rfl)
    obtain⟨Qa,pa⟩:=Ca Xa
    have e7:=(Aa Qa).1
    have e4:=(f7 e7).1
    have Ja:Ba=false:=by simpa using zas rfl hi
    subst e4 e7 Qa Xa pa Ja
    replace h1:Loc w (w0.heap.size+1) #[.int .i64 0,.slice none 0 0,.slice none 0 0,.slice none 0 0,.slice none 0 0] 29:=h1
    obtain⟨p2,Sa,Wa,_,_⟩:=(f4 rfl).byt.shape
    obtain⟨p3,Ta,Za,_,_⟩:=(f7 rfl).2.1.byt.shape
    obtain⟨_,Fa,r1,r2,r3,r4⟩:=Aa rfl
    obtain⟨p4,Pa,Va⟩:∃p4 Pa,Ga=.slice p4 t.attrs.length Pa:=by
     obtain⟨_,_,_,_,_,e4,_⟩:=r1
     exact zfc e4
    subst Wa Za Va
    obtain⟨y0,y1,y2,y3,y4⟩:=h1.five
    have u0:=h1.frozen 0
    have u1:=h1.frozen 1
    have u2:=h1.frozen 2
    have u3:=h1.frozen 3
    have u4:=h1.frozen 4
    obtain⟨s1,s2⟩:=zcj h1 (.int .i64 t.kind) (.slice p2 t.name.length Sa) (.slice p3 t.text.length Ta) (.slice p4 t.attrs.length Pa) (.slice none 0 0)
    have s3:=h0.trans s2
    have s4:=(f4 rfl).frm s2 (fun g hg ca=>by have:=((f4 rfl).lt g (by simpa [FB]using hg)).1;simp at ca;omega)
    have s5:=(f7 rfl).2.1.frm s2 (fun g hg ca=>by have:=((f7 rfl).2.1.lt g (by simpa [FB]using hg)).1;simp at ca;omega)
    have s6:=OwAttrs.frm r1 s2 (fun g hg ca=>by have:=(r3 g hg).1;simp at ca;omega)
    go_simp
    exact⟨b0,b1,b2,b3,true,b5,b6,true,b8,b9,true,true,true,x3,x4,x5,x6,_,x8,x9,_,Ka,Na,_,_,rfl,rfl,s3,s1,f0,f1,f2,f3,(fun _=>s4),f5,f6,(fun _=>⟨rfl,s5,(f7 rfl).2.2⟩),f8,f9,(fun _=>⟨rfl,Fa,s6,r2,r3.mono (Nat.le_refl _) s2.size,r4⟩),(fun _=>⟨rfl,rfl⟩),(fun _=>rfl)⟩
 case dn=>
  intro L a w2 hI ma
  have da:=zcp (L:=L) (by obtain⟨b0,b1,b2,b3,b4,b5,b6,b7,b8,b9,Ia,Ha,Ba,x3,x4,x5,x6,x7,x8,x9,Ma,Ka,Na,Ga,La,rfl,_⟩:=hI;rfl) (by kernel_rfl) ma 13
  obtain⟨b0,b1,b2,b3,b4,b5,b6,b7,b8,b9,Ia,Ha,Ba,x3,x4,x5,x6,x7,x8,x9,Ma,Ka,Na,Ga,La,rfl,rfl,h0,h1,f0,f1,f2,f3,f4,f5,f6,f7,f8,f9,Aa,Ca,Da⟩:=hI
  have na:Ba=true:=da 12 (by omega) (by decide)
  have Xa:=Da na
  obtain⟨Qa,pa⟩:=Ca Xa
  have e7:=(Aa Qa).1
  have e4:=(f7 e7).1
  subst na Xa Qa e7 e4
  replace h1:Loc w2 (w0.heap.size+1) #[.int .i64 t.kind,x7,Ma,Ga,.slice none 0 0] 29:=h1
  have r0:=f4 rfl
  obtain⟨_,r1,oa⟩:=f7 rfl
  obtain⟨_,Fa,r2,r3,r4,r5⟩:=Aa rfl
  have la:=fa h0
  clear da f0 f1 f2 f3 f4 f5 f6 f7 f8 f9 Aa Ca Da ma h0
  obtain⟨p2,Sa,Wa,_,_⟩:=r0.byt.shape
  obtain⟨p3,Ta,Za,_,_⟩:=r1.byt.shape
  obtain⟨p4,Pa,Va⟩:∃p4 Pa,Ga=.slice p4 t.attrs.length Pa:=by
   obtain⟨_,_,_,_,_,e4,_⟩:=r2
   exact zfc e4
  subst Wa Za Va
  obtain⟨g0,g1,g2,g3,g4⟩:=h1.five
  have nd:(FB (.slice p2 t.name.length Sa)++FB (.slice p3 t.text.length Ta)++Fa).Nodup:=by
   refine List.nodup_append.2 ⟨List.nodup_append.2 ⟨zbY _,zbY _,fun a ha b hb e=>oa b hb (e ▸ ha)⟩,r3,fun a ha b hb e=> ?_⟩
   subst e
   rcases List.mem_append.1 ha with ha | ha
   ·exact (r5 a hb).1 ha
   ·exact (r5 a hb).2 ha
  have rg:Rng (FB (.slice p2 t.name.length Sa)++FB (.slice p3 t.text.length Ta)++Fa) (w0.heap.size+2) w2.heap.size:=((r0.rng.mono ia (Nat.le_refl _)).app (r1.rng.mono ia (Nat.le_refl _))).app (r4.mono ia (Nat.le_refl _))
  have HF:=hide (And.intro (r0.mono (base':=0) (Nat.zero_le _)) (And.intro (r1.mono (base':=0) (Nat.zero_le _)) (And.intro r2 (And.intro nd (And.intro rg la)))))
  clear r0 r1 oa r2 r3 r4 r5 nd rg la
  go_wp2_with fail
  obtain⟨q1,q2,q3,q4,q5,q6⟩:=zaa HF
  exact bodyPost_ret (v:=.agg #[.int .i64 t.kind,.slice p2 t.name.length Sa,.slice p3 t.text.length Ta,.slice p4 t.attrs.length Pa,.slice none 0 0]) (by simp [results,Tryz.results80,go_sem,g0,g1,g2,g3,g4]) rfl ⟨p2,Sa,p3,Ta,p4,Pa,rfl,q1,q2,Fa,q3,by rw [<-List.append_assoc];exact q4,by rw [<-List.append_assoc];exact q5,q6⟩
end Go.Proofs.YtgjolijncmkkhaaGreatDoor
namespace Go.Proofs.YtgjolijncmkkhaaGreatDoor
open Go.RowKit Go.Maps
set_option linter.unusedVariables false
set_option maxRecDepth 100000
theorem zhS (w:Xk):Calls Tryz.prog 82 #[] w fun e w'=>e=.returned (.pointer (some ⟨w.heap.size+1,0,none⟩))∧FoS w.heap.size w' (w.heap.size+1) w.heap.size none 0 [] []∧Below w.heap.size w w':=by
 refine zaF ?_
 intro Q HQ
 have Aa:= @run_makeMap Tryz.prog
 have hA:Below w.heap.size w ((w.alloc (.map #[] 0)).alloc (.cells (fs0 (.slice none 0 0) (.map (some w.heap.size))) 141)):=zam ((Below.refl _ _).alloc (Nat.le_refl _) _) ((Below.refl _ _).alloc (Nat.le_refl _) _)
 have lg:=Loc.made (w.alloc (.map #[] 0)) (fs0 (.slice none 0 0) (.map (some w.heap.size))) 141
 simp only [World.size_alloc]at lg
 have hb:Below (w.alloc (.map #[] 0)).heap.size (w.alloc (.map #[] 0)) ((w.alloc (.map #[] 0)).alloc (.cells (fs0 (.slice none 0 0) (.map (some w.heap.size))) 141)):=(Below.refl _ _).alloc (Nat.le_refl _) _
 have hS:FoS w.heap.size ((w.alloc (.map #[] 0)).alloc (.cells (fs0 (.slice none 0 0) (.map (some w.heap.size))) 141)) (w.heap.size+1) w.heap.size none 0 [] []:=
  ⟨.inl lg,(AtM.made w).frm (Frm.ofBelow hb []) (by simp),⟨[],[],rfl,rfl,fun i hi=>(by cases hi),World.ownsRow_nil _ _ _ _,rfl⟩,List.nodup_nil,fun q hq=>(by cases hq),by omega,Nat.le_refl _,fun p hp=>(by cases hp),Nat.zero_le _⟩
 have HE:=hide (zaa HQ (.returned (.pointer (some ⟨w.heap.size+1,0,none⟩))) _ ⟨rfl,hS,hA⟩)
 unfold fs0 at HE
 clear hA lg hb hS HQ
 go_enter Tryz.func82,Tryz.ntmps82
 go_wp2_with fail
 exact zaa HE
set_option maxHeartbeats 6400000 in
theorem zjX (n:Nat) (w:Xk) (i:IdV) (t:Tr (n+1)) (b c d e:Xl) (hrd:RdNode (n+1) w [.int .i64 t.kind,b,c,d,e] t) (hsz:szT (n+1) t<=2097152) :
  Calls Tryz.prog 114 #[zbg i,.agg #[.int .i64 t.kind,b,c,d,e]] w fun e w'=>∃p2 k2 p3 k3 p4 k4 Fa,e=.returned (.agg #[.int .i64 i.1,.int .i64 i.2,.int .i64 0,.int .i64 0,.slice none 0 0,.int .i64 t.kind,.slice p2 t.name.length k2,.slice p3 t.text.length k3,.slice p4 t.attrs.length k4])∧
   Own w' 0 (.slice p2 t.name.length k2) t.name∧Own w' 0 (.slice p3 t.text.length k3) t.text∧OwAttrs w' (.slice p4 t.attrs.length k4) t.attrs Fa∧(FB (.slice p2 t.name.length k2)++FB (.slice p3 t.text.length k3)++Fa).Nodup∧(∀q∈FB (.slice p2 t.name.length k2)++FB (.slice p3 t.text.length k3)++Fa,w.heap.size<=q)∧Below w.heap.size w w':=by
 refine zaF ?_
 intro Q HQ
 have hA:Below w.heap.size w (((w.alloc (.cells #[.int .i64 i.1,.int .i64 i.2] 50)).alloc (.cells #[.int .i64 t.kind,b,c,d,e] 29)).alloc (.cells #[.int .i64 0,.int .i64 0,.int .i64 0,.int .i64 0,.slice none 0 0,.int .i64 0,.slice none 0 0,.slice none 0 0,.slice none 0 0] 146)):=zam (zam ((Below.refl _ _).alloc (Nat.le_refl _) _) ((Below.refl _ _).alloc (Nat.le_refl _) _)) ((Below.refl _ _).alloc (Nat.le_refl _) _)
 have l0:=((Loc.made w #[.int .i64 i.1,.int .i64 i.2] 50).alloc (.cells #[.int .i64 t.kind,b,c,d,e] 29)).alloc (.cells #[.int .i64 0,.int .i64 0,.int .i64 0,.int .i64 0,.slice none 0 0,.int .i64 0,.slice none 0 0,.slice none 0 0,.slice none 0 0] 146)
 have l1:=(Loc.made (w.alloc (.cells #[.int .i64 i.1,.int .i64 i.2] 50)) #[.int .i64 t.kind,b,c,d,e] 29).alloc (.cells #[.int .i64 0,.int .i64 0,.int .i64 0,.int .i64 0,.slice none 0 0,.int .i64 0,.slice none 0 0,.slice none 0 0,.slice none 0 0] 146)
 have l2:=Loc.made ((w.alloc (.cells #[.int .i64 i.1,.int .i64 i.2] 50)).alloc (.cells #[.int .i64 t.kind,b,c,d,e] 29)) #[.int .i64 0,.int .i64 0,.int .i64 0,.int .i64 0,.slice none 0 0,.int .i64 0,.slice none 0 0,.slice none 0 0,.slice none 0 0] 146
 simp only [World.size_alloc]at l1 l2
 have Ga:((((w.alloc (.cells #[.int .i64 i.1,.int .i64 i.2] 50)).alloc (.cells #[.int .i64 t.kind,b,c,d,e] 29)).alloc (.cells #[.int .i64 0,.int .i64 0,.int .i64 0,.int .i64 0,.slice none 0 0,.int .i64 0,.slice none 0 0,.slice none 0 0,.slice none 0 0] 146))).heap.size=w.heap.size+3:=by simp
 have HC:=hide (zeh n (((w.alloc (.cells #[.int .i64 i.1,.int .i64 i.2] 50)).alloc (.cells #[.int .i64 t.kind,b,c,d,e] 29)).alloc (.cells #[.int .i64 0,.int .i64 0,.int .i64 0,.int .i64 0,.slice none 0 0,.int .i64 0,.slice none 0 0,.slice none 0 0,.slice none 0 0] 146)) (.int .i64 t.kind) b c d e t (hrd.keep hA) hsz)
 have x0:=l1.cell 0
 have x1:=l1.cell 1
 have x2:=l1.cell 2
 have x3:=l1.cell 3
 have x4:=l1.cell 4
 have LL:=hide (And.intro hA (And.intro l0 (And.intro l1 (And.intro l2 Ga))))
 obtain⟨b',c',d',e',eC,_,_,hb,hc,hd,he⟩:=hrd
 simp only [List.cons.injEq,and_true,true_and]at eC
 obtain⟨rfl,rfl,rfl,rfl⟩:=eC
 obtain⟨_,_,rfl,_⟩:=hb.shape
 obtain⟨_,_,rfl,_⟩:=hc.shape
 obtain⟨_,_,rfl,_⟩:=Elems.shape hd
 obtain⟨_,_,rfl,_⟩:=Elems.shape he
 clear hA l0 l1 l2 Ga hb hc hd he hsz
 unfold zbg
 go_enter Tryz.func114,Tryz.ntmps114
 go_wp2_with fail
 refine (zaa HC).mono ?_
 rintro e w2 ⟨p2,k2,p3,k3,p4,k4,rfl,Fa,o2,o3,o4,Ca,Ia,Da⟩
 obtain⟨hA,l0,l1,l2,Ga⟩:=zaa LL
 have m0:=l0.all Da
 have m1:=l1.all Da
 have m2:=l2.all Da
 have Ha:=zam hA Da
 clear HC LL l0 l1 l2 hA x0 x1 x2 x3 x4
 have x0:=m1.cell 0
 have x1:=m1.cell 1
 have x2:=m1.cell 2
 have x3:=m1.cell 3
 have x4:=m1.cell 4
 have Oa:=m1.frozen 0
 have La:=m1.frozen 1
 have Na:=m1.frozen 2
 have Ka:=m1.frozen 3
 have Ma:=m1.frozen 4
 obtain⟨n1,f1⟩:=zcj m1 (.int .i64 t.kind) (.slice p2 t.name.length k2) (.slice p3 t.text.length k3) (.slice p4 t.attrs.length k4) (.slice none 0 0)
 have n0:=m0.frm f1 (by simp)
 have n2:=m2.frm f1 (by simp)
 have Aa:∀q∈FB (.slice p2 t.name.length k2)++FB (.slice p3 t.text.length k3)++Fa,w.heap.size+3<=q:=fun q hq=>by have:=(Ia q hq).1;omega
 have Ba:=Ha.trans (f1.below Ha.size (fun q hq=>by have e9:q=w.heap.size+1:=(by simpa using hq);omega))
 have q2:=o2.frm f1 (fun q hq e9=>by have e9:q=w.heap.size+1:=(by simpa using e9);have:=Aa q (by simp [hq]);omega)
 have q3:=o3.frm f1 (fun q hq e9=>by have e9:q=w.heap.size+1:=(by simpa using e9);have:=Aa q (by simp [hq]);omega)
 have q4:=OwAttrs.frm o4 f1 (fun q hq e9=>by have e9:q=w.heap.size+1:=(by simpa using e9);have:=Aa q (by simp [hq]);omega)
 have HK:=hide (And.intro n0 (And.intro n1 (And.intro n2 (And.intro Ba (And.intro q2 (And.intro q3 (And.intro q4 (And.intro Ca Aa))))))))
 clear m0 m1 m2 n0 n1 n2 f1 Ha Ba o2 o3 o4 q2 q3 q4 Ca Ia Aa Da Ga
 go_upto_region 2 with fail
 obtain⟨n0,n1,n2,Ba,q2,q3,q4,Ca,Aa⟩:=zaa HK
 clear HK x0 x1 x2 x3 x4 Oa La Na Ka Ma
 generalize (((((w2.setCell ⟨w.heap.size+1,0,none⟩ (.int .i64 t.kind)).setCell ⟨w.heap.size+1,1,none⟩ (.slice p2 t.name.length k2)).setCell ⟨w.heap.size+1,2,none⟩ (.slice p3 t.text.length k3)).setCell ⟨w.heap.size+1,3,none⟩ (.slice p4 t.attrs.length k4)).setCell ⟨w.heap.size+1,4,none⟩ (.slice none 0 0))=w3 at *
 have i0:=n0.cell 0
 have i1:=n0.cell 1
 have x0:=n1.cell 0
 have x1:=n1.cell 1
 have x2:=n1.cell 2
 have x3:=n1.cell 3
 have z0:=n2.cell 0
 have z1:=n2.cell 1
 have z2:=n2.cell 2
 have z3:=n2.cell 3
 have z4:=n2.cell 4
 have z5:=n2.cell 5
 have z6:=n2.cell 6
 have z7:=n2.cell 7
 have z8:=n2.cell 8
 have y0:=n2.frozen 0
 have y1:=n2.frozen 1
 have y2:=n2.frozen 2
 have y3:=n2.frozen 3
 have y4:=n2.frozen 4
 have y5:=n2.frozen 5
 have y6:=n2.frozen 6
 have y7:=n2.frozen 7
 have y8:=n2.frozen 8
 obtain⟨r1,f2⟩:=zuo n2 (.int .i64 i.1) (.int .i64 i.2) (.int .i64 0) (.int .i64 0) (.slice none 0 0) (.int .i64 t.kind) (.slice p2 t.name.length k2) (.slice p3 t.text.length k3) (.slice p4 t.attrs.length k4)
 have Ja:=Ba.trans (f2.below Ba.size (fun q hq=>by have e9:q=w.heap.size+2:=(by simpa using hq);omega))
 have s2:=q2.frm f2 (fun q hq e9=>by have e9:q=w.heap.size+2:=(by simpa using e9);have:=Aa q (by simp [hq]);omega)
 have s3:=q3.frm f2 (fun q hq e9=>by have e9:q=w.heap.size+2:=(by simpa using e9);have:=Aa q (by simp [hq]);omega)
 have s4:=OwAttrs.frm q4 f2 (fun q hq e9=>by have e9:q=w.heap.size+2:=(by simpa using e9);have:=Aa q (by simp [hq]);omega)
 have HE:=hide (And.intro r1 (zaa HQ (.returned (.agg #[.int .i64 i.1,.int .i64 i.2,.int .i64 0,.int .i64 0,.slice none 0 0,.int .i64 t.kind,.slice p2 t.name.length k2,.slice p3 t.text.length k3,.slice p4 t.attrs.length k4])) _ ⟨p2,k2,p3,k3,p4,k4,Fa,rfl,s2,s3,s4,Ca,fun q hq=>by have:=Aa q hq;omega,Ja⟩))
 clear n0 n1 n2 r1 f2 Ba Ja q2 q3 q4 s2 s3 s4 Ca Aa HQ
 go_wp2_with fail
 have E:=(zaa HE).1
 have e0:=E.cell 0
 have e1:=E.cell 1
 have e2:=E.cell 2
 have e3:=E.cell 3
 have e4:=E.cell 4
 have e5:=E.cell 5
 have e6:=E.cell 6
 have e7:=E.cell 7
 have e8:=E.cell 8
 exact bodyPost_ret (v:=.agg #[.int .i64 i.1,.int .i64 i.2,.int .i64 0,.int .i64 0,.slice none 0 0,.int .i64 t.kind,.slice p2 t.name.length k2,.slice p3 t.text.length k3,.slice p4 t.attrs.length k4]) (by simp [results,Tryz.results114,go_sem,e0,e1,e2,e3,e4,e5,e6,e7,e8]) rfl (zaa HE).2
def zjb (n:Nat):Prop:=∀(w0:Xk) (B:Nat) (w:Xk) (g mb:Nat) (a:Xi) (c:Nat) (l:List PlV) (F:Xh) (iN iR:Int) (ks:List (Tr n)) (a4:Xi) (c4:Nat),w0.heap.size<=B->Below w0.heap.size w0 w->FoS B w g mb a c l F->RdKids n w0 (.slice a4 ks.length c4) ks->okI (iN,iR)->SeedIds l->(zau n (iN,iR) ks l).length<=100000->(∀x∈ks,szT n x<=2097152)->
  Calls Tryz.prog 115 #[.pointer (some ⟨g,0,none⟩),.agg #[.int .i64 iN,.int .i64 iR],.slice a4 ks.length c4] w fun e w'=>e=.returned (.tuple #[])∧FoT B w g mb (zau n (iN,iR) ks l) F w'
def Aj4 (w3:Xk) (g kb:Nat) (a_:Xi) (c_:Nat) (m:List PlV) {n:Nat} (x:Nd (Tr n)) (ad1 ad2 ad3 ad4:Xi) (cp1 cp2 cp3 cp4:Nat) (s1 s2 s3 s4 s5 s6 s9 s10 s11 s12 s13 s14 s15 s24 s25 s26 s27 s28 s29 s30 s31 s32 s33 s34 s35 s36 s37 s38 s39:Xl) (L:Array Bool) (a:Act) (w:Xk):Prop:=
 ∀C:Prop,(∀(b0 b1 b2 b3 b4 b5 b6 b7 b8 b9:Bool) (x8 x16 x17 x18 x19 x20 x21 x22 x23:Xl),L = #[b0,b1,b2,b3,b4,b5,b6,b7,b8,b9]->a={ tmps:= #[.pointer (some ⟨g,0,none⟩),s1,s2,s3,s4,s5,s6,.pointer (some ⟨kb,0,none⟩),x8,s9,s10,s11,s12,s13,s14,s15,x16,x17,x18,x19,x20,x21,x22,x23,s24,s25,s26,s27,s28,s29,s30,s31,s32,s33,s34,s35,s36,s37,s38,s39],defers:=[] }->Below w3.heap.size w3 w->(b0=true->x16=.pointer (some ⟨g,0,none⟩))->(b1=true->x17=.pointer (some ⟨g,0,none⟩))->(b2=true->x18=.pointer (some ⟨g,0,none⟩))->(b3=true->x19=.slice a_ m.length c_)->(b4=true->x20=.int .i64 (m.length:Int))->(b5=true->x21=.agg #[.int .i64 0,.int .i64 (m.length:Int)])->(b6=true->x22=.agg #[.int .i64 x.kind,.slice ad1 x.name.length cp1,.slice ad2 x.text.length cp2,.slice ad3 x.attrs.length cp3,.slice ad4 x.kids.length cp4])->(b7=true->∃p2 k2 p3 k3 p4 k4 Fa,x23=.agg #[.int .i64 0,.int .i64 (m.length:Int),.int .i64 0,.int .i64 0,.slice none 0 0,.int .i64 x.kind,.slice p2 x.name.length k2,.slice p3 x.text.length k3,.slice p4 x.attrs.length k4]∧Own w 0 (.slice p2 x.name.length k2) x.name∧Own w 0 (.slice p3 x.text.length k3) x.text∧OwAttrs w (.slice p4 x.attrs.length k4) x.attrs Fa∧(FB (.slice p2 x.name.length k2)++FB (.slice p3 x.text.length k3)++Fa).Nodup∧(∀q∈FB (.slice p2 x.name.length k2)++FB (.slice p3 x.text.length k3)++Fa,w3.heap.size<=q))->(b8=true->∃pb,x8=.pointer (some ⟨pb,0,none⟩)∧w3.heap.size<=pb∧(b9=false->Loc w pb #[.int .i64 0,.int .i64 0,.int .i64 0,.int .i64 0,.slice none 0 0,.int .i64 0,.slice none 0 0,.slice none 0 0,.slice none 0 0] 146))->(b9=true->b8=true∧∃pb p2 k2 p3 k3 p4 k4 Fa,x8=.pointer (some ⟨pb,0,none⟩)∧Loc w pb #[.int .i64 0,.int .i64 (m.length:Int),.int .i64 0,.int .i64 0,.slice none 0 0,.int .i64 x.kind,.slice p2 x.name.length k2,.slice p3 x.text.length k3,.slice p4 x.attrs.length k4] 146∧Own w 0 (.slice p2 x.name.length k2) x.name∧Own w 0 (.slice p3 x.text.length k3) x.text∧OwAttrs w (.slice p4 x.attrs.length k4) x.attrs Fa∧(FB (.slice p2 x.name.length k2)++FB (.slice p3 x.text.length k3)++Fa).Nodup∧(∀q∈FB (.slice p2 x.name.length k2)++FB (.slice p3 x.text.length k3)++Fa,w3.heap.size<=q))->C)->C
theorem zwb {i:Nat} (h:i<10):i=0∨i=1∨i=2∨i=3∨i=4∨i=5∨i=6∨i=7∨i=8∨i=9:=by omega
set_option maxHeartbeats 25600000 in
theorem zpV (n:Nat) (hI:zjb n):zjb (n+1):=by
 intro w0 B w g mb a c l F iN iR ks a4 c4 xb fb h hK hi hS hN hZ
 refine zaF ?_
 intro Q HQ
 have HI:=hide hI
 have hA:Below w.heap.size w (w.alloc (.cells #[.int .i64 iN,.int .i64 iR] 50)):=(Below.refl _ _).alloc (Nat.le_refl _) _
 have l0:=Loc.made w #[.int .i64 iN,.int .i64 iR] 50
 have LL:=hide (And.intro hA (And.intro l0 (And.intro (h.keep hA) (show (w.alloc (.cells #[.int .i64 iN,.int .i64 iR] 50)).heap.size=w.heap.size+1 by simp))))
 obtain⟨R,hR⟩:∃R,R=zau (n+1) (iN,iR) ks l:=⟨_,rfl⟩
 rw [<-hR]at HQ
 have HR:=hide hR
 have ab:∀j,(zaq n (iN,iR) ks l j).length<=100000:=fun j=>Nat.le_trans (zwC n (iN,iR) ks l j) hN
 have ua:ks.length<=maxLen:=hK.1
 unfold maxLen at ua
 have Ta:=hide (show g<w.heap.size∧mb<w.heap.size∧(∀q∈F,q<w.heap.size)∧(∀q∈g::mb::F,B<=q) from ⟨h.set.lt,h.map.lt,OwPlsM.lt h.row,fun q hq=>by rcases List.mem_cons.1 hq with rfl | hq;(exact h.geg);(rcases List.mem_cons.1 hq with rfl | hq;(exact h.gem);(exact h.ge q hq))⟩)
 have HK:=hide (And.intro hK (And.intro hi (And.intro hS (And.intro ab (And.intro hZ (And.intro xb fb))))))
 clear hA l0 hR hK hI ab hN h hi hS hZ xb fb
 go_enter Tryz.func115,Tryz.ntmps115
 go_wp2_with fail
 obtain⟨hA,l0,h1,Xc⟩:=zaa LL
 clear LL
 generalize (w.alloc (.cells #[.int .i64 iN,.int .i64 iR] 50))=w1 at *
 go_loopw [11] (fun xv wr=>∃(j:Nat) (a':Xi) (c':Nat) (F':Xh),j<=ks.length∧xv=.int .i64 (j:Int)∧FoS B wr g mb a' c' (zaq n (iN,iR) ks l j) F'∧Frm w wr (g::mb::F)∧(∀q∈F',q∈F∨w.heap.size+1<=q)∧Loc wr w.heap.size #[.int .i64 iN,.int .i64 iR] 50) (fun xv _=>((ks.length:Int)-intOf xv).toNat)
 case atStart=>exact⟨0,a,c,F,Nat.zero_le _,rfl,h1,Frm.ofBelow hA _,fun q hq=>.inl hq,l0⟩
 case round=>
  clear l0 h1 hA
  obtain⟨j,a',c',F',hj,rfl,hs,hf,ya,l0⟩:=hrel
  by_cases hlt:j<ks.length
  ·have Ub:(j:Int)<(ks.length:Int):=by omega
   have Fd:(0:Int)<=(j:Int):=by omega
   obtain⟨bk,Ia,rfl,Ba,_,_,C,hC,Aa,Nb⟩:=Elems.at (zaa HK).1 hlt
   obtain⟨x,hx⟩:∃x:Nd (Tr n),x=ks[j]:=⟨_,rfl⟩
   have Wa:zaq n (iN,iR) ks l (j+1)=zaV n (iN,iR) (zaq n (iN,iR) ks l j) (x,j):=by rw [hx];exact zfp n (iN,iR) ks l hlt
   have Cc:szT (n+1) x<=2097152:=(zaa HK).2.2.2.2.1 x (by rw [hx];exact List.getElem_mem hlt)
   replace Nb:RdNode (n+1) w0 C x:=by rw [hx];exact Nb
   have ia:=Nb
   obtain⟨_,_,_,_,eC,_,_,q1,q2,q3,q4⟩:=Nb
   obtain⟨da,fa,rfl,_⟩:=q1.shape
   obtain⟨ha,ca,rfl,_⟩:=q2.shape
   obtain⟨ea,ga,rfl,_⟩:=Elems.shape q3
   obtain⟨Xa,Ya,rfl,_⟩:=Elems.shape q4
   have Za:Below w0.heap.size w0 wr:=(zaa HK).2.2.2.2.2.2.trans (hf.below (zaa HK).2.2.2.2.2.2.size (fun q hq=>Nat.le_trans (zaa HK).2.2.2.2.2.1 ((zaa Ta).2.2.2 q hq)))
   have Tc:wr.cell? ⟨bk,Ia+j*5,none⟩=some (.int .i64 x.kind):=by have h7:=Aa 0 (by decide);rw [eC]at h7;simp only [List.getElem?_cons_zero,Nat.add_zero]at h7;exact (Za.cell (p:=⟨bk,Ia+j*5,none⟩) Ba).trans h7
   have dc:wr.cell? ⟨bk,Ia+j*5+1,none⟩=some (.slice da x.name.length fa):=by have h7:=Aa 1 (by decide);rw [eC]at h7;simp only [List.getElem?_cons_zero,List.getElem?_cons_succ]at h7;exact (Za.cell (p:=⟨bk,Ia+j*5+1,none⟩) Ba).trans h7
   have Mc:wr.cell? ⟨bk,Ia+j*5+2,none⟩=some (.slice ha x.text.length ca):=by have h7:=Aa 2 (by decide);rw [eC]at h7;simp only [List.getElem?_cons_zero,List.getElem?_cons_succ]at h7;exact (Za.cell (p:=⟨bk,Ia+j*5+2,none⟩) Ba).trans h7
   have Zc:wr.cell? ⟨bk,Ia+j*5+3,none⟩=some (.slice ea x.attrs.length ga):=by have h7:=Aa 3 (by decide);rw [eC]at h7;simp only [List.getElem?_cons_zero,List.getElem?_cons_succ]at h7;exact (Za.cell (p:=⟨bk,Ia+j*5+3,none⟩) Ba).trans h7
   have Wc:wr.cell? ⟨bk,Ia+j*5+4,none⟩=some (.slice Xa x.kids.length Ya):=by have h7:=Aa 4 (by decide);rw [eC]at h7;simp only [List.getElem?_cons_zero,List.getElem?_cons_succ]at h7;exact (Za.cell (p:=⟨bk,Ia+j*5+4,none⟩) Ba).trans h7
   have ma:Below wr.heap.size wr (wr.alloc (.cells #[.int .i64 x.kind,.slice da x.name.length fa,.slice ha x.text.length ca,.slice ea x.attrs.length ga,.slice Xa x.kids.length Ya] 29)):=(Below.refl _ _).alloc (Nat.le_refl _) _
   rw [eC]at ia
   have LL:=hide (And.intro (Loc.made wr #[.int .i64 x.kind,.slice da x.name.length fa,.slice ha x.text.length ca,.slice ea x.attrs.length ga,.slice Xa x.kids.length Ya] 29) (And.intro (hs.keep ma) (And.intro (hf.moreS (Frm.ofBelow ma []) (fun q hq=>by cases hq)) (And.intro (l0.all ma) (And.intro (ia.keep (zam Za ma)) (And.intro (zam Za ma) (show wr.heap.size<(wr.alloc (.cells #[.int .i64 x.kind,.slice da x.name.length fa,.slice ha x.text.length ca,.slice ea x.attrs.length ga,.slice Xa x.kids.length Ya] 29)).heap.size by simp)))))))
   have HN:=hide Wa
   have Nc:=hide q4
   have tb:=hide (show ∀q∈F',q<wr.heap.size from fun q hq=>OwPlsM.lt hs.row q hq)
   have LW:=hide (show w.heap.size+1<=wr.heap.size from l0.lt)
   have vb:=hide (SeedIds.J n (iN,iR) ks l j (zaa HK).2.2.1)
   have gb:=(zaa HK).2.2.2.1 j
   clear hs hf l0 ma Wa q1 q2 q3 q4 eC Aa hx Za ia
   generalize hml':zaq n (iN,iR) ks l j=m at *
   go_upto_region 4 with fail
   obtain⟨lk,hs,hf,l0,za,ka,lc⟩:=zaa LL
   clear LL Tc dc Mc Zc Wc
   have Pc:=zaa LW
   clear LW
   generalize wr.alloc (.cells #[.int .i64 x.kind,.slice da x.name.length fa,.slice ha x.text.length ca,.slice ea x.attrs.length ga,.slice Xa x.kids.length Ya] 29)=w3 at *
   generalize wr.heap.size=kb at *
   have Jb:∀q∈F',q<kb:=zaa tb
   clear tb
   obtain⟨tc,sb,ob,_⟩:=hs.set.loc
   have y0:w3.cell? ⟨g,0,none⟩=some (.slice a' m.length c'):=(sb.cell 0).trans ob
   have Gb:=lk.cell 0
   have pa:=lk.cell 1
   have Lb:=lk.cell 2
   have Ab:=lk.cell 3
   have wa:=lk.cell 4
   have Jc:=hs.set.lt
   have na:=lk.lt
   have HX:=hide (And.intro lk (And.intro hs (And.intro hf (And.intro l0 ka))))
   clear lk hs hf l0 sb ob ka
   refine zds (by kernel_rfl) (Aj4 w3 g kb a' c' m x da ha ea Xa fa ca ga Ya (.agg #[.int .i64 iN,.int .i64 iR]) (.slice (some ⟨bk,Ia,none⟩) ks.length c4) (undef) (.pointer (some ⟨w.heap.size,0,none⟩)) (undef) (.int .i64 (j:Int)) (.slice (some ⟨bk,Ia,none⟩) ks.length c4) (.int .i64 (ks.length:Int)) (.int .i64 (j:Int)) (.bool true) (.int .i64 (j:Int)) (.pointer (some ⟨bk,Ia+j*5,none⟩)) (.agg #[.int .i64 x.kind,.slice da x.name.length fa,.slice ha x.text.length ca,.slice ea x.attrs.length ga,.slice Xa x.kids.length Ya]) (u24) (u25) (u26) (u27) (u28) (u29) (u30) (u31) (u32) (u33) (u34) (u35) (u36) (u37) (u38) (u39)) ?sz ?h0 ?stp ?dn
   case sz=>
    intro L a w hI
    refine hI _ ?_
    intro b0 b1 b2 b3 b4 b5 b6 b7 b8 b9 x8 Na Ra Oa Pa Qa Ma Ka La eL eA h0 f0 f1 f2 f3 f4 f5 f6 f7 f8 f9
    subst eL
    rfl
   case h0=>
    exact fun _ k_=>k_ false false false false false false false false false false _ _ _ _ _ _ _ _ _ rfl rfl ((Below.refl _ _).drew) (fun h=>by cases h) (fun h=>by cases h) (fun h=>by cases h) (fun h=>by cases h) (fun h=>by cases h) (fun h=>by cases h) (fun h=>by cases h) (fun h=>by cases h) (fun h=>by cases h) (fun h=>by cases h)
   case stp=>
    intro L fc Va i_ o_ hI hi ho
    refine hI _ ?_
    clear hI
    intro b0 b1 b2 b3 b4 b5 b6 b7 b8 b9 x8 Na Ra Oa Pa Qa Ma Ka La eL eA h0 f0 f1 f2 f3 f4 f5 f6 f7 f8 f9
    subst eL eA
    rcases zwb (zfU hi)with rfl | rfl | rfl | rfl | rfl | rfl | rfl | rfl | rfl | rfl
    ·obtain rfl:=Option.some.inj ho
     go_simp
     exact fun _ k_=>k_ true b1 b2 b3 b4 b5 b6 b7 b8 b9 x8 _ Ra Oa Pa Qa Ma Ka La rfl rfl h0 (fun _=>rfl) f1 f2 f3 f4 f5 f6 f7 f8 f9
    ·have g0:=zai hi ho 0
     obtain rfl:=Option.some.inj ho
     have e0:=f0 (g0 (by kernel_rfl))
     subst e0
     go_simp
     exact fun _ k_=>k_ b0 true b2 b3 b4 b5 b6 b7 b8 b9 x8 _ _ Oa Pa Qa Ma Ka La rfl rfl h0 f0 (fun _=>rfl) f2 f3 f4 f5 f6 f7 f8 f9
    ·have g1:=zai hi ho 1
     obtain rfl:=Option.some.inj ho
     have e1:=f1 (g1 (by kernel_rfl))
     subst e1
     go_simp
     exact fun _ k_=>k_ b0 b1 true b3 b4 b5 b6 b7 b8 b9 x8 Na _ _ Pa Qa Ma Ka La rfl rfl h0 f0 f1 (fun _=>rfl) f3 f4 f5 f6 f7 f8 f9
    ·have g2:=zai hi ho 2
     obtain rfl:=Option.some.inj ho
     have e2:=f2 (g2 (by kernel_rfl))
     subst e2
     have rc:=(h0.cell (p:=⟨g,0,none⟩) Jc).trans y0
     go_simp
     exact fun _ k_=>k_ b0 b1 b2 true b4 b5 b6 b7 b8 b9 x8 Na Ra _ _ Qa Ma Ka La rfl rfl h0 f0 f1 f2 (fun _=>rfl) f4 f5 f6 f7 f8 f9
    ·have g3:=zai hi ho 3
     obtain rfl:=Option.some.inj ho
     have e3:=f3 (g3 (by kernel_rfl))
     subst e3
     go_simp
     exact fun _ k_=>k_ b0 b1 b2 b3 true b5 b6 b7 b8 b9 x8 Na Ra Oa _ _ Ma Ka La rfl rfl h0 f0 f1 f2 f3 (fun _=>rfl) f5 f6 f7 f8 f9
    ·have g4:=zai hi ho 4
     obtain rfl:=Option.some.inj ho
     have e4:=f4 (g4 (by kernel_rfl))
     subst e4
     go_simp
     exact fun _ k_=>k_ b0 b1 b2 b3 b4 true b6 b7 b8 b9 x8 Na Ra Oa Pa _ _ Ka La rfl rfl h0 f0 f1 f2 f3 f4 (fun _=>rfl) f6 f7 f8 f9
    ·obtain rfl:=Option.some.inj ho
     have oc:=(h0.cell (p:=⟨kb,0,none⟩) na).trans Gb
     have Dd:=(h0.cell (p:=⟨kb,1,none⟩) na).trans pa
     have ic:=(h0.cell (p:=⟨kb,2,none⟩) na).trans Lb
     have vc:=(h0.cell (p:=⟨kb,3,none⟩) na).trans Ab
     have mc:=(h0.cell (p:=⟨kb,4,none⟩) na).trans wa
     go_simp
     exact fun _ k_=>k_ b0 b1 b2 b3 b4 b5 true b7 b8 b9 x8 Na Ra Oa Pa Qa Ma _ La rfl rfl h0 f0 f1 f2 f3 f4 f5 (fun _=>rfl) f7 f8 f9
    ·have g5:=zai hi ho 5
     have g6:=zai hi ho 6
     obtain rfl:=Option.some.inj ho
     have e5:=f5 (g5 (by kernel_rfl))
     have e6:=f6 (g6 (by kernel_rfl))
     subst e5 e6
     have HC:=hide (zjX n Va (0,(m.length:Int)) x _ _ _ _ (RdNode.keep (n:=n+1) za h0) Cc)
     unfold zbg at HC
     have Pb:=h0.size
     go_simp
     refine (zaa HC).mono ?_
     rintro e w8 ⟨p2,k2,p3,k3,p4,k4,Fa,rfl,o1,o2,o3,o4,o5,Ba⟩
     exact fun _ k_=>k_ b0 b1 b2 b3 b4 b5 b6 true b8 b9 x8 Na Ra Oa Pa Qa _ _ _ rfl rfl (zam h0 Ba) f0 f1 f2 f3 f4 (fun _=>rfl) (fun _=>rfl) (fun _=>⟨p2,k2,p3,k3,p4,k4,Fa,rfl,o1,o2,o3,o4,fun q hq=>Nat.le_trans Pb (o5 q hq)⟩) (fun h=>by obtain⟨pb,e,hz,t⟩:=f8 h;exact⟨pb,e,hz,fun h=>(t h).all Ba⟩) (fun h=>by obtain⟨z,pb,p2,k2,p3,k3,p4,k4,Fa,e,l9,o1,o2,o3,o4,o5⟩:=f9 h;exact⟨z,pb,p2,k2,p3,k3,p4,k4,Fa,e,l9.all Ba,o1.keep Ba,o2.keep Ba,OwAttrs.frm o3 (Frm.ofBelow Ba []) (fun _ _=>by simp),o4,o5⟩)
    ·have xa:b8=false:=by simpa using zas rfl hi
     obtain rfl:=Option.some.inj ho
     have Ba:Below Va.heap.size Va (Va.alloc (.cells #[.int .i64 0,.int .i64 0,.int .i64 0,.int .i64 0,.slice none 0 0,.int .i64 0,.slice none 0 0,.slice none 0 0,.slice none 0 0] 146)):=(Below.refl _ _).alloc (Nat.le_refl _) _
     have cc:=Loc.made Va #[.int .i64 0,.int .i64 0,.int .i64 0,.int .i64 0,.slice none 0 0,.int .i64 0,.slice none 0 0,.slice none 0 0,.slice none 0 0] 146
     have Yc:=h0.size
     have bc:=hide xa
     clear xa
     go_simp
     exact fun _ k_=>k_ b0 b1 b2 b3 b4 b5 b6 b7 true b9 _ Na Ra Oa Pa Qa Ma Ka La rfl rfl (zam h0 Ba) f0 f1 f2 f3 f4 f5 f6 (fun h=>by obtain⟨p2,k2,p3,k3,p4,k4,Fa,e,o1,o2,o3,o4,o5⟩:=f7 h;exact⟨p2,k2,p3,k3,p4,k4,Fa,e,o1.keep Ba,o2.keep Ba,OwAttrs.frm o3 (Frm.ofBelow Ba []) (fun _ _=>by simp),o4,o5⟩) (fun _=>⟨Va.heap.size,rfl,Yc,fun _=>cc⟩) (fun h=>by have:=(f9 h).1;rw [zaa bc]at this;cases this)
    ·have g7:=zai hi ho 7
     have g8:=zai hi ho 8
     have xa:b9=false:=by simpa using zas rfl hi
     obtain rfl:=Option.some.inj ho
     have t8:b8=true:=g8 (by kernel_rfl)
     obtain⟨p2,k2,p3,k3,p4,k4,Fa,en,o1,o2,o3,o4,o5⟩:=f7 (g7 (by kernel_rfl))
     obtain⟨pb,ep,hp,cb⟩:=f8 t8
     have lp:=cb xa
     obtain⟨zb,qa⟩:=zuo lp (.int .i64 0) (.int .i64 (m.length:Int)) (.int .i64 0) (.int .i64 0) (.slice none 0 0) (.int .i64 x.kind) (.slice p2 x.name.length k2) (.slice p3 x.text.length k3) (.slice p4 x.attrs.length k4)
     have Gc:=h0.trans (qa.below h0.size (fun q hq=>by simp at hq;omega))
     have q1:=o1.frm qa (fun q hq Sa=>zet o1.2 lp (by decide) (by have e9:q=pb:=(by simpa using Sa);rw [<-e9];exact hq))
     have q2:=o2.frm qa (fun q hq Sa=>zet o2.2 lp (by decide) (by have e9:q=pb:=(by simpa using Sa);rw [<-e9];exact hq))
     have q3:=OwAttrs.frm o3 qa (fun q hq Sa=>zkQ o3 lp (by have e9:q=pb:=(by simpa using Sa);rw [<-e9];exact hq))
     have nc:=lp.frozen 0
     have pc:=lp.frozen 1
     have Bd:=lp.frozen 2
     have Pd:=lp.frozen 3
     have hc:=lp.frozen 4
     have yc:=lp.frozen 5
     have Od:=lp.frozen 6
     have sc:=lp.frozen 7
     have Qd:=lp.frozen 8
     have jc:=lp.cell 0
     have Ed:=lp.cell 1
     have Md:=lp.cell 2
     have wc:=lp.cell 3
     have Kd:=lp.cell 4
     have Ad:=lp.cell 5
     have Jd:=lp.cell 6
     have Hd:=lp.cell 7
     have xc:=lp.cell 8
     have HW:=hide (And.intro t8 (And.intro zb (And.intro Gc (And.intro q1 (And.intro q2 q3)))))
     clear t8 zb qa Gc xa lp cb q1 q2 q3 o1 o2 o3
     subst ep en
     go_simp
     exact fun _ k_=>k_ b0 b1 b2 b3 b4 b5 b6 b7 b8 true _ Na Ra Oa Pa Qa Ma Ka _ rfl rfl ((zaa HW).2.2.1) f0 f1 f2 f3 f4 f5 f6 (fun _=>⟨p2,k2,p3,k3,p4,k4,Fa,rfl,(zaa HW).2.2.2.1,(zaa HW).2.2.2.2.1,(zaa HW).2.2.2.2.2,o4,o5⟩) (fun _=>⟨pb,rfl,hp,fun h=>by cases h⟩) (fun _=>⟨(zaa HW).1,pb,p2,k2,p3,k3,p4,k4,Fa,rfl,(zaa HW).2.1,(zaa HW).2.2.2.1,(zaa HW).2.2.2.2.1,(zaa HW).2.2.2.2.2,o4,o5⟩)
   case dn=>
    intro L fc Va hI ub
    have va:=zcp (L:=L) (by refine hI _ ?_;intro b0 b1 b2 b3 b4 b5 b6 b7 b8 b9 x8 Na Ra Oa Pa Qa Ma Ka La eL eA h0 f0 f1 f2 f3 f4 f5 f6 f7 f8 f9;subst eL;rfl) (by kernel_rfl) ub 10
    refine hI _ ?_
    clear hI
    intro b0 b1 b2 b3 b4 b5 b6 b7 b8 b9 x8 Na Ra Oa Pa Qa Ma Ka La eL eA h0 f0 f1 f2 f3 f4 f5 f6 f7 f8 f9
    subst eL eA
    have t9:b9=true:=va 9 (by omega) (by decide)
    obtain⟨t8,uc,p2,k2,p3,k3,p4,k4,Fa,ep,Ja,o1,o2,o3,o4,o5⟩:=f9 t9
    obtain⟨Vc,jb,Qc,_⟩:=f8 t8
    have EP:=jb.symm.trans ep
    injection EP with y1
    injection y1 with y1
    injection y1 with y1 _ _
    subst y1
    clear jb
    subst ep
    obtain⟨lk,hs,hf,l0,ka⟩:=zaa HX
    clear HX va ub t9 t8 f0 f1 f2 f3 f4 f5 f6 f7 f8 f9 y0 Gb pa Lb Ab wa za
    replace lk:=lk.all h0
    replace l0:=l0.all h0
    have Kc:=hs.set.lt
    have Ld:=hs.map.lt
    replace hs:=hs.keep h0
    replace hf:=hf.moreS (Frm.ofBelow h0 []) (fun q hq=>by cases hq)
    replace ka:=ka.trans (h0.mono ka.size)
    have Qb:=h0.size
    clear h0
    obtain⟨w5,Bc⟩:∃w5,w5=Va:=⟨_,rfl⟩
    rw [<-Bc]at Ja lk l0 hs hf o1 o2 o3 Qb ka ⊢
    clear Bc
    obtain⟨pb,db⟩:∃pb,pb=Vc:=⟨_,rfl⟩
    rw [<-db]at Ja Qc ⊢
    clear db
    have qc:IntKind.i64.wrap ((j:Int)+1)=(j:Int)+1:=by rw [IntKind.wrap_i64];have:=ua;omega
    have i0:=l0.cell 0
    have i1:=l0.cell 1
    have Da:Below w5.heap.size w5 (w5.alloc (.cells #[.int .i64 ((j:Int)+1)] 3)):=(Below.refl _ _).alloc (Nat.le_refl _) _
    have lz:=Loc.made w5 #[.int .i64 ((j:Int)+1)] 3
    have Ua:=Ja.all Da
    have z0:(w5.alloc (.cells #[.int .i64 ((j:Int)+1)] 3)).cell? ⟨pb,2,none⟩=_:=Ua.cell 2
    have z1:(w5.alloc (.cells #[.int .i64 ((j:Int)+1)] 3)).cell? ⟨pb,3,none⟩=_:=Ua.cell 3
    have z2:(w5.alloc (.cells #[.int .i64 ((j:Int)+1)] 3)).cell? ⟨pb,4,none⟩=_:=Ua.cell 4
    have Hc:(w5.alloc (.cells #[.int .i64 ((j:Int)+1)] 3)).cell? ⟨w.heap.size,0,none⟩=_:=(l0.all Da).cell 0
    have ac:(w5.alloc (.cells #[.int .i64 ((j:Int)+1)] 3)).cell? ⟨w.heap.size,1,none⟩=_:=(l0.all Da).cell 1
    have Rc:=Ua.frozen 2
    have Sc:=Ua.frozen 3
    have Lc:=Ua.frozen 4
    have Ca:=((Ua.set 2 (.int .i64 iN)).set 3 (.int .i64 iR)).set 4 (.slice (some ⟨w5.heap.size,0,none⟩) 1 1)
    have f7:Frm (w5.alloc (.cells #[.int .i64 ((j:Int)+1)] 3)) ((((w5.alloc (.cells #[.int .i64 ((j:Int)+1)] 3)).setCell ⟨pb,2,none⟩ (.int .i64 iN)).setCell ⟨pb,3,none⟩ (.int .i64 iR)).setCell ⟨pb,4,none⟩ (.slice (some ⟨w5.heap.size,0,none⟩) 1 1)) [pb]:=((zal _ pb 2 _).trans (zal _ pb 3 _)).trans (zal _ pb 4 _)
    have HS:=hide (And.intro Ca (And.intro f7 (And.intro Da (And.intro lz (And.intro Ja (And.intro lk (And.intro l0 (And.intro hs (And.intro hf (And.intro o1 (And.intro o2 o3)))))))))))
    clear Ca f7 Da lz Ja Ua lk l0 hs hf o1 o2 o3
    go_upto_region 6 with fail
    obtain⟨Ca,f7,Da,lz,Ja,lk,l0,hs,hf,o1,o2,o3⟩:=zaa HS
    have zc:(w5.alloc (.cells #[.int .i64 ((j:Int)+1)] 3)).heap.size=w5.heap.size+1:=by simp
    have Rd:=Ja.lt
    have gc:(((((w5.alloc (.cells #[.int .i64 ((j:Int)+1)] 3)).setCell ⟨pb,2,none⟩ (.int .i64 iN)).setCell ⟨pb,3,none⟩ (.int .i64 iR)).setCell ⟨pb,4,none⟩ (.slice (some ⟨w5.heap.size,0,none⟩) 1 1))).heap.size=w5.heap.size+1:=by simp
    clear HS z0 z1 z2 Rc Sc Lc i0 i1 Hc ac
    generalize hWW:(((((w5.alloc (.cells #[.int .i64 ((j:Int)+1)] 3)).setCell ⟨pb,2,none⟩ (.int .i64 iN)).setCell ⟨pb,3,none⟩ (.int .i64 iR)).setCell ⟨pb,4,none⟩ (.slice (some ⟨w5.heap.size,0,none⟩) 1 1)))=w7 at *
    have ja:∀q,q<kb->q∉[pb]:=fun q hq e=>by have e9:q=pb:=(by simpa using e);omega
    have Yb:=(hs.keep Da).frm f7 (ja g (by have:=Jb;have:=(zaa Ta).1;omega)) (ja mb (by have:=(zaa Ta).2.1;omega)) (fun q hq=>ja q (Jb q hq)) (fun q hq=>by have e9:q=pb:=(by simpa using hq);rw [e9];exact Cells.ofL (Ja.all Da))
    have Ib:=(lk.all Da).frm f7 (by simp;omega)
    have Fb:=(l0.all Da).frm f7 (by simp;omega)
    have hb:=lz.frm f7 (by simp;omega)
    have Wb:=(o1.keep Da).frm f7 (fun q hq e=>by have e9:q=pb:=(by simpa using e);exact zet o1.2 Ja (by decide) (by rw [<-e9];exact hq))
    have ib:=(o2.keep Da).frm f7 (fun q hq e=>by have e9:q=pb:=(by simpa using e);exact zet o2.2 Ja (by decide) (by rw [<-e9];exact hq))
    have yb:=OwAttrs.frm (OwAttrs.frm o3 (Frm.ofBelow Da []) (fun _ _=>by simp)) f7 (fun q hq e=>by have e9:q=pb:=(by simpa using e);exact zkQ o3 Ja (by rw [<-e9];exact hq))
    have qb:OwnZ w7 0 (.slice (some ⟨w5.heap.size,0,none⟩) 1 1) [(j:Int)+1]:=⟨fun q hq=>by simp at hq;omega,⟨rfl,.inr ⟨w5.heap.size,1,_,rfl,Nat.zero_le _,hb,Nat.le_refl _,by decide,rfl,rfl⟩⟩⟩
    obtain⟨y,hy⟩:∃y,y=zaB m.length (iN,iR) x j:=⟨_,rfl⟩
    have ba:∀q∈FB (.slice p2 x.name.length k2)++FB (.slice p3 x.text.length k3)++Fa,q<w5.heap.size:=fun q hq=>by
     rcases List.mem_append.1 hq with hq | hq
     ·rcases List.mem_append.1 hq with hq | hq
      ·exact (o1.lt q (by simpa [FB]using hq)).2
      ·exact (o2.lt q (by simpa [FB]using hq)).2
     ·exact OwAttrs.lt o3 q hq
    have rb:OwPlM w7 [.int .i64 0,.int .i64 (m.length:Int),.int .i64 iN,.int .i64 iR,.slice (some ⟨w5.heap.size,0,none⟩) 1 1,.int .i64 x.kind,.slice p2 x.name.length k2,.slice p3 x.text.length k3,.slice p4 x.attrs.length k4] y (FB (.slice (some ⟨w5.heap.size,0,none⟩) 1 1)++FB (.slice p2 x.name.length k2)++FB (.slice p3 x.text.length k3)++Fa):=by
     rw [hy]
     exact⟨_,_,_,_,Fa,rfl,qb,Wb.rowm,ib,yb,rfl⟩
    have lb:FB (.slice (some ⟨w5.heap.size,0,none⟩) 1 1)=[w5.heap.size]:=rfl
    have Vb:∀q,q∈FB (.slice (some ⟨w5.heap.size,0,none⟩) 1 1)++FB (.slice p2 x.name.length k2)++FB (.slice p3 x.text.length k3)++Fa->q=w5.heap.size∨q∈FB (.slice p2 x.name.length k2)++FB (.slice p3 x.text.length k3)++Fa:=fun q hq=>by
     rw [lb,List.append_assoc,List.append_assoc]at hq
     rcases List.mem_append.1 hq with hq | hq
     ·exact .inl (by simpa using hq)
     ·exact .inr (by rw [List.append_assoc];exact hq)
    have bb:(FB (.slice (some ⟨w5.heap.size,0,none⟩) 1 1)++FB (.slice p2 x.name.length k2)++FB (.slice p3 x.text.length k3)++Fa).Nodup:=by
     rw [lb,List.append_assoc,List.append_assoc]
     rw [List.append_assoc]at o4 ba
     exact List.nodup_append.2 ⟨by simp,o4,fun q hq q' Sa e=>by
      have e9:q=w5.heap.size:=by simpa using hq
      have:=ba q' Sa
      omega⟩
    have oa:∀q∈FB (.slice (some ⟨w5.heap.size,0,none⟩) 1 1)++FB (.slice p2 x.name.length k2)++FB (.slice p3 x.text.length k3)++Fa,w3.heap.size<=q:=fun q hq=>by
     rcases Vb q hq with e | e
     ·omega
     ·exact o5 q e
    have Oc:=hs.geg
    have Ob:okI y.id:=by rw [hy];exact zew gb
    have sa:okI y.par:=by rw [hy];exact (zaa HK).2.1
    have Tb:=zaa HN
    have Uc:m.length+1<=100000:=by
     have h7:=(zaa HK).2.2.2.1 (j+1)
     rw [Tb]at h7
     exact Nat.le_trans (zhl n (iN,iR) m (x,j)) h7
    have eb:=hide (show zaq n (iN,iR) ks l (j+1)=zau n (0,(m.length:Int)) x.kids (m++[y]) from Tb.trans (by rw [hy];rfl))
    have Eb:y.key.length=1:=by rw [hy];rfl
    have ra:y.name=x.name∧y.text=x.text∧y.attrs=x.attrs∧y.kind=x.kind∧y.idN=0∧y.idR=(m.length:Int)∧y.parN=iN∧y.parR=iR:=by rw [hy];exact⟨rfl,rfl,rfl,rfl,rfl,rfl,rfl,rfl⟩
    obtain⟨e1,e2,e3,e4,e5,e6,e7,e8⟩:=ra
    have HC:=zmv Yb y (some ⟨w5.heap.size,0,none⟩) p2 p3 p4 1 k2 k3 k4 _ (by rw [e1,e2,e3,e4,e5,e6,e7,e8,Eb];exact rb) bb (fun q hq=>Nat.le_trans (Nat.le_trans Oc (Nat.le_of_lt Kc)) (oa q hq)) (fun q hq Sa=>by have:=oa q Sa;have:=Jb q hq;omega) Ob sa (by show posP m (y.idN,y.idR)=none;rw [e5,e6];exact (zaa vb).new) Uc
    rw [e1,e2,e3,e4,e5,e6,e7,e8,Eb]at HC
    have HC:=hide HC
    have c0:=Ca.cell 0
    have c1:=Ca.cell 1
    have c2:=Ca.cell 2
    have c3:=Ca.cell 3
    have c4:=Ca.cell 4
    have c5:=Ca.cell 5
    have c6:=Ca.cell 6
    have c7:=Ca.cell 7
    have c8:=Ca.cell 8
    have HZ:=hide (And.intro Ca (And.intro Ib (And.intro Fb (And.intro (hf.moreS (Frm.ofBelow Da []) (fun q hq=>by cases hq)) (And.intro f7 oa)))))
    clear hy Tb rb qb bb Vb ba o1 o2 o3 Wb ib yb lz hb hs Yb Ca Ib Fb Ja lk l0 hf f7 Da
    go_upto_region 7 with (go_at_call 87;refine (zaa HC).mono ?_;rintro e w8 ⟨rfl,a8,Ic,F8,Fc,Db,Ec⟩)
    obtain⟨Ca,Ib,Fb,hf,f7,oa⟩:=zaa HZ
    have Mb:∀q,q<kb∨(kb<=q∧q<w3.heap.size)∨q=pb->q∉F'->q≠g->q≠mb->q∉g::mb::F':=fun q _ h1 h2 h3 e=>by
     rcases List.mem_cons.1 e with e | e
     ·exact h2 e
     ·rcases List.mem_cons.1 e with e | e
      ·exact h3 e
      ·exact h1 e
    have Id:=(zaa Ta).1
    have Cd:=(zaa Ta).2.1
    have Xb:=Ib.frm Db (Mb kb (.inr (.inl ⟨Nat.le_refl _,na⟩)) (fun e=>by have:=Jb kb e;omega) (by omega) (by omega))
    have Sb:=Ca.frm Db (Mb pb (.inr (.inr rfl)) (fun e=>by have:=Jb pb e;omega) (by omega) (by omega))
    have la:=Fb.frm Db (Mb w.heap.size (.inl (by omega)) (fun e=>by rcases ya _ e with e | e;(have:=(zaa Ta).2.2.1 _ e;omega);omega) (by omega) (by omega))
    have aa:∀q∈g::mb::F',q∈g::mb::F∨w.heap.size<=q:=fun q hq=>by
     rcases List.mem_cons.1 hq with rfl | hq
     ·exact .inl (List.mem_cons_self ..)
     ·rcases List.mem_cons.1 hq with rfl | hq
      ·exact .inl (List.mem_cons_of_mem _ (List.mem_cons_self ..))
      ·rcases ya q hq with e | e
       ·exact .inl (List.mem_cons_of_mem _ (List.mem_cons_of_mem _ e))
       ·right;omega
    have Ga:=(hf.moreS f7 (fun q hq=>by have e9:q=pb:=(by simpa using hq);right;omega)).moreS Db aa
    have Ha:∀q∈F8,q∈F∨w.heap.size+1<=q:=fun q hq=>by
     rcases Ec q hq with e | e | e
     ·exact ya q e
     ·have:=oa q e;right;omega
     ·right;omega
    have Bb:∀q∈g::mb::F,w0.heap.size<=q:=fun q hq=>Nat.le_trans (zaa HK).2.2.2.2.2.1 ((zaa Ta).2.2.2 q hq)
    have ta:Below w0.heap.size w0 w8:=(zaa HK).2.2.2.2.2.2.trans (Ga.below (zaa HK).2.2.2.2.2.2.size Bb)
    have Cb:(zau n (0,(m.length:Int)) x.kids (m++[y])).length<=100000:=by rw [<-zaa eb];exact (zaa HK).2.2.2.1 (j+1)
    have Zb:=hide (zaa HI w0 B w8 g mb a8 Ic (m++[y]) F8 0 (m.length:Int) x.kids Xa Ya (zaa HK).2.2.2.2.2.1 ta Fc (zaa Nc) (zew gb) ((zaa vb).snoc e5 e6) Cb (fun z hz=>Nat.le_trans (zsm hz) Cc))
    have k0:=Xb.cell 4
    have d0:=Sb.cell 0
    have d1:=Sb.cell 1
    have HY:=hide (And.intro la (And.intro Ga Ha))
    clear Xb Sb la Ga Ha Fc Db Ec hf f7 oa Ca Ib Fb HZ HC c0 c1 c2 c3 c4 c5 c6 c7 c8 ta Bb aa Mb
    go_wp2_with fail
    refine (zaa Zb).mono ?_
    rintro e w9 ⟨rfl,a9,c9,F9,nb,Rb,wb⟩
    obtain⟨la,Ga,Ha⟩:=zaa HY
    have ec:=Ga.size
    have kc:=la.lt
    have Dc:=la.frm Rb (fun e=>by
     rcases List.mem_cons.1 e with e | e
     ·omega
     ·rcases List.mem_cons.1 e with e | e
      ·omega
      ·rcases Ha _ e with e | e
       ·have:=(zaa Ta).2.2.1 _ e;omega
       ·omega)
    have Kb:=Ga.moreS Rb (fun q hq=>by
     rcases List.mem_cons.1 hq with rfl | hq
     ·exact .inl (List.mem_cons_self ..)
     ·rcases List.mem_cons.1 hq with rfl | hq
      ·exact .inl (List.mem_cons_of_mem _ (List.mem_cons_self ..))
      ·rcases Ha q hq with e | e
       ·exact .inl (List.mem_cons_of_mem _ (List.mem_cons_of_mem _ e))
       ·right;omega)
    have Hb:∀q∈F9,q∈F∨w.heap.size+1<=q:=fun q hq=>by
     rcases wb q hq with e | e
     ·exact Ha q e
     ·right;omega
    have HE:=hide (And.intro (show FoS B w9 g mb a9 c9 (zaq n (iN,iR) ks l (j+1)) F9 by rw [zaa eb];exact nb) (And.intro Kb (And.intro Hb Dc)))
    clear nb Rb wb Kb Hb Dc la Ga Ha HY Zb k0 d0 d1
    go_wp2_with fail
    go_roundw
    case rel=>exact⟨j+1,a9,c9,F9,by omega,by go_num,(zaa HE).1,(zaa HE).2.1,(zaa HE).2.2.1,(zaa HE).2.2.2⟩
    case measure=>simp [intOf];omega
  ·have Ub:¬ (j:Int)<(ks.length:Int):=by omega
   have HE:=hide (zaa HQ (.returned (.tuple #[])) wr ⟨rfl,a',c',F',by rw [zaa HR,<-ziJ n (iN,iR) ks l (show ks.length<=j by omega)];exact hs,hf,fun q hq=>(ya q hq).imp id (fun h=>by omega)⟩)
   clear hs hf l0 ya HQ
   go_wp2_with fail
   go_end0
   exact zaa HE
theorem zqg:zjb 0:=by
 intro w0 B w g mb a c l F iN iR ks a4 c4 Aa Ba h hK hi hS hN hZ
 refine zaF ?_
 intro Q HQ
 obtain rfl:ks=[]:=by
  cases ks with
  | nil=>rfl
  | cons x r=>exact x.elim
 have hA:Below w.heap.size w (w.alloc (.cells #[.int .i64 iN,.int .i64 iR] 50)):=(Below.refl _ _).alloc (Nat.le_refl _) _
 have HE:=hide (zaa HQ (.returned (.tuple #[])) _ ⟨rfl,a,c,F,h.keep hA,Frm.ofBelow hA _,fun q hq=>.inl hq⟩)
 clear hA h hK hN HQ
 go_enter Tryz.func115,Tryz.ntmps115
 go_wp2_with fail
 go_loopw [11] (fun xv wr=>xv=.int .i64 0∧wr=(w.alloc (.cells #[.int .i64 iN,.int .i64 iR] 50))) (fun _ _=>0)
 case atStart=>exact⟨rfl,rfl⟩
 case round=>
  obtain⟨rfl,rfl⟩:=hrel
  go_wp2_with fail
  go_end0
  exact zaa HE
theorem zjP:∀n,zjb n
 | 0=>zqg
 | n+1=>zpV n (zjP n)
theorem zmy (n:Nat) (w:Xk) (nm:Xg) (ats:List AtV) (ks:List (Tr n)) (a1 a2 a3 a4:Xi) (c1 c2 c3 c4:Nat) (hrd:RdNode (n+1) w [.int .i64 0,.slice a1 nm.length c1,.slice a2 0 c2,.slice a3 ats.length c3,.slice a4 ks.length c4] (⟨0,nm,[],ats,ks⟩:Nd (Tr n))) (hsz:szT (n+1) (⟨0,nm,[],ats,ks⟩:Nd (Tr n))<=2097152) :
  Calls Tryz.prog 114 #[.agg #[.int .i64 0,.int .i64 0],.agg #[.int .i64 0,.slice a1 nm.length c1,.slice a2 0 c2,.slice a3 ats.length c3,.slice a4 ks.length c4]] w fun e w'=>∃p2 k2 p3 k3 p4 k4 Fa,e=.returned (.agg #[.int .i64 0,.int .i64 0,.int .i64 0,.int .i64 0,.slice none 0 0,.int .i64 0,.slice p2 nm.length k2,.slice p3 0 k3,.slice p4 ats.length k4])∧
   Own w' 0 (.slice p2 nm.length k2) nm∧Own w' 0 (.slice p3 0 k3) []∧OwAttrs w' (.slice p4 ats.length k4) ats Fa∧(FB (.slice p2 nm.length k2)++FB (.slice p3 0 k3)++Fa).Nodup∧(∀q∈FB (.slice p2 nm.length k2)++FB (.slice p3 0 k3)++Fa,w.heap.size<=q)∧Below w.heap.size w w':=
 zjX n w (0,0) (⟨0,nm,[],ats,ks⟩:Nd (Tr n)) _ _ _ _ hrd hsz
set_option maxHeartbeats 12800000 in
theorem zoa (n:Nat) (w:Xk) (nm:Xg) (ats:List AtV) (ks:List (Tr n)) (a1 a2 a3 a4 a5:Xi) (c1 c2 c3 c4 c5:Nat) (ops:List OpV) (hrd:RdNode (n+1) w [.int .i64 0,.slice a1 nm.length c1,.slice a2 0 c2,.slice a3 ats.length c3,.slice a4 ks.length c4] (⟨0,nm,[],ats,ks⟩:Nd (Tr n))) (h5:RdOps w (.slice a5 ops.length c5) ops)
  (hN:okN n (⟨0,nm,[],ats,ks⟩:Nd (Tr n))=true) (hO:opsB ops=true) (hsz:szT (n+1) (⟨0,nm,[],ats,ks⟩:Nd (Tr n))<=2097152) (hG:Glo w) (hz:ops=[]) :
  Calls Tryz.prog 81 #[.agg #[.int .i64 0,.slice a1 nm.length c1,.slice a2 0 c2,.slice a3 ats.length c3,.slice a4 ks.length c4],.slice a5 ops.length c5] w fun e w'=>∃g mb a c F B,e=.returned (.pointer (some ⟨g,0,none⟩))∧w.heap.size<=B∧FoS B w' g mb a c (zbG (⟨0,nm,[],ats,ks⟩:Nd (Tr n)) ops) F∧Below w.heap.size w w':=by
 refine zaF ?_
 intro Q HQ
 have Kb:2<=w.heap.size:=by have h9:=zbs hG.2.2.1;exact h9
 have hA:Below w.heap.size w (w.alloc (.cells #[.int .i64 0,.slice a1 nm.length c1,.slice a2 0 c2,.slice a3 ats.length c3,.slice a4 ks.length c4] 29)):=(Below.refl _ _).alloc (Nat.le_refl _) _
 have lb:=Loc.made w #[.int .i64 0,.slice a1 nm.length c1,.slice a2 0 c2,.slice a3 ats.length c3,.slice a4 ks.length c4] 29
 have aa:(w.alloc (.cells #[.int .i64 0,.slice a1 nm.length c1,.slice a2 0 c2,.slice a3 ats.length c3,.slice a4 ks.length c4] 29)).heap.size=w.heap.size+1:=by simp
 have HF:=hide (zhS (w.alloc (.cells #[.int .i64 0,.slice a1 nm.length c1,.slice a2 0 c2,.slice a3 ats.length c3,.slice a4 ks.length c4] 29)))
 rw [aa]at HF
 have h4:RdKids n w (.slice a4 ks.length c4) ks:=by obtain⟨_,_,_,_,e,_,_,_,_,_,hk⟩:=hrd;cases e;exact hk
 have Sa:∀x∈ks,szT n x<=2097152:=fun x hx=>Nat.le_trans (zsm (t:=(⟨0,nm,[],ats,ks⟩:Nd (Tr n))) hx) hsz
 have Nb:=(ztK hO).1
 have HX:=hide (And.intro hA (And.intro lb (And.intro hrd (And.intro h4 (And.intro h5 (And.intro hG (And.intro hN (And.intro hO (And.intro hsz Sa)))))))))
 clear hA lb hrd h4 h5 hG hN hO hsz Sa
 go_enter Tryz.func81,Tryz.ntmps81
 go_wp2_with fail
 refine (zaa HF).mono ?_
 rintro e w2 ⟨rfl,hs,ta⟩
 obtain⟨hA,lb,hrd,h4,h5,hG,hN,hO,hsz,Sa⟩:=zaa HX
 generalize (w.alloc (.cells #[.int .i64 0,.slice a1 nm.length c1,.slice a2 0 c2,.slice a3 ats.length c3,.slice a4 ks.length c4] 29))=w1 at *
 generalize hB:w.heap.size+1=B at *
 have Ka:Below w1.heap.size w1 w2:=by rw [aa];exact ta
 have Ba:=lb.all Ka
 have Ha:=zam hA Ka
 have oa:=hG.keep Ha
 obtain⟨y0,y1,y2,y3⟩:=id oa
 have x0:=Ba.cell 0
 have x1:=Ba.cell 1
 have x2:=Ba.cell 2
 have x3:=Ba.cell 3
 have x4:=Ba.cell 4
 have HP:=hide (zmy n w2 nm ats ks a1 a2 a3 a4 c1 c2 c3 c4 (hrd.keep Ha) hsz)
 have za:B+2<=w2.heap.size:=by have:=hs.set.lt;omega
 have HB:=hide hB
 have HY:=hide (And.intro hs (And.intro Ba Ha))
 clear hs Ba Ha oa ta Ka HF hA lb hB aa
 go_wp2_with (go_at_call 114;refine (zaa HP).mono ?_;rintro e w3 ⟨p2,k2,p3,k3,p4,k4,Fa,rfl,o2,o3,o4,ja,ma,Na⟩)
 obtain⟨hs,Ba,Ha⟩:=zaa HY
 have va:=hs.keep Na
 have Pa:∀q∈FB (.slice none 0 0)++FB (.slice p2 nm.length k2)++FB (.slice p3 0 k3)++Fa,B<=q:=fun q hq=>by have:=ma q (by simpa [FB,Value.ownBlock]using hq);omega
 have ea:=hide (zmv va (zgu (⟨0,nm,[],ats,ks⟩:Nd (Tr n))) none p2 p3 p4 0 k2 k3 k4 (FB (.slice none 0 0)++FB (.slice p2 nm.length k2)++FB (.slice p3 0 k3)++Fa) ⟨_,_,_,_,Fa,rfl,zqC _ _,o2.rowm,o3,o4,rfl⟩ (by simpa [FB,Value.ownBlock]using ja) Pa (fun q hq=>by cases hq) (zew (m:=0) (by omega)) (zew (m:=0) (by omega)) rfl (by simp))
 have fa:=hide (And.intro (Ba.all Na) (And.intro (zam Ha Na) (show w2.heap.size<=w3.heap.size from Na.size)))
 clear HY hs Ba Ha va o2 o3 o4 ja ma Pa Na HP x0 x1 x2 x3 x4 y0 y1 y2 y3
 refine (zaa ea).mono ?_
 rintro e w4 ⟨rfl,Mb,Lb,F4,Da,Xa,Ua⟩
 obtain⟨na,ba,Fb⟩:=zaa fa
 have Jb:=zaa HB
 have Ra:∀q∈(B+1)::B::([]:Xh),w.heap.size+1<=q:=fun q hq=>by simp at hq;omega
 have Ma:Below w.heap.size w w4:=ba.trans (Xa.below ba.size (fun q hq=>by have:=Ra q hq;omega))
 have Oa:=na.frm Xa (fun e=>by have:=Ra _ e;omega)
 have Ab:=Xa.size
 have pa:=hG.keep Ma
 obtain⟨y0,y1,y2,y3⟩:=id pa
 have Ca:Below w4.heap.size w4 (w4.alloc (.cells #[.int .u8 116,.int .u8 114,.int .u8 97,.int .u8 115,.int .u8 104] 5)):=(Below.refl _ _).alloc (Nat.le_refl _) _
 have Za:=Loc.made w4 #[.int .u8 116,.int .u8 114,.int .u8 97,.int .u8 115,.int .u8 104] 5
 have Aa:=OwPlsM.lt Da.row
 obtain⟨w5,Ib,da,Ta,ua⟩:=zxu (w4.alloc (.cells #[.int .u8 116,.int .u8 114,.int .u8 97,.int .u8 115,.int .u8 104] 5)) w4.heap.size Za
 have Gb:=Da.set.lt
 have Eb:=Da.map.lt
 have ka:w5.heap.size=w4.heap.size+1:=by rw [Ta];simp
 have Va:∀q,q<w4.heap.size->q∉[w4.heap.size]:=fun q hq e=>by have e9:q=w4.heap.size:=(by simpa using e);omega
 have ia:=(Da.keep Ca).frm da (Va _ Gb) (Va _ Eb) (fun q hq=>Va q (Aa q hq)) (fun q hq=>by have e9:q=w4.heap.size:=(by simpa using hq);rw [e9];exact Cells.ofL Za)
 have ca:Below w4.heap.size w4 w5:=Ca.trans (da.below Ca.size (fun q hq=>by have e9:q=w4.heap.size:=(by simpa using hq);omega))
 have wa:=hide (zmv ia zde none (some ⟨w4.heap.size,0,none⟩) none none 0 5 0 0 (FB (.slice none 0 0)++FB (.slice (some ⟨w4.heap.size,0,none⟩) 5 5)++FB (.slice none 0 0)++[]) ⟨_,_,_,_,[],rfl,zqC _ _,ua,⟨zbm,World.ownsRow_nil _ _ _ _⟩,⟨[],[],rfl,rfl,fun i hi=>(by cases hi),World.ownsRow_nil _ _ _ _,rfl⟩,rfl⟩ (by simp [FB,Value.ownBlock]) (fun q hq=>by have e9:q=w4.heap.size:=(by simpa [FB,Value.ownBlock]using hq);omega) (fun q hq xa=>by have e9:q=w4.heap.size:=(by simpa [FB,Value.ownBlock]using xa);have:=Aa q hq;omega) (zew (m:=1) (by omega)) (zew (m:=0) (by omega)) rfl (by simp))
 replace Ca:=ca
 have ga:=hide (And.intro Oa (And.intro Ma (And.intro Ua (And.intro Aa (And.intro Ca Da)))))
 clear Oa Ma Ua Da Ca Za ia ua pa ea fa na ba Xa Aa da Va Ta
 go_wp2_with fail
 refine (zaa wa).mono ?_
 rintro e w6 ⟨rfl,a6,c6,F6,La,Ya,ya⟩
 obtain⟨Oa,Ma,Ua,Aa,Ca,Da⟩:=zaa ga
 have Ja:=zam Ma Ca
 have Ia:∀q∈(B+1)::B::F4,B<=q:=fun q hq=>by
  rcases List.mem_cons.1 hq with rfl | hq
  ·omega
  ·rcases List.mem_cons.1 hq with rfl | hq
   ·omega
   ·exact Da.ge q hq
 have Ga:Below w.heap.size w w6:=Ja.trans (Ya.below Ja.size (fun q hq=>by have:=Ia q hq;omega))
 have la:=(Oa.all Ca).frm Ya (fun e=>by have:=Ia _ e;omega)
 have ra:=hG.keep Ga
 obtain⟨y0,y1,y2,y3⟩:=id ra
 have x4:=la.cell 4
 have Db:(zau n (0,0) ks (zaL (⟨0,nm,[],ats,ks⟩:Nd (Tr n)))).length<=100000:=by
  have h9:=(zqy hN).len
  have h8:(zhB (⟨0,nm,[],ats,ks⟩:Nd (Tr n))).length<=121+([]:List OpV).length:=h9
  exact Nat.le_trans h8 (by simp)
 have Bb:w.heap.size<=B:=by omega
 have HK:=hide (zjP n w B w6 (B+1) B a6 c6 (zaL (⟨0,nm,[],ats,ks⟩:Nd (Tr n))) F6 0 0 ks a4 c4 Bb Ga La h4 (zew (m:=0) (by omega)) (zhE (⟨0,nm,[],ats,ks⟩:Nd (Tr n))) Db Sa)
 have qa:=hide (And.intro Ga La)
 clear ga Oa Ma Ua Aa Ca Da Ja La Ya ya wa Ia Ga la ra
 go_wp2_with fail
 refine (zaa HK).mono ?_
 rintro e w7 ⟨rfl,a7,c7,F7,Wa,sa,Hb⟩
 obtain⟨Ga,La⟩:=zaa qa
 have Qa:∀q∈(B+1)::B::F6,B<=q:=fun q hq=>by
  rcases List.mem_cons.1 hq with rfl | hq
  ·omega
  ·rcases List.mem_cons.1 hq with rfl | hq
   ·omega
   ·exact La.ge q hq
 have ha:Below w.heap.size w w7:=Ga.trans (sa.below Ga.size (fun q hq=>by have:=Qa q hq;omega))
 clear HK qa Ga La sa Hb Qa x4 y0 y1 y2 y3
 replace Wa:FoS B w7 (B+1) B a7 c7 (zos (⟨0,nm,[],ats,ks⟩:Nd (Tr n)) ops 0) F7:=Wa
 have HZ:=hide (And.intro h5 (And.intro hG (And.intro hN hO)))
 clear h5 hG hN hO hrd h4 hsz Sa HX
 go_wp2_with fail
 go_loopw [27] (fun x wr=>∃(j:Nat) (a':Xi) (c':Nat) (F':Xh),j<=ops.length∧x=.int .i64 (j:Int)∧FoS B wr (B+1) B a' c' (zos (⟨0,nm,[],ats,ks⟩:Nd (Tr n)) ops j) F'∧Below w.heap.size w wr) (fun x _=>((ops.length:Int)-intOf x).toNat)
 case atStart=>exact⟨0,a7,c7,F7,Nat.zero_le _,rfl,Wa,ha⟩
 case round=>
  clear Wa ha
  obtain⟨j,a',c',F',hj,rfl,hs,hA⟩:=hrel
  obtain⟨h5,hG,hN,hO⟩:=zaa HZ
  by_cases hlt:j<ops.length
  ·rw [hz]at hlt;cases hlt
  ·have Cb:¬ (j:Int)<(ops.length:Int):=by omega
   obtain rfl:j=ops.length:=by omega
   rw [ztQ]at hs
   have HE:=hide (zaa HQ (.returned (.pointer (some ⟨B+1,0,none⟩))) wr ⟨_,_,_,_,F',B,rfl,by omega,hs,hA⟩)
   clear hs hA HQ HZ h5 hG hN hO
   go_wp2_with fail
   exact zaa HE
end Go.Proofs.YtgjolijncmkkhaaGreatDoor
namespace Go.Proofs.YtgjolijncmkkhaaGreatDoor
open Go.RowKit
set_option linter.unusedVariables false
set_option maxRecDepth 100000
theorem zpz (w:Xk) (a:Xi) (c:Nat):Calls Tryz.prog 44 #[.slice a 0 c] w fun e w'=>e=.returned (.bool true)∧w'=w:=by
 go_enter Tryz.func44,Tryz.ntmps44
 go_wp2_with fail
 refine wp_loop_rounds 1 ?_
 rw [rounds_succ]
 go_wp2_with fail
 go_ret
 exact⟨rfl,rfl⟩
end Go.Proofs.YtgjolijncmkkhaaGreatDoor
