/- Own texts joined: FqA, PrI, ToT4, ToT5, CntT, MkupT, LMark, MarkI, FoY, PjO, IdsT, OwOs, RepT, DcM, DcZ, Same, LStarts. -/
import Derived.Test.YtgjolijncmkkhaaGreatDoorJa
import Derived.Test.YtgjolijncmkkhaaGreatDoorJb
import Derived.Test.YtgjolijncmkkhaaGreatDoorJc
import Derived.Test.YtgjolijncmkkhaaGreatDoorJe
import Derived.Test.YtgjolijncmkkhaaGreatDoorJf
import Derived.Test.YtgjolijncmkkhaaGreatDoorJn
import Derived.Test.YtgjolijncmkkhaaGreatDoorJo
import Derived.Test.YtgjolijncmkkhaaGreatDoorJq
import Derived.Test.YtgjolijncmkkhaaGreatDoorJr
import Derived.Test.YtgjolijncmkkhaaGreatDoorJs
import Derived.Test.YtgjolijncmkkhaaGreatDoorJu
import Derived.Test.YtgjolijncmkkhaaGreatDoorJv
import Derived.Test.YtgjolijncmkkhaaGreatDoorJw
import Derived.Test.YtgjolijncmkkhaaGreatDoorJx
import Derived.Deep.RegionLaw
namespace Go.Proofs.YtgjolijncmkkhaaGreatDoor
open Go.RowKit Go.Maps
set_option linter.unusedVariables false
set_option maxRecDepth 100000
set_option maxHeartbeats 6400000 in
theorem zwv {w0:Xk} {w:Xk} {g mb:Nat} {a:Xi} {c:Nat} {l:List PlV} {F:Xh} (h:FoQ w0 w g mb a c l F) (p:PlV) (k n t s:Xi) (ck cn ct cs:Nat) (G:Xh)
  (hp:PlQ w0 w [.int .i64 p.idN,.int .i64 p.idR,.int .i64 p.parN,.int .i64 p.parR,.slice k p.key.length ck,.int .i64 p.kind,.slice n p.name.length cn,.slice t p.text.length ct,.slice s p.attrs.length cs] p G) (hGn:G.Nodup) (hGB:∀q∈G,w0.heap.size<=q) (hFG:∀q∈F,q∉G) (hid:okI p.id) (hpar:okI p.par) (hnew:posP l p.id=none) (hlen:l.length+1<=100000) :
  Calls Tryz.prog 87 #[.pointer (some ⟨g,0,none⟩),.agg #[.int .i64 p.idN,.int .i64 p.idR,.int .i64 p.parN,.int .i64 p.parR,.slice k p.key.length ck,.int .i64 p.kind,.slice n p.name.length cn,.slice t p.text.length ct,.slice s p.attrs.length cs]] w fun e w'=>e=.returned (.tuple #[])∧∃a' c' F',FoQ w0 w' g mb a' c' (l++[p]) F'∧Frm w w' (g::mb::F)∧∀q∈F',q∈F∨q∈G∨w.heap.size<=q:=by
 refine zaF ?_
 intro Q HQ
 obtain⟨i0,ka,ma,na,la⟩:=info_parts zmG
 have hA:Below w.heap.size w (w.alloc (.cells #[.int .i64 p.idN,.int .i64 p.idR,.int .i64 p.parN,.int .i64 p.parR,.slice k p.key.length ck,.int .i64 p.kind,.slice n p.name.length cn,.slice t p.text.length ct,.slice s p.attrs.length cs] 146)):=(Below.refl _ _).alloc (Nat.le_refl _) _
 have Da:Below w.heap.size w (w.alloc (.cells #[.int .i64 p.idN,.int .i64 p.idR,.int .i64 p.parN,.int .i64 p.parR,.slice k p.key.length ck,.int .i64 p.kind,.slice n p.name.length cn,.slice t p.text.length ct,.slice s p.attrs.length cs] 146)).drew:=hA.drew
 have lb:=(Loc.made w #[.int .i64 p.idN,.int .i64 p.idR,.int .i64 p.parN,.int .i64 p.parR,.slice k p.key.length ck,.int .i64 p.kind,.slice n p.name.length cn,.slice t p.text.length ct,.slice s p.attrs.length cs] 146).all ((Below.refl _ _).drew)
 have h1:=h.keep Da
 obtain⟨w2,Ga,La,Xa⟩:=h1.map.put p hid hnew (by omega)
 obtain⟨ya,lg,ea,Za⟩:=h1.set.loc
 have g0:=(lg.cell 0).trans ea
 have g1:=(lg.cell 1).trans Za
 have b0:=lb.cell 0
 have b1:=lb.cell 1
 have f2:Frm (w.alloc (.cells #[.int .i64 p.idN,.int .i64 p.idR,.int .i64 p.parN,.int .i64 p.parR,.slice k p.key.length ck,.int .i64 p.kind,.slice n p.name.length cn,.slice t p.text.length ct,.slice s p.attrs.length cs] 146)).drew w2 [mb]:=Frm.ofGrown Xa
 have Ia:=h1.gm
 have Ka:=h1.mF
 have Oa:=h1.gF
 have s2:FSet (mb+1) (.slice a l.length c) (.map (some mb)) w2 g:=h1.set.frm f2 (by simpa using Ia) (fun q hq=>.inl (by have e:q=mb:=(by simpa using hq);omega))
 have r2:=h1.row.frm f2 (fun q hq e=>Ka (by have e9:q=mb:=(by simpa using e);rw [<-e9];exact hq))
 have qa:w.heap.size∉[mb]:=fun e=>by have e9:w.heap.size=mb:=(by simpa using e);have:=h.map.lt;omega
 have Ha:=lb.frm f2 qa
 have p2:PlQ w0 w2 [.int .i64 p.idN,.int .i64 p.idR,.int .i64 p.parN,.int .i64 p.parR,.slice k p.key.length ck,.int .i64 p.kind,.slice n p.name.length cn,.slice t p.text.length ct,.slice s p.attrs.length cs] p G:=(hp.frm (Frm.ofBelow Da []) (fun _ _=>by simp)).frm f2 (fun q hq e=>by
  have e9:q=mb:=by simpa using e
  subst e9
  obtain⟨es,k',e'⟩:=h.map.isMap
  exact (hp.typ q hq).notMap e')
 have oa:=h.len
 have HX:=hide (And.intro h (And.intro Da (And.intro f2 (And.intro s2 (And.intro r2 (And.intro Ha (And.intro p2 La)))))))
 have HG:=hide (And.intro hGn (And.intro hGB (And.intro hFG (And.intro hid hpar))))
 have HM:=hide (And.intro Ia (And.intro Ka Oa))
 unfold zbg at Ga
 have Ma:(Instr.mapUpdate 139 (.map (some mb)) (.agg #[.int .i64 p.idN,.int .i64 p.idR]) (.int .i64 (l.length:Int))).run Tryz.prog (w.alloc (.cells #[.int .i64 p.idN,.int .i64 p.idR,.int .i64 p.parN,.int .i64 p.parR,.slice k p.key.length ck,.int .i64 p.kind,.slice n p.name.length cn,.slice t p.text.length ct,.slice s p.attrs.length cs] 146)).drew=.ok () w2:=Ga
 clear h hp hGn hGB hFG hid hpar hnew hA Da h1 lg ea Za lb f2 Ia Ka Oa s2 r2 Ha p2 La Xa Ga
 go_enter Tryz.func87,Tryz.ntmps87
 go_wp2_with fail
 go_region
 clear g0 g1 b0 b1 Ma
 obtain⟨h,Da,f2,s2,r2,Ha,p2,La⟩:=zaa HX
 obtain⟨hGn,hGB,hFG,hid,hpar⟩:=zaa HG
 obtain⟨Ia,Ka,Oa⟩:=zaa HM
 have Sa:Below w2.heap.size w2 w2.drew:=(Below.refl _ _).drew
 have Aa:Below w2.heap.size w2 (w2.alloc (.cells #[.int .i64 p.idN,.int .i64 p.idR,.int .i64 p.parN,.int .i64 p.parR,.slice k p.key.length ck,.int .i64 p.kind,.slice n p.name.length cn,.slice t p.text.length ct,.slice s p.attrs.length cs] 146)).drew:=((Below.refl _ _).alloc (Nat.le_refl _) _).drew
 have Wa:=Aa
 have s3:=s2.frm (Frm.ofBelow Aa []) (by simp) (fun q hq=>by cases hq)
 have ba:=s2.frm (Frm.ofBelow Sa []) (by simp) (fun q hq=>by cases hq)
 obtain⟨Ab,Ya,ja,_⟩:=ba.loc
 obtain⟨ua,ha,ca,_⟩:=s3.loc
 have g0:w2.drew.cell? ⟨g,0,none⟩=some (.slice a l.length c):=(Ya.cell 0).trans ja
 have Bb:(w2.alloc (.cells #[.int .i64 p.idN,.int .i64 p.idR,.int .i64 p.parN,.int .i64 p.parR,.slice k p.key.length ck,.int .i64 p.kind,.slice n p.name.length cn,.slice t p.text.length ct,.slice s p.attrs.length cs] 146)).drew.cell? ⟨g,0,none⟩=some (.slice a l.length c):=(ha.cell 0).trans ca
 have Ba:=Ha.all Sa
 have p0:w2.drew.cell? ⟨w.heap.size,0,none⟩=_:=Ba.cell 0
 have p1:w2.drew.cell? ⟨w.heap.size,1,none⟩=_:=Ba.cell 1
 have xa:w2.drew.cell? ⟨w.heap.size,2,none⟩=_:=Ba.cell 2
 have p3:w2.drew.cell? ⟨w.heap.size,3,none⟩=_:=Ba.cell 3
 have p4:w2.drew.cell? ⟨w.heap.size,4,none⟩=_:=Ba.cell 4
 have p5:w2.drew.cell? ⟨w.heap.size,5,none⟩=_:=Ba.cell 5
 have p6:w2.drew.cell? ⟨w.heap.size,6,none⟩=_:=Ba.cell 6
 have p7:w2.drew.cell? ⟨w.heap.size,7,none⟩=_:=Ba.cell 7
 have p8:w2.drew.cell? ⟨w.heap.size,8,none⟩=_:=Ba.cell 8
 have sa:w2.drew.heap.size=w2.heap.size:=rfl
 have Qa:∀q∈FB (.slice a l.length c),q∈F:=fun q hq=>by
  obtain⟨_,_,_,_,_,_,e⟩:=r2
  rw [e]
  exact List.mem_append_left _ hq
 have HP:=hide (show PlsQ w0 (w2.alloc (.cells #[.int .i64 p.idN,.int .i64 p.idR,.int .i64 p.parN,.int .i64 p.parR,.slice k p.key.length ck,.int .i64 p.kind,.slice n p.name.length cn,.slice t p.text.length ct,.slice s p.attrs.length cs] 146)).drew (.slice a l.length c) l F∧F.Nodup∧PlQ w0 (w2.alloc (.cells #[.int .i64 p.idN,.int .i64 p.idR,.int .i64 p.parN,.int .i64 p.parR,.slice k p.key.length ck,.int .i64 p.kind,.slice n p.name.length cn,.slice t p.text.length ct,.slice s p.attrs.length cs] 146)).drew [.int .i64 p.idN,.int .i64 p.idR,.int .i64 p.parN,.int .i64 p.parR,.slice k p.key.length ck,.int .i64 p.kind,.slice n p.name.length cn,.slice t p.text.length ct,.slice s p.attrs.length cs] p G∧G.Nodup∧(∀g∈F,g∉G)∧(∀q,q∈F∨q∈G->q<(w2.alloc (.cells #[.int .i64 p.idN,.int .i64 p.idR,.int .i64 p.parN,.int .i64 p.parR,.slice k p.key.length ck,.int .i64 p.kind,.slice n p.name.length cn,.slice t p.text.length ct,.slice s p.attrs.length cs] 146)).drew.heap.size) from by
  refine⟨PlsQ.frm r2 (Frm.ofBelow Aa []) (fun _ _=>by simp),h.nd,p2.frm (Frm.ofBelow Aa []) (fun _ _=>by simp),hGn,hFG,fun q hq=> ?_⟩
  have:=Aa.size
  rcases hq with hq | hq
  ·have:=PlsQ.lt r2 q hq
   omega
  ·have:=p2.lt q hq
   omega)
 have aa:∀(i:Nat) (u:Xl),([.int .i64 p.idN,.int .i64 p.idR,.int .i64 p.parN,.int .i64 p.parR,.slice k p.key.length ck,.int .i64 p.kind,.slice n p.name.length cn,.slice t p.text.length ct,.slice s p.attrs.length cs])[i]? = some u->(w2.alloc (.cells #[.int .i64 p.idN,.int .i64 p.idR,.int .i64 p.parN,.int .i64 p.parR,.slice k p.key.length ck,.int .i64 p.kind,.slice n p.name.length cn,.slice t p.text.length ct,.slice s p.attrs.length cs] 146)).drew.cell? ((⟨w2.heap.size,0,none⟩:Addr).add i)=some u:=fun i u hu=>World.news_of_block (w:=(w2.alloc (.cells #[.int .i64 p.idN,.int .i64 p.idR,.int .i64 p.parN,.int .i64 p.parR,.slice k p.key.length ck,.int .i64 p.kind,.slice n p.name.length cn,.slice t p.text.length ct,.slice s p.attrs.length cs] 146)).drew) (heap_alloc_new w2 (.cells #[.int .i64 p.idN,.int .i64 p.idR,.int .i64 p.parN,.int .i64 p.parR,.slice k p.key.length ck,.int .i64 p.kind,.slice n p.name.length cn,.slice t p.text.length ct,.slice s p.attrs.length cs] 146)) i u (by simpa using hu)
 have da:=hide f2
 have Fa:=hide (And.intro s3 (And.intro (La.frm (Frm.ofBelow Aa []) (by simp)) (And.intro aa (f2.trans (Frm.ofBelow Aa _)))))
 have pa:g∉FB (.slice a l.length c):=fun e=>Oa (Qa g e)
 have ra:mb∉FB (.slice a l.length c):=fun e=>Ka (Qa mb e)
 clear aa s3 s2 ba Ya ha ja ca Ba Ha r2 p2 La f2 Aa Sa HX HG HM
 go_wp2_with fail
 go_region_law (refine zcr (R:=PlQ w0) (fun h f d=>PlQ.frm h f d) (by rfl) (.tmp 19) (.tmp 21) 105 (by rfl) 146 i0 (.agg #[.int .i64 0,.int .i64 0,.int .i64 0,.int .i64 0,.slice none 0 0,.int .i64 0,.slice none 0 0,.slice none 0 0,.slice none 0 0]) 9 136 Tryz.underlying105 ka ma na la rfl (by decide) _ l F (by rfl) (zaa HP).1 (zaa HP).2.1 ⟨w2.heap.size,0,none⟩ 1 [.int .i64 p.idN,.int .i64 p.idR,.int .i64 p.parN,.int .i64 p.parR,.slice k p.key.length ck,.int .i64 p.kind,.slice n p.name.length cn,.slice t p.text.length ct,.slice s p.attrs.length cs] p G (by rfl) rfl (zaa Fa).2.2.1 (by intro y hy;simp at hy;rcases hy with rfl | rfl | rfl | rfl | rfl | rfl | rfl | rfl | rfl<;>rfl) (zaa HP).2.2.1 (zaa HP).2.2.2.1 (zaa HP).2.2.2.2.1 (zaa HP).2.2.2.2.2 (by unfold maxLen;omega) (by omega) ?_;intro g9 Ca w9 F9 Ra ga Va Na ta;have s9:=(zaa Fa).1.frm Na pa (fun q hq=>.inr ((PlsQ.typ (zaa HP).1 q (Qa q hq)).cells));obtain⟨va,Pa,fa,_⟩:=s9.loc;have za:=(Pa.cell 0).trans fa;have wa:=Pa.frozen 0)
 all_goals
  have fs:=zal w9 g 0 (.slice (some ⟨g9,0,none⟩) (l.length+1) Ca)
  have Ua:g∉F9:=fun e=>(PlsQ.typ Ra g e).notL (by decide) Pa
  have h9:FoQ w0 (w9.setCell ⟨g,0,none⟩ (.slice (some ⟨g9,0,none⟩) (l.length+1) Ca)) g mb (some ⟨g9,0,none⟩) Ca (l++[p]) F9:=by
   have Ta:(l++[p]).length=l.length+1:=by simp
   refine⟨by rw [Ta];exact s9.store _,((zaa Fa).2.1.frm Na ra).frm fs (by simpa using fun e=>Ia e.symm),by rw [Ta];exact PlsQ.frm Ra fs (fun q hq e=>Ua (by have e9:q=g:=(by simpa using e);rw [<-e9];exact hq)),ga,fun q hq=> ?_,h.geg,h.gem,fun q hq=> ?_,by rw [Ta];exact hlen⟩
   ·rcases Va q hq with e | e | e
    ·exact h.ge q e
    ·exact hGB q e
    ·have:=h.geg
     have:=h.set.lt
     have:=Da.size
     have:=(zaa Fa).2.2.2.size
     have e1:(w2.alloc (.cells #[.int .i64 p.idN,.int .i64 p.idR,.int .i64 p.parN,.int .i64 p.parR,.slice k p.key.length ck,.int .i64 p.kind,.slice n p.name.length cn,.slice t p.text.length ct,.slice s p.attrs.length cs] 146)).drew.heap.size=w2.heap.size+1:=by simp [World.drew]
     have:=Wa.size
     have e2:=(show Frm _ w2 [mb] from zaa da).size
     omega
   ·rcases List.mem_append.1 hq with hq | hq
    ·exact h.ids q hq
    ·have e:q=p:=by simpa using hq
     rw [e]
     exact⟨hid,hpar⟩
  have ia:Frm w (w9.setCell ⟨g,0,none⟩ (.slice (some ⟨g9,0,none⟩) (l.length+1) Ca)) (g::mb::F):=by
   refine (Frm.ofBelow Da _).trans (((zaa Fa).2.2.2.mono ?_).trans ((Na.mono ?_).trans (fs.mono ?_)))
   ·intro q hq;have e:q=mb:=(by simpa using hq);simp [e]
   ·intro q hq;simp [Qa q hq]
   ·intro q hq;have e:q=g:=(by simpa using hq);simp [e]
  have Ja:∀q∈F9,q∈F∨q∈G∨w.heap.size<=q:=fun q hq=>by
   rcases Va q hq with e | e | e
   ·exact .inl e
   ·exact .inr (.inl e)
   ·right;right
    have:=Da.size
    have:=(zaa Fa).2.2.2.size
    have:=Wa.size
    have e2:=(show Frm _ w2 [mb] from zaa da).size
    omega
  have HE:=hide (zaa HQ (.returned (.tuple #[])) _ ⟨rfl,_,_,F9,h9,ia,Ja⟩)
  clear h9 ia Ja fs HQ Ra ga Va Na s9 Pa fa HP Fa
  go_wp2_with fail
  go_end0
  exact zaa HE
end Go.Proofs.YtgjolijncmkkhaaGreatDoor
namespace Go.Proofs.YtgjolijncmkkhaaGreatDoor
open Go.RowKit
set_option linter.unusedVariables false
set_option maxRecDepth 100000
theorem zxq (w:Xk) (n r:Int):Calls Tryz.prog 84 #[.agg #[.int .i64 n,.int .i64 r]] w fun e w'=>e=.returned (.bool (idB n r))∧Below w.heap.size w w':=
 (zzb w n r).mono fun e w' ⟨h1,h2⟩=>⟨h1,by rw [h2];exact ((Below.refl _ _).alloc (Nat.le_refl _) _).alloc (by simp) _⟩
theorem zzf {l:List PlV} (h:l.length<2∨272<l.length):stB l=false:=by
 rw [zjs]
 unfold stI
 rcases h with h | h
 ·rw [decide_eq_false (show ¬ 2<=l.length by omega)];simp
 ·rw [decide_eq_false (show ¬ l.length<=272 by omega)];simp
theorem zyw {l:List PlV} {i:Nat} {p:PlV} (hp:l[i]? = some p) (h:newB l i p=false):stB l=false:=by
 rw [zjs]
 unfold stI
 rw [zkw hp h]
 simp
theorem zxy {l:List PlV} (h:(topI l 0 zaH && topI l 1 zaw)=false):stB l=false:=by
 rw [zjs]
 unfold stI
 rw [Bool.and_assoc (decide (2<=l.length) && decide (l.length<=272) && zbj l (newB l)),h]
 simp
theorem zsY {l:List PlV} (h:(zbj l (zbv l) && zbj l (zbz l))=false):stB l=false:=by
 rw [zjs]
 unfold stI
 rw [Bool.and_assoc _ (zbj l (zbv l)),h]
 simp
theorem zyG {l:List PlV} (h2:2<=l.length) (hm:l.length<=272) (hn:∀i p,l[i]? = some p->newB l i p=true) (ht:(topI l 0 zaH && topI l 1 zaw)=true) (ho:(zbj l (zbv l) && zbj l (zbz l))=true):stB l=true:=by
 rw [zjs]
 unfold stI
 rw [Bool.and_eq_true]at ht ho
 rw [decide_eq_true h2,decide_eq_true hm,(zaZ l _).2 hn,ht.1,ht.2,ho.1,ho.2]
 rfl
theorem zmq {l:List PlV} {i:Nat} {id:IdV} (h:topI l i id=true):∀p,l[i]? = some p->p.id=id:=fun p hp=>by
 rw [zmw hp]at h
 simp only [Bool.and_eq_true,decide_eq_true_eq]at h
 exact h.1.1.1
theorem FoQ.lt7 {w0 w:Xk} {g mb:Nat} {a:Xi} {c:Nat} {l:List PlV} {F:Xh} (h:FoQ w0 w g mb a c l F):∀q∈g::mb::F,q<w.heap.size:=fun q hq=>by
 rcases List.mem_cons.1 hq with rfl | hq
 ·exact h.set.lt
 ·rcases List.mem_cons.1 hq with rfl | hq
  ·exact h.map.lt
  ·exact PlsQ.lt h.row q hq
theorem zwX {w w':Xk} {b off i:Nat} {p:PlV} {k n t q:Xi} {ck cn ct cq:Nat} (hb:Below w.heap.size w w') (hbl:b<w.heap.size) (h:∃C:Xj,C.length=9∧(∀j,j<9->w.cell? ⟨b,off+i*9+j,none⟩=C[j]?)∧RdPlC w C p)
  (e4:w'.cell? ⟨b,off+i*9+4,none⟩=some (.slice k p.key.length ck)) (e6:w'.cell? ⟨b,off+i*9+6,none⟩=some (.slice n p.name.length cn)) (e7:w'.cell? ⟨b,off+i*9+7,none⟩=some (.slice t p.text.length ct)) (e8:w'.cell? ⟨b,off+i*9+8,none⟩=some (.slice q p.attrs.length cq)):Ints w (.slice k p.key.length ck) p.key∧Byt w (.slice n p.name.length cn) p.name∧Byt w (.slice t p.text.length ct) p.text∧RdAttrs w (.slice q p.attrs.length cq) p.attrs:=by
 refine⟨?_,zxk hb hbl h e4 e6 e7 e8⟩
 obtain⟨C,_,hc,K,N,X,A,rfl,h1,h2,h3,h4⟩:=h
 have f4:=(hb.cell (p:=⟨b,off+i*9+4,none⟩) hbl).trans (hc 4 (by omega))
 rw [e4]at f4
 injection f4 with f4
 rw [f4]
 exact h1
theorem FoQ.new {B:Nat} {w0 w:Xk} {g mb:Nat} (h:FoS B w g mb none 0 [] []) (hB:w0.heap.size<=B):FoQ w0 w g mb none 0 [] []:=
 ⟨h.set,h.map,OwElems.naught _ _ _ _,List.nodup_nil,fun q hq=>(by cases hq),by have:=h.geg;omega,by have:=h.gem;omega,fun p hp=>(by cases hp),by simp⟩
set_option maxHeartbeats 12800000 in
theorem zyb (w:Xk) (a:Xi) (c:Nat) (l:List PlV) (h:RdPls w (.slice a l.length c) l) (hK:∀p∈l,-9223372036854775808<=p.kind∧p.kind<=9223372036854775807) (hI:∀p∈l,okI p.id∧okI p.par) (hG:Glo w) :
  Calls Tryz.prog 43 #[.agg #[.slice a l.length c]] w fun e w'=>PjA w l e w':=by
 refine zaF ?_
 intro Q HQ
 have ls:=(Loc.made w #[.slice a l.length c] 107).alloc (.cells #[.int .i64 0,.slice none 0 0,.slice none 0 0,.slice none 0 0,.slice none 0 0] 29)
 have lr:=Loc.made (w.alloc (.cells #[.slice a l.length c] 107)) #[.int .i64 0,.slice none 0 0,.slice none 0 0,.slice none 0 0,.slice none 0 0] 29
 have hA:Below w.heap.size w ((w.alloc (.cells #[.slice a l.length c] 107)).alloc (.cells #[.int .i64 0,.slice none 0 0,.slice none 0 0,.slice none 0 0,.slice none 0 0] 29)):=((Below.refl _ _).alloc (Nat.le_refl _) _).alloc (by simp) _
 simp only [World.size_alloc]at lr
 have ia:((w.alloc (.cells #[.slice a l.length c] 107)).alloc (.cells #[.int .i64 0,.slice none 0 0,.slice none 0 0,.slice none 0 0,.slice none 0 0] 29)).heap.size=w.heap.size+2:=by simp
 have HX:=hide (And.intro ls (And.intro lr (And.intro hA (And.intro (h.keep hA) (And.intro (hG.keep hA) ia)))))
 have x0:=ls.cell 0
 simp at x0
 have cb:2<=w.heap.size:=by have:=zbs hG.2.2.1;exact this
 clear ls lr hA h hG ia
 by_cases hsh:l.length<2∨272<l.length
 ·have Ca:=zzf hsh
  obtain⟨ls,lr,hA,-,-,-⟩:=zaa HX
  have HR:=hide (And.intro lr hA)
  clear HX lr ls hA
  have d2:decide ((l.length:Int)<2)=decide (l.length<2):=by congr 1;simp;omega
  obtain⟨lr,hA⟩:=zaa HR
  have HE:=hide (zaa HQ _ _ (PjA.no Ca hA))
  rcases hsh with hsh | hsh
  ·have e2:(l.length:Int)<2:=by omega
   clear d2 Ca hK hI HR lr hA
   go_enter Tryz.func43,Tryz.ntmps43
   go_wp2_with fail
   exact bodyPost_ret (v:=.tuple #[.agg #[.int .i64 0,.slice none 0 0,.slice none 0 0,.slice none 0 0,.slice none 0 0],.bool false]) (by simp [results,Tryz.results43,go_sem]) rfl (zaa HE)
  ·have e2:¬ (l.length:Int)<2:=by omega
   have e3:(272:Int)<(l.length:Int):=by omega
   clear d2 Ca hK hI HR lr hA
   go_enter Tryz.func43,Tryz.ntmps43
   go_wp2_with fail
   exact bodyPost_ret (v:=.tuple #[.agg #[.int .i64 0,.slice none 0 0,.slice none 0 0,.slice none 0 0,.slice none 0 0],.bool false]) (by simp [results,Tryz.results43,go_sem]) rfl (zaa HE)
 have fb:¬ (l.length:Int)<2:=by omega
 have ob:¬ (272:Int)<(l.length:Int):=by omega
 have La:2<=l.length:=by omega
 have oa:l.length<=272:=by omega
 clear hsh
 go_enter Tryz.func43,Tryz.ntmps43
 go_wp2_with fail
 obtain⟨ls,lr,hA,h,hG,ia⟩:=zaa HX
 have Qb:=hide hK
 have Wb:=hide hI
 clear HX hK hI
 generalize ((w.alloc (.cells #[.slice a l.length c] 107)).alloc (.cells #[.int .i64 0,.slice none 0 0,.slice none 0 0,.slice none 0 0,.slice none 0 0] 29))=w2 at *
 refine (zhS w2).mono ?_
 rintro e w3 ⟨rfl,hS,Ua⟩
 have Ra:FoQ w2 w3 (w2.heap.size+1) w2.heap.size none 0 [] []:=FoQ.new hS (Nat.le_refl _)
 clear hS
 obtain⟨g,hg⟩:∃g,g=w2.heap.size+1:=⟨_,rfl⟩
 rw [<-hg]at Ra ⊢
 obtain⟨mb,Kb⟩:∃mb,mb=w2.heap.size:=⟨_,rfl⟩
 rw [<-Kb]at Ra
 have x3:=(ls.all Ua).cell 0
 simp at x3
 have HX:=hide (And.intro ls (And.intro lr (And.intro hA (And.intro h (And.intro hG (And.intro Ra Ua))))))
 have Zb:w.heap.size+2<=w2.heap.size:=by omega
 clear x0 ls lr hA h hG Ra Ua Kb ia hg
 go_wp2_with fail
 obtain⟨ls,lr,hA,h,hG,Ra,Ua⟩:=zaa HX
 clear HX x3
 obtain⟨Vb,_⟩ | ⟨b,db,lb,hv,_,Db,za⟩:=h.cases
 ·rw [Vb]at La;simp at La
 cases hv
 have jb:g<w3.heap.size:=Ra.set.lt
 have kb:w2.heap.size<=g:=Ra.geg
 have Mb:=hide za
 clear za h ls
 go_loopw [23] (fun i wr=>∃(j:Nat) (a':Xi) (c':Nat) (F':Xh),j<=l.length∧i=.int .i64 (j:Int)∧(∀i p,i<j->l[i]? = some p->newB l i p=true)∧FoQ w2 wr g mb a' c' (l.take j) F'∧Below w2.heap.size w2 wr) (fun i _=>l.length-(intOf i).toNat)
 case atStart=>exact⟨0,none,0,[],Nat.zero_le _,rfl,fun i p hi=>by omega,Ra,Ua⟩
 case round=>
  obtain⟨j,a',c',F',hj,rfl,ja,hq,hb⟩:=hrel
  replace hA:=hA.trans (hb.mono (by omega))
  have Yb:=hide hG
  have pb:=hide (And.intro Ra Ua)
  clear Ra Ua
  replace lr:=lr.all hb
  clear hG
  by_cases hlt:j<l.length
  ·obtain⟨k0,fa,n0,ba,t0,Ya,q0,Xa,e0,e1,e2,e3,e4,e5,e6,e7,e8,Xb⟩:=zAi hb Db (zaa Mb j hlt)
   have Fa:=zwX hb Db (zaa Mb j hlt) e4 e6 e7 e8
   have hp:l[j]? = some l[j]:=by simp [hlt]
   have Oa:=zaa Qb l[j] (List.getElem_mem _)
   have Ka:=zaa Wb l[j] (List.getElem_mem _)
   have Aa:=fun (hh:newB l j l[j]=false)=>zyw hp hh
   have Ha:newB l j l[j]=true->∀i p,i<j+1->l[i]? = some p->newB l i p=true:=fun hh i p hi hq=>by
    rcases Nat.lt_succ_iff_lt_or_eq.1 hi with h1 | h1
    ·exact ja i p h1 hq
    ·rw [h1,hp]at hq
     rw [h1]
     exact Option.some.inj hq ▸ hh
   have Ja:l.take (j+1)=l.take j++[l[j]]:=List.take_succ_eq_append_getElem hlt
   have Ga:newB l j l[j]=(decide (posP (l.take j) l[j].id=none) && idB l[j].idN l[j].idR && zbi l[j]):=rfl
   clear Xb ja hp
   generalize l[j]=p at *
   have Ub:(j:Int)<(l.length:Int):=by omega
   have gb:(0:Int)<=(j:Int):=by omega
   have eb:b<wr.heap.size:=zbs e0
   have lx:=Loc.made wr #[.int .i64 p.idN,.int .i64 p.idR,.int .i64 p.parN,.int .i64 p.parR,.slice k0 p.key.length fa,.int .i64 p.kind,.slice n0 p.name.length ba,.slice t0 p.text.length Ya,.slice q0 p.attrs.length Xa] 146
   have hx:Below wr.heap.size wr (wr.alloc (.cells #[.int .i64 p.idN,.int .i64 p.idR,.int .i64 p.parN,.int .i64 p.parR,.slice k0 p.key.length fa,.int .i64 p.kind,.slice n0 p.name.length ba,.slice t0 p.text.length Ya,.slice q0 p.attrs.length Xa] 146)):=(Below.refl _ _).alloc (Nat.le_refl _) _
   obtain⟨x0,x1,x2,x3,x4,x5,x6,x7,x8⟩:=zfP lx _ _ _ _ _ _ _ _ _ rfl
   have pa:=hq.keep hx
   have Hb:=zam hA hx
   have Gb:=zam hb hx
   have Jb:=lr.all hx
   have HX:=hide (And.intro pa (And.intro Hb (And.intro Gb (And.intro Jb (And.intro lx (And.intro Fa (And.intro Oa Ka)))))))
   have HN:=hide (And.intro Aa (And.intro Ha (And.intro Ja Ga)))
   have va:=hide (zcq pa p.id Ka.1)
   clear hq hA hb lr lx hx pa Hb Gb Jb Fa Oa Ka Aa Ha Ja Ga
   unfold zbg at va
   go_wp2_with fail
   clear e0 e1 e2 e3 e4 e5 e6 e7 e8
   obtain⟨hq,hA,hb,lr,lx,Fa,Oa,Ka⟩:=zaa HX
   obtain⟨Aa,Ha,Ja,Ga⟩:=zaa HN
   clear HX HN
   generalize (wr.alloc (.cells #[.int .i64 p.idN,.int .i64 p.idR,.int .i64 p.parN,.int .i64 p.parR,.slice k0 p.key.length fa,.int .i64 p.kind,.slice n0 p.name.length ba,.slice t0 p.text.length Ya,.slice q0 p.attrs.length Xa] 146))=wx at *
   refine (zaa va).mono ?_
   rintro e w5 ⟨ta,ua,aa⟩
   clear va
   replace hq:=hq.keep aa
   replace hA:=zam hA aa
   replace hb:=zam hb aa
   replace lr:=lr.all aa
   replace lx:=lx.all aa
   clear x0 x1 x2 x3 x4 x5 x6 x7 x8 aa
   cases Ba:posP (l.take j) p.id with
   | some k=>
    obtain⟨gr,-,rfl⟩:=ua k Ba
    have Ca:=Aa (by rw [Ga,Ba];simp)
    clear Ha Ja Ga hq Fa lx Ba ta ua hb Aa
    obtain⟨z0,z1,z2,z3,z4⟩:=lr.five
    have ea:=lr.frozen 0
    have ga:=lr.frozen 1
    have ha:=lr.frozen 2
    have ca:=lr.frozen 3
    have da:=lr.frozen 4
    obtain⟨lX,fX⟩:=zcj lr (.int .i64 0) (.slice none 0 0) (.slice none 0 0) (.slice none 0 0) (.slice none 0 0)
    have HE:=hide (zaa HQ _ _ (PjA.no Ca (hA.trans (fX.below hA.size (fun q hq=>by simp at hq;omega)))))
    clear lX fX Ca lr hA
    go_wp2_with fail
    exact bodyPost_ret (v:=.tuple #[.agg #[.int .i64 0,.slice none 0 0,.slice none 0 0,.slice none 0 0,.slice none 0 0],.bool false]) (by simp [results,Tryz.results43,go_sem,z0,z1,z2,z3,z4]) rfl (zaa HE)
   | none=>
    obtain rfl:=ta Ba
    rw [Ba,show decide ((none:Option Nat)=none)=true from rfl,Bool.true_and]at Ga
    obtain⟨x0,x1,x2,x3,x4,x5,x6,x7,x8⟩:=zfP lx _ _ _ _ _ _ _ _ _ rfl
    have HX:=hide (And.intro hq (And.intro hA (And.intro hb (And.intro lr (And.intro lx (And.intro Fa (And.intro Oa Ka)))))))
    have HN:=hide (And.intro Aa (And.intro Ha (And.intro Ja (And.intro Ga Ba))))
    clear hq hA hb lr lx Fa Oa Ka Aa Ha Ja Ga Ba ta ua
    go_wp2_with fail
    refine (zxq _ p.idN p.idR).mono ?_
    rintro e w6 ⟨rfl,Wa⟩
    obtain⟨hq,hA,hb,lr,lx,Fa,Oa,Ka⟩:=zaa HX
    obtain⟨Aa,Ha,Ja,Ga,Ba⟩:=zaa HN
    clear HX HN x0 x1 x2 x3 x4 x5 x6 x7 x8
    replace hq:=hq.keep Wa
    replace hA:=zam hA Wa
    replace hb:=zam hb Wa
    replace lr:=lr.all Wa
    replace lx:=lx.all Wa
    clear Wa
    cases hid:idB p.idN p.idR with
    | false=>
     have Ca:=Aa (by rw [Ga,hid,Bool.false_and])
     clear Ha Ja Ga hq Fa lx Ba hb Aa hid
     obtain⟨z0,z1,z2,z3,z4⟩:=lr.five
     have ea:=lr.frozen 0
     have ga:=lr.frozen 1
     have ha:=lr.frozen 2
     have ca:=lr.frozen 3
     have da:=lr.frozen 4
     obtain⟨lX,fX⟩:=zcj lr (.int .i64 0) (.slice none 0 0) (.slice none 0 0) (.slice none 0 0) (.slice none 0 0)
     have HE:=hide (zaa HQ _ _ (PjA.no Ca (hA.trans (fX.below hA.size (fun q hq=>by simp at hq;omega)))))
     clear lX fX Ca lr hA
     skip
     go_wp2_with fail
     exact bodyPost_ret (v:=.tuple #[.agg #[.int .i64 0,.slice none 0 0,.slice none 0 0,.slice none 0 0,.slice none 0 0],.bool false]) (by simp [results,Tryz.results43,go_sem,z0,z1,z2,z3,z4]) rfl (zaa HE)
    | true=>
     rw [hid,Bool.true_and]at Ga
     obtain⟨x0,x1,x2,x3,x4,x5,x6,x7,x8⟩:=zfP lx _ _ _ _ _ _ _ _ _ rfl
     have HX:=hide (And.intro hq (And.intro hA (And.intro hb (And.intro lr (And.intro lx (And.intro Fa (And.intro Oa Ka)))))))
     have HN:=hide (And.intro Aa (And.intro Ha (And.intro Ja (And.intro Ga Ba))))
     clear hq hA hb lr lx Fa Oa Ka Aa Ha Ja Ga Ba hid
     go_wp2_with fail
     refine (zhc _ p k0 n0 t0 q0 fa ba Ya Xa).mono ?_
     rintro e w7 ⟨rfl,ma⟩
     go_wp2_with fail
     obtain⟨hq,hA,hb,lr,lx,Fa,Oa,Ka⟩:=zaa HX
     obtain⟨Aa,Ha,Ja,Ga,Ba⟩:=zaa HN
     clear HX HN x0 x1 x2 x3 x4 x5 x6 x7 x8
     replace hb:=zam hb ma
     refine (zuA w2 w7 p n0 t0 q0 ba Ya Xa Fa.2.1 Fa.2.2.1 Fa.2.2.2 hb Oa).mono ?_
     rintro e w8 ⟨rfl,xa⟩
     have Na:=zam ma xa
     replace hq:=hq.keep Na
     replace hA:=zam hA Na
     replace hb:=zam hb xa
     replace lr:=lr.all Na
     replace lx:=lx.all Na
     rw [<-Ga]
     clear ma xa Na
     cases hnv:newB l j p with
     | false=>
      have Ca:=Aa hnv
      clear Ha Ja Ga hq Fa lx Ba hb Aa hnv
      obtain⟨z0,z1,z2,z3,z4⟩:=lr.five
      have ea:=lr.frozen 0
      have ga:=lr.frozen 1
      have ha:=lr.frozen 2
      have ca:=lr.frozen 3
      have da:=lr.frozen 4
      obtain⟨lX,fX⟩:=zcj lr (.int .i64 0) (.slice none 0 0) (.slice none 0 0) (.slice none 0 0) (.slice none 0 0)
      have HE:=hide (zaa HQ _ _ (PjA.no Ca (hA.trans (fX.below hA.size (fun q hq=>by simp at hq;omega)))))
      clear lX fX Ca lr hA
      skip
      go_wp2_with fail
      exact bodyPost_ret (v:=.tuple #[.agg #[.int .i64 0,.slice none 0 0,.slice none 0 0,.slice none 0 0,.slice none 0 0],.bool false]) (by simp [results,Tryz.results43,go_sem,z0,z1,z2,z3,z4]) rfl (zaa HE)
     | true=>
      obtain⟨x0,x1,x2,x3,x4,x5,x6,x7,x8⟩:=zfP lx _ _ _ _ _ _ _ _ _ rfl
      have ab:(l.take j).length=j:=by rw [List.length_take];omega
      have Ab:=hide (zwv hq p k0 n0 t0 q0 fa ba Ya Xa [] ⟨⟨_,_,_,_,rfl,Fa.1,Fa.2.1,Fa.2.2.1,Fa.2.2.2⟩,rfl⟩ List.nodup_nil (fun q hq=>(by cases hq)) (fun q hq=>by simp) Ka.1 Ka.2 Ba (by omega))
      have Nb:=hq.ge
      have Ib:=hq.geg
      have na:=hq.gem
      have HX:=hide (And.intro hA (And.intro hb (Ha hnv)))
      have Tb:=hide Ja
      have Sb:=hide Nb
      clear hq hA hb lr lx Fa Oa Ka Aa Ha Ja Ga Ba hnv Nb ab
      go_wp2_with fail
      refine (zaa Ab).mono ?_
      rintro e w9 ⟨rfl,a9,c9,F9,ra,Za,-⟩
      obtain⟨hA,hb,Ha⟩:=zaa HX
      rw [<-zaa Tb]at ra
      have Cb:Below w2.heap.size w2 w9:=hb.trans (Za.below hb.size (fun q hq=>by
       rcases List.mem_cons.1 hq with rfl | hq
       ·exact Ib
       ·rcases List.mem_cons.1 hq with rfl | hq
        ·exact na
        ·exact zaa Sb q hq))
      have HE:=hide (And.intro ra (And.intro Cb Ha))
      clear HX Ab hA hb Ha ra Za Cb x0 x1 x2 x3 x4 x5 x6 x7 x8
      go_wp2_with fail
      go_roundw
      case rel=>exact⟨j+1,a9,c9,F9,by omega,by go_num,(zaa HE).2.2,(zaa HE).1,(zaa HE).2.1⟩
      case measure=>simp [intOf];omega
  ·have ib:¬ (j:Int)<(l.length:Int):=by omega
   have Da:∀i p,l[i]? = some p->newB l i p=true:=fun i p hp=>ja i p (by have:=(List.getElem?_eq_some_iff.1 hp).1;omega) hp
   rw [List.take_of_length_le (by omega)]at hq
   have hu:(l.map PlV.id).Nodup:=zdv (fun i p hp=>zkG (fun i p hp=>by
    have:=Da i p hp
    unfold newB at this
    simp only [Bool.and_eq_true,decide_eq_true_eq]at this
    exact this.1.1) hp)
   obtain⟨gr,rfl,-⟩:=hq.at (by omega)
   have Ia:=((zaa Yb).keep hb)
   have Rb:=zsW hq hb Ia La
   have Lb:=hide Rb
   have HX:=hide (And.intro hq (And.intro hA (And.intro hb (And.intro lr (And.intro Ia (And.intro Da hu))))))
   clear hq hA hb lr Ia Da hu ja Rb
   go_wp2_with fail
   refine (zaa Lb).mono ?_
   rintro e w5 ⟨rfl,hq,Ma⟩
   obtain⟨ka,hA,hb,lr,Ia,Da,hu⟩:=zaa HX
   have Ib:=ka.geg
   clear ka Lb HX
   replace hb:=hb.trans (Ma.below hb.size (fun q hq=>by simp at hq;omega))
   replace hA:=hA.trans (Ma.below hA.size (fun q hq=>by simp at hq;omega))
   replace lr:=lr.frm Ma (by simp;omega)
   replace Ia:=Ia.frm Ma (fun q hq=>by simp at hq;omega)
   clear Ma
   cases Sa:(topI l 0 zaH && topI l 1 zaw)with
   | false=>
    have Ca:=zxy Sa
    clear hq hb Ia Da hu Sa
    obtain⟨z0,z1,z2,z3,z4⟩:=lr.five
    have ea:=lr.frozen 0
    have ga:=lr.frozen 1
    have ha:=lr.frozen 2
    have ca:=lr.frozen 3
    have da:=lr.frozen 4
    obtain⟨lX,fX⟩:=zcj lr (.int .i64 0) (.slice none 0 0) (.slice none 0 0) (.slice none 0 0) (.slice none 0 0)
    have HE:=hide (zaa HQ _ _ (PjA.no Ca (hA.trans (fX.below hA.size (fun q hq=>by simp at hq;omega)))))
    clear lX fX Ca lr hA
    skip
    go_wp2_with fail
    exact bodyPost_ret (v:=.tuple #[.agg #[.int .i64 0,.slice none 0 0,.slice none 0 0,.slice none 0 0,.slice none 0 0],.bool false]) (by simp [results,Tryz.results43,go_sem,z0,z1,z2,z3,z4]) rfl (zaa HE)
   | true=>
    have Pa:=Sa
    rw [Bool.and_eq_true]at Pa
    have Eb:=hide (zpw hq hb Ia La (by omega) (zmq Pa.1) (zmq Pa.2) hu)
    have HX:=hide (And.intro hq (And.intro hA (And.intro hb (And.intro lr (And.intro Ia (And.intro Da (And.intro hu (And.intro Sa (zmq Pa.1)))))))))
    clear hq hA hb lr Ia Da hu Sa Pa
    go_wp2_with fail
    refine (zaa Eb).mono ?_
    rintro e w6 ⟨rfl,hq,Ma⟩
    obtain⟨ka,hA,hb,lr,Ia,Da,hu,Sa,Qa⟩:=zaa HX
    clear ka Eb HX
    replace hb:=hb.trans (Ma.below hb.size (fun q hq=>by simp at hq;omega))
    replace hA:=hA.trans (Ma.below hA.size (fun q hq=>by simp at hq;omega))
    replace lr:=lr.frm Ma (by simp;omega)
    replace Ia:=Ia.frm Ma (fun q hq=>by simp at hq;omega)
    clear Ma
    cases hot:(zbj l (zbv l) && zbj l (zbz l))with
    | false=>
     have Ca:=zsY hot
     clear hq hb Ia Da hu Sa Qa hot
     obtain⟨z0,z1,z2,z3,z4⟩:=lr.five
     have ea:=lr.frozen 0
     have ga:=lr.frozen 1
     have ha:=lr.frozen 2
     have ca:=lr.frozen 3
     have da:=lr.frozen 4
     obtain⟨lX,fX⟩:=zcj lr (.int .i64 0) (.slice none 0 0) (.slice none 0 0) (.slice none 0 0) (.slice none 0 0)
     have HE:=hide (zaa HQ _ _ (PjA.no Ca (hA.trans (fX.below hA.size (fun q hq=>by simp at hq;omega)))))
     clear lX fX Ca lr hA
     skip
     go_wp2_with fail
     exact bodyPost_ret (v:=.tuple #[.agg #[.int .i64 0,.slice none 0 0,.slice none 0 0,.slice none 0 0,.slice none 0 0],.bool false]) (by simp [results,Tryz.results43,go_sem,z0,z1,z2,z3,z4]) rfl (zaa HE)
    | true=>
     have Ca:=zyG La oa Da Sa hot
     have Pb:=zoQ Ca
     have lp:=Loc.made w6 #[.int .i64 0] 3
     have h7:Below w6.heap.size w6 (w6.alloc (.cells #[.int .i64 0] 3)):=(Below.refl _ _).alloc (Nat.le_refl _) _
     have la:l[0]? = some l[0]:=by simp [show 0<l.length by omega]
     have Va:=Qa _ la
     have sa:l[0].idN=0∧l[0].idR=0:=⟨(Prod.mk.inj Va).1,(Prod.mk.inj Va).2⟩
     have Ob:=hq.lt7
     have qa:=hide (zoF 19 w2 (w6.alloc (.cells #[.int .i64 0] 3)) g mb gr c' l F' 0 l[0] 120 0 1 w6.heap.size (hq.keep h7) (zam hb h7) La hu (zaa Qb) Pb (fun e=>by have:=Ob _ e;omega) hb.size lp (by omega) la (by omega) (by omega) (by decide) (by omega))
     rw [sa.1,sa.2]at qa
     obtain⟨y0,y1,-,-⟩:=Ia.keep h7
     have HX:=hide (And.intro hA (And.intro (lr.all h7) (And.intro h7 Ca)))
     have qb:=lr.lt
     clear hq hA hb lr Ia Da hu Sa Qa hot Pb lp h7 la Va sa Ca Ob
     go_wp2_with fail
     refine (zaa qa).mono ?_
     rintro e w9 ⟨kd,a1,n1,c1,a2,n2,c2,a3,n3,c3,a4,n4,c4,rfl,G,hG,bb,rG,-,Za⟩
     obtain⟨hA,Bb,h7,Ca⟩:=zaa HX
     have Ta:=Bb.frm Za (by simp;omega)
     have wa:Below w.heap.size w w9:=(zam hA h7).trans (Za.below (zam hA h7).size (fun q hq=>by simp at hq;have:=hA.size;omega))
     have s6:=h7.size
     have nb:=hA.size
     obtain⟨z0,z1,z2,z3,z4⟩:=Ta.five
     have ea:=Ta.frozen 0
     have ga:=Ta.frozen 1
     have ha:=Ta.frozen 2
     have ca:=Ta.frozen 3
     have da:=Ta.frozen 4
     obtain⟨lX,fX⟩:=zcj Ta (.int .i64 kd) (.slice a1 n1 c1) (.slice a2 n2 c2) (.slice a3 n3 c3) (.slice a4 n4 c4)
     have Fb:=OwNode.frm hG fX (fun q hq=>by have:=(rG q hq).1;simp;omega)
     have ya:=wa.trans (fX.below wa.size (fun q hq=>by simp at hq;omega))
     have HE:=hide (zaa HQ (.returned (.tuple #[.agg #[.int .i64 kd,.slice a1 n1 c1,.slice a2 n2 c2,.slice a3 n3 c3,.slice a4 n4 c4],.bool true])) _ ⟨kd,a1,n1,c1,a2,n2,c2,a3,n3,c3,a4,n4,c4,by rw [Ca],G,by rw [zjH Ca];exact Fb,bb,rG.mono (by omega) fX.size,ya⟩)
     clear lX fX Fb ya Ta wa rG hG Bb h7 hA HX qa Ca Za
     go_wp2_with fail
     exact bodyPost_ret (v:=.tuple #[.agg #[.int .i64 kd,.slice a1 n1 c1,.slice a2 n2 c2,.slice a3 n3 c3,.slice a4 n4 c4],.bool true]) (by simp [results,Tryz.results43,go_sem,z0,z1,z2,z3,z4]) rfl (zaa HE)
theorem zhK {α β:Type} (f:α->List β) (g:α->Nat) (H:∀x,(f x).length<=6*g x+6):∀l:List α,(l.map f).flatten.length<=6*(l.length+(l.map g).sum)
 | []=>by simp
 | x::l=>by
  have h1:=zhK f g H l
  have h2:=H x
  simp only [List.map_cons,List.flatten_cons,List.length_append,List.length_cons,List.sum_cons]
  omega
theorem ztx (l:List (Xg×Xg)):(zav l).length<=6*szA l:=by
 unfold zav szA
 refine zhK zdq (fun x=>x.1.length+x.2.length) (fun x=> ?_) l
 have:=zmB true x.2
 unfold zdq
 simp only [List.length_append,List.length_cons,List.length_nil]
 omega
theorem zkC:∀(n:Nat) (t:Tr n),(mkup n t).length<=6*szT n t+5
 | 0,t=>by show ([]:Xg).length<=_;simp
 | n+1,t=>by
  have h1:=zmB false t.text
  have h2:=ztx t.attrs
  have h3:=zhK (mkup n) (szT n) (fun x=>by have:=zkC n x;omega) t.kids
  have h4:szT (n+1) t=t.name.length+t.text.length+szA t.attrs+(t.kids.length+(t.kids.map (szT n)).sum):=rfl
  rw [zis,h4]
  split
  ·omega
  ·split
   ·simp only [List.length_append,List.length_cons,List.length_nil]
    omega
   ·simp only [List.length_append,List.length_cons,List.length_nil]
    omega
set_option maxHeartbeats 1600000 in
theorem zqM (n:Nat) (w:Xk) (a b c d e:Xl) (t:Tr (n+1)) (h:RdNode (n+1) w [a,b,c,d,e] t) (hlen:(mkup (n+1) t).length<=100000000) :
  Calls Tryz.prog 18 #[.agg #[a,b,c,d,e]] w fun e w'=>∃v,e=.returned v∧Own w' w.heap.size v (if okN n t=true then mkup (n+1) t else [])∧Below w.heap.size w w':=by
 have Ba:Below w.heap.size w (w.alloc (.cells #[a,b,c,d,e] 29)):=(Below.refl _ _).alloc (Nat.le_refl _) _
 have l1:=Loc.made w #[a,b,c,d,e] 29
 have c1:=zvt n _ a b c d e t (h.keep Ba)
 obtain⟨_,_,_,_,e0,k1,k2,hb,hc,hd,he⟩:=id h
 simp only [List.cons.injEq,and_true]at e0
 obtain⟨rfl,rfl,rfl,rfl,rfl⟩:=e0
 obtain⟨ab,cb,rfl,_,_⟩:=hb.shape
 obtain⟨ac,cc,rfl,_,_⟩:=hc.shape
 obtain⟨ad,cd,rfl,_,_⟩:=Elems.shape hd
 obtain⟨ae,ce,rfl,_,_⟩:=Elems.shape he
 clear hb hc hd he
 obtain⟨x0,x1,x2,x3,x4⟩:=l1.five
 by_cases hk:okN n t=true
 ·rw [hk]at c1
  simp only [hk,if_true]
  clear hk
  go_enter Tryz.func18,Tryz.ntmps18
  go_wp2_with fail
  refine c1.mono ?_
  rintro e w1 ⟨rfl,hb⟩
  have Aa:=Ba.trans (hb.mono Ba.size)
  obtain⟨y0,y1,y2,y3,y4⟩:=(l1.all hb).five
  clear x0 x1 x2 x3 x4
  go_wp2_with fail
  refine (zvw (n+1) w w1 w.heap.size _ [] _ _ _ _ _ t h Aa (Nat.le_refl _) Aa.size ⟨zbm,World.ownsRow_nil _ _ _ _⟩ (by simpa using hlen)).mono ?_
  rintro e w2 ⟨v2,rfl,Ca,F2⟩
  rw [List.nil_append]at Ca
  obtain⟨a2,c2,Fa,_,_⟩:=Ca.byt.shape
  subst Fa
  go_wp2_with fail
  go_ret
  exact⟨_,rfl,Ca,Aa.trans (F2.toBelow Aa.size)⟩
 ·have Da:okN n t=false:=by simpa using hk
  rw [Da]at c1
  simp only [Da,Bool.false_eq_true,if_false]
  clear hk Da
  go_enter Tryz.func18,Tryz.ntmps18
  go_wp2_with fail
  refine c1.mono ?_
  rintro e w1 ⟨rfl,hb⟩
  have Aa:=Ba.trans (hb.mono Ba.size)
  go_wp2_with fail
  go_ret
  exact⟨_,rfl,⟨zbm,World.ownsRow_nil _ _ _ _⟩,Aa⟩
def zky (n:Nat) (t:Tr (n+1)):Xg:=if okN n t=true then mkup (n+1) t else []
def zul:Prop:=∀(n:Nat) (w:Xk) (a b c d e:Xl) (t:Tr (n+1)) (F:Xh),OwNode (n+1) w [a,b,c,d,e] t F->szT (n+1) t<=2097152->
  Calls Tryz.prog 11 #[.agg #[a,b,c,d,e]] w fun e w'=>∃v,e=.returned v∧Own w' w.heap.size v (zky n t)∧Below w.heap.size w w'
set_option maxHeartbeats 3200000 in
theorem zrf:zul:=by
 intro n w a b c d e t F ho Ma
 have h:=ho.rd
 have Aa:(mkup (n+1) t).length<=100000000:=by have:=zkC (n+1) t;omega
 clear ho
 have Ca:Below w.heap.size w (w.alloc (.cells #[a,b,c,d,e] 29)):=(Below.refl _ _).alloc (Nat.le_refl _) _
 have l1:=Loc.made w #[a,b,c,d,e] 29
 have c1:=zgh n _ a b c d e t (h.keep Ca) Ma
 obtain⟨z,ab,nb,cb,ac,nc,cc,ad,nd,cd,ae,ne,ce,rfl,rfl,rfl,rfl,rfl⟩:=zrx h
 obtain⟨x0,x1,x2,x3,x4⟩:=l1.five
 unfold zky
 by_cases hk:okN n t=true
 ·rw [hk]at c1
  simp only [hk,if_true]
  clear hk
  go_enter Tryz.func11,Tryz.ntmps11
  go_wp2_with fail
  refine c1.mono ?_
  rintro e w1 ⟨rfl,hb⟩
  have Ba:=Ca.trans (hb.mono Ca.size)
  have l2:=l1.all hb
  have Ha:Below w1.heap.size w1 (w1.alloc (.cells (ws0 (.slice none 0 0)) 86)):=(Below.refl _ _).alloc (Nat.le_refl _) _
  have g2:=Loc.made w1 (ws0 (.slice none 0 0)) 86
  have Da:=zam Ba Ha
  have l3:=l2.all Ha
  obtain⟨y0,y1,y2,y3,y4⟩:=l3.five
  have Ia:Wr w.heap.size (w1.alloc (.cells (ws0 (.slice none 0 0)) 86)) w1.heap.size []:=⟨.slice none 0 0,⟨zbm,World.ownsRow_nil _ _ _ _⟩,.inl g2⟩
  have HP:=hide (zpS (n+1) w _ w.heap.size w1.heap.size [] _ _ _ _ _ t h Da (Nat.le_refl _) Ba.size Da.size Ia (by simpa using Aa))
  clear x0 x1 x2 x3 x4 Ia g2 l1 l2 Aa
  unfold ws0 at *
  go_wp2_with fail
  refine (zaa HP).mono ?_
  clear HP
  rintro e w3 ⟨rfl,⟨o,Ga,La⟩,F3⟩
  rw [List.nil_append]at Ga
  obtain⟨cs,_,_,c0,_⟩:=La.loc
  have Ja:=Da.trans (FrpW.toBelow F3 Da.size (Nat.le_refl _) Ba.size)
  obtain⟨a2,c2,Ka,_,_⟩:=Ga.byt.shape
  subst Ka
  go_wp2_with fail
  go_ret
  exact⟨_,rfl,Ga,Ja⟩
 ·have Fa:okN n t=false:=by simpa using hk
  rw [Fa]at c1
  simp only [Fa,Bool.false_eq_true,if_false]
  clear hk Fa
  go_enter Tryz.func11,Tryz.ntmps11
  go_wp2_with fail
  refine c1.mono ?_
  rintro e w1 ⟨rfl,hb⟩
  have Ba:=Ca.trans (hb.mono Ca.size)
  go_wp2_with fail
  go_ret
  exact⟨_,rfl,⟨zbm,World.ownsRow_nil _ _ _ _⟩,Ba⟩
theorem ziw {p:PlV} (h0:p.kind=0):zbi p=true↔zaD p.name∧p.text.length=0∧zat p.attrs:=by
 have hk:(zaN p).kids=[]:=rfl
 unfold zbi
 rw [zbl,if_neg (by omega),if_neg (show ¬ (zaN p).kind=1 by show ¬ p.kind=1;omega)]
 have he:zaM (zaN p)=true↔zaD p.name∧p.text.length=0∧zat p.attrs:=by
  have hx:=zba (zaN p:Nd (Tr 0))
  constructor
  ·intro h
   obtain⟨_,a2,a3,a4,_⟩:=hx.1 h
   exact⟨a2,a3,a4⟩
  ·intro h
   exact hx.2 ⟨h0,h.1,h.2.1,h.2.2,fun e=>absurd e.2 (Nat.lt_irrefl 0)⟩
 rw [<-he,hk]
 by_cases h:zaM (zaN p)=true
 ·rw [if_pos h];exact⟨fun _=>h,fun _=>rfl⟩
 ·rw [if_neg h];exact⟨fun e=>(by cases e),fun e=>absurd e h⟩
theorem zvd {p:PlV} (h1:p.kind=1):zbi p=true↔p.name.length=0∧p.attrs.length=0∧zaU p.text:=by
 unfold zbi
 rw [zbl,if_neg (by omega),if_pos (show (zaN p).kind=1 from h1)]
 have hl:=zaX (zaN p)
 constructor
 ·intro h
  have h':=hl.1 h
  exact⟨h'.1,h'.2.1,h'.2.2.2⟩
 ·intro h
  exact hl.2 ⟨h.1,h.2.1,rfl,h.2.2⟩
theorem zuz {p:PlV} (h:zbi p=true):p.kind=0∨p.kind=1:=by
 unfold zbi at h
 rw [zbl,if_neg (by omega)]at h
 by_cases h1:(zaN p).kind=1
 ·exact .inr h1
 ·rw [if_neg h1]at h
  by_cases h2:zaM (zaN p)=true
  ·exact .inl ((zba _).1 h2).1
  ·rw [if_neg h2]at h;cases h
theorem zgq {l:List PlV} {p:PlV} {i:IdV} (h:zaG l i=true):zaG (l++[p]) i=true:=by
 cases hk:posP l i with
 | none=>unfold zaG at h;rw [hk]at h;cases h
 | some k=>
  obtain⟨q,hq,_⟩:=zdg hk
  rw [zdI hk hq]at h
  rw [zdI (zer hk) (by rw [List.getElem?_append_left (List.getElem?_eq_some_iff.1 hq).1];exact hq)]
  exact h
structure Stt (l:List PlV):Prop where
 gs:∀p∈l,zbi p=true∧idB p.idN p.idR=true
 top:∀i p,i<2->l[i]? = some p->p.kind=0∧zaz p.name=false∧p.par=(0,0)∧p.key=[]
 rest:∀i p,2<=i->l[i]? = some p->keyB p.key=true∧zaG l p.par=true
theorem Stt.add {l:List PlV} (h:Stt l) (h2:2<=l.length) {q:PlV} (hg:zbi q=true∧idB q.idN q.idR=true) (hk:keyB q.key=true) (ht:zaG l q.par=true):Stt (l++[q]):=by
 have Aa:∀i p,(l++[q])[i]? = some p->(i<l.length∧l[i]? = some p)∨(i=l.length∧p=q):=fun i p hp=>by
  by_cases hi:i<l.length
  ·rw [List.getElem?_append_left hi]at hp
   exact .inl ⟨hi,hp⟩
  ·rw [List.getElem?_append_right (by omega)]at hp
   obtain⟨h1,h3⟩:=List.getElem?_eq_some_iff.1 hp
   have e:i=l.length:=by simp at h1;omega
   subst e
   exact .inr ⟨rfl,by simpa using h3.symm⟩
 refine⟨fun p hp=> ?_,fun i p hi hp=> ?_,fun i p hi hp=> ?_⟩
 ·rcases List.mem_append.1 hp with hp | hp
  ·exact h.gs p hp
  ·have e:p=q:=by simpa using hp
   rw [e];exact hg
 ·rcases Aa i p hp with ⟨_,e⟩ | ⟨e,_⟩
  ·exact h.top i p hi e
  ·omega
 ·rcases Aa i p hp with ⟨_,e⟩ | ⟨_,e⟩
  ·exact⟨(h.rest i p hi e).1,zgq (h.rest i p hi e).2⟩
  ·rw [e];exact⟨hk,zgq ht⟩
theorem ztR {n:Nat} {deep left:Int} {x:Tr (n+1)} (h:(okT (n+1) deep x left).1=true) (m:Nat) (i:IdV) (k:Nat):zbi (zaB m i x k)=true∧(x.kids≠[]->x.kind=0∧zaz x.name=false):=by
 rw [zbl]at h
 by_cases h1:left-1<0∨20<deep
 ·rw [if_pos h1]at h;cases h
 ·rw [if_neg h1]at h
  by_cases h2:x.kind=1
  ·rw [if_pos h2]at h
   obtain⟨a1,a2,a3,a4⟩:=(zaX x).1 h
   exact⟨(zvd (p:=zaB m i x k) h2).2 ⟨a1,a2,a4⟩,fun Aa=>absurd (List.length_eq_zero_iff.1 a3) Aa⟩
  ·rw [if_neg h2]at h
   by_cases h3:zaM x=true
   ·obtain⟨a1,a2,a3,a4,a5⟩:=(zba x).1 h3
    refine⟨(ziw (p:=zaB m i x k) a1).2 ⟨a2,a3,a4⟩,fun Aa=>⟨a1,?_⟩⟩
    cases hv:zaz x.name with
    | false=>rfl
    | true=>exact absurd ⟨(zbC _).1 hv,List.length_pos_iff.2 Aa⟩ a5
   ·rw [if_neg h3]at h;cases h
theorem zxB {k:Nat} (h:k+1<=999):keyB [(k:Int)+1]=true:=by
 unfold keyB
 simp [allB]
 omega
theorem zwM {m:Nat} (h:m<122):idB 0 (m:Int)=true:=by
 unfold idB
 simp
 omega
theorem zps:∀(n:Nat) (deep:Int) (ks:List (Tr n)) (left:Int) (i:IdV) (acc:List PlV),0<=left->(okK (okT n deep) ks left).1=true->Stt acc->2<=acc.length->SeedIds acc->(ks≠[]->zaG acc i=true)->(acc.length:Int)+left<=121->Stt (zau n i ks acc)∧∀id,zaG acc id=true->zaG (zau n i ks acc) id=true
 | 0,deep,ks,left,i,acc,h0,h,hS,h2,hI,ht,hl=>⟨hS,fun _ h=>h⟩
 | n+1,deep,ks,left,i,acc,h0,h,hS,h2,hI,ht,hl=>by
  have Ja:∀(f:Nd (Tr n)->Int->Bool×Int),(∀x left,f x left=okT (n+1) deep x left)->∀(ks:List (Nd (Tr n))) (k:Nat) (acc:List PlV) (left:Int),0<=left->(okK f ks left).1=true->Stt acc->2<=acc.length->SeedIds acc->(ks≠[]->zaG acc i=true)->(acc.length:Int)+left<=121->(k:Int)+left<=500->
    Stt ((ks.zipIdx k).foldl (zaV n i) acc)∧∀id,zaG acc id=true->zaG ((ks.zipIdx k).foldl (zaV n i) acc) id=true:=by
   intro f hf ks
   induction ks with
   | nil=>intro k acc left _ _ hS _ _ _ _ _;exact⟨hS,fun _ h=>h⟩
   | cons x r ih=>
    intro k acc left h0 h hS h2 hI ht hl hk
    have Fa:(f x left).1=true:=by
     cases hb:(f x left).1 with
     | true=>rfl
     | false=>simp [okK,hb]at h
    have e1:okK f (x::r) left=okK f r (f x left).2:=by simp [okK,Fa]
    rw [e1]at h
    have h1:(okT (n+1) deep x left).1=true:=by rw [<-hf];exact Fa
    have e3:=hf x left
    rw [e3]at h
    have hb:=zfa (n+1) deep x left h0
    obtain⟨p1,p2,p3,p4⟩:=zdM h1
    obtain⟨La,Ia⟩:=ztR h1 acc.length i k
    have Da:=ht (by simp)
    have hn:posP acc (zaB acc.length i x k).id=none:=hI.new
    have Pa:Stt (acc++[zaB acc.length i x k]):=hS.add h2 ⟨La,zwM (by omega)⟩ (zxB (by omega)) Da
    have Ga:SeedIds (acc++[zaB acc.length i x k]):=hI.snoc rfl rfl
    have Ma:posP (acc++[zaB acc.length i x k]) (0,(acc.length:Int))=some acc.length:=by
     have:=ziS (i:=(zaB acc.length i x k).id) hn
     rw [if_pos rfl]at this
     exact this
    have Ba:(acc++[zaB acc.length i x k]).length=acc.length+1:=by simp
    obtain⟨a1,a2⟩:=zps n (deep+1) x.kids (left-1) (0,(acc.length:Int)) (acc++[zaB acc.length i x k]) p2 p3 Pa (by omega) Ga (fun Oa=>by
     obtain⟨b1,b2⟩:=Ia Oa
     rw [zdI Ma (p:=zaB acc.length i x k) (by simp)]
     show (decide (x.kind=0) && !zaz x.name)=true
     rw [b1,b2];rfl) (by rw [Ba];omega)
    have Aa:=(zmg n (deep+1) x.kids (left-1) (0,(acc.length:Int)) (acc++[zaB acc.length i x k]) p2 p3).1
    have Na:SeedIds (zaV n i acc (x,k)):=SeedIds.K n _ _ _ Ga
    have Ha:acc.length+1<=(zaV n i acc (x,k)).length:=zhl n i acc (x,k)
    have Ca:((zaV n i acc (x,k)).length:Int)+(okT (n+1) deep x left).2=(acc.length:Int)+left:=by
     have e9:(zaV n i acc (x,k)).length=(zau n (0,(acc.length:Int)) x.kids (acc++[zaB acc.length i x k])).length:=rfl
     rw [e9,p4]
     rw [Ba]at Aa
     omega
    rw [List.zipIdx_cons,List.foldl_cons]
    obtain⟨c1,c2⟩:=ih (k+1) (zaV n i acc (x,k)) _ (hb.2.2 h1) h a1 (by omega) Na (fun _=>a2 _ (zgq Da)) (by omega) (by have:=Ha;omega)
    exact⟨c1,fun id Ka=>c2 id (a2 id (zgq Ka))⟩
  exact Ja (okT (n+1) deep) (fun _ _=>rfl) ks 0 acc left h0 h hS h2 hI ht hl (by omega)
theorem zxK {n:Nat} {t:Tr (n+1)} (h:okN n t=true) (hv:zaz t.name=false):Stt (zaL t)∧zaG (zaL t) (0,0)=true:=by
 obtain⟨hk,ho⟩:=Bool.and_eq_true_iff.1 (show (decide (t.kind=0) && (okT (n+1) 1 t 120).1)=true from h)
 have Ca:t.kind=0:=of_decide_eq_true hk
 have Aa:zaD t.name∧zat t.attrs:=by
  have h':=ho
  rw [zbl,if_neg (by omega),if_neg (by omega)]at h'
  by_cases h3:zaM t=true
  ·obtain⟨_,a2,_,a4,_⟩:=(zba t).1 h3
   exact⟨a2,a4⟩
  ·rw [if_neg h3]at h';cases h'
 have Ba:zbi zde=true:=(ziw (p:=zde) rfl).2 ⟨(ziQ _).1 (by decide),rfl,⟨Nat.zero_le _,fun i hi=>by cases hi⟩⟩
 refine⟨⟨fun p hp=> ?_,fun i p hi hp=> ?_,fun i p hi hp=> ?_⟩,?_⟩
 ·simp [zaL]at hp
  rcases hp with rfl | rfl
  ·exact⟨(ziw (p:=zgu t) rfl).2 ⟨Aa.1,rfl,Aa.2⟩,by show idB 0 0=true;decide⟩
  ·exact⟨Ba,by show idB 0 1=true;decide⟩
 ·match i,hi with
  | 0,_=>simp [zaL]at hp;rw [<-hp];exact⟨rfl,hv,rfl,rfl⟩
  | 1,_=>simp [zaL]at hp;rw [<-hp];exact⟨rfl,by decide,rfl,rfl⟩
 ·have:=(List.getElem?_eq_some_iff.1 hp).1
  simp [zaL]at this
  omega
 ·have hp:posP (zaL t) (0,0)=some 0:=posP_some.2 ⟨by simp [zaL],rfl,fun j hj=>by omega⟩
  rw [zdI hp (p:=zgu t) rfl]
  show (decide ((0:Int)=0) && !zaz t.name)=true
  rw [hv];rfl
theorem zuF {n:Nat} {t:Tr (n+1)} (h:okN n t=true) (hv:zaz t.name=false):Stt (zhB t):=by
 obtain⟨hk,ht⟩:=Bool.and_eq_true_iff.1 (show (decide (t.kind=0) && (okT (n+1) 1 t 120).1)=true from h)
 obtain⟨p1,p2,p3,p4⟩:=zdM ht
 obtain⟨b1,b2⟩:=zxK h hv
 have hl:(zaL t).length=2:=rfl
 exact (zps n 2 t.kids (120-1) (0,0) (zaL t) p2 p3 b1 (by omega) (zhE t) (fun _=>b2) (by rw [hl];omega)).1
theorem zka {l:List PlV} (hF:Fr l) {rk:IdV->Nat} (hr:∀i p,2<=i->l[i]? = some p->rk p.par<rk p.id):∀(n:Nat) (i o:IdV),zaK l n i o=true->rk o<=rk i
 | 0,i,o,h=>by cases h
 | n+1,i,o,h=>by
  unfold zaK at h
  by_cases e:i=o
  ·rw [e];exact Nat.le_refl _
  ·rw [if_neg e]at h
   by_cases et:i=zaH∨i=zaw
   ·rw [if_pos et]at h;cases h
   ·rw [if_neg et]at h
    cases hp:posP l i with
    | none=>rw [hp]at h;cases h
    | some k=>
     rw [hp]at h
     obtain⟨p,hk,Aa⟩:=zdg hp
     simp only [hk]at h
     have h1:=zka hF hr n p.par o h
     by_cases h2:2<=k
     ·have:=hr k p h2 hk
      rw [Aa]at this
      omega
     ·have:k=0∨k=1:=by omega
      rcases this with rfl | rfl
      ·exact absurd (.inl (Aa.symm.trans (hF.root p hk))) et
      ·exact absurd (.inr (Aa.symm.trans (hF.trash p hk))) et
theorem zAv {l:List PlV} (hF:Fr l) (hS:Stt l) (hlen:l.length<=272):stB l=true:=by
 obtain⟨rk,Ba⟩:=hF.rank
 have hW:FrW l:=⟨hF.two,hF.root,hF.trash,hF.uniq,hF.par⟩
 have Aa:=hW.free.1 (fun i p hi hp=>by
  cases hw:zaK l l.length p.par p.id with
  | false=>rfl
  | true=>
   have h1:=zka hF Ba _ _ _ hw
   have h2:=Ba i p hi hp
   omega)
 unfold stB
 have h2:=hF.two
 rw [decide_eq_true h2,decide_eq_true (show l.length<=272 by omega),(zeD (by omega)).2 hF.root,(zeD (by omega)).2 hF.trash,(zaZ l _).2 (fun i p hp=> ?_)]
 ·rfl
 ·unfold zcY
  have hg:=hS.gs p (List.mem_of_getElem? hp)
  rw [hg.1,hg.2,zdf hF.uniq hp,decide_eq_true rfl]
  by_cases hi:i<2
  ·rw [if_pos hi]
   obtain⟨a1,a2,a3,a4⟩:=hS.top i p hi hp
   unfold topB
   rw [decide_eq_true a1,a2,(zho p).2 a3,a4]
   rfl
  ·rw [if_neg hi]
   obtain⟨a1,a2⟩:=hS.rest i p (by omega) hp
   unfold zjc
   rw [a1,a2,Aa i p (by omega) hp]
   rfl
theorem zyz {n:Nat} {t:Tr (n+1)} (h:okN n t=true) (hv:zaz t.name=false):stB (zhB t)=true:=by
 have hA:=zqy h
 have hl:=hA.len
 exact zAv hA.fr (zuF h hv) (by simp at hl;omega)
end Go.Proofs.YtgjolijncmkkhaaGreatDoor
namespace Go.Proofs.YtgjolijncmkkhaaGreatDoor
set_option linter.unusedVariables false
set_option maxRecDepth 100000
theorem zdV {l:List PlV} (h:stB l=true):∀i p,l[i]? = some p->zbi p=true∧posP l p.id=some i∧(2<=i->zaG l p.par=true):=fun i p hp=>by
 unfold stB at h
 simp only [Bool.and_eq_true,zaZ]at h
 have h1:=h.2 i p hp
 unfold zcY at h1
 simp only [Bool.and_eq_true,decide_eq_true_eq]at h1
 refine⟨h1.1.1.1,h1.1.2,fun hi=> ?_⟩
 have h2:=h1.2
 rw [if_neg (by omega)]at h2
 unfold zjc at h2
 simp only [Bool.and_eq_true]at h2
 exact h2.1.2
theorem zzr {l:List PlV} (h:stB l=true) {k:Nat} {p:PlV} (hp:l[k]? = some p) (hne:zay l p.id≠[]):p.kind=0∧zaz p.name=false:=by
 have hu:=(ztI h).1.uniq
 obtain⟨j,hj⟩:=List.exists_mem_of_ne_nil _ hne
 obtain⟨j1,j2,j3⟩:=zpA hu hj
 have hq:l[j]? = some l[j]:=by simp [j2]
 unfold zcs at j3
 rw [hq]at j3
 have Aa:l[j].par=p.id:=of_decide_eq_true j3
 have ht:=(zdV h j _ hq).2.2 j1
 rw [Aa,zdI (zdV h k p hp).2.1 hp]at ht
 unfold zlq at ht
 simp only [Bool.and_eq_true,decide_eq_true_eq,Bool.not_eq_true']at ht
 exact ht
theorem zoG {α:Type} (f:Nat->Int->α×Int) (g:α->Int->Bool×Int):∀(ks:Xh) (hg:∀k∈ks,∀left,0<left->g (f k left).1 left=(true,(f k left).2)) (acc:List α) (left:Int),∃new,(prjK f ks acc left).1=acc++new∧okK g new left=(true,(prjK f ks acc left).2)
 | [],hg,acc,left=>⟨[],by simp [prjK],by simp [prjK,okK]⟩
 | k::ks,hg,acc,left=>by
  unfold prjK
  by_cases h0:left<=0
  ·rw [if_pos h0];exact⟨[],by simp,by simp [okK]⟩
  ·rw [if_neg h0]
   obtain⟨new,h1,h2⟩:=zoG f g ks (fun k hk=>hg k (by simp [hk])) (acc++[(f k left).1]) (f k left).2
   have h3:=hg k (by simp) left (by omega)
   refine⟨(f k left).1::new,by rw [h1];simp,?_⟩
   simp only [okK,h3,if_true]
   exact h2
theorem znZ {α:Type} {p:PlV} (h:zbi p=true) {ks:List α} (hk:ks≠[]->p.kind=0∧zaz p.name=false):(p.kind=1->zaY (⟨p.kind,p.name,p.text,p.attrs,ks⟩:Nd α)=true)∧(p.kind≠1->zaM (⟨p.kind,p.name,p.text,p.attrs,ks⟩:Nd α)=true):=by
 unfold zbi at h
 rw [zbl,if_neg (by omega)]at h
 by_cases h1:(zaN p).kind=1
 ·rw [if_pos h1]at h
  have hl:=(zaX (zaN p:Nd (Tr 0))).1 h
  have Ba:p.kind=1:=h1
  refine⟨fun _=>(zaX _).2 ⟨hl.1,hl.2.1,?_,hl.2.2.2⟩,fun e=>absurd h1 e⟩
  cases ks with
  | nil=>rfl
  | cons x r=>have:=(hk (by simp)).1;omega
 ·rw [if_neg h1]at h
  by_cases h2:zaM (zaN p:Nd (Tr 0))=true
  ·obtain⟨a1,a2,a3,a4,_⟩:=(zba (zaN p:Nd (Tr 0))).1 h2
   refine⟨fun e=>absurd e h1,fun _=>(zba _).2 ⟨a1,a2,a3,a4,fun e=> ?_⟩⟩
   have Aa:ks≠[]:=by
    intro e2
    have h9:0<ks.length:=e.2
    rw [e2]at h9
    simp at h9
   have hv:=(hk Aa).2
   rw [(zbC _).2 e.1]at hv
   cases hv
  ·rw [if_neg h2]at h;cases h
theorem zAe {n:Nat} (x:Tr (n+1)) {deep left r:Int} (h1:x.kind=1->zaY x=true) (h2:x.kind≠1->zaM x=true) (h0:0<left) (hd:deep<=20) (ho:okK (okT n (deep+1)) x.kids (left-1)=(true,r)):okT (n+1) deep x left=(true,r):=by
 rw [zbl,if_neg (by omega)]
 by_cases e:x.kind=1
 ·have hl:=h1 e
  have Aa:x.kids=[]:=List.length_eq_zero_iff.1 ((zaX x).1 hl).2.2.1
  rw [Aa]at ho
  have e2:left-1=r:=congrArg Prod.snd ho
  rw [if_pos e,hl,e2]
 ·rw [if_neg e,if_pos (h2 e)]
  exact ho
theorem zoU {n:Nat} {p:PlV} (h:zbi p=true) {ks:List (Tr n)} (hk:ks≠[]->p.kind=0∧zaz p.name=false) {deep left r:Int} (h0:0<left) (hd:deep<=20) (ho:okK (okT n (deep+1)) ks (left-1)=(true,r)):okT (n+1) deep ((⟨p.kind,p.name,p.text,p.attrs,ks⟩:Nd (Tr n)):Tr (n+1)) left=(true,r):=
 zAe _ (znZ h hk).1 (znZ h hk).2 h0 hd ho
theorem zuC {l:List PlV} (hs:stB l=true):∀(m k:Nat) (p:PlV) (left deep:Int),l[k]? = some p->0<left->deep+(m:Int)=20->okT (m+1) deep (prj l m k left).1 left=(true,(prj l m k left).2)
 | 0,k,p,left,deep,hp,h0,hd=>by
  rw [zoE hp]
  exact zoU (n:=0) (zdV hs k p hp).1 (ks:=[]) (fun e=>absurd rfl e) h0 (by omega) rfl
 | m+1,k,p,left,deep,hp,h0,hd=>by
  have hu:=(ztI hs).1.uniq
  obtain⟨new,h1,h2⟩:=zoG (prj l m) (okT (m+1) (deep+1)) (zay l p.id) (fun j hj Aa hl=>by
   obtain⟨_,j2,_⟩:=zpA hu hj
   exact zuC hs m j l[j] Aa (deep+1) (by simp [j2]) hl (by omega)) [] (left-1)
  rw [List.nil_append]at h1
  have e0:=zfI (m:=m) hp left
  have e1:(prj l (m+1) k left).2=(prjK (prj l m) (zay l p.id) [] (left-1)).2:=congrArg Prod.snd e0
  have e2:(prj l (m+1) k left).1=((⟨p.kind,p.name,p.text,p.attrs,new⟩:Nd (Tr (m+1))):Tr (m+2)):=(congrArg Prod.fst e0).trans (congrArg (fun x:List (Tr (m+1))=>((⟨p.kind,p.name,p.text,p.attrs,x⟩:Nd (Tr (m+1))):Tr (m+2))) h1)
  rw [e1,e2]
  exact zoU (n:=m+1) (zdV hs k p hp).1 (fun Ba=>zzr hs hp (fun e=>Ba (by
   rw [e]at h1
   exact h1.symm))) h0 (by omega) h2
theorem zuh {l:List PlV} (hs:stB l=true):okN 19 (prj l 19 0 120).1=true:=by
 have hF:=(ztI hs).1
 have h2:=hF.two
 have hp:l[0]? = some l[0]:=by simp [show 0<l.length by omega]
 have h1:=zuC hs 19 0 l[0] 120 1 hp (by omega) (by decide)
 have hk:(prj l 19 0 120).1.kind=0:=by
  have e0:=zfI (m:=18) hp 120
  have e2:(prj l 19 0 120).1.kind=l[0].kind:=by
   have:=congrArg (fun x:Tr 20×Int=>x.1.kind) e0
   exact this
  rw [e2]
  have h3:=hs
  unfold stB at h3
  simp only [Bool.and_eq_true,zaZ]at h3
  have h4:=h3.2 0 _ hp
  unfold zcY at h4
  simp only [Bool.and_eq_true]at h4
  have h5:=h4.2
  rw [if_pos (by omega)]at h5
  unfold topB at h5
  simp only [Bool.and_eq_true,decide_eq_true_eq]at h5
  exact h5.1.1.1
 show (decide ((prj l 19 0 120).1.kind=0) && (okT 20 1 (prj l 19 0 120).1 120).1)=true
 rw [decide_eq_true hk,Bool.true_and]
 exact congrArg Prod.fst h1
end Go.Proofs.YtgjolijncmkkhaaGreatDoor
namespace Go.Proofs.YtgjolijncmkkhaaGreatDoor
open Go.RowKit
set_option linter.unusedVariables false
set_option maxRecDepth 100000
def zAw (C:Xj) (x:Int×Int):Prop:=C=[.int .i64 x.1,.int .i64 x.2]
def RdIds (w:Xk) (v:Xl) (l:List (Int×Int)):Prop:=Elems w 2 v l zAw
theorem RdIds.cases {w:Xk} {v:Xl} {l:List (Int×Int)} (h:RdIds w v l):(l=[]∧∃a cap,v=.slice a 0 cap)∨(∃b off cap,v=.slice (some ⟨b,off,none⟩) l.length cap∧l≠[]∧b<w.heap.size∧∀i (hi:i<l.length),w.cell? ⟨b,off+i*2,none⟩=some (.int .i64 l[i].1)∧w.cell? ⟨b,off+i*2+1,none⟩=some (.int .i64 l[i].2)):=by
 obtain⟨_,⟨rfl,rfl⟩ | ⟨x,cap,rfl,hc,rfl⟩ | ⟨b,off,cap,rfl,g1,g2,g3,g4,g5⟩⟩:=h
 ·exact .inl ⟨rfl,_,_,rfl⟩
 ·exact .inl ⟨rfl,_,_,rfl⟩
 ·refine .inr ⟨b,off,cap,rfl,g3,g4,fun i hi=> ?_⟩
  obtain⟨c0,c1,h0,h1,hr⟩:=ziZ (g5 i hi)
  cases hr
  exact⟨h0,h1⟩
def docT {n:Nat} (t:Tr (n+1)) (ops:List OpV):Tr 20:=(prj (zbG t ops) 19 0 120).1
theorem zvx {l:List PlV} (h:stB l=true):∀p∈l,(-9223372036854775808<=p.kind∧p.kind<=9223372036854775807)∧okI p.id∧okI p.par:=by
 have Aa:∀p∈l,okI p.id:=fun p hp=>by
  obtain⟨i,hi,rfl⟩:=List.getElem_of_mem hp
  have h1:=h
  unfold stB at h1
  simp only [Bool.and_eq_true,zaZ]at h1
  have h2:=h1.2 i l[i] (by simp [hi])
  unfold zcY at h2
  simp only [Bool.and_eq_true]at h2
  exact zuq h2.1.1.2
 intro p hp
 refine⟨?_,Aa p hp,?_⟩
 ·obtain⟨i,hi,rfl⟩:=List.getElem_of_mem hp
  rcases zuz (zdV h i l[i] (by simp [hi])).1 with e | e<;>(rw [e];omega)
 ·obtain⟨i,hi,rfl⟩:=List.getElem_of_mem hp
  have Ba:l[i]? = some l[i]:=by simp [hi]
  by_cases h2:2<=i
  ·obtain⟨j,hj⟩:=zdk ((zdV h i _ Ba).2.2 h2)
   obtain⟨q,hq,Ca⟩:=zdg hj
   rw [<-Ca]
   exact Aa q (List.mem_of_getElem? hq)
  ·have h1:=h
   unfold stB at h1
   simp only [Bool.and_eq_true,zaZ]at h1
   have h3:=h1.2 i l[i] Ba
   unfold zcY at h3
   simp only [Bool.and_eq_true]at h3
   have h4:=h3.2
   rw [if_pos (by omega)]at h4
   unfold topB at h4
   simp only [Bool.and_eq_true]at h4
   rw [(zho _).1 h4.1.2]
   exact zuq (by decide)
theorem zdw {n:Nat} {id:Int} {t:Tr (n+1)} (h:zbw n id t=true):okN n t=true∧zaz t.name=false:=by
 unfold zbw zll at h
 simp only [Bool.and_eq_true,Bool.not_eq_true']at h
 exact⟨h.2.1,h.2.2⟩
theorem zoW {n:Nat} {id:Int} {t:Tr (n+1)} (h:zbw n id t=true):stB (zbG t [])=true:=zyz (zdw h).1 (zdw h).2
theorem zyN {l:List PlV} (h:stB l=true):(l.map PlV.id).Nodup:=zdv fun i p hp=>by
 unfold stB at h
 simp only [Bool.and_eq_true,zaZ]at h
 have h2:=h.2 i p hp
 unfold zcY at h2
 simp only [Bool.and_eq_true]at h2
 exact of_decide_eq_true h2.1.2
theorem zyy {n:Nat} {id:Int} {t:Tr (n+1)} (h:zbw n id t=true):mkup 20 (docT t [])=mkup (n+1) t:=zvH (zyN (zoW h)) (zdw h).1
set_option maxHeartbeats 6400000 in
theorem zxL (n:Nat) (w:Xk) (id:Int) (t:Tr (n+1)) (p1 p2 p3 p4:Xi) (q1 q2 q3 q4:Nat) (h1:RdNode (n+1) w [.int .i64 t.kind,.slice p1 t.name.length q1,.slice p2 t.text.length q2,.slice p3 t.attrs.length q3,.slice p4 t.kids.length q4] t) (hsz:szT (n+1) t<=2097152) (hG:Glo w) (hs:zbw n id t=true) :
  Calls Tryz.prog 21 #[.agg #[.int .i64 id,.int .i64 0,.int .i64 t.kind,.slice p1 t.name.length q1,.slice p2 t.text.length q2,.slice p3 t.attrs.length q3,.slice p4 t.kids.length q4,.slice none 0 0,.slice none 0 0,.bool false]] w fun e w'=>∃v,e=.returned (.tuple #[v,.bool true])∧Own w' w.heap.size v (mkup (n+1) t)∧Below w.heap.size w w':=by
 refine zaF ?_
 intro Q HQ
 have hA:=(Below.refl w.heap.size w).alloc (Nat.le_refl _) (.cells #[.int .i64 id,.int .i64 0,.int .i64 t.kind,.slice p1 t.name.length q1,.slice p2 t.text.length q2,.slice p3 t.attrs.length q3,.slice p4 t.kids.length q4,.slice none 0 0,.slice none 0 0,.bool false] 42)
 have l0:=Loc.made w #[.int .i64 id,.int .i64 0,.int .i64 t.kind,.slice p1 t.name.length q1,.slice p2 t.text.length q2,.slice p3 t.attrs.length q3,.slice p4 t.kids.length q4,.slice none 0 0,.slice none 0 0,.bool false] 42
 have HR:=hide (zoV n _ id _ p1 p2 p3 p4 _ _ _ _ q1 q2 q3 q4 t (h1.keep hA) hsz)
 rw [hs]at HR
 have HF:=hide (fun W (hW:Below w.heap.size w W)=>(show Calls Tryz.prog 42 #[.agg #[.int .i64 t.kind,.slice p1 t.name.length q1,.slice p2 t.text.length q2,.slice p3 t.attrs.length q3,.slice p4 t.kids.length q4],.slice none 0 0] W fun e w'=>FoRM W true (zbG t []) e w' by
  obtain⟨g1,g2⟩:=zdw hs
  have hB:zeG t []=true:=by unfold zeG;rw [g1,g2];rfl
  have hR:zfi t []=zbG t []:=by unfold zfi;rw [if_pos hB]
  have hc:=ztk n W t p1 p2 p3 p4 none q1 q2 q3 q4 0 [] (h1.keep hW) ⟨by simp,.inl ⟨rfl,rfl⟩⟩ hsz (hG.keep hW) rfl
  rw [hB,hR]at hc
  exact hc))
 have Aa:=zoW hs
 have HP:=hide (fun W a c F (ho:OwPlsM W (.slice a (zbG t []).length c) (zbG t []) F) (hW:Below w.heap.size w W)=>zyb W a c (zbG t []) (OwPlsM.rd ho) (fun p hp=>(zvx Aa p hp).1) (fun p hp=>(zvx Aa p hp).2) (hG.keep hW))
 have Va:=hide (show zky 19 (docT t [])=mkup (n+1) t from (if_pos (zuh Aa)).trans (zyy hs))
 have Xa:=hide (show szT 20 (docT t [])<=24120 by
  have:=zAl (zbG t [])
  rw [zjH Aa]at this
  exact this)
 have Wa:=hide (show pjR (zbG t [])=docT t [] from zjH Aa)
 have Ua:=hide Aa
 obtain⟨x0,x1,x2,x3,x4,x5,x6,x7,x8,x9⟩:=l0.tenA
 have HX:=hide (And.intro hA l0)
 clear hA l0 h1 hsz hG Aa hs
 generalize docT t []=tt at *
 generalize zbG t []=fl at *
 generalize mkup (n+1) t=dd at *
 generalize t.kind=zk at *
 generalize t.name.length=z1 at *
 generalize t.text.length=z2 at *
 generalize t.attrs.length=z3 at *
 generalize t.kids.length=z4 at *
 go_enter Tryz.func21,Tryz.ntmps21
 go_wp2_with fail
 clear x0 x1 x2 x3 x4 x5 x6 x7 x8 x9
 refine (zaa HR).mono ?_
 rintro e w2 ⟨rfl,Ga⟩
 obtain⟨hA,l0⟩:=zaa HX
 have Ka:=zam hA Ga
 have l2:=l0.all Ga
 clear HR HX hA l0 Ga
 obtain⟨x0,x1,x2,x3,x4,x5,x6,x7,x8,x9⟩:=l2.tenA
 have HB:=hide Ka
 clear Ka l2
 go_wp2_with fail
 refine (zaa HF w2 (zaa HB)).mono ?_
 rintro e w3 ⟨a3,c3,F3,rfl,o3,-,-,Ia⟩
 have Pa:=zam (zaa HB) Ia
 have lS:=Loc.made w3 #[.slice a3 fl.length c3] 107
 have Ha:Below w3.heap.size w3 (w3.alloc (.cells #[.slice a3 fl.length c3] 107)):=(Below.refl _ _).alloc (Nat.le_refl _) _
 have Ca:=zam Pa Ha
 have o4:=OwPlsM.frm o3 (Frm.ofBelow Ha []) (fun _ _=>by simp)
 have xs:=lS.cell 0
 simp only [List.getElem?_toArray,List.getElem?_cons_zero]at xs
 have HC:=hide (zaa HP _ a3 c3 F3 o4 Ca)
 have Ja:=hide Ca
 clear Pa lS Ha Ca o3 o4 Ia HF HP HB x0 x1 x2 x3 x4 x5 x6 x7 x8 x9
 go_wp2_with fail
 clear xs
 refine (zaa HC).mono ?_
 rintro e w5 ⟨kd,a1,n1,c1,a2,n2,c2,Na,n3,Ra,a4,n4,c4,rfl,G,Da,Ya,rG,Ma⟩
 rw [zaa Wa]at Da
 rw [zaa Ua]
 have Qa:=zam (zaa Ja) Ma
 have lN:=Loc.made w5 #[.int .i64 kd,.slice a1 n1 c1,.slice a2 n2 c2,.slice Na n3 Ra,.slice a4 n4 c4] 29
 have Fa:Below w5.heap.size w5 (w5.alloc (.cells #[.int .i64 kd,.slice a1 n1 c1,.slice a2 n2 c2,.slice Na n3 Ra,.slice a4 n4 c4] 29)):=(Below.refl _ _).alloc (Nat.le_refl _) _
 have Oa:=zam Qa Fa
 have o6:=OwNode.keep Da Fa
 obtain⟨y0,y1,y2,y3,y4⟩:=lN.five
 have HM:=hide (zrf 19 _ _ _ _ _ _ tt G o6 (Nat.le_trans (zaa Xa) (by omega)))
 have Sa:=hide Oa
 clear Qa lN Fa Oa Da o6 Ya rG Ma HC Ja
 go_wp2_with fail
 clear y0 y1 y2 y3 y4
 refine (zaa HM).mono ?_
 rintro e w7 ⟨v,rfl,ho,La⟩
 rw [zaa Va]at ho
 have Ba:=zaa Sa
 obtain⟨a5,c5,Ta,_,_⟩:=ho.byt.shape
 subst Ta
 have HE:=hide (zaa HQ (.returned (.tuple #[.slice a5 dd.length c5,.bool true])) w7 ⟨_,rfl,ho.mono Ba.size,zam Ba La⟩)
 clear ho La Ba HM Sa
 go_wp2_with fail
 exact zaa HE
set_option maxHeartbeats 1600000 in
theorem zwu (w:Xk) (u v:Xl) (a b:Xg) (hu:Byt w u a) (hv:Byt w v b) :
  Calls Tryz.prog 23 #[u,v] w fun e w'=>e=.returned (.bool (decide (a=b)))∧w'=w:=by
 have c1:=zbk w u a hu
 have c2:=zbk w v b hv
 have HE:=hide (zmr hu.1 hv.1)
 obtain⟨a1,k1,rfl,_⟩:=hu.shape
 obtain⟨a2,k2,rfl,_⟩:=hv.shape
 generalize str a=s at *
 generalize str b=t at *
 go_enter Tryz.func23,Tryz.ntmps23
 go_wp2
 go_ret
 exact⟨by rw [<-zaa HE];rfl,rfl⟩
theorem rd5s {n:Nat} {w:Xk} {k:Int} {a1 a2 a3 a4:Xi} {n1 n2 n3 n4 c1 c2 c3 c4:Nat} {t:Tr (n+1)} (h:RdNode (n+1) w [.int .i64 k,.slice a1 n1 c1,.slice a2 n2 c2,.slice a3 n3 c3,.slice a4 n4 c4] t):k=t.kind∧n1=t.name.length∧n2=t.text.length∧n3=t.attrs.length∧n4=t.kids.length:=by
 obtain⟨_,_,_,_,e0,_,_,hb,hc,hd,he⟩:=h
 simp only [List.cons.injEq,and_true]at e0
 obtain⟨e,rfl,rfl,rfl,rfl⟩:=e0
 obtain⟨_,_,e1,_,_⟩:=hb.shape
 obtain⟨_,_,e2,_,_⟩:=hc.shape
 obtain⟨_,_,e3,_,_⟩:=Elems.shape hd
 obtain⟨_,_,e4,_,_⟩:=Elems.shape he
 cases e
 injection e1 with _ e1 _
 injection e2 with _ e2 _
 injection e3 with _ e3 _
 injection e4 with _ e4 _
 exact⟨rfl,e1,e2,e3,e4⟩
set_option maxHeartbeats 6400000 in
theorem zsU (hbent:zpl) (hal:∀w,Glo w->Calls Tryz.prog 8 #[] w fun e w'=>e=.returned (.bool true)∧Below w.heap.size w w') (w:Xk) (code:Xl) (l:Xg) (h:Byt w code l) (hG:Glo w) :
  Calls Tryz.prog 6 #[code] w fun e w'=>e=.returned (.bool true)∧Below w.heap.size w w':=by
 have HD:=hide (zob hbent w code l h)
 obtain⟨a0,c0,rfl,_,_⟩:=h.shape
 clear h
 go_enter Tryz.func6,Tryz.ntmps6
 go_wp2_with fail
 refine (zaa HD).mono ?_
 rintro e w1 ⟨id,kd,a1,n1,c1,a2,n2,c2,a3,n3,c3,a4,n4,c4,rfl,⟨n,t,hr,fa⟩,Ja⟩
 clear HD
 cases n with
 | zero=>exact hr.elim
 | succ n=>
 obtain⟨rfl,rfl,rfl,rfl,rfl⟩:=rd5s hr
 have hA:=(Below.refl w1.heap.size w1).alloc (Nat.le_refl _) (.cells #[.int .i64 t.kind,.slice a1 t.name.length c1,.slice a2 t.text.length c2,.slice a3 t.attrs.length c3,.slice a4 t.kids.length c4] 29)
 have lb:=Loc.made w1 #[.int .i64 t.kind,.slice a1 t.name.length c1,.slice a2 t.text.length c2,.slice a3 t.attrs.length c3,.slice a4 t.kids.length c4] 29
 have HS:=hide (zrd n _ id _ _ _ _ _ t (hr.keep hA) (by omega))
 have HL:=hide (And.intro hr (And.intro Ja (And.intro hA lb)))
 clear hr Ja hA lb
 go_wp2_with fail
 refine (zaa HS).mono ?_
 rintro e w2 ⟨zk,pk,ea,Wa,qk,da,Ra,rk,ba,Qa,uk,ca,Sa,rfl,F,hO,-,-,Na⟩
 obtain⟨hr,Ja,hA,lb⟩:=zaa HL
 have Aa:=zam (zam Ja hA) Na
 have Ua:=(hr.keep hA).keep Na
 have Da:=lb.all Na
 have hO:=hO.rd
 have La:=hG.keep Aa
 clear HS HL hr Ja hA Na lb hG
 cases hs:zbw n id t with
 | false=>
  rw [zvC hs]at hO
  rw [zuZ hs]
  obtain⟨rfl,rfl,rfl,rfl,rfl⟩:=rd5s hO
  have Ba:=(Below.refl w2.heap.size w2).alloc (Nat.le_refl _) (.cells #[.int .i64 0,.int .i64 0,.int .i64 0,.slice pk 0 Wa,.slice qk 0 Ra,.slice rk 0 Qa,.slice uk 0 Sa,.slice none 0 0,.slice none 0 0,.bool false] 42)
  have Ia:=zam Aa Ba
  have HA:=hide (hal _ (La.keep Ba))
  have HB:=hide Ia
  clear Ba Ia Aa Ua Da hO La hs
  go_wp2_with fail
  refine (zaa HA).mono ?_
  rintro e w4 ⟨rfl,Ha⟩
  have Pa:=zam (zaa HB) Ha
  clear HA HB Ha
  go_wp2_with fail
  go_ret
  exact⟨rfl,Pa⟩
 | true=>
  rw [zrD hs]at hO
  rw [zsd hs]
  obtain⟨rfl,rfl,rfl,rfl,rfl⟩:=rd5s hO
  have Ba:=(Below.refl w2.heap.size w2).alloc (Nat.le_refl _) (.cells #[.int .i64 id,.int .i64 0,.int .i64 t.kind,.slice pk t.name.length Wa,.slice qk t.text.length Ra,.slice rk t.attrs.length Qa,.slice uk t.kids.length Sa,.slice none 0 0,.slice none 0 0,.bool false] 42)
  have l3:=Loc.made w2 #[.int .i64 id,.int .i64 0,.int .i64 t.kind,.slice pk t.name.length Wa,.slice qk t.text.length Ra,.slice rk t.attrs.length Qa,.slice uk t.kids.length Sa,.slice none 0 0,.slice none 0 0,.bool false] 42
  have Ka:=hide (zxL n _ id t _ _ _ _ _ _ _ _ (hO.keep Ba) (by omega) (La.keep Ba) hs)
  have HR:=hide (fun W (hW:Below w2.heap.size w2 W)=>zoV n W id _ _ _ _ _ _ _ _ _ _ _ _ _ t (hO.keep hW) (by omega))
  have HM:=hide (fun W (hW:Below w2.heap.size w2 W)=>zqM n W _ _ _ _ _ t (Ua.keep hW) (by have:=zkC (n+1) t;omega))
  rw [hs]at HR
  rw [if_pos (zdw hs).1]at HM
  have HB:=hide (And.intro Aa (And.intro Ba (And.intro Da l3)))
  clear Ba Aa Ua Da hO La hs l3
  generalize mkup (n+1) t=mk at *
  go_wp2_with fail
  refine (zaa Ka).mono ?_
  rintro e w4 ⟨v,rfl,ho,Ha⟩
  obtain⟨Aa,Ba,Da,l3⟩:=zaa HB
  have Ca:=zam Ba Ha
  have l4:=l3.all Ha
  have Fa:=Da.all Ca
  obtain⟨y0,y1,y2,y3,y4⟩:=zdo Fa
  have r0:=l4.cell 0
  have r1:=l4.cell 1
  have r2:=l4.cell 2
  have r3:=l4.cell 3
  have r4:=l4.cell 4
  have r5:=l4.cell 5
  have r6:=l4.cell 6
  have r7:=l4.cell 7
  have r8:=l4.cell 8
  have r9:=l4.cell 9
  simp at r0 r1 r2 r3 r4 r5 r6 r7 r8 r9
  have aa:=hide (zaa HR w4 Ca)
  have HX:=hide (And.intro Aa (And.intro Ca (And.intro Fa ho)))
  clear Ka HB HR Aa Ba Da l3 Ca l4 Fa ho Ha
  go_wp2_with fail
  refine (zaa aa).mono ?_
  rintro e w5 ⟨rfl,Ma⟩
  obtain⟨Aa,Ca,Fa,ho⟩:=zaa HX
  have Ga:=zam Ca Ma
  obtain⟨y0,y1,y2,y3,y4⟩:=zdo (Fa.all Ma)
  have Xa:=hide (zaa HM w5 Ga)
  have HX:=hide (And.intro Aa (And.intro Ga (ho.keep Ma)))
  clear aa HM Aa Ca Fa ho Ga Ma r0 r1 r2 r3 r4 r5 r6 r7 r8 r9
  go_wp2_with fail
  refine (zaa Xa).mono ?_
  rintro e w6 ⟨v2,rfl,Ya,Va⟩
  obtain⟨Aa,Ga,ho⟩:=zaa HX
  have Oa:=zam Aa (zam Ga Va)
  have Ta:=zwu w6 v v2 mk mk (ho.keep Va).byt Ya.byt
  rw [decide_eq_true (rfl:mk=mk)]at Ta
  have Za:=hide Ta
  clear Ta
  clear Xa HX Aa Ga ho Ya Va y0 y1 y2 y3 y4
  go_wp2_with fail
  refine (zaa Za).mono ?_
  rintro e w7 ⟨rfl,rfl⟩
  clear Za
  go_wp2_with fail
  go_ret
  exact⟨rfl,Oa⟩
end Go.Proofs.YtgjolijncmkkhaaGreatDoor
