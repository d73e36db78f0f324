/- Own texts joined: TrI, FqG, FqW, TpI, KeyI, OtI, PjP. -/
import Derived.Test.YtgjolijncmkkhaaGreatDoorJa
import Derived.Test.YtgjolijncmkkhaaGreatDoorJo
import Derived.Test.YtgjolijncmkkhaaGreatDoorJp
import Derived.Test.YtgjolijncmkkhaaGreatDoorJq
import Derived.Test.YtgjolijncmkkhaaGreatDoorJr
import Derived.Test.YtgjolijncmkkhaaGreatDoorJv
import Derived.Test.YtgjolijncmkkhaaGreatDoorJw
import Derived.Deep.RegionLaw
import Derived.Deep.RegionHeld3
import Derived.Deep.QuietTactic
import Derived.BigQuiet
import Derived.WalkMore
import Derived.Test.YtgjolijncmkkhaaGreatDoorChecked
namespace Go.Proofs.YtgjolijncmkkhaaGreatDoor
open Go.RowKit Go.Shelf
set_option linter.unusedVariables false
set_option maxRecDepth 100000
theorem PlsQ.at {w0 w:Xk} {gr c:Nat} {l:List PlV} {F:Xh} (h:PlsQ w0 w (.slice (some ⟨gr,0,none⟩) l.length c) l F) {k:Nat} (hk:k<l.length) :
  ∃(k1:Xi) (ck:Nat) (n1:Xi) (cn:Nat) (t1:Xi) (ct:Nat) (a1:Xi) (ca:Nat),w.cell? ⟨gr,k*9,none⟩=some (.int .i64 l[k].idN)∧w.cell? ⟨gr,k*9+1,none⟩=some (.int .i64 l[k].idR)∧w.cell? ⟨gr,k*9+2,none⟩=some (.int .i64 l[k].parN)∧w.cell? ⟨gr,k*9+3,none⟩=some (.int .i64 l[k].parR)∧w.cell? ⟨gr,k*9+4,none⟩=some (.slice k1 l[k].key.length ck)∧w.cell? ⟨gr,k*9+5,none⟩=some (.int .i64 l[k].kind)∧w.cell? ⟨gr,k*9+6,none⟩=some (.slice n1 l[k].name.length cn)∧w.cell? ⟨gr,k*9+7,none⟩=some (.slice t1 l[k].text.length ct)∧w.cell? ⟨gr,k*9+8,none⟩=some (.slice a1 l[k].attrs.length ca):=by
 obtain⟨Cs,Fs,e1,e2,e3,e4,rfl⟩:=h
 obtain⟨_,⟨K,N,X,A,eC,o1,o2,o3,o4⟩,eF⟩:=e3 k hk
 obtain⟨k1,ck,rfl,_⟩:=o1.shape
 obtain⟨n1,cn,rfl,_⟩:=o2.shape
 obtain⟨t1,ct,rfl,_⟩:=o3.shape
 obtain⟨a1,ca,rfl,_⟩:=Elems.shape o4
 have cc:∀j,j<9->w.cell? ⟨gr,k*9+j,none⟩=(Cs.getD k [])[j]? :=fun j hj=>zcD e4 (fun i hi=>(e3 i (by omega)).1) (by omega) k j hk hj
 rw [eC]at cc
 exact⟨k1,ck,n1,cn,t1,ct,a1,ca,cc 0 (by omega),cc 1 (by omega),cc 2 (by omega),cc 3 (by omega),cc 4 (by omega),cc 5 (by omega),cc 6 (by omega),cc 7 (by omega),cc 8 (by omega)⟩
theorem zig {l:List PlV} (hu:(l.map PlV.id).Nodup) {k:Nat} {p:PlV} (hp:l[k]? = some p):posP l p.id=some k:=by
 obtain⟨Aa,rfl⟩:=List.getElem?_eq_some_iff.1 hp
 refine posP_some.2 ⟨Aa,rfl,fun j hj e=> ?_⟩
 have:=(List.pairwise_iff_getElem.1 hu) j k (by simp;omega) (by simpa using Aa) hj
 simp at this
 exact this e
theorem OwElems.keepN {w w':Xk} {n:Nat} {v:Xl} {acc:List (Tr n)} {F:Xh} (h:OwElems w 29 5 v acc (OwNode n w) F) (hb:Below w.heap.size w w'):OwElems w' 29 5 v acc (OwNode n w') F:=OwElems.frm h (Frm.ofBelow hb []) (fun _ _=>by simp) (fun C x G hr hG=>OwNode.frm hr (Frm.ofBelow hb []) (fun _ _=>by simp))
def zhf (m:Nat):Prop:=∀(w0 w:Xk) (g mb gr c:Nat) (l:List PlV) (F:Xh) (k:Nat) (p:PlV) (left pv deep:Int) (pb:Nat),FoQ w0 w g mb (some ⟨gr,0,none⟩) c l F->Below w0.heap.size w0 w->2<=l.length->(l.map PlV.id).Nodup->(∀p∈l,-9223372036854775808<=p.kind∧p.kind<=9223372036854775807)->(∀p∈l,zeb p)->pb∉g::mb::F->w0.heap.size<=pb->Loc w pb #[.int .i64 pv] 3->pv=120-left->l[k]? = some p->0<left->left<=120->deep+(m:Int)=20->0<=deep->
  Calls Tryz.prog 90 #[.pointer (some ⟨g,0,none⟩),.agg #[.int .i64 p.idN,.int .i64 p.idR],.int .i64 deep,.pointer (some ⟨pb,0,none⟩)] w fun e w'=>∃(kd:Int) (a1:Xi) (n1 c1:Nat) (a2:Xi) (n2 c2:Nat) (a3:Xi) (n3 c3:Nat) (a4:Xi) (n4 c4:Nat),e=.returned (.agg #[.int .i64 kd,.slice a1 n1 c1,.slice a2 n2 c2,.slice a3 n3 c3,.slice a4 n4 c4])∧∃G,OwNode (m+1) w' [.int .i64 kd,.slice a1 n1 c1,.slice a2 n2 c2,.slice a3 n3 c3,.slice a4 n4 c4] (prj l m k left).1 G∧G.Nodup∧Rng G w.heap.size w'.heap.size∧Loc w' pb #[.int .i64 (120-(prj l m k left).2)] 3∧Frm w w' [pb]
set_option maxHeartbeats 12800000 in
theorem zvQ:zhf 0:=by
 intro w0 w g mb gr c l F k p left pv deep pb h va h2 hu Ca qa ea Hc ba Qa hp yb Kc Nb hb
 refine zaF ?_
 intro Q HQ
 obtain⟨i0,zb,Dc,Ec,Jc⟩:=info_parts Tryz.info29
 have ib:k<l.length:=(List.getElem?_eq_some_iff.1 hp).1
 have fa:l[k]=p:=(List.getElem?_eq_some_iff.1 hp).2
 have Na:p∈l:=by rw [<-fa];exact List.getElem_mem _
 have hK:=Ca p Na
 have Ta:=qa p Na
 have Da:=h.ids p Na
 have Aa:∀W,Frm w W [pb]->FoQ w0 W g mb (some ⟨gr,0,none⟩) c l F:=fun W f=>h.frm f (fun e=>ea (by simp at e;simp [e])) (fun e=>ea (by simp at e;simp [e])) (fun q hq e=>ea (by simp at e;subst e;simp [hq])) (fun q hq=>by simp at hq;subst hq;exact Cells.ofL ba)
 have Ba:∀W,Frm w W [pb]->Below w0.heap.size w0 W:=fun W f=>va.trans (f.below va.size (fun q hq=>by simp at hq;omega))
 have La:posP l p.id=some k:=zig hu hp
 have Mb:=ba.lt
 have li:=(Loc.made (w.setCell ⟨pb,0,none⟩ (.int .i64 (pv+1))) #[.int .i64 p.idN,.int .i64 p.idR] 50).alloc (.cells #[.int .i64 0,.slice none 0 0,.slice none 0 0,.slice none 0 0,.slice none 0 0] 29)
 have lr:=Loc.made ((w.setCell ⟨pb,0,none⟩ (.int .i64 (pv+1))).alloc (.cells #[.int .i64 p.idN,.int .i64 p.idR] 50)) #[.int .i64 0,.slice none 0 0,.slice none 0 0,.slice none 0 0,.slice none 0 0] 29
 have lp:=((ba.set 0 (.int .i64 (pv+1))).alloc (.cells #[.int .i64 p.idN,.int .i64 p.idR] 50)).alloc (.cells #[.int .i64 0,.slice none 0 0,.slice none 0 0,.slice none 0 0,.slice none 0 0] 29)
 have ka:(w.setCell ⟨pb,0,none⟩ (.int .i64 (pv+1))).heap.size=w.heap.size:=by simp
 simp only [World.size_alloc,ka]at li lr
 have Gb:Below (w.setCell ⟨pb,0,none⟩ (.int .i64 (pv+1))).heap.size (w.setCell ⟨pb,0,none⟩ (.int .i64 (pv+1))) (((w.setCell ⟨pb,0,none⟩ (.int .i64 (pv+1))).alloc (.cells #[.int .i64 p.idN,.int .i64 p.idR] 50)).alloc (.cells #[.int .i64 0,.slice none 0 0,.slice none 0 0,.slice none 0 0,.slice none 0 0] 29)):=((Below.refl _ _).alloc (Nat.le_refl _) _).alloc (by simp) _
 have Qb:Below w.heap.size w ((w.alloc (.cells #[.int .i64 p.idN,.int .i64 p.idR] 50)).alloc (.cells #[.int .i64 0,.slice none 0 0,.slice none 0 0,.slice none 0 0,.slice none 0 0] 29)):=((Below.refl _ _).alloc (Nat.le_refl _) _).alloc (by simp) _
 have da:Frm w (((w.setCell ⟨pb,0,none⟩ (.int .i64 (pv+1))).alloc (.cells #[.int .i64 p.idN,.int .i64 p.idR] 50)).alloc (.cells #[.int .i64 0,.slice none 0 0,.slice none 0 0,.slice none 0 0,.slice none 0 0] 29)) [pb]:=(Frm.set _ _ _ _).trans (Frm.ofBelow Gb [pb])
 have ua:(((w.setCell ⟨pb,0,none⟩ (.int .i64 (pv+1))).alloc (.cells #[.int .i64 p.idN,.int .i64 p.idR] 50)).alloc (.cells #[.int .i64 0,.slice none 0 0,.slice none 0 0,.slice none 0 0,.slice none 0 0] 29)).heap.size=w.heap.size+2:=by simp
 have xl:((w.alloc (.cells #[.int .i64 p.idN,.int .i64 p.idR] 50)).alloc (.cells #[.int .i64 0,.slice none 0 0,.slice none 0 0,.slice none 0 0,.slice none 0 0] 29)).cell? ⟨pb,0,none⟩=some (.int .i64 pv):=(Qb.cell (p:=⟨pb,0,none⟩) Mb).trans (ba.cell 0)
 have xf:((w.alloc (.cells #[.int .i64 p.idN,.int .i64 p.idR] 50)).alloc (.cells #[.int .i64 0,.slice none 0 0,.slice none 0 0,.slice none 0 0,.slice none 0 0] 29)).frozen? ⟨pb,0,none⟩=false:=((ba.alloc (.cells #[.int .i64 p.idN,.int .i64 p.idR] 50)).alloc (.cells #[.int .i64 0,.slice none 0 0,.slice none 0 0,.slice none 0 0,.slice none 0 0] 29)).frozen 0
 have b0:=li.cell 0
 have b1:=li.cell 1
 simp at b0 b1
 have fb:IntKind.i64.wrap (pv+1)=pv+1:=by simp [IntKind.wrap,IntKind.bits,IntKind.signed];omega
 have HX:=hide (And.intro li (And.intro lr (And.intro lp (And.intro da ua))))
 have HY:=hide (And.intro hK (And.intro Ta (And.intro Aa (And.intro Ba La))))
 have HP:=hide (And.intro hp (And.intro fa Da))
 have HU:=hide (And.intro hu (And.intro Ca (And.intro qa ea)))
 have HV:=hide Qa
 have lb:=hide h.len
 clear li lr lp Qb Gb ka da ua hK Ta Aa Ba La hp fa Da hu Ca qa ea Na h ba va Qa
 go_enter Tryz.func90,Tryz.ntmps90
 go_wp2_with fail
 obtain⟨Cb,Lb,Db,da,ua⟩:=zaa HX
 obtain⟨hK,Ta,Aa,Ba,La⟩:=zaa HY
 obtain⟨hp,fa,Da⟩:=zaa HP
 have Qa:=zaa HV
 clear HX HY HP xl xf b0 b1
 generalize (((w.setCell ⟨pb,0,none⟩ (.int .i64 (pv+1))).alloc (.cells #[.int .i64 p.idN,.int .i64 p.idR] 50)).alloc (.cells #[.int .i64 0,.slice none 0 0,.slice none 0 0,.slice none 0 0,.slice none 0 0] 29))=w2 at *
 refine (zcq (Aa w2 da) p.id Da.1).mono ?_
 rintro e w3 ⟨-,Eb,Za⟩
 obtain⟨Lc,Rb,rfl⟩:=Eb k La
 cases Rb
 have Va:=da.trans (Frm.ofBelow Za [pb])
 obtain⟨k1,ck,n1,cn,t1,ct,a1,ca,-,e0,e1,e2,e3,e4,e5,e6,e7,e8,r1,r2,r3,r4⟩:=(Aa w3 Va).own ib
 rw [fa]at e0 e1 e2 e3 e4 e5 e6 e7 e8 r1 r2 r3 r4
 have ha:=Cb.all Za
 have ga:=Lb.all Za
 have ma:=Db.all Za
 have Gc:=Za.size
 have HX:=hide (And.intro ha (And.intro ga (And.intro ma (And.intro Va (And.intro r2 (And.intro r3 r4))))))
 have HY:=hide (And.intro hK (And.intro Ta (And.intro Aa Ba)))
 have HP:=hide (And.intro hp (And.intro Da Qa))
 clear Cb Lb Db da Za La fa Da hp hK Ta Aa Ba r1 r2 r3 r4 ha ga ma Va Eb Qa
 go_wp2_with fail
 clear e0 e1 e2 e3 e4 e5 e6 e7 e8
 refine (zhc w3 p k1 n1 t1 a1 ck cn ct ca).mono ?_
 rintro e Ib ⟨rfl,Pa⟩
 go_wp2_with fail
 obtain⟨ha,ga,ma,Va,r2,r3,r4⟩:=zaa HX
 obtain⟨hK,Ta,Aa,Ba⟩:=zaa HY
 obtain⟨hp,Da,Qa⟩:=zaa HP
 clear HX HY HP
 have na:=Va.trans (Frm.ofBelow Pa [pb])
 have oa:=Ba Ib na
 refine (zeh 0 Ib _ _ _ _ _ (zaN p) ⟨_,_,_,_,rfl,hK.1,hK.2,r2.keep oa,r3.keep oa,r4.keep oa,Nat.zero_le _,.inl ⟨rfl,rfl⟩⟩ (by
  have e:szT 1 (zaN p)=p.name.length+p.text.length+szA p.attrs+(([]:List (Tr 0)).length+(([]:List (Tr 0)).map (szT 0)).sum):=rfl
  unfold zeb at Ta
  rw [e]
  simp only [List.length_nil,List.map_nil,List.sum_nil]
  omega)).mono ?_
 rintro e Sa ⟨p2,k2,p3,k3,p4,k4,rfl,Fa,o1,o2,o3,aa,Ya,Xa⟩
 have Jb:(zaN p).kind=p.kind:=rfl
 have wa:(zaN p).name=p.name:=rfl
 have ta:(zaN p).text=p.text:=rfl
 have sa:(zaN p).attrs=p.attrs:=rfl
 rw [Jb,wa,ta,sa]
 rw [wa]at o1 aa Ya
 rw [ta]at o2 aa Ya
 rw [sa]at o3
 clear Jb wa ta sa
 have ia:Below Sa.heap.size Sa (Sa.alloc (.cells #[.int .i64 p.kind,.slice p2 p.name.length k2,.slice p3 p.text.length k3,.slice p4 p.attrs.length k4,.slice none 0 0] 29)):=(Below.refl _ _).alloc (Nat.le_refl _) _
 have la:=Loc.made Sa #[.int .i64 p.kind,.slice p2 p.name.length k2,.slice p3 p.text.length k3,.slice p4 p.attrs.length k4,.slice none 0 0] 29
 have Ka:=zam (zam Pa Xa) ia
 have Ha:=Va.trans (Frm.ofBelow Ka [pb])
 have Ga:=ha.all Ka
 have Ia:=ga.all Ka
 have Ja:=ma.all Ka
 have Vb:=Pa.size
 have tb:=Xa.size
 have Kb:=o1.keep ia
 have Fb:=o2.keep ia
 have Hb:=OwAttrs.frm o3 (Frm.ofBelow ia []) (fun _ _=>by simp)
 have Wa:(Sa.alloc (.cells #[.int .i64 p.kind,.slice p2 p.name.length k2,.slice p3 p.text.length k3,.slice p4 p.attrs.length k4,.slice none 0 0] 29)).heap.size=Sa.heap.size+1:=by simp
 have b0:=Ga.cell 0
 have b1:=Ga.cell 1
 simp at b0 b1
 have HX:=hide (And.intro Ga (And.intro Ia (And.intro Ja (And.intro Ha (And.intro Kb (And.intro Fb (And.intro Hb (And.intro aa (And.intro Ya (And.intro la Wa))))))))))
 have HY:=hide (And.intro hK (And.intro Aa Ba))
 have HP:=hide (And.intro hp Qa)
 clear ha ga ma Va r2 r3 r4 na oa o1 o2 o3 aa Ya ia la Ka Ha Ga Ia Ja Kb Fb Hb Pa Xa Wa hK Aa Ba hp Qa Da Ta
 go_wp2_with fail
 obtain⟨Ga,Ia,Ja,Ha,o1,o2,o3,aa,Ya,la,Wa⟩:=zaa HX
 obtain⟨hK,Aa,Ba⟩:=zaa HY
 obtain⟨hp,Qa⟩:=zaa HP
 obtain⟨hu,Ca,qa,ea⟩:=zaa HU
 clear HX HY HP b0 b1
 generalize (Sa.alloc (.cells #[.int .i64 p.kind,.slice p2 p.name.length k2,.slice p3 p.text.length k3,.slice p4 p.attrs.length k4,.slice none 0 0] 29))=w33 at *
 generalize hnb:Sa.heap.size=nb at *
 refine (zlS (Aa w33 Ha) (Ba w33 Ha) h2 hu (p.idN,p.idR)).mono ?_
 rintro e w4 ⟨av,cv,ks,F',rfl,hQ,Cc,qb,Oa⟩
 have za:=Ha.trans (Frm.ofBelow Oa [pb])
 have Bb:=Ga.all Oa
 have Ma:=Ia.all Oa
 have xa:=Ja.all Oa
 have ra:=la.all Oa
 have Fc:=Oa.size
 replace o1:=o1.keep Oa
 replace o2:=o2.keep Oa
 replace o3:=OwAttrs.frm o3 (Frm.ofBelow Oa []) (fun _ _=>by simp)
 have Ob:=Ya.mono (lo':=w.heap.size+2) (hi':=w4.heap.size) (by omega) (by omega)
 have Bc:ks.length=(zay l p.id).length:=by
  have:=congrArg List.length qb
  rw [List.length_map,List.length_map]at this
  exact this
 have bb:ks.length<=100000:=by
  have h9:=zhM (l:=l) p.id l.length
  have h8:=zaa lb
  have:(zay l p.id).length<=l.length:=h9
  omega
 have cb:pb<w.heap.size:=Mb
 have sb:w.heap.size+2<=nb:=by omega
 have ub:nb<w4.heap.size:=by omega
 have Ua:∀q∈FB (.slice p2 p.name.length k2)++FB (.slice p3 p.text.length k3)++Fa,q∉[w.heap.size+1]:=fun q hq e=>by have:=Ob q hq;simp at e;omega
 clear Ga Ia Ja la Ha
 go_wp2_with fail
 have xb:deep=20:=by omega
 subst xb
 have Ab:=zoE hp left
 have ja:∀W,Frm w4 W [w.heap.size+1]->Loc W (w.heap.size+1) #[.int .i64 p.kind,.slice p2 p.name.length k2,.slice p3 p.text.length k3,.slice p4 p.attrs.length k4,.slice none 0 0] 29->Q (.returned (.agg #[.int .i64 p.kind,.slice p2 p.name.length k2,.slice p3 p.text.length k3,.slice p4 p.attrs.length k4,.slice none 0 0])) W:=fun W hf hl=>by
  refine zaa HQ _ _ ⟨p.kind,_,_,_,_,_,_,_,_,_,_,_,_,rfl,_,?_,aa,Ob.mono (by omega) hf.size,?_,?_⟩
  ·rw [Ab]
   exact⟨_,_,_,_,Fa,[],rfl,hK.1,hK.2,o1.frm hf (fun q hq=>Ua q (by simp [hq])),o2.frm hf (fun q hq=>Ua q (by simp [hq])),OwAttrs.frm o3 hf (fun q hq=>Ua q (by simp [hq])),OwElems.naught _ _ _ _,by simp⟩
  ·rw [Ab]
   have:=xa.frm hf (by simp;omega)
   rw [show pv+1=120-(left-1) by omega]at this
   exact this
  ·exact za.new hf (fun g hg=>by simp at hg;omega)
 have HF:=hide ja
 clear ja Ab
 refine wp_loop_rounds 1 ?_
 rw [rounds_succ]
 have Yb:((20:Int) == 20)=true:=rfl
 by_cases hk0:0<ks.length
 ·have rb:(0:Int)<(ks.length:Int):=by omega
  obtain⟨gz,Zb⟩:∃gz,av=some ⟨gz,0,none⟩:=by
   obtain⟨_,_,_,_,_,ya,_⟩:=hQ
   rcases ya.2 with ⟨_,e0⟩ | ⟨g',Xb,Ic,e0,_⟩
   ·omega
   ·injection e0 with e1 _ _;exact⟨g',e1⟩
  subst Zb
  obtain⟨gb,ob,kb,db,Sb,Wb,ab,jb,q0,q1,q2,q3,q4,q5,q6,q7,q8⟩:=hQ.at hk0
  generalize ks[0]=zp at *
  simp only [Nat.zero_mul,Nat.zero_add]at q0 q1 q2 q3 q4 q5 q6 q7 q8
  have pa:Below w4.heap.size w4 (w4.alloc (.cells #[.int .i64 zp.idN,.int .i64 zp.idR,.int .i64 zp.parN,.int .i64 zp.parR,.slice gb zp.key.length ob,.int .i64 zp.kind,.slice kb zp.name.length db,.slice Sb zp.text.length Wb,.slice ab zp.attrs.length jb] 146)):=(Below.refl _ _).alloc (Nat.le_refl _) _
  have Ra:=Ma.all pa
  have Pb:=ra.all pa
  obtain⟨y0,y1,y2,y3,y4⟩:=Pb.five
  obtain⟨z0,z1,z2,z3,z4⟩:=Ra.five
  have eb:=Ra.frozen 0
  have vb:=Ra.frozen 1
  have wb:=Ra.frozen 2
  have Tb:=Ra.frozen 3
  have Ub:=Ra.frozen 4
  obtain⟨lX,fX⟩:=zcj Ra (.int .i64 p.kind) (.slice p2 p.name.length k2) (.slice p3 p.text.length k3) (.slice p4 p.attrs.length k4) (.slice none 0 0)
  have HE:=hide (zaa HF _ ((Frm.ofBelow pa [w.heap.size+1]).trans fX) lX)
  clear lX fX hQ za ra Ma xa Bb o1 o2 o3 pa Ra Pb
  go_wp2_with fail
  exact bodyPost_ret (v:=.agg #[.int .i64 p.kind,.slice p2 p.name.length k2,.slice p3 p.text.length k3,.slice p4 p.attrs.length k4,.slice none 0 0]) (by simp [results,Tryz.results90,go_sem,z0,z1,z2,z3,z4]) rfl (zaa HE)
 ·have rb:¬ (0:Int)<(ks.length:Int):=by omega
  obtain⟨y0,y1,y2,y3,y4⟩:=ra.five
  obtain⟨z0,z1,z2,z3,z4⟩:=Ma.five
  have eb:=Ma.frozen 0
  have vb:=Ma.frozen 1
  have wb:=Ma.frozen 2
  have Tb:=Ma.frozen 3
  have Ub:=Ma.frozen 4
  obtain⟨lX,fX⟩:=zcj Ma (.int .i64 p.kind) (.slice p2 p.name.length k2) (.slice p3 p.text.length k3) (.slice p4 p.attrs.length k4) (.slice none 0 0)
  have HE:=hide (zaa HF _ fX lX)
  clear lX fX hQ za ra Ma xa Bb o1 o2 o3
  go_wp2_with fail
  exact bodyPost_ret (v:=.agg #[.int .i64 p.kind,.slice p2 p.name.length k2,.slice p3 p.text.length k3,.slice p4 p.attrs.length k4,.slice none 0 0]) (by simp [results,Tryz.results90,go_sem,z0,z1,z2,z3,z4]) rfl (zaa HE)
set_option maxHeartbeats 12800000 in
theorem zvl (m:Nat) (ih:zhf m):zhf (m+1):=by
 intro w0 w g mb gr c l F k p left pv deep pb h wb h2 hu Ca ta Db lc Ib Ua hp Yd fd Yb pc
 refine zaF ?_
 intro Q HQ
 obtain⟨i0,cc,Ed,fc,Rd⟩:=info_parts Tryz.info29
 have Md:k<l.length:=(List.getElem?_eq_some_iff.1 hp).1
 have Kb:l[k]=p:=(List.getElem?_eq_some_iff.1 hp).2
 have aa:p∈l:=by rw [<-Kb];exact List.getElem_mem _
 have hK:=Ca p aa
 have ga:=ta p aa
 have Ga:=h.ids p aa
 have Aa:∀W,Frm w W [pb]->FoQ w0 W g mb (some ⟨gr,0,none⟩) c l F:=fun W f=>h.frm f (fun e=>Db (by simp at e;simp [e])) (fun e=>Db (by simp at e;simp [e])) (fun q hq e=>Db (by simp at e;subst e;simp [hq])) (fun q hq=>by simp at hq;subst hq;exact Cells.ofL Ib)
 have Ba:∀W,Frm w W [pb]->Below w0.heap.size w0 W:=fun W f=>wb.trans (f.below wb.size (fun q hq=>by simp at hq;omega))
 have Sa:posP l p.id=some k:=zig hu hp
 have Mc:=Ib.lt
 have li:=(Loc.made (w.setCell ⟨pb,0,none⟩ (.int .i64 (pv+1))) #[.int .i64 p.idN,.int .i64 p.idR] 50).alloc (.cells #[.int .i64 0,.slice none 0 0,.slice none 0 0,.slice none 0 0,.slice none 0 0] 29)
 have lr:=Loc.made ((w.setCell ⟨pb,0,none⟩ (.int .i64 (pv+1))).alloc (.cells #[.int .i64 p.idN,.int .i64 p.idR] 50)) #[.int .i64 0,.slice none 0 0,.slice none 0 0,.slice none 0 0,.slice none 0 0] 29
 have lp:=((Ib.set 0 (.int .i64 (pv+1))).alloc (.cells #[.int .i64 p.idN,.int .i64 p.idR] 50)).alloc (.cells #[.int .i64 0,.slice none 0 0,.slice none 0 0,.slice none 0 0,.slice none 0 0] 29)
 have Qb:(w.setCell ⟨pb,0,none⟩ (.int .i64 (pv+1))).heap.size=w.heap.size:=by simp
 simp only [World.size_alloc,Qb]at li lr
 have Gc:Below (w.setCell ⟨pb,0,none⟩ (.int .i64 (pv+1))).heap.size (w.setCell ⟨pb,0,none⟩ (.int .i64 (pv+1))) (((w.setCell ⟨pb,0,none⟩ (.int .i64 (pv+1))).alloc (.cells #[.int .i64 p.idN,.int .i64 p.idR] 50)).alloc (.cells #[.int .i64 0,.slice none 0 0,.slice none 0 0,.slice none 0 0,.slice none 0 0] 29)):=((Below.refl _ _).alloc (Nat.le_refl _) _).alloc (by simp) _
 have Zc:Below w.heap.size w ((w.alloc (.cells #[.int .i64 p.idN,.int .i64 p.idR] 50)).alloc (.cells #[.int .i64 0,.slice none 0 0,.slice none 0 0,.slice none 0 0,.slice none 0 0] 29)):=((Below.refl _ _).alloc (Nat.le_refl _) _).alloc (by simp) _
 have Mb:Frm w (((w.setCell ⟨pb,0,none⟩ (.int .i64 (pv+1))).alloc (.cells #[.int .i64 p.idN,.int .i64 p.idR] 50)).alloc (.cells #[.int .i64 0,.slice none 0 0,.slice none 0 0,.slice none 0 0,.slice none 0 0] 29)) [pb]:=(Frm.set _ _ _ _).trans (Frm.ofBelow Gc [pb])
 have ib:(((w.setCell ⟨pb,0,none⟩ (.int .i64 (pv+1))).alloc (.cells #[.int .i64 p.idN,.int .i64 p.idR] 50)).alloc (.cells #[.int .i64 0,.slice none 0 0,.slice none 0 0,.slice none 0 0,.slice none 0 0] 29)).heap.size=w.heap.size+2:=by simp
 have xl:((w.alloc (.cells #[.int .i64 p.idN,.int .i64 p.idR] 50)).alloc (.cells #[.int .i64 0,.slice none 0 0,.slice none 0 0,.slice none 0 0,.slice none 0 0] 29)).cell? ⟨pb,0,none⟩=some (.int .i64 pv):=(Zc.cell (p:=⟨pb,0,none⟩) Mc).trans (Ib.cell 0)
 have xf:((w.alloc (.cells #[.int .i64 p.idN,.int .i64 p.idR] 50)).alloc (.cells #[.int .i64 0,.slice none 0 0,.slice none 0 0,.slice none 0 0,.slice none 0 0] 29)).frozen? ⟨pb,0,none⟩=false:=((Ib.alloc (.cells #[.int .i64 p.idN,.int .i64 p.idR] 50)).alloc (.cells #[.int .i64 0,.slice none 0 0,.slice none 0 0,.slice none 0 0,.slice none 0 0] 29)).frozen 0
 have b0:=li.cell 0
 have b1:=li.cell 1
 simp at b0 b1
 have Jd:IntKind.i64.wrap (pv+1)=pv+1:=by simp [IntKind.wrap,IntKind.bits,IntKind.signed];omega
 have HX:=hide (And.intro li (And.intro lr (And.intro lp (And.intro Mb ib))))
 have HY:=hide (And.intro hK (And.intro ga (And.intro Aa (And.intro Ba Sa))))
 have HP:=hide (And.intro hp (And.intro Kb Ga))
 have HU:=hide (And.intro hu (And.intro Ca (And.intro ta Db)))
 have HV:=hide Ua
 have Pd:=hide h.len
 clear li lr lp Zc Gc Qb Mb ib hK ga Aa Ba Sa hp Kb Ga hu Ca ta Db aa h Ib wb Ua
 go_enter Tryz.func90,Tryz.ntmps90
 go_wp2_with fail
 obtain⟨Pc,Lc,Cc,Mb,ib⟩:=zaa HX
 obtain⟨hK,ga,Aa,Ba,Sa⟩:=zaa HY
 obtain⟨hp,Kb,Ga⟩:=zaa HP
 have Ua:=zaa HV
 clear HX HY HP xl xf b0 b1
 generalize (((w.setCell ⟨pb,0,none⟩ (.int .i64 (pv+1))).alloc (.cells #[.int .i64 p.idN,.int .i64 p.idR] 50)).alloc (.cells #[.int .i64 0,.slice none 0 0,.slice none 0 0,.slice none 0 0,.slice none 0 0] 29))=w2 at *
 refine (zcq (Aa w2 Mb) p.id Ga.1).mono ?_
 rintro e w3 ⟨-,Rc,Gb⟩
 obtain⟨gd,bc,rfl⟩:=Rc k Sa
 cases bc
 have za:=Mb.trans (Frm.ofBelow Gb [pb])
 obtain⟨k1,ck,n1,cn,t1,ct,a1,ca,-,e0,e1,e2,e3,e4,e5,e6,e7,e8,r1,r2,r3,r4⟩:=(Aa w3 za).own Md
 rw [Kb]at e0 e1 e2 e3 e4 e5 e6 e7 e8 r1 r2 r3 r4
 have Tb:=Pc.all Gb
 have Nb:=Lc.all Gb
 have Wb:=Cc.all Gb
 have cd:=Gb.size
 have HX:=hide (And.intro Tb (And.intro Nb (And.intro Wb (And.intro za (And.intro r2 (And.intro r3 r4))))))
 have HY:=hide (And.intro hK (And.intro ga (And.intro Aa Ba)))
 have HP:=hide (And.intro hp (And.intro Ga Ua))
 clear Pc Lc Cc Mb Gb Sa Kb Ga hp hK ga Aa Ba r1 r2 r3 r4 Tb Nb Wb za Rc Ua
 go_wp2_with fail
 clear e0 e1 e2 e3 e4 e5 e6 e7 e8
 refine (zhc w3 p k1 n1 t1 a1 ck cn ct ca).mono ?_
 rintro e Ic ⟨rfl,da⟩
 go_wp2_with fail
 obtain⟨Tb,Nb,Wb,za,r2,r3,r4⟩:=zaa HX
 obtain⟨hK,ga,Aa,Ba⟩:=zaa HY
 obtain⟨hp,Ga,Ua⟩:=zaa HP
 clear HX HY HP
 have Xb:=za.trans (Frm.ofBelow da [pb])
 have Zb:=Ba Ic Xb
 refine (zeh 0 Ic _ _ _ _ _ (zaN p) ⟨_,_,_,_,rfl,hK.1,hK.2,r2.keep Zb,r3.keep Zb,r4.keep Zb,Nat.zero_le _,.inl ⟨rfl,rfl⟩⟩ (by
  have e:szT 1 (zaN p)=p.name.length+p.text.length+szA p.attrs+(([]:List (Tr 0)).length+(([]:List (Tr 0)).map (szT 0)).sum):=rfl
  unfold zeb at ga
  rw [e]
  simp only [List.length_nil,List.map_nil,List.sum_nil]
  omega)).mono ?_
 rintro e ia ⟨p2,k2,p3,k3,p4,k4,rfl,Fa,o1,o2,o3,Hb,va,Cb⟩
 have Xc:(zaN p).kind=p.kind:=rfl
 have yb:(zaN p).name=p.name:=rfl
 have ub:(zaN p).text=p.text:=rfl
 have gb:(zaN p).attrs=p.attrs:=rfl
 rw [Xc,yb,ub,gb]
 rw [yb]at o1 Hb va
 rw [ub]at o2 Hb va
 rw [gb]at o3
 clear Xc yb ub gb
 have Ub:Below ia.heap.size ia (ia.alloc (.cells #[.int .i64 p.kind,.slice p2 p.name.length k2,.slice p3 p.text.length k3,.slice p4 p.attrs.length k4,.slice none 0 0] 29)):=(Below.refl _ _).alloc (Nat.le_refl _) _
 have Vb:=Loc.made ia #[.int .i64 p.kind,.slice p2 p.name.length k2,.slice p3 p.text.length k3,.slice p4 p.attrs.length k4,.slice none 0 0] 29
 have Oa:=zam (zam da Cb) Ub
 have Ka:=za.trans (Frm.ofBelow Oa [pb])
 have Ja:=Tb.all Oa
 have Qa:=Nb.all Oa
 have Ra:=Wb.all Oa
 have Dd:=da.size
 have wc:=Cb.size
 have Yc:=o1.keep Ub
 have Uc:=o2.keep Ub
 have Vc:=OwAttrs.frm o3 (Frm.ofBelow Ub []) (fun _ _=>by simp)
 have ra:(ia.alloc (.cells #[.int .i64 p.kind,.slice p2 p.name.length k2,.slice p3 p.text.length k3,.slice p4 p.attrs.length k4,.slice none 0 0] 29)).heap.size=ia.heap.size+1:=by simp
 have b0:=Ja.cell 0
 have b1:=Ja.cell 1
 simp at b0 b1
 have HX:=hide (And.intro Ja (And.intro Qa (And.intro Ra (And.intro Ka (And.intro Yc (And.intro Uc (And.intro Vc (And.intro Hb (And.intro va (And.intro Vb ra))))))))))
 have HY:=hide (And.intro hK (And.intro Aa Ba))
 have HP:=hide (And.intro hp Ua)
 clear Tb Nb Wb za r2 r3 r4 Xb Zb o1 o2 o3 Hb va Ub Vb Oa Ka Ja Qa Ra Yc Uc Vc da Cb ra hK Aa Ba hp Ua Ga ga
 go_wp2_with fail
 obtain⟨Ja,Qa,Ra,Ka,o1,o2,o3,Hb,va,Vb,ra⟩:=zaa HX
 obtain⟨hK,Aa,Ba⟩:=zaa HY
 obtain⟨hp,Ua⟩:=zaa HP
 obtain⟨hu,Ca,ta,Db⟩:=zaa HU
 clear HX HY HP b0 b1
 generalize (ia.alloc (.cells #[.int .i64 p.kind,.slice p2 p.name.length k2,.slice p3 p.text.length k3,.slice p4 p.attrs.length k4,.slice none 0 0] 29))=w33 at *
 generalize hnb:ia.heap.size=nb at *
 refine (zlS (Aa w33 Ka) (Ba w33 Ka) h2 hu (p.idN,p.idR)).mono ?_
 rintro e w4 ⟨av,cv,ks,F',rfl,hQ,ec,ob,ba⟩
 have Jb:=Ka.trans (Frm.ofBelow ba [pb])
 have Xd:=Ja.all ba
 have Id:=Qa.all ba
 have Ud:=Ra.all ba
 have Vd:=Vb.all ba
 have ld:=ba.size
 replace o1:=o1.keep ba
 replace o2:=o2.keep ba
 replace o3:=OwAttrs.frm o3 (Frm.ofBelow ba []) (fun _ _=>by simp)
 have eb:=va.mono (lo':=w.heap.size+2) (hi':=w4.heap.size) (by omega) (by omega)
 have Qc:ks.length=(zay l p.id).length:=by
  have:=congrArg List.length ob
  rw [List.length_map,List.length_map]at this
  exact this
 have Fd:ks.length<=100000:=by
  have h9:=zhM (l:=l) p.id l.length
  have h8:=zaa Pd
  have:(zay l p.id).length<=l.length:=h9
  omega
 have hc:pb<w.heap.size:=Mc
 have uc:w.heap.size+2<=nb:=by omega
 have vc:nb<w4.heap.size:=by omega
 have tb:∀q∈FB (.slice p2 p.name.length k2)++FB (.slice p3 p.text.length k3)++Fa,q∉[w.heap.size+1]:=fun q hq e=>by have:=eb q hq;simp at e;omega
 clear Ja Qa Ra Vb Ka
 go_wp2_with fail
 have ac:∀acc lf,prjK (prj l m) (zay l p.id) [] (left-1)=(acc,lf)->_:=fun acc lf he=>zwo (acc:=acc) (lf:=lf) (m:=m) hp he
 have mc:(deep == 20)=false:=by simp;omega
 have sc:deep+1+(m:Int)=20:=by omega
 have Kd:(0:Int)<=deep+1:=by omega
 have td:IntKind.i64.wrap (deep+1)=deep+1:=by simp [IntKind.wrap,IntKind.bits,IntKind.signed];omega
 have Ld:(ks.length:Int)<=100000:=by omega
 have nc:∀args w,(callFunc 90 args).run Tryz.prog w=.ok (.enter 90 args) w:=enters_of Tryz.func90 (by kernel_rfl) rfl
 have HZ:=hide ac
 have ha:∀j (hj:j<ks.length) (Wc:j<(zay l p.id).length),l[(zay l p.id)[j]]? = some ks[j]:=fun j hj Wc=>by
  have:=congrArg (fun x=>x[j]?) ob
  simp only [List.getElem?_map,List.getElem?_eq_getElem hj]at this
  rw [show zay l (p.idN,p.idR)=zay l p.id from rfl,List.getElem?_eq_getElem Wc]at this
  simp at this
  exact this.symm
 have Od:=hide ha
 have lb:=hide Qc
 have HD:=hide Ua
 clear ac ha Yb Qc ob Ua
 go_loopw [28] (fun i wr=>∃(j:Nat) (acc:List (Tr (m+1))) (ka:Xi) (La:Nat) (Fk:Xh) (lf ya:Int),j<=ks.length∧acc.length<=j∧i=.int .i64 (j:Int)∧Loc wr nb #[.int .i64 p.kind,.slice p2 p.name.length k2,.slice p3 p.text.length k3,.slice p4 p.attrs.length k4,.slice ka acc.length La] 29∧OwElems wr 29 5 (.slice ka acc.length La) acc (OwNode (m+1) wr) Fk∧Fk.Nodup∧Rng Fk w4.heap.size wr.heap.size∧Loc wr pb #[.int .i64 ya] 3∧Hid (ya=120-lf)∧0<=lf∧lf<=120∧Hid (prjK (prj l m) ((zay l p.id).drop j) acc lf=prjK (prj l m) (zay l p.id) [] (left-1))∧Frm w4 wr [pb,nb]) (fun i _=>ks.length-(intOf i).toNat)
 case atStart=>exact⟨0,[],none,0,[],left-1,pv+1,Nat.zero_le _,Nat.le_refl _,rfl,Vd,OwElems.naught _ _ _ _,List.nodup_nil,fun q hq=>(by cases hq),Ud,hide (by have:=zaa HD;omega),by omega,by omega,hide rfl,Frm.refl _ _⟩
 case round=>
  obtain⟨j,acc,ka,La,Fk,lf,ya,hj,md,rfl,Lb,hO,Sb,Na,Fb,Rb,bd,ic,Eb,Ia⟩:=hrel
  have Ta:=Id.frm Ia (by simp;omega)
  have qc:=Ia.size
  have kc:nb∉Fk:=fun e=>by have:=Na _ e;omega
  have Sc:pb∉Fk:=fun e=>by have:=Na _ e;omega
  have la:∀q∈FB (.slice p2 p.name.length k2)++FB (.slice p3 p.text.length k3)++Fa,q∉[pb,nb]:=fun q hq e=>by
   have h4:=eb q hq
   have h0:=va q hq
   simp at e
   omega
  have Xa:Frm w wr [pb]:=⟨Ia.os.trans Jb.os,Ia.tape.trans Jb.tape,Ia.output.trans Jb.output,by have:=Jb.size;omega,fun i hi hn=>(Ia.block i (by have:=Jb.size;omega) (by simp at hn ⊢;omega)).trans (Jb.block i hi hn)⟩
  have Pa:∀W,Frm wr W [w.heap.size+1]->prjK (prj l m) (zay l p.id) [] (left-1)=(acc,lf)->Q (.returned (.agg #[.int .i64 p.kind,.slice p2 p.name.length k2,.slice p3 p.text.length k3,.slice p4 p.attrs.length k4,.slice ka acc.length La])) W:=fun W hf he=>by
   have ma:∀q∈FB (.slice p2 p.name.length k2)++FB (.slice p3 p.text.length k3)++Fa,q∉[w.heap.size+1]:=tb
   have p1:=(o1.frm Ia (fun q hq=>la q (by simp [hq]))).frm hf (fun q hq=>ma q (by simp [hq]))
   have Qd:=(o2.frm Ia (fun q hq=>la q (by simp [hq]))).frm hf (fun q hq=>ma q (by simp [hq]))
   have tc:=OwAttrs.frm (OwAttrs.frm o3 Ia (fun q hq=>la q (by simp [hq]))) hf (fun q hq=>ma q (by simp [hq]))
   refine zaa HQ _ _ ⟨p.kind,_,_,_,_,_,_,_,_,_,_,_,_,rfl,FB (.slice p2 p.name.length k2)++FB (.slice p3 p.text.length k3)++Fa++Fk,?_,zuV (lo:=0) Hb Sb (eb.mono (Nat.zero_le _) (Nat.le_refl _)) Na,(eb.mono (by omega) (by have:=hf.size;omega)).app (Na.mono (by omega) hf.size),?_,?_⟩
   ·rw [(zaa HZ _ _ he).1]
    exact⟨_,_,_,_,Fa,Fk,rfl,hK.1,hK.2,p1,Qd,tc,OwElems.frm hO hf (fun q hq=>by have:=Na q hq;simp;omega) (fun C x G hr hG=>OwNode.frm hr hf hG),rfl⟩
   ·rw [(zaa HZ _ _ he).2]
    have:=Fb.frm hf (by simp;omega)
    rw [zaa Rb]at this
    exact this
   ·exact⟨hf.os.trans Xa.os,hf.tape.trans Xa.tape,hf.output.trans Xa.output,by have:=hf.size;have:=Xa.size;omega,fun i hi hn=>(hf.block i (by have:=Xa.size;omega) (by simp;omega)).trans (Xa.block i hi hn)⟩
  by_cases hjl:j<ks.length
  ·have zb:(j:Int)<(ks.length:Int):=by omega
   have nd:(0:Int)<=(j:Int):=by omega
   have kb:j<(zay l p.id).length:=by have:=zaa lb;omega
   obtain⟨gz,dc⟩:∃gz,av=some ⟨gz,0,none⟩:=by
    obtain⟨_,_,_,_,_,Bc,_⟩:=hQ
    rcases Bc.2 with ⟨_,e0⟩ | ⟨g',Wd,sd,e0,_⟩
    ·omega
    ·injection e0 with e1 _ _;exact⟨g',e1⟩
   subst dc
   obtain⟨pa,Bb,qa,na,ua,ja,xa,Ab,q0,q1,q2,q3,q4,q5,q6,q7,q8⟩:=(PlsQ.frm hQ Ia (fun q hq=>by have:=ec q hq;simp;omega)).at hjl
   have Dc:=zaa Od j hjl kb
   generalize ks[j]=zp at *
   have lk:=Loc.made wr #[.int .i64 zp.idN,.int .i64 zp.idR,.int .i64 zp.parN,.int .i64 zp.parR,.slice pa zp.key.length Bb,.int .i64 zp.kind,.slice qa zp.name.length na,.slice ua zp.text.length ja,.slice xa zp.attrs.length Ab] 146
   have Ha:Below wr.heap.size wr (wr.alloc (.cells #[.int .i64 zp.idN,.int .i64 zp.idR,.int .i64 zp.parN,.int .i64 zp.parR,.slice pa zp.key.length Bb,.int .i64 zp.kind,.slice qa zp.name.length na,.slice ua zp.text.length ja,.slice xa zp.attrs.length Ab] 146)):=(Below.refl _ _).alloc (Nat.le_refl _) _
   have xp:(wr.alloc (.cells #[.int .i64 zp.idN,.int .i64 zp.idR,.int .i64 zp.parN,.int .i64 zp.parR,.slice pa zp.key.length Bb,.int .i64 zp.kind,.slice qa zp.name.length na,.slice ua zp.text.length ja,.slice xa zp.attrs.length Ab] 146)).cell? ⟨pb,0,none⟩=some (.int .i64 ya):=(Fb.all Ha).cell 0
   have pd:(wr.alloc (.cells #[.int .i64 zp.idN,.int .i64 zp.idR,.int .i64 zp.parN,.int .i64 zp.parR,.slice pa zp.key.length Bb,.int .i64 zp.kind,.slice qa zp.name.length na,.slice ua zp.text.length ja,.slice xa zp.attrs.length Ab] 146)).heap.size=wr.heap.size+1:=by simp
   by_cases hlf:lf<=0
   ·have qb:(ya == 120)=true:=by have:=zaa Rb;simp;omega
    have Da:prjK (prj l m) (zay l p.id) [] (left-1)=(acc,lf):=by rw [<-zaa Eb,zuX _ _ _ _ hlf]
    have Ec:=Lb.all Ha
    have fa:=Ta.all Ha
    obtain⟨y0,y1,y2,y3,y4⟩:=Ec.five
    obtain⟨z0,z1,z2,z3,z4⟩:=fa.five
    have jc:=fa.frozen 0
    have Sd:=fa.frozen 1
    have yc:=fa.frozen 2
    have Bd:=fa.frozen 3
    have Cd:=fa.frozen 4
    obtain⟨lX,fX⟩:=zcj fa (.int .i64 p.kind) (.slice p2 p.name.length k2) (.slice p3 p.text.length k3) (.slice p4 p.attrs.length k4) (.slice ka acc.length La)
    have HE:=hide (Pa _ ((Frm.ofBelow Ha [w.heap.size+1]).trans fX) Da)
    clear lX fX Pa Da hO Sb Na Fb Ta Lb Eb Ia Ec fa Ha lk
    go_wp2_with fail
    exact bodyPost_ret (v:=.agg #[.int .i64 p.kind,.slice p2 p.name.length k2,.slice p3 p.text.length k3,.slice p4 p.attrs.length k4,.slice ka acc.length La]) (by simp [results,Tryz.results90,go_sem,z0,z1,z2,z3,z4]) rfl (zaa HE)
   have qb:(ya == 120)=false:=by have:=zaa Rb;simp;omega
   have fb:=zaa Eb
   rw [zuW _ (zay l p.id) j kb acc lf hlf]at fb
   have Za:=zqq ta m (zay l p.id)[j] lf (by omega)
   have vb:Frm w (wr.alloc (.cells #[.int .i64 zp.idN,.int .i64 zp.idR,.int .i64 zp.parN,.int .i64 zp.parR,.slice pa zp.key.length Bb,.int .i64 zp.kind,.slice qa zp.name.length na,.slice ua zp.text.length ja,.slice xa zp.attrs.length Ab] 146)).drew [pb]:=Xa.trans (Frm.ofBelow Ha.drew [pb])
   have HI:=hide (ih w0 (wr.alloc (.cells #[.int .i64 zp.idN,.int .i64 zp.idR,.int .i64 zp.parN,.int .i64 zp.parR,.slice pa zp.key.length Bb,.int .i64 zp.kind,.slice qa zp.name.length na,.slice ua zp.text.length ja,.slice xa zp.attrs.length Ab] 146)).drew g mb gr c l F (zay l p.id)[j] zp lf ya (deep+1) pb (Aa _ vb) (Ba _ vb) h2 hu Ca ta Db lc (Fb.all Ha.drew) (zaa Rb) Dc (by omega) ic sc Kd)
   have Hc:=hide fb
   have jb:=Lb.all Ha.drew
   have Nc:=OwElems.keepN hO Ha.drew
   have Kc:=lk.all (Below.refl _ _).drew
   generalize hkjj:(zay l p.id)[j]=kj at *
   obtain⟨pr,Jc⟩:∃pr,pr=prj l m kj lf:=⟨_,rfl⟩
   rw [<-Jc]at HI Hc Za
   have Tc:=hide (show 0<=pr.2∧pr.2<=120 from ⟨Za.1,by have:=Za.2;have h9:(0:Int)<=((szT (m+1) pr.1:Nat):Int):=(by omega);omega⟩)
   have oa:∀q∈FB (.slice ka acc.length La),q∈Fk:=fun q hq=>by
    obtain⟨_,_,_,_,_,_,rfl⟩:=hO
    exact List.mem_append_left _ hq
   have Oc:pb≠nb:=by omega
   have vd:=OwElems.len hO
   have rc:=hide (And.intro Xa Ha)
   clear fb hkjj Jc Za Pa Eb Aa Ba Ca ta hu Dc Lb Ta Fb hO Rb Xa vb
   go_wp2_with fail
   have Ha:=(zaa rc).2
   generalize (wr.alloc (.cells #[.int .i64 zp.idN,.int .i64 zp.idR,.int .i64 zp.parN,.int .i64 zp.parR,.slice pa zp.key.length Bb,.int .i64 zp.kind,.slice qa zp.name.length na,.slice ua zp.text.length ja,.slice xa zp.attrs.length Ab] 146))=wa at *
   clear q0 q1 q2 q3 q4 q5 q6 q7 q8 xp
   have ad:wa.drew.cell? ⟨nb,4,none⟩=some (.slice ka acc.length La):=jb.cell 4
   have ud:wa.drew.cell? ⟨wr.heap.size,0,none⟩=some (.int .i64 zp.idN):=Kc.cell 0
   have qd:wa.drew.cell? ⟨wr.heap.size,1,none⟩=some (.int .i64 zp.idR):=Kc.cell 1
   have jd:wa.drew.heap.size=wa.heap.size:=rfl
   go_region_law
    (first
     | (refine zdN (by rfl) 90 [.tmp 42,.tmp 44,.tmp 46,.tmp 47] #[142,50,3,101] (by rfl) nc [.pointer (some ⟨g,0,none⟩),.agg #[.int .i64 zp.idN,.int .i64 zp.idR],.int .i64 (deep+1),.pointer (some ⟨pb,0,none⟩)] (by rfl) (zaa HI) ?_;clear HI;rintro e w7 ⟨kd,a1,n1,c1,a2,n2,c2,a3,n3,c3,a4,n4,c4,rfl,G,hG,Ad,rG,oc,Wa⟩;have sb:=jb.frm Wa (by simpa using fun e=>Oc e.symm);have dd:w7.cell? ⟨nb,4,none⟩=some (.slice ka acc.length La):=sb.cell 4;have Va:Below w7.heap.size w7 (w7.alloc (.cells #[.int .i64 kd,.slice a1 n1 c1,.slice a2 n2 c2,.slice a3 n3 c3,.slice a4 n4 c4] 29)):=(Below.refl _ _).alloc (Nat.le_refl _) _;have rb:=sb.all Va;have Zd:(w7.alloc (.cells #[.int .i64 kd,.slice a1 n1 c1,.slice a2 n2 c2,.slice a3 n3 c3,.slice a4 n4 c4] 29)).cell? ⟨nb,4,none⟩=some (.slice ka acc.length La):=rb.cell 4;refine⟨_,rfl,?_⟩)
     | (refine zcr (R:=OwNode (m+1)) (fun h f d=>OwNode.frm h f d) (by rfl) (.tmp 41) (.tmp 49) 27 (by rfl) 29 i0 (.agg #[.int .i64 0,.slice none 0 0,.slice none 0 0,.slice none 0 0,.slice none 0 0]) 5 104 Tryz.underlying27 cc Ed fc Rd rfl (by decide) _ acc Fk (by rfl) (OwElems.keepN (OwElems.frm Nc Wa (fun q hq e=>Sc (by simp at e;exact e ▸ hq)) (fun C x G hr hG=>OwNode.frm hr Wa hG)) Va) Sb ⟨w7.heap.size,0,none⟩ 1 [.int .i64 kd,.slice a1 n1 c1,.slice a2 n2 c2,.slice a3 n3 c3,.slice a4 n4 c4] pr.1 G (by rfl) rfl (zmV w7 _ _ _ _ _ _) (by intro y hy;simp at hy;rcases hy with rfl | rfl | rfl | rfl | rfl<;>rfl) (OwNode.keep hG Va) Ad (fun g hg Td=>by have h1:=(Na g hg).2;have:=(rG g Td).1;omega) (fun q hq=>by have h1:=Wa.size;have h2:=Va.size;rcases hq with hq | hq;(have:=(Na q hq).2;omega);(have:=(rG q hq).2;omega)) (by unfold maxLen;omega) (by omega) ?_;intro g9 Ma w9 F9 xb xc Hd ea od;have db:=rb.frm ea (fun e=>kc (oa _ e));have hd:w9.cell? ⟨nb,4,none⟩=some (.slice ka acc.length La):=db.cell 4;have ed:=db.frozen 4))
   all_goals
    have s7:=Wa.size
    have s8:=Va.size
    have s9:=ea.size
    have sa:=Ha.size
    have Fc:=(oc.all Va).frm ea (fun e=>Sc (oa _ e))
    have Pb:Rng F9 w4.heap.size w9.heap.size:=fun q hq=>⟨by
     have h9:=Hd q hq
     simp only [World.size_alloc]at h9
     rcases h9 with k | k | k
     ·exact (Na q k).1
     ·have:=(rG q k).1;omega
     ·omega,OwElems.lt xb (fun C x G h=>OwNode.lt h) q hq⟩
    have gc:nb∉F9:=fun e=>by have:=Pb _ e;omega
    have Ob:Frm w4 w9 [pb,nb]:=⟨ea.os.trans (Va.os.trans (Wa.os.trans (Ha.os.trans Ia.os))),ea.tape.trans (Va.tape.trans (Wa.tape.trans (Ha.tape.trans Ia.tape))),ea.output.trans (Va.output.trans (Wa.output.trans (Ha.output.trans Ia.output))),by omega,fun i hi hn=>by
     have e1:=ea.block i (by omega) (fun e=>by have:=(Na i (oa i e)).1;omega)
     have e2:=Va.block i (by omega)
     have e3:=Wa.block i (by show i<wa.heap.size;omega) (fun e=>hn (by simp at e ⊢;exact .inl e))
     have e4:wa.drew.heap[i]? = wr.heap[i]? :=Ha.block i (by omega)
     exact e1.trans (e2.trans (e3.trans (e4.trans (Ia.block i hi hn))))⟩
    have fS:=Frm.set w9 nb 4 (.slice (some ⟨g9,0,none⟩) (acc.length+1) Ma)
    have ab:=db.set 4 (.slice (some ⟨g9,0,none⟩) (acc.length+1) Ma)
    have cb:=Fc.frm fS (by simpa using Oc)
    have bb:OwElems (w9.setCell ⟨nb,4,none⟩ (.slice (some ⟨g9,0,none⟩) (acc.length+1) Ma)) 29 5 (.slice (some ⟨g9,0,none⟩) (acc.length+1) Ma) (acc++[pr.1]) (OwNode (m+1) (w9.setCell ⟨nb,4,none⟩ (.slice (some ⟨g9,0,none⟩) (acc.length+1) Ma))) F9:=OwElems.frm xb fS (fun q hq e=>gc (by simp at e;exact e ▸ hq)) (fun C x G hr hG=>OwNode.frm hr fS hG)
    have Ya:=Ob.trans (fS.mono (by simp))
    have HO:=hide (And.intro ab (And.intro cb (And.intro bb (And.intro Ya (Pb.mono (Nat.le_refl _) fS.size)))))
    clear ab cb bb Ya Nc Na Sb Fc db rb sb jb Ob fS xb ea Va Wa hG
    go_wp2_with fail
    go_roundw
    case rel=>
     obtain⟨ab,cb,bb,Ya,zc⟩:=zaa HO
     have hb:(acc++[pr.1]).length=acc.length+1:=by simp
     exact⟨j+1,acc++[pr.1],some ⟨g9,0,none⟩,Ma,F9,pr.2,120-pr.2,by omega,by rw [hb];omega,by go_num,by rw [hb];exact ab,by rw [hb];exact bb,xc,zc,cb,hide rfl,(zaa Tc).1,(zaa Tc).2,Hc,Ya⟩
    case measure=>simp [intOf];omega
  ·have zb:¬ (j:Int)<(ks.length:Int):=by omega
   have kb:¬ j<(zay l p.id).length:=by have:=zaa lb;omega
   have Da:prjK (prj l m) (zay l p.id) [] (left-1)=(acc,lf):=by rw [<-zaa Eb,List.drop_eq_nil_of_le (by have:=zaa lb;omega)];rfl
   obtain⟨y0,y1,y2,y3,y4⟩:=Lb.five
   obtain⟨z0,z1,z2,z3,z4⟩:=Ta.five
   have jc:=Ta.frozen 0
   have Sd:=Ta.frozen 1
   have yc:=Ta.frozen 2
   have Bd:=Ta.frozen 3
   have Cd:=Ta.frozen 4
   obtain⟨lX,fX⟩:=zcj Ta (.int .i64 p.kind) (.slice p2 p.name.length k2) (.slice p3 p.text.length k3) (.slice p4 p.attrs.length k4) (.slice ka acc.length La)
   have HE:=hide (Pa _ fX Da)
   clear lX fX Pa Da hO Sb Na Fb Ta Lb Eb Ia
   go_wp2_with fail
   exact bodyPost_ret (v:=.agg #[.int .i64 p.kind,.slice p2 p.name.length k2,.slice p3 p.text.length k3,.slice p4 p.attrs.length k4,.slice ka acc.length La]) (by simp [results,Tryz.results90,go_sem,z0,z1,z2,z3,z4]) rfl (zaa HE)
theorem zoF:∀m,zhf m
 | 0=>zvQ
 | m+1=>zvl m (zoF m)
end Go.Proofs.YtgjolijncmkkhaaGreatDoor
namespace Go.Proofs.YtgjolijncmkkhaaGreatDoor
open Go.RowKit Go.Maps
set_option linter.unusedVariables false
set_option maxRecDepth 100000
open Classical in
set_option maxHeartbeats 3200000 in
theorem zhH {w0:Xk} {w:Xk} {g mb:Nat} {a:Xi} {c:Nat} {l:List PlV} {F:Xh} (h:FoQ w0 w g mb a c l F) (hB0:Below w0.heap.size w0 w) (i:IdV) (hi:okI i) :
  Calls Tryz.prog 118 #[.pointer (some ⟨g,0,none⟩),zbg i] w fun e w'=>e=.returned (.bool (zaG l i))∧FoQ w0 w' g mb a c l F∧Frm w w' [g]:=by
 refine zaF ?_
 intro Q HQ
 have Na:=hide hB0
 clear hB0
 have hA:Below w.heap.size w (w.alloc (.cells #[.int .i64 i.1,.int .i64 i.2] 50)):=(Below.refl _ _).alloc (Nat.le_refl _) _
 have h1:=h.keep hA
 have HF:=hide (zcq h1 i hi)
 have HA:=hide (And.intro hA h1)
 clear h hA h1 hi
 unfold zbg at *
 go_enter Tryz.func118,Tryz.ntmps118
 go_wp2_with fail
 refine (zaa HF).mono ?_
 rintro e w2 ⟨hn,hs,Ha⟩
 obtain⟨hA,h1⟩:=zaa HA
 have h2:=h1.keep Ha
 have Ba:=zam hA Ha
 clear HF HA Ha h1 hA
 cases hp:posP l i with
 | none=>
  obtain rfl:=hn hp
  have HE:=hide (zaa HQ (.returned (.bool false)) w2.drew ⟨by rw [zri hp],h2.keep ((Below.refl _ _).drew),Frm.ofBelow (Ba.drew) _⟩)
  clear hs hn h2 Ba HQ
  go_wp2_with fail
  go_region
  go_wp2_with fail
  exact zaa HE
 | some k=>
  obtain⟨gr,rfl,rfl⟩:=hs k hp
  have hk:k<l.length:=(posP_some.1 hp).1
  have Aa:=h2.keep ((Below.refl _ _).drew)
  obtain⟨k1,ck,n1,cn,t1,ct,a1,ca,Fa,_,_,_,_,_,e5,e6,_,_,_,oN,_,_⟩:=Aa.own hk
  have ht:=zrp hp hk
  obtain⟨p,Ia⟩:∃p,p=l[k]:=⟨_,rfl⟩
  rw [<-Ia]at ht e5 e6 oN
  have Ca:=Frm.ofBelow (Ba.drew) [g]
  by_cases h0:p.kind=0
  ·have hB:mb+1<=w2.drew.heap.size:=Aa.map.lt
   have Ja:∀w',Frm w2.drew w' [g]->Byt w' (.slice n1 p.name.length cn) p.name:=fun w' f=>oN.keep (((zam (zaa Na) Ba).drew).trans (f.below (zam (zaa Na) Ba).drew.size (fun q hq=>by have e9:q=g:=(by simpa using hq);rw [e9];exact Aa.geg)))
   have HC:=hide (zwt (mb+1) (.slice (some ⟨gr,0,none⟩) l.length c) (.map (some mb)) g w2.drew (.slice n1 p.name.length cn) p.name Aa.set hB Ja)
   have La:decide (Void p.name)=zaz p.name:=by
    cases hv:zaz p.name with
    | true=>exact decide_eq_true ((zbC _).1 hv)
    | false=>exact decide_eq_false (fun e=>by rw [(zbC _).2 e]at hv;cases hv)
   rw [La]at HC
   have Pa:gr≠g:=fun e=>by
    obtain⟨Sa,Ga,Oa⟩:=Aa.at (by omega)
    injection Ga with Ga
    injection Ga with Ga _ _
    exact Aa.gF (by rw [<-e,Ga];exact Oa)
   have Ka:=hide (show ∀w',Frm w2.drew w' [g]->∀j,w'.cell? ⟨gr,j,none⟩=w2.drew.cell? ⟨gr,j,none⟩ from fun w' f j=>World.cell?_of_block (f.block gr (zbs e6) (by simpa using Pa)))
   have HZ:=hide (And.intro Aa (And.intro Ca ht))
   clear Aa Ca ht h2 Ba hs hn oN Ja La Ia
   rw [h0]at e5
   go_wp2_with fail
   go_region_held3 (fun w'=>w'.cell? ⟨gr,k*9+5,none⟩=some (.int .i64 0)∧w'.cell? ⟨gr,k*9+6,none⟩=some (.slice n1 p.name.length cn))
    (first | exact⟨by assumption,by assumption⟩ | simp [*])
    (first | (go_at_call 60;refine (zaa HC).mono ?_;rintro e w3 ⟨rfl,Ma,Da⟩;have z5:=(zaa Ka w3 Da (k*9+5)).trans e5;have z6:=(zaa Ka w3 Da (k*9+6)).trans e6))
   obtain⟨Aa,Ca,ht⟩:=zaa HZ
   have h3:FoQ w0 w3 g mb (some ⟨gr,0,none⟩) c l F:=⟨.inr Ma,Aa.map.frm Da (by simpa using fun e=>Aa.gm e.symm),Aa.row.frm Da (fun q hq e=>Aa.gF (by have e9:q=g:=(by simpa using e);rw [<-e9];exact hq)),Aa.nd,Aa.ge,Aa.geg,Aa.gem,Aa.ids,Aa.len⟩
   have HE:=hide (zaa HQ (.returned (.bool (zaG l i))) w3 ⟨rfl,h3,Ca.trans Da⟩)
   rw [ht,decide_eq_true h0,Bool.true_and]at HE
   clear h3 Aa Ca ht HZ HC HQ Ma Da
   go_wp2_with fail
   exact zaa HE
  ·have HE:=hide (fun n=>zaa HQ (.returned (.bool false)) (w2.drewN n) ⟨by rw [ht,decide_eq_false h0];rfl,h2.keep (below_drewN (Below.refl _ _) _),Frm.ofBelow (zam Ba (below_drewN (Below.refl _ _) _)) _⟩)
   have Ra:w2.cell? ⟨gr,k*9+5,none⟩=some (.int .i64 p.kind):=e5
   have Qa:(p.kind == 0)=false:=by simpa using h0
   clear h0 Ia hp
   clear Aa Ca ht h2 Ba hs hn oN HQ
   go_wp2_with fail
   go_quiet (fail)
   go_wp2_with fail
   exact zaa HE _
set_option maxHeartbeats 6400000 in
theorem zqQ {w0:Xk} {w:Xk} {g mb:Nat} {a:Xi} {c:Nat} {l:List PlV} {F:Xh} (h:FoQ w0 w g mb a c l F) (hF:FrW l) (hG:Glo w) (i o:IdV) (hi:okI i) (k0:Nat) (hk0:posP l i=some k0) :
  Calls Tryz.prog 120 #[.pointer (some ⟨g,0,none⟩),zbg i,zbg o] w fun e w'=>e=.returned (.bool (zaK l l.length i o))∧Below w.heap.size w w':=by
 refine zaF ?_
 intro Q HQ
 have hA:Below w.heap.size w ((w.alloc (.cells #[.int .i64 i.1,.int .i64 i.2] 50)).alloc (.cells #[.int .i64 o.1,.int .i64 o.2] 50)):=zam ((Below.refl _ _).alloc (Nat.le_refl _) _) ((Below.refl _ _).alloc (Nat.le_refl _) _)
 have l0:=(Loc.made w #[.int .i64 i.1,.int .i64 i.2] 50).alloc (.cells #[.int .i64 o.1,.int .i64 o.2] 50)
 have l1:=Loc.made (w.alloc (.cells #[.int .i64 i.1,.int .i64 i.2] 50)) #[.int .i64 o.1,.int .i64 o.2] 50
 simp only [World.size_alloc]at l1
 have h1:=h.keep hA
 have Ra:=hG.keep hA
 obtain⟨cs,lg,Xa,_⟩:=h1.set.loc
 have g0:(((w.alloc (.cells #[.int .i64 i.1,.int .i64 i.2] 50)).alloc (.cells #[.int .i64 o.1,.int .i64 o.2] 50))).cell? ⟨g,0,none⟩=some (.slice a l.length c):=(lg.cell 0).trans Xa
 have Za:=h1.len
 have LL:=hide (And.intro hA (And.intro l0 (And.intro l1 (And.intro h1 Ra))))
 have HF:=hide hF
 have HI:=hide (And.intro hi hk0)
 have Ya:=hide (show g≠w.heap.size∧g≠w.heap.size+1∧2<=w.heap.size from ⟨by have:=h.set.lt;omega,by have:=h.set.lt;omega,by have h9:=zbs hG.2.2.1;exact h9⟩)
 clear h hA l0 l1 h1 hG Ra lg Xa hF hi hk0
 unfold zbg at *
 go_enter Tryz.func120,Tryz.ntmps120
 go_wp2_with fail
 go_step3
 go_wp2_with fail
 go_step3
 go_wp2_with fail
 obtain⟨hA,l0,l1,h1,Ra⟩:=zaa LL
 clear LL
 generalize ((w.alloc (.cells #[.int .i64 i.1,.int .i64 i.2] 50)).alloc (.cells #[.int .i64 o.1,.int .i64 o.2] 50))=w1 at *
 have LZ:=hide l0
 go_loopw [12] (fun x wr=>∃(j:Nat) (i':IdV),j<=l.length∧x=.int .i64 (j:Int)∧Hid (zaK l (l.length-j) i' o=zaK l l.length i o)∧Hid (okI i')∧(∃k,posP l i'=some k)∧Loc wr w.heap.size #[.int .i64 i'.1,.int .i64 i'.2] 50∧Frm w1 wr [w.heap.size]) (fun x _=>l.length-(intOf x).toNat)
 case atStart=>exact⟨0,i,Nat.zero_le _,rfl,hide rfl,hide (zaa HI).1,⟨k0,(zaa HI).2⟩,l0,Frm.refl _ _⟩
 case round=>
  clear l0 g0
  obtain⟨j,i',hj,rfl,HW,HO,⟨k,hk⟩,l0,hf⟩:=hrel
  have La:=l1.frm hf (by simp)
  have aa:=Ra.frm hf (fun q hq=>by have e:q=w.heap.size:=(by simpa using hq);have:=(zaa Ya).2.2;omega)
  have hr:=h1.frm hf (by simpa using (zaa Ya).1) (fun e=>by have e9:mb=w.heap.size:=(by simpa using e);exact h1.box (q:=mb) (cs:=_) (T:=50) (by rw [e9];exact (show Loc w1 w.heap.size _ 50 from zaa LZ)) (by decide) (by decide) (by simp)) (fun q hq e=>by have e9:q=w.heap.size:=(by simpa using e);exact h1.box (q:=q) (by rw [e9];exact (zaa LZ)) (by decide) (by decide) (by simp [hq])) (fun q hq=>by have e9:q=w.heap.size:=(by simpa using hq);rw [e9];exact Cells.ofL (zaa LZ))
  obtain⟨iN,iR⟩:=i'
  obtain⟨oN,oR⟩:=o
  have b0:wr.cell? ⟨w.heap.size,0,none⟩=some (.int .i64 iN):=l0.cell 0
  have b1:wr.cell? ⟨w.heap.size,1,none⟩=some (.int .i64 iR):=l0.cell 1
  have c0:wr.cell? ⟨w.heap.size+1,0,none⟩=some (.int .i64 oN):=La.cell 0
  have c1:wr.cell? ⟨w.heap.size+1,1,none⟩=some (.int .i64 oR):=La.cell 1
  obtain⟨y0,y1,y2,y3⟩:=aa
  have Ja:Below w.heap.size w wr:=hA.trans (hf.below hA.size (fun q hq=>by have e:q=w.heap.size:=(by simpa using hq);omega))
  by_cases hlt:j<l.length
  ·have Va:(j:Int)<(l.length:Int):=by omega
   obtain⟨n,hn⟩:∃n,l.length-j=n+1:=⟨l.length-j-1,by omega⟩
   have hw:=zaa HW
   rw [hn]at hw
   by_cases e1:iN=oN
   ·by_cases e2:iR=oR
    ·have Wa:(iN,iR)=(oN,oR):=by rw [e1,e2]
     have d1:(iN == oN)=true:=by simpa using e1
     have d2:(iR == oR)=true:=by simpa using e2
     have HE:=hide (zaa HQ (.returned (.bool true)) wr ⟨by rw [<-hw,Wa,zsS],Ja⟩)
     clear hw HW HQ HO hr La l0 hf Ja h1 l1 hA hk HI HF hn
     clear Wa e1 e2
     go_wp2_with fail
     exact zaa HE
    ·have Ia:(iN,iR)≠(oN,oR):=fun e=>e2 (Prod.mk.inj e).2
     have d1:(iN == oN)=true:=by simpa using e1
     have d2:(iR == oR)=false:=by simpa using e2
     clear e1 e2
     by_cases z1:iN=0
     ·by_cases z2:iR=0
      ·have Aa:(iN,iR)=zaH∨(iN,iR)=zaw:=.inl (by rw [z1,z2];rfl)
       have Oa:(iN == 0)=true:=by simpa using z1
       have Qa:(iR == 0)=true:=by simpa using z2
       clear z1 z2
       have HE:=hide (zaa HQ (.returned (.bool false)) wr ⟨by rw [<-hw,zfn Ia Aa],Ja⟩)
       clear hw HW HQ HO hr La l0 hf Ja h1 l1 hA hk HI HF hn
       clear Ia Aa
       go_wp2_with fail
       exact zaa HE
      ·by_cases z3:iR=1
       ·have Aa:(iN,iR)=zaH∨(iN,iR)=zaw:=.inr (by rw [z1,z3];rfl)
        have Oa:(iN == 0)=true:=by simpa using z1
        have Qa:(iR == 0)=false:=by simpa using z2
        have Ta:(iR == 1)=true:=by simpa using z3
        clear z1 z2 z3
        have HE:=hide (zaa HQ (.returned (.bool false)) wr ⟨by rw [<-hw,zfn Ia Aa],Ja⟩)
        clear hw HW HQ HO hr La l0 hf Ja h1 l1 hA hk HI HF hn
        clear Ia Aa
        go_wp2_with fail
        exact zaa HE
       ·have Aa:¬ ((iN,iR)=zaH∨(iN,iR)=zaw):=fun e=>by rcases e with e | e;(exact z2 (Prod.mk.inj e).2);(exact z3 (Prod.mk.inj e).2)
        have Oa:(iN == 0)=true:=by simpa using z1
        have Qa:(iR == 0)=false:=by simpa using z2
        have Ta:(iR == 1)=false:=by simpa using z3
        clear z1 z2 z3
        have Ha:k<l.length:=(posP_some.1 hk).1
        have Ga:2<=k:=by
         rcases Nat.lt_or_ge k 2 with h9 | h9
         ·exact absurd (((zaa HF).low hk).1 h9) Aa
         ·exact h9
        have Ca:=hw.symm.trans (zgp (n:=n) Ia Aa hk Ha)
        obtain⟨k',Da⟩:=(zaa HF).par k l[k] Ga (by simp [Ha])
        have Ba:=(hr.ids l[k] (List.getElem_mem Ha)).2
        have Ka:=hide (zcq hr (iN,iR) (zaa HO))
        unfold zbg at Ka
        have HK:=hide (And.intro hk (And.intro Ga (And.intro Ca (And.intro Da (And.intro Ba (And.intro hr (And.intro l0 hf)))))))
        clear hw HW HQ HO hr La l0 hf Ja hk Ia Aa Ga Ca Da Ba h1 l1 hA
        go_wp2_with fail
        refine (zaa Ka).mono ?_
        rintro e w4 ⟨Pa,Na,Ma⟩
        obtain⟨hk,Ga,Ca,Da,Ba,hr,l0,hf⟩:=zaa HK
        obtain⟨gr,rfl,rfl⟩:=Na k hk
        have hb:=Ma
        have h4:=hr.keep hb
        obtain⟨k1,ck,n1,cn,t1,ct,a1,ca,Fa,_,_,p2,p3,_⟩:=h4.own Ha
        have l4:=l0.all hb
        have q0:=l4.cell 0
        have q1:=l4.cell 1
        have Ua:=l4.frozen 0
        have Sa:=l4.frozen 1
        have lX:=(l4.set 0 (.int .i64 l[k].parN)).set 1 (.int .i64 l[k].parR)
        have fX:=hf.trans ((Frm.ofBelow hb _).trans ((zal w4 w.heap.size 0 (.int .i64 l[k].parN)).trans (zal _ w.heap.size 1 (.int .i64 l[k].parR))))
        have HE:=hide (And.intro lX (And.intro fX (And.intro Ca (And.intro Da Ba))))
        clear hk Ga Ca Da Ba hr l0 hf h4 l4 lX fX HK Ka Pa Na Ma hb
        generalize l[k]=pk at *
        go_wp2_with fail
        go_roundw
        case rel=>exact⟨j+1,(pk.parN,pk.parR),by omega,by go_num,hide (by rw [show l.length-(j+1)=n by omega];exact (zaa HE).2.2.1.symm),hide (zaa HE).2.2.2.2,⟨k',(zaa HE).2.2.2.1⟩,(zaa HE).1,(zaa HE).2.1⟩
        case measure=>simp [intOf];omega
     ·have Aa:¬ ((iN,iR)=zaH∨(iN,iR)=zaw):=fun e=>by rcases e with e | e<;>exact z1 (Prod.mk.inj e).1
      have Oa:(iN == 0)=false:=by simpa using z1
      clear z1
      have Ha:k<l.length:=(posP_some.1 hk).1
      have Ga:2<=k:=by
       rcases Nat.lt_or_ge k 2 with h9 | h9
       ·exact absurd (((zaa HF).low hk).1 h9) Aa
       ·exact h9
      have Ca:=hw.symm.trans (zgp (n:=n) Ia Aa hk Ha)
      obtain⟨k',Da⟩:=(zaa HF).par k l[k] Ga (by simp [Ha])
      have Ba:=(hr.ids l[k] (List.getElem_mem Ha)).2
      have Ka:=hide (zcq hr (iN,iR) (zaa HO))
      unfold zbg at Ka
      have HK:=hide (And.intro hk (And.intro Ga (And.intro Ca (And.intro Da (And.intro Ba (And.intro hr (And.intro l0 hf)))))))
      clear hw HW HQ HO hr La l0 hf Ja hk Ia Aa Ga Ca Da Ba h1 l1 hA
      go_wp2_with fail
      refine (zaa Ka).mono ?_
      rintro e w4 ⟨Pa,Na,Ma⟩
      obtain⟨hk,Ga,Ca,Da,Ba,hr,l0,hf⟩:=zaa HK
      obtain⟨gr,rfl,rfl⟩:=Na k hk
      have hb:=Ma
      have h4:=hr.keep hb
      obtain⟨k1,ck,n1,cn,t1,ct,a1,ca,Fa,_,_,p2,p3,_⟩:=h4.own Ha
      have l4:=l0.all hb
      have q0:=l4.cell 0
      have q1:=l4.cell 1
      have Ua:=l4.frozen 0
      have Sa:=l4.frozen 1
      have lX:=(l4.set 0 (.int .i64 l[k].parN)).set 1 (.int .i64 l[k].parR)
      have fX:=hf.trans ((Frm.ofBelow hb _).trans ((zal w4 w.heap.size 0 (.int .i64 l[k].parN)).trans (zal _ w.heap.size 1 (.int .i64 l[k].parR))))
      have HE:=hide (And.intro lX (And.intro fX (And.intro Ca (And.intro Da Ba))))
      clear hk Ga Ca Da Ba hr l0 hf h4 l4 lX fX HK Ka Pa Na Ma hb
      generalize l[k]=pk at *
      go_wp2_with fail
      go_roundw
      case rel=>exact⟨j+1,(pk.parN,pk.parR),by omega,by go_num,hide (by rw [show l.length-(j+1)=n by omega];exact (zaa HE).2.2.1.symm),hide (zaa HE).2.2.2.2,⟨k',(zaa HE).2.2.2.1⟩,(zaa HE).1,(zaa HE).2.1⟩
      case measure=>simp [intOf];omega
   ·have Ia:(iN,iR)≠(oN,oR):=fun e=>e1 (Prod.mk.inj e).1
    have d1:(iN == oN)=false:=by simpa using e1
    clear e1
    by_cases z1:iN=0
    ·by_cases z2:iR=0
     ·have Aa:(iN,iR)=zaH∨(iN,iR)=zaw:=.inl (by rw [z1,z2];rfl)
      have Oa:(iN == 0)=true:=by simpa using z1
      have Qa:(iR == 0)=true:=by simpa using z2
      clear z1 z2
      have HE:=hide (zaa HQ (.returned (.bool false)) wr ⟨by rw [<-hw,zfn Ia Aa],Ja⟩)
      clear hw HW HQ HO hr La l0 hf Ja h1 l1 hA hk HI HF hn
      clear Ia Aa
      go_wp2_with fail
      exact zaa HE
     ·by_cases z3:iR=1
      ·have Aa:(iN,iR)=zaH∨(iN,iR)=zaw:=.inr (by rw [z1,z3];rfl)
       have Oa:(iN == 0)=true:=by simpa using z1
       have Qa:(iR == 0)=false:=by simpa using z2
       have Ta:(iR == 1)=true:=by simpa using z3
       clear z1 z2 z3
       have HE:=hide (zaa HQ (.returned (.bool false)) wr ⟨by rw [<-hw,zfn Ia Aa],Ja⟩)
       clear hw HW HQ HO hr La l0 hf Ja h1 l1 hA hk HI HF hn
       clear Ia Aa
       go_wp2_with fail
       exact zaa HE
      ·have Aa:¬ ((iN,iR)=zaH∨(iN,iR)=zaw):=fun e=>by rcases e with e | e;(exact z2 (Prod.mk.inj e).2);(exact z3 (Prod.mk.inj e).2)
       have Oa:(iN == 0)=true:=by simpa using z1
       have Qa:(iR == 0)=false:=by simpa using z2
       have Ta:(iR == 1)=false:=by simpa using z3
       clear z1 z2 z3
       have Ha:k<l.length:=(posP_some.1 hk).1
       have Ga:2<=k:=by
        rcases Nat.lt_or_ge k 2 with h9 | h9
        ·exact absurd (((zaa HF).low hk).1 h9) Aa
        ·exact h9
       have Ca:=hw.symm.trans (zgp (n:=n) Ia Aa hk Ha)
       obtain⟨k',Da⟩:=(zaa HF).par k l[k] Ga (by simp [Ha])
       have Ba:=(hr.ids l[k] (List.getElem_mem Ha)).2
       have Ka:=hide (zcq hr (iN,iR) (zaa HO))
       unfold zbg at Ka
       have HK:=hide (And.intro hk (And.intro Ga (And.intro Ca (And.intro Da (And.intro Ba (And.intro hr (And.intro l0 hf)))))))
       clear hw HW HQ HO hr La l0 hf Ja hk Ia Aa Ga Ca Da Ba h1 l1 hA
       go_wp2_with fail
       refine (zaa Ka).mono ?_
       rintro e w4 ⟨Pa,Na,Ma⟩
       obtain⟨hk,Ga,Ca,Da,Ba,hr,l0,hf⟩:=zaa HK
       obtain⟨gr,rfl,rfl⟩:=Na k hk
       have hb:=Ma
       have h4:=hr.keep hb
       obtain⟨k1,ck,n1,cn,t1,ct,a1,ca,Fa,_,_,p2,p3,_⟩:=h4.own Ha
       have l4:=l0.all hb
       have q0:=l4.cell 0
       have q1:=l4.cell 1
       have Ua:=l4.frozen 0
       have Sa:=l4.frozen 1
       have lX:=(l4.set 0 (.int .i64 l[k].parN)).set 1 (.int .i64 l[k].parR)
       have fX:=hf.trans ((Frm.ofBelow hb _).trans ((zal w4 w.heap.size 0 (.int .i64 l[k].parN)).trans (zal _ w.heap.size 1 (.int .i64 l[k].parR))))
       have HE:=hide (And.intro lX (And.intro fX (And.intro Ca (And.intro Da Ba))))
       clear hk Ga Ca Da Ba hr l0 hf h4 l4 lX fX HK Ka Pa Na Ma hb
       generalize l[k]=pk at *
       go_wp2_with fail
       go_roundw
       case rel=>exact⟨j+1,(pk.parN,pk.parR),by omega,by go_num,hide (by rw [show l.length-(j+1)=n by omega];exact (zaa HE).2.2.1.symm),hide (zaa HE).2.2.2.2,⟨k',(zaa HE).2.2.2.1⟩,(zaa HE).1,(zaa HE).2.1⟩
       case measure=>simp [intOf];omega
    ·have Aa:¬ ((iN,iR)=zaH∨(iN,iR)=zaw):=fun e=>by rcases e with e | e<;>exact z1 (Prod.mk.inj e).1
     have Oa:(iN == 0)=false:=by simpa using z1
     clear z1
     have Ha:k<l.length:=(posP_some.1 hk).1
     have Ga:2<=k:=by
      rcases Nat.lt_or_ge k 2 with h9 | h9
      ·exact absurd (((zaa HF).low hk).1 h9) Aa
      ·exact h9
     have Ca:=hw.symm.trans (zgp (n:=n) Ia Aa hk Ha)
     obtain⟨k',Da⟩:=(zaa HF).par k l[k] Ga (by simp [Ha])
     have Ba:=(hr.ids l[k] (List.getElem_mem Ha)).2
     have Ka:=hide (zcq hr (iN,iR) (zaa HO))
     unfold zbg at Ka
     have HK:=hide (And.intro hk (And.intro Ga (And.intro Ca (And.intro Da (And.intro Ba (And.intro hr (And.intro l0 hf)))))))
     clear hw HW HQ HO hr La l0 hf Ja hk Ia Aa Ga Ca Da Ba h1 l1 hA
     go_wp2_with fail
     refine (zaa Ka).mono ?_
     rintro e w4 ⟨Pa,Na,Ma⟩
     obtain⟨hk,Ga,Ca,Da,Ba,hr,l0,hf⟩:=zaa HK
     obtain⟨gr,rfl,rfl⟩:=Na k hk
     have hb:=Ma
     have h4:=hr.keep hb
     obtain⟨k1,ck,n1,cn,t1,ct,a1,ca,Fa,_,_,p2,p3,_⟩:=h4.own Ha
     have l4:=l0.all hb
     have q0:=l4.cell 0
     have q1:=l4.cell 1
     have Ua:=l4.frozen 0
     have Sa:=l4.frozen 1
     have lX:=(l4.set 0 (.int .i64 l[k].parN)).set 1 (.int .i64 l[k].parR)
     have fX:=hf.trans ((Frm.ofBelow hb _).trans ((zal w4 w.heap.size 0 (.int .i64 l[k].parN)).trans (zal _ w.heap.size 1 (.int .i64 l[k].parR))))
     have HE:=hide (And.intro lX (And.intro fX (And.intro Ca (And.intro Da Ba))))
     clear hk Ga Ca Da Ba hr l0 hf h4 l4 lX fX HK Ka Pa Na Ma hb
     generalize l[k]=pk at *
     go_wp2_with fail
     go_roundw
     case rel=>exact⟨j+1,(pk.parN,pk.parR),by omega,by go_num,hide (by rw [show l.length-(j+1)=n by omega];exact (zaa HE).2.2.1.symm),hide (zaa HE).2.2.2.2,⟨k',(zaa HE).2.2.2.1⟩,(zaa HE).1,(zaa HE).2.1⟩
     case measure=>simp [intOf];omega
  ·have Va:¬ (j:Int)<(l.length:Int):=by omega
   have hw:=zaa HW
   rw [show l.length-j=0 by omega]at hw
   have HE:=hide (zaa HQ (.returned (.bool false)) wr ⟨by rw [<-hw];rfl,Ja⟩)
   clear hw HW HQ hr La l0 hf Ja h1 l1 hA
   go_wp2_with fail
   exact zaa HE
end Go.Proofs.YtgjolijncmkkhaaGreatDoor
namespace Go.Proofs.YtgjolijncmkkhaaGreatDoor
open Go.RowKit
set_option linter.unusedVariables false
set_option maxRecDepth 100000
theorem zmw {l:List PlV} {i:Nat} {p:PlV} {id:IdV} (hp:l[i]? = some p):topI l i id=(decide (p.id=id) && decide (p.par=(0,0)) && decide (p.key.length=0) && zaG l id):=by
 unfold topI
 rw [hp]
theorem zwP:okI zaH:=⟨by kernel_rfl,by kernel_rfl⟩
theorem zuc:okI zaw:=⟨by kernel_rfl,by kernel_rfl⟩
set_option maxHeartbeats 6400000 in
theorem zsW {w0 w:Xk} {g mb gr:Nat} {c:Nat} {l:List PlV} {F:Xh} (h:FoQ w0 w g mb (some ⟨gr,0,none⟩) c l F) (hB0:Below w0.heap.size w0 w) (hG:Glo w) (h2:2<=l.length) :
  Calls Tryz.prog 88 #[.pointer (some ⟨g,0,none⟩)] w fun e w'=>e=.returned (.bool (topI l 0 zaH && topI l 1 zaw))∧FoQ w0 w' g mb (some ⟨gr,0,none⟩) c l F∧Frm w w' [g]:=by
 refine zaF ?_
 intro Q HQ
 obtain⟨y0,y1,y2,y3⟩:=hG
 have hA:=(Below.refl w.heap.size w).alloc (Nat.le_refl _) (.cells #[.int .i64 0,.int .i64 0,.int .i64 0,.int .i64 1] 50)
 have ls:=Loc.made w #[.int .i64 0,.int .i64 0,.int .i64 0,.int .i64 1] 50
 have Ra:g<w.heap.size:=h.set.lt
 have HX:=hide (And.intro hA (And.intro ls (And.intro (h.keep hA) (And.intro hB0 Ra))))
 have Xa:=h.geg
 clear hA ls h hB0 Ra
 go_enter Tryz.func88,Tryz.ntmps88
 go_wp2_with fail
 obtain⟨hA,ls,h1,hB0,Ra⟩:=zaa HX
 clear HX y0 y1 y2 y3
 generalize (w.alloc (.cells #[.int .i64 0,.int .i64 0,.int .i64 0,.int .i64 1] 50))=w1 at *
 have Ya:=ls.lt
 have Da:=hB0.trans (hA.mono hB0.size)
 go_loopw [10] (fun i wr=>∃j:Nat,j<=2∧i=.int .i64 (j:Int)∧(0<j->topI l 0 zaH=true)∧(1<j->topI l 1 zaw=true)∧FoQ w0 wr g mb (some ⟨gr,0,none⟩) c l F∧Frm w1 wr [g]) (fun i _=>2-(intOf i).toNat)
 case atStart=>exact⟨0,by omega,rfl,fun h=>by omega,fun h=>by omega,h1,Frm.refl _ _⟩
 case round=>
  obtain⟨j,hj,rfl,Oa,Pa,hq,hf⟩:=hrel
  have Ba:Below w0.heap.size w0 wr:=Da.trans (hf.below Da.size (fun q hq=>by simp at hq;omega))
  have Ma:=ls.frm hf (by simp;omega)
  have Va:=hf.size
  have Za:g<wr.heap.size:=by omega
  obtain⟨cs,lg,Ta,_⟩:=hq.set.loc
  have g0:wr.cell? ⟨g,0,none⟩=some (.slice (some ⟨gr,0,none⟩) l.length c):=(lg.cell 0).trans Ta
  clear lg Ta
  have Ka:j=0∨j=1∨j=2:=by omega
  rcases Ka with rfl | rfl | rfl
  ·have hJ:0<l.length:=by omega
   obtain⟨k1,ck,n1,cn,t1,ct,a1,ca,-,e0,e1,e2,e3,e4,e5,e6,e7,e8,r1,r2,r3,r4⟩:=hq.own (k:=0) hJ
   have hp:l[0]? = some l[0]:=by simp [hJ]
   generalize l[0]=p at *
   clear r1 r2 r3 r4
   have Ca:=zmw (id:=zaH) hp
   have Wa:((0:Nat):Int)<(l.length:Int):=by omega
   have s0:=Ma.cell 0
   have s1:=Ma.cell 1
   simp at s0 s1
   simp only [Nat.zero_mul,Nat.zero_add]at e0 e1 e2 e3 e4 e5 e6 e7 e8
   have Sa:gr<wr.heap.size:=zbs e0
   have li:=(Loc.made wr #[.int .i64 0,.int .i64 0] 50).alloc (.cells #[.int .i64 p.idN,.int .i64 p.idR,.int .i64 p.parN,.int .i64 p.parR,.slice k1 p.key.length ck,.int .i64 p.kind,.slice n1 p.name.length cn,.slice t1 p.text.length ct,.slice a1 p.attrs.length ca] 146)
   have lp:=Loc.made (wr.alloc (.cells #[.int .i64 0,.int .i64 0] 50)) #[.int .i64 p.idN,.int .i64 p.idR,.int .i64 p.parN,.int .i64 p.parR,.slice k1 p.key.length ck,.int .i64 p.kind,.slice n1 p.name.length cn,.slice t1 p.text.length ct,.slice a1 p.attrs.length ca] 146
   have Ja:Below wr.heap.size wr ((wr.alloc (.cells #[.int .i64 0,.int .i64 0] 50)).alloc (.cells #[.int .i64 p.idN,.int .i64 p.idR,.int .i64 p.parN,.int .i64 p.parR,.slice k1 p.key.length ck,.int .i64 p.kind,.slice n1 p.name.length cn,.slice t1 p.text.length ct,.slice a1 p.attrs.length ca] 146)):=((Below.refl _ _).alloc (Nat.le_refl _) _).alloc (by simp) _
   have Na:=hq.keep Ja
   have Fa:=Ba.trans (Ja.mono Ba.size)
   have Qa:=hf.trans (Frm.ofBelow Ja [g])
   have HT:=hide (zhH Na Fa zaH zwP)
   have HB:=hide (And.intro Na Qa)
   have HF:=hide (fun (hh:topI l 0 zaH=false) W (hq:FoQ w0 W g mb (some ⟨gr,0,none⟩) c l F) (hf:Frm w1 W [g])=>(show Q (.returned (.bool false)) W by
    have:=zaa HQ (.returned (.bool (topI l 0 zaH && topI l 1 zaw))) W ⟨rfl,hq,(Frm.ofBelow hA [g]).trans hf⟩
    rw [hh,Bool.false_and]at this
    exact this))
   have Aa:=hide Ca
   have Ua:=hide (And.intro Oa Pa)
   clear li lp Ja Na Fa Qa hq hf hp Ma Ca Oa Pa h1 ls Ba hB0 Da hA
   generalize hnK:p.key.length=nK at *
   clear hnK
   by_cases q1:p.idN=0
   case neg=>
    have d1:(p.idN == 0)=false:=by simpa using q1
    have HE:=hide (zaa HF (by rw [zaa Aa,decide_eq_false (show ¬ p.id=zaH from fun e=>q1 (Prod.mk.inj e).1)];rfl) _ (zaa HB).1 (zaa HB).2)
    clear q1
    go_wp2_with fail
    exact zaa HE
   by_cases q2:p.idR=0
   case neg=>
    have d1:(p.idN == 0)=true:=by simpa using q1
    have d2:(p.idR == 0)=false:=by simpa using q2
    have HE:=hide (zaa HF (by rw [zaa Aa,decide_eq_false (show ¬ p.id=zaH from fun e=>q2 (Prod.mk.inj e).2)];rfl) _ (zaa HB).1 (zaa HB).2)
    clear q1 q2
    go_wp2_with fail
    exact zaa HE
   have d1:(p.idN == 0)=true:=by simpa using q1
   have d2:(p.idR == 0)=true:=by simpa using q2
   have Ga:decide (p.id=zaH)=true:=decide_eq_true (show (p.idN,p.idR)=_ by rw [q1,q2];rfl)
   rw [Ga,Bool.true_and]at Aa
   clear Ga q1 q2
   by_cases q3:p.parN=0
   case neg=>
    have d3:(p.parN == 0)=false:=by simpa using q3
    have HE:=hide (zaa HF (by rw [zaa Aa,decide_eq_false (show ¬ p.par=(0,0) from fun e=>q3 (Prod.mk.inj e).1)];rfl) _ (zaa HB).1 (zaa HB).2)
    clear q3
    go_wp2_with fail
    exact zaa HE
   by_cases q4:p.parR=0
   case neg=>
    have d3:(p.parN == 0)=true:=by simpa using q3
    have d4:(p.parR == 0)=false:=by simpa using q4
    have HE:=hide (zaa HF (by rw [zaa Aa,decide_eq_false (show ¬ p.par=(0,0) from fun e=>q4 (Prod.mk.inj e).2)];rfl) _ (zaa HB).1 (zaa HB).2)
    clear q3 q4
    go_wp2_with fail
    exact zaa HE
   have d3:(p.parN == 0)=true:=by simpa using q3
   have d4:(p.parR == 0)=true:=by simpa using q4
   have Ga:decide (p.par=(0,0))=true:=decide_eq_true (show (p.parN,p.parR)=_ by rw [q3,q4])
   rw [Ga,Bool.true_and]at Aa
   clear Ga q3 q4
   by_cases q5:nK=0
   case neg=>
    have d5:0<nK:=by omega
    have HE:=hide (zaa HF (by rw [zaa Aa,decide_eq_false q5];rfl) _ (zaa HB).1 (zaa HB).2)
    clear q5
    go_wp2_with fail
    exact zaa HE
   subst q5
   rw [show decide ((0:Nat)=0)=true from rfl,Bool.true_and]at Aa
   unfold zbg at HT
   go_wp2_with fail
   refine (zaa HT).mono ?_
   rintro e W ⟨rfl,Ia,La⟩
   have Ha:=(zaa HB).2.trans La
   have Ca:=zaa Aa
   rw [<-Ca]
   clear HT HB
   cases htv:topI l 0 zaH with
   | false=>
    have HE:=hide (zaa HF htv W Ia Ha)
    clear Ia Ha La Ca htv
    go_wp2_with fail
    exact zaa HE
   | true=>
    have HE:=hide (And.intro Ia Ha)
    have HV:=hide htv
    clear Ia Ha La Ca htv
    go_wp2_with fail
    go_roundw
    case rel=>exact⟨0+1,by omega,by go_num,fun _=>zaa HV,fun h=>by omega,(zaa HE).1,(zaa HE).2⟩
    case measure=>simp [intOf]
  ·have hJ:1<l.length:=by omega
   obtain⟨k1,ck,n1,cn,t1,ct,a1,ca,-,e0,e1,e2,e3,e4,e5,e6,e7,e8,r1,r2,r3,r4⟩:=hq.own (k:=1) hJ
   have hp:l[1]? = some l[1]:=by simp [hJ]
   generalize l[1]=p at *
   clear r1 r2 r3 r4
   have Ca:=zmw (id:=zaw) hp
   have Wa:((1:Nat):Int)<(l.length:Int):=by omega
   have s0:=Ma.cell 2
   have s1:=Ma.cell 3
   simp at s0 s1
   simp only [Nat.one_mul]at e0 e1 e2 e3 e4 e5 e6 e7 e8
   have Sa:gr<wr.heap.size:=zbs e0
   have li:=(Loc.made wr #[.int .i64 0,.int .i64 1] 50).alloc (.cells #[.int .i64 p.idN,.int .i64 p.idR,.int .i64 p.parN,.int .i64 p.parR,.slice k1 p.key.length ck,.int .i64 p.kind,.slice n1 p.name.length cn,.slice t1 p.text.length ct,.slice a1 p.attrs.length ca] 146)
   have lp:=Loc.made (wr.alloc (.cells #[.int .i64 0,.int .i64 1] 50)) #[.int .i64 p.idN,.int .i64 p.idR,.int .i64 p.parN,.int .i64 p.parR,.slice k1 p.key.length ck,.int .i64 p.kind,.slice n1 p.name.length cn,.slice t1 p.text.length ct,.slice a1 p.attrs.length ca] 146
   have Ja:Below wr.heap.size wr ((wr.alloc (.cells #[.int .i64 0,.int .i64 1] 50)).alloc (.cells #[.int .i64 p.idN,.int .i64 p.idR,.int .i64 p.parN,.int .i64 p.parR,.slice k1 p.key.length ck,.int .i64 p.kind,.slice n1 p.name.length cn,.slice t1 p.text.length ct,.slice a1 p.attrs.length ca] 146)):=((Below.refl _ _).alloc (Nat.le_refl _) _).alloc (by simp) _
   have Na:=hq.keep Ja
   have Fa:=Ba.trans (Ja.mono Ba.size)
   have Qa:=hf.trans (Frm.ofBelow Ja [g])
   have HT:=hide (zhH Na Fa zaw zuc)
   have HB:=hide (And.intro Na Qa)
   have HF:=hide (fun (hh:topI l 1 zaw=false) W (hq:FoQ w0 W g mb (some ⟨gr,0,none⟩) c l F) (hf:Frm w1 W [g])=>(show Q (.returned (.bool false)) W by
    have:=zaa HQ (.returned (.bool (topI l 0 zaH && topI l 1 zaw))) W ⟨rfl,hq,(Frm.ofBelow hA [g]).trans hf⟩
    rw [hh,Bool.and_false]at this
    exact this))
   have Aa:=hide Ca
   have Ua:=hide (And.intro Oa Pa)
   clear li lp Ja Na Fa Qa hq hf hp Ma Ca Oa Pa h1 ls Ba hB0 Da hA
   generalize hnK:p.key.length=nK at *
   clear hnK
   by_cases q1:p.idN=0
   case neg=>
    have d1:(p.idN == 0)=false:=by simpa using q1
    have HE:=hide (zaa HF (by rw [zaa Aa,decide_eq_false (show ¬ p.id=zaw from fun e=>q1 (Prod.mk.inj e).1)];rfl) _ (zaa HB).1 (zaa HB).2)
    clear q1
    go_wp2_with fail
    exact zaa HE
   by_cases q2:p.idR=1
   case neg=>
    have d1:(p.idN == 0)=true:=by simpa using q1
    have d2:(p.idR == 1)=false:=by simpa using q2
    have HE:=hide (zaa HF (by rw [zaa Aa,decide_eq_false (show ¬ p.id=zaw from fun e=>q2 (Prod.mk.inj e).2)];rfl) _ (zaa HB).1 (zaa HB).2)
    clear q1 q2
    go_wp2_with fail
    exact zaa HE
   have d1:(p.idN == 0)=true:=by simpa using q1
   have d2:(p.idR == 1)=true:=by simpa using q2
   have Ga:decide (p.id=zaw)=true:=decide_eq_true (show (p.idN,p.idR)=_ by rw [q1,q2];rfl)
   rw [Ga,Bool.true_and]at Aa
   clear Ga q1 q2
   by_cases q3:p.parN=0
   case neg=>
    have d3:(p.parN == 0)=false:=by simpa using q3
    have HE:=hide (zaa HF (by rw [zaa Aa,decide_eq_false (show ¬ p.par=(0,0) from fun e=>q3 (Prod.mk.inj e).1)];rfl) _ (zaa HB).1 (zaa HB).2)
    clear q3
    go_wp2_with fail
    exact zaa HE
   by_cases q4:p.parR=0
   case neg=>
    have d3:(p.parN == 0)=true:=by simpa using q3
    have d4:(p.parR == 0)=false:=by simpa using q4
    have HE:=hide (zaa HF (by rw [zaa Aa,decide_eq_false (show ¬ p.par=(0,0) from fun e=>q4 (Prod.mk.inj e).2)];rfl) _ (zaa HB).1 (zaa HB).2)
    clear q3 q4
    go_wp2_with fail
    exact zaa HE
   have d3:(p.parN == 0)=true:=by simpa using q3
   have d4:(p.parR == 0)=true:=by simpa using q4
   have Ga:decide (p.par=(0,0))=true:=decide_eq_true (show (p.parN,p.parR)=_ by rw [q3,q4])
   rw [Ga,Bool.true_and]at Aa
   clear Ga q3 q4
   by_cases q5:nK=0
   case neg=>
    have d5:0<nK:=by omega
    have HE:=hide (zaa HF (by rw [zaa Aa,decide_eq_false q5];rfl) _ (zaa HB).1 (zaa HB).2)
    clear q5
    go_wp2_with fail
    exact zaa HE
   subst q5
   rw [show decide ((0:Nat)=0)=true from rfl,Bool.true_and]at Aa
   unfold zbg at HT
   go_wp2_with fail
   refine (zaa HT).mono ?_
   rintro e W ⟨rfl,Ia,La⟩
   have Ha:=(zaa HB).2.trans La
   have Ca:=zaa Aa
   rw [<-Ca]
   clear HT HB
   cases htv:topI l 1 zaw with
   | false=>
    have HE:=hide (zaa HF htv W Ia Ha)
    clear Ia Ha La Ca htv
    go_wp2_with fail
    exact zaa HE
   | true=>
    have HE:=hide (And.intro Ia Ha)
    have HV:=hide htv
    clear Ia Ha La Ca htv
    go_wp2_with fail
    go_roundw
    case rel=>exact⟨1+1,by omega,by go_num,fun _=>(zaa Ua).1 (by omega),fun _=>zaa HV,(zaa HE).1,(zaa HE).2⟩
    case measure=>simp [intOf]
  ·have HE:=hide (zaa HQ (.returned (.bool (topI l 0 zaH && topI l 1 zaw))) wr ⟨rfl,hq,(Frm.ofBelow hA [g]).trans hf⟩)
   rw [Oa (by omega),Pa (by omega)]at HE
   clear hq hf h1 ls Ma Ba hB0 Da hA g0
   go_wp2_with fail
   exact zaa HE
theorem zsG (w:Xk) (a:Xi) (n cap:Nat) (h:n<1∨12<n) :
  Calls Tryz.prog 119 #[.slice a n cap] w fun e w'=>e=.returned (.bool false)∧w'=w:=by
 by_cases h1:n<1
 ·have Aa:(n:Int)<1:=by omega
  go_enter Tryz.func119,Tryz.ntmps119
  go_wp2
  go_ret
  exact⟨rfl,rfl⟩
 ·have Aa:decide ((n:Int)<1)=false:=by simp;omega
  have h2:(12:Int)<(n:Int):=by omega
  go_enter Tryz.func119,Tryz.ntmps119
  go_wp2
  go_ret
  exact⟨rfl,rfl⟩
open Classical in
set_option maxHeartbeats 1600000 in
theorem zwJ (w:Xk) (b off cap:Nat) (l:Xg) (hok:okZ l) (h1:1<=l.length) (h8:l.length<=12)
  (hc:∀i,i<l.length->w.cell? ⟨b,off+i,none⟩=some (.int .i64 (l.getD i 0))) :
  Calls Tryz.prog 119 #[.slice (some ⟨b,off,none⟩) l.length cap] w fun e w'=>e=.returned (.bool (decide (zfv l)))∧w'=w:=by
 have d1:decide ((l.length:Int)<1)=false:=by simp;omega
 have d2:decide ((12:Int)<(l.length:Int))=false:=by simp;omega
 obtain⟨n,hn⟩:∃n,l.length=n+1:=⟨l.length-1,by omega⟩
 obtain⟨z,hz⟩:∃z,z=l.getD n 0:=⟨_,rfl⟩
 have Ca:w.cell? ⟨b,off+n,none⟩=some (.int .i64 z):=by rw [hz];exact hc _ (by omega)
 have HZ:=hide hz
 have HC:=hide hc
 have HN:=hide hn
 have e1:(l.length:Int)-1=(n:Int):=by omega
 have Ba:n<l.length:=by omega
 clear hc hz hn
 go_enter Tryz.func119,Tryz.ntmps119
 go_wp2
 go_loop [15] (fun i=>∃k:Nat,k<=l.length∧i=.int .i64 k∧zdy zgt l k) (fun i=>l.length-(intOf i).toNat)
 case atStart=>exact⟨0,Nat.zero_le _,rfl,fun i hi=>by omega⟩
 case round=>
  obtain⟨k,hk,rfl,ha⟩:=hrel
  have HA:=hide ha
  clear ha
  by_cases hlt:k<l.length
  ·obtain⟨x,hx⟩:∃x,x=l.getD k 0:=⟨_,rfl⟩
   have Fa:w.cell? ⟨b,off+k,none⟩=some (.int .i64 x):=by rw [hx];exact zaa HC _ hlt
   have HX:=hide hx
   have Da:(k:Int)<(l.length:Int):=by omega
   clear hx Ca
   by_cases hn:zgt k x
   ·have HN:=hide hn
    have q1:decide (x<0)=false:=by unfold zgt at hn;simp;omega
    have q2:decide (999<x)=false:=by unfold zgt at hn;simp;omega
    clear hn
    go_wp2
    go_round
    case rel=>exact⟨k+1,by omega,by go_num,zdi (zaa HA) (by rw [<-zaa HX];exact zaa HN)⟩
    case measure=>simp [intOf];omega
   ·have HF:=hide (show decide (zfv l)=false by
     simp only [decide_eq_false_iff_not]
     rintro⟨_,_,_,h⟩
     exact hn (by rw [zaa HX];exact h k hlt))
    have Aa:decide (x<0)=true∨(decide (x<0)=false∧decide (999<x)=true):=by
     unfold zgt at hn;simp;omega
    clear hn
    rcases Aa with q1 | ⟨q1,q2⟩
    all_goals
     go_wp2
     go_ret
     exact⟨by rw [zaa HF];rfl,rfl⟩
  ·have e:k=l.length:=by omega
   subst e
   by_cases hz0:z=0
   ·have HF:=hide (show decide (zfv l)=false by
     simp only [decide_eq_false_iff_not]
     rintro⟨_,_,h,_⟩
     rw [zaa HN,Nat.add_sub_cancel,<-zaa HZ]at h
     exact h hz0)
    have dz:(z != 0)=false:=by simp [hz0]
    clear hz0
    go_wp2
    go_ret
    exact⟨by rw [zaa HF];rfl,rfl⟩
   ·have HF:=hide (show decide (zfv l)=true by
     simp only [decide_eq_true_eq]
     exact⟨h1,h8,by rw [zaa HN,Nat.add_sub_cancel,<-zaa HZ];exact hz0,zaa HA⟩)
    have dz:(z != 0)=true:=by simp [hz0]
    clear hz0
    go_wp2
    go_ret
    exact⟨by rw [zaa HF];rfl,rfl⟩
open Classical in
theorem zwh (w:Xk) (v:Xl) (l:Xg) (h:Ints w v l) :
  Calls Tryz.prog 119 #[v] w fun e w'=>e=.returned (.bool (decide (zfv l)))∧w'=w:=by
 by_cases hl:l.length<1∨12<l.length
 ·obtain⟨a,Aa,rfl,_⟩:=h.shape
  have hd:decide (zfv l)=false:=by simp only [decide_eq_false_iff_not];rintro⟨_,_,_⟩;omega
  rw [hd]
  exact zsG w a _ Aa hl
 ·obtain⟨Ca,hm,⟨rfl,rfl⟩ | ⟨x,Aa,rfl,hc,rfl⟩ | ⟨b,Ba,Aa,rfl,_,_,_,_,h5⟩⟩:=h
  ·simp at hl
  ·simp at hl
  ·exact zwJ w b Ba Aa l Ca (by omega) (by omega) h5
theorem zAc (w:Xk) (v:Xl) (l:Xg) (h:Ints w v l):Calls Tryz.prog 119 #[v] w fun e w'=>e=.returned (.bool (keyB l))∧w'=w:=by
 refine (zwh w v l h).mono ?_
 rintro e w' ⟨rfl,h⟩
 refine⟨?_,h⟩
 by_cases hn:zfv l
 ·rw [(zqb l).2 hn];simp [hn]
 ·rw [Bool.eq_false_iff.2 (fun k=>hn ((zqb l).1 k))];simp [hn]
theorem zkw {l:List PlV} {f:Nat->PlV->Bool} {i:Nat} {p:PlV} (hp:l[i]? = some p) (h:f i p=false):zbj l f=false:=by
 rw [Bool.eq_false_iff]
 intro h'
 rw [(zaZ l f).1 h' i p hp]at h
 cases h
theorem zkv {l:List PlV} {i:Nat} {p:PlV} (h:2<=i):zbv l i p=(keyB p.key && zaG l p.par):=by unfold zbv;rw [decide_eq_false (by omega),Bool.false_or]
theorem zwY {l:List PlV} {i:Nat} {p:PlV} (h:2<=i):zbz l i p = !zaK l l.length p.par p.id:=by unfold zbz;rw [decide_eq_false (by omega),Bool.false_or]
theorem zpx {l:List PlV} {i:Nat} {p:PlV} (h:i<2):zbv l i p=true:=by unfold zbv;rw [decide_eq_true h,Bool.true_or]
theorem zpk {l:List PlV} {i:Nat} {p:PlV} (h:i<2):zbz l i p=true:=by unfold zbz;rw [decide_eq_true h,Bool.true_or]
set_option maxHeartbeats 6400000 in
theorem zpw {w0 w:Xk} {g mb gr:Nat} {c:Nat} {l:List PlV} {F:Xh} (h:FoQ w0 w g mb (some ⟨gr,0,none⟩) c l F) (hB0:Below w0.heap.size w0 w) (hG:Glo w) (h2:2<=l.length) (hgw2:2<=g) (hr:∀p,l[0]? = some p->p.id=zaH) (ht:∀p,l[1]? = some p->p.id=zaw) (hu:(l.map PlV.id).Nodup) :
  Calls Tryz.prog 89 #[.pointer (some ⟨g,0,none⟩)] w fun e w'=>e=.returned (.bool (zbj l (zbv l) && zbj l (zbz l)))∧FoQ w0 w' g mb (some ⟨gr,0,none⟩) c l F∧Frm w w' [g]:=by
 refine zaF ?_
 intro Q HQ
 obtain⟨cs,lg,ba,_⟩:=h.set.loc
 have g0:w.cell? ⟨g,0,none⟩=some (.slice (some ⟨gr,0,none⟩) l.length c):=(lg.cell 0).trans ba
 have ka:l.length<=c:=by
  obtain⟨_,_,_,_,_,Va,_⟩:=h.row
  rcases Va.2 with ⟨e,_⟩ | ⟨g',la,pa,e,_,_,hn,_⟩
  ·cases e
  ·injection e with _ _ e3;omega
 have oa:=h.geg
 have na:g<w.heap.size:=h.set.lt
 have z2:(2:Int)<=(l.length:Int):=by omega
 have zc:(l.length:Int)<=(c:Int):=by omega
 have HX:=hide (And.intro h (And.intro hB0 hG))
 clear h hB0 hG lg ba
 by_cases hc2:c=2
 ·have qa:l.length-2=0:=by omega
  have HE:=hide (zaa HQ (.returned (.bool (zbj l (zbv l) && zbj l (zbz l)))) w ⟨rfl,(zaa HX).1,Frm.refl _ _⟩)
  rw [(zaZ l _).2 (fun i p hp=>zpx (by have:=(List.getElem?_eq_some_iff.1 hp).1;omega)),(zaZ l _).2 (fun i p hp=>zpk (by have:=(List.getElem?_eq_some_iff.1 hp).1;omega))]at HE
  subst hc2
  go_enter Tryz.func89,Tryz.ntmps89
  go_wp2_with fail
  refine wp_loop_rounds 1 ?_
  rw [rounds_succ]
  go_wp2_with fail
  refine wp_loop_rounds 1 ?_
  rw [rounds_succ]
  go_wp2_with fail
  exact zaa HE
 obtain⟨m,hm⟩:∃m,l.length=m+2:=⟨l.length-2,by omega⟩
 have aa:l.length-2=m:=by omega
 have ga:=hide hm
 have ma:m<=100000:=by have:=(zaa HX).1.len;omega
 clear hm
 go_enter Tryz.func89,Tryz.ntmps89
 go_wp2_with fail
 obtain⟨h,hB0,hG⟩:=zaa HX
 clear g0
 try rw [aa]
 clear aa
 go_loopw [15] (fun i wr=>∃j:Nat,j<=m∧i=.int .i64 (j:Int)∧(∀i p,i<j+2->l[i]? = some p->zbv l i p=true)∧FoQ w0 wr g mb (some ⟨gr,0,none⟩) c l F∧Frm w wr [g]) (fun i _=>m-(intOf i).toNat)
 case atStart=>exact⟨0,Nat.zero_le _,rfl,fun i p hi hp=>zpx (by omega),h,Frm.refl _ _⟩
 case round=>
  obtain⟨j,hj,rfl,Ha,hq,hf⟩:=hrel
  have hm:=zaa ga
  have Ba:Below w0.heap.size w0 wr:=hB0.trans (hf.below hB0.size (fun q hq=>by simp at hq;omega))
  have ia:=hf.size
  by_cases hlt:j<m
  ·have Na:j+2<l.length:=by omega
   obtain⟨k1,ck,n1,cn,t1,ct,a1,ca,-,e0,e1,e2,e3,e4,e5,e6,e7,e8,r1,r2,r3,r4⟩:=hq.own Na
   rw [show (j+2)*9=18+j*9 by omega]at e0 e1 e2 e3 e4 e5 e6 e7 e8
   have hp:l[j+2]? = some l[j+2]:=by simp [Na]
   have Ca:=hq.ids l[j+2] (List.getElem_mem _)
   generalize l[j+2]=p at *
   have Ua:(j:Int)<(m:Int):=by omega
   have ja:(0:Int)<=(j:Int):=by omega
   have Ta:gr<wr.heap.size:=zbs e0
   have lp:=Loc.made wr #[.int .i64 p.idN,.int .i64 p.idR,.int .i64 p.parN,.int .i64 p.parR,.slice k1 p.key.length ck,.int .i64 p.kind,.slice n1 p.name.length cn,.slice t1 p.text.length ct,.slice a1 p.attrs.length ca] 146
   have Fa:Below wr.heap.size wr (wr.alloc (.cells #[.int .i64 p.idN,.int .i64 p.idR,.int .i64 p.parN,.int .i64 p.parR,.slice k1 p.key.length ck,.int .i64 p.kind,.slice n1 p.name.length cn,.slice t1 p.text.length ct,.slice a1 p.attrs.length ca] 146)):=(Below.refl _ _).alloc (Nat.le_refl _) _
   have La:=hq.keep Fa
   have Da:=Ba.trans (Fa.mono Ba.size)
   have Qa:=hf.trans (Frm.ofBelow Fa [g])
   obtain⟨x0,x1,x2,x3,x4,x5,x6,x7,x8⟩:=zfP lp _ _ _ _ _ _ _ _ _ rfl
   clear hm
   have Ga:=zkv (l:=l) (p:=p) (show 2<=j+2 by omega)
   have HK:=hide (fun (hh:zbv l (j+2) p=true) i q (hi:i<j+1+2) (hq:l[i]? = some q)=>(show zbv l i q=true by
    rcases Nat.lt_or_ge i (j+2)with h1 | h1
    ·exact Ha i q h1 hq
    ·have e:i=j+2:=by omega
     subst e
     rw [hp]at hq
     exact Option.some.inj hq ▸ hh))
   have HF:=hide (fun (hh:zbv l (j+2) p=false) W (hq:FoQ w0 W g mb (some ⟨gr,0,none⟩) c l F) (hf:Frm w W [g])=>(show Q (.returned (.bool false)) W by
    have:=zaa HQ (.returned (.bool (zbj l (zbv l) && zbj l (zbz l)))) W ⟨rfl,hq,hf⟩
    rw [zkw hp hh,Bool.false_and]at this
    exact this))
   have ea:=hide (zAc _ _ p.key (r1.keep Da))
   have HT:=hide (zhH La Da p.par Ca.2)
   have HB:=hide (And.intro La Qa)
   clear r1 r2 r3 r4 lp Fa La Da Qa hq hf hp Ha Ca Ba hB0 h
   unfold zbg at HT
   go_wp2_with fail
   refine (zaa ea).mono ?_
   rintro e W ⟨rfl,rfl⟩
   clear ea
   cases hkb:keyB p.key with
   | false=>
    have HE:=hide (zaa HF (by rw [Ga,hkb];rfl) _ (zaa HB).1 (zaa HB).2)
    clear Ga hkb
    go_wp2_with fail
    exact zaa HE
   | true=>
    rw [hkb,Bool.true_and]at Ga
    have Za:=hide Ga
    clear Ga hkb
    go_wp2_with fail
    refine (zaa HT).mono ?_
    rintro e W ⟨rfl,Ja,Ra⟩
    have Ia:=(zaa HB).2.trans Ra
    rw [<-zaa Za]
    clear HT HB Za
    cases htv:zbv l (j+2) p with
    | false=>
     have HE:=hide (zaa HF htv W Ja Ia)
     clear Ja Ia Ra htv
     go_wp2_with fail
     exact zaa HE
    | true=>
     have HE:=hide (And.intro Ja Ia)
     have HV:=hide (zaa HK htv)
     clear Ja Ia Ra htv
     go_wp2_with fail
     go_roundw
     case rel=>exact⟨j+1,by omega,by go_num,zaa HV,(zaa HE).1,(zaa HE).2⟩
     case measure=>simp [intOf];omega
  ·have Xa:¬ (j:Int)<(m:Int):=by omega
   have Aa:∀i p,l[i]? = some p->zbv l i p=true:=fun i p hp=>Ha i p (by have:=(List.getElem?_eq_some_iff.1 hp).1;omega) hp
   have Ma:FrW l:=⟨h2,hr,ht,hu,fun i p hi hp=>by
    have:=Aa i p hp
    rw [zkv hi,Bool.and_eq_true]at this
    exact zdk this.2⟩
   have fa:zbj l (zbv l)=true:=(zaZ l _).2 Aa
   have Ka:=hG.frm hf (fun q hq=>by simp at hq;omega)
   have da:=hide (fun e W (hh:e=.returned (.bool (zbj l (zbz l)))∧FoQ w0 W g mb (some ⟨gr,0,none⟩) c l F∧Frm w W [g])=>zaa HQ e W ⟨by rw [fa,Bool.true_and];exact hh.1,hh.2.1,hh.2.2⟩)
   have HY:=hide (And.intro hq (And.intro hf (And.intro Ba (And.intro Ka (And.intro Aa Ma)))))
   clear Ha fa Aa Ma Ka hq hf Ba hB0 h hG hm HQ
   go_wp2_with fail
   obtain⟨hq,hf,Ba,Ka,Aa,Ma⟩:=zaa HY
   clear HY
   generalize wr=w5 at *
   go_loopw [33] (fun i ha=>∃j':Nat,j'<=m∧i=.int .i64 (j':Int)∧(∀i p,i<j' + 2->l[i]? = some p->zbz l i p=true)∧Below w5.heap.size w5 ha) (fun i _=>m-(intOf i).toNat)
   case atStart=>exact⟨0,Nat.zero_le _,rfl,fun i p hi hp=>zpk (by omega),Below.refl _ _⟩
   case round=>
    clear Xa hlt hj
    obtain⟨j,hj,rfl,Ha,Pa⟩:=hrel
    have hm:=zaa ga
    replace hq:=hq.keep Pa
    replace hf:=hf.trans (Frm.ofBelow Pa [g])
    replace Ba:=Ba.trans (Pa.mono Ba.size)
    replace Ka:=Ka.keep Pa
    by_cases hlt:j<m
    ·have Na:j+2<l.length:=by omega
     obtain⟨k1,ck,n1,cn,t1,ct,a1,ca,-,e0,e1,e2,e3,e4,e5,e6,e7,e8,r1,r2,r3,r4⟩:=hq.own Na
     rw [show (j+2)*9=18+j*9 by omega]at e0 e1 e2 e3 e4 e5 e6 e7 e8
     have hp:l[j+2]? = some l[j+2]:=by simp [Na]
     have Ca:=hq.ids l[j+2] (List.getElem_mem _)
     generalize l[j+2]=p at *
     have Ua:(j:Int)<(m:Int):=by omega
     have ja:(0:Int)<=(j:Int):=by omega
     have Ta:gr<wr.heap.size:=zbs e0
     have lp:=Loc.made wr #[.int .i64 p.idN,.int .i64 p.idR,.int .i64 p.parN,.int .i64 p.parR,.slice k1 p.key.length ck,.int .i64 p.kind,.slice n1 p.name.length cn,.slice t1 p.text.length ct,.slice a1 p.attrs.length ca] 146
     have Fa:Below wr.heap.size wr (wr.alloc (.cells #[.int .i64 p.idN,.int .i64 p.idR,.int .i64 p.parN,.int .i64 p.parR,.slice k1 p.key.length ck,.int .i64 p.kind,.slice n1 p.name.length cn,.slice t1 p.text.length ct,.slice a1 p.attrs.length ca] 146)):=(Below.refl _ _).alloc (Nat.le_refl _) _
     have La:=hq.keep Fa
     have Da:=Ba.trans (Fa.mono Ba.size)
     have Qa:=hf.trans (Frm.ofBelow Fa [g])
     obtain⟨x0,x1,x2,x3,x4,x5,x6,x7,x8⟩:=zfP lp _ _ _ _ _ _ _ _ _ rfl
     clear hm
     have Ga:=zwY (l:=l) (p:=p) (show 2<=j+2 by omega)
     have Wa:=Aa _ _ hp
     rw [zkv (by omega),Bool.and_eq_true]at Wa
     obtain⟨kp,Ya⟩:=zdk Wa.2
     have HK:=hide (fun (hh:zbz l (j+2) p=true) i q (hi:i<j+1+2) (hq:l[i]? = some q)=>(show zbz l i q=true by
      rcases Nat.lt_or_ge i (j+2)with h1 | h1
      ·exact Ha i q h1 hq
      ·have e:i=j+2:=by omega
       subst e
       rw [hp]at hq
       exact Option.some.inj hq ▸ hh))
     have HF:=hide (fun (hh:zbz l (j+2) p=false) W (hq:FoQ w0 W g mb (some ⟨gr,0,none⟩) c l F) (hf:Frm w W [g])=>(show Q (.returned (.bool false)) W by
      have:=zaa da (.returned (.bool (zbj l (zbz l)))) W ⟨rfl,hq,hf⟩
      rw [zkw hp hh]at this
      exact this))
     have HT:=hide (zqQ La Ma (Ka.keep Fa) p.par p.id Ca.2 kp Ya)
     have HB:=hide (And.intro La (And.intro Qa (zam Pa Fa)))
     have HY:=hide (And.intro Aa Ma)
     clear r1 r2 r3 r4 lp Fa La Da Qa hq hf hp Ha Ca Ba Aa Ma Wa Ya Ka
     unfold zbg at HT
     go_wp2_with fail
     refine (zaa HT).mono ?_
     rintro e W ⟨rfl,Oa⟩
     have Ja:=(zaa HB).1.keep Oa
     have Ia:=(zaa HB).2.1.trans (Frm.ofBelow Oa [g])
     have Sa:=zam (zaa HB).2.2 Oa
     clear HT HB
     cases htv:zaK l l.length p.par p.id with
     | true=>
      have HE:=hide (zaa HF (by rw [Ga,htv];rfl) W Ja Ia)
      clear Ja Ia Sa Oa htv Ga
      go_wp2_with fail
      exact zaa HE
     | false=>
      have HE:=hide Sa
      have HV:=hide (zaa HK (by rw [Ga,htv];rfl))
      clear Ja Ia Sa Oa htv Ga
      go_wp2_with fail
      go_roundw
      case rel=>exact⟨j+1,by omega,by go_num,zaa HV,zaa HE⟩
      case measure=>simp [intOf];omega
    ·have Xa:¬ (j:Int)<(m:Int):=by omega
     have HE:=hide (zaa da (.returned (.bool (zbj l (zbz l)))) wr ⟨rfl,hq,hf⟩)
     rw [(zaZ l _).2 (fun i p hp=>Ha i p (by have:=(List.getElem?_eq_some_iff.1 hp).1;omega) hp)]at HE
     clear hq hf Ha Aa Ma Ba Ka hm
     go_wp2_with fail
     exact zaa HE
def PjA (w:Xk) (l:List PlV) (e:Ending) (w':Xk):Prop:=∃(kd:Int) (a1:Xi) (n1 c1:Nat) (a2:Xi) (n2 c2:Nat) (a3:Xi) (n3 c3:Nat) (a4:Xi) (n4 c4:Nat),e=.returned (.tuple #[.agg #[.int .i64 kd,.slice a1 n1 c1,.slice a2 n2 c2,.slice a3 n3 c3,.slice a4 n4 c4],.bool (stB l)])∧∃G,OwNode 20 w' [.int .i64 kd,.slice a1 n1 c1,.slice a2 n2 c2,.slice a3 n3 c3,.slice a4 n4 c4] (pjR l) G∧G.Nodup∧Rng G w.heap.size w'.heap.size∧Below w.heap.size w w'
theorem zpy (w:Xk) (base:Nat):Own w base (.slice none 0 0) []:=⟨zbm,rfl,.inl ⟨rfl,rfl⟩⟩
theorem PjA.no {w w':Xk} {l:List PlV} (h:stB l=false) (hb:Below w.heap.size w w'):PjA w l (.returned (.tuple #[.agg #[.int .i64 0,.slice none 0 0,.slice none 0 0,.slice none 0 0,.slice none 0 0],.bool false])) w':=by
 refine⟨0,none,0,0,none,0,0,none,0,0,none,0,0,by rw [h],[],?_,List.nodup_nil,fun q hq=>(by cases hq),hb⟩
 rw [zuy h]
 exact⟨_,_,_,_,[],[],rfl,by show (-9223372036854775808:Int)<=0;omega,by show (0:Int)<=9223372036854775807;omega,zpy _ _,zpy _ _,OwElems.naught _ _ _ _,OwElems.naught _ _ _ _,rfl⟩
end Go.Proofs.YtgjolijncmkkhaaGreatDoor
