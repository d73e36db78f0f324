/- Own texts joined: MarkO, LPut, CntT, LHear, OpenO, OpenP, OpenQ, OpenR. -/
import Derived.Test.YtkmmhlimihkgfaaGreatJa
import Derived.Test.YtkmmhlimihkgfaaGreatJb
import Derived.Test.YtkmmhlimihkgfaaGreatJc
import Derived.Test.YtkmmhlimihkgfaaGreatJd
import Derived.Test.YtkmmhlimihkgfaaGreatJe
import Derived.Test.YtkmmhlimihkgfaaGreatJf
import Derived.Test.YtkmmhlimihkgfaaGreatJg
import Derived.Test.YtkmmhlimihkgfaaGreatJh
import Derived.Test.YtkmmhlimihkgfaaGreatJi
import Derived.Test.YtkmmhlimihkgfaaGreatJj
import Derived.Test.YtkmmhlimihkgfaaGreatJk
import Derived.Test.YtkmmhlimihkgfaaGreatJl
import Derived.Test.YtkmmhlimihkgfaaGreatJm
import Derived.Test.YtkmmhlimihkgfaaGreatJn
import Derived.Deep.RegionHeld3
import Derived.Deep.CutBlock
import Derived.Test.YtkmmhlimihkgfaaGreatProg
import Derived.ChangeArms
import Derived.ChangeSlices
import Derived.WideShapes

/- laws.markOp, by its contract. -/
namespace Go.Proofs.YtkmmhlimihkgfaaGreat
open Go.RowKit
set_option linter.unusedVariables false
set_option maxRecDepth 100000

theorem Frm.app {a b c : World} {S T : List Nat} (h : Frm a b S) (k : Frm b c T) : Frm a c (S ++ T) := (h.mono fun g hg => List.mem_append_left _ hg).trans (k.mono fun g hg => List.mem_append_right _ hg)
theorem Loc.grown {w w' : World} {g : Nat} {cs : Array Value} {T : TypeId} {row : Option Nat} (h : Loc w g cs T) (hG : w.grownBy w' row) (hne : row ≠ some g) : Loc w' g cs T := by
  have hlt : g < w.heap.size := by
    by_cases hlt : g < w.heap.size
    · exact hlt
    · unfold Loc at h
      rw [Array.getElem?_eq_none (by omega)] at h
      cases h
  exact (hG.block g hlt (fun e => hne e.symm)).trans h
theorem fb_notin {v u : Value} {F : List Nat} (h : (FB v ++ FB u).Nodup) : ∀ g ∈ FB v, g ∉ FB u := fun g hg hu => (List.nodup_append.1 h).2.2 g hg g hu rfl

/-- What markOp lays. -/
def OwMk (w : World) (base : Nat) (k n t : Value) (a b c : Nat) (z : Int) : Prop := OwnZ w base k (markz z a) ∧ Own w base n (marks (z + a) b) ∧ Own w base t (marks (z + a + b) c)

set_option maxHeartbeats 6400000 in
theorem markOp_any (w : World) (base : Nat) (o : OpV) (a1 a2 a3 : Option Addr) (c1 c2 c3 : Nat) (z : Int)
    (h : OwOp w base o (.slice a1 o.key.length c1) (.slice a2 o.name.length c2) (.slice a3 o.text.length c3)) (hs : o.key.length + o.name.length + o.text.length ≤ 2097152) (h0 : 0 ≤ z) (h1 : z ≤ 900000000) :
    Calls Tryz.prog 20 #[opVal o (.slice a1 o.key.length c1) (.slice a2 o.name.length c2) (.slice a3 o.text.length c3), .int .i64 z] w fun e w' => e = .returned (.int .i64 (z + (o.key.length : Int) + (o.name.length : Int) + (o.text.length : Int))) ∧
      OwMk w' base (.slice a1 o.key.length c1) (.slice a2 o.name.length c2) (.slice a3 o.text.length c3) o.key.length o.name.length o.text.length z ∧ Frm w w' (FB (.slice a1 o.key.length c1) ++ FB (.slice a2 o.name.length c2) ++ FB (.slice a3 o.text.length c3)) := by
  obtain ⟨hk, hn, ht, hnd⟩ := h
  have hA0 := (Below.refl w.heap.size w).alloc (Nat.le_refl _) (.cells #[.int .i64 o.kind, .int .i64 o.atN, .int .i64 o.atR, .int .i64 o.nodeN, .int .i64 o.nodeR, .int .i64 o.parN, .int .i64 o.parR, .slice a1 o.key.length c1, .int .i64 o.elem, .slice a2 o.name.length c2, .slice a3 o.text.length c3, .bool o.gone] 28)
  have l0 := Loc.made w #[.int .i64 o.kind, .int .i64 o.atN, .int .i64 o.atR, .int .i64 o.nodeN, .int .i64 o.nodeR, .int .i64 o.parN, .int .i64 o.parR, .slice a1 o.key.length c1, .int .i64 o.elem, .slice a2 o.name.length c2, .slice a3 o.text.length c3, .bool o.gone] 28
  unfold opVal
  go_enter Tryz.func20, Tryz.ntmps20
  go_wp2_with fail
  have nd := List.nodup_append.1 hnd
  have ndk : ∀ g ∈ FB (.slice a1 o.key.length c1), g ∉ FB (.slice a2 o.name.length c2) ∧ g ∉ FB (.slice a3 o.text.length c3) := fun g hg => ⟨fun h => (List.nodup_append.1 nd.1).2.2 g hg g h rfl, fun h => nd.2.2 g (List.mem_append_left _ hg) g h rfl⟩
  have ndn : ∀ g ∈ FB (.slice a2 o.name.length c2), g ∉ FB (.slice a3 o.text.length c3) := fun g hg h => nd.2.2 g (List.mem_append_right _ hg) g h rfl
  have bk := hk.rng
  have bn := hn.rng
  have bt := ht.rng
  have fo : ∀ (v : Value) (g : Nat), v.ownBlock = some g → g ∈ FB v := fun v g h => by simp [FB, h]
  have fl : ∀ (v : Value), v.ownBlock.toList = FB v := fun v => rfl
  have hk0 := hk.keep hA0
  have hn0 := hn.keep hA0
  have ht0 := ht.keep hA0
  clear hk hn ht hnd nd
  generalize (w.alloc (.cells #[.int .i64 o.kind, .int .i64 o.atN, .int .i64 o.atR, .int .i64 o.nodeN, .int .i64 o.nodeR, .int .i64 o.parN, .int .i64 o.parR, .slice a1 o.key.length c1, .int .i64 o.elem, .slice a2 o.name.length c2, .slice a3 o.text.length c3, .bool o.gone] 28)) = w0 at *
  refine (markZ_any w0 base _ o.key z hk0 (by omega) h0 (by omega)).mono ?_
  rintro e w1 ⟨rfl, hk1, hG1⟩
  have f1 := Frm.ofGrown hG1
  rw [fl] at f1
  have l1 := l0.grown hG1 (fun e => by have := bk _ (fo _ _ e); omega)
  have hn1 := hn0.frm f1 (fun g hg h => (ndk g h).1 hg)
  have ht1 := ht0.frm f1 (fun g hg h => (ndk g h).2 hg)
  clear hG1 hn0 ht0 hk0 l0
  obtain ⟨x0, x1, x2, x3, x4, x5, x6, x7, x8, x9, x10, x11⟩ := l1.twelve
  go_wp2_with fail
  clear x0 x1 x2 x3 x4 x5 x6 x7 x8 x9 x10 x11
  refine (markB_any w1 base _ o.name (z + (o.key.length : Int)) hn1 (by omega) (by omega) (by omega)).mono ?_
  rintro e w2 ⟨rfl, hn2, hG2⟩
  have f2 := Frm.ofGrown hG2
  rw [fl] at f2
  have l2 := l1.grown hG2 (fun e => by have := bn _ (fo _ _ e); omega)
  have hk2 := hk1.frm f2 (fun g hg h => (ndk g hg).1 h)
  have ht2 := ht1.frm f2 (fun g hg h => ndn g h hg)
  clear hG2 hn1 ht1 hk1 l1
  obtain ⟨x0, x1, x2, x3, x4, x5, x6, x7, x8, x9, x10, x11⟩ := l2.twelve
  go_wp2_with fail
  clear x0 x1 x2 x3 x4 x5 x6 x7 x8 x9 x10 x11
  refine (markB_any w2 base _ o.text (z + (o.key.length : Int) + (o.name.length : Int)) ht2 (by omega) (by omega) (by omega)).mono ?_
  rintro e w3 ⟨rfl, ht3, hG3⟩
  have f3 := Frm.ofGrown hG3
  rw [fl] at f3
  have hk3 := hk2.frm f3 (fun g hg h => (ndk g hg).2 h)
  have hn3 := hn2.frm f3 (fun g hg h => ndn g hg h)
  have f := (((Frm.ofBelow hA0 []).app f1).app f2).app f3
  clear f1 f2 f3 hG3 ht2 hk2 hn2 l2
  go_wp2_with fail
  go_ret
  exact ⟨rfl, ⟨hk3, hn3, ht3⟩, by simpa using f⟩

end Go.Proofs.YtkmmhlimihkgfaaGreat

/- The law on Put, walked by its callees' contracts. -/
namespace Go.Proofs.YtkmmhlimihkgfaaGreat
open Go.RowKit
set_option linter.unusedVariables false
set_option maxRecDepth 100000

theorem OwOps.keep {w w' : World} {v : Value} {l : List OpV} {F : List Nat} (h : OwOps w v l F) (hb : Below w.heap.size w w') : OwOps w' v l F := OwOps.frm h (Frm.ofBelow hb []) (fun _ _ => by simp)
theorem OwOp.frmP {w w' : World} {base : Nat} {o : OpV} {k n t : Value} {S : List Nat} (h : OwOp w base o k n t) (f : Frm w w' S) (hd : ∀ g ∈ FB k ++ FB n ++ FB t, g ∉ S) : OwOp w' base o k n t :=
  ⟨⟨h.1.1, ownsRow_frm h.1.2 f (fun g hg => hd g (by simp [hg]))⟩, h.2.1.frm f (fun g hg => hd g (by simp [hg])), h.2.2.1.frm f (fun g hg => hd g (by simp [hg])), h.2.2.2⟩
theorem opB_sz {o : OpV} (h : opB o = true) : szO o ≤ 72 := by
  obtain ⟨_, ht, hh⟩ := opB_facts h
  unfold szO
  rcases hh with hh | hh | hh | hh
  · have := hh.2.2.2.1.1; have := hh.2.2.2.2.2.1; omega
  · have := hh.2.2.2.1.1; have e : o.name.length = 0 := by rw [hh.2.2.2.2.2.1]; rfl
    omega
  · have e : o.name.length = 0 := by rw [hh.2.2.2.2.2.1]; rfl
    have e2 : o.key.length = 0 := by rw [hh.2.2.2.1]; rfl
    omega
  · have e1 : o.key.length ≤ 12 := by simp [hh]
    have e2 : o.name.length ≤ 30 := by simp [hh]
    omega
theorem cntOs_bd {m : Nat} : ∀ {l : List OpV}, (∀ x ∈ l, szO x ≤ m) → cntOs l ≤ (9 + m) * l.length
  | [], _ => by simp [cntOs]
  | x :: r, h => by
    have h1 := h x (by simp)
    have h2 := cntOs_bd (fun y hy => h y (List.mem_cons_of_mem _ hy))
    rw [cntOs, List.length_cons, Nat.mul_succ]
    omega
theorem cntOs_sz : ∀ (l : List OpV), cntOs l ≤ 9 * szOs l
  | [] => by simp [cntOs]
  | x :: r => by
    have h2 := cntOs_sz r
    unfold szOs at h2 ⊢
    simp only [cntOs, List.length_cons, List.map_cons, List.sum_cons]
    omega
theorem putV_cnt (l : List OpV) (o : OpV) : cntOs (putV l o) ≤ 16777216 ∧ (putV l o).length ≤ 151 := by
  unfold putV
  cases hb : opsB l && opB o with
  | false => simp [cntOs]
  | true =>
    rw [Bool.and_eq_true] at hb
    have hl := opsB_len hb.1
    have hp := putL_len l o
    rw [if_pos rfl]
    refine ⟨?_, by omega⟩
    have := cntOs_bd (m := 72) (l := putL l o) (fun x hx => by
      rcases putL_mem hx with rfl | hx
      · exact opB_sz hb.2
      · obtain ⟨i, hi, rfl⟩ := List.getElem_of_mem hx
        exact opB_sz (opsB_each hb.1 hi))
    have h3 : (9 + 72) * (putL l o).length ≤ (9 + 72) * 151 := Nat.mul_le_mul_left _ (by omega)
    omega
/-- What both Put tell. -/
def PutSaid (f : FuncId) (l : List OpV) (o : OpV) (pv : List OpV) (ok : Bool) : Prop := ∀ (W : World) (u vo : Value), RdOps W u l → RdOp W vo o → Calls Tryz.prog f #[u, vo] W fun e w' => ∃ r, e = .returned (.tuple #[r, .bool ok]) ∧ ∃ F, OwOps w' r pv F ∧ F.Nodup ∧ Rng F W.heap.size w'.heap.size ∧ Below W.heap.size W w'
theorem sumO_each {l : List OpV} {m : Nat} (h : szOs l ≤ m) : ∀ x ∈ l, szO x ≤ m := fun x hx => by
  obtain ⟨i, hi, rfl⟩ := List.getElem_of_mem hx
  have := szO_le l i hi
  unfold szOs at h
  omega

set_option maxHeartbeats 40000000 in
theorem law_put (w : World) (v vo : Value) (l : List OpV) (o : OpV) (h : RdOps w v l) (ho : RdOp w vo o) :
    Calls Tryz.prog 4 #[v, vo] w fun e w' => e = .returned (.bool true) ∧ Below w.heap.size w w' := by
  have HZ := hide (fun W (hW : Below w.heap.size w W) => szOps_any W v l 1048576 (h.keep hW) (by omega) (by omega))
  have HZ2 := hide (fun W (hW : Below w.heap.size w W) left h0 h1 => szOp_any W vo o left (ho.keep hW) h0 h1)
  have HT := hide (fun W (hW : Below w.heap.size w W) hs => toOps_any W v l (h.keep hW) hs)
  have HTO := hide (fun W (hW : Below w.heap.size w W) hs => toOp_own W vo o (ho.keep hW) hs)
  obtain ⟨k, n, t, rfl, hk, hn, ht⟩ := ho
  obtain ⟨a0, c0, rfl, _, _⟩ := hk.shape
  obtain ⟨b0, d0, rfl, _, _⟩ := hn.shape
  obtain ⟨e0, f0, rfl, _, _⟩ := ht.shape
  obtain ⟨av, cv, rfl, _, _⟩ := Elems.shape h
  clear hk hn ht h
  have HM := hide (fun w base a1 a2 a3 c1 c2 c3 z h hs h0 h1 => markOp_any w base o a1 a2 a3 c1 c2 c3 z h hs h0 h1)
  have HSS := hide (fun (hz : szOs l ≤ 2097152) (hz2 : szO o ≤ 2097152) => And.intro (show PutSaid 14 l o (putV l o) (putAns l o) from fun W u vo hu hv => sput_any W u vo l o hu hv hz2 (sumO_each hz)) (show PutSaid 9 l o (putV l o) (putAns l o) from fun W u vo hu hv => iput_any W u vo l o hu hv hz2 (sumO_each hz)))
  obtain ⟨hpc, hpl⟩ := putV_cnt l o
  have hcl := cntOs_sz l
  generalize putV l o = pv at *
  generalize putAns l o = ok at *
  unfold szO at HSS
  obtain ⟨nK, hnK⟩ : ∃ x, x = o.key.length := ⟨_, rfl⟩
  obtain ⟨nN, hnN⟩ : ∃ x, x = o.name.length := ⟨_, rfl⟩
  obtain ⟨nT, hnT⟩ : ∃ x, x = o.text.length := ⟨_, rfl⟩
  rw [← hnK, ← hnN, ← hnT] at HZ2 HTO HM HSS ⊢
  clear hnK hnN hnT
  unfold opVal at HZ2 HTO HM ⊢
  have hA0 := (Below.refl w.heap.size w).alloc (Nat.le_refl _) (.cells #[.int .i64 o.kind, .int .i64 o.atN, .int .i64 o.atR, .int .i64 o.nodeN, .int .i64 o.nodeR, .int .i64 o.parN, .int .i64 o.parR, .slice a0 nK c0, .int .i64 o.elem, .slice b0 nN d0, .slice e0 nT f0, .bool o.gone] 41)
  have l0 := Loc.made w #[.int .i64 o.kind, .int .i64 o.atN, .int .i64 o.atR, .int .i64 o.nodeN, .int .i64 o.nodeR, .int .i64 o.parN, .int .i64 o.parR, .slice a0 nK c0, .int .i64 o.elem, .slice b0 nN d0, .slice e0 nT f0, .bool o.gone] 41
  go_enter Tryz.func4, Tryz.ntmps4
  go_wp2_with fail
  generalize (w.alloc (.cells #[.int .i64 o.kind, .int .i64 o.atN, .int .i64 o.atR, .int .i64 o.nodeN, .int .i64 o.nodeR, .int .i64 o.parN, .int .i64 o.parR, .slice a0 nK c0, .int .i64 o.elem, .slice b0 nN d0, .slice e0 nT f0, .bool o.gone] 41)) = wa at *
  generalize hSS : w.heap.size = S at *
  have BS := hide (show ∀ (b c : World), Below S w b → Below b.heap.size b c → Below S w c from fun b c h k => h.trans (k.mono (by have := h.size; omega)))
  have q0 := l0.lt
  refine (unhide HZ _ hA0).mono ?_
  rintro e w1 ⟨rfl, hB⟩
  have hA1 := unhide BS _ _ hA0 hB
  have l1 := l0.all hB
  have z1 := hB.size
  clear hA0 l0 hB HZ
  by_cases hbig : ((szOs l : Nat) : Int) ≤ 1048576
  case neg =>
    rw [rest_out hbig]
    go_wp2_with fail
    go_ret
    exact ⟨rfl, by rw [hSS]; exact hA1⟩
  rw [rest_in hbig]
  have hd0 : ¬ 1048576 - ((szOs l : Nat) : Int) < 0 := by omega
  obtain ⟨x0, x1, x2, x3, x4, x5, x6, x7, x8, x9, x10, x11⟩ := l1.twelve
  go_wp2_with fail
  refine (unhide HZ2 _ hA1 _ (by omega) (by omega)).mono ?_
  rintro e w2 ⟨rfl, hB⟩
  have hA2 := unhide BS _ _ hA1 hB
  have l2 := l1.all hB
  have z2 := hB.size
  clear hA1 l1 hB HZ2 x0 x1 x2 x3 x4 x5 x6 x7 x8 x9 x10 x11
  by_cases hbig2 : ((nK + nN + nT : Nat) : Int) ≤ 1048576 - ((szOs l : Nat) : Int)
  case neg =>
    rw [left4_out hbig2]
    go_wp2_with fail
    go_ret
    exact ⟨rfl, by rw [hSS]; exact hA2⟩
  rw [left4_in hbig2]
  have hd1 : ¬ 1048576 - ((szOs l : Nat) : Int) - ((nK + nN + nT : Nat) : Int) < 0 := by omega
  have hs1 : szOs l ≤ 2097152 := by omega
  have hs2 : nK + nN + nT ≤ 2097152 := by omega
  have hcl2 : cntOs l ≤ 16777216 := by omega
  obtain ⟨HS, HI⟩ := unhide HSS hs1 hs2
  replace HS := hide HS
  replace HI := hide HI
  replace HT := hide (fun W hW => unhide HT W hW hs1)
  replace HTO := hide (fun W hW => unhide HTO W hW hs2)
  clear HSS hbig hbig2 hcl
  have hne : (ok != ok) = false := by simp
  have heq : (ok == ok) = true := by simp
  obtain ⟨x0, x1, x2, x3, x4, x5, x6, x7, x8, x9, x10, x11⟩ := l2.twelve
  go_wp2_with fail
  go_region_held3 (fun w' => w'.cell? ⟨S, 0, none⟩ = some (.int .i64 o.kind) ∧ w'.cell? ⟨S, 1, none⟩ = some (.int .i64 o.atN) ∧ w'.cell? ⟨S, 2, none⟩ = some (.int .i64 o.atR) ∧ w'.cell? ⟨S, 3, none⟩ = some (.int .i64 o.nodeN) ∧ w'.cell? ⟨S, 4, none⟩ = some (.int .i64 o.nodeR) ∧ w'.cell? ⟨S, 5, none⟩ = some (.int .i64 o.parN) ∧ w'.cell? ⟨S, 6, none⟩ = some (.int .i64 o.parR) ∧ w'.cell? ⟨S, 7, none⟩ = some (.slice a0 nK c0) ∧ w'.cell? ⟨S, 8, none⟩ = some (.int .i64 o.elem) ∧ w'.cell? ⟨S, 9, none⟩ = some (.slice b0 nN d0) ∧ w'.cell? ⟨S, 10, none⟩ = some (.slice e0 nT f0) ∧ w'.cell? ⟨S, 11, none⟩ = some (.bool o.gone))
    (first | exact ⟨by assumption, by assumption, by assumption, by assumption, by assumption, by assumption, by assumption, by assumption, by assumption, by assumption, by assumption, by assumption⟩ | simp [*])
    (first
      | (go_at_call 15; refine (unhide HT _ hA2.drew).mono ?_; rintro e w4 ⟨p4, u4, rfl, F4, hO4, hN4, hR4, hB4⟩; have hE4 := bstep ((Below.refl w2.heap.size w2).drew) hB4; have hD4 := unhide BS _ _ hA2 hE4; obtain ⟨x0, x1, x2, x3, x4, x5, x6, x7, x8, x9, x10, x11⟩ := (l2.all hE4).twelve)
      | (go_at_call 16; refine (unhide HTO _ hD4).mono ?_; rintro e w5 ⟨a5, c5, b5, d5, e5, f5, rfl, ho5, hB5⟩; have hE5 := bstep hE4 hB5; have hD5 := unhide BS _ _ hA2 hE5; obtain ⟨x0, x1, x2, x3, x4, x5, x6, x7, x8, x9, x10, x11⟩ := (l2.all hE5).twelve)
      | (go_at_call 14; refine (unhide HS _ _ _ (hO4.rd.keep hB5) ho5.rd).mono ?_; rintro e w6 ⟨r6, rfl, F6, hO6, hN6, hR6, hB6⟩; have hE6 := bstep hE5 hB6; have hD6 := unhide BS _ _ hA2 hE6; obtain ⟨x0, x1, x2, x3, x4, x5, x6, x7, x8, x9, x10, x11⟩ := (l2.all hE6).twelve))
  have l6 := l2.all hE6
  have z5 := hE5.size
  have z6 := hB6.size
  clear hO4 hN4 hR4 hB4 hE4 hD4 ho5 hB5 hE5 hD5 hN6 hB6 hE6 l2 hA2 x0 x1 x2 x3 x4 x5 x6 x7 x8 x9 x10 x11 HS
  go_wp2_with fail
  refine (unhide HT _ hD6).mono ?_
  rintro e w7 ⟨p7, u7, rfl, F7, hO7, hN7, hR7, hB⟩
  have hD7 := unhide BS _ _ hD6 hB
  replace l6 := l6.all hB
  replace hO6 := hO6.keep hB
  have z7 := hB.size
  clear hB hD6
  obtain ⟨x0, x1, x2, x3, x4, x5, x6, x7, x8, x9, x10, x11⟩ := l6.twelve
  go_wp2_with fail
  refine (unhide HTO _ hD7).mono ?_
  rintro e w8 ⟨a8, c8, b8, d8, e8, f8, rfl, ho8, hB⟩
  have hD8 := unhide BS _ _ hD7 hB
  replace l6 := l6.all hB
  replace hO6 := hO6.keep hB
  replace hO7 := hO7.keep hB
  have z8 := hB.size
  have R8 : ∀ g ∈ FB (.slice a8 nK c8) ++ FB (.slice b8 nN d8) ++ FB (.slice e8 nT f8), w7.heap.size ≤ g ∧ g < w8.heap.size := fun g hg => ho8.rng g hg
  clear hB hD7 x0 x1 x2 x3 x4 x5 x6 x7 x8 x9 x10 x11
  have hB : Below w8.heap.size w8 (w8.alloc (.cells #[.int .i64 o.kind, .int .i64 o.atN, .int .i64 o.atR, .int .i64 o.nodeN, .int .i64 o.nodeR, .int .i64 o.parN, .int .i64 o.parR, .slice a8 nK c8, .int .i64 o.elem, .slice b8 nN d8, .slice e8 nT f8, .bool o.gone] 28)) := (Below.refl _ _).alloc (Nat.le_refl _) _
  have l9 := Loc.made w8 #[.int .i64 o.kind, .int .i64 o.atN, .int .i64 o.atR, .int .i64 o.nodeN, .int .i64 o.nodeR, .int .i64 o.parN, .int .i64 o.parR, .slice a8 nK c8, .int .i64 o.elem, .slice b8 nN d8, .slice e8 nT f8, .bool o.gone] 28
  have LL := hide (And.intro (unhide BS _ _ hD8 hB) (And.intro (l6.all hB) (And.intro (hO6.keep hB) (And.intro (hO7.keep hB) (And.intro l9 (And.intro (ho8.keep hB) hB.size))))))
  clear hD8 hB l6 hO6 hO7 ho8 l9
  go_wp2_with fail
  obtain ⟨hD9, l6, hO6, hO7, l9, ho8, z9⟩ := unhide LL
  clear LL
  generalize (w8.alloc (.cells #[.int .i64 o.kind, .int .i64 o.atN, .int .i64 o.atR, .int .i64 o.nodeN, .int .i64 o.nodeR, .int .i64 o.parN, .int .i64 o.parR, .slice a8 nK c8, .int .i64 o.elem, .slice b8 nN d8, .slice e8 nT f8, .bool o.gone] 28)) = w9 at *
  generalize hS9 : w8.heap.size = S9 at *
  have q9 := l9.lt
  have HP := hide (unhide HI w9 _ _ hO7.rd ho8.rd)
  unfold opVal at HP
  refine (unhide HP).mono ?_
  rintro e w10 ⟨r10, rfl, F10, hO10, hN10, hR10, hB⟩
  have hD10 := unhide BS _ _ hD9 hB
  replace l6 := l6.all hB
  replace hO6 := hO6.keep hB
  replace hO7 := hO7.keep hB
  replace l9 := l9.all hB
  replace ho8 := ho8.keep hB
  have z10 := hB.size
  clear hB hD9 HP
  go_wp2_with fail
  refine (eqOps_same w10 _ _ pv hO10.rd hO6.rd).mono ?_
  rintro e w11 ⟨rfl, hB⟩
  have hD11 := unhide BS _ _ hD10 hB
  have hC := hB
  clear hB hD10
  go_wp2_with fail
  refine (unhide HT _ hD11).mono ?_
  rintro e w12 ⟨p12, u12, rfl, F12, hO12, _, _, hB⟩
  have hD12 := unhide BS _ _ hD11 hB
  replace hC := bstep hC hB
  clear hB hD11
  go_wp2_with fail
  refine (eqOps_same w12 _ _ l (hO7.keep hC).rd hO12.rd).mono ?_
  rintro e w13 ⟨rfl, hB⟩
  have hD13 := unhide BS _ _ hD12 hB
  replace hC := bstep hC hB
  clear hB hD12 hO12
  replace l6 := l6.all hC
  replace hO6 := hO6.keep hC
  replace hO7 := hO7.keep hC
  replace l9 := l9.all hC
  replace ho8 := ho8.keep hC
  replace hO10 := hO10.keep hC
  have z13 := hC.size
  clear hC
  obtain ⟨x0, x1, x2, x3, x4, x5, x6, x7, x8, x9, x10, x11⟩ := l6.twelve
  obtain ⟨y0, y1, y2, y3, y4, y5, y6, y7, y8, y9, y10, y11⟩ := l9.twelve
  go_wp2_with fail
  go_region_held3 (fun w' => w'.cell? ⟨S, 0, none⟩ = some (.int .i64 o.kind) ∧ w'.cell? ⟨S, 1, none⟩ = some (.int .i64 o.atN) ∧ w'.cell? ⟨S, 2, none⟩ = some (.int .i64 o.atR) ∧ w'.cell? ⟨S, 3, none⟩ = some (.int .i64 o.nodeN) ∧ w'.cell? ⟨S, 4, none⟩ = some (.int .i64 o.nodeR) ∧ w'.cell? ⟨S, 5, none⟩ = some (.int .i64 o.parN) ∧ w'.cell? ⟨S, 6, none⟩ = some (.int .i64 o.parR) ∧ w'.cell? ⟨S, 7, none⟩ = some (.slice a0 nK c0) ∧ w'.cell? ⟨S, 8, none⟩ = some (.int .i64 o.elem) ∧ w'.cell? ⟨S, 9, none⟩ = some (.slice b0 nN d0) ∧ w'.cell? ⟨S, 10, none⟩ = some (.slice e0 nT f0) ∧ w'.cell? ⟨S, 11, none⟩ = some (.bool o.gone) ∧ w'.cell? ⟨S9, 0, none⟩ = some (.int .i64 o.kind) ∧ w'.cell? ⟨S9, 1, none⟩ = some (.int .i64 o.atN) ∧ w'.cell? ⟨S9, 2, none⟩ = some (.int .i64 o.atR) ∧ w'.cell? ⟨S9, 3, none⟩ = some (.int .i64 o.nodeN) ∧ w'.cell? ⟨S9, 4, none⟩ = some (.int .i64 o.nodeR) ∧ w'.cell? ⟨S9, 5, none⟩ = some (.int .i64 o.parN) ∧ w'.cell? ⟨S9, 6, none⟩ = some (.int .i64 o.parR) ∧ w'.cell? ⟨S9, 7, none⟩ = some (.slice a8 nK c8) ∧ w'.cell? ⟨S9, 8, none⟩ = some (.int .i64 o.elem) ∧ w'.cell? ⟨S9, 9, none⟩ = some (.slice b8 nN d8) ∧ w'.cell? ⟨S9, 10, none⟩ = some (.slice e8 nT f8) ∧ w'.cell? ⟨S9, 11, none⟩ = some (.bool o.gone))
    (first | exact ⟨by assumption, by assumption, by assumption, by assumption, by assumption, by assumption, by assumption, by assumption, by assumption, by assumption, by assumption, by assumption, by assumption, by assumption, by assumption, by assumption, by assumption, by assumption, by assumption, by assumption, by assumption, by assumption, by assumption, by assumption⟩ | simp [*])
    (first
      | (go_at_call 16; refine (unhide HTO _ hD13.drew).mono ?_; rintro e w14 ⟨a14, c14, b14, d14, e14, f14, rfl, ho14, hB14⟩; have hE14 := bstep ((Below.refl w13.heap.size w13).drew) hB14; have hD14 := unhide BS _ _ hD13 hE14; obtain ⟨x0, x1, x2, x3, x4, x5, x6, x7, x8, x9, x10, x11⟩ := (l6.all hE14).twelve; obtain ⟨y0, y1, y2, y3, y4, y5, y6, y7, y8, y9, y10, y11⟩ := (l9.all hE14).twelve)
      | (go_at_call 18; refine (eqOp_same _ _ _ o (ho8.keep hE14).rd ho14.rd).mono ?_; rintro e w15 ⟨rfl, hB15⟩; have hE15 := bstep hE14 hB15; have hD15 := unhide BS _ _ hD13 hE15; obtain ⟨x0, x1, x2, x3, x4, x5, x6, x7, x8, x9, x10, x11⟩ := (l6.all hE15).twelve; obtain ⟨y0, y1, y2, y3, y4, y5, y6, y7, y8, y9, y10, y11⟩ := (l9.all hE15).twelve))
  replace l6 := l6.all hE15
  replace hO6 := hO6.keep hE15
  replace hO7 := hO7.keep hE15
  replace l9 := l9.all hE15
  replace ho8 := ho8.keep hE15
  replace hO10 := hO10.keep hE15
  have z15 := hE15.size
  clear ho14 hB14 hE14 hD14 hB15 hE15 hD13 x0 x1 x2 x3 x4 x5 x6 x7 x8 x9 x10 x11 y0 y1 y2 y3 y4 y5 y6 y7 y8 y9 y10 y11
  go_wp2_with fail
  refine (markOs_any w15 _ l F7 1 hO7 hN7 hcl2 (by omega) (by omega)).mono ?_
  rintro e w16 ⟨rfl, _, hF⟩
  have hD16 : Below S w w16 := hD15.trans (hF.below (by have := hD15.size; omega) (fun q hq => by have := (hR7 q hq).1; omega))
  replace l6 := l6.frm hF (fun hm => by have := hR7 _ hm; omega)
  replace hO6 := OwOps.frm hO6 hF (fun g hg hm => by have := hR7 _ hm; have := hR6 _ hg; omega)
  replace l9 := l9.frm hF (fun hm => by have := hR7 _ hm; omega)
  replace ho8 := ho8.frmP hF (fun g hg hm => by have := hR7 _ hm; have := R8 _ hg; omega)
  replace hO10 := OwOps.frm hO10 hF (fun g hg hm => by have := hR7 _ hm; have := hR10 _ hg; omega)
  have z16 := hF.size
  clear hF hO7 hD15 hN7
  have hk1 : (0 : Int) ≤ 1 + ((cntOs l : Nat) : Int) := by omega
  have hk2 : 1 + ((cntOs l : Nat) : Int) ≤ 900000000 := by omega
  generalize 1 + ((cntOs l : Nat) : Int) = K at *
  obtain ⟨y0, y1, y2, y3, y4, y5, y6, y7, y8, y9, y10, y11⟩ := l9.twelve
  go_wp2_with fail
  clear y0 y1 y2 y3 y4 y5 y6 y7 y8 y9 y10 y11
  have HQ := hide (unhide HM w16 _ _ _ _ _ _ _ K ho8 hs2 hk1 hk2)
  refine (unhide HQ).mono ?_
  rintro e w17 ⟨rfl, _, hF⟩
  have hD17 : Below S w w17 := hD16.trans (hF.below (by have := hD16.size; omega) (fun q hq => by have := (R8 q hq).1; omega))
  replace l6 := l6.frm hF (fun hm => by have := R8 _ hm; omega)
  replace hO6 := OwOps.frm hO6 hF (fun g hg hm => by have := R8 _ hm; have := hR6 _ hg; omega)
  replace hO10 := OwOps.frm hO10 hF (fun g hg hm => by have := R8 _ hm; have := hR10 _ hg; omega)
  have z17 := hF.size
  clear hF ho8 hD16 HM HQ l9
  have hk3 : decide (K + (nK : Int) + (nN : Int) + (nT : Int) < 0) = false := by simp; omega
  go_wp2_with fail
  refine (eqOps_same w17 _ _ pv hO10.rd hO6.rd).mono ?_
  rintro e w18 ⟨rfl, hB⟩
  have hD18 := unhide BS _ _ hD17 hB
  replace l6 := l6.all hB
  replace hO6 := hO6.keep hB
  replace hO10 := hO10.keep hB
  have z18 := hB.size
  clear hB hD17
  go_wp2_with fail
  refine (markOs_any w18 _ pv F10 1 hO10 hN10 hpc (by omega) (by omega)).mono ?_
  rintro e w19 ⟨rfl, hO19, hF⟩
  have hD19 : Below S w w19 := hD18.trans (hF.below (by have := hD18.size; omega) (fun q hq => by have := (hR10 q hq).1; omega))
  replace l6 := l6.frm hF (fun hm => by have := hR10 _ hm; omega)
  replace hO6 := OwOps.frm hO6 hF (fun g hg hm => by have := hR10 _ hm; have := hR6 _ hg; omega)
  clear hF hO10 hD18
  have HH := hide (fun W (hW : Below w19.heap.size w19 W) => heldOs_any W _ pv 1 (hO19.rd.keep hW) hpc (by omega) (by omega))
  have hm1 : decide (1 + ((cntOs pv : Nat) : Int) < 0) = false := by simp; omega
  generalize 1 + ((cntOs pv : Nat) : Int) = M at *
  have hm2 : (M != M) = false := by simp
  have hm3 : (M == M) = true := by simp
  clear hO19
  go_wp2_with fail
  refine (unhide HH w19 (Below.refl _ _)).mono ?_
  rintro e w19 ⟨rfl, rfl⟩
  obtain ⟨x0, x1, x2, x3, x4, x5, x6, x7, x8, x9, x10, x11⟩ := l6.twelve
  go_wp2_with fail
  go_region_held3 (fun w' => w'.cell? ⟨S, 0, none⟩ = some (.int .i64 o.kind) ∧ w'.cell? ⟨S, 1, none⟩ = some (.int .i64 o.atN) ∧ w'.cell? ⟨S, 2, none⟩ = some (.int .i64 o.atR) ∧ w'.cell? ⟨S, 3, none⟩ = some (.int .i64 o.nodeN) ∧ w'.cell? ⟨S, 4, none⟩ = some (.int .i64 o.nodeR) ∧ w'.cell? ⟨S, 5, none⟩ = some (.int .i64 o.parN) ∧ w'.cell? ⟨S, 6, none⟩ = some (.int .i64 o.parR) ∧ w'.cell? ⟨S, 7, none⟩ = some (.slice a0 nK c0) ∧ w'.cell? ⟨S, 8, none⟩ = some (.int .i64 o.elem) ∧ w'.cell? ⟨S, 9, none⟩ = some (.slice b0 nN d0) ∧ w'.cell? ⟨S, 10, none⟩ = some (.slice e0 nT f0) ∧ w'.cell? ⟨S, 11, none⟩ = some (.bool o.gone))
    (first | exact ⟨by assumption, by assumption, by assumption, by assumption, by assumption, by assumption, by assumption, by assumption, by assumption, by assumption, by assumption, by assumption⟩ | simp [*])
    (first
      | (go_at_call 15; refine (unhide HT _ hD19.drew).mono ?_; rintro e w20 ⟨p20, u20, rfl, F20, hO20, _, _, hB20⟩; have hE20 := bstep ((Below.refl w19.heap.size w19).drew) hB20; have hD20 := unhide BS _ _ hD19 hE20; obtain ⟨x0, x1, x2, x3, x4, x5, x6, x7, x8, x9, x10, x11⟩ := (l6.all hE20).twelve)
      | (go_at_call 16; refine (unhide HTO _ hD20).mono ?_; rintro e w21 ⟨a21, c21, b21, d21, e21, f21, rfl, ho21, hB21⟩; have hE21 := bstep hE20 hB21; have hD21 := unhide BS _ _ hD19 hE21; obtain ⟨x0, x1, x2, x3, x4, x5, x6, x7, x8, x9, x10, x11⟩ := (l6.all hE21).twelve)
      | (go_at_call 9; refine (unhide HI _ _ _ (hO20.rd.keep hB21) ho21.rd).mono ?_; rintro e w22 ⟨r22, rfl, F22, hO22, _, _, hB22⟩; have hE22 := bstep hE21 hB22; have hD22 := unhide BS _ _ hD19 hE22; obtain ⟨x0, x1, x2, x3, x4, x5, x6, x7, x8, x9, x10, x11⟩ := (l6.all hE22).twelve))
  replace hO6 := hO6.keep hE22
  clear hO20 hB20 hE20 hD20 ho21 hB21 hE21 hD21 hB22 l6 x0 x1 x2 x3 x4 x5 x6 x7 x8 x9 x10 x11 HI HT HTO hD19
  go_wp2_with fail
  refine (eqOps_same w22 _ _ pv hO22.rd hO6.rd).mono ?_
  rintro e w23 ⟨rfl, hB⟩
  have hD23 := unhide BS _ _ hD22 hB
  replace hE22 := bstep hE22 hB
  clear hB hD22 hO22 hO6
  go_wp2_with fail
  refine (unhide HH w23 hE22).mono ?_
  rintro e w24 ⟨rfl, rfl⟩
  go_wp2_with fail
  go_ret
  exact ⟨rfl, by rw [hSS]; exact hD23⟩
end Go.Proofs.YtkmmhlimihkgfaaGreat

/- What marks count of a tree is no more than its size. -/
namespace Go.Proofs.YtkmmhlimihkgfaaGreat
open Go.RowKit
set_option linter.unusedVariables false

theorem cntL_sum {α : Type} (f g : α → Nat) (H : ∀ x, f x ≤ g x) : ∀ l : List α, cntL f l ≤ l.length + (l.map g).sum
  | [] => by simp [cntL]
  | x :: l => by
    have h1 := cntL_sum f g H l
    have h2 := H x
    simp only [cntL, List.map_cons, List.length_cons, List.sum_cons]
    omega
theorem cntA_sum : ∀ l : List (List Int × List Int), cntA l ≤ szA l
  | [] => by simp [cntA, szA]
  | x :: l => by
    have h1 := cntA_sum l
    unfold szA at h1 ⊢
    simp only [cntA, List.map_cons, List.length_cons, List.sum_cons]
    omega
theorem cntT_sz : ∀ (n : Nat) (t : Tr n), cntT n t ≤ szT n t
  | 0, t => t.elim
  | n + 1, t => by
    have h1 := cntA_sum t.attrs
    have h2 := cntL_sum (cntT n) (szT n) (cntT_sz n) t.kids
    have h4 : szT (n + 1) t = t.name.length + t.text.length + szA t.attrs + (t.kids.length + (t.kids.map (szT n)).sum) := rfl
    rw [cntT_succ, h4]
    omega

end Go.Proofs.YtkmmhlimihkgfaaGreat

/- The law on Hear, walked by its callees' contracts. UNDER WAY. -/
namespace Go.Proofs.YtkmmhlimihkgfaaGreat
open Go.RowKit
set_option linter.unusedVariables false
set_option maxRecDepth 100000

theorem hearV_cnt {n : Nat} (r : RepV n) (o : OpV) (hz : szR r ≤ 1048576) : cntT (n + 1) (hearV r o).first ≤ 4194304 ∧ cntOs (hearV r o).ops ≤ 16777216 ∧ (hearV r o).und.length ≤ 4194304 := by
  unfold hearV
  cases hb : repB r && opB o with
  | false => exact ⟨Nat.le_trans (Nat.le_of_eq (show cntT (n + 1) (zeroR n).first = 0 from rfl)) (by omega), Nat.le_trans (Nat.le_of_eq (show cntOs (zeroR n).ops = 0 from rfl)) (by omega), Nat.le_trans (Nat.le_of_eq (show (zeroR n).und.length = 0 from rfl)) (by omega)⟩
  | true =>
    rw [Bool.and_eq_true] at hb
    rw [if_pos rfl, hearR_first, hearR_und]
    have h1 := cntT_sz (n + 1) r.first
    have h2 := cntOs_sz r.ops
    have h3 := (putV_cnt r.ops o).1
    have h4 : putV r.ops o = putL r.ops o := by unfold putV; rw [repB_ops hb.1, hb.2]; rfl
    rw [h4] at h3
    unfold szR at hz
    refine ⟨by omega, ?_, by omega⟩
    rcases hearR_ops r o with e | e
    · rw [e]; exact h3
    · rw [e]; omega

set_option maxHeartbeats 40000000 in
theorem law_hear (n : Nat) (w : World) (a b c d e vo vu vop : Value) (r : RepV n) (o : OpV) (h : RdRep n w a b c d e vo vu r) (ho : RdOp w vop o) :
    Calls Tryz.prog 5 #[repVal r a b c d e vo vu, vop] w fun e w' => e = .returned (.bool true) ∧ Below w.heap.size w w' := by
  have HZ := hide (fun W (hW : Below w.heap.size w W) => szRep_any n W _ _ _ _ _ _ _ r 1048576 (h.keep hW) (by omega) (by omega))
  have HZ2 := hide (fun W (hW : Below w.heap.size w W) left h0 h1 => szOp_any W _ o left (ho.keep hW) h0 h1)
  have HT := hide (fun (hz : szR r ≤ 1048576) W (hW : Below w.heap.size w W) => toRep_any n W _ _ _ _ _ _ _ r (h.keep hW) (by unfold szR at hz; omega) (by unfold szR at hz; omega) (by unfold szR at hz; omega))
  have HTO := hide (fun W (hW : Below w.heap.size w W) hs => toOp_own W _ o (ho.keep hW) hs)
  have HS := hide (fun (hz : szR r ≤ 1048576) (hz2 : szO o ≤ 2097152) W a b c d e vo vu vop h ho => hearS_any n W a b c d e vo vu vop r o h ho (by unfold szR at hz; omega) hz2 (sumO_each (by unfold szR at hz; omega)))
  have HI := hide (fun (hz : szR r ≤ 1048576) (hz2 : szO o ≤ 2097152) W a b c d e vo vu vop h ho => hearI_any n W a b c d e vo vu vop r o h ho (by unfold szR at hz; omega) hz2 (sumO_each (by unfold szR at hz; omega)))
  have HBV := hide (fun (hz : szR r ≤ 1048576) => hearV_cnt r o hz)
  have HM1 := hide (fun (hz : szR r ≤ 1048576) W a b c d e vo vu F h hF hlt => markRep_any n W a b c d e vo vu r F 1 h hF hlt (by have := cntT_sz (n + 1) r.first; unfold szR at hz; omega) (by have := cntOs_sz r.ops; unfold szR at hz; omega) (by unfold szR at hz; omega) (by omega) (by omega))
  have HM := hide (fun w base a1 a2 a3 c1 c2 c3 z h hs h0 h1 => markOp_any w base o a1 a2 a3 c1 c2 c3 z h hs h0 h1)
  have HQR := hide (fun W a b c d e vo vu a' b' c' d' e' vo' vu' h h' => eqRep_same n W a b c d e vo vu a' b' c' d' e' vo' vu' r h h')
  have hcr : szR r ≤ 1048576 → cntR r ≤ 33554432 := fun hz => by have := cntT_sz (n + 1) r.first; have := cntOs_sz r.ops; unfold szR at hz; unfold cntR; omega
  obtain ⟨za, pa, npa, cpa, qa, nqa, cqa, ra, nra, cra, ua, nua, cua, rfl, rfl, rfl, rfl, rfl⟩ := rd5 h.1
  obtain ⟨oa, oc, rfl, _, _⟩ := Elems.shape h.2.1
  obtain ⟨ia, ic, rfl, _, _⟩ := Elems.shape h.2.2
  obtain ⟨k, nn, t, rfl, hk, hn, ht⟩ := ho
  obtain ⟨aK, cK, rfl, _, _⟩ := hk.shape
  obtain ⟨aN, cN, rfl, _, _⟩ := hn.shape
  obtain ⟨aT, cT, rfl, _, _⟩ := ht.shape
  clear hk hn ht h
  generalize hearV r o = hv at *
  generalize hearB r o = hb at *
  unfold szO at HS HI
  obtain ⟨nK, hnK⟩ : ∃ x, x = o.key.length := ⟨_, rfl⟩
  obtain ⟨nN, hnN⟩ : ∃ x, x = o.name.length := ⟨_, rfl⟩
  obtain ⟨nT, hnT⟩ : ∃ x, x = o.text.length := ⟨_, rfl⟩
  rw [← hnK, ← hnN, ← hnT] at HZ2 HTO HS HI HM ⊢
  clear hnK hnN hnT
  unfold opVal at HZ2 HTO HM ⊢
  unfold repVal at HZ HT HM1 HQR ⊢
  have HIu := HI
  unfold repVal at HIu
  have HQV := hide (fun W a b c d e vo vu a' b' c' d' e' vo' vu' h h' => eqRep_same n W a b c d e vo vu a' b' c' d' e' vo' vu' hv h h')
  have HMV := hide (fun (b : cntT (n + 1) hv.first ≤ 4194304 ∧ cntOs hv.ops ≤ 16777216 ∧ hv.und.length ≤ 4194304) W a b' c d e vo vu F h hF hlt => markRep_any n W a b' c d e vo vu hv F 1 h hF hlt b.1 b.2.1 b.2.2 (by omega) (by omega))
  have HHV := hide (fun (b : cntT (n + 1) hv.first ≤ 4194304 ∧ cntOs hv.ops ≤ 16777216 ∧ hv.und.length ≤ 4194304) W a b' c d e vo vu h => heldRep_any n W a b' c d e vo vu hv 1 h b.1 b.2.1 b.2.2 (by omega) (by omega))
  unfold repVal at HQV HMV HHV
  generalize r.ops.length = no at *
  generalize r.und.length = nu at *
  obtain ⟨l0, l1, hA⟩ := two w #[.int .i64 r.id, .int .i64 r.clock, .int .i64 za, .slice pa npa cpa, .slice qa nqa cqa, .slice ra nra cra, .slice ua nua cua, .slice oa no oc, .slice ia nu ic, .bool r.lost] #[.int .i64 o.kind, .int .i64 o.atN, .int .i64 o.atR, .int .i64 o.nodeN, .int .i64 o.nodeR, .int .i64 o.parN, .int .i64 o.parR, .slice aK nK cK, .int .i64 o.elem, .slice aN nN cN, .slice aT nT cT, .bool o.gone] 56 41
  go_enter Tryz.func5, Tryz.ntmps5
  go_wp2_with fail
  generalize ((w.alloc (.cells #[.int .i64 r.id, .int .i64 r.clock, .int .i64 za, .slice pa npa cpa, .slice qa nqa cqa, .slice ra nra cra, .slice ua nua cua, .slice oa no oc, .slice ia nu ic, .bool r.lost] 56)).alloc (.cells #[.int .i64 o.kind, .int .i64 o.atN, .int .i64 o.atR, .int .i64 o.nodeN, .int .i64 o.nodeR, .int .i64 o.parN, .int .i64 o.parR, .slice aK nK cK, .int .i64 o.elem, .slice aN nN cN, .slice aT nT cT, .bool o.gone] 41)) = wa at *
  generalize hSS : w.heap.size = S at *
  have BS := hide (show ∀ (b c : World), Below S w b → Below b.heap.size b c → Below S w c from fun b c h k => h.trans (k.mono (by have := h.size; omega)))
  refine (unhide HZ _ hA).mono ?_
  rintro e w1 ⟨rfl, hB⟩
  have hA1 := unhide BS _ _ hA hB
  replace l0 := l0.all hB
  replace l1 := l1.all hB
  clear hA hB HZ
  by_cases hbig : ((szR r : Nat) : Int) ≤ 1048576
  case neg =>
    rw [rest_out hbig]
    go_wp2_with fail
    go_ret
    exact ⟨rfl, by rw [hSS]; exact hA1⟩
  rw [rest_in hbig]
  have hsz : szR r ≤ 1048576 := by omega
  replace HT := hide (unhide HT hsz)
  have hd0 : ¬ 1048576 - ((szR r : Nat) : Int) < 0 := by omega
  obtain ⟨x0, x1, x2, x3, x4, x5, x6, x7, x8, x9, x10, x11⟩ := l1.twelve
  go_wp2_with fail
  clear x0 x1 x2 x3 x4 x5 x6 x7 x8 x9 x10 x11
  refine (unhide HZ2 _ hA1 _ (by omega) (by omega)).mono ?_
  rintro e w2 ⟨rfl, hB⟩
  have hA2 := unhide BS _ _ hA1 hB
  replace l0 := l0.all hB
  replace l1 := l1.all hB
  clear hA1 hB HZ2
  by_cases hbig2 : ((nK + nN + nT : Nat) : Int) ≤ 1048576 - ((szR r : Nat) : Int)
  case neg =>
    rw [left4_out hbig2]
    go_wp2_with fail
    go_ret
    exact ⟨rfl, by rw [hSS]; exact hA2⟩
  rw [left4_in hbig2]
  have hd1 : ¬ 1048576 - ((szR r : Nat) : Int) - ((nK + nN + nT : Nat) : Int) < 0 := by omega
  have hs2 : nK + nN + nT ≤ 2097152 := by omega
  replace HS := hide (unhide HS hsz hs2)
  replace HI := hide (unhide HI hsz hs2)
  replace HIu := hide (unhide HIu hsz hs2)
  have hbv := unhide HBV hsz
  have HCV := hide (show cntR hv ≤ 33554432 by unfold cntR; omega)
  replace HMV := hide (unhide HMV hbv)
  replace HHV := hide (unhide HHV hbv)
  replace HM1 := hide (unhide HM1 hsz)
  have HCR := hide (hcr hsz)
  clear HBV hbv hcr
  replace HTO := hide (fun W hW => unhide HTO W hW hs2)
  clear hbig hbig2
  have HTr : TrSaid n w S (.agg #[.int .i64 r.id, .int .i64 r.clock, .int .i64 za, .slice pa npa cpa, .slice qa nqa cqa, .slice ra nra cra, .slice ua nua cua, .slice oa no oc, .slice ia nu ic, .bool r.lost]) r := fun W hW => (unhide HT W hW).mono (by
    rintro e w' ⟨kd, a1, n1, c1, a2, n2, c2, a3, n3, c3, a4, n4, c4, a5, c5, a6, c6, rfl, F', ho', nd, rg, hb'⟩
    exact ⟨_, _, _, _, _, _, _, rfl, F', ho', nd, rg, hb'⟩)
  have HTo : ToSaid w S (.agg #[.int .i64 o.kind, .int .i64 o.atN, .int .i64 o.atR, .int .i64 o.nodeN, .int .i64 o.nodeR, .int .i64 o.parN, .int .i64 o.parR, .slice aK nK cK, .int .i64 o.elem, .slice aN nN cN, .slice aT nT cT, .bool o.gone]) o := fun W hW => (unhide HTO W hW).mono (by
    rintro e w' ⟨a5, c5, b5, d5, e5, f5, rfl, ho', hb'⟩
    exact ⟨_, rfl, ho'.rd, hb'⟩)
  have HSs : HeSaid 23 n r o hv hb := fun W a b c d e vo vu vop h1 h2 => (unhide HS W a b c d e vo vu vop h1 h2).mono (by
    rintro e' w' ⟨zk, pk, npk, cpk, qk, nqk, cqk, rk, nrk, crk, uk, nuk, cuk, ok, nok, cok, ik, nik, cik, rfl, G, ho', nd', rg', hb'⟩
    exact ⟨_, _, _, _, _, _, _, rfl, G, ho', nd', rg', hb'⟩)
  have HIs : HeSaid 25 n r o hv hb := fun W a b c d e vo vu vop h1 h2 => (unhide HI W a b c d e vo vu vop h1 h2).mono (by
    rintro e' w' ⟨zk, pk, npk, cpk, qk, nqk, cqk, rk, nrk, crk, uk, nuk, cuk, ok, nok, cok, ik, nik, cik, rfl, G, ho', nd', rg', hb'⟩
    exact ⟨_, _, _, _, _, _, _, rfl, G, ho', nd', rg', hb'⟩)
  have H31 := hide (And.intro HTr (And.intro HTo HIs))
  clear HIs HI
  go_upto_region 8 with fail
  refine reg8 hA2 l0 l1 HTr HTo HSs ?_
  clear HTr HTo HSs
  intro w3 g y0 y1 y2 y3 y4 y5 y6 F x29 x31 h0 oV ndV rgV hge hng lg
  obtain ⟨z0, p0, np0, cp0, q0, nq0, cq0, r0, nr0, cr0, u0, nu0, cu0, o0, no0, co0, i0, ni0, ci0, hy0, hy1, hy2, hy3, hy4, hy5, hy6⟩ := rd5v oV.rd
  subst hy0 hy1 hy2 hy3 hy4 hy5 hy6
  have hD := unhide BS _ _ hA2 h0
  have zS : S + 1 < w2.heap.size := l1.lt
  replace l0 := l0.all h0
  replace l1 := l1.all h0
  have zg := lg.lt
  have z3 := h0.size
  clear h0 hA2 HS
  unfold repVal
  have hne : (hb != hb) = false := by simp
  have heq : (hb == hb) = true := by simp
  obtain ⟨xa0, xa1, xa2, xa3, xa4, xa5, xa6, xa7, xa8, xa9⟩ := l0.ten
  go_wp2_with fail
  clear xa0 xa1 xa2 xa3 xa4 xa5 xa6 xa7 xa8 xa9
  refine (unhide HT _ hD).mono ?_
  rintro e w4 ⟨z4, p4, np4, cp4, q4, nq4, cq4, r4, nr4, cr4, u4, nu4, cu4, o4, co4, i4, ci4, rfl, F4, o4_, nd4, rg4, hB⟩
  replace hD := unhide BS _ _ hD hB
  replace l0 := l0.all hB
  replace l1 := l1.all hB
  replace lg := lg.all hB
  replace oV := oV.keep hB
  have z4_ := hB.size
  clear hB
  have hB : Below w4.heap.size w4 (w4.alloc (.cells #[.int .i64 r.id, .int .i64 r.clock, .int .i64 z4, .slice p4 np4 cp4, .slice q4 nq4 cq4, .slice r4 nr4 cr4, .slice u4 nu4 cu4, .slice o4 no co4, .slice i4 nu ci4, .bool r.lost] 64)) := (Below.refl _ _).alloc (Nat.le_refl _) _
  have l4 := Loc.made w4 #[.int .i64 r.id, .int .i64 r.clock, .int .i64 z4, .slice p4 np4 cp4, .slice q4 nq4 cq4, .slice r4 nr4 cr4, .slice u4 nu4 cu4, .slice o4 no co4, .slice i4 nu ci4, .bool r.lost] 64
  replace o4_ := o4_.keep hB
  replace hD := unhide BS _ _ hD hB
  replace l0 := l0.all hB
  replace l1 := l1.all hB
  replace lg := lg.all hB
  replace oV := oV.keep hB
  have z5 := hB.size
  clear hB
  have LL := hide (And.intro hD (And.intro l0 (And.intro l1 (And.intro lg (And.intro l4 (And.intro oV (o4_)))))))
  clear hD l0 l1 lg l4 oV o4_
  go_upto_region 10 with fail
  generalize (w4.alloc (.cells #[.int .i64 r.id, .int .i64 r.clock, .int .i64 z4, .slice p4 np4 cp4, .slice q4 nq4 cq4, .slice r4 nr4 cr4, .slice u4 nu4 cu4, .slice o4 no co4, .slice i4 nu ci4, .bool r.lost] 64)) = w5 at *
  obtain ⟨hD, l0, l1, lg, l4, oV, o4_⟩ := unhide LL
  clear LL
  generalize hSS4 : w4.heap.size = S4 at *
  have qS4 := l4.lt
  obtain ⟨xb0, xb1, xb2, xb3, xb4, xb5, xb6, xb7, xb8, xb9, xb10, xb11⟩ := l1.twelve
  go_wp2_with fail
  clear xb0 xb1 xb2 xb3 xb4 xb5 xb6 xb7 xb8 xb9 xb10 xb11
  refine (unhide HTO _ hD).mono ?_
  rintro e w6 ⟨a6, c6, b6, d6, e6, f6, rfl, o6_, hB⟩
  have R6 : ∀ q ∈ FB (.slice a6 nK c6) ++ FB (.slice b6 nN d6) ++ FB (.slice e6 nT f6), w5.heap.size ≤ q ∧ q < w6.heap.size := fun q hq => o6_.rng q hq
  replace hD := unhide BS _ _ hD hB
  replace l0 := l0.all hB
  replace l1 := l1.all hB
  replace lg := lg.all hB
  replace l4 := l4.all hB
  replace oV := oV.keep hB
  replace o4_ := o4_.keep hB
  have z6 := hB.size
  clear hB
  have hB : Below w6.heap.size w6 (w6.alloc (.cells #[.int .i64 o.kind, .int .i64 o.atN, .int .i64 o.atR, .int .i64 o.nodeN, .int .i64 o.nodeR, .int .i64 o.parN, .int .i64 o.parR, .slice a6 nK c6, .int .i64 o.elem, .slice b6 nN d6, .slice e6 nT f6, .bool o.gone] 28)) := (Below.refl _ _).alloc (Nat.le_refl _) _
  have l6 := Loc.made w6 #[.int .i64 o.kind, .int .i64 o.atN, .int .i64 o.atR, .int .i64 o.nodeN, .int .i64 o.nodeR, .int .i64 o.parN, .int .i64 o.parR, .slice a6 nK c6, .int .i64 o.elem, .slice b6 nN d6, .slice e6 nT f6, .bool o.gone] 28
  replace o6_ := o6_.keep hB
  replace hD := unhide BS _ _ hD hB
  replace l0 := l0.all hB
  replace l1 := l1.all hB
  replace lg := lg.all hB
  replace l4 := l4.all hB
  replace oV := oV.keep hB
  replace o4_ := o4_.keep hB
  have z7 := hB.size
  clear hB
  have LL := hide (And.intro hD (And.intro l0 (And.intro l1 (And.intro lg (And.intro l4 (And.intro l6 (And.intro oV (And.intro o4_ (o6_)))))))))
  clear hD l0 l1 lg l4 l6 oV o4_ o6_
  go_upto_region 11 with fail
  generalize (w6.alloc (.cells #[.int .i64 o.kind, .int .i64 o.atN, .int .i64 o.atR, .int .i64 o.nodeN, .int .i64 o.nodeR, .int .i64 o.parN, .int .i64 o.parR, .slice a6 nK c6, .int .i64 o.elem, .slice b6 nN d6, .slice e6 nT f6, .bool o.gone] 28)) = w7 at *
  obtain ⟨hD, l0, l1, lg, l4, l6, oV, o4_, o6_⟩ := unhide LL
  clear LL
  generalize hSS6 : w6.heap.size = S6 at *
  have qS6 := l6.lt
  obtain ⟨xa0, xa1, xa2, xa3, xa4, xa5, xa6, xa7, xa8, xa9⟩ := l4.ten
  obtain ⟨xb0, xb1, xb2, xb3, xb4, xb5, xb6, xb7, xb8, xb9, xb10, xb11⟩ := l6.twelve
  go_wp2_with fail
  clear xa0 xa1 xa2 xa3 xa4 xa5 xa6 xa7 xa8 xa9 xb0 xb1 xb2 xb3 xb4 xb5 xb6 xb7 xb8 xb9 xb10 xb11
  refine (unhide HIu _ _ _ _ _ _ _ _ _ o4_.rd o6_.rd).mono ?_
  rintro e w8 ⟨z8, p8, np8, cp8, q8, nq8, cq8, r8, nr8, cr8, u8, nu8, cu8, o8, no8, co8, i8, ni8, ci8, rfl, F8, o8_, nd8, rg8, hB⟩
  replace hD := unhide BS _ _ hD hB
  replace l0 := l0.all hB
  replace l1 := l1.all hB
  replace lg := lg.all hB
  replace l4 := l4.all hB
  replace l6 := l6.all hB
  replace oV := oV.keep hB
  replace o4_ := o4_.keep hB
  replace o6_ := o6_.keep hB
  have z8_ := hB.size
  clear hB
  have hB : Below w8.heap.size w8 (w8.alloc (.cells #[.int .i64 hv.id, .int .i64 hv.clock, .int .i64 z8, .slice p8 np8 cp8, .slice q8 nq8 cq8, .slice r8 nr8 cr8, .slice u8 nu8 cu8, .slice o8 no8 co8, .slice i8 ni8 ci8, .bool hv.lost] 64)) := (Below.refl _ _).alloc (Nat.le_refl _) _
  have l8 := Loc.made w8 #[.int .i64 hv.id, .int .i64 hv.clock, .int .i64 z8, .slice p8 np8 cp8, .slice q8 nq8 cq8, .slice r8 nr8 cr8, .slice u8 nu8 cu8, .slice o8 no8 co8, .slice i8 ni8 ci8, .bool hv.lost] 64
  replace o8_ := o8_.keep hB
  replace hD := unhide BS _ _ hD hB
  replace l0 := l0.all hB
  replace l1 := l1.all hB
  replace lg := lg.all hB
  replace l4 := l4.all hB
  replace l6 := l6.all hB
  replace oV := oV.keep hB
  replace o4_ := o4_.keep hB
  replace o6_ := o6_.keep hB
  have z9 := hB.size
  clear hB
  have LL := hide (And.intro hD (And.intro l0 (And.intro l1 (And.intro lg (And.intro l4 (And.intro l6 (And.intro l8 (And.intro oV (And.intro o4_ (And.intro o6_ (o8_)))))))))))
  clear hD l0 l1 lg l4 l6 l8 oV o4_ o6_ o8_
  go_upto_region 12 with fail
  generalize (w8.alloc (.cells #[.int .i64 hv.id, .int .i64 hv.clock, .int .i64 z8, .slice p8 np8 cp8, .slice q8 nq8 cq8, .slice r8 nr8 cr8, .slice u8 nu8 cu8, .slice o8 no8 co8, .slice i8 ni8 ci8, .bool hv.lost] 64)) = w9 at *
  obtain ⟨hD, l0, l1, lg, l4, l6, l8, oV, o4_, o6_, o8_⟩ := unhide LL
  clear LL
  generalize hSS8 : w8.heap.size = S8 at *
  have qS8 := l8.lt
  obtain ⟨xa0, xa1, xa2, xa3, xa4, xa5, xa6, xa7, xa8, xa9⟩ := l8.ten
  obtain ⟨ya0, ya1, ya2, ya3, ya4, ya5, ya6, ya7, ya8, ya9⟩ := lg.ten
  go_wp2_with fail
  clear xa0 xa1 xa2 xa3 xa4 xa5 xa6 xa7 xa8 xa9 ya0 ya1 ya2 ya3 ya4 ya5 ya6 ya7 ya8 ya9
  refine (unhide HQV _ _ _ _ _ _ _ _ _ _ _ _ _ _ _ o8_.rd oV.rd).mono ?_
  rintro e w10 ⟨rfl, hB⟩
  replace hD := unhide BS _ _ hD hB
  replace l0 := l0.all hB
  replace l1 := l1.all hB
  replace lg := lg.all hB
  replace l4 := l4.all hB
  replace l6 := l6.all hB
  replace l8 := l8.all hB
  replace oV := oV.keep hB
  replace o4_ := o4_.keep hB
  replace o6_ := o6_.keep hB
  replace o8_ := o8_.keep hB
  have z10 := hB.size
  clear hB
  obtain ⟨xa0, xa1, xa2, xa3, xa4, xa5, xa6, xa7, xa8, xa9⟩ := l0.ten
  obtain ⟨ya0, ya1, ya2, ya3, ya4, ya5, ya6, ya7, ya8, ya9⟩ := l4.ten
  go_wp2_with fail
  go_region_held3 (fun w' => w'.cell? ⟨S, 0, none⟩ = some (.int .i64 r.id) ∧ w'.cell? ⟨S, 1, none⟩ = some (.int .i64 r.clock) ∧ w'.cell? ⟨S, 2, none⟩ = some (.int .i64 za) ∧ w'.cell? ⟨S, 3, none⟩ = some (.slice pa npa cpa) ∧ w'.cell? ⟨S, 4, none⟩ = some (.slice qa nqa cqa) ∧ w'.cell? ⟨S, 5, none⟩ = some (.slice ra nra cra) ∧ w'.cell? ⟨S, 6, none⟩ = some (.slice ua nua cua) ∧ w'.cell? ⟨S, 7, none⟩ = some (.slice oa no oc) ∧ w'.cell? ⟨S, 8, none⟩ = some (.slice ia nu ic) ∧ w'.cell? ⟨S, 9, none⟩ = some (.bool r.lost) ∧ w'.cell? ⟨S4, 0, none⟩ = some (.int .i64 r.id) ∧ w'.cell? ⟨S4, 1, none⟩ = some (.int .i64 r.clock) ∧ w'.cell? ⟨S4, 2, none⟩ = some (.int .i64 z4) ∧ w'.cell? ⟨S4, 3, none⟩ = some (.slice p4 np4 cp4) ∧ w'.cell? ⟨S4, 4, none⟩ = some (.slice q4 nq4 cq4) ∧ w'.cell? ⟨S4, 5, none⟩ = some (.slice r4 nr4 cr4) ∧ w'.cell? ⟨S4, 6, none⟩ = some (.slice u4 nu4 cu4) ∧ w'.cell? ⟨S4, 7, none⟩ = some (.slice o4 no co4) ∧ w'.cell? ⟨S4, 8, none⟩ = some (.slice i4 nu ci4) ∧ w'.cell? ⟨S4, 9, none⟩ = some (.bool r.lost))
    (first | exact ⟨by assumption, by assumption, by assumption, by assumption, by assumption, by assumption, by assumption, by assumption, by assumption, by assumption, by assumption, by assumption, by assumption, by assumption, by assumption, by assumption, by assumption, by assumption, by assumption, by assumption⟩ | simp [*])
    (first
      | (go_at_call 24; refine (unhide HT _ hD.drew).mono ?_; rintro e w11 ⟨z11, p11, np11, cp11, q11, nq11, cq11, r11, nr11, cr11, u11, nu11, cu11, o11, co11, i11, ci11, rfl, F11, o11, _, _, hB11⟩; have hE11 := bstep ((Below.refl w10.heap.size w10).drew) hB11; have hD11 := unhide BS _ _ hD hE11; obtain ⟨xa0, xa1, xa2, xa3, xa4, xa5, xa6, xa7, xa8, xa9⟩ := (l0.all hE11).ten; obtain ⟨ya0, ya1, ya2, ya3, ya4, ya5, ya6, ya7, ya8, ya9⟩ := (l4.all hE11).ten)
      | (go_at_call 26; refine (unhide HQR _ _ _ _ _ _ _ _ _ _ _ _ _ _ _ (o4_.keep hE11).rd o11.rd).mono ?_; rintro e w12 ⟨rfl, hB12⟩; have hE12 := bstep hE11 hB12; obtain ⟨xa0, xa1, xa2, xa3, xa4, xa5, xa6, xa7, xa8, xa9⟩ := (l0.all hE12).ten; obtain ⟨ya0, ya1, ya2, ya3, ya4, ya5, ya6, ya7, ya8, ya9⟩ := (l4.all hE12).ten))
  clear o11 hB11 hE11 hD11 hB12 xa0 xa1 xa2 xa3 xa4 xa5 xa6 xa7 xa8 xa9 ya0 ya1 ya2 ya3 ya4 ya5 ya6 ya7 ya8 ya9
  replace hD := unhide BS _ _ hD hE12
  replace l0 := l0.all hE12
  replace l1 := l1.all hE12
  replace lg := lg.all hE12
  replace l4 := l4.all hE12
  replace l6 := l6.all hE12
  replace l8 := l8.all hE12
  replace oV := oV.keep hE12
  replace o4_ := o4_.keep hE12
  replace o6_ := o6_.keep hE12
  replace o8_ := o8_.keep hE12
  have z12_ := hE12.size
  clear hE12
  obtain ⟨xb0, xb1, xb2, xb3, xb4, xb5, xb6, xb7, xb8, xb9, xb10, xb11⟩ := l1.twelve
  obtain ⟨yb0, yb1, yb2, yb3, yb4, yb5, yb6, yb7, yb8, yb9, yb10, yb11⟩ := l6.twelve
  go_wp2_with fail
  go_region_held3 (fun w' => w'.cell? ⟨S + 1, 0, none⟩ = some (.int .i64 o.kind) ∧ w'.cell? ⟨S + 1, 1, none⟩ = some (.int .i64 o.atN) ∧ w'.cell? ⟨S + 1, 2, none⟩ = some (.int .i64 o.atR) ∧ w'.cell? ⟨S + 1, 3, none⟩ = some (.int .i64 o.nodeN) ∧ w'.cell? ⟨S + 1, 4, none⟩ = some (.int .i64 o.nodeR) ∧ w'.cell? ⟨S + 1, 5, none⟩ = some (.int .i64 o.parN) ∧ w'.cell? ⟨S + 1, 6, none⟩ = some (.int .i64 o.parR) ∧ w'.cell? ⟨S + 1, 7, none⟩ = some (.slice aK nK cK) ∧ w'.cell? ⟨S + 1, 8, none⟩ = some (.int .i64 o.elem) ∧ w'.cell? ⟨S + 1, 9, none⟩ = some (.slice aN nN cN) ∧ w'.cell? ⟨S + 1, 10, none⟩ = some (.slice aT nT cT) ∧ w'.cell? ⟨S + 1, 11, none⟩ = some (.bool o.gone) ∧ w'.cell? ⟨S6, 0, none⟩ = some (.int .i64 o.kind) ∧ w'.cell? ⟨S6, 1, none⟩ = some (.int .i64 o.atN) ∧ w'.cell? ⟨S6, 2, none⟩ = some (.int .i64 o.atR) ∧ w'.cell? ⟨S6, 3, none⟩ = some (.int .i64 o.nodeN) ∧ w'.cell? ⟨S6, 4, none⟩ = some (.int .i64 o.nodeR) ∧ w'.cell? ⟨S6, 5, none⟩ = some (.int .i64 o.parN) ∧ w'.cell? ⟨S6, 6, none⟩ = some (.int .i64 o.parR) ∧ w'.cell? ⟨S6, 7, none⟩ = some (.slice a6 nK c6) ∧ w'.cell? ⟨S6, 8, none⟩ = some (.int .i64 o.elem) ∧ w'.cell? ⟨S6, 9, none⟩ = some (.slice b6 nN d6) ∧ w'.cell? ⟨S6, 10, none⟩ = some (.slice e6 nT f6) ∧ w'.cell? ⟨S6, 11, none⟩ = some (.bool o.gone))
    (first | exact ⟨by assumption, by assumption, by assumption, by assumption, by assumption, by assumption, by assumption, by assumption, by assumption, by assumption, by assumption, by assumption, by assumption, by assumption, by assumption, by assumption, by assumption, by assumption, by assumption, by assumption, by assumption, by assumption, by assumption, by assumption⟩ | simp [*])
    (first
      | (go_at_call 16; refine (unhide HTO _ hD.drew).mono ?_; rintro e w14 ⟨a14, c14, b14, d14, e14, f14, rfl, o14, hB14⟩; have hE14 := bstep ((Below.refl w12.heap.size w12).drew) hB14; have hD14 := unhide BS _ _ hD hE14; obtain ⟨xb0, xb1, xb2, xb3, xb4, xb5, xb6, xb7, xb8, xb9, xb10, xb11⟩ := (l1.all hE14).twelve; obtain ⟨yb0, yb1, yb2, yb3, yb4, yb5, yb6, yb7, yb8, yb9, yb10, yb11⟩ := (l6.all hE14).twelve)
      | (go_at_call 18; refine (eqOp_same _ _ _ o (o6_.keep hE14).rd o14.rd).mono ?_; rintro e w15 ⟨rfl, hB15⟩; have hE15 := bstep hE14 hB15; obtain ⟨xb0, xb1, xb2, xb3, xb4, xb5, xb6, xb7, xb8, xb9, xb10, xb11⟩ := (l1.all hE15).twelve; obtain ⟨yb0, yb1, yb2, yb3, yb4, yb5, yb6, yb7, yb8, yb9, yb10, yb11⟩ := (l6.all hE15).twelve))
  clear o14 hB14 hE14 hD14 hB15 xb0 xb1 xb2 xb3 xb4 xb5 xb6 xb7 xb8 xb9 xb10 xb11 yb0 yb1 yb2 yb3 yb4 yb5 yb6 yb7 yb8 yb9 yb10 yb11
  replace hD := unhide BS _ _ hD hE15
  replace l0 := l0.all hE15
  replace l1 := l1.all hE15
  replace lg := lg.all hE15
  replace l4 := l4.all hE15
  replace l6 := l6.all hE15
  replace l8 := l8.all hE15
  replace oV := oV.keep hE15
  replace o4_ := o4_.keep hE15
  replace o6_ := o6_.keep hE15
  replace o8_ := o8_.keep hE15
  have z15 := hE15.size
  clear hE15
  obtain ⟨xa0, xa1, xa2, xa3, xa4, xa5, xa6, xa7, xa8, xa9⟩ := l4.ten
  go_wp2_with fail
  clear xa0 xa1 xa2 xa3 xa4 xa5 xa6 xa7 xa8 xa9
  refine (unhide HM1 w15 _ _ _ _ _ _ _ F4 o4_ nd4 (fun q hq => by have := (rg4 q hq).2; omega)).mono ?_
  rintro e w16 ⟨rfl, _, hF⟩
  replace hD := hD.trans (hF.below (by have := hD.size; omega) (fun q hq => by have := (rg4 q hq).1; omega))
  replace l0 := l0.frm hF (fun hm => by have := rg4 _ hm; omega)
  replace l1 := l1.frm hF (fun hm => by have := rg4 _ hm; omega)
  replace lg := lg.frm hF (fun hm => by have := rg4 _ hm; omega)
  replace l6 := l6.frm hF (fun hm => by have := rg4 _ hm; omega)
  replace l8 := l8.frm hF (fun hm => by have := rg4 _ hm; omega)
  replace oV := OwRep.frm oV hF (fun q hq hm => by have := rg4 _ hm; have := rgV _ hq; omega)
  replace o6_ := o6_.frmP hF (fun q hq hm => by have := rg4 _ hm; have := R6 _ hq; omega)
  replace o8_ := OwRep.frm o8_ hF (fun q hq hm => by have := rg4 _ hm; have := rg8 _ hq; omega)
  have z16 := hF.size
  clear hF o4_ l4 nd4
  have hk1 : (0 : Int) ≤ 1 + ((cntR r : Nat) : Int) := by omega
  have hk2 : 1 + ((cntR r : Nat) : Int) ≤ 900000000 := by have := unhide HCR; omega
  generalize 1 + ((cntR r : Nat) : Int) = K at *
  obtain ⟨xb0, xb1, xb2, xb3, xb4, xb5, xb6, xb7, xb8, xb9, xb10, xb11⟩ := l6.twelve
  go_wp2_with fail
  clear xb0 xb1 xb2 xb3 xb4 xb5 xb6 xb7 xb8 xb9 xb10 xb11
  have HQ := hide (unhide HM w16 _ _ _ _ _ _ _ K o6_ hs2 hk1 hk2)
  refine (unhide HQ).mono ?_
  rintro e w17 ⟨rfl, _, hF⟩
  replace hD := hD.trans (hF.below (by have := hD.size; omega) (fun q hq => by have := (R6 q hq).1; omega))
  replace l0 := l0.frm hF (fun hm => by have := R6 _ hm; omega)
  replace l1 := l1.frm hF (fun hm => by have := R6 _ hm; omega)
  replace lg := lg.frm hF (fun hm => by have := R6 _ hm; omega)
  replace l8 := l8.frm hF (fun hm => by have := R6 _ hm; omega)
  replace oV := OwRep.frm oV hF (fun q hq hm => by have := R6 _ hm; have := rgV _ hq; omega)
  replace o8_ := OwRep.frm o8_ hF (fun q hq hm => by have := R6 _ hm; have := rg8 _ hq; omega)
  have z17 := hF.size
  clear hF o6_ l6 HM HQ
  have hk3 : decide (K + (nK : Int) + (nN : Int) + (nT : Int) < 0) = false := by simp; omega
  obtain ⟨xa0, xa1, xa2, xa3, xa4, xa5, xa6, xa7, xa8, xa9⟩ := l8.ten
  obtain ⟨ya0, ya1, ya2, ya3, ya4, ya5, ya6, ya7, ya8, ya9⟩ := lg.ten
  go_wp2_with fail
  clear xa0 xa1 xa2 xa3 xa4 xa5 xa6 xa7 xa8 xa9 ya0 ya1 ya2 ya3 ya4 ya5 ya6 ya7 ya8 ya9
  refine (unhide HQV _ _ _ _ _ _ _ _ _ _ _ _ _ _ _ o8_.rd oV.rd).mono ?_
  rintro e w18 ⟨rfl, hB⟩
  replace hD := unhide BS _ _ hD hB
  replace l0 := l0.all hB
  replace l1 := l1.all hB
  replace lg := lg.all hB
  replace l8 := l8.all hB
  replace oV := oV.keep hB
  replace o8_ := o8_.keep hB
  have z18 := hB.size
  clear hB
  obtain ⟨xa0, xa1, xa2, xa3, xa4, xa5, xa6, xa7, xa8, xa9⟩ := l8.ten
  go_wp2_with fail
  clear xa0 xa1 xa2 xa3 xa4 xa5 xa6 xa7 xa8 xa9
  refine (unhide HMV w18 _ _ _ _ _ _ _ F8 o8_ nd8 (fun q hq => by have := (rg8 q hq).2; omega)).mono ?_
  rintro e w19 ⟨rfl, om, hF⟩
  replace hD := hD.trans (hF.below (by have := hD.size; omega) (fun q hq => by have := (rg8 q hq).1; omega))
  replace l0 := l0.frm hF (fun hm => by have := rg8 _ hm; omega)
  replace l1 := l1.frm hF (fun hm => by have := rg8 _ hm; omega)
  replace lg := lg.frm hF (fun hm => by have := rg8 _ hm; omega)
  replace l8 := l8.frm hF (fun hm => by have := rg8 _ hm; omega)
  replace oV := OwRep.frm oV hF (fun q hq hm => by have := rg8 _ hm; have := rgV _ hq; omega)
  have z19 := hF.size
  clear hF o8_ nd8
  have HH := hide (fun W (hW : Below w19.heap.size w19 W) => unhide HHV W _ _ _ _ _ _ _ (om.rd.keep hW))
  have hm1 : decide (1 + ((cntR hv : Nat) : Int) < 0) = false := by simp; omega
  generalize 1 + ((cntR hv : Nat) : Int) = M at *
  have hm2 : (M != M) = false := by simp
  have hm3 : (M == M) = true := by simp
  clear om HHV HMV
  obtain ⟨xa0, xa1, xa2, xa3, xa4, xa5, xa6, xa7, xa8, xa9⟩ := l8.ten
  go_wp2_with fail
  clear xa0 xa1 xa2 xa3 xa4 xa5 xa6 xa7 xa8 xa9
  refine (unhide HH w19 (Below.refl _ _)).mono ?_
  rintro e w20 ⟨rfl, hB⟩
  replace HH := hide (fun W (hW : Below w20.heap.size w20 W) => unhide HH W (bstep hB hW))
  replace hD := unhide BS _ _ hD hB
  replace l0 := l0.all hB
  replace l1 := l1.all hB
  replace lg := lg.all hB
  replace l8 := l8.all hB
  replace oV := oV.keep hB
  have z20 := hB.size
  clear hB
  go_upto_region 31 with fail
  obtain ⟨HTr, HTo, HIs⟩ := unhide H31
  refine reg31 hD l0 l1 HTr HTo HIs ?_
  clear HTr HTo HIs H31
  intro w21 gW y0 y1 y2 y3 y4 y5 y6 FW x96 x98 h0 oW ndW rgW hgW hnW lW
  obtain ⟨z9, p9, np9, cp9, q9, nq9, cq9, r9, nr9, cr9, u9, nu9, cu9, o9, no9, co9, i9, ni9, ci9, hy0, hy1, hy2, hy3, hy4, hy5, hy6⟩ := rd5v oW.rd
  subst hy0 hy1 hy2 hy3 hy4 hy5 hy6
  replace hD := unhide BS _ _ hD h0
  replace lg := lg.all h0
  replace l8 := l8.all h0
  replace oV := oV.keep h0
  replace HH := hide (fun W (hW : Below w21.heap.size w21 W) => unhide HH W (bstep h0 hW))
  clear h0 HIu HT HTO l0 l1
  unfold repVal
  obtain ⟨xa0, xa1, xa2, xa3, xa4, xa5, xa6, xa7, xa8, xa9⟩ := lW.ten
  obtain ⟨ya0, ya1, ya2, ya3, ya4, ya5, ya6, ya7, ya8, ya9⟩ := lg.ten
  go_wp2_with fail
  clear xa0 xa1 xa2 xa3 xa4 xa5 xa6 xa7 xa8 xa9 ya0 ya1 ya2 ya3 ya4 ya5 ya6 ya7 ya8 ya9
  refine (unhide HQV _ _ _ _ _ _ _ _ _ _ _ _ _ _ _ oW.rd oV.rd).mono ?_
  rintro e w22 ⟨rfl, hB⟩
  replace hD := unhide BS _ _ hD hB
  replace l8 := l8.all hB
  obtain ⟨xa0, xa1, xa2, xa3, xa4, xa5, xa6, xa7, xa8, xa9⟩ := l8.ten
  go_wp2_with fail
  refine (unhide HH w22 hB).mono ?_
  rintro e w23 ⟨rfl, hB⟩
  replace hD := unhide BS _ _ hD hB
  go_wp2_with fail
  go_ret
  exact ⟨rfl, by rw [hSS]; exact hD⟩
end Go.Proofs.YtkmmhlimihkgfaaGreat

/- An argument of a law that can be read as data is a row of numbers, a stamp, an operation: what the data's readings open to. No condition. -/
namespace Go.Proofs.YtkmmhlimihkgfaaGreat
open Go.RowKit Go.ChangeShapes
set_option linter.unusedVariables false
set_option maxRecDepth 100000

variable {H : Type} {enc : TypeId × Value → H} {W : World} {held : Bool}

theorem open_bytesO {fuel : Nat} {cs : List Value} {x : DataW H × List MemPlace} (h : DataW.trod enc Tryz.prog W 0 (fun _ => true) held fuel 22 cs = some x) :
    ∃ v l, cs = [v] ∧ Byt W v l := by
  rcases open_ints Tryz.underlying22 Tryz.underlying5 (by kernel_rfl) h with ⟨hcs, _⟩ | ⟨a, len, cap, zs, hcs, _, hl, hm, hz, _, hcell, hwz⟩
  · exact ⟨_, _, hcs, byt_of_row (zs := []) (.inl ⟨rfl, rfl, rfl, rfl⟩)⟩
  · exact ⟨_, _, hcs, byt_of_row (.inr ⟨_, rfl, hl, hm, by simpa using hz, hcell, hwz⟩)⟩
theorem open_intsO {fuel : Nat} {cs : List Value} {x : DataW H × List MemPlace} (h : DataW.trod enc Tryz.prog W 0 (fun _ => true) held fuel 26 cs = some x) :
    ∃ v l, cs = [v] ∧ Ints W v l := by
  rcases open_ints Tryz.underlying26 Tryz.underlying3 (by kernel_rfl) h with ⟨hcs, _⟩ | ⟨a, len, cap, zs, hcs, _, hl, hm, hz, _, hcell, hwz⟩
  · exact ⟨_, _, hcs, ints_of_row (zs := []) (.inl ⟨rfl, rfl, rfl, rfl⟩)⟩
  · exact ⟨_, _, hcs, ints_of_row (.inr ⟨_, rfl, hl, hm, by simpa using hz, hcell, hwz⟩)⟩

theorem some_atO {α : Type} {l : List α} {n i : Nat} (h : l.length = n) (hi : i < n) : ∃ y, l[i]? = some y := ⟨l[i]'(by omega), List.getElem?_eq_getElem (by omega)⟩

/-- An argument that is a row of bytes. -/
theorem arg_bytesO {r : Reach} {base : Nat} {v : Value} {d : DataW H} {p : List MemPlace} (hv : Value.okWide Tryz.prog W r base 22 v) (h : DataW.Trod enc Tryz.prog W 0 (fun _ => true) held 22 v d p) : ∃ l, Byt W v l := by
  obtain ⟨a, len, cap, rfl⟩ := WideShapes.okWide_slice Tryz.underlying22 hv
  obtain ⟨fuel, hf⟩ := h
  obtain ⟨u, l, hu, hb⟩ := open_bytesO hf
  simp [Value.cells] at hu
  subst hu
  exact ⟨l, hb⟩
/-- An argument that is a row of numbers. -/
theorem arg_ints {r : Reach} {base : Nat} {v : Value} {d : DataW H} {p : List MemPlace} (hv : Value.okWide Tryz.prog W r base 26 v) (h : DataW.Trod enc Tryz.prog W 0 (fun _ => true) held 26 v d p) : ∃ l, Ints W v l := by
  obtain ⟨a, len, cap, rfl⟩ := WideShapes.okWide_slice Tryz.underlying26 hv
  obtain ⟨fuel, hf⟩ := h
  obtain ⟨u, l, hu, hb⟩ := open_intsO hf
  simp [Value.cells] at hu
  subst hu
  exact ⟨l, hb⟩

theorem open_id {fuel : Nat} {cs : List Value} {x : DataW H × List MemPlace} (h : DataW.trod enc Tryz.prog W 0 (fun _ => true) held fuel 39 cs = some x) : ∃ n r : Int, cs = [.int .i64 n, .int .i64 r] := by
  obtain ⟨xs, n, _, _, hlen, hxs, hf⟩ := DataW.trod_struct Tryz.underlying39 h
  have hlen2 : cs.length = 2 := hlen.trans (by kernel_rfl)
  match cs, hlen2 with
  | [c0, c1], _ =>
    obtain ⟨y0, e0⟩ := some_atO (i := 0) hxs (by simp)
    obtain ⟨y1, e1⟩ := some_atO (i := 1) hxs (by simp)
    have h0 : DataW.trod enc Tryz.prog W 0 (fun _ => true) held n 3 (([c0, c1].drop 0).take (Tryz.prog.cellsOf 3)) = some y0 := (hf 0 _ rfl).trans e0
    have h1 : DataW.trod enc Tryz.prog W 0 (fun _ => true) held n 3 (([c0, c1].drop 1).take (Tryz.prog.cellsOf 3)) = some y1 := (hf 1 _ rfl).trans e1
    have k1 : Tryz.prog.cellsOf 3 = 1 := by kernel_rfl
    simp only [k1, List.drop, List.take] at h0 h1
    obtain ⟨z0, g0, _, _⟩ := DataW.trod_int Tryz.underlying3 h0
    obtain ⟨z1, g1, _, _⟩ := DataW.trod_int Tryz.underlying3 h1
    simp at g0 g1
    subst g0; subst g1
    exact ⟨z0, z1, rfl⟩
/-- An argument that is a stamp. -/
theorem arg_id {r : Reach} {base : Nat} {v : Value} {x : DataW H} {p : List MemPlace} (hv : Value.okWide Tryz.prog W r base 39 v) (h : DataW.Trod enc Tryz.prog W 0 (fun _ => true) held 39 v x p) :
    ∃ n m : Int, v = .agg #[.int .i64 n, .int .i64 m] := by
  obtain ⟨cs, rfl, hsz⟩ := WideShapes.okWide_struct Tryz.underlying39 hv
  obtain ⟨fuel, hf⟩ := h
  obtain ⟨n, m, e⟩ := open_id hf
  refine ⟨n, m, ?_⟩
  obtain ⟨l⟩ := cs
  have e' : l = [.int .i64 n, .int .i64 m] := e
  rw [e']
end Go.Proofs.YtkmmhlimihkgfaaGreat

/- An argument of a law that can be read as data is an operation: what the data's reading opens to. No condition. -/
namespace Go.Proofs.YtkmmhlimihkgfaaGreat
open Go.RowKit Go.ChangeShapes
set_option linter.unusedVariables false
set_option maxRecDepth 100000

variable {H : Type} {enc : TypeId × Value → H} {W : World} {held : Bool}

theorem open_op {fuel : Nat} {cs : List Value} {x : DataW H × List MemPlace} (h : DataW.trod enc Tryz.prog W 0 (fun _ => true) held fuel 41 cs = some x) : ∃ o, RdOp W (.agg cs.toArray) o := by
  obtain ⟨xs, n, _, _, hlen, hxs, hf⟩ := DataW.trod_struct Tryz.underlying41 h
  have hlen2 : cs.length = 12 := hlen.trans (by kernel_rfl)
  match cs, hlen2 with
  | [c0, c1, c2, c3, c4, c5, c6, c7, c8, c9, c10, c11], _ =>
    obtain ⟨y0, e0⟩ := some_atO (i := 0) hxs (by simp)
    obtain ⟨y1, e1⟩ := some_atO (i := 1) hxs (by simp)
    obtain ⟨y2, e2⟩ := some_atO (i := 2) hxs (by simp)
    obtain ⟨y3, e3⟩ := some_atO (i := 3) hxs (by simp)
    obtain ⟨y4, e4⟩ := some_atO (i := 4) hxs (by simp)
    obtain ⟨y5, e5⟩ := some_atO (i := 5) hxs (by simp)
    obtain ⟨y6, e6⟩ := some_atO (i := 6) hxs (by simp)
    obtain ⟨y7, e7⟩ := some_atO (i := 7) hxs (by simp)
    obtain ⟨y8, e8⟩ := some_atO (i := 8) hxs (by simp)
    have h0 : DataW.trod enc Tryz.prog W 0 (fun _ => true) held n 3 (([c0, c1, c2, c3, c4, c5, c6, c7, c8, c9, c10, c11].drop 0).take (Tryz.prog.cellsOf 3)) = some y0 := (hf 0 _ rfl).trans e0
    have h1 : DataW.trod enc Tryz.prog W 0 (fun _ => true) held n 39 (([c0, c1, c2, c3, c4, c5, c6, c7, c8, c9, c10, c11].drop 1).take (Tryz.prog.cellsOf 39)) = some y1 := (hf 1 _ rfl).trans e1
    have h2 : DataW.trod enc Tryz.prog W 0 (fun _ => true) held n 39 (([c0, c1, c2, c3, c4, c5, c6, c7, c8, c9, c10, c11].drop 3).take (Tryz.prog.cellsOf 39)) = some y2 := (hf 2 _ rfl).trans e2
    have h3 : DataW.trod enc Tryz.prog W 0 (fun _ => true) held n 39 (([c0, c1, c2, c3, c4, c5, c6, c7, c8, c9, c10, c11].drop 5).take (Tryz.prog.cellsOf 39)) = some y3 := (hf 3 _ rfl).trans e3
    have h4 : DataW.trod enc Tryz.prog W 0 (fun _ => true) held n 26 (([c0, c1, c2, c3, c4, c5, c6, c7, c8, c9, c10, c11].drop 7).take (Tryz.prog.cellsOf 26)) = some y4 := (hf 4 _ rfl).trans e4
    have h5 : DataW.trod enc Tryz.prog W 0 (fun _ => true) held n 3 (([c0, c1, c2, c3, c4, c5, c6, c7, c8, c9, c10, c11].drop 8).take (Tryz.prog.cellsOf 3)) = some y5 := (hf 5 _ rfl).trans e5
    have h6 : DataW.trod enc Tryz.prog W 0 (fun _ => true) held n 22 (([c0, c1, c2, c3, c4, c5, c6, c7, c8, c9, c10, c11].drop 9).take (Tryz.prog.cellsOf 22)) = some y6 := (hf 6 _ rfl).trans e6
    have h7 : DataW.trod enc Tryz.prog W 0 (fun _ => true) held n 22 (([c0, c1, c2, c3, c4, c5, c6, c7, c8, c9, c10, c11].drop 10).take (Tryz.prog.cellsOf 22)) = some y7 := (hf 7 _ rfl).trans e7
    have h8 : DataW.trod enc Tryz.prog W 0 (fun _ => true) held n 4 (([c0, c1, c2, c3, c4, c5, c6, c7, c8, c9, c10, c11].drop 11).take (Tryz.prog.cellsOf 4)) = some y8 := (hf 8 _ rfl).trans e8
    have ki : Tryz.prog.cellsOf 3 = 1 := by kernel_rfl
    have k1 : Tryz.prog.cellsOf 22 = 1 := by kernel_rfl
    have k2 : Tryz.prog.cellsOf 26 = 1 := by kernel_rfl
    have k3 : Tryz.prog.cellsOf 39 = 2 := by kernel_rfl
    have k4 : Tryz.prog.cellsOf 4 = 1 := by kernel_rfl
    simp only [ki, k1, k2, k3, k4, List.drop, List.take] at h0 h1 h2 h3 h4 h5 h6 h7 h8
    obtain ⟨z0, g0, _, _⟩ := DataW.trod_int Tryz.underlying3 h0
    obtain ⟨z1, z2, g1⟩ := open_id h1
    obtain ⟨z3, z4, g2⟩ := open_id h2
    obtain ⟨z5, z6, g3⟩ := open_id h3
    obtain ⟨v7, l7, g4, b7⟩ := open_intsO h4
    obtain ⟨z8, g5, _, _⟩ := DataW.trod_int Tryz.underlying3 h5
    obtain ⟨v9, l9, g6, b9⟩ := open_bytesO h6
    obtain ⟨v10, l10, g7, b10⟩ := open_bytesO h7
    obtain ⟨z11, g8, _⟩ := DataW.trod_bool Tryz.underlying4 h8
    simp at g0 g1 g2 g3 g4 g5 g6 g7 g8
    obtain ⟨rfl, rfl⟩ := g1
    obtain ⟨rfl, rfl⟩ := g2
    obtain ⟨rfl, rfl⟩ := g3
    subst g0; subst g4; subst g5; subst g6; subst g7; subst g8
    exact ⟨⟨z0, z1, z2, z3, z4, z5, z6, l7, z8, l9, l10, z11⟩, _, _, _, rfl, b7, b9, b10⟩
/-- An argument that is an operation. -/
theorem arg_op {r : Reach} {base : Nat} {v : Value} {x : DataW H} {p : List MemPlace} (hv : Value.okWide Tryz.prog W r base 41 v) (h : DataW.Trod enc Tryz.prog W 0 (fun _ => true) held 41 v x p) :
    ∃ o, RdOp W v o := by
  obtain ⟨cs, rfl, hsz⟩ := WideShapes.okWide_struct Tryz.underlying41 hv
  obtain ⟨fuel, hf⟩ := h
  obtain ⟨l⟩ := cs
  exact open_op hf
end Go.Proofs.YtkmmhlimihkgfaaGreat

/- An argument of a law that can be read as data is a row of operations. No condition. -/
namespace Go.Proofs.YtkmmhlimihkgfaaGreat
open Go.RowKit Go.ChangeShapes
set_option linter.unusedVariables false
set_option maxRecDepth 100000

variable {H : Type} {enc : TypeId × Value → H} {W : World} {held : Bool}

theorem opc_of {C : List Value} {o : OpV} (h : RdOp W (.agg C.toArray) o) : RdOpC W C o := by
  obtain ⟨k, n, t, e, h1, h2, h3⟩ := h
  refine ⟨k, n, t, ?_, h1, h2, h3⟩
  unfold opVal at e
  have e1 := Value.agg.inj e
  have e2 := congrArg Array.toList e1
  simpa using e2
/-- An argument that is a row of operations. -/
theorem arg_ops {r : Reach} {base : Nat} {v : Value} {d : DataW H} {p : List MemPlace} (hv : Value.okWide Tryz.prog W r base 38 v) (h : DataW.Trod enc Tryz.prog W 0 (fun _ => true) held 38 v d p) : ∃ l, RdOps W v l := by
  obtain ⟨a, len, cap, rfl⟩ := WideShapes.okWide_slice Tryz.underlying38 hv
  obtain ⟨fuel, hf⟩ := h
  obtain ⟨u, l, hu, hb⟩ := open_elems (sz := 12) (R := RdOpC W) Tryz.underlying38 (by kernel_rfl) (by omega) (fun n C y _ hy => (open_op hy).imp fun o ho => opc_of ho) hf
  simp [Value.cells] at hu
  subst hu
  exact ⟨l, hb⟩
end Go.Proofs.YtkmmhlimihkgfaaGreat

/- An argument of a law that can be read as data is a replica. No condition. -/
namespace Go.Proofs.YtkmmhlimihkgfaaGreat
open Go.RowKit Go.ChangeShapes
set_option linter.unusedVariables false
set_option maxRecDepth 100000

variable {H : Type} {enc : TypeId × Value → H} {W : World} {held : Bool}

theorem open_rep {fuel : Nat} {cs : List Value} {x : DataW H × List MemPlace} (h : DataW.trod enc Tryz.prog W 0 (fun _ => true) held fuel 56 cs = some x) : ∃ (m : Nat) (r : RepV m) (a b c d e vo vu : Value), cs = [.int .i64 r.id, .int .i64 r.clock, a, b, c, d, e, vo, vu, .bool r.lost] ∧ RdRep m W a b c d e vo vu r := by
  obtain ⟨xs, n, _, _, hlen, hxs, hf⟩ := DataW.trod_struct Tryz.underlying56 h
  have hlen2 : cs.length = 10 := hlen.trans (by kernel_rfl)
  match cs, hlen2 with
  | [c0, c1, c2, c3, c4, c5, c6, c7, c8, c9], _ =>
    obtain ⟨y0, e0⟩ := some_atO (i := 0) hxs (by simp)
    obtain ⟨y1, e1⟩ := some_atO (i := 1) hxs (by simp)
    obtain ⟨y2, e2⟩ := some_atO (i := 2) hxs (by simp)
    obtain ⟨y3, e3⟩ := some_atO (i := 3) hxs (by simp)
    obtain ⟨y4, e4⟩ := some_atO (i := 4) hxs (by simp)
    obtain ⟨y5, e5⟩ := some_atO (i := 5) hxs (by simp)
    have h0 : DataW.trod enc Tryz.prog W 0 (fun _ => true) held n 3 (([c0, c1, c2, c3, c4, c5, c6, c7, c8, c9].drop 0).take (Tryz.prog.cellsOf 3)) = some y0 := (hf 0 _ rfl).trans e0
    have h1 : DataW.trod enc Tryz.prog W 0 (fun _ => true) held n 3 (([c0, c1, c2, c3, c4, c5, c6, c7, c8, c9].drop 1).take (Tryz.prog.cellsOf 3)) = some y1 := (hf 1 _ rfl).trans e1
    have h2 : DataW.trod enc Tryz.prog W 0 (fun _ => true) held n 53 (([c0, c1, c2, c3, c4, c5, c6, c7, c8, c9].drop 2).take (Tryz.prog.cellsOf 53)) = some y2 := (hf 2 _ rfl).trans e2
    have h3 : DataW.trod enc Tryz.prog W 0 (fun _ => true) held n 38 (([c0, c1, c2, c3, c4, c5, c6, c7, c8, c9].drop 7).take (Tryz.prog.cellsOf 38)) = some y3 := (hf 3 _ rfl).trans e3
    have h4 : DataW.trod enc Tryz.prog W 0 (fun _ => true) held n 54 (([c0, c1, c2, c3, c4, c5, c6, c7, c8, c9].drop 8).take (Tryz.prog.cellsOf 54)) = some y4 := (hf 4 _ rfl).trans e4
    have h5 : DataW.trod enc Tryz.prog W 0 (fun _ => true) held n 4 (([c0, c1, c2, c3, c4, c5, c6, c7, c8, c9].drop 9).take (Tryz.prog.cellsOf 4)) = some y5 := (hf 5 _ rfl).trans e5
    have ki : Tryz.prog.cellsOf 3 = 1 := by kernel_rfl
    have k1 : Tryz.prog.cellsOf 53 = 5 := by kernel_rfl
    have k2 : Tryz.prog.cellsOf 38 = 1 := by kernel_rfl
    have k3 : Tryz.prog.cellsOf 54 = 1 := by kernel_rfl
    have k4 : Tryz.prog.cellsOf 4 = 1 := by kernel_rfl
    simp only [ki, k1, k2, k3, k4, List.drop, List.take] at h0 h1 h2 h3 h4 h5
    obtain ⟨z0, g0, _, _⟩ := DataW.trod_int Tryz.underlying3 h0
    obtain ⟨z1, g1, _, _⟩ := DataW.trod_int Tryz.underlying3 h1
    obtain ⟨t, ht⟩ := open_node (n + 1) (by omega) h2
    obtain ⟨v3, l3, g3, b3⟩ := open_elems (sz := 12) (R := RdOpC W) Tryz.underlying38 (by kernel_rfl) (by omega) (fun n C y _ hy => (open_op hy).imp fun o ho => opc_of ho) h3
    obtain ⟨v4, l4, g4, b4⟩ := open_elems (sz := 2) (R := RdIdC) Tryz.underlying54 (by kernel_rfl) (by omega) (fun n C y _ hy => by
      obtain ⟨p, q, e⟩ := open_id hy
      exact ⟨(p, q), e⟩) h4
    obtain ⟨z5, g5, _⟩ := DataW.trod_bool Tryz.underlying4 h5
    simp at g0 g1 g3 g4 g5
    subst g0; subst g1; subst g3; subst g4; subst g5
    exact ⟨n, ⟨z0, z1, t, l3, l4, z5⟩, _, _, _, _, _, _, _, rfl, ht, b3, b4⟩
/-- An argument that is a replica. -/
theorem arg_rep {r : Reach} {base : Nat} {v : Value} {x : DataW H} {p : List MemPlace} (hv : Value.okWide Tryz.prog W r base 56 v) (h : DataW.Trod enc Tryz.prog W 0 (fun _ => true) held 56 v x p) :
    ∃ (a b c d e vo vu : Value) (m : Nat) (r : RepV m), v = repVal r a b c d e vo vu ∧ RdRep m W a b c d e vo vu r := by
  obtain ⟨cs, rfl, hsz⟩ := WideShapes.okWide_struct Tryz.underlying56 hv
  obtain ⟨fuel, hf⟩ := h
  obtain ⟨l⟩ := cs
  obtain ⟨m, r, a, b, c, d, e, vo, vu, el, hr⟩ := open_rep hf
  have el' : l = [.int .i64 r.id, .int .i64 r.clock, a, b, c, d, e, vo, vu, .bool r.lost] := el
  exact ⟨a, b, c, d, e, vo, vu, m, r, by rw [el']; rfl, hr⟩
end Go.Proofs.YtkmmhlimihkgfaaGreat
