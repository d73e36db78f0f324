/- Own texts joined: FoldM, FoO, NodeI, KeyI, OpI, OpsI, FoI, MarkZ. -/
import Derived.Test.YtnfafchajjclaaaGreatDoorJa
import Derived.Test.YtnfafchajjclaaaGreatDoorJb
import Derived.Test.YtnfafchajjclaaaGreatDoorJc
import Derived.Test.YtnfafchajjclaaaGreatDoorJd
import Derived.Test.YtnfafchajjclaaaGreatDoorJe
import Derived.Test.YtnfafchajjclaaaGreatDoorJf
import Derived.Test.YtnfafchajjclaaaGreatDoorJg
import Derived.Test.YtnfafchajjclaaaGreatDoorJh
import Derived.Test.YtnfafchajjclaaaGreatDoorJi
import Derived.Test.YtnfafchajjclaaaGreatDoorJj
import Derived.Test.YtnfafchajjclaaaGreatDoorJk
import Derived.Test.YtnfafchajjclaaaGreatDoorChecked

/- The whole fold, step by step: what holds of the places all along. Mathematics. No function of the program. -/
namespace Go.Proofs.YtnfafchajjclaaaGreatDoor
open Go.RowKit
set_option linter.unusedVariables false
set_option maxRecDepth 100000

def GdA (x : AtV) : Prop := x.1.length ≤ 100 ∧ x.2.length ≤ 100
def Gd (p : PlV) : Prop := p.key.length ≤ 100 ∧ p.name.length ≤ 100 ∧ p.text.length ≤ 100 ∧ SrtA p.attrs ∧ p.attrs.length ≤ 4 ∧ ∀ x ∈ p.attrs, GdA x
theorem name_okB {l : List Int} (h : NameOk l) : okB l := fun x hx => by
  obtain ⟨i, hi, rfl⟩ := List.getElem_of_mem hx
  have h1 := h.2.2 i hi
  rw [getD_at hi] at h1
  unfold nameCh at h1
  omega
theorem srt_of {l : List AtV} (h : AttrsOk l) : SrtA l := by
  have hn : ∀ i (hi : i < l.length), NameOk l[i].1 := fun i hi => by
    have h1 := (h.2 i hi).1
    rw [List.getD_eq_getElem?_getD, List.getElem?_eq_getElem hi] at h1
    exact h1
  have hs : ∀ i (hi : i + 1 < l.length), klB l[i].1 l[i + 1].1 = true := fun i hi => by
    have h1 := (h.2 (i + 1) hi).2.2 (by omega)
    rw [show i + 1 - 1 = i by omega, List.getD_eq_getElem?_getD, List.getElem?_eq_getElem (show i < l.length by omega), List.getD_eq_getElem?_getD, List.getElem?_eq_getElem hi] at h1
    rw [← str_less (name_okB (hn i (by omega))) (name_okB (hn (i + 1) hi))]
    exact h1
  refine List.pairwise_iff_getElem.2 (fun i j hi hj hij => ?_)
  obtain ⟨d, rfl⟩ : ∃ d, j = i + 1 + d := ⟨j - i - 1, by omega⟩
  induction d with
  | zero => exact hs i hj
  | succ d ih => exact klB_trans (ih (by omega) (by omega)) (hs (i + 1 + d) hj)
theorem good_attrs {l : List AtV} (h : AttrsOk l) : SrtA l ∧ l.length ≤ 4 ∧ ∀ x ∈ l, GdA x := by
  refine ⟨srt_of h, h.1, fun x hx => ?_⟩
  obtain ⟨i, hi, rfl⟩ := List.getElem_of_mem hx
  have h1 := h.2 i hi
  unfold attrAt at h1
  rw [List.getD_eq_getElem?_getD, List.getElem?_eq_getElem hi] at h1
  have a1 := h1.1.2.1
  have a2 := h1.2.1.1
  simp only [Option.getD_some] at a1 a2
  exact ⟨by omega, by omega⟩
theorem okT_good {n : Nat} {deep : Int} {t : Tr (n + 1)} {left : Int} (h : (okT (n + 1) deep t left).1 = true) : t.name.length ≤ 100 ∧ t.text.length ≤ 100 ∧ SrtA t.attrs ∧ t.attrs.length ≤ 4 ∧ ∀ x ∈ t.attrs, GdA x := by
  rw [okT_succ] at h
  by_cases h1 : left - 1 < 0 ∨ 20 < deep
  · rw [if_pos h1] at h; cases h
  · rw [if_neg h1] at h
    by_cases h2 : t.kind = 1
    · rw [if_pos h2] at h
      obtain ⟨a1, a2, _, a4⟩ := (leafB_iff t).1 h
      have e : t.attrs = [] := List.eq_nil_of_length_eq_zero a2
      rw [e]
      have := a4.1
      exact ⟨by omega, by omega, List.Pairwise.nil, by simp, fun x hx => by cases hx⟩
    · rw [if_neg h2] at h
      by_cases h3 : elemB t = true
      · obtain ⟨_, a2, a3, a4, _⟩ := (elemB_iff t).1 h3
        have := a2.2.1
        exact ⟨by omega, by omega, good_attrs a4⟩
      · rw [if_neg h3] at h; cases h
theorem seed_good : ∀ (n : Nat) (deep : Int) (ks : List (Tr n)) (left : Int) (i : IdV) (acc : List PlV), 0 ≤ left → (okK (okT n deep) ks left).1 = true → ∀ p ∈ seedK n i ks acc, p ∈ acc ∨ Gd p
  | 0, deep, ks, left, i, acc, h0, h => fun p hp => .inl hp
  | n + 1, deep, ks, left, i, acc, h0, h => by
    have key : ∀ (f : Nd (Tr n) → Int → Bool × Int), (∀ x left, f x left = okT (n + 1) deep x left) → ∀ (ks : List (Nd (Tr n))) (k : Nat) (acc : List PlV) (left : Int), 0 ≤ left → (okK f ks left).1 = true →
        ∀ p ∈ (ks.zipIdx k).foldl (seedF n i) acc, p ∈ acc ∨ Gd p := by
      intro f hf ks
      induction ks with
      | nil => intro k acc left _ _ p hp; exact .inl hp
      | cons x r ih =>
        intro k acc left h0 h
        have h1' : (f x left).1 = true := by
          cases hb : (f x left).1 with
          | true => rfl
          | false => simp [okK, hb] at h
        have e1 : okK f (x :: r) left = okK f r (f x left).2 := by simp [okK, h1']
        rw [e1] at h
        have h1 : (okT (n + 1) deep x left).1 = true := by rw [← hf]; exact h1'
        have e3 := hf x left
        rw [e3] at h
        have hb := okT_bound (n + 1) deep x left h0
        obtain ⟨p1, p2, p3, p4⟩ := okT_parts h1
        have hk := seed_good n (deep + 1) x.kids (left - 1) (0, (acc.length : Int)) (acc ++ [seedP acc.length i x k]) p2 p3
        have hr := ih (k + 1) (seedF n i acc (x, k)) _ (hb.2.2 h1) h
        rw [List.zipIdx_cons, List.foldl_cons]
        intro p hp
        rcases hr p hp with h7 | h7
        · rcases hk p h7 with h8 | h8
          · rcases List.mem_append.1 h8 with h9 | h9
            · exact .inl h9
            · have e : p = seedP acc.length i x k := by simpa using h9
              subst e
              obtain ⟨g1, g2, g3⟩ := okT_good h1
              exact .inr ⟨by simp [seedP], g1, g2, g3⟩
          · exact .inr h8
        · exact .inr h7
    exact key (okT (n + 1) deep) (fun _ _ => rfl) ks 0 acc left h0 h
/-- Adding the kids leaves a forest. -/
theorem seed_fr : ∀ (n : Nat) (i : IdV) (ks : List (Tr n)) (acc : List PlV), Fr acc → SeedIds acc → (∃ j, posP acc i = some j) → Fr (seedK n i ks acc) ∧ (∀ id j, posP acc id = some j → posP (seedK n i ks acc) id = some j) ∧ ∀ k, k < acc.length → (seedK n i ks acc)[k]? = acc[k]?
  | 0, i, ks, acc, h, hs, hp => ⟨h, fun _ _ h => h, fun _ _ => rfl⟩
  | n + 1, i, ks, acc, h, hs, hp => by
    have key : ∀ (ks : List (Nd (Tr n))) (k : Nat) (acc : List PlV), Fr acc → SeedIds acc → (∃ j, posP acc i = some j) → Fr ((ks.zipIdx k).foldl (seedF n i) acc) ∧ (∀ id j, posP acc id = some j → posP ((ks.zipIdx k).foldl (seedF n i) acc) id = some j) ∧ ∀ m, m < acc.length → ((ks.zipIdx k).foldl (seedF n i) acc)[m]? = acc[m]? := by
      intro ks
      induction ks with
      | nil => intro k acc h _ _; exact ⟨h, fun _ _ h => h, fun _ _ => rfl⟩
      | cons x r ih =>
        intro k acc h hs hp
        obtain ⟨j, hj⟩ := hp
        rw [List.zipIdx_cons, List.foldl_cons]
        have hn : posP acc (seedP acc.length i x k).id = none := hs.new
        have h1 : Fr (acc ++ [seedP acc.length i x k]) := h.add hn (show posP acc (seedP acc.length i x k).par = some j from hj)
        have hs1 : SeedIds (acc ++ [seedP acc.length i x k]) := hs.snoc rfl rfl
        have hp1 : posP (acc ++ [seedP acc.length i x k]) (0, (acc.length : Int)) = some acc.length := by
          have := posP_snoc (i := (seedP acc.length i x k).id) hn
          rw [if_pos rfl] at this
          exact this
        obtain ⟨a1, a2, a3⟩ := seed_fr n (0, (acc.length : Int)) x.kids (acc ++ [seedP acc.length i x k]) h1 hs1 ⟨_, hp1⟩
        have hs2 : SeedIds (seedF n i acc (x, k)) := SeedIds.K n _ _ _ hs1
        obtain ⟨b1, b2, b3⟩ := ih (k + 1) (seedF n i acc (x, k)) a1 hs2 ⟨j, a2 i j (posP_app hj)⟩
        have hle : acc.length + 1 ≤ (seedF n i acc (x, k)).length := seedF_le n i acc (x, k)
        refine ⟨b1, fun id m hm => b2 id m (a2 id m (posP_app hm)), fun m hm => ?_⟩
        rw [b3 m (by omega)]
        have := a3 m (by simp; omega)
        rw [List.getElem?_append_left hm] at this
        exact this
    exact key ks 0 acc h hs hp
def rootW {n : Nat} (t : Nd (Tr n)) : PlV := ⟨0, 0, 0, 0, [], 0, t.name, [], t.attrs⟩
def baseW {n : Nat} (t : Nd (Tr n)) : List PlV := [rootW t, trashP]
def seedW {n : Nat} (t : Nd (Tr n)) : List PlV := seedK n (0, 0) t.kids (baseW t)
theorem base_fr {n : Nat} (t : Nd (Tr n)) : Fr (baseW t) := by
  refine ⟨by simp [baseW], fun p h => ?_, fun p h => ?_, ?_, fun i p hi h => ?_, ⟨fun _ => 0, fun i p hi h => ?_⟩⟩
  · simp [baseW] at h; rw [← h]; rfl
  · simp [baseW] at h; rw [← h]; rfl
  · simp [baseW, rootW, trashP, PlV.id]
  · have := (List.getElem?_eq_some_iff.1 h).1
    simp [baseW] at this
    omega
  · have := (List.getElem?_eq_some_iff.1 h).1
    simp [baseW] at this
    omega
theorem base_ids {n : Nat} (t : Nd (Tr n)) : SeedIds (baseW t) := fun p hp => by
  simp [baseW] at hp
  rcases hp with rfl | rfl
  · exact ⟨rfl, (show (0 : Int) ≤ 0 by decide), by simp [baseW, rootW]⟩
  · exact ⟨rfl, (show (0 : Int) ≤ 1 by decide), by simp [baseW, trashP]⟩
/-- What holds all along. -/
structure Alg (l : List PlV) (done : List OpV) : Prop where
  fr : Fr l
  gd : ∀ p ∈ l, Gd p
  kd : Kd2 l
  ids : ∀ p ∈ l, p.idN = 0 ∨ ∃ o ∈ done, p.id = o.at'
  len : l.length ≤ 121 + done.length
theorem Alg.at {l : List PlV} {done : List OpV} (h : Alg l done) : AtI l := fun p hp => ⟨(h.gd p hp).2.2.2.1, (h.gd p hp).2.2.2.2.1⟩
theorem seed_alg {n : Nat} {t : Tr (n + 1)} (h : okN n t = true) : Alg (seedW t) [] := by
  obtain ⟨hk, ho⟩ := Bool.and_eq_true_iff.1 (show (decide (t.kind = 0) && (okT (n + 1) 1 t 120).1) = true from h)
  obtain ⟨p1, p2, p3, p4⟩ := okT_parts ho
  obtain ⟨g1, g2, g3⟩ := okT_good ho
  have hbase : ∀ p ∈ baseW t, Gd p := fun p hp => by
    simp [baseW] at hp
    rcases hp with rfl | rfl
    · exact ⟨by simp [rootW], g1, by simp [rootW], g3⟩
    · exact ⟨by simp [trashP], by decide, by simp [trashP], List.Pairwise.nil, by simp [trashP], fun x hx => by cases hx⟩
  obtain ⟨f1, f2, f3⟩ := seed_fr n (0, 0) t.kids (baseW t) (base_fr t) (base_ids t) ⟨0, posP_some.2 ⟨by simp [baseW], rfl, fun j hj => by omega⟩⟩
  refine ⟨f1, fun p hp => ?_, fun k p hk2 hp => ?_, fun p hp => .inl ((base_ids t).K n (0, 0) t.kids (baseW t) p hp).1, ?_⟩
  · rcases seed_good n 2 t.kids (120 - 1) (0, 0) (baseW t) p2 p3 p hp with e | e
    · exact hbase p e
    · exact e
  · rw [show seedW t = seedK n (0, 0) t.kids (baseW t) from rfl, f3 k (by simpa [baseW] using hk2)] at hp
    match k, hk2 with
    | 0, _ => simp [baseW] at hp; rw [← hp]; rfl
    | 1, _ => simp [baseW] at hp; rw [← hp]; rfl
  · have h9 : (seedW t).length ≤ (baseW t).length + 119 := (seed_bd h (baseW t) (fun p hp => (hbase p hp).2.2.2.2.1)).1
    have e2 : (baseW t).length = 2 := rfl
    rw [e2] at h9
    exact h9
theorem posA_gd {l : List AtV} (h : ∀ x ∈ l, GdA x) (o : OpV) (hn : o.name.length ≤ 100) (ht : o.text.length ≤ 100) : ∀ x ∈ chgI l o, GdA x := by
  have hx : GdA (o.name, o.text) := ⟨hn, ht⟩
  unfold chgI
  intro x hx'
  split at hx'
  · split at hx'
    · rcases List.mem_append.1 hx' with e | e
      · exact h x (List.mem_of_mem_take e)
      · exact h x (List.mem_of_mem_drop e)
    · rcases List.mem_or_eq_of_mem_set hx' with e | e
      · exact h x e
      · rw [e]; exact hx
  · split at hx'
    · exact h x hx'
    · split at hx'
      · exact h x hx'
      · rcases List.mem_append.1 hx' with e | e
        · exact h x (List.mem_of_mem_take e)
        · rcases List.mem_cons.1 e with e | e
          · rw [e]; exact hx
          · exact h x (List.mem_of_mem_drop e)
theorem gd_do {l : List PlV} (h : ∀ p ∈ l, Gd p) (o : OpV) (hk : o.key.length ≤ 100) (hn : o.name.length ≤ 100) (ht : o.text.length ≤ 100) : ∀ p ∈ doV l o, Gd p := by
  unfold doV
  split
  · split
    · intro p hp
      rcases List.mem_append.1 hp with hp | hp
      · exact h p hp
      · have e : p = newP o := by simpa using hp
        rw [e]
        exact ⟨hk, hn, ht, List.Pairwise.nil, by simp [newP], fun x hx => by cases hx⟩
    · exact h
  · split
    · exact h
    · split
      · exact h
      · rename_i p hp
        obtain ⟨a1, a2, a3, a4, a5, a6⟩ := h p (List.mem_of_getElem? hp)
        split
        · split
          · intro q hq
            rcases set_mem hq with hq | rfl
            · exact h q hq
            · exact ⟨hk, a2, a3, a4, a5, a6⟩
          · exact h
        · split
          · split
            · intro q hq
              rcases set_mem hq with hq | rfl
              · exact h q hq
              · exact ⟨a1, a2, ht, a4, a5, a6⟩
            · exact h
          · split
            · intro q hq
              rcases set_mem hq with hq | rfl
              · exact h q hq
              · refine ⟨a1, a2, a3, ?_⟩
                show SrtA (setAttrs p.attrs o) ∧ (setAttrs p.attrs o).length ≤ 4 ∧ ∀ x ∈ setAttrs p.attrs o, GdA x
                rw [chg_eq a4 a5]
                exact ⟨chg_srt a4 o, chg_len a5 o, posA_gd a6 o hn ht⟩
            · exact h
theorem ids_do {l : List PlV} (o : OpV) : ∀ p ∈ doV l o, (∃ q ∈ l, p.id = q.id) ∨ p.id = o.at' := by
  unfold doV
  split
  · split
    · intro p hp
      rcases List.mem_append.1 hp with hp | hp
      · exact .inl ⟨p, hp, rfl⟩
      · have e : p = newP o := by simpa using hp
        rw [e]; exact .inr rfl
    · exact fun p hp => .inl ⟨p, hp, rfl⟩
  · split
    · exact fun p hp => .inl ⟨p, hp, rfl⟩
    · split
      · exact fun p hp => .inl ⟨p, hp, rfl⟩
      · rename_i p hp
        have hm := List.mem_of_getElem? hp
        split
        · split
          · intro q hq
            rcases set_mem hq with hq | rfl
            · exact .inl ⟨q, hq, rfl⟩
            · exact .inl ⟨p, hm, rfl⟩
          · exact fun p hp => .inl ⟨p, hp, rfl⟩
        · split
          · split
            · intro q hq
              rcases set_mem hq with hq | rfl
              · exact .inl ⟨q, hq, rfl⟩
              · exact .inl ⟨p, hm, rfl⟩
            · exact fun p hp => .inl ⟨p, hp, rfl⟩
          · split
            · intro q hq
              rcases set_mem hq with hq | rfl
              · exact .inl ⟨q, hq, rfl⟩
              · exact .inl ⟨p, hm, rfl⟩
            · exact fun p hp => .inl ⟨p, hp, rfl⟩
theorem len_do (l : List PlV) (o : OpV) : (doV l o).length ≤ l.length + 1 := by
  unfold doV
  split
  · split
    · simp
    · omega
  · split
    · omega
    · split
      · omega
      · split
        · split
          · simp
          · omega
        · split
          · split
            · simp
            · omega
          · split
            · simp
            · omega
theorem zop {x : OpV} (h : zeroOpB x = true) : x.key.length = 0 ∧ x.name.length = 0 ∧ x.text.length = 0 := by
  unfold zeroOpB at h
  simp only [Bool.and_eq_true] at h
  obtain ⟨_, _, _, _, h5, _, h7, h8, _⟩ := h
  have hz : ∀ {t : List Int}, ((t.length : Int) == 0) = true → t.length = 0 := fun h => by simpa using h
  exact ⟨hz h5, hz h7, hz h8⟩
theorem op_lens {o : OpV} (h : opB o = true) : o.key.length ≤ 100 ∧ o.name.length ≤ 100 ∧ o.text.length ≤ 100 := by
  have htx : ∀ {t : List Int}, textB t = true → t.length ≤ 30 := fun h => ((textB_iff _).1 h).1
  have hnm : ∀ {t : List Int}, nameB t = true → t.length ≤ 8 := fun h => ((nameB_iff _).1 h).2.1
  have hky : ∀ {t : List Int}, keyB t = true → t.length ≤ 12 := fun h => ((keyB_iff _).1 h).2.1
  have hz : ∀ {t : List Int}, ((t.length : Int) == 0) = true → t.length = 0 := fun h => by simpa using h
  rcases op_kind h with hk | hk | hk | hk
  · rw [opB_0 hk] at h
    simp only [Bool.and_eq_true] at h
    have h1 := hky h.2.1.2.1
    have h2 := h.2.1.2.2
    unfold loneB at h2
    by_cases e0 : o.elem = 0
    · rw [if_pos e0, Bool.and_eq_true] at h2
      have := hnm h2.1
      have := hz h2.2
      omega
    · rw [if_neg e0] at h2
      by_cases e1 : o.elem = 1
      · rw [if_pos e1, Bool.and_eq_true] at h2
        have := hz h2.1
        have := htx h2.2
        omega
      · rw [if_neg e1] at h2; cases h2
  · rw [opB_1 hk] at h
    simp only [Bool.and_eq_true] at h
    have h1 := hky h.2.1.2.2
    have h2 := zop h.2.2
    have e1 : o.name.length = 0 := h2.2.1
    have e2 : o.text.length = 0 := h2.2.2
    omega
  · rw [opB_2 hk] at h
    simp only [Bool.and_eq_true] at h
    have h1 := htx h.2.1.2
    have h2 := zop h.2.2
    have e1 : o.key.length = 0 := h2.1
    have e2 : o.name.length = 0 := h2.2.1
    omega
  · rw [opB_3 hk] at h
    simp only [Bool.and_eq_true] at h
    have h1 := hnm h.2.1.2.1
    have h3 := h.2.1.2.2
    have h2 := zop h.2.2
    have e1 : o.key.length = 0 := h2.1
    unfold valB at h3
    by_cases eg : o.gone = true
    · rw [if_pos eg] at h3
      have := hz h3
      omega
    · rw [if_neg eg] at h3
      have := htx h3
      omega
/-- A stamp that comes later is new. -/
theorem Alg.new {l : List PlV} {ops : List OpV} (ho : opsB ops = true) {j : Nat} (hj : j < ops.length) (h : Alg l (ops.take j)) (h0 : ops[j].kind = 0) : posP l ops[j].at' = none := posP_none.2 (fun p hp e => by
  obtain ⟨hst, _⟩ := op_new (opsB_each ho hj) h0
  have h1 : 1 ≤ ops[j].atN := by unfold stampB at hst; simp only [Bool.and_eq_true, decide_eq_true_eq] at hst; exact hst.1
  have eN : p.idN = ops[j].atN := (Prod.mk.inj e).1
  rcases h.ids p hp with h9 | ⟨o, hom, h9⟩
  · omega
  · obtain ⟨i, hi, rfl⟩ := List.getElem_of_mem hom
    have hi' : i < j := by rw [List.length_take] at hi; omega
    have hs := opsB_sorted ho hi' hj
    have e2 : (ops.take j)[i] = ops[i]'(by omega) := List.getElem_take ..
    rw [e2] at h9
    have e3 : (ops[i]'(by omega)).at' = ops[j].at' := h9.symm.trans e
    have eA : (ops[i]'(by omega)).atN = ops[j].atN := (Prod.mk.inj e3).1
    have eB : (ops[i]'(by omega)).atR = ops[j].atR := (Prod.mk.inj e3).2
    rw [eA, eB, less_irr] at hs
    cases hs)
theorem Alg.step {l : List PlV} {ops : List OpV} (ho : opsB ops = true) {j : Nat} (hj : j < ops.length) (h : Alg l (ops.take j)) : Alg (doV l ops[j]) (ops.take (j + 1)) := by
  obtain ⟨k1, k2, k3⟩ := op_lens (opsB_each ho hj)
  have e : ops.take (j + 1) = ops.take j ++ [ops[j]] := List.take_succ_eq_append_getElem hj
  refine ⟨h.fr.do _ (fun h0 => h.new ho hj h0), gd_do h.gd _ k1 k2 k3, h.kd.do h.fr.two _, fun p hp => ?_, ?_⟩
  · rw [e]
    rcases ids_do _ p hp with ⟨q, hq, e1⟩ | e1
    · rcases h.ids q hq with e2 | ⟨o, hom, e2⟩
      · exact .inl (by have := (Prod.mk.inj e1).1; omega)
      · exact .inr ⟨o, List.mem_append_left _ hom, e1.trans e2⟩
    · exact .inr ⟨ops[j], List.mem_append_right _ (List.mem_singleton.2 rfl), e1⟩
  · have := len_do l ops[j]
    have := h.len
    rw [e, List.length_append, List.length_singleton]
    omega
def foldJ {n : Nat} (t : Nd (Tr n)) (ops : List OpV) (j : Nat) : List PlV := (ops.take j).foldl doV (seedW t)
theorem foldJ_succ {n : Nat} (t : Nd (Tr n)) (ops : List OpV) {j : Nat} (hj : j < ops.length) : foldJ t ops (j + 1) = doV (foldJ t ops j) ops[j] := by
  unfold foldJ
  rw [List.take_succ_eq_append_getElem hj, List.foldl_append]
  rfl
theorem foldJ_all {n : Nat} (t : Nd (Tr n)) (ops : List OpV) : foldJ t ops ops.length = foldW t ops := by unfold foldJ; rw [List.take_length]; rfl
theorem fold_alg {n : Nat} {t : Tr (n + 1)} (h : okN n t = true) {ops : List OpV} (ho : opsB ops = true) : ∀ j, j ≤ ops.length → Alg (foldJ t ops j) (ops.take j)
  | 0, _ => by rw [List.take_zero]; exact seed_alg h
  | j + 1, hj => by rw [foldJ_succ t ops (by omega)]; exact (fold_alg h ho j (by omega)).step ho (by omega)
theorem fold_bd {n : Nat} {t : Tr (n + 1)} (h : okN n t = true) {ops : List OpV} (ho : opsB ops = true) : BdO (foldW t ops) ∧ (foldW t ops).length ≤ 271 := by
  have ha0 := fold_alg h ho ops.length (Nat.le_refl _)
  rw [List.take_length] at ha0
  have ha : Alg (foldW t ops) ops := by
    have e := foldJ_all (n := n) t ops
    rw [← e]
    exact ha0
  have h1 := (opsB_parts ho).1
  have h2 := ha.len
  refine ⟨⟨by omega, fun p hp => ?_⟩, by omega⟩
  obtain ⟨a1, a2, a3, a4, a5, a6⟩ := ha.gd p hp
  exact ⟨by omega, by omega, by omega, by omega, fun x hx => ⟨by have := (a6 x hx).1; omega, by have := (a6 x hx).2; omega⟩⟩
end Go.Proofs.YtnfafchajjclaaaGreatDoor

/- impl.forestOf. -/
namespace Go.Proofs.YtnfafchajjclaaaGreatDoor
open Go.RowKit Go.Maps
set_option linter.unusedVariables false
set_option maxRecDepth 100000

theorem placeRoot_any (n : Nat) (w : World) (nm : List Int) (ats : List AtV) (ks : List (Tr n)) (a1 a2 a3 a4 : Option Addr) (c1 c2 c3 c4 : Nat) (hrd : RdNode (n + 1) w [.int .i64 0, .slice a1 nm.length c1, .slice a2 0 c2, .slice a3 ats.length c3, .slice a4 ks.length c4] (⟨0, nm, [], ats, ks⟩ : Nd (Tr n))) (hsz : szT (n + 1) (⟨0, nm, [], ats, ks⟩ : Nd (Tr n)) ≤ 2097152) :
    Calls Tryz.prog 62 #[.agg #[.int .i64 0, .int .i64 0], .agg #[.int .i64 0, .slice a1 nm.length c1, .slice a2 0 c2, .slice a3 ats.length c3, .slice a4 ks.length c4]] w fun e w' => ∃ p2 k2 p3 k3 p4 k4 Fa, e = .returned (.agg #[.int .i64 0, .int .i64 0, .int .i64 0, .int .i64 0, .slice none 0 0, .int .i64 0, .slice p2 nm.length k2, .slice p3 0 k3, .slice p4 ats.length k4]) ∧
      Own w' 0 (.slice p2 nm.length k2) nm ∧ Own w' 0 (.slice p3 0 k3) [] ∧ OwAttrs w' (.slice p4 ats.length k4) ats Fa ∧ (FB (.slice p2 nm.length k2) ++ FB (.slice p3 0 k3) ++ Fa).Nodup ∧ (∀ q ∈ FB (.slice p2 nm.length k2) ++ FB (.slice p3 0 k3) ++ Fa, w.heap.size ≤ q) ∧ Below w.heap.size w w' :=
  placeOf_any n w (0, 0) (⟨0, nm, [], ats, ks⟩ : Nd (Tr n)) _ _ _ _ hrd hsz
set_option maxHeartbeats 12800000 in
theorem forestOf_any (n : Nat) (w : World) (nm : List Int) (ats : List AtV) (ks : List (Tr n)) (a1 a2 a3 a4 a5 : Option Addr) (c1 c2 c3 c4 c5 : Nat) (ops : List OpV) (hrd : RdNode (n + 1) w [.int .i64 0, .slice a1 nm.length c1, .slice a2 0 c2, .slice a3 ats.length c3, .slice a4 ks.length c4] (⟨0, nm, [], ats, ks⟩ : Nd (Tr n))) (h5 : RdOps w (.slice a5 ops.length c5) ops)
    (hN : okN n (⟨0, nm, [], ats, ks⟩ : Nd (Tr n)) = true) (hO : opsB ops = true) (hsz : szT (n + 1) (⟨0, nm, [], ats, ks⟩ : Nd (Tr n)) ≤ 2097152) (hG : Glo w) :
    Calls Tryz.prog 32 #[.agg #[.int .i64 0, .slice a1 nm.length c1, .slice a2 0 c2, .slice a3 ats.length c3, .slice a4 ks.length c4], .slice a5 ops.length c5] w fun e w' => ∃ g mb a c F B, e = .returned (.pointer (some ⟨g, 0, none⟩)) ∧ w.heap.size ≤ B ∧ FoS B w' g mb a c (foldW (⟨0, nm, [], ats, ks⟩ : Nd (Tr n)) ops) F ∧ Below w.heap.size w w' := by
  refine calls_via ?_
  intro Q HQ
  have hw2 : 2 ≤ w.heap.size := by have h9 := lt_of_cell hG.2.2.1; exact h9
  have hA : Below w.heap.size w (w.alloc (.cells #[.int .i64 0, .slice a1 nm.length c1, .slice a2 0 c2, .slice a3 ats.length c3, .slice a4 ks.length c4] 38)) := (Below.refl _ _).alloc (Nat.le_refl _) _
  have lb := Loc.made w #[.int .i64 0, .slice a1 nm.length c1, .slice a2 0 c2, .slice a3 ats.length c3, .slice a4 ks.length c4] 38
  have hs1 : (w.alloc (.cells #[.int .i64 0, .slice a1 nm.length c1, .slice a2 0 c2, .slice a3 ats.length c3, .slice a4 ks.length c4] 38)).heap.size = w.heap.size + 1 := by simp
  have HF := hide (newForest_any (w.alloc (.cells #[.int .i64 0, .slice a1 nm.length c1, .slice a2 0 c2, .slice a3 ats.length c3, .slice a4 ks.length c4] 38)))
  rw [hs1] at HF
  have h4 : RdKids n w (.slice a4 ks.length c4) ks := by obtain ⟨_, _, _, _, e, _, _, _, _, _, hk⟩ := hrd; cases e; exact hk
  have hkz : ∀ x ∈ ks, szT n x ≤ 2097152 := fun x hx => Nat.le_trans (szT_kid (t := (⟨0, nm, [], ats, ks⟩ : Nd (Tr n))) hx) hsz
  have hol := (opsB_parts hO).1
  have HX := hide (And.intro hA (And.intro lb (And.intro hrd (And.intro h4 (And.intro h5 (And.intro hG (And.intro hN (And.intro hO (And.intro hsz hkz)))))))))
  clear hA lb hrd h4 h5 hG hN hO hsz hkz
  go_enter Tryz.func32, Tryz.ntmps32
  go_wp2_with fail
  refine (unhide HF).mono ?_
  rintro e w2 ⟨rfl, hs, hb2⟩
  obtain ⟨hA, lb, hrd, h4, h5, hG, hN, hO, hsz, hkz⟩ := unhide HX
  generalize (w.alloc (.cells #[.int .i64 0, .slice a1 nm.length c1, .slice a2 0 c2, .slice a3 ats.length c3, .slice a4 ks.length c4] 38)) = w1 at *
  generalize hB : w.heap.size + 1 = B at *
  have hb2' : Below w1.heap.size w1 w2 := by rw [hs1]; exact hb2
  have lb2 := lb.all hb2'
  have hA2 := bstep hA hb2'
  have hG2 := hG.keep hA2
  obtain ⟨y0, y1, y2, y3⟩ := id hG2
  have x0 := lb2.cell 0
  have x1 := lb2.cell 1
  have x2 := lb2.cell 2
  have x3 := lb2.cell 3
  have x4 := lb2.cell 4
  have HP := hide (placeRoot_any n w2 nm ats ks a1 a2 a3 a4 c1 c2 c3 c4 (hrd.keep hA2) hsz)
  have hlt2 : B + 2 ≤ w2.heap.size := by have := hs.set.lt; omega
  have HB := hide hB
  have HY := hide (And.intro hs (And.intro lb2 hA2))
  clear hs lb2 hA2 hG2 hb2 hb2' HF hA lb hB hs1
  go_wp2_with (go_at_call 62; refine (unhide HP).mono ?_; rintro e w3 ⟨p2, k2, p3, k3, p4, k4, Fa, rfl, o2, o3, o4, hnd, hrg, hb3⟩)
  obtain ⟨hs, lb2, hA2⟩ := unhide HY
  have hs3 := hs.keep hb3
  have hrg' : ∀ q ∈ FB (.slice none 0 0) ++ FB (.slice p2 nm.length k2) ++ FB (.slice p3 0 k3) ++ Fa, B ≤ q := fun q hq => by have := hrg q (by simpa [FB, Value.ownBlock] using hq); omega
  have HA1 := hide (add_any hs3 (rootW (⟨0, nm, [], ats, ks⟩ : Nd (Tr n))) none p2 p3 p4 0 k2 k3 k4 (FB (.slice none 0 0) ++ FB (.slice p2 nm.length k2) ++ FB (.slice p3 0 k3) ++ Fa) ⟨_, _, _, _, Fa, rfl, ownz_nil _ _, o2.rowm, o3, o4, rfl⟩ (by simpa [FB, Value.ownBlock] using hnd) hrg' (fun q hq => by cases hq) (okI_len (m := 0) (by omega)) (okI_len (m := 0) (by omega)) rfl (by simp))
  have HY3 := hide (And.intro (lb2.all hb3) (And.intro (bstep hA2 hb3) (show w2.heap.size ≤ w3.heap.size from hb3.size)))
  clear HY hs lb2 hA2 hs3 o2 o3 o4 hnd hrg hrg' hb3 HP x0 x1 x2 x3 x4 y0 y1 y2 y3
  refine (unhide HA1).mono ?_
  rintro e w4 ⟨rfl, a4_, c4_, F4, hs4, hf4, hF4⟩
  obtain ⟨lb3, hA3, hs23⟩ := unhide HY3
  have hBv := unhide HB
  have hge4 : ∀ q ∈ (B + 1) :: B :: ([] : List Nat), w.heap.size + 1 ≤ q := fun q hq => by simp at hq; omega
  have hA4 : Below w.heap.size w w4 := hA3.trans (hf4.below hA3.size (fun q hq => by have := hge4 q hq; omega))
  have lb4 := lb3.frm hf4 (fun e => by have := hge4 _ e; omega)
  have hs34 := hf4.size
  have hG4 := hG.keep hA4
  obtain ⟨y0, y1, y2, y3⟩ := id hG4
  have hA5 : Below w4.heap.size w4 (w4.alloc (.cells #[.int .u8 116, .int .u8 114, .int .u8 97, .int .u8 115, .int .u8 104] 5)) := (Below.refl _ _).alloc (Nat.le_refl _) _
  have ltr := Loc.made w4 #[.int .u8 116, .int .u8 114, .int .u8 97, .int .u8 115, .int .u8 104] 5
  have hlt4 := OwPlsM.lt hs4.row
  obtain ⟨w5, hcv, fcv, hsz5, otr⟩ := mark_row (w4.alloc (.cells #[.int .u8 116, .int .u8 114, .int .u8 97, .int .u8 115, .int .u8 104] 5)) w4.heap.size ltr
  have hg4 := hs4.set.lt
  have hm4 := hs4.map.lt
  have hsz5' : w5.heap.size = w4.heap.size + 1 := by rw [hsz5]; simp
  have hp4 : ∀ q, q < w4.heap.size → q ∉ [w4.heap.size] := fun q hq e => by have e9 : q = w4.heap.size := (by simpa using e); omega
  have hs5 := (hs4.keep hA5).frm fcv (hp4 _ hg4) (hp4 _ hm4) (fun q hq => hp4 q (hlt4 q hq)) (fun q hq => by have e9 : q = w4.heap.size := (by simpa using hq); rw [e9]; exact Cells.ofL ltr)
  have hA5' : Below w4.heap.size w4 w5 := hA5.trans (fcv.below hA5.size (fun q hq => by have e9 : q = w4.heap.size := (by simpa using hq); omega))
  have HA2 := hide (add_any hs5 trashP none (some ⟨w4.heap.size, 0, none⟩) none none 0 5 0 0 (FB (.slice none 0 0) ++ FB (.slice (some ⟨w4.heap.size, 0, none⟩) 5 5) ++ FB (.slice none 0 0) ++ []) ⟨_, _, _, _, [], rfl, ownz_nil _ _, otr, ⟨okB_nil, World.ownsRow_nil _ _ _ _⟩, ⟨[], [], rfl, rfl, fun i hi => (by cases hi), World.ownsRow_nil _ _ _ _, rfl⟩, rfl⟩ (by simp [FB, Value.ownBlock]) (fun q hq => by have e9 : q = w4.heap.size := (by simpa [FB, Value.ownBlock] using hq); omega) (fun q hq hq' => by have e9 : q = w4.heap.size := (by simpa [FB, Value.ownBlock] using hq'); have := hlt4 q hq; omega) (okI_len (m := 1) (by omega)) (okI_len (m := 0) (by omega)) rfl (by simp))
  replace hA5 := hA5'
  have HY4 := hide (And.intro lb4 (And.intro hA4 (And.intro hF4 (And.intro hlt4 (And.intro hA5 hs4)))))
  clear lb4 hA4 hF4 hs4 hA5 ltr hs5 otr hG4 HA1 HY3 lb3 hA3 hf4 hlt4 fcv hp4 hsz5
  go_wp2_with fail
  refine (unhide HA2).mono ?_
  rintro e w6 ⟨rfl, a6, c6, F6, hs6, hf6, hF6⟩
  obtain ⟨lb4, hA4, hF4, hlt4, hA5, hs4⟩ := unhide HY4
  have hA45 := bstep hA4 hA5
  have hge6 : ∀ q ∈ (B + 1) :: B :: F4, B ≤ q := fun q hq => by
    rcases List.mem_cons.1 hq with rfl | hq
    · omega
    · rcases List.mem_cons.1 hq with rfl | hq
      · omega
      · exact hs4.ge q hq
  have hA6 : Below w.heap.size w w6 := hA45.trans (hf6.below hA45.size (fun q hq => by have := hge6 q hq; omega))
  have lb6 := (lb4.all hA5).frm hf6 (fun e => by have := hge6 _ e; omega)
  have hG6 := hG.keep hA6
  obtain ⟨y0, y1, y2, y3⟩ := id hG6
  have x4 := lb6.cell 4
  have hsw : (seedK n (0, 0) ks (baseW (⟨0, nm, [], ats, ks⟩ : Nd (Tr n)))).length ≤ 100000 := by
    have h9 := (seed_alg hN).len
    have h8 : (seedW (⟨0, nm, [], ats, ks⟩ : Nd (Tr n))).length ≤ 121 + ([] : List OpV).length := h9
    exact Nat.le_trans h8 (by simp)
  have hBw : w.heap.size ≤ B := by omega
  have HK := hide (addKids_any n w B w6 (B + 1) B a6 c6 (baseW (⟨0, nm, [], ats, ks⟩ : Nd (Tr n))) F6 0 0 ks a4 c4 hBw hA6 hs6 h4 (okI_len (m := 0) (by omega)) (base_ids (⟨0, nm, [], ats, ks⟩ : Nd (Tr n))) hsw hkz)
  have HY6 := hide (And.intro hA6 hs6)
  clear HY4 lb4 hA4 hF4 hlt4 hA5 hs4 hA45 hs6 hf6 hF6 HA2 hge6 hA6 lb6 hG6
  go_wp2_with fail
  refine (unhide HK).mono ?_
  rintro e w7 ⟨rfl, a7, c7, F7, hs7, hf7, hF7⟩
  obtain ⟨hA6, hs6⟩ := unhide HY6
  have hge7 : ∀ q ∈ (B + 1) :: B :: F6, B ≤ q := fun q hq => by
    rcases List.mem_cons.1 hq with rfl | hq
    · omega
    · rcases List.mem_cons.1 hq with rfl | hq
      · omega
      · exact hs6.ge q hq
  have hA7 : Below w.heap.size w w7 := hA6.trans (hf7.below hA6.size (fun q hq => by have := hge7 q hq; omega))
  clear HK HY6 hA6 hs6 hf7 hF7 hge7 x4 y0 y1 y2 y3
  replace hs7 : FoS B w7 (B + 1) B a7 c7 (foldJ (⟨0, nm, [], ats, ks⟩ : Nd (Tr n)) ops 0) F7 := hs7
  have HZ := hide (And.intro h5 (And.intro hG (And.intro hN hO)))
  clear h5 hG hN hO hrd h4 hsz hkz HX
  go_wp2_with fail
  go_loopw [27] (fun x wr => ∃ (j : Nat) (a' : Option Addr) (c' : Nat) (F' : List Nat), j ≤ ops.length ∧ x = .int .i64 (j : Int) ∧ FoS B wr (B + 1) B a' c' (foldJ (⟨0, nm, [], ats, ks⟩ : Nd (Tr n)) ops j) F' ∧ Below w.heap.size w wr) (fun x _ => ((ops.length : Int) - intOf x).toNat)
  case atStart => exact ⟨0, a7, c7, F7, Nat.zero_le _, rfl, hs7, hA7⟩
  case round =>
    clear hs7 hA7
    obtain ⟨j, a', c', F', hj, rfl, hs, hA⟩ := hrel
    obtain ⟨h5, hG, hN, hO⟩ := unhide HZ
    by_cases hlt : j < ops.length
    · have hlt' : (j : Int) < (ops.length : Int) := by omega
      have hj0 : (0 : Int) ≤ (j : Int) := by omega
      obtain ⟨bk, off, epv, hpl, _, _, C, hCl, hcell, hro⟩ := Elems.at h5 hlt
      subst epv
      obtain ⟨e1, f1, e2, f2, e3, f3, g0, g1, g2, g3, g4, g5, g6, g7, g8, g9, g10, g11, hrv⟩ := opc_at (i := j) hA hpl ⟨C, hCl, hcell, hro⟩
      obtain ⟨kk, nn, tt, eC, hk1, hk2, hk3⟩ := hro
      have hal := fold_alg hN hO j (by omega)
      have hoj := opsB_each hO hlt
      obtain ⟨l1, l2, l3⟩ := op_lens hoj
      have hnx := foldJ_succ (⟨0, nm, [], ats, ks⟩ : Nd (Tr n)) ops hlt
      have hnew := fun h0 => hal.new hO hlt h0
      have hlen := hal.len
      rw [List.length_take] at hlen
      have hAa : Below wr.heap.size wr (wr.alloc (.cells #[.int .i64 ops[j].kind, .int .i64 ops[j].atN, .int .i64 ops[j].atR, .int .i64 ops[j].nodeN, .int .i64 ops[j].nodeR, .int .i64 ops[j].parN, .int .i64 ops[j].parR, .slice e1 ops[j].key.length f1, .int .i64 ops[j].elem, .slice e2 ops[j].name.length f2, .slice e3 ops[j].text.length f3, .bool ops[j].gone] 68)) := (Below.refl _ _).alloc (Nat.le_refl _) _
      have hAA := bstep hA hAa
      have lo := Loc.made wr #[.int .i64 ops[j].kind, .int .i64 ops[j].atN, .int .i64 ops[j].atR, .int .i64 ops[j].nodeN, .int .i64 ops[j].nodeR, .int .i64 ops[j].parN, .int .i64 ops[j].parR, .slice e1 ops[j].key.length f1, .int .i64 ops[j].elem, .slice e2 ops[j].name.length f2, .slice e3 ops[j].text.length f3, .bool ops[j].gone] 68
      have hq1 : Ints w (.slice e1 ops[j].key.length f1) ops[j].key := by
        have h7 := hcell 7 (by decide)
        rw [eC] at h7
        have h8 := (hA.cell (p := ⟨bk, off + j * 12 + 7, none⟩) hpl).trans h7
        rw [g7] at h8
        simp only [List.getElem?_cons_succ, List.getElem?_cons_zero] at h8
        rw [Option.some.inj h8]; exact hk1
      have hq2 : Byt w (.slice e2 ops[j].name.length f2) ops[j].name := by
        have h7 := hcell 9 (by decide)
        rw [eC] at h7
        have h8 := (hA.cell (p := ⟨bk, off + j * 12 + 9, none⟩) hpl).trans h7
        rw [g9] at h8
        simp only [List.getElem?_cons_succ, List.getElem?_cons_zero] at h8
        rw [Option.some.inj h8]; exact hk2
      have hq3 : Byt w (.slice e3 ops[j].text.length f3) ops[j].text := by
        have h7 := hcell 10 (by decide)
        rw [eC] at h7
        have h8 := (hA.cell (p := ⟨bk, off + j * 12 + 10, none⟩) hpl).trans h7
        rw [g10] at h8
        simp only [List.getElem?_cons_succ, List.getElem?_cons_zero] at h8
        rw [Option.some.inj h8]; exact hk3
      have HD := hide (fo_any (hs.keep hAa) (by omega) hAA ops[j] e1 e2 e3 f1 f2 f3 hq1 hq2 hq3 (by omega) (by omega) (by omega) hoj hal.fr hal.at hal.kd (hG.keep hAA) (by omega) hnew (by omega))
      rw [← hnx] at HD
      have HW := hide (And.intro hAA (And.intro hs lo))
      clear hs hA hcell eC hk1 hk2 hk3 hal hoj hnx hnew hAa hAA lo hq1 hq2 hq3 hrv
      generalize ops[j] = o at *
      obtain ⟨m0, m1⟩ : ∃ m0 m1 : Nat, True := ⟨0, 0, trivial⟩
      go_wp2_with fail
      refine (unhide HD).mono ?_
      rintro e w9 ⟨rfl, a9, c9, F9, hs9, hf9, hF9⟩
      obtain ⟨hAA, hs, lo⟩ := unhide HW
      have hge9 : ∀ q ∈ (B + 1) :: B :: F', B ≤ q := fun q hq => by
        rcases List.mem_cons.1 hq with rfl | hq
        · omega
        · rcases List.mem_cons.1 hq with rfl | hq
          · omega
          · exact hs.ge q hq
      have hA9 : Below w.heap.size w w9 := hAA.trans (hf9.below hAA.size (fun q hq => by have := hge9 q hq; omega))
      have HE := hide (And.intro hs9 hA9)
      clear hs9 hf9 hF9 hge9 hA9 HD HW hAA hs lo g0 g1 g2 g3 g4 g5 g6 g7 g8 g9 g10 g11
      go_wp2_with fail
      go_roundw
      case rel => exact ⟨j + 1, a9, c9, F9, by omega, by go_num, (unhide HE).1, (unhide HE).2⟩
      case measure => simp [intOf]; omega
    · have hlt' : ¬ (j : Int) < (ops.length : Int) := by omega
      obtain rfl : j = ops.length := by omega
      rw [foldJ_all] at hs
      have HE := hide (unhide HQ (.returned (.pointer (some ⟨B + 1, 0, none⟩))) wr ⟨_, _, _, _, F', B, rfl, by omega, hs, hA⟩)
      clear hs hA HQ HZ h5 hG hN hO
      go_wp2_with fail
      exact unhide HE
end Go.Proofs.YtnfafchajjclaaaGreatDoor

/- impl.NodeOk answers what the plain test says. -/
namespace Go.Proofs.YtnfafchajjclaaaGreatDoor
open Go.RowKit Go.Shelf
set_option linter.unusedVariables false
set_option maxRecDepth 100000
attribute [local go_sem] Oper.semAt_some

theorem Loc.stay {W W' : World} {g D : Nat} {cs : Array Value} {T : TypeId} {row : Option Nat} (h : Loc W g cs T) (hg : W.grownBy W' row) (hr : ∀ r, row = some r → r = D ∨ r = D + 1) (h0 : g ≠ D) (h1 : g ≠ D + 1) : Loc W' g cs T :=
  (hg.block g h.lt (fun e => by rcases hr g e.symm with h | h; exact h0 h; exact h1 h)).trans h
theorem VSet.stay {W W' : World} {g D : Nat} {row : Option Nat} (h : VSet (D + 2) W g) (hg : W.grownBy W' row) (hr : ∀ r, row = some r → r = D ∨ r = D + 1) (h0 : g ≠ D) (h1 : g ≠ D + 1) : VSet (D + 2) W' g := by
  rcases h with h | ⟨m, hm, hl, hv⟩
  · exact .inl (h.stay hg hr h0 h1)
  · have hlt : m < W.heap.size := by
      by_cases h : m < W.heap.size
      · exact h
      · rw [Array.getElem?_eq_none (by omega)] at hv; cases hv
    exact .inr ⟨m, hm, hl.stay hg hr h0 h1, (hg.block m hlt (fun e => by rcases hr m e.symm with h | h <;> omega)).trans hv⟩
theorem below_stay {w W W' : World} {s D : Nat} {row : Option Nat} (h : Below s w W) (hs : s ≤ D) (hg : W.grownBy W' row) (hr : ∀ r, row = some r → r = D ∨ r = D + 1) (hsz : s ≤ W.heap.size) : Below s w W' :=
  h.grown hg hsz (fun r e => by rcases hr r e with h | h <;> omega)

theorem VSet.set {B : Nat} {V : World} {g p : Nat} {cs : Array Value} {T : TypeId} (h : VSet B V g) (hl : Loc V p cs T) (hne : g ≠ p) (j : Nat) (v : Value) : VSet B (V.setCell ⟨p, j, none⟩ v) g := by
  rcases h with h | ⟨m, hm, hg, hv⟩
  · exact .inl (h.other p j v hne)
  · have hmp : m ≠ p := fun e => by subst e; unfold Loc at hl; rw [hv] at hl; cases hl
    exact .inr ⟨m, hm, hg.other p j v hne, (heap_setCell_other V ⟨p, j, none⟩ m v hmp).trans hv⟩
theorem books_set (D : Nat) (V : World) (p j : Nat) (v : Value) (h0 : D ≠ p) (h1 : D + 1 ≠ p) : BooksSame D V (V.setCell ⟨p, j, none⟩ v) := ⟨heap_setCell_other V ⟨p, j, none⟩ D v h0, heap_setCell_other V ⟨p, j, none⟩ (D + 1) v h1⟩
theorem books_frm {D : Nat} {V V' : World} {S : List Nat} (f : Frm V V' S) (hl : D + 2 ≤ V.heap.size) (h0 : D ∉ S) (h1 : D + 1 ∉ S) : BooksSame D V V' := ⟨f.block D (by omega) h0, f.block (D + 1) (by omega) h1⟩
theorem BooksSame.trans {D : Nat} {A B C : World} (h : BooksSame D A B) (k : BooksSame D B C) : BooksSame D A C := ⟨k.1.trans h.1, k.2.trans h.2⟩
theorem scan_len {a : List (Int × Bool)} {left : Int} (h : (scan a left).1 = true) (h0 : 0 ≤ left) : (a.length : Int) ≤ left := by
  induction a generalizing left with
  | nil => simpa using h0
  | cons x r ih =>
    rw [scan] at h
    by_cases hc : left - 1 < 0 ∨ 20 < x.1 ∨ x.2 = false
    · rw [if_pos hc] at h; cases h
    · rw [if_neg hc] at h
      have := ih h (by omega)
      simp only [List.length_cons]
      omega
/-- A test more. -/
theorem scan_snoc {a : List (Int × Bool)} {x : Int × Bool} {n : Nat} (h : scan a 120 = (true, (120 : Int) - n)) : scan (a ++ [x]) 120 = if 120 < (n : Int) + 1 ∨ 20 < x.1 ∨ x.2 = false then (false, (120 : Int) - n - 1) else (true, (120 : Int) - n - 1) := by
  rw [scan_app, h]
  simp only [if_true, scan]
  have e : ((120 : Int) - n - 1 < 0 ∨ 20 < x.1 ∨ x.2 = false) ↔ (120 < (n : Int) + 1 ∨ 20 < x.1 ∨ x.2 = false) := by
    constructor
    · rintro (h | h)
      · exact .inl (by omega)
      · exact .inr h
    · rintro (h | h)
      · exact .inl (by omega)
      · exact .inr h
  simp only [e]

/-- Five new blocks, one behind the other. -/
theorem five_new (w : World) (A1 A2 A3 A4 A5 : Array Value) (T1 T2 T3 T4 T5 : TypeId) (W : World) (hW : W = ((((w.alloc (.cells A1 T1)).alloc (.cells A2 T2)).alloc (.cells A3 T3)).alloc (.cells A4 T4)).alloc (.cells A5 T5)) :
    Loc W (w.heap.size + 1) A2 T2 ∧ Loc W (w.heap.size + 1 + 1) A3 T3 ∧ Loc W (w.heap.size + 1 + 1 + 1) A4 T4 ∧ Loc W (w.heap.size + 1 + 1 + 1 + 1) A5 T5 ∧ W.heap.size = w.heap.size + 1 + 1 + 1 + 1 + 1 ∧ Below w.heap.size w W := by
  subst hW
  have m2 := Loc.made (w.alloc (.cells A1 T1)) A2 T2
  have m3 := Loc.made ((w.alloc (.cells A1 T1)).alloc (.cells A2 T2)) A3 T3
  have m4 := Loc.made (((w.alloc (.cells A1 T1)).alloc (.cells A2 T2)).alloc (.cells A3 T3)) A4 T4
  have m5 := Loc.made ((((w.alloc (.cells A1 T1)).alloc (.cells A2 T2)).alloc (.cells A3 T3)).alloc (.cells A4 T4)) A5 T5
  simp only [World.size_alloc] at m2 m3 m4 m5
  exact ⟨((m2.alloc _).alloc _).alloc _, (m3.alloc _).alloc _, m4.alloc _, m5, by simp, (((((Below.refl _ w).alloc (Nat.le_refl _) _).alloc (by simp) _).alloc (by simp; omega) _).alloc (by simp; omega) _).alloc (by simp; omega) _⟩

set_option maxHeartbeats 3200000 in
theorem nodeI_elem (k : Nat) (w : World) (a b c d e : Value) (t : Tr (k + 1)) (h : RdNode (k + 1) w [a, b, c, d, e] t) (hsz : szT (k + 1) t ≤ 2097152) (hz : t.kind = 0) :
    Calls Tryz.prog 56 #[.agg #[a, b, c, d, e]] w fun e w' => e = .returned (.bool (okN k t)) ∧ Below w.heap.size w w' := by
  have HO := hide (show okN k t = (scan (pn (k + 1) 1 t) 120).1 by unfold okN; rw [okT_scan]; simp [hz])
  obtain ⟨xs, hP⟩ := pre_ex w (k + 1) 1 [a, b, c, d, e] t h
  have HM := hide (pre_pn w (k + 1) 1 _ t xs hP)
  have hC : ∃ ab nb cb ac nc cc ad nd cd ae ne ce, [a, b, c, d, e] = [Value.int .i64 0, .slice ab nb cb, .slice ac nc cc, .slice ad nd cd, .slice ae ne ce] := by
    obtain ⟨_, _, _, _, e0, k1, k2, hb, hc, hd, he⟩ := h
    simp only [List.cons.injEq, and_true] at e0
    obtain ⟨rfl, rfl, rfl, rfl, rfl⟩ := e0
    obtain ⟨ab, cb, rfl, _, _⟩ := hb.shape
    obtain ⟨ac, cc, rfl, _, _⟩ := hc.shape
    obtain ⟨ad, cd, rfl, _, _⟩ := Elems.shape hd
    obtain ⟨ae, ce, rfl, _, _⟩ := Elems.shape he
    rw [hz]
    exact ⟨_, _, _, _, _, _, _, _, _, _, _, _, rfl⟩
  obtain ⟨ab, nb, cb, ac, nc, cc, ad, nd, cd, ae, ne, ce, hC⟩ := hC
  simp only [List.cons.injEq, and_true] at hC
  obtain ⟨rfl, rfl, rfl, rfl, rfl⟩ := hC
  have HP := hide hP
  have HH := hide h
  clear hP h hz
  refine (callsIn_wide (n := 5)).1 ?_
  refine callsIn_of_wp_marks Tryz.func56 rfl trivial ?_ rfl
  simp only [Tryz.ntmps56, List.size_toArray, List.length_cons, List.length_nil, Nat.reduceAdd, Nat.reduceSub, Array.replicate_succ, Array.replicate_zero, List.push_toArray, List.append_toArray, List.nil_append, List.cons_append]
  gi_wp2_with fail
  refine ⟨trivial, ?_⟩
  refine (callsIn_wide.2 (nodesOf_any _ _ _ _ _ _ _ _ _ _ _ _ _ _)).mono ?_
  rintro e W ⟨rfl, hW⟩
  obtain ⟨l1, l2, l3, l4, hsW, hBW⟩ := five_new w _ _ _ _ _ _ _ _ _ _ W hW
  clear hW
  simp only [World.size_alloc]
  obtain ⟨q1, q2, q3, q4, q5⟩ : w.heap.size < w.heap.size + 1 ∧ w.heap.size + 1 < w.heap.size + 1 + 1 ∧ w.heap.size + 1 + 1 < w.heap.size + 1 + 1 + 1 ∧ w.heap.size + 1 + 1 + 1 < w.heap.size + 1 + 1 + 1 + 1 ∧ w.heap.size + 1 + 1 + 1 + 1 < W.heap.size := by omega
  clear hsW
  generalize w.heap.size + 1 + 1 + 1 + 1 = p4 at *
  generalize w.heap.size + 1 + 1 + 1 = p3 at *
  generalize w.heap.size + 1 + 1 = p2 at *
  generalize w.heap.size + 1 = p1 at *
  gi_wp2_with fail
  refine range_law (gf := 102) (lb := #[.pointer (some ⟨p4, 0, none⟩)]) (Bx := BxN) (Mt := fun i _ => i ∈ [p1, p2, p3, W.heap.size + 1]) (xs := xs) (encs := encIt) rfl (enters_of Tryz.func102 (by kernel_rfl) rfl) (fun _ => by simp) (fun q o hq _ hm => by simp at hm; omega)
    (nodes_hand w W _ p4 k _ (fun i o hi hm => by simp at hm; omega) _ _ _ _ _ t xs (unhide HP) hsz hBW l4) (fun _ => rfl)
    (fun pre V => Loc V p3 #[.int .i64 (pre.length : Nat)] 3 ∧ Loc V p1 #[.bool false] 4 ∧ VSet (W.heap.size + 2) V p2 ∧ Below w.heap.size w V ∧ scan (pre.map tst) 120 = (true, (120 : Int) - (pre.length : Nat)))
    (fun pre V => Loc V p1 #[.bool false] 4 ∧ Below w.heap.size w V ∧ (scan (pre.map tst) 120).1 = false)
    (fun pre A B row hs hg hr => ⟨hs.1.stay hg hr (by omega) (by omega), hs.2.1.stay hg hr (by omega) (by omega), hs.2.2.1.stay hg hr (by omega) (by omega), below_stay hs.2.2.2.1 (by omega) hg hr hs.2.2.2.1.size, hs.2.2.2.2⟩)
    (fun pre A B row hs hg hr => ⟨hs.1.stay hg hr (by omega) (by omega), below_stay hs.2.1 (by omega) hg hr hs.2.1.size, hs.2.2⟩)
    ⟨l3, l1, .inl l2, hBW, rfl⟩
    (fun x a' V => ∃ q, W.heap.size + 1 < q ∧ Loc V q #[x.a, x.b, x.c, x.d, x.e] 38 ∧ a' = { tmps := #[.agg #[.int .i64 0, .slice ab nb cb, .slice ac nc cc, .slice ad nd cd, .slice ae ne ce], .pointer (some ⟨w.heap.size, 0, none⟩), .pointer (some ⟨p1, 0, none⟩), .pointer (some ⟨p2, 0, none⟩), .pointer (some ⟨p3, 0, none⟩), .int .i64 x.deep, .pointer (some ⟨q, 0, none⟩), .pointer (some ⟨w.heap.size, 0, none⟩), .int .i64 0, .bool false, .agg #[.int .i64 0, .slice ab nb cb, .slice ac nc cc, .slice ad nd cd, .slice ae ne ce], .func (.func 102) #[] #[.pointer (some ⟨p4, 0, none⟩)], .int .i64 x.deep, .agg #[x.a, x.b, x.c, x.d, x.e], undef, undef, undef, undef, undef, undef, undef, undef, undef, undef, undef, undef, undef], defers := [] })
    (fun x a' u A B row hs hg hr => by obtain ⟨q, h1, h2, h3⟩ := hs; exact ⟨q, h1, h2.stay hg hr (by omega) (by omega), h3⟩)
    ?assign ?body ?done ?stop
  case assign =>
    intro pre x V K hi hV2 hK
    obtain ⟨deep, a, b, c, d, e, m, u, rd⟩ := x
    obtain ⟨z, ab', nb', cb', ac', nc', cc', ad', nd', cd', ae', ne', ce', hC⟩ := rd_shape rd
    simp only [List.cons.injEq, and_true] at hC
    obtain ⟨rfl, rfl, rfl, rfl, rfl⟩ := hC
    simp only [encIt] at hK ⊢
    gi_wp2
    exact hK _ _ ((Below.refl _ _).alloc (Nat.le_refl _) _) ⟨V.heap.size, by omega, Loc.made V _ _, rfl⟩
  case body =>
    rintro pre x a' V ⟨i3, i1, iV, iB, iS⟩ ⟨q, hq, lq, rfl⟩ hpx hsz2
    obtain ⟨deep, a, b, c, d, e, m, u, rd⟩ := x
    have HI := hide (And.intro i3 (And.intro i1 (And.intro iV (And.intro iB iS))))
    have HR := hide rd
    obtain ⟨z, ab', nb', cb', ac', nc', cc', ad', nd', cd', ae', ne', ce', hC⟩ := rd_shape rd
    simp only [List.cons.injEq, and_true] at hC
    obtain ⟨rfl, rfl, rfl, rfl, rfl⟩ := hC
    have hlen : pre.length ≤ 120 := by
      have := scan_len (a := pre.map tst) (left := 120) (by rw [iS]) (by omega)
      simp at this
      omega
    have c3 : V.cell? ⟨p3, 0, none⟩ = some (.int .i64 (pre.length : Nat)) := i3.cell 0
    have f3 := i3.frozen 0
    have c1 : V.cell? ⟨p1, 0, none⟩ = some (.bool false) := i1.cell 0
    have f1 := i1.frozen 0
    simp only at lq
    obtain ⟨x0, x1, x2, x3, x4⟩ := lq.five
    have hsn := scan_snoc (x := tst (⟨deep, .int .i64 z, .slice ab' nb' cb', .slice ac' nc' cc', .slice ad' nd' cd', .slice ae' ne' ce', m, u, rd⟩ : It w)) iS
    have HS := hide hsn
    clear hsn iS i3 i1 iV iB
    generalize hn : pre.length = n at *
    have HN := hide hn
    clear hn
    have hn1 : 0 ≤ (n : Int) + 1 := by omega
    have hBk : BooksSame W.heap.size V ((V.setCell ⟨p3, 0, none⟩ (.int .i64 ((n : Int) + 1))).setCell ⟨p1, 0, none⟩ (.bool false)) := (books_set W.heap.size V p3 0 _ (by omega) (by omega)).trans (books_set W.heap.size _ p1 0 _ (by omega) (by omega))
    by_cases h1 : 120 < (n : Int) + 1
    · gi_wp2
      refine ⟨trivial, ?_⟩
      gi_wp2
      obtain ⟨i3, i1, iV, iB, iS⟩ := unhide HI
      refine ⟨hBk, (i1.other p3 0 _ (by omega)).set 0 (.bool false), (iB.setCell (p := ⟨p3, 0, none⟩) (by show w.heap.size ≤ p3; omega) _).setCell (p := ⟨p1, 0, none⟩) (by show w.heap.size ≤ p1; omega) _, ?_⟩
      rw [List.map_append, List.map_cons, List.map_nil, unhide HS, if_pos (.inl h1)]
    · by_cases h2 : 20 < deep
      · gi_wp2
        refine ⟨trivial, ?_⟩
        gi_wp2
        obtain ⟨i3, i1, iV, iB, iS⟩ := unhide HI
        refine ⟨hBk, (i1.other p3 0 _ (by omega)).set 0 (.bool false), (iB.setCell (p := ⟨p3, 0, none⟩) (by show w.heap.size ≤ p3; omega) _).setCell (p := ⟨p1, 0, none⟩) (by show w.heap.size ≤ p1; omega) _, ?_⟩
        rw [List.map_append, List.map_cons, List.map_nil, unhide HS, if_pos (.inr (.inl h2))]
      · have hcall : Calls Tryz.prog 83 #[.agg #[.int .i64 z, .slice ab' nb' cb', .slice ac' nc' cc', .slice ad' nd' cd', .slice ae' ne' ce'], .pointer (some ⟨p2, 0, none⟩)] (V.setCell ⟨p3, 0, none⟩ (.int .i64 ((n : Int) + 1))) fun e w' => e = .returned (.bool (partB u)) ∧ VSet (W.heap.size + 2) w' p2 ∧ Frm (V.setCell ⟨p3, 0, none⟩ (.int .i64 ((n : Int) + 1))) w' [p2] := by
          obtain ⟨i3, i1, iV, iB, iS⟩ := unhide HI
          exact partI_any (W.heap.size + 2) m w _ _ _ _ _ _ u p2 (unhide HR) (iB.setCell (p := ⟨p3, 0, none⟩) (by show w.heap.size ≤ p3; omega) _) (by omega) (iV.set i3 (by omega) 0 _) (by simpa using hsz2)
        have HC := hide hcall
        clear hcall
        gi_wp2
        refine ⟨trivial, ?_⟩
        refine (CallsIn.inRound (F := Fence.wide) (W.heap.size + 1) (callsIn_wide.2 (unhide HC))).mono ?_
        rintro e V2 ⟨rfl, hV2, F2⟩
        have HA : Hid (Loc V2 p3 #[.int .i64 ((n : Int) + 1)] 3 ∧ Loc V2 p1 #[.bool false] 4 ∧ Below w.heap.size w V2 ∧ BooksSame W.heap.size V V2 ∧ Frm V V2 [p1, p2, p3, W.heap.size + 1]) := by
          obtain ⟨i3, i1, iV, iB, iS⟩ := unhide HI
          have iB1 := iB.setCell (p := ⟨p3, 0, none⟩) (by show w.heap.size ≤ p3; omega) (.int .i64 ((n : Int) + 1))
          refine ⟨(i3.set 0 _).frm F2 (by simp; omega), (i1.other p3 0 _ (by omega)).frm F2 (by simp; omega), iB1.trans (F2.below iB1.size (fun g hg => by simp at hg; omega)), (books_set W.heap.size V p3 0 _ (by omega) (by omega)).trans (books_frm F2 (by simpa using hsz2) (by simp; omega) (by simp; omega)), ?_⟩
          exact ((Frm.set V p3 0 _).mono (fun g hg => by simp at hg; simp [hg])).trans (F2.mono (fun g hg => by simp at hg; simp [hg]))
        have c1 : V2.cell? ⟨p1, 0, none⟩ = some (.bool false) := (unhide HA).2.1.cell 0
        have f1 := (unhide HA).2.1.frozen 0
        clear x0 x1 x2 x3 x4 c3 f3
        by_cases hb : partB u = true
        · rw [hb]
          gi_wp2
          obtain ⟨a3, a1, aB, aK, aF⟩ := unhide HA
          refine ⟨aK, Frp.ofFrm aF (fun g hg _ _ => hg), ?_, a1, hV2, aB, ?_⟩
          · have e : ((pre ++ [(⟨deep, .int .i64 z, .slice ab' nb' cb', .slice ac' nc' cc', .slice ad' nd' cd', .slice ae' ne' ce', m, u, rd⟩ : It w)]).length : Int) = (n : Int) + 1 := by rw [List.length_append, unhide HN]; simp
            rw [e]; exact a3
          · rw [List.map_append, List.map_cons, List.map_nil, unhide HS, if_neg (by simp only [tst, hb]; simp; omega)]
            rw [List.length_append, unhide HN]
            simp
            omega
        · have hb' : partB u = false := by simpa using hb
          rw [hb']
          gi_wp2
          obtain ⟨a3, a1, aB, aK, aF⟩ := unhide HA
          refine ⟨aK.trans (books_set W.heap.size _ p1 0 _ (by omega) (by omega)), a1.set 0 (.bool false), aB.setCell (p := ⟨p1, 0, none⟩) (by show w.heap.size ≤ p1; omega) _, ?_⟩
          rw [List.map_append, List.map_cons, List.map_nil, unhide HS, if_pos (.inr (.inr hb'))]
  case done =>
    rintro V ⟨i3, i1, iV, iB, iS⟩ hD
    have c1 : V.cell? ⟨p1, 0, none⟩ = some (.bool false) := i1.cell 0
    have f1 := i1.frozen 0
    have HF := hide (show okN k t = true by rw [unhide HO, ← unhide HM, iS])
    clear iS
    gi_wp2
    have hD' : (V.setCell ⟨p1, 0, none⟩ (.bool true)).heap[W.heap.size]? = some (.deferred (some [])) := (heap_setCell_other V ⟨p1, 0, none⟩ _ _ (by show W.heap.size ≠ p1; omega)).trans hD
    refine ⟨by simp, .inl ⟨_, _, rfl, run_takeDeferred hD', ?_⟩⟩
    have lE : Loc ((V.setCell ⟨p1, 0, none⟩ (.bool true)).putObj W.heap.size (.deferred none)) p1 #[.bool true] 4 := (i1.set 0 (.bool true)).stay (grownBy_putObj' _ _ _) (fun r e => by cases e; exact .inl rfl) (by omega) (by omega)
    have c5 : ((V.setCell ⟨p1, 0, none⟩ (.bool true)).putObj W.heap.size (.deferred none)).cell? ⟨p1, 0, none⟩ = some (.bool true) := lE.cell 0
    refine ⟨.bool true, ?_, by rw [unhide HF], below_stay (iB.setCell (p := ⟨p1, 0, none⟩) (by show w.heap.size ≤ p1; omega) _) (D := W.heap.size) (by omega) (grownBy_putObj' _ _ _) (fun r e => by cases e; exact .inl rfl) (by simpa using iB.size)⟩
    simp [results, Tryz.f56, go_sem, c5]
  case stop =>
    rintro pre V hpre ⟨i1, iB, iS⟩ hD
    have HF := hide (show okN k t = false by rw [unhide HO, ← unhide HM]; exact scan_no iS (hpre.map _))
    clear iS
    gi_wp2
    refine ⟨by simp, .inl ⟨_, _, rfl, run_takeDeferred hD, ?_⟩⟩
    have lE : Loc (V.putObj W.heap.size (.deferred none)) p1 #[.bool false] 4 := i1.stay (grownBy_putObj' _ _ _) (fun r e => by cases e; exact .inl rfl) (by omega) (by omega)
    have c5 : (V.putObj W.heap.size (.deferred none)).cell? ⟨p1, 0, none⟩ = some (.bool false) := lE.cell 0
    refine ⟨.bool false, ?_, by rw [unhide HF], below_stay iB (D := W.heap.size) (by omega) (grownBy_putObj' _ _ _) (fun r e => by cases e; exact .inl rfl) iB.size⟩
    simp [results, Tryz.f56, go_sem, c5]

theorem nodeI_none (k : Nat) (w : World) (a b c d e : Value) (t : Tr (k + 1)) (h : RdNode (k + 1) w [a, b, c, d, e] t) (hz : t.kind ≠ 0) :
    Calls Tryz.prog 56 #[.agg #[a, b, c, d, e]] w fun e w' => e = .returned (.bool (okN k t)) ∧ Below w.heap.size w w' := by
  have HO := hide (show okN k t = false by unfold okN; simp [hz])
  obtain ⟨_, _, _, _, e0, k1, k2, hb, hc, hd, he⟩ := h
  simp only [List.cons.injEq, and_true] at e0
  obtain ⟨rfl, rfl, rfl, rfl, rfl⟩ := e0
  obtain ⟨ab, cb, rfl, _, _⟩ := hb.shape
  obtain ⟨ac, cc, rfl, _, _⟩ := hc.shape
  obtain ⟨ad, cd, rfl, _, _⟩ := Elems.shape hd
  obtain ⟨ae, ce, rfl, _, _⟩ := Elems.shape he
  have d0 : (t.kind != 0) = true := by simpa using hz
  clear hb hc hd he
  generalize t.kind = z at *
  generalize t.name.length = nb at *
  generalize t.text.length = nc at *
  generalize t.attrs.length = nd at *
  generalize t.kids.length = ne at *
  go_enter Tryz.func56, Tryz.ntmps56
  go_wp2_with fail
  refine bodyPost_ret (v := .bool false) (by simp [results, Tryz.results56, go_sem]) rfl ⟨by rw [unhide HO], ?_⟩
  exact ((Below.refl _ _).alloc (Nat.le_refl _) _).alloc (by simp) _

/-- impl.NodeOk. -/
theorem nodeI_any (k : Nat) (w : World) (a b c d e : Value) (t : Tr (k + 1)) (h : RdNode (k + 1) w [a, b, c, d, e] t) (hsz : szT (k + 1) t ≤ 2097152) :
    Calls Tryz.prog 56 #[.agg #[a, b, c, d, e]] w fun e w' => e = .returned (.bool (okN k t)) ∧ Below w.heap.size w w' := by
  by_cases hz : t.kind = 0
  · exact nodeI_elem k w a b c d e t h hsz hz
  · exact nodeI_none k w a b c d e t h hz
end Go.Proofs.YtnfafchajjclaaaGreatDoor

/- impl.keyOk answers what the plain test says. -/
namespace Go.Proofs.YtnfafchajjclaaaGreatDoor
open Go.RowKit
set_option linter.unusedVariables false
set_option maxRecDepth 100000

theorem keyI_short (w : World) (a : Option Addr) (n cap : Nat) (h : n < 1 ∨ 12 < n) :
    Calls Tryz.prog 87 #[.slice a n cap] w fun e w' => e = .returned (.bool false) ∧ w' = w := by
  by_cases h1 : n < 1
  · have h1' : (n : Int) < 1 := by omega
    go_enter Tryz.func87, Tryz.ntmps87
    go_wp2
    go_ret
    exact ⟨rfl, rfl⟩
  · have h1' : decide ((n : Int) < 1) = false := by simp; omega
    have h2 : (12 : Int) < (n : Int) := by omega
    go_enter Tryz.func87, Tryz.ntmps87
    go_wp2
    go_ret
    exact ⟨rfl, rfl⟩

open Classical in
set_option maxHeartbeats 1600000 in
theorem keyI_row (w : World) (b off cap : Nat) (l : List Int) (hok : okZ l) (h1 : 1 ≤ l.length) (h8 : l.length ≤ 12)
    (hc : ∀ i, i < l.length → w.cell? ⟨b, off + i, none⟩ = some (.int .i64 (l.getD i 0))) :
    Calls Tryz.prog 87 #[.slice (some ⟨b, off, none⟩) l.length cap] w fun e w' => e = .returned (.bool (decide (KeyOk l))) ∧ w' = w := by
  have d1 : decide ((l.length : Int) < 1) = false := by simp; omega
  have d2 : decide ((12 : Int) < (l.length : Int)) = false := by simp; omega
  obtain ⟨n, hn⟩ : ∃ n, l.length = n + 1 := ⟨l.length - 1, by omega⟩
  obtain ⟨z, hz⟩ : ∃ z, z = l.getD n 0 := ⟨_, rfl⟩
  have hcz : w.cell? ⟨b, off + n, none⟩ = some (.int .i64 z) := by rw [hz]; exact hc _ (by omega)
  have HZ := hide hz
  have HC := hide hc
  have HN := hide hn
  have e1 : (l.length : Int) - 1 = (n : Int) := by omega
  have hlt0 : n < l.length := by omega
  clear hc hz hn
  go_enter Tryz.func87, Tryz.ntmps87
  go_wp2
  go_loop [15] (fun i => ∃ k : Nat, k ≤ l.length ∧ i = .int .i64 k ∧ allTo keyCh l k) (fun i => l.length - (intOf i).toNat)
  case atStart => exact ⟨0, Nat.zero_le _, rfl, fun i hi => by omega⟩
  case round =>
    obtain ⟨k, hk, rfl, ha⟩ := hrel
    have HA := hide ha
    clear ha
    by_cases hlt : k < l.length
    · obtain ⟨x, hx⟩ : ∃ x, x = l.getD k 0 := ⟨_, rfl⟩
      have hcx : w.cell? ⟨b, off + k, none⟩ = some (.int .i64 x) := by rw [hx]; exact unhide HC _ hlt
      have HX := hide hx
      have hlt' : (k : Int) < (l.length : Int) := by omega
      clear hx hcz
      by_cases hn : keyCh k x
      · have HN := hide hn
        have q1 : decide (x < 0) = false := by unfold keyCh at hn; simp; omega
        have q2 : decide (999 < x) = false := by unfold keyCh at hn; simp; omega
        clear hn
        go_wp2
        go_round
        case rel => exact ⟨k + 1, by omega, by go_num, allTo_step (unhide HA) (by rw [← unhide HX]; exact unhide HN)⟩
        case measure => simp [intOf]; omega
      · have HF := hide (show decide (KeyOk l) = false by
          simp only [decide_eq_false_iff_not]
          rintro ⟨_, _, _, h⟩
          exact hn (by rw [unhide HX]; exact h k hlt))
        have hcase : decide (x < 0) = true ∨ (decide (x < 0) = false ∧ decide (999 < x) = true) := by
          unfold keyCh at hn; simp; omega
        clear hn
        rcases hcase with q1 | ⟨q1, q2⟩
        all_goals
          go_wp2
          go_ret
          exact ⟨by rw [unhide HF]; rfl, rfl⟩
    · have e : k = l.length := by omega
      subst e
      by_cases hz0 : z = 0
      · have HF := hide (show decide (KeyOk l) = false by
          simp only [decide_eq_false_iff_not]
          rintro ⟨_, _, h, _⟩
          rw [unhide HN, Nat.add_sub_cancel, ← unhide HZ] at h
          exact h hz0)
        have dz : (z != 0) = false := by simp [hz0]
        clear hz0
        go_wp2
        go_ret
        exact ⟨by rw [unhide HF]; rfl, rfl⟩
      · have HF := hide (show decide (KeyOk l) = true by
          simp only [decide_eq_true_eq]
          exact ⟨h1, h8, by rw [unhide HN, Nat.add_sub_cancel, ← unhide HZ]; exact hz0, unhide HA⟩)
        have dz : (z != 0) = true := by simp [hz0]
        clear hz0
        go_wp2
        go_ret
        exact ⟨by rw [unhide HF]; rfl, rfl⟩

open Classical in
theorem keyI_any (w : World) (v : Value) (l : List Int) (h : Ints w v l) :
    Calls Tryz.prog 87 #[v] w fun e w' => e = .returned (.bool (decide (KeyOk l))) ∧ w' = w := by
  by_cases hl : l.length < 1 ∨ 12 < l.length
  · obtain ⟨a, cap, rfl, _⟩ := h.shape
    have hd : decide (KeyOk l) = false := by simp only [decide_eq_false_iff_not]; rintro ⟨_, _, _⟩; omega
    rw [hd]
    exact keyI_short w a _ cap hl
  · obtain ⟨hok, hm, ⟨rfl, rfl⟩ | ⟨x, cap, rfl, hc, rfl⟩ | ⟨b, off, cap, rfl, _, _, _, _, h5⟩⟩ := h
    · simp at hl
    · simp at hl
    · exact keyI_row w b off cap l hok (by omega) (by omega) h5
theorem keyI_b (w : World) (v : Value) (l : List Int) (h : Ints w v l) : Calls Tryz.prog 87 #[v] w fun e w' => e = .returned (.bool (keyB l)) ∧ w' = w := by
  refine (keyI_any w v l h).mono ?_
  rintro e w' ⟨rfl, h⟩
  refine ⟨?_, h⟩
  by_cases hn : KeyOk l
  · rw [(keyB_iff l).2 hn]; simp [hn]
  · rw [Bool.eq_false_iff.2 (fun k => hn ((keyB_iff l).1 k))]; simp [hn]
end Go.Proofs.YtnfafchajjclaaaGreatDoor

/- impl.OpOk answers what the plain test says. -/
namespace Go.Proofs.YtnfafchajjclaaaGreatDoor
open Go.RowKit
set_option linter.unusedVariables false
set_option maxRecDepth 100000

theorem balloc {w w' : World} {o : Obj} (h : Below w.heap.size w w') : Below w.heap.size w (w'.alloc o) := h.alloc h.size o

set_option maxHeartbeats 6400000 in
theorem opI_0 (w : World) (o : OpV) (a1 a2 a3 : Option Addr) (c1 c2 c3 : Nat) (hk : Ints w (.slice a1 o.key.length c1) o.key) (hn : Byt w (.slice a2 o.name.length c2) o.name) (ht : Byt w (.slice a3 o.text.length c3) o.text) (k0 : o.kind = 0) :
    Calls Tryz.prog 58 #[opVal o (.slice a1 o.key.length c1) (.slice a2 o.name.length c2) (.slice a3 o.text.length c3)] w fun e w' => e = .returned (.bool (opB o)) ∧ Below w.heap.size w w' := by
  have hE := opB_0 k0
  have HK := hide hk
  have HM := hide hn
  have HX := hide ht
  clear hk hn ht
  unfold opVal
  rw [k0]
  go_enter Tryz.func58, Tryz.ntmps58
  go_wp2_with fail
  refine (idI_any _ o.parN o.parR).mono ?_
  rintro e w1 ⟨rfl, ew⟩
  obtain rfl := ew
  cases hx : idB o.parN o.parR
  · rw [hx] at hE
    clear hx
    go_wp2_with fail
    refine (stampI_any _ o.atN o.atR).mono ?_
    rintro e w1 ⟨rfl, rfl⟩
    cases hs : stampB o.atN o.atR
    · have HF := hide (show opB o = false by rw [hE, hs]; rfl)
      clear hE hs
      go_wp2_with fail
      go_ret
      exact ⟨by rw [unhide HF]; rfl, (by repeat (first | exact Below.refl _ _ | refine balloc ?_))⟩
    · have HF := hide (show opB o = false by rw [hE, hs]; rfl)
      clear hE hs
      go_wp2_with fail
      go_ret
      exact ⟨by rw [unhide HF]; rfl, (by repeat (first | exact Below.refl _ _ | refine balloc ?_))⟩
  rw [hx] at hE
  clear hx
  go_wp2_with fail
  refine (keyI_b _ _ o.key ((unhide HK).keep (by repeat (first | exact Below.refl _ _ | refine balloc ?_)))).mono ?_
  rintro e w1 ⟨rfl, ew⟩
  obtain rfl := ew
  cases hx : keyB o.key
  · rw [hx] at hE
    clear hx
    go_wp2_with fail
    refine (stampI_any _ o.atN o.atR).mono ?_
    rintro e w1 ⟨rfl, rfl⟩
    cases hs : stampB o.atN o.atR
    · have HF := hide (show opB o = false by rw [hE, hs]; rfl)
      clear hE hs
      go_wp2_with fail
      go_ret
      exact ⟨by rw [unhide HF]; rfl, (by repeat (first | exact Below.refl _ _ | refine balloc ?_))⟩
    · have HF := hide (show opB o = false by rw [hE, hs]; rfl)
      clear hE hs
      go_wp2_with fail
      go_ret
      exact ⟨by rw [unhide HF]; rfl, (by repeat (first | exact Below.refl _ _ | refine balloc ?_))⟩
  rw [hx] at hE
  clear hx
  go_wp2_with fail
  refine (loneI_any _ o.elem _ _ o.name o.text ((unhide HM).keep (by repeat (first | exact Below.refl _ _ | refine balloc ?_))) ((unhide HX).keep (by repeat (first | exact Below.refl _ _ | refine balloc ?_)))).mono ?_
  rintro e w1 ⟨rfl, ew⟩
  obtain rfl := ew
  cases hx : loneB o.elem o.name o.text
  · rw [hx] at hE
    clear hx
    go_wp2_with fail
    refine (stampI_any _ o.atN o.atR).mono ?_
    rintro e w1 ⟨rfl, rfl⟩
    cases hs : stampB o.atN o.atR
    · have HF := hide (show opB o = false by rw [hE, hs]; rfl)
      clear hE hs
      go_wp2_with fail
      go_ret
      exact ⟨by rw [unhide HF]; rfl, (by repeat (first | exact Below.refl _ _ | refine balloc ?_))⟩
    · have HF := hide (show opB o = false by rw [hE, hs]; rfl)
      clear hE hs
      go_wp2_with fail
      go_ret
      exact ⟨by rw [unhide HF]; rfl, (by repeat (first | exact Below.refl _ _ | refine balloc ?_))⟩
  rw [hx] at hE
  clear hx
  go_wp2_with fail
  refine (stampI_any _ o.atN o.atR).mono ?_
  rintro e w1 ⟨rfl, rfl⟩
  cases hs : stampB o.atN o.atR
  · have HF := hide (show opB o = false by rw [hE, hs]; rfl)
    clear hE hs
    go_wp2_with fail
    go_ret
    exact ⟨by rw [unhide HF]; rfl, (by repeat (first | exact Below.refl _ _ | refine balloc ?_))⟩
  · rw [hs] at hE
    have HF := hide (show opB o = zeroOpB (rest0 o) by rw [hE]; rfl)
    clear hE hs
    go_wp2_with fail
    refine (zeroI_any _ (rest0 o) none none none 0 0 0).mono ?_
    rintro e w1 ⟨rfl, hB1⟩
    have hA := bstep (a := w) (by repeat (first | exact Below.refl _ _ | refine balloc ?_)) hB1
    clear hB1
    go_wp2_with fail
    go_ret
    exact ⟨by rw [unhide HF]; rfl, hA⟩

set_option maxHeartbeats 6400000 in
theorem opI_1 (w : World) (o : OpV) (a1 a2 a3 : Option Addr) (c1 c2 c3 : Nat) (hk : Ints w (.slice a1 o.key.length c1) o.key) (hn : Byt w (.slice a2 o.name.length c2) o.name) (ht : Byt w (.slice a3 o.text.length c3) o.text) (k0 : o.kind = 1) :
    Calls Tryz.prog 58 #[opVal o (.slice a1 o.key.length c1) (.slice a2 o.name.length c2) (.slice a3 o.text.length c3)] w fun e w' => e = .returned (.bool (opB o)) ∧ Below w.heap.size w w' := by
  have hE := opB_1 k0
  have HK := hide hk
  have HM := hide hn
  have HX := hide ht
  clear hk hn ht
  unfold opVal
  rw [k0]
  go_enter Tryz.func58, Tryz.ntmps58
  go_wp2_with fail
  refine (idI_any _ o.nodeN o.nodeR).mono ?_
  rintro e w1 ⟨rfl, ew⟩
  obtain rfl := ew
  cases hx : idB o.nodeN o.nodeR
  · rw [hx] at hE
    clear hx
    go_wp2_with fail
    refine (stampI_any _ o.atN o.atR).mono ?_
    rintro e w1 ⟨rfl, rfl⟩
    cases hs : stampB o.atN o.atR
    · have HF := hide (show opB o = false by rw [hE, hs]; rfl)
      clear hE hs
      go_wp2_with fail
      go_ret
      exact ⟨by rw [unhide HF]; rfl, (by repeat (first | exact Below.refl _ _ | refine balloc ?_))⟩
    · have HF := hide (show opB o = false by rw [hE, hs]; rfl)
      clear hE hs
      go_wp2_with fail
      go_ret
      exact ⟨by rw [unhide HF]; rfl, (by repeat (first | exact Below.refl _ _ | refine balloc ?_))⟩
  rw [hx] at hE
  clear hx
  go_wp2_with fail
  refine (idI_any _ o.parN o.parR).mono ?_
  rintro e w1 ⟨rfl, ew⟩
  obtain rfl := ew
  cases hx : idB o.parN o.parR
  · rw [hx] at hE
    clear hx
    go_wp2_with fail
    refine (stampI_any _ o.atN o.atR).mono ?_
    rintro e w1 ⟨rfl, rfl⟩
    cases hs : stampB o.atN o.atR
    · have HF := hide (show opB o = false by rw [hE, hs]; rfl)
      clear hE hs
      go_wp2_with fail
      go_ret
      exact ⟨by rw [unhide HF]; rfl, (by repeat (first | exact Below.refl _ _ | refine balloc ?_))⟩
    · have HF := hide (show opB o = false by rw [hE, hs]; rfl)
      clear hE hs
      go_wp2_with fail
      go_ret
      exact ⟨by rw [unhide HF]; rfl, (by repeat (first | exact Below.refl _ _ | refine balloc ?_))⟩
  rw [hx] at hE
  clear hx
  go_wp2_with fail
  refine (keyI_b _ _ o.key ((unhide HK).keep (by repeat (first | exact Below.refl _ _ | refine balloc ?_)))).mono ?_
  rintro e w1 ⟨rfl, ew⟩
  obtain rfl := ew
  cases hx : keyB o.key
  · rw [hx] at hE
    clear hx
    go_wp2_with fail
    refine (stampI_any _ o.atN o.atR).mono ?_
    rintro e w1 ⟨rfl, rfl⟩
    cases hs : stampB o.atN o.atR
    · have HF := hide (show opB o = false by rw [hE, hs]; rfl)
      clear hE hs
      go_wp2_with fail
      go_ret
      exact ⟨by rw [unhide HF]; rfl, (by repeat (first | exact Below.refl _ _ | refine balloc ?_))⟩
    · have HF := hide (show opB o = false by rw [hE, hs]; rfl)
      clear hE hs
      go_wp2_with fail
      go_ret
      exact ⟨by rw [unhide HF]; rfl, (by repeat (first | exact Below.refl _ _ | refine balloc ?_))⟩
  rw [hx] at hE
  clear hx
  go_wp2_with fail
  refine (stampI_any _ o.atN o.atR).mono ?_
  rintro e w1 ⟨rfl, rfl⟩
  cases hs : stampB o.atN o.atR
  · have HF := hide (show opB o = false by rw [hE, hs]; rfl)
    clear hE hs
    go_wp2_with fail
    go_ret
    exact ⟨by rw [unhide HF]; rfl, (by repeat (first | exact Below.refl _ _ | refine balloc ?_))⟩
  · rw [hs] at hE
    have HF := hide (show opB o = zeroOpB (rest1 o) by rw [hE]; rfl)
    clear hE hs
    go_wp2_with fail
    refine (zeroI_any _ (rest1 o) none a2 a3 0 c2 c3).mono ?_
    rintro e w1 ⟨rfl, hB1⟩
    have hA := bstep (a := w) (by repeat (first | exact Below.refl _ _ | refine balloc ?_)) hB1
    clear hB1
    go_wp2_with fail
    go_ret
    exact ⟨by rw [unhide HF]; rfl, hA⟩

set_option maxHeartbeats 6400000 in
theorem opI_2 (w : World) (o : OpV) (a1 a2 a3 : Option Addr) (c1 c2 c3 : Nat) (hk : Ints w (.slice a1 o.key.length c1) o.key) (hn : Byt w (.slice a2 o.name.length c2) o.name) (ht : Byt w (.slice a3 o.text.length c3) o.text) (k0 : o.kind = 2) :
    Calls Tryz.prog 58 #[opVal o (.slice a1 o.key.length c1) (.slice a2 o.name.length c2) (.slice a3 o.text.length c3)] w fun e w' => e = .returned (.bool (opB o)) ∧ Below w.heap.size w w' := by
  have hE := opB_2 k0
  have HK := hide hk
  have HM := hide hn
  have HX := hide ht
  clear hk hn ht
  unfold opVal
  rw [k0]
  go_enter Tryz.func58, Tryz.ntmps58
  go_wp2_with fail
  refine (idI_any _ o.nodeN o.nodeR).mono ?_
  rintro e w1 ⟨rfl, ew⟩
  obtain rfl := ew
  cases hx : idB o.nodeN o.nodeR
  · rw [hx] at hE
    clear hx
    go_wp2_with fail
    refine (stampI_any _ o.atN o.atR).mono ?_
    rintro e w1 ⟨rfl, rfl⟩
    cases hs : stampB o.atN o.atR
    · have HF := hide (show opB o = false by rw [hE, hs]; rfl)
      clear hE hs
      go_wp2_with fail
      go_ret
      exact ⟨by rw [unhide HF]; rfl, (by repeat (first | exact Below.refl _ _ | refine balloc ?_))⟩
    · have HF := hide (show opB o = false by rw [hE, hs]; rfl)
      clear hE hs
      go_wp2_with fail
      go_ret
      exact ⟨by rw [unhide HF]; rfl, (by repeat (first | exact Below.refl _ _ | refine balloc ?_))⟩
  rw [hx] at hE
  clear hx
  go_wp2_with fail
  refine (textI_b _ _ o.text ((unhide HX).keep (by repeat (first | exact Below.refl _ _ | refine balloc ?_)))).mono ?_
  rintro e w1 ⟨rfl, ew⟩
  obtain rfl := ew
  cases hx : textB o.text
  · rw [hx] at hE
    clear hx
    go_wp2_with fail
    refine (stampI_any _ o.atN o.atR).mono ?_
    rintro e w1 ⟨rfl, rfl⟩
    cases hs : stampB o.atN o.atR
    · have HF := hide (show opB o = false by rw [hE, hs]; rfl)
      clear hE hs
      go_wp2_with fail
      go_ret
      exact ⟨by rw [unhide HF]; rfl, (by repeat (first | exact Below.refl _ _ | refine balloc ?_))⟩
    · have HF := hide (show opB o = false by rw [hE, hs]; rfl)
      clear hE hs
      go_wp2_with fail
      go_ret
      exact ⟨by rw [unhide HF]; rfl, (by repeat (first | exact Below.refl _ _ | refine balloc ?_))⟩
  rw [hx] at hE
  clear hx
  go_wp2_with fail
  refine (stampI_any _ o.atN o.atR).mono ?_
  rintro e w1 ⟨rfl, rfl⟩
  cases hs : stampB o.atN o.atR
  · have HF := hide (show opB o = false by rw [hE, hs]; rfl)
    clear hE hs
    go_wp2_with fail
    go_ret
    exact ⟨by rw [unhide HF]; rfl, (by repeat (first | exact Below.refl _ _ | refine balloc ?_))⟩
  · rw [hs] at hE
    have HF := hide (show opB o = zeroOpB (rest2 o) by rw [hE]; rfl)
    clear hE hs
    go_wp2_with fail
    refine (zeroI_any _ (rest2 o) a1 a2 none c1 c2 0).mono ?_
    rintro e w1 ⟨rfl, hB1⟩
    have hA := bstep (a := w) (by repeat (first | exact Below.refl _ _ | refine balloc ?_)) hB1
    clear hB1
    go_wp2_with fail
    go_ret
    exact ⟨by rw [unhide HF]; rfl, hA⟩

set_option maxHeartbeats 6400000 in
theorem opI_3 (w : World) (o : OpV) (a1 a2 a3 : Option Addr) (c1 c2 c3 : Nat) (hk : Ints w (.slice a1 o.key.length c1) o.key) (hn : Byt w (.slice a2 o.name.length c2) o.name) (ht : Byt w (.slice a3 o.text.length c3) o.text) (k0 : o.kind = 3) :
    Calls Tryz.prog 58 #[opVal o (.slice a1 o.key.length c1) (.slice a2 o.name.length c2) (.slice a3 o.text.length c3)] w fun e w' => e = .returned (.bool (opB o)) ∧ Below w.heap.size w w' := by
  have hE := opB_3 k0
  have HK := hide hk
  have HM := hide hn
  have HX := hide ht
  clear hk hn ht
  unfold opVal
  rw [k0]
  go_enter Tryz.func58, Tryz.ntmps58
  go_wp2_with fail
  refine (idI_any _ o.nodeN o.nodeR).mono ?_
  rintro e w1 ⟨rfl, ew⟩
  obtain rfl := ew
  cases hx : idB o.nodeN o.nodeR
  · rw [hx] at hE
    clear hx
    go_wp2_with fail
    refine (stampI_any _ o.atN o.atR).mono ?_
    rintro e w1 ⟨rfl, rfl⟩
    cases hs : stampB o.atN o.atR
    · have HF := hide (show opB o = false by rw [hE, hs]; rfl)
      clear hE hs
      go_wp2_with fail
      go_ret
      exact ⟨by rw [unhide HF]; rfl, (by repeat (first | exact Below.refl _ _ | refine balloc ?_))⟩
    · have HF := hide (show opB o = false by rw [hE, hs]; rfl)
      clear hE hs
      go_wp2_with fail
      go_ret
      exact ⟨by rw [unhide HF]; rfl, (by repeat (first | exact Below.refl _ _ | refine balloc ?_))⟩
  rw [hx] at hE
  clear hx
  go_wp2_with fail
  refine (nameI_b _ _ o.name ((unhide HM).keep (by repeat (first | exact Below.refl _ _ | refine balloc ?_)))).mono ?_
  rintro e w1 ⟨rfl, ew⟩
  obtain rfl := ew
  cases hx : nameB o.name
  · rw [hx] at hE
    clear hx
    go_wp2_with fail
    refine (stampI_any _ o.atN o.atR).mono ?_
    rintro e w1 ⟨rfl, rfl⟩
    cases hs : stampB o.atN o.atR
    · have HF := hide (show opB o = false by rw [hE, hs]; rfl)
      clear hE hs
      go_wp2_with fail
      go_ret
      exact ⟨by rw [unhide HF]; rfl, (by repeat (first | exact Below.refl _ _ | refine balloc ?_))⟩
    · have HF := hide (show opB o = false by rw [hE, hs]; rfl)
      clear hE hs
      go_wp2_with fail
      go_ret
      exact ⟨by rw [unhide HF]; rfl, (by repeat (first | exact Below.refl _ _ | refine balloc ?_))⟩
  rw [hx] at hE
  clear hx
  go_wp2_with fail
  refine (valI_any _ _ o.text o.gone ((unhide HX).keep (by repeat (first | exact Below.refl _ _ | refine balloc ?_)))).mono ?_
  rintro e w1 ⟨rfl, ew⟩
  obtain rfl := ew
  cases hx : valB o.text o.gone
  · rw [hx] at hE
    clear hx
    go_wp2_with fail
    refine (stampI_any _ o.atN o.atR).mono ?_
    rintro e w1 ⟨rfl, rfl⟩
    cases hs : stampB o.atN o.atR
    · have HF := hide (show opB o = false by rw [hE, hs]; rfl)
      clear hE hs
      go_wp2_with fail
      go_ret
      exact ⟨by rw [unhide HF]; rfl, (by repeat (first | exact Below.refl _ _ | refine balloc ?_))⟩
    · have HF := hide (show opB o = false by rw [hE, hs]; rfl)
      clear hE hs
      go_wp2_with fail
      go_ret
      exact ⟨by rw [unhide HF]; rfl, (by repeat (first | exact Below.refl _ _ | refine balloc ?_))⟩
  rw [hx] at hE
  clear hx
  go_wp2_with fail
  refine (stampI_any _ o.atN o.atR).mono ?_
  rintro e w1 ⟨rfl, rfl⟩
  cases hs : stampB o.atN o.atR
  · have HF := hide (show opB o = false by rw [hE, hs]; rfl)
    clear hE hs
    go_wp2_with fail
    go_ret
    exact ⟨by rw [unhide HF]; rfl, (by repeat (first | exact Below.refl _ _ | refine balloc ?_))⟩
  · rw [hs] at hE
    have HF := hide (show opB o = zeroOpB (rest3 o) by rw [hE]; rfl)
    clear hE hs
    go_wp2_with fail
    refine (zeroI_any _ (rest3 o) a1 none none c1 0 0).mono ?_
    rintro e w1 ⟨rfl, hB1⟩
    have hA := bstep (a := w) (by repeat (first | exact Below.refl _ _ | refine balloc ?_)) hB1
    clear hB1
    go_wp2_with fail
    go_ret
    exact ⟨by rw [unhide HF]; rfl, hA⟩

set_option maxHeartbeats 6400000 in
theorem opI_4 (w : World) (o : OpV) (a1 a2 a3 : Option Addr) (c1 c2 c3 : Nat) (h0 : o.kind ≠ 0) (h1 : o.kind ≠ 1) (h2 : o.kind ≠ 2) (h3 : o.kind ≠ 3) :
    Calls Tryz.prog 58 #[opVal o (.slice a1 o.key.length c1) (.slice a2 o.name.length c2) (.slice a3 o.text.length c3)] w fun e w' => e = .returned (.bool (opB o)) ∧ Below w.heap.size w w' := by
  have HF := hide (opB_4 h0 h1 h2 h3)
  have q0 : (o.kind == 0) = false := by simpa using h0
  have q1 : (o.kind == 1) = false := by simpa using h1
  have q2 : (o.kind == 2) = false := by simpa using h2
  have q3 : (o.kind == 3) = false := by simpa using h3
  clear h0 h1 h2 h3
  unfold opVal
  go_enter Tryz.func58, Tryz.ntmps58
  go_wp2_with fail
  refine (stampI_any _ o.atN o.atR).mono ?_
  rintro e w1 ⟨rfl, rfl⟩
  cases hs : stampB o.atN o.atR
  all_goals
    clear hs
    go_wp2_with fail
    go_ret
    exact ⟨by rw [unhide HF]; rfl, (by repeat (first | exact Below.refl _ _ | refine balloc ?_))⟩

/-- impl.OpOk, whatever it is asked. -/
theorem opI_any (w : World) (v : Value) (o : OpV) (h : RdOp w v o) :
    Calls Tryz.prog 58 #[v] w fun e w' => e = .returned (.bool (opB o)) ∧ Below w.heap.size w w' := by
  obtain ⟨k, n, t, rfl, hk, hn, ht⟩ := h
  obtain ⟨a1, c1, rfl, _, _⟩ := hk.shape
  obtain ⟨a2, c2, rfl, _, _⟩ := hn.shape
  obtain ⟨a3, c3, rfl, _, _⟩ := ht.shape
  by_cases k0 : o.kind = 0
  · exact opI_0 w o a1 a2 a3 c1 c2 c3 hk hn ht k0
  by_cases k1 : o.kind = 1
  · exact opI_1 w o a1 a2 a3 c1 c2 c3 hk hn ht k1
  by_cases k2 : o.kind = 2
  · exact opI_2 w o a1 a2 a3 c1 c2 c3 hk hn ht k2
  by_cases k3 : o.kind = 3
  · exact opI_3 w o a1 a2 a3 c1 c2 c3 hk hn ht k3
  exact opI_4 w o a1 a2 a3 c1 c2 c3 k0 k1 k2 k3
end Go.Proofs.YtnfafchajjclaaaGreatDoor

/- impl.OpsOk answers what the plain test of a row says. -/
namespace Go.Proofs.YtnfafchajjclaaaGreatDoor
open Go.RowKit
set_option linter.unusedVariables false
set_option maxRecDepth 100000

set_option maxHeartbeats 6400000 in
theorem opsI_any (w : World) (v : Value) (l : List OpV) (h : RdOps w v l) :
    Calls Tryz.prog 31 #[v] w fun e w' => e = .returned (.bool (opsB l)) ∧ Below w.heap.size w w' := by
  have hm := h.1
  unfold maxLen at hm
  by_cases hlong : 150 < l.length
  · obtain ⟨a, cap, rfl, _, _⟩ := Elems.shape h
    have hd : (150 : Int) < (l.length : Int) := by omega
    rw [opsB_long hlong]
    go_enter Tryz.func31, Tryz.ntmps31
    go_wp2_with fail
    go_ret
    exact ⟨rfl, Below.refl _ _⟩
  have hd : ¬ (150 : Int) < (l.length : Int) := by omega
  obtain ⟨rfl, a, cap, rfl⟩ | ⟨b, off, cap, rfl, hnil, g4, g5⟩ := h.cases
  · go_enter Tryz.func31, Tryz.ntmps31
    go_wp2_with fail
    refine wp_loop_rounds 1 ?_
    rw [rounds_succ]
    go_wp2_with fail
    go_ret
    exact ⟨rfl, Below.refl _ _⟩
  have HG := hide (fun hh => opsB_good (l := l) (by omega) hh)
  have HN := hide (fun k hk hh => opsB_bad (l := l) (k := k) hk hh)
  generalize opsB l = res at *
  go_enter Tryz.func31, Tryz.ntmps31
  go_wp2_with fail
  go_loopw [3, 4, 10] (fun _ _ i wr => ∃ k : Nat, k ≤ l.length ∧ i = .int .i64 k ∧ (∀ j, j < k → okAt l j = true) ∧ Below w.heap.size w wr) (fun _ _ i _ => l.length - (intOf i).toNat)
  case atStart => exact ⟨0, Nat.zero_le _, rfl, fun j hj => by omega, Below.refl _ _⟩
  case round =>
    obtain ⟨k, hk, rfl, hok, hB⟩ := hrel
    by_cases hlt : k < l.length
    · have HX := hide (fun W u (hu : RdOp W u l[k]) => opI_any W u l[k] hu)
      have HL := hide (fun W n r n' r' => lessI_any W n r n' r')
      have H0 := hide (fun (h : opB l[k] = false) => okAt_no hlt h)
      have HZ := hide (fun (h : opB l[k] = true) (e : k = 0) => (show okAt l k = true by subst e; exact okAt_0 hlt h))
      have HS := hide (fun j (e : k = j + 1) (h : opB l[k] = true) => (show okAt l k = lessB (l[j]'(by omega)).atN (l[j]'(by omega)).atR l[k].atN l[k].atR by subst e; exact okAt_s hlt h))
      have HP := hide (fun j (e : k = j + 1) => opc_at hB g4 (g5 j (by omega)))
      have HJ := hide (fun j (hj : j < k + 1) (h : okAt l k = true) => (show okAt l j = true by rcases Nat.lt_succ_iff_lt_or_eq.1 hj with h1 | rfl; exact hok j h1; exact h))
      have HNK := hide (fun (h : okAt l k = false) => unhide HN k hlt h)
      obtain ⟨a1, c1, a2, c2, a3, c3, e0, e1, e2, e3, e4, e5, e6, e7, e8, e9, e10, e11, hr⟩ := opc_at hB g4 (g5 k hlt)
      have hlt' : (k : Int) < (l.length : Int) := by omega
      have hk0 : (0 : Int) ≤ (k : Int) := by omega
      have HR := hide hr
      unfold opVal at HR
      generalize hoo : l[k] = o at *
      generalize o.key.length = nK at *
      generalize o.name.length = nN at *
      generalize o.text.length = nT at *
      clear g5 hr hnil hoo HG HN hok
      generalize okAt l k = okk at *
      have lo := Loc.made wr #[.int .i64 o.kind, .int .i64 o.atN, .int .i64 o.atR, .int .i64 o.nodeN, .int .i64 o.nodeR, .int .i64 o.parN, .int .i64 o.parR, .slice a1 nK c1, .int .i64 o.elem, .slice a2 nN c2, .slice a3 nT c3, .bool o.gone] 68
      have hAb := (Below.refl wr.heap.size wr).alloc (Nat.le_refl _) (.cells #[.int .i64 o.kind, .int .i64 o.atN, .int .i64 o.atR, .int .i64 o.nodeN, .int .i64 o.nodeR, .int .i64 o.parN, .int .i64 o.parR, .slice a1 nK c1, .int .i64 o.elem, .slice a2 nN c2, .slice a3 nT c3, .bool o.gone] 68)
      have LL := hide (And.intro lo hAb)
      clear lo hAb
      go_wp2_with fail
      obtain ⟨lo, hAb⟩ := unhide LL
      clear LL
      have hB' := bstep hB hAb
      have HRb := hide ((unhide HR).keep hAb)
      have g4' : b < wr.heap.size := Nat.lt_of_lt_of_le g4 hB.size
      have hcb := fun a v (hb : a.block < wr.heap.size) (h : wr.cell? a = some v) => (hAb.cell hb).trans h
      have hzz := hAb.size
      have HCB := hide hcb
      clear hcb hAb HR
      generalize (wr.alloc (.cells #[.int .i64 o.kind, .int .i64 o.atN, .int .i64 o.atR, .int .i64 o.nodeN, .int .i64 o.nodeR, .int .i64 o.parN, .int .i64 o.parR, .slice a1 nK c1, .int .i64 o.elem, .slice a2 nN c2, .slice a3 nT c3, .bool o.gone] 68)) = wb at *
      have hSl : wr.heap.size < wb.heap.size := lo.lt
      generalize wr.heap.size = S at *
      have hNE : Nonempty (Gr wb) := ⟨⟨wb, Below.refl _ _⟩⟩
      obtain ⟨y0, y1, y2, y3, y4, y5, y6, y7, y8, y9, y10, y11⟩ := lo.twelve
      replace y0 := Gr.cell hSl y0
      replace y1 := Gr.cell hSl y1
      replace y2 := Gr.cell hSl y2
      replace y3 := Gr.cell hSl y3
      replace y4 := Gr.cell hSl y4
      replace y5 := Gr.cell hSl y5
      replace y6 := Gr.cell hSl y6
      replace y7 := Gr.cell hSl y7
      replace y8 := Gr.cell hSl y8
      replace y9 := Gr.cell hSl y9
      replace y10 := Gr.cell hSl y10
      replace y11 := Gr.cell hSl y11
      clear lo e0 e1 e2 e3 e4 e5 e6 e7 e8 e9 e10 e11
      by_cases hq : opB o = true
      · rw [hq] at HX
        rcases Nat.eq_zero_or_pos k with hz | hpos
        · have HY := hide (unhide HZ hq hz)
          have dz3 : ¬ 0 < k := by omega
          have dz4 : decide (0 < k) = false := by simp; omega
          clear H0 HZ HS HP hq HL hz
          refine wp_region_gr (by kernel_rfl) (by kernel_rfl) ?_
          repeat (go_big_quiet_step ((rename_i p; exact calls_gr (unhide HX _ _ ((unhide HRb).keep p.h)))))
          refine wpQuiet_nil ?_
          rintro _ ⟨p, rfl⟩
          have hB3 := bstep hB' p.h
          clear y0 y1 y2 y3 y4 y5 y6 y7 y8 y9 y10 y11 HRb
          go_wp2_with fail
          go_roundw
          case rel => exact ⟨k + 1, by omega, by go_num, fun j hj => unhide HJ j hj (unhide HY), hB3⟩
          case measure => simp [intOf]; omega
        · obtain ⟨j, ej⟩ : ∃ j, k = j + 1 := ⟨k - 1, by omega⟩
          have dz3 : 0 < k := hpos
          have dz4 : decide (0 < k) = true := by simp; omega
          have hj1 : (k : Int) - 1 = (j : Int) := by omega
          have hj0 : (0 : Int) ≤ (j : Int) := by omega
          have hjl : (j : Int) < (l.length : Int) := by omega
          obtain ⟨pn, pr, i1, i2, HE⟩ : ∃ pn pr, wb.cell? ⟨b, off + j * 12 + 1, none⟩ = some (.int .i64 pn) ∧ wb.cell? ⟨b, off + j * 12 + 2, none⟩ = some (.int .i64 pr) ∧ okk = lessB pn pr o.atN o.atR := by
            obtain ⟨_, _, _, _, _, _, _, i1, i2, _⟩ := unhide HP j ej
            exact ⟨_, _, unhide HCB _ _ g4' i1, unhide HCB _ _ g4' i2, unhide HS j ej hq⟩
          replace i1 := Gr.cell (Nat.lt_trans g4' hSl) i1
          replace i2 := Gr.cell (Nat.lt_trans g4' hSl) i2
          clear H0 HZ HS HP hq hpos
          have HLL := hide (fun W => unhide HL W pn pr o.atN o.atR)
          generalize lessB pn pr o.atN o.atR = lb at *
          subst HE
          clear HL ej
          refine wp_region_gr (by kernel_rfl) (by kernel_rfl) ?_
          repeat (go_big_quiet_step ((rename_i p; first | exact calls_gr (unhide HX _ _ ((unhide HRb).keep p.h)) | exact calls_gr (unhide HLL _))))
          refine wpQuiet_nil ?_
          rintro _ ⟨p, rfl⟩
          have hB3 := bstep hB' p.h
          clear y0 y1 y2 y3 y4 y5 y6 y7 y8 y9 y10 y11 HRb i1 i2
          cases okk with
          | true =>
            go_wp2_with fail
            go_roundw
            case rel => exact ⟨k + 1, by omega, by go_num, fun j hj => unhide HJ j hj rfl, hB3⟩
            case measure => simp [intOf]; omega
          | false =>
            have HF := hide (unhide HNK rfl)
            clear HNK
            go_wp2_with fail
            go_ret
            exact ⟨by rw [unhide HF]; rfl, hB3⟩
      · have hq' : opB o = false := by simpa using hq
        rw [hq'] at HX
        have HY := hide (unhide HNK (unhide H0 hq'))
        clear H0 HZ HS HP hq hq' HL HNK
        refine wp_region_gr (by kernel_rfl) (by kernel_rfl) ?_
        repeat (go_big_quiet_step ((rename_i p; exact calls_gr (unhide HX _ _ ((unhide HRb).keep p.h)))))
        refine wpQuiet_nil ?_
        rintro _ ⟨p, rfl⟩
        have hB3 := bstep hB' p.h
        clear y0 y1 y2 y3 y4 y5 y6 y7 y8 y9 y10 y11 HRb
        go_wp2_with fail
        go_ret
        exact ⟨by rw [unhide HY]; rfl, hB3⟩
    · have HY := hide (unhide HG (fun j hj => hok j (by omega)))
      clear g5
      go_wp2_with fail
      go_ret
      exact ⟨by rw [unhide HY]; rfl, hB⟩
end Go.Proofs.YtnfafchajjclaaaGreatDoor

/- impl.rootOk, impl.Fold. -/
namespace Go.Proofs.YtnfafchajjclaaaGreatDoor
open Go.RowKit Go.Maps
set_option linter.unusedVariables false
set_option maxRecDepth 100000

open Classical in
set_option maxHeartbeats 6400000 in
theorem rootOk_any (n : Nat) (w : World) (t : Tr (n + 1)) (a1 a2 a3 a4 : Option Addr) (c1 c2 c3 c4 : Nat) (hN : RdNode (n + 1) w [.int .i64 t.kind, .slice a1 t.name.length c1, .slice a2 t.text.length c2, .slice a3 t.attrs.length c3, .slice a4 t.kids.length c4] t) (h1 : Byt w (.slice a1 t.name.length c1) t.name) (hsz : szT (n + 1) t ≤ 2097152) :
    Calls Tryz.prog 30 #[.agg #[.int .i64 t.kind, .slice a1 t.name.length c1, .slice a2 t.text.length c2, .slice a3 t.attrs.length c3, .slice a4 t.kids.length c4]] w fun e w' => e = .returned (.bool (okN n t && !voidB t.name)) ∧ Below w.heap.size w w' := by
  refine calls_via ?_
  intro Q HQ
  have hA : Below w.heap.size w ((w.alloc (.cells #[.int .i64 t.kind, .slice a1 t.name.length c1, .slice a2 t.text.length c2, .slice a3 t.attrs.length c3, .slice a4 t.kids.length c4] 38)).alloc (.cells vs0 85)) := bstep ((Below.refl _ _).alloc (Nat.le_refl _) _) ((Below.refl _ _).alloc (Nat.le_refl _) _)
  have l0 := (Loc.made w #[.int .i64 t.kind, .slice a1 t.name.length c1, .slice a2 t.text.length c2, .slice a3 t.attrs.length c3, .slice a4 t.kids.length c4] 38).alloc (.cells vs0 85)
  have l1 := Loc.made (w.alloc (.cells #[.int .i64 t.kind, .slice a1 t.name.length c1, .slice a2 t.text.length c2, .slice a3 t.attrs.length c3, .slice a4 t.kids.length c4] 38)) vs0 85
  simp only [World.size_alloc] at l1
  have HN := hide (nodeI_any n _ _ _ _ _ _ t (hN.keep hA) hsz)
  have x0 := l0.cell 0
  have x1 := l0.cell 1
  have x2 := l0.cell 2
  have x3 := l0.cell 3
  have x4 := l0.cell 4
  have HX := hide (And.intro hA (And.intro l0 (And.intro l1 h1)))
  clear hA l0 l1 hN h1
  unfold vs0 at *
  go_enter Tryz.func30, Tryz.ntmps30
  go_wp2_with fail
  refine (unhide HN).mono ?_
  rintro e w2 ⟨rfl, hb2⟩
  obtain ⟨hA, l0, l1, h1⟩ := unhide HX
  have m0 := l0.all hb2
  have m1 := l1.all hb2
  have hA2 := bstep hA hb2
  have hm1 := m1.lt
  clear HX HN hA l0 l1 hb2 x0 x1 x2 x3 x4
  cases ho : okN n t with
  | false =>
    have HE := hide (unhide HQ (.returned (.bool false)) w2 ⟨by rw [ho]; rfl, hA2⟩)
    clear HQ hA2 m0 m1 h1
    go_wp2_with fail
    exact unhide HE
  | true =>
    have hbt : ∀ w', Frm w2 w' [w.heap.size + 1] → Byt w' (.slice a1 t.name.length c1) t.name := fun w' f => h1.keep (hA2.trans (f.below hA2.size (fun q hq => by have e9 : q = w.heap.size + 1 := (by simpa using hq); omega)))
    have HC := hide (has_any w2.heap.size (w.heap.size + 1) w2 _ t.name (.inl m1) (Nat.le_refl _) hbt)
    have hvv : decide (Void t.name) = voidB t.name := by
      cases hv : voidB t.name with
      | true => exact decide_eq_true ((voidB_iff _).1 hv)
      | false => exact decide_eq_false (fun e => by rw [(voidB_iff _).2 e] at hv; cases hv)
    rw [hvv] at HC
    have x1 := m0.cell 1
    have HQ2 := hide (fun w' f => unhide HQ (.returned (.bool (!voidB t.name))) w' ⟨by rw [ho]; rfl, hA2.trans ((show Frm w2 w' [w.heap.size + 1] from f).below hA2.size (fun q hq => by have e9 : q = w.heap.size + 1 := (by simpa using hq); omega))⟩)
    clear HQ hA2 m0 m1 h1 hbt hvv
    go_wp2_with fail
    refine (unhide HC).mono ?_
    rintro e w3 ⟨rfl, _, hf3⟩
    have HE := hide (unhide HQ2 w3 hf3)
    clear HQ2 HC hf3
    go_wp2_with fail
    exact unhide HE
/-- What impl.Fold answers. -/
def FoRM (w : World) (b : Bool) (R : List PlV) (e : Ending) (w' : World) : Prop := ∃ a c F, e = .returned (.tuple #[.agg #[.slice a R.length c], .bool b]) ∧ OwPlsM w' (.slice a R.length c) R F ∧ F.Nodup ∧ (∀ q ∈ F, w.heap.size ≤ q ∧ q < w'.heap.size) ∧ Below w.heap.size w w'
theorem FoRM.no {w w' : World} (h : Below w.heap.size w w') : FoRM w false [] (.returned (.tuple #[.agg #[.slice none 0 0], .bool false])) w' :=
  ⟨none, 0, [], rfl, ⟨[], [], rfl, rfl, fun i hi => (by cases hi), World.ownsRow_nil _ _ _ _, rfl⟩, List.nodup_nil, fun q hq => (by cases hq), h⟩
theorem root_text {n : Nat} {t : Tr (n + 1)} (h : okN n t = true) : t.kind = 0 ∧ t.text = [] := by
  obtain ⟨hk, ho⟩ := Bool.and_eq_true_iff.1 (show (decide (t.kind = 0) && (okT (n + 1) 1 t 120).1) = true from h)
  have hk := of_decide_eq_true hk
  refine ⟨hk, ?_⟩
  rw [okT_succ] at ho
  rw [if_neg (by decide), if_neg (by omega)] at ho
  by_cases h3 : elemB t = true
  · exact List.eq_nil_of_length_eq_zero ((elemB_iff _).1 h3).2.2.1
  · rw [if_neg h3] at ho; cases ho
theorem fold_forest (n : Nat) (w : World) (t : Tr (n + 1)) (a1 a2 a3 a4 a5 : Option Addr) (c1 c2 c3 c4 c5 : Nat) (ops : List OpV) (hrd : RdNode (n + 1) w [.int .i64 t.kind, .slice a1 t.name.length c1, .slice a2 t.text.length c2, .slice a3 t.attrs.length c3, .slice a4 t.kids.length c4] t) (h5 : RdOps w (.slice a5 ops.length c5) ops)
    (hN : okN n t = true) (hO : opsB ops = true) (hsz : szT (n + 1) t ≤ 2097152) (hG : Glo w) :
    Calls Tryz.prog 32 #[.agg #[.int .i64 t.kind, .slice a1 t.name.length c1, .slice a2 t.text.length c2, .slice a3 t.attrs.length c3, .slice a4 t.kids.length c4], .slice a5 ops.length c5] w fun e w' => ∃ g mb a c F B, e = .returned (.pointer (some ⟨g, 0, none⟩)) ∧ w.heap.size ≤ B ∧ FoS B w' g mb a c (foldW t ops) F ∧ Below w.heap.size w w' := by
  obtain ⟨r1, r2⟩ := root_text hN
  obtain ⟨kd, nm, tx, ats, ks⟩ : Nd (Tr n) := t
  obtain rfl : kd = 0 := r1
  obtain rfl : tx = [] := r2
  exact forestOf_any n w nm ats ks a1 a2 a3 a4 a5 c1 c2 c3 c4 c5 ops hrd h5 hN hO hsz hG
set_option maxHeartbeats 6400000 in
theorem foldI_any (n : Nat) (w : World) (t : Tr (n + 1)) (a1 a2 a3 a4 a5 : Option Addr) (c1 c2 c3 c4 c5 : Nat) (ops : List OpV) (hN : RdNode (n + 1) w [.int .i64 t.kind, .slice a1 t.name.length c1, .slice a2 t.text.length c2, .slice a3 t.attrs.length c3, .slice a4 t.kids.length c4] t) (h5 : RdOps w (.slice a5 ops.length c5) ops) (hsz : szT (n + 1) t ≤ 2097152) (hG : Glo w) :
    Calls Tryz.prog 9 #[.agg #[.int .i64 t.kind, .slice a1 t.name.length c1, .slice a2 t.text.length c2, .slice a3 t.attrs.length c3, .slice a4 t.kids.length c4], .slice a5 ops.length c5] w fun e w' => FoRM w (foldB t ops) (foldR t ops) e w' := by
  refine calls_via ?_
  intro Q HQ
  have h1 : Byt w (.slice a1 t.name.length c1) t.name := by obtain ⟨_, _, _, _, e, _, _, h, _⟩ := hN; cases e; exact h
  have hA : Below w.heap.size w ((w.alloc (.cells #[.int .i64 t.kind, .slice a1 t.name.length c1, .slice a2 t.text.length c2, .slice a3 t.attrs.length c3, .slice a4 t.kids.length c4] 38)).alloc (.cells #[.slice none 0 0] 32)) := bstep ((Below.refl _ _).alloc (Nat.le_refl _) _) ((Below.refl _ _).alloc (Nat.le_refl _) _)
  have l0 := (Loc.made w #[.int .i64 t.kind, .slice a1 t.name.length c1, .slice a2 t.text.length c2, .slice a3 t.attrs.length c3, .slice a4 t.kids.length c4] 38).alloc (.cells #[.slice none 0 0] 32)
  have l1 := Loc.made (w.alloc (.cells #[.int .i64 t.kind, .slice a1 t.name.length c1, .slice a2 t.text.length c2, .slice a3 t.attrs.length c3, .slice a4 t.kids.length c4] 38)) #[.slice none 0 0] 32
  simp only [World.size_alloc] at l1
  have HN := hide (rootOk_any n _ t a1 a2 a3 a4 c1 c2 c3 c4 (hN.keep hA) (h1.keep hA) hsz)
  have x0 := l0.cell 0
  have x1 := l0.cell 1
  have x2 := l0.cell 2
  have x3 := l0.cell 3
  have x4 := l0.cell 4
  obtain ⟨bb, hbb⟩ : ∃ bb, bb = (okN n t && !voidB t.name) := ⟨_, rfl⟩
  rw [← hbb] at HN
  have HBB := hide hbb
  have HX := hide (And.intro hA (And.intro l0 (And.intro l1 (And.intro hN (And.intro h5 hG)))))
  clear hA l0 l1 hN h1 h5 hG hbb
  go_enter Tryz.func9, Tryz.ntmps9
  go_wp2_with fail
  refine (unhide HN).mono ?_
  rintro e w2 ⟨rfl, hb2⟩
  obtain ⟨hA, l0, l1, hN, h5, hG⟩ := unhide HX
  have m0 := l0.all hb2
  have m1 := l1.all hb2
  have hA2 := bstep hA hb2
  clear HX HN hA l0 l1 hb2 x0 x1 x2 x3 x4
  cases bb with
  | false =>
    have hb := (unhide HBB).symm
    have hB : foldB t ops = false := by unfold foldB; rw [hb]; rfl
    have hR : foldR t ops = [] := by unfold foldR; rw [hB]; rfl
    have r0 := m1.cell 0
    have rf := m1.frozen 0
    have lX := m1.set 0 (.slice none 0 0)
    have fX := set_frm w2 (w.heap.size + 1) 0 (.slice none 0 0)
    have HE := hide (And.intro lX (unhide HQ (.returned (.tuple #[.agg #[.slice none 0 0], .bool false])) _ (by rw [hB, hR]; exact FoRM.no (hA2.trans (fX.below hA2.size (fun q hq => by have e9 : q = w.heap.size + 1 := (by simpa using hq); omega))))))
    clear HQ hA2 m0 m1 lX fX hN h5 hG hB hR hb HBB
    go_wp2_with fail
    have eX := (unhide HE).1.cell 0
    exact bodyPost_ret (v := .tuple #[.agg #[.slice none 0 0], .bool false]) (by simp [results, Tryz.results9, go_sem, eX]) rfl (unhide HE).2
  | true =>
    have hb := (unhide HBB).symm
    have HO := hide (opsI_any w2 _ ops (h5.keep hA2))
    have HY := hide (And.intro hA2 (And.intro m0 (And.intro m1 (And.intro hN (And.intro h5 (And.intro hG hb))))))
    clear hA2 m0 m1 hN h5 hG hb HBB
    go_wp2_with fail
    refine (unhide HO).mono ?_
    rintro e w3 ⟨rfl, hb3⟩
    obtain ⟨hA2, m0, m1, hN, h5, hG, hb⟩ := unhide HY
    have n0 := m0.all hb3
    have n1 := m1.all hb3
    have hA3 := bstep hA2 hb3
    clear HO HY hA2 m0 m1 hb3
    cases ho : opsB ops with
    | false =>
      have hB : foldB t ops = false := by unfold foldB; rw [ho]; simp
      have hR : foldR t ops = [] := by unfold foldR; rw [hB]; rfl
      have r0 := n1.cell 0
      have rf := n1.frozen 0
      have lX := n1.set 0 (.slice none 0 0)
      have fX := set_frm w3 (w.heap.size + 1) 0 (.slice none 0 0)
      have HE := hide (And.intro lX (unhide HQ (.returned (.tuple #[.agg #[.slice none 0 0], .bool false])) _ (by rw [hB, hR]; exact FoRM.no (hA3.trans (fX.below hA3.size (fun q hq => by have e9 : q = w.heap.size + 1 := (by simpa using hq); omega))))))
      clear HQ hA3 n0 n1 lX fX hN h5 hG hB hR hb
      go_wp2_with fail
      have eX := (unhide HE).1.cell 0
      exact bodyPost_ret (v := .tuple #[.agg #[.slice none 0 0], .bool false]) (by simp [results, Tryz.results9, go_sem, eX]) rfl (unhide HE).2
    | true =>
      have hB : foldB t ops = true := by unfold foldB; rw [hb, ho]; rfl
      have hR : foldR t ops = foldW t ops := by unfold foldR; rw [hB]; rfl
      have hNk : okN n t = true := by cases hq : okN n t with | true => rfl | false => rw [hq] at hb; cases hb
      have HC := hide (fold_forest n w3 t a1 a2 a3 a4 a5 c1 c2 c3 c4 c5 ops (hN.keep hA3) (h5.keep hA3) hNk ho hsz (hG.keep hA3))
      have y0 := n0.cell 0
      have y1 := n0.cell 1
      have y2 := n0.cell 2
      have y3 := n0.cell 3
      have y4 := n0.cell 4
      have HZ := hide (And.intro hA3 (And.intro n1 (And.intro hB hR)))
      clear hA3 n0 n1 hN h5 hG hB hR hb ho hNk
      go_wp2_with fail
      refine (unhide HC).mono ?_
      rintro e w4 ⟨g, mb, a, c, F, B, rfl, hBw, hs, hb4⟩
      obtain ⟨hA3, n1, hB, hR⟩ := unhide HZ
      obtain ⟨cs, lg, hc0, _⟩ := hs.set.loc
      have g0 : w4.cell? ⟨g, 0, none⟩ = some (.slice a (foldW t ops).length c) := (lg.cell 0).trans hc0
      have o1 := n1.all hb4
      have hA4 := bstep hA3 hb4
      have hr1 := n1.lt
      have r0 := o1.cell 0
      have rf := o1.frozen 0
      have lX := o1.set 0 (.slice a (foldW t ops).length c)
      have fX := set_frm w4 (w.heap.size + 1) 0 (.slice a (foldW t ops).length c)
      have hlt := OwPlsM.lt hs.row
      have hs9 := hA3.size
      have hsX := fX.size
      have HE := hide (And.intro lX (unhide HQ (.returned (.tuple #[.agg #[.slice a (foldW t ops).length c], .bool true])) _ (by
        rw [hB, hR]
        exact ⟨a, c, F, rfl, hs.row.frm fX (fun q hq e => by have e9 : q = w.heap.size + 1 := (by simpa using e); have := hs.ge q hq; omega), hs.nd, fun q hq => ⟨by have := hs.ge q hq; omega, by have := hlt q hq; omega⟩, hA4.trans (fX.below hA4.size (fun q hq => by have e9 : q = w.heap.size + 1 := (by simpa using hq); omega))⟩)))
      clear HQ HC HZ hs lg hc0 o1 hA4 lX fX hlt hA3 n1 hB hR
      generalize (foldW t ops).length = nn at *
      go_wp2_with fail
      have eX := (unhide HE).1.cell 0
      exact bodyPost_ret (v := .tuple #[.agg #[.slice a nn c], .bool true]) (by simp [results, Tryz.results9, go_sem, eX]) rfl (unhide HE).2
end Go.Proofs.YtnfafchajjclaaaGreatDoor

/- The law's own helpers that write a count into a row of bytes and look for it again, by their contracts. -/
namespace Go.Proofs.YtnfafchajjclaaaGreatDoor
open Go.RowKit
set_option linter.unusedVariables false

/-- n bytes that count on from k. -/
def markz (k : Int) (n : Nat) : List Int := (List.range n).map fun i : Nat => k + (i : Int)
theorem markz_len (k : Int) (n : Nat) : (markz k n).length = n := by simp [markz]
theorem markz_ok (k : Int) (n : Nat) (h0 : 0 ≤ k) (h1 : k + (n : Int) ≤ 9223372036854775807) : okZ (markz k n) := fun x hx => by
  obtain ⟨i, hi, rfl⟩ := List.mem_map.1 hx
  have := List.mem_range.1 hi
  omega
theorem markz_at (k : Int) (n i : Nat) (h : i < n) : (markz k n).getD i 0 = k + (i : Int) := by simp [markz, h]
theorem markz_step (k : Int) (l : List Int) (j : Nat) (h : j < l.length) : (valz (markz k j ++ l.drop j)).set j (.int .i64 (k + (j : Int))) = valz (markz k (j + 1) ++ l.drop (j + 1)) := by
  have e : markz k (j + 1) = markz k j ++ [k + (j : Int)] := by simp [markz, List.range_succ]
  have hl : (valz (markz k j)).length = j := by simp [valz, markz_len]
  rw [valz_app, List.set_append_right _ _ (by omega), hl, Nat.sub_self, e, List.drop_eq_getElem_cons h, valz_app, valz_app, List.append_assoc]
  rfl

theorem markZ_nil (w : World) (a : Option Addr) (cap : Nat) (k : Int) :
    Calls Tryz.prog 41 #[.slice a 0 cap, .int .i64 k] w fun e w' => e = .returned (.int .i64 k) ∧ w' = w := by
  go_enter Tryz.func41, Tryz.ntmps41
  go_wp2
  refine wp_loop_rounds 1 ?_
  rw [rounds_succ]
  go_wp2
  go_ret
  exact ⟨rfl, rfl⟩

set_option maxHeartbeats 1600000 in
set_option maxRecDepth 1000000 in
theorem markZ_row (w : World) (base g cap : Nat) (l : List Int) (k : Int) (hw : w.ownsRow base 3 1 (.slice (some ⟨g, 0, none⟩) l.length cap) l.length (valz l)) (hs : l.length ≤ 16777216) (h0 : 0 ≤ k) (h1 : k ≤ 1000000000) :
    Calls Tryz.prog 41 #[.slice (some ⟨g, 0, none⟩) l.length cap, .int .i64 k] w fun e w' => e = .returned (.int .i64 (k + l.length)) ∧
      w'.ownsRow base 3 1 (.slice (some ⟨g, 0, none⟩) l.length cap) l.length (valz (markz k l.length)) ∧ w.grownBy w' (some g) := by
  generalize hn : l.length = n at *
  have HN := hide hn
  clear hn
  go_enter Tryz.func41, Tryz.ntmps41
  go_wp2
  go_loopw [1, 5] (fun c i wr => ∃ j : Nat, j ≤ n ∧ i = .int .i64 j ∧ c = .int .i64 (k + (j : Int)) ∧ wr.ownsRow base 3 1 (.slice (some ⟨g, 0, none⟩) n cap) n (valz (markz k j ++ l.drop j)) ∧ w.grownBy wr (some g)) (fun _ i _ => n - (intOf i).toNat)
  case atStart => exact ⟨0, Nat.zero_le _, rfl, by simp, by simpa [markz] using hw, World.grownBy.refl _ _⟩
  case round =>
    obtain ⟨j, hj, rfl, rfl, hr, hg⟩ := hrel
    by_cases hlt : j < n
    · have hlen := unhide HN
      have hjl : j < l.length := by omega
      obtain ⟨y, hy⟩ : ∃ y, wr.cell? ⟨g, j, none⟩ = some (.int .i64 y) := ⟨(markz k j ++ l.drop j).getD j 0, by rw [hr.cellAt j (by omega), valz_at (by simp [markz_len]; omega)]⟩
      have hfr := hr.frozenAt j
      have hst := hr.stored j (.int .i64 (k + (j : Int)))
      rw [markz_step k l j hjl] at hst
      have HS := hide hst
      clear hst hr hlen
      have hlt' : (j : Int) < (n : Int) := by omega
      go_wp2
      have R := unhide HS
      go_roundw
      case rel => exact ⟨j + 1, by omega, by go_num, by go_num, R.1, grown_trans hg R.2⟩
      case measure => simp [intOf]; omega
    · have e : j = n := by omega
      subst e
      have hr' : wr.ownsRow base 3 1 (.slice (some ⟨g, 0, none⟩) j cap) j (valz (markz k j)) := by
        have := unhide HN
        rw [List.drop_of_length_le (by omega), List.append_nil] at hr
        exact hr
      clear hr
      go_wp2
      go_ret
      exact ⟨rfl, hr', hg⟩

theorem markZ_any (w : World) (base : Nat) (v : Value) (l : List Int) (k : Int) (h : OwnZ w base v l) (hs : l.length ≤ 16777216) (h0 : 0 ≤ k) (h1 : k ≤ 1000000000) :
    Calls Tryz.prog 41 #[v, .int .i64 k] w fun e w' => e = .returned (.int .i64 (k + l.length)) ∧ OwnZ w' base v (markz k l.length) ∧ w.grownBy w' v.ownBlock := by
  obtain ⟨hok, hlen, ⟨rfl, hz⟩ | ⟨g, cap, cur, rfl, hr⟩⟩ := h
  · have e : l = [] := List.eq_nil_of_length_eq_zero hz
    subst e
    refine (markZ_nil w none 0 k).mono ?_
    rintro e w' ⟨rfl, rfl⟩
    exact ⟨by simp, ⟨markz_ok _ _ h0 (by first | omega | (simp; omega)), World.ownsRow_nil _ _ _ _⟩, World.grownBy.refl _ _⟩
  · refine (markZ_row w base g cap l k ⟨hlen, .inr ⟨g, cap, cur, rfl, hr⟩⟩ hs h0 h1).mono ?_
    rintro e w' ⟨rfl, ho, hg⟩
    refine ⟨rfl, ⟨markz_ok _ _ h0 (by first | omega | (simp; omega)), ?_⟩, hg⟩
    rw [markz_len]
    exact ho

theorem heldZ_nil (w : World) (a : Option Addr) (cap : Nat) (k : Int) :
    Calls Tryz.prog 69 #[.slice a 0 cap, .int .i64 k] w fun e w' => e = .returned (.int .i64 k) ∧ w' = w := by
  go_enter Tryz.func69, Tryz.ntmps69
  go_wp2
  refine wp_loop_rounds 1 ?_
  rw [rounds_succ]
  go_wp2
  go_ret
  exact ⟨rfl, rfl⟩

set_option maxHeartbeats 1600000 in
set_option maxRecDepth 1000000 in
theorem heldZ_row (w : World) (b off cap n : Nat) (k : Int) (hc : ∀ i, i < n → w.cell? ⟨b, off + i, none⟩ = some (.int .i64 ((markz k n).getD i 0))) (hs : n ≤ 16777216) (h0 : 0 ≤ k) (h1 : k ≤ 1000000000) :
    Calls Tryz.prog 69 #[.slice (some ⟨b, off, none⟩) n cap, .int .i64 k] w fun e w' => e = .returned (.int .i64 (k + n)) ∧ w' = w := by
  go_enter Tryz.func69, Tryz.ntmps69
  go_wp2
  go_loop [1, 5] (fun c i => ∃ j : Nat, j ≤ n ∧ i = .int .i64 j ∧ c = .int .i64 (k + (j : Int))) (fun _ i => n - (intOf i).toNat)
  case atStart => exact ⟨0, Nat.zero_le _, rfl, by simp⟩
  case round =>
    obtain ⟨j, hj, rfl, rfl⟩ := hrel
    by_cases hlt : j < n
    · have c1 := hc j hlt
      rw [markz_at k n j hlt] at c1
      clear hc
      have hlt' : (j : Int) < (n : Int) := by omega
      go_wp2
      go_round
      case rel => exact ⟨j + 1, by omega, by go_num, by go_num⟩
      case measure => simp [intOf]; omega
    · have e : j = n := by omega
      subst e
      clear hc
      go_wp2
      go_ret
      exact ⟨rfl, rfl⟩

theorem heldZ_any (w : World) (v : Value) (n : Nat) (k : Int) (h : Ints w v (markz k n)) (hs : n ≤ 16777216) (h0 : 0 ≤ k) (h1 : k ≤ 1000000000) :
    Calls Tryz.prog 69 #[v, .int .i64 k] w fun e w' => e = .returned (.int .i64 (k + n)) ∧ w' = w := by
  obtain ⟨_, _, ⟨rfl, hn⟩ | ⟨x, cap, rfl, hc, hn⟩ | ⟨b, off, cap, rfl, _, _, _, _, h5⟩⟩ := h
  · have e : n = 0 := by have := congrArg List.length hn; rw [markz_len] at this; exact this
    subst e
    refine (heldZ_nil w none 0 k).mono ?_
    rintro e w' ⟨rfl, rfl⟩
    exact ⟨by simp, rfl⟩
  · have e : n = 0 := by have := congrArg List.length hn; rw [markz_len] at this; exact this
    subst e
    refine (heldZ_nil w (some x) cap k).mono ?_
    rintro e w' ⟨rfl, rfl⟩
    exact ⟨by simp, rfl⟩
  · rw [markz_len] at h5 ⊢
    exact heldZ_row w b off cap n k h5 hs h0 h1

end Go.Proofs.YtnfafchajjclaaaGreatDoor
