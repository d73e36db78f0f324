/- Operations as rows of bytes, in plain mathematics: what was put is got. -/
import Derived.Test.YtjannojebngoeabOpS
import Derived.Test.YtjannojebngoeabBackM
namespace Go.Proofs.Ytjannojebngoeab
set_option linter.unusedVariables false

/-- What lies at the place p of l and behind it is r. -/
def At (l : List Int) (p : Nat) (r : List Int) : Prop := p ≤ l.length ∧ l.drop p = r

theorem At.skip {l a r : List Int} {p : Nat} (h : At l p (a ++ r)) : At l (p + a.length) r := by
  obtain ⟨h1, h2⟩ := h
  have hl : l.length - p = a.length + r.length := by rw [← List.length_drop, h2, List.length_append]
  refine ⟨by omega, ?_⟩
  rw [← List.drop_drop, h2, List.drop_left]

theorem num_at {l r : List Int} {p : Nat} {n : Int} (h : At l p (putN n ++ r)) (h0 : 0 ≤ n) (h1 : n ≤ 2147483647) : ∃ q : Nat, getN l (p : Int) = (n, (q : Int)) ∧ At l q r := by
  refine ⟨p + (putN n).length, ?_, h.skip⟩
  rw [getN_some (n := n) (k := (putN n).length)]
  · simp
  · rw [h.2]; exact num_back h0 h1 r

theorem text_at {l r t : List Int} {p : Nat} (h : At l p (putN t.length ++ (t ++ r))) (ht : t.length ≤ 30) : ∃ q : Nat, getT l (p : Int) = (t, (q : Int)) ∧ At l q r := by
  obtain ⟨q, e, hq⟩ := num_at h (by omega) (by omega)
  have hs := hq.skip
  refine ⟨q + t.length, ?_, hs⟩
  rw [getT_in e ht hs.1, hq.2, List.take_left]
  simp

theorem text_end {l t : List Int} {p : Nat} (h : At l p (putN t.length ++ t)) (ht : t.length ≤ 30) : ∃ q : Nat, getT l (p : Int) = (t, (q : Int)) ∧ At l q [] :=
  text_at (r := []) (by rw [List.append_nil]; exact h) ht

/-- The numbers of k, one behind the other. -/
def putNs (l : List Int) : List Int → List Int
  | [] => l
  | x :: k => putNs (putAll l x) k
def putId (l : List Int) (n r : Int) : List Int := putAll (putAll l n) r
def putKey (l k : List Int) : List Int := putNs (putAll l k.length) k
def opHd (o : OpV) : List Int := putId (putAll [] o.kind) o.atN o.atR
def opBytes (o : OpV) : List Int :=
  if o.kind = 0 then putT (putT (putAll (putKey (putId (opHd o) o.parN o.parR) o.key) o.elem) o.name) o.text
  else if o.kind = 1 then putKey (putId (putId (opHd o) o.nodeN o.nodeR) o.parN o.parR) o.key
  else if o.kind = 2 then putT (putId (opHd o) o.nodeN o.nodeR) o.text
  else if o.gone then putAll (putT (putId (opHd o) o.nodeN o.nodeR) o.name) 1
  else putT (putAll (putT (putId (opHd o) o.nodeN o.nodeR) o.name) 0) o.text

def inR (n : Int) : Prop := 0 ≤ n ∧ n ≤ 2147483647
def keyR (k : List Int) : Prop := k.length ≤ 12 ∧ ∀ x ∈ k, inR x

def flatN : List Int → List Int
  | [] => []
  | x :: k => putN x ++ flatN k

theorem putNs_in {k : List Int} (h : ∀ x ∈ k, inR x) (l : List Int) : putNs l k = l ++ flatN k := by
  induction k generalizing l with
  | nil => simp [putNs, flatN]
  | cons x k ih =>
    have hx := h x (by simp)
    rw [putNs, putAll_in hx.1 hx.2, ih (fun y hy => h y (by simp [hy])), flatN, List.append_assoc]
theorem putId_in {n r : Int} (hn : inR n) (hr : inR r) (l : List Int) : putId l n r = l ++ (putN n ++ putN r) := by
  rw [putId, putAll_in hr.1 hr.2, putAll_in hn.1 hn.2, List.append_assoc]
theorem putKey_in {k : List Int} (h : keyR k) (l : List Int) : putKey l k = l ++ (putN k.length ++ flatN k) := by
  rw [putKey, putNs_in h.2, putAll_in (by omega) (by have := h.1; omega), List.append_assoc]
theorem putT_in' {t : List Int} (h : t.length ≤ 30) (l : List Int) : putT l t = l ++ (putN t.length ++ t) := by
  rw [putT_in (by omega), List.append_assoc]
theorem putAll_in' {n : Int} (h : inR n) (l : List Int) : putAll l n = l ++ putN n := putAll_in h.1 h.2

/-- What an operation that may be has. -/
theorem opB_facts {o : OpV} (h : opB o = true) :
    (inR o.atN ∧ inR o.atR) ∧ o.text.length ≤ 30 ∧
    ((o.kind = 0 ∧ (o.nodeN = 0 ∧ o.nodeR = 0) ∧ (inR o.parN ∧ inR o.parR) ∧ keyR o.key ∧ inR o.elem ∧ o.name.length ≤ 30 ∧ o.gone = false) ∨
     (o.kind = 1 ∧ (inR o.nodeN ∧ inR o.nodeR) ∧ (inR o.parN ∧ inR o.parR) ∧ keyR o.key ∧ o.elem = 0 ∧ o.name = [] ∧ o.text = [] ∧ o.gone = false) ∨
     (o.kind = 2 ∧ (inR o.nodeN ∧ inR o.nodeR) ∧ (o.parN = 0 ∧ o.parR = 0) ∧ o.key = [] ∧ o.elem = 0 ∧ o.name = [] ∧ o.gone = false) ∨
     (o.kind = 3 ∧ (inR o.nodeN ∧ inR o.nodeR) ∧ (o.parN = 0 ∧ o.parR = 0) ∧ o.key = [] ∧ o.elem = 0 ∧ o.name.length ≤ 30 ∧ (o.gone = true → o.text = []))) := by
  have idF : ∀ n r, idB n r = true → inR n ∧ inR r := by
    intro n r hi
    unfold idB at hi
    unfold inR
    simp only [Bool.and_eq_true, Bool.or_eq_true, decide_eq_true_eq] at hi
    omega
  have zF : ∀ n r, zeroB n r = true → n = 0 ∧ r = 0 := by
    intro n r hi
    unfold zeroB at hi
    simpa using hi
  have kF : ∀ k, keyB k = true → keyR k := by
    intro k hk
    obtain ⟨h1, h2, h3, h4⟩ := (keyB_iff k).1 hk
    refine ⟨h2, fun x hx => ?_⟩
    obtain ⟨i, hi, rfl⟩ := List.getElem_of_mem hx
    have := h4 i hi
    unfold keyCh at this
    unfold inR
    rw [getD_at hi] at this
    omega
  have nF : ∀ k, nameB k = true → k.length ≤ 30 := by
    intro k hk
    obtain ⟨h1, h2, h3⟩ := (nameB_iff k).1 hk
    omega
  have l0 : ∀ k : List Int, ((k.length : Int) == 0) = true → k = [] := by
    intro k hk
    simp at hk
    exact hk
  have hh : opHeadB o = false := by
    cases hc : opHeadB o
    · rfl
    · unfold opB at h; rw [hc] at h; simp at h
  unfold opB at h
  rw [hh] at h
  unfold opHeadB at hh
  simp only [Bool.or_eq_false_iff, decide_eq_false_iff_not, Bool.not_eq_false'] at hh
  obtain ⟨q1, q2, q3, q4, q5, q6, q7⟩ := hh
  have ht := ((textB_iff _).1 q7).1
  refine ⟨⟨⟨by omega, by omega⟩, ⟨by omega, by omega⟩⟩, ht, ?_⟩
  simp only [Bool.false_eq_true, if_false] at h
  by_cases k0 : o.kind = 0
  · left
    rw [if_pos (by simp [k0])] at h
    unfold opNewB at h
    by_cases hc : (!zeroB o.nodeN o.nodeR || (!idB o.parN o.parR || (!keyB o.key || o.gone))) = true
    · rw [if_pos hc] at h; cases h
    rw [if_neg hc] at h
    simp only [Bool.or_eq_true, not_or, Bool.not_eq_true', Bool.not_eq_false, Bool.not_eq_true] at hc
    obtain ⟨c1, c2, c3, c4⟩ := hc
    refine ⟨k0, zF _ _ c1, idF _ _ c2, kF _ c3, ?_⟩
    by_cases e1 : o.elem = 1
    · rw [if_pos (by simp [e1])] at h
      exact ⟨⟨by omega, by omega⟩, by rw [l0 _ h]; simp, c4⟩
    · rw [if_neg (by simp [e1])] at h
      simp only [Bool.and_eq_true] at h
      have e0 : o.elem = 0 := by simpa using h.1
      exact ⟨⟨by omega, by omega⟩, nF _ h.2.1, c4⟩
  · right
    rw [if_neg (by simp [k0])] at h
    by_cases k1 : o.kind = 1
    · left
      rw [if_pos (by simp [k1])] at h
      unfold opMoveB at h
      simp only [Bool.and_eq_true, Bool.not_eq_true'] at h
      obtain ⟨c1, c2, c3, c4, c5, c6, c7⟩ := h
      exact ⟨k1, idF _ _ c1, idF _ _ c2, kF _ c3, by simpa using c4, l0 _ c5, l0 _ c6, c7⟩
    · right
      rw [if_neg (by simp [k1])] at h
      unfold opRestB at h
      by_cases hc : (!idB o.nodeN o.nodeR || (!zeroB o.parN o.parR || (decide (0 < (o.key.length : Int)) || !(o.elem == 0)))) = true
      · rw [if_pos hc] at h; cases h
      rw [if_neg hc] at h
      simp only [Bool.or_eq_true, not_or, Bool.not_eq_true', Bool.not_eq_false, decide_eq_true_eq] at hc
      obtain ⟨c1, c2, c3, c4⟩ := hc
      have ck : o.key = [] := List.eq_nil_of_length_eq_zero (by omega)
      have ce : o.elem = 0 := by simpa using c4
      by_cases k2 : o.kind = 2
      · left
        rw [if_pos (by simp [k2])] at h
        simp only [Bool.and_eq_true, Bool.not_eq_true'] at h
        exact ⟨k2, idF _ _ c1, zF _ _ c2, ck, ce, l0 _ h.1, h.2⟩
      · right
        rw [if_neg (by simp [k2])] at h
        simp only [Bool.and_eq_true, Bool.or_eq_true, Bool.not_eq_true'] at h
        refine ⟨by omega, idF _ _ c1, zF _ _ c2, ck, ce, nF _ h.1, fun hg => ?_⟩
        rcases h.2 with h' | h'
        · rw [hg] at h'; cases h'
        · exact l0 _ h'

def rdId (l : List Int) (p : Int) : (Int × Int) × Int := (((getN l p).1, (getN l (getN l p).2).1), (getN l (getN l p).2).2)
/-- n numbers, whatever is there. -/
def rdMany (l : List Int) : Nat → Int → List Int × Int
  | 0, p => ([], p)
  | n + 1, p => ((getN l p).1 :: (rdMany l n (getN l p).2).1, (rdMany l n (getN l p).2).2)
/-- At most n numbers, as long as something is there. -/
def rdSome (l : List Int) : Nat → Int → List Int × Int
  | 0, p => ([], p)
  | n + 1, p => if p < 0 then ([], p) else ((getN l p).1 :: (rdSome l n (getN l p).2).1, (rdSome l n (getN l p).2).2)
def rdKeyI (l : List Int) (p : Int) : List Int × Int := rdMany l (min (getN l p).1 12).toNat (getN l p).2
def rdKeyS (l : List Int) (p : Int) : List Int × Int := rdSome l (min (getN l p).1 13).toNat (getN l p).2

theorem id_at {l r : List Int} {p : Nat} {n m : Int} (h : At l p (putN n ++ (putN m ++ r))) (h0 : inR n) (h1 : inR m) : ∃ q : Nat, rdId l (p : Int) = ((n, m), (q : Int)) ∧ At l q r := by
  obtain ⟨q, e, hq⟩ := num_at h h0.1 h0.2
  obtain ⟨q', e', hq'⟩ := num_at hq h1.1 h1.2
  refine ⟨q', ?_, hq'⟩
  unfold rdId
  rw [e, e']
theorem many_at {l r k : List Int} {p : Nat} (h : At l p (flatN k ++ r)) (hk : ∀ x ∈ k, inR x) : ∃ q : Nat, rdMany l k.length (p : Int) = (k, (q : Int)) ∧ At l q r := by
  induction k generalizing p with
  | nil => exact ⟨p, rfl, h⟩
  | cons x k ih =>
    rw [flatN, List.append_assoc] at h
    have hx := hk x (by simp)
    obtain ⟨q, e, hq⟩ := num_at h hx.1 hx.2
    obtain ⟨q', e', hq'⟩ := ih hq (fun y hy => hk y (by simp [hy]))
    refine ⟨q', ?_, hq'⟩
    rw [List.length_cons, rdMany, e, e']
theorem some_at {l r k : List Int} {p : Nat} (h : At l p (flatN k ++ r)) (hk : ∀ x ∈ k, inR x) : ∃ q : Nat, rdSome l k.length (p : Int) = (k, (q : Int)) ∧ At l q r := by
  induction k generalizing p with
  | nil => exact ⟨p, rfl, h⟩
  | cons x k ih =>
    rw [flatN, List.append_assoc] at h
    have hx := hk x (by simp)
    obtain ⟨q, e, hq⟩ := num_at h hx.1 hx.2
    obtain ⟨q', e', hq'⟩ := ih hq (fun y hy => hk y (by simp [hy]))
    refine ⟨q', ?_, hq'⟩
    rw [List.length_cons, rdSome, if_neg (by omega), e, e']

/-- A reader of keys that gets what was put. -/
def KeyBack (K : List Int → Int → List Int × Int) : Prop := ∀ (l r k : List Int) (p : Nat), At l p (putN k.length ++ (flatN k ++ r)) → keyR k → ∃ q : Nat, K l (p : Int) = (k, (q : Int)) ∧ At l q r
theorem keyI_back : KeyBack rdKeyI := by
  intro l r k p h hk
  have h12 := hk.1
  obtain ⟨q, e, hq⟩ := num_at h (by omega) (by omega)
  unfold rdKeyI
  rw [e]
  have em : (min (k.length : Int) 12).toNat = k.length := by omega
  simp only [em]
  exact many_at hq hk.2
theorem keyS_back : KeyBack rdKeyS := by
  intro l r k p h hk
  have h12 := hk.1
  obtain ⟨q, e, hq⟩ := num_at h (by omega) (by omega)
  unfold rdKeyS
  rw [e]
  have em : (min (k.length : Int) 13).toNat = k.length := by omega
  simp only [em]
  exact some_at hq hk.2

/-- The parts behind the stamp, by kind, from the place p on. -/
def rdRest (K : List Int → Int → List Int × Int) (l : List Int) (k n r p : Int) : OpV × Int :=
  if k = 0 then (⟨k, n, r, 0, 0, (rdId l p).1.1, (rdId l p).1.2, (K l (rdId l p).2).1, (getN l (K l (rdId l p).2).2).1, (getT l (getN l (K l (rdId l p).2).2).2).1, (getT l (getT l (getN l (K l (rdId l p).2).2).2).2).1, false⟩, (getT l (getT l (getN l (K l (rdId l p).2).2).2).2).2)
  else if k = 1 then (⟨k, n, r, (rdId l p).1.1, (rdId l p).1.2, (rdId l (rdId l p).2).1.1, (rdId l (rdId l p).2).1.2, (K l (rdId l (rdId l p).2).2).1, 0, [], [], false⟩, (K l (rdId l (rdId l p).2).2).2)
  else if k = 2 then (⟨k, n, r, (rdId l p).1.1, (rdId l p).1.2, 0, 0, [], 0, [], (getT l (rdId l p).2).1, false⟩, (getT l (rdId l p).2).2)
  else if k = 3 then
    if (getN l (getT l (rdId l p).2).2).1 = 1 then (⟨k, n, r, (rdId l p).1.1, (rdId l p).1.2, 0, 0, [], 0, (getT l (rdId l p).2).1, [], true⟩, (getN l (getT l (rdId l p).2).2).2)
    else (⟨k, n, r, (rdId l p).1.1, (rdId l p).1.2, 0, 0, [], 0, (getT l (rdId l p).2).1, (getT l (getN l (getT l (rdId l p).2).2).2).1, false⟩, (getT l (getN l (getT l (rdId l p).2).2).2).2)
  else (⟨k, n, r, 0, 0, 0, 0, [], 0, [], [], false⟩, p)
def opRd (K : List Int → Int → List Int × Int) (l : List Int) : OpV × Int := rdRest K l (getN l 0).1 (rdId l (getN l 0).2).1.1 (rdId l (getN l 0).2).1.2 (rdId l (getN l 0).2).2

theorem opRd_back {K : List Int → Int → List Int × Int} (hK : KeyBack K) (o : OpV) (h : opB o = true) : opRd K (opBytes o) = (o, ((opBytes o).length : Int)) := by
  obtain ⟨⟨a1, a2⟩, ht, hc⟩ := opB_facts h
  obtain ⟨l, hl⟩ : ∃ l, l = opBytes o := ⟨_, rfl⟩
  rw [← hl]
  have hst : At l 0 l := ⟨by omega, rfl⟩
  have hend : ∀ q : Nat, At l q [] → (q : Int) = (l.length : Int) := by
    intro q ⟨h1, h2⟩
    have := List.length_drop (i := q) (l := l)
    rw [h2, List.length_nil] at this
    omega
  obtain ⟨kind, atN, atR, nodeN, nodeR, parN, parR, key, elem, name, text, gone⟩ := o
  unfold opBytes opHd at hl
  unfold opRd rdRest
  simp only at *
  rcases hc with ⟨rfl, ⟨rfl, rfl⟩, ⟨c1, c2⟩, ck, ce, cn, rfl⟩ | ⟨rfl, ⟨n1, n2⟩, ⟨c1, c2⟩, ck, rfl, rfl, rfl, rfl⟩ | ⟨rfl, ⟨n1, n2⟩, ⟨rfl, rfl⟩, rfl, rfl, rfl, rfl⟩ | ⟨rfl, ⟨n1, n2⟩, ⟨rfl, rfl⟩, rfl, rfl, cn, cg⟩
  · rw [if_pos rfl, putT_in' ht, putT_in' cn, putAll_in' ce, putKey_in ck, putId_in c1 c2, putId_in a1 a2, putAll_in' (show inR 0 from ⟨by decide, by decide⟩)] at hl
    simp only [List.nil_append, List.append_assoc] at hl
    conv at hst => arg 3; rw [hl]
    obtain ⟨q0, e0, h0⟩ := num_at hst (by decide) (by decide)
    obtain ⟨q1, e1, h1⟩ := id_at h0 a1 a2
    obtain ⟨q2, e2, h2⟩ := id_at h1 c1 c2
    obtain ⟨q3, e3, h3⟩ := hK _ _ _ _ h2 ck
    obtain ⟨q4, e4, h4⟩ := num_at h3 ce.1 ce.2
    obtain ⟨q5, e5, h5⟩ := text_at h4 cn
    obtain ⟨q6, e6, h6⟩ := text_end h5 ht
    have e0' : getN l 0 = (0, (q0 : Int)) := e0
    simp only [e0', e1, e2, e3, e4, e5, e6, hend _ h6, if_true]
  · rw [if_neg (by decide), if_pos rfl, putKey_in ck, putId_in c1 c2, putId_in n1 n2, putId_in a1 a2, putAll_in' (show inR 1 from ⟨by decide, by decide⟩)] at hl
    simp only [List.nil_append, List.append_assoc] at hl
    conv at hst => arg 3; rw [hl, ← List.append_nil (flatN key)]
    obtain ⟨q0, e0, h0⟩ := num_at hst (by decide) (by decide)
    obtain ⟨q1, e1, h1⟩ := id_at h0 a1 a2
    obtain ⟨q2, e2, h2⟩ := id_at h1 n1 n2
    obtain ⟨q3, e3, h3⟩ := id_at h2 c1 c2
    obtain ⟨q4, e4, h4⟩ := hK _ _ _ _ h3 ck
    have e0' : getN l 0 = (1, (q0 : Int)) := e0
    simp only [e0', e1, e2, e3, e4, hend _ h4, if_true]
    rw [if_neg (by decide)]
  · rw [if_neg (by decide), if_neg (by decide), if_pos rfl, putT_in' ht, putId_in n1 n2, putId_in a1 a2, putAll_in' (show inR 2 from ⟨by decide, by decide⟩)] at hl
    simp only [List.nil_append, List.append_assoc] at hl
    conv at hst => arg 3; rw [hl]
    obtain ⟨q0, e0, h0⟩ := num_at hst (by decide) (by decide)
    obtain ⟨q1, e1, h1⟩ := id_at h0 a1 a2
    obtain ⟨q2, e2, h2⟩ := id_at h1 n1 n2
    obtain ⟨q3, e3, h3⟩ := text_end h2 ht
    have e0' : getN l 0 = (2, (q0 : Int)) := e0
    simp only [e0', e1, e2, e3, hend _ h3, if_true]
    rw [if_neg (by decide), if_neg (by decide)]
  · rw [if_neg (by decide), if_neg (by decide), if_neg (by decide)] at hl
    cases gone
    · rw [if_neg (by decide), putT_in' ht, putAll_in' (show inR 0 from ⟨by decide, by decide⟩), putT_in' cn, putId_in n1 n2, putId_in a1 a2, putAll_in' (show inR 3 from ⟨by decide, by decide⟩)] at hl
      simp only [List.nil_append, List.append_assoc] at hl
      conv at hst => arg 3; rw [hl]
      obtain ⟨q0, e0, h0⟩ := num_at hst (by decide) (by decide)
      obtain ⟨q1, e1, h1⟩ := id_at h0 a1 a2
      obtain ⟨q2, e2, h2⟩ := id_at h1 n1 n2
      obtain ⟨q3, e3, h3⟩ := text_at h2 cn
      obtain ⟨q4, e4, h4⟩ := num_at h3 (by decide) (by decide)
      obtain ⟨q5, e5, h5⟩ := text_end h4 ht
      have e0' : getN l 0 = (3, (q0 : Int)) := e0
      simp only [e0', e1, e2, e3, e4, e5, hend _ h5, if_true]
      rw [if_neg (by decide), if_neg (by decide), if_neg (by decide), if_neg (by decide)]
    · obtain rfl := cg rfl
      rw [if_pos rfl, putAll_in' (show inR 1 from ⟨by decide, by decide⟩), putT_in' cn, putId_in n1 n2, putId_in a1 a2, putAll_in' (show inR 3 from ⟨by decide, by decide⟩)] at hl
      simp only [List.nil_append, List.append_assoc] at hl
      conv at hst => arg 3; rw [hl, ← List.append_nil (putN 1)]
      obtain ⟨q0, e0, h0⟩ := num_at hst (by decide) (by decide)
      obtain ⟨q1, e1, h1⟩ := id_at h0 a1 a2
      obtain ⟨q2, e2, h2⟩ := id_at h1 n1 n2
      obtain ⟨q3, e3, h3⟩ := text_at h2 cn
      obtain ⟨q4, e4, h4⟩ := num_at h3 (by decide) (by decide)
      have e0' : getN l 0 = (3, (q0 : Int)) := e0
      simp only [e0', e1, e2, e3, e4, hend _ h4, if_true]
      rw [if_neg (by decide), if_neg (by decide), if_neg (by decide)]

def zeroV : OpV := ⟨0, 0, 0, 0, 0, 0, 0, [], 0, [], [], false⟩
/-- The operation whose bytes l are. -/
def readOk (l : List Int) : Bool := opB (opRd rdKeyI l).1 && (opBytes (opRd rdKeyI l).1 == l)
def readV (l : List Int) : OpV := if readOk l then (opRd rdKeyI l).1 else zeroV
def readSOk (l : List Int) : Bool := (opRd rdKeyS l).2 == (l.length : Int) && (opB (opRd rdKeyS l).1 && (opBytes (opRd rdKeyS l).1 == l))

theorem read_one {K K' : List Int → Int → List Int × Int} (hK' : KeyBack K') {l : List Int} (h : opB (opRd K l).1 = true) (hb : opBytes (opRd K l).1 = l) : opRd K' l = ((opRd K l).1, (l.length : Int)) := by
  have := opRd_back hK' _ h
  rw [hb] at this
  exact this
theorem readS_ok (l : List Int) : readSOk l = readOk l := by
  rw [Bool.eq_iff_iff]
  unfold readSOk readOk
  simp only [Bool.and_eq_true, beq_iff_eq]
  constructor
  · rintro ⟨_, h1, h2⟩
    rw [read_one keyI_back h1 h2]
    exact ⟨h1, h2⟩
  · rintro ⟨h1, h2⟩
    rw [read_one keyS_back h1 h2]
    exact ⟨rfl, h1, h2⟩
theorem readS_v {l : List Int} (h : readOk l = true) : (opRd rdKeyS l).1 = (opRd rdKeyI l).1 := by
  unfold readOk at h
  simp only [Bool.and_eq_true, beq_iff_eq] at h
  rw [read_one keyS_back h.1 h.2]
theorem read_just {l : List Int} (h : readOk l = true) : opB (readV l) = true ∧ opBytes (readV l) = l := by
  unfold readV
  rw [if_pos h]
  unfold readOk at h
  simpa only [Bool.and_eq_true, beq_iff_eq] using h
theorem read_back {o : OpV} (h : opB o = true) : readOk (opBytes o) = true ∧ readV (opBytes o) = o := by
  have e := opRd_back keyI_back o h
  have hr : readOk (opBytes o) = true := by
    unfold readOk
    rw [e]
    simp [h]
  refine ⟨hr, ?_⟩
  unfold readV
  rw [if_pos hr, e]

end Go.Proofs.Ytjannojebngoeab
