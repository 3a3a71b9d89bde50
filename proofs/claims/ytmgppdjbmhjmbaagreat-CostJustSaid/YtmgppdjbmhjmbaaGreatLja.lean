/-
  Ja, Jb, Jc: in one text.
-/
import Derived.Test.YtmgppdjbmhjmbaaGreatLt
import Derived.Test.YtmgppdjbmhjmbaaGreatLea
import Derived.Test.YtmgppdjbmhjmbaaGreatFw
import Derived.Test.YtmgppdjbmhjmbaaGreatFs
namespace Go.Proofs.YtmgppdjbmhjmbaaGreat
open Go.RowKit
set_option maxRecDepth 100000
set_option linter.unusedSimpArgs false
set_option linter.unusedVariables false

/-- A certificate: fuel, stack, heap. -/
abbrev Ce := Int × Int × Int
def c012 : Ce := (0, 0, 0)
/-- A call: whom, how often, whether it is reached, what lies below. -/
abbrev Kl12 := Int × Int × Bool × Int
/-- How often the place p may be come to. -/
def tm12 (L : List Ins) (p : Nat) : Int := tm9 (lpU9 L L.length) p
def lc12 (m : Mh) : Int := ((m.a.length + m.l.length : Nat) : Int)
def zr12 (S : List Rz) (p : Nat) : Rz := S[p]?.getD z10
/-- The arguments of the method that is named at p. -/
def ar12 (d : Md) (L : List Ins) (p : Nat) : Nat := (me10 d (iA9 L p).toNat).a.length
def mk12 (d : Md) (m : Mh) (L : List Ins) (S : List Rz) (p : Nat) : Kl12 := (iA9 L p, tm12 L p, (zr12 S p).1, lc12 m + (zr12 S p).2.length - ar12 d L p)
def fu12 (L : List Ins) (n : Nat) : Int := ((List.range n).map (tm12 L)).sum
def hn12 (L : List Ins) (p : Nat) : Int := if iO9 L p = 22 then iA9 L p * tm12 L p else 0
def he12 (L : List Ins) (n : Nat) : Int := ((List.range n).map (hn12 L)).sum
def ca12 (d : Md) (m : Mh) (L : List Ins) (S : List Rz) (n : Nat) : List Kl12 := ((List.range n).filter fun p => iO9 L p == 30).map (mk12 d m L S)
/-- The account of a method: its own, and its calls. -/
def ow12 (m : Mh) (L : List Ins) (S : List Rz) : Ce := (fu12 L L.length, lc12 m + hg10 S, he12 L L.length)
def aw12 (d : Md) (k : Nat) : Ce := ow12 (me10 d k) (co11 d k) (rw10s d k).1
def al12 (d : Md) (k : Nat) : List Kl12 := ca12 d (me10 d k) (co11 d k) (rw10s d k).1 (co11 d k).length
def st12 (C : Nat → Ce) (s : Ce) (x : Kl12) : Ce := (s.1 + (C x.1.toNat).1 * x.2.1, if x.2.2.1 = true then max s.2.1 (x.2.2.2 + (C x.1.toNat).2.1) else s.2.1, s.2.2 + (C x.1.toNat).2.2 * x.2.1)
def to12 (C : Nat → Ce) (l : List Kl12) (s : Ce) : Ce := l.foldl (st12 C) s
def of12 (d : Md) (C : Nat → Ce) (k : Nat) : Ce := to12 C (al12 d k) (aw12 d k)
def pu12 (C : Nat → Ce) (k : Nat) (v : Ce) : Nat → Ce := fun j => if j = k then v else C j
/-- The certificates behind those of o. -/
def cf12 (d : Md) (o : List Nat) (C : Nat → Ce) : Nat → Ce := o.foldl (fun C k => pu12 C k (of12 d C k)) C
def oo12 (d : Md) : List Nat := (or11 (e11 d) d.s.length).getD []
def ci12 (d : Md) (i : Nat) : Nat → Ce := cf12 d ((oo12 d).take i) fun _ => c012
def ce12 (d : Md) : Nat → Ce := cf12 d (oo12 d) fun _ => c012
/-- Does a certificate fit? -/
def wi12 (n a b : Int) : Bool := decide (0 ≤ n) && decide (n ≤ min a b)
def fi12 (c : Ce) (m : Mh) : Bool := wi12 c.1 m.f 1048576 && (wi12 c.2.1 m.s 256 && wi12 c.2.2 m.h 1024)
/-- The first error of layer 10. -/
def er12 (d : Md) : Nat → Int
  | 0 => 0
  | k + 1 => if er12 d k = 0 then (rw10s d k).2 else er12 d k
def cs12 (d : Md) : List Ce := (List.range d.s.length).map (ce12 d)
def ok12 (d : Md) (i : Nat) : Bool := ((oo12 d).take i).all fun k => fi12 (ce12 d k) (me10 d k)
/-- What Costs tells. -/
def co12 (d : Md) : List Ce × Int :=
  if (ro11 d).2 = 0 then (if er12 d d.s.length = 0 then (if ok12 d d.s.length = true then (cs12 d, 0) else ([], 120)) else ([], er12 d d.s.length)) else ([], (ro11 d).2)

theorem fu12_succ (L : List Ins) (n : Nat) : fu12 L (n + 1) = fu12 L n + tm12 L n := by simp [fu12, List.range_succ]
theorem he12_succ (L : List Ins) (n : Nat) : he12 L (n + 1) = he12 L n + hn12 L n := by simp [he12, List.range_succ]
theorem ca12_succ (d : Md) (m : Mh) (L : List Ins) (S : List Rz) (n : Nat) : ca12 d m L S (n + 1) = ca12 d m L S n ++ if iO9 L n = 30 then [mk12 d m L S n] else [] := by
  unfold ca12
  rw [List.range_succ, List.filter_append, List.map_append]
  by_cases h : iO9 L n = 30
  · simp [h]
  · simp [h]
theorem ca12_len (d : Md) (m : Mh) (L : List Ins) (S : List Rz) (n : Nat) : (ca12 d m L S n).length ≤ n := by
  rw [ca12, List.length_map]
  have := List.length_filter_le (fun p => iO9 L p == 30) (List.range n)
  rw [List.length_range] at this
  exact this
theorem wi12_iff {n a b : Int} : wi12 n a b = true ↔ 0 ≤ n ∧ n ≤ a ∧ n ≤ b := by
  simp only [wi12, Bool.and_eq_true, decide_eq_true_eq]
  omega
theorem fi12_iff {c : Ce} {m : Mh} : fi12 c m = true ↔ (0 ≤ c.1 ∧ c.1 ≤ m.f ∧ c.1 ≤ 1048576) ∧ (0 ≤ c.2.1 ∧ c.2.1 ≤ m.s ∧ c.2.1 ≤ 256) ∧ (0 ≤ c.2.2 ∧ c.2.2 ≤ m.h ∧ c.2.2 ≤ 1024) := by
  simp only [fi12, Bool.and_eq_true, wi12_iff]
theorem er12_at {d : Md} : ∀ {n : Nat}, er12 d n = 0 → ∀ k, k < n → (rw10s d k).2 = 0
  | 0, _, k, hk => by omega
  | n + 1, h, k, hk => by
    rw [er12] at h
    by_cases h0 : er12 d n = 0
    · rw [if_pos h0] at h
      by_cases hkn : k = n
      · rw [hkn]; exact h
      · exact er12_at h0 k (by omega)
    · rw [if_neg h0] at h
      exact absurd h h0
theorem er12_stop {d : Md} {k : Nat} (h0 : er12 d k = 0) (h1 : (rw10s d k).2 ≠ 0) : ∀ n, k < n → er12 d n = (rw10s d k).2
  | 0, h => by omega
  | n + 1, h => by
    rw [er12]
    by_cases hkn : k = n
    · rw [← hkn, if_pos h0]
    · have := er12_stop h0 h1 n (by omega)
      rw [if_neg (by rw [this]; exact h1), this]
theorem or12 {d : Md} (h : (ro11 d).2 = 0) : or11 (e11 d) d.s.length = some (oo12 d) ∧ (ro11 d).1 = ns11 (oo12 d) ∧ Ok11 (e11 d) d.s.length (oo12 d) ∧ (oo12 d).length = d.s.length ∧ ba11 d = false := by
  obtain ⟨hb, o, ho, hr⟩ := ro11_ok h
  have e : oo12 d = o := by rw [oo12, ho]; rfl
  obtain ⟨h1, h2⟩ := or11_ok ho
  rw [e]
  exact ⟨ho, hr, h1, h2, hb⟩
theorem to12_congr {C C' : Nat → Ce} : ∀ {l : List Kl12} {s : Ce}, (∀ x ∈ l, C x.1.toNat = C' x.1.toNat) → to12 C l s = to12 C' l s
  | [], s, _ => rfl
  | x :: l, s, h => by
    have h1 := h x List.mem_cons_self
    have h2 := to12_congr (l := l) (s := st12 C' s x) fun y hy => h y (List.mem_cons_of_mem _ hy)
    unfold to12 at h2 ⊢
    rw [List.foldl_cons, List.foldl_cons, ← h2]
    congr 1
    unfold st12
    rw [h1]
/-- A call is one of the module's. -/
theorem call12 {d : Md} (hb : ba11 d = false) {k p : Nat} (hk : k < d.s.length) (hp : p < (co11 d k).length) (ho : iO9 (co11 d k) p = 30) : ∃ j : Nat, iA9 (co11 d k) p = j ∧ j < d.s.length ∧ e11 d k j = true := by
  have h1 := ba11_at hb hk
  obtain ⟨hm, e1, e2⟩ := iO9_mem hp
  rw [ho] at e1
  unfold bd11 at h1
  rw [List.any_eq_false] at h1
  have h2 := h1 _ hm
  rw [← e1, ← e2] at h2
  simp at h2
  refine ⟨(iA9 (co11 d k) p).toNat, by omega, by omega, ?_⟩
  unfold e11 cl11
  rw [List.any_eq_true]
  refine ⟨_, hm, ?_⟩
  rw [← e1, ← e2]
  simp
  omega
theorem al12_mem {d : Md} (hb : ba11 d = false) {k : Nat} (hk : k < d.s.length) {x : Kl12} (hx : x ∈ al12 d k) : x.1.toNat < d.s.length ∧ e11 d k x.1.toNat = true := by
  unfold al12 ca12 at hx
  obtain ⟨p, hp, rfl⟩ := List.mem_map.1 hx
  obtain ⟨hp1, hp2⟩ := List.mem_filter.1 hp
  obtain ⟨j, h1, h2, h3⟩ := call12 hb hk (List.mem_range.1 hp1) (by simpa using hp2)
  simp only [mk12, h1, Int.toNat_natCast]
  exact ⟨h2, h3⟩
theorem ci12_succ {d : Md} {i k : Nat} (hk : (oo12 d)[i]? = some k) : ci12 d (i + 1) = pu12 (ci12 d i) k (of12 d (ci12 d i) k) := by
  unfold ci12 cf12
  rw [List.take_add_one, hk, List.foldl_append]
  rfl
/-- What was told at step i stays. -/
theorem ci12_stay {d : Md} (hd : (oo12 d).Nodup) {i k n : Nat} (hk : (oo12 d)[i]? = some k) (hn : i < n) : ci12 d n k = of12 d (ci12 d i) k := by
  obtain ⟨j, rfl⟩ : ∃ j, n = i + 1 + j := ⟨n - (i + 1), by omega⟩
  clear hn
  induction j with
  | zero => rw [Nat.add_zero, ci12_succ hk, pu12, if_pos rfl]
  | succ j ih =>
    rw [← Nat.add_assoc]
    cases hx : (oo12 d)[i + 1 + j]? with
    | none =>
      have : (oo12 d).take (i + 1 + j + 1) = (oo12 d).take (i + 1 + j) := by rw [List.take_add_one, hx]; simp
      rw [ci12, this, ← ci12]
      exact ih
    | some x =>
      rw [ci12_succ hx, pu12, if_neg, ih]
      intro e
      subst e
      obtain ⟨a1, a2⟩ := List.getElem?_eq_some_iff.1 hk
      obtain ⟨b1, b2⟩ := List.getElem?_eq_some_iff.1 hx
      have i1 := hd.idxOf_getElem _ a1
      have i2 := hd.idxOf_getElem _ b1
      rw [a2] at i1
      rw [b2] at i2
      omega
theorem ci12_all {d : Md} {n : Nat} (h : (oo12 d).length ≤ n) : ci12 d n = ce12 d := by
  unfold ci12 ce12
  rw [List.take_of_length_le h]
/-- Each certificate hangs on those of the methods that are called. -/
theorem ce12_step {d : Md} (h : (ro11 d).2 = 0) {i k : Nat} (hk : (oo12 d)[i]? = some k) : of12 d (ci12 d i) k = ce12 d k := by
  obtain ⟨-, -, ho, hl, -⟩ := or12 h
  have h1 := (List.getElem?_eq_some_iff.1 hk).1
  rw [← ci12_all (Nat.le_refl _), ci12_stay ho.nd hk h1]
theorem ce12_fix {d : Md} (h : (ro11 d).2 = 0) {k : Nat} (hk : k < d.s.length) : ce12 d k = of12 d (ce12 d) k := by
  obtain ⟨-, -, ho, hl, hb⟩ := or12 h
  obtain ⟨i, hi⟩ := List.getElem?_of_mem (all11 ho.nd ho.lt hl k hk)
  rw [← ce12_step h hi]
  refine to12_congr fun x hx => ?_
  obtain ⟨h1, h2⟩ := al12_mem hb hk hx
  obtain ⟨m, hm, hj⟩ := ho.be i k hi _ h1 h2
  rw [ci12_stay ho.nd hj hm, ce12_step h hj]
theorem ok12_at {d : Md} (h : (ro11 d).2 = 0) (hf : ok12 d d.s.length = true) {k : Nat} (hk : k < d.s.length) : fi12 (ce12 d k) (me10 d k) = true := by
  obtain ⟨-, -, ho, hl, hb⟩ := or12 h
  unfold ok12 at hf
  rw [List.take_of_length_le (by omega), List.all_eq_true] at hf
  exact hf k (all11 ho.nd ho.lt hl k hk)
theorem ok12_succ {d : Md} {i k : Nat} (hk : (oo12 d)[i]? = some k) : ok12 d (i + 1) = (ok12 d i && fi12 (ce12 d k) (me10 d k)) := by
  unfold ok12
  rw [List.take_add_one, hk, List.all_append]
  simp
theorem ok12_no {d : Md} {i n : Nat} (h : ok12 d i = false) (hn : i ≤ n) : ok12 d n = false := by
  unfold ok12 at h ⊢
  rw [List.all_eq_false] at h ⊢
  obtain ⟨x, hx, hf⟩ := h
  refine ⟨x, ?_, hf⟩
  have : (oo12 d).take i = ((oo12 d).take n).take i := by rw [List.take_take, Nat.min_eq_left hn]
  rw [this] at hx
  exact List.mem_of_mem_take hx
theorem co12_ok {d : Md} (h : (co12 d).2 = 0) : (ro11 d).2 = 0 ∧ er12 d d.s.length = 0 ∧ ok12 d d.s.length = true ∧ (co12 d).1 = cs12 d := by
  unfold co12 at h ⊢
  by_cases h1 : (ro11 d).2 = 0
  · rw [if_pos h1] at h ⊢
    by_cases h2 : er12 d d.s.length = 0
    · rw [if_pos h2] at h ⊢
      by_cases h3 : ok12 d d.s.length = true
      · rw [if_pos h3]
        exact ⟨h1, h2, h3, rfl⟩
      · rw [if_neg h3] at h
        cases h
    · rw [if_neg h2] at h
      exact absurd h h2
  · rw [if_neg h1] at h
    exact absurd h h1
theorem cs12_at {d : Md} {k : Nat} (hk : k < d.s.length) : (cs12 d)[k]? = some (ce12 d k) := by
  rw [cs12, List.getElem?_map, List.getElem?_range hk]
  rfl
theorem cs12_len (d : Md) : (cs12 d).length = d.s.length := by simp [cs12]

/-! What methods declare changes nothing but whether there is an error. -/
structure Sd12 (d d' : Md) : Prop where
  sa : Sa10 d d'
  len : d'.s.length = d.s.length
  co : ∀ k, co11 d' k = co11 d k
  ki : ∀ k, (me10 d' k).a = (me10 d k).a ∧ (me10 d' k).l = (me10 d k).l ∧ (me10 d' k).r = (me10 d k).r
section
variable {d d' : Md} (S : Sd12 d d')
include S
theorem Sd12.e : e11 d' = e11 d := by
  funext k j
  unfold e11
  rw [S.co]
theorem Sd12.ba : ba11 d' = ba11 d := by
  by_cases h : ba11 d = true
  · rw [h]
    by_cases h' : ba11 d' = true
    · exact h'
    · exfalso
      have h' : ba11 d' = false := by simpa using h'
      have : ba11 d = false := ba11_of fun k hk => by
        have := ba11_at h' (k := k) (by rw [S.len]; exact hk)
        rw [S.co, S.len] at this
        exact this
      rw [this] at h
      cases h
  · have h : ba11 d = false := by simpa using h
    rw [h]
    refine ba11_of fun k hk => ?_
    rw [S.co, S.len]
    exact ba11_at h (by rw [← S.len]; exact hk)
theorem Sd12.ro : ro11 d' = ro11 d := by
  unfold ro11
  rw [S.ba, S.e, S.len]
theorem Sd12.oo : oo12 d' = oo12 d := by
  unfold oo12
  rw [S.e, S.len]
theorem Sd12.rw_ (k : Int) : rw10s d' k = rw10s d k := by
  refine rw10s_same S.sa fun z z' hk h1 h2 => ?_
  have e1 := S.co k.toNat
  have e2 := (S.ki k.toNat).2.1
  simp only [co11, me10, h1, h2, Option.getD_some] at e1 e2
  exact ⟨e2, e1⟩
theorem Sd12.er : ∀ n, er12 d' n = er12 d n
  | 0 => rfl
  | n + 1 => by rw [er12, er12, Sd12.er n, S.rw_]
theorem Sd12.ar (L : List Ins) (p : Nat) : ar12 d' L p = ar12 d L p := by
  unfold ar12
  rw [(S.ki _).1]
theorem Sd12.aw (k : Nat) : aw12 d' k = aw12 d k := by
  unfold aw12 ow12 lc12
  rw [S.co, S.rw_, (S.ki _).1, (S.ki _).2.1]
theorem Sd12.al (k : Nat) : al12 d' k = al12 d k := by
  unfold al12 ca12
  rw [S.co, S.rw_]
  congr 1
  funext p
  unfold mk12 lc12
  rw [S.ar, (S.ki _).1, (S.ki _).2.1]
theorem Sd12.of (C : Nat → Ce) (k : Nat) : of12 d' C k = of12 d C k := by
  unfold of12
  rw [S.aw, S.al]
theorem Sd12.ce : ce12 d' = ce12 d := by
  unfold ce12 cf12
  rw [S.oo]
  congr 1
  funext C k
  rw [S.of]
theorem Sd12.cs : cs12 d' = cs12 d := by
  unfold cs12
  rw [S.ce, S.len]
end
end Go.Proofs.YtmgppdjbmhjmbaaGreat
namespace Go.Proofs.YtmgppdjbmhjmbaaGreat
open Go.RowKit
set_option maxRecDepth 100000
set_option linter.unusedSimpArgs false
set_option linter.unusedVariables false

/-! Sums. -/
def fe12 (C : Nat → Ce) (L : List Ins) (p : Nat) : Int := if iO9 L p = 30 then (C (iA9 L p).toNat).1 * tm12 L p else 0
def ge12 (C : Nat → Ce) (L : List Ins) (p : Nat) : Int := if iO9 L p = 30 then (C (iA9 L p).toNat).2.2 * tm12 L p else 0
theorem to12_sum (d : Md) (m : Mh) (L : List Ins) (S : List Rz) (C : Nat → Ce) (s : Ce) : ∀ n, (to12 C (ca12 d m L S n) s).1 = s.1 + ((List.range n).map (fe12 C L)).sum ∧ (to12 C (ca12 d m L S n) s).2.2 = s.2.2 + ((List.range n).map (ge12 C L)).sum ∧
    s.2.1 ≤ (to12 C (ca12 d m L S n) s).2.1 ∧ ∀ p, p < n → iO9 L p = 30 → (zr12 S p).1 = true → lc12 m + (zr12 S p).2.length - ar12 d L p + (C (iA9 L p).toNat).2.1 ≤ (to12 C (ca12 d m L S n) s).2.1
  | 0 => by
    refine ⟨by simp [to12, ca12], by simp [to12, ca12], by simp [to12, ca12], fun p hp => by omega⟩
  | n + 1 => by
    obtain ⟨h1, h2, h3, h4⟩ := to12_sum d m L S C s n
    rw [ca12_succ, List.range_succ, List.map_append, List.map_append, List.sum_append, List.sum_append]
    by_cases ho : iO9 L n = 30
    · rw [if_pos ho]
      unfold to12 at h1 h2 h3 h4 ⊢
      rw [List.foldl_append]
      generalize (ca12 d m L S n).foldl (st12 C) s = t at h1 h2 h3 h4 ⊢
      simp only [List.foldl_cons, List.foldl_nil, st12, mk12, List.map_cons, List.map_nil, List.sum_cons, List.sum_nil, fe12, ge12, if_pos ho]
      refine ⟨by rw [h1]; omega, by rw [h2]; omega, ?_, fun p hp hop hr => ?_⟩
      · split <;> omega
      · by_cases hpn : p = n
        · subst hpn
          rw [if_pos hr]
          omega
        · have := h4 p (by omega) hop hr
          split <;> omega
    · rw [if_neg ho, List.append_nil]
      refine ⟨by rw [h1]; simp [fe12, ho], by rw [h2]; simp [ge12, ho], h3, fun p hp hop hr => ?_⟩
      by_cases hpn : p = n
      · subst hpn; exact absurd hop ho
      · exact h4 p (by omega) hop hr

/-- What an instruction takes each time. -/
def cu12 (C : Nat → Ce) (L : List Ins) (p : Nat) : Nat := if iO9 L p = 30 then 1 + (C (iA9 L p).toNat).1.toNat else 1
def cv12 (C : Nat → Ce) (L : List Ins) (p : Nat) : Nat := if iO9 L p = 22 then (iA9 L p).toNat else if iO9 L p = 30 then (C (iA9 L p).toNat).2.2.toNat else 0
/-- A module whose certificates all fit. -/
structure Ok12 (d : Md) : Prop where
  ro : (ro11 d).2 = 0
  er : er12 d d.s.length = 0
  fi : ok12 d d.s.length = true
theorem Ok12.of {d : Md} (h : (co12 d).2 = 0) : Ok12 d := ⟨(co12_ok h).1, (co12_ok h).2.1, (co12_ok h).2.2.1⟩
section
variable {d : Md} (H : Ok12 d)
include H
theorem Ok12.ba : ba11 d = false := (or12 H.ro).2.2.2.2
theorem Ok12.rows {k : Nat} (hk : k < d.s.length) : flE9 (co11 d k) = 0 ∧ (rw10s d k).1.length = (co11 d k).length ∧ In10s d (me10 d k) (co11 d k) (co11 d k).length (rw10s d k).1 := by
  obtain ⟨n, h, c, e1, e2, e3, e4, e5, e6, e7⟩ := rw10s_ok (er12_at H.er k hk)
  obtain rfl : k = n := by omega
  have e8 : co11 d k = c := by rw [co11, e3]; rfl
  have e9 : me10 d k = h := by rw [me10, e3]; rfl
  rw [e8, e9]
  exact ⟨e4, e6, e7⟩
theorem Ok12.wl {k : Nat} (hk : k < d.s.length) : Wl9 (co11 d k) (lpU9 (co11 d k) (co11 d k).length) := wl9 (H.rows hk).1
theorem Ok12.pos {k : Nat} (hk : k < d.s.length) : 0 ≤ (ce12 d k).1 ∧ 0 ≤ (ce12 d k).2.1 ∧ 0 ≤ (ce12 d k).2.2 := by
  have := fi12_iff.1 (ok12_at H.ro H.fi hk)
  omega
theorem Ok12.call {k p : Nat} (hk : k < d.s.length) (hp : p < (co11 d k).length) (ho : iO9 (co11 d k) p = 30) : ∃ j : Nat, iA9 (co11 d k) p = j ∧ j < d.s.length ∧ e11 d k j = true := call12 H.ba hk hp ho
theorem Ok12.new {k p : Nat} (hk : k < d.s.length) (hp : p < (co11 d k).length) : 0 ≤ iA9 (co11 d k) p := by
  obtain ⟨hm, -, e2⟩ := iO9_mem hp
  rw [e2]
  exact inM_nn ((codM_all (flE9_zero (H.rows hk).1).1).2.2 _ hm)
theorem Ok12.sums {k : Nat} (hk : k < d.s.length) :
    (ce12 d k).1 = (sm9 (fun p => pr9 (lq9 (lpU9 (co11 d k) (co11 d k).length) p) * cu12 (ce12 d) (co11 d k) p) (co11 d k).length : Int) ∧
    (ce12 d k).2.2 = (sm9 (fun p => pr9 (lq9 (lpU9 (co11 d k) (co11 d k).length) p) * cv12 (ce12 d) (co11 d k) p) (co11 d k).length : Int) ∧
    lc12 (me10 d k) + hg10 (rw10s d k).1 ≤ (ce12 d k).2.1 ∧
    ∀ p, p < (co11 d k).length → iO9 (co11 d k) p = 30 → (zr12 (rw10s d k).1 p).1 = true → lc12 (me10 d k) + (zr12 (rw10s d k).1 p).2.length - ar12 d (co11 d k) p + (ce12 d (iA9 (co11 d k) p).toNat).2.1 ≤ (ce12 d k).2.1 := by
  have hw := H.wl hk
  have hfix := ce12_fix H.ro hk
  obtain ⟨h1, h2, h3, h4⟩ := to12_sum d (me10 d k) (co11 d k) (rw10s d k).1 (ce12 d) (aw12 d k) (co11 d k).length
  rw [show to12 (ce12 d) (ca12 d (me10 d k) (co11 d k) (rw10s d k).1 (co11 d k).length) (aw12 d k) = of12 d (ce12 d) k from rfl, ← hfix] at h1 h2 h3 h4
  have key : ∀ n, n ≤ (co11 d k).length → fu12 (co11 d k) n + ((List.range n).map (fe12 (ce12 d) (co11 d k))).sum = (sm9 (fun p => pr9 (lq9 (lpU9 (co11 d k) (co11 d k).length) p) * cu12 (ce12 d) (co11 d k) p) n : Int) ∧
      he12 (co11 d k) n + ((List.range n).map (ge12 (ce12 d) (co11 d k))).sum = (sm9 (fun p => pr9 (lq9 (lpU9 (co11 d k) (co11 d k).length) p) * cv12 (ce12 d) (co11 d k) p) n : Int) := by
    intro n
    induction n with
    | zero => intro _; exact ⟨rfl, rfl⟩
    | succ n ih =>
      intro hn
      obtain ⟨i1, i2⟩ := ih (by omega)
      have hA := H.new hk (p := n) (by omega)
      have ht : tm12 (co11 d k) n = (pr9 (lq9 (lpU9 (co11 d k) (co11 d k).length) n) : Int) := tm9_pr hw n
      rw [fu12_succ, he12_succ, sm9_succ, sm9_succ, List.range_succ, List.map_append, List.map_append, List.sum_append, List.sum_append]
      simp only [List.map_cons, List.map_nil, List.sum_cons, List.sum_nil]
      generalize (((List.range n).map (fe12 (ce12 d) (co11 d k))).sum) = s1 at i1 ⊢
      generalize (((List.range n).map (ge12 (ce12 d) (co11 d k))).sum) = s2 at i2 ⊢
      rw [Int.natCast_add, Int.natCast_add, ← i1, ← i2]
      unfold fe12 ge12 cu12 cv12 hn12
      rw [ht]
      generalize pr9 (lq9 (lpU9 (co11 d k) (co11 d k).length) n) = T
      by_cases ho : iO9 (co11 d k) n = 30
      · obtain ⟨j, hj, hj2, -⟩ := H.call hk (p := n) (by omega) ho
        obtain ⟨p1, p2, p3⟩ := H.pos hj2
        rw [hj] at hA ⊢
        rw [Int.toNat_natCast]
        obtain ⟨x, hx⟩ : ∃ x : Nat, (ce12 d j).1 = x := ⟨(ce12 d j).1.toNat, by omega⟩
        obtain ⟨y, hy⟩ : ∃ y : Nat, (ce12 d j).2.2 = y := ⟨(ce12 d j).2.2.toNat, by omega⟩
        rw [hx, hy, if_pos ho, if_pos ho, if_neg (by omega), if_pos ho, if_neg (by omega), if_pos ho, Int.toNat_natCast, Int.toNat_natCast]
        constructor
        · rw [Nat.mul_add, Nat.mul_one, Int.natCast_add, Int.natCast_mul, Int.mul_comm (x : Int)]; omega
        · rw [Int.natCast_mul, Int.mul_comm (y : Int)]; omega
      · rw [if_neg ho, if_neg ho, if_neg ho]
        constructor
        · rw [Nat.mul_one]; omega
        · by_cases h22 : iO9 (co11 d k) n = 22
          · obtain ⟨x, hx⟩ : ∃ x : Nat, iA9 (co11 d k) n = x := ⟨(iA9 (co11 d k) n).toNat, by omega⟩
            rw [if_pos h22, if_pos h22, hx, Int.toNat_natCast, Int.natCast_mul, Int.mul_comm (x : Int)]; omega
          · rw [if_neg h22, if_neg h22, if_neg ho, Nat.mul_zero]; omega
  obtain ⟨k1, k2⟩ := key _ (Nat.le_refl _)
  refine ⟨?_, ?_, ?_, h4⟩
  · rw [h1, ← k1]; rfl
  · rw [h2, ← k2]; rfl
  · exact h3
end
theorem sm9_cut {f g : Nat → Nat} : ∀ n, (∀ q, q < n → f q = g q) → sm9 f n = sm9 g n
  | 0, _ => rfl
  | n + 1, h => by rw [sm9_succ, sm9_succ, sm9_cut n (fun q hq => h q (by omega)), h n (by omega)]
/-- One more at p, by a weight. -/
theorem sm9_w {came c : Nat → Nat} {p : Nat} : ∀ n, sm9 (fun q => put9 came p (came p + 1) q * c q) n = sm9 (fun q => came q * c q) n + if p < n then c p else 0
  | 0 => by simp [sm9]
  | n + 1 => by
    rw [sm9_succ, sm9_succ, sm9_w n]
    unfold put9
    by_cases e : n = p
    · subst e
      rw [if_neg (by omega), if_pos rfl, if_pos (by omega), Nat.add_mul, Nat.one_mul]
      omega
    · rw [if_neg e]
      by_cases h : p < n
      · rw [if_pos h, if_pos (by omega)]; omega
      · rw [if_neg h, if_neg (by omega)]; omega
/-- A frame: its method, its place, how often places were come to, the turns left, whether all the way was straight. -/
structure Fz where
  k : Nat
  p : Nat
  came : Nat → Nat
  lf : Nat → Nat
  st : Bool
abbrev fo12 (d : Md) (z : Fz) : List Ins := co11 d z.k
abbrev fr12 (d : Md) (z : Fz) : Rz := zr12 (rw10s d z.k).1 z.p
structure Go12 (d : Md) (z : Fz) : Prop where
  lt : z.k < d.s.length
  on : In9 (fo12 d z) (lpU9 (fo12 d z) (fo12 d z).length) z.p z.came z.lf z.st
  re : (fr12 d z).1 = true
def su12 (d : Md) (z : Fz) : Nat := sm9 (fun q => z.came q * cu12 (ce12 d) (fo12 d z) q) (fo12 d z).length
def sv12 (d : Md) (z : Fz) : Nat := sm9 (fun q => z.came q * cv12 (ce12 d) (fo12 d z) q) (fo12 d z).length
def gh12 (d : Md) (z : Fz) : Int := lc12 (me10 d z.k) + (fr12 d z).2.length
def ag12 (d : Md) (z : Fz) : Int := ar12 d (fo12 d z) z.p
section
variable {d : Md} (H : Ok12 d) {z : Fz} (G : Go12 d z)
include H G
/-- What the frame took, and what stands at its place, is within what is told. -/
theorem Go12.le : (su12 d z : Int) + cu12 (ce12 d) (fo12 d z) z.p ≤ (ce12 d z.k).1 ∧ (sv12 d z : Int) + cv12 (ce12 d) (fo12 d z) z.p ≤ (ce12 d z.k).2.2 ∧ gh12 d z ≤ (ce12 d z.k).2.1 ∧ (iO9 (fo12 d z) z.p = 30 → gh12 d z - ag12 d z + (ce12 d (iA9 (fo12 d z) z.p).toNat).2.1 ≤ (ce12 d z.k).2.1) := by
  obtain ⟨s1, s2, s3, s4⟩ := H.sums G.lt
  have hlt := G.on.lt
  have key : ∀ c : Nat → Nat, sm9 (fun q => z.came q * c q) (fo12 d z).length + c z.p ≤ sm9 (fun q => pr9 (lq9 (lpU9 (fo12 d z) (fo12 d z).length) q) * c q) (fo12 d z).length := fun c => by
    have h1 := sm9_w (came := z.came) (c := c) (p := z.p) (fo12 d z).length
    rw [if_pos hlt] at h1
    rw [← h1]
    refine sm9_le _ fun q hq => Nat.mul_le_mul_right _ ?_
    have := G.on.enough q
    unfold put9
    split
    · rename_i e; subst e; rw [if_pos rfl] at this; exact this
    · omega
  have k1 := key (cu12 (ce12 d) (fo12 d z))
  have k2 := key (cv12 (ce12 d) (fo12 d z))
  refine ⟨?_, ?_, ?_, fun ho => s4 _ hlt ho G.re⟩
  · rw [s1]; exact_mod_cast k1
  · rw [s2]; exact_mod_cast k2
  · have hm : fr12 d z ∈ (rw10s d z.k).1 := by
      have : z.p < (rw10s d z.k).1.length := by rw [(H.rows G.lt).2.1]; exact hlt
      unfold fr12 zr12
      rw [List.getElem?_eq_getElem this]
      exact List.getElem_mem this
    have := hg10_mem hm
    unfold gh12
    omega
/-- At the end of straight code: just so much. -/
theorem Go12.exact (hs : z.st = true) (ho : iO9 (fo12 d z) z.p = 31) (hl : z.p + 1 = (fo12 d z).length) : (su12 d z : Int) + 1 = (ce12 d z.k).1 ∧ (sv12 d z : Int) = (ce12 d z.k).2.2 := by
  obtain ⟨s1, s2, -⟩ := H.sums G.lt
  have hlt := G.on.lt
  have hw := H.wl G.lt
  have hno : lq9 (lpU9 (fo12 d z) (fo12 d z).length) z.p = [] := by
    unfold lq9
    rw [List.filter_eq_nil_iff]
    intro x hx hwx
    rw [wi9_iff] at hwx
    obtain ⟨m1, m2, m3, m4, -⟩ := hw.mem x hx
    have hl2 : z.p + 1 = (co11 d z.k).length := hl
    have : x.2.1 = z.p := by omega
    rw [this] at m4
    have ho2 : iO9 (co11 d z.k) z.p = 31 := ho
    omega
  have h1 : pr9 (lq9 (lpU9 (fo12 d z) (fo12 d z).length) z.p) = 1 := by rw [hno]; rfl
  have h0 : z.came z.p = 0 := by
    have := G.on.enough z.p
    rw [h1, if_pos rfl] at this
    omega
  have hon : In9 (fo12 d z) (lpU9 (fo12 d z) (fo12 d z).length) z.p z.came z.lf true := by have := G.on; rw [hs] at this; exact this
  have hT : ∀ q, q < (fo12 d z).length → put9 z.came z.p (z.came z.p + 1) q = pr9 (lq9 (lpU9 (fo12 d z) (fo12 d z).length) q) := fun q hq => by
    unfold put9
    split
    · rename_i e; rw [e, h0, h1]
    · exact hon.exact h1 (by omega)
  have key : ∀ c : Nat → Nat, sm9 (fun q => z.came q * c q) (fo12 d z).length + c z.p = sm9 (fun q => pr9 (lq9 (lpU9 (fo12 d z) (fo12 d z).length) q) * c q) (fo12 d z).length := fun c => by
    have h1 := sm9_w (came := z.came) (c := c) (p := z.p) (fo12 d z).length
    rw [if_pos hlt] at h1
    rw [← h1]
    exact sm9_cut _ fun q hq => by rw [hT q hq]
  have k1 := key (cu12 (ce12 d) (fo12 d z))
  have k2 := key (cv12 (ce12 d) (fo12 d z))
  have c1 : cu12 (ce12 d) (fo12 d z) z.p = 1 := by rw [cu12, if_neg (by omega)]
  have c2 : cv12 (ce12 d) (fo12 d z) z.p = 0 := by rw [cv12, if_neg (by omega), if_neg (by omega)]
  rw [c1] at k1
  rw [c2] at k2
  rw [s1, s2]
  constructor
  · exact_mod_cast k1
  · exact_mod_cast k2
end
/-- The frame, one place on. -/
def Fz.to (z : Fz) (p : Nat) (lf : Nat → Nat) (st : Bool) : Fz := ⟨z.k, p, put9 z.came z.p (z.came z.p + 1), lf, st⟩
theorem su12_to {d : Md} {z : Fz} {p : Nat} {lf : Nat → Nat} {st : Bool} (h : z.p < (fo12 d z).length) : su12 d (z.to p lf st) = su12 d z + cu12 (ce12 d) (fo12 d z) z.p ∧ sv12 d (z.to p lf st) = sv12 d z + cv12 (ce12 d) (fo12 d z) z.p := by
  have h1 := sm9_w (came := z.came) (c := cu12 (ce12 d) (fo12 d z)) (p := z.p) (fo12 d z).length
  have h2 := sm9_w (came := z.came) (c := cv12 (ce12 d) (fo12 d z)) (p := z.p) (fo12 d z).length
  rw [if_pos h] at h1 h2
  exact ⟨h1, h2⟩
/-- A new frame. -/
def Fz.new (k : Nat) : Fz := ⟨k, 0, fun _ => 0, fun _ => 0, true⟩
theorem su12_new (d : Md) (k : Nat) : su12 d (Fz.new k) = 0 ∧ sv12 d (Fz.new k) = 0 := by
  constructor
  · unfold su12 Fz.new
    simp only [Nat.zero_mul]
    exact sm9_zero _
  · unfold sv12 Fz.new
    simp only [Nat.zero_mul]
    exact sm9_zero _
theorem Ok12.start {d : Md} (H : Ok12 d) {k : Nat} (hk : k < d.s.length) : Go12 d (Fz.new k) := by
  refine ⟨hk, In9.start (H.wl hk), ?_⟩
  have := (H.rows hk).2.2.first
  unfold fr12 zr12 Fz.new
  rw [this]
/-- Behind a place that is reached each of its ways is. -/
theorem Go12.way {d : Md} (H : Ok12 d) {z : Fz} (G : Go12 d z) {y : Nat} (hy : (y : Int) ∈ wy9 (fo12 d z) z.p) : (zr12 (rw10s d z.k).1 y).1 = true := by
  obtain ⟨h1, h2, h3⟩ := H.rows G.lt
  obtain ⟨nx, -, hv⟩ := run10s h3 h1 G.on.lt G.re
  obtain ⟨y', e, -, hr⟩ := hv _ hy
  obtain rfl : y = y' := by omega
  unfold zr12
  rw [hr]
end Go.Proofs.YtmgppdjbmhjmbaaGreat
namespace Go.Proofs.YtmgppdjbmhjmbaaGreat
open Go.RowKit
set_option maxRecDepth 100000
set_option linter.unusedSimpArgs false
set_option linter.unusedVariables false

/-- Has code no jumps, and one end, that gives a result? -/
def sq12 (n : Nat) (o : Int) (p : Nat) : Bool := !(o == 26 || (o == 27 || ((o == 31 || o == 32) && decide (p + 1 < n) || o == 32)))
def sr12 (L : List Ins) : Bool := (List.range L.length).all fun p => sq12 L.length (iO9 L p) p
theorem sr12_at {L : List Ins} (h : sr12 L = true) {p : Nat} (hp : p < L.length) : iO9 L p ≠ 26 ∧ iO9 L p ≠ 27 ∧ iO9 L p ≠ 32 ∧ (iO9 L p = 31 → p + 1 = L.length) := by
  unfold sr12 at h
  rw [List.all_eq_true] at h
  have := h p (List.mem_range.2 hp)
  simp only [sq12, Bool.not_eq_true', Bool.or_eq_false_iff, Bool.and_eq_false_iff, beq_eq_false_iff_ne, decide_eq_false_iff_not] at this
  obtain ⟨h1, h2, h3, h4⟩ := this
  refine ⟨h1, h2, h4, fun h31 => ?_⟩
  rcases h3 with h3 | h3
  · exact absurd h31 h3.1
  · omega
/-- Those that wait for a call, the last one first: how much fuel and heap they have taken; k: whom the last one calls. -/
def Up12 (d : Md) (k0 : Nat) (x : Prop) : List Fz → Nat → Nat → Nat → Prop
  | [], k, F, V => k = k0 ∧ F = 0 ∧ V = 0
  | z :: Y, k, F, V => Go12 d z ∧ iO9 (fo12 d z) z.p = 30 ∧ iA9 (fo12 d z) z.p = k ∧ (x → z.st = true) ∧ ∃ F' V', Up12 d k0 x Y z.k F' V' ∧ F = F' + su12 d z + 1 ∧ V = V' + sv12 d z
def dg12 (d : Md) (Y : List Fz) : Int := (Y.map fun z => gh12 d z - ag12 d z).sum
theorem dg12_cons (d : Md) (z : Fz) (Y : List Fz) : dg12 d (z :: Y) = (gh12 d z - ag12 d z) + dg12 d Y := by simp [dg12]
section
variable {d : Md} (H : Ok12 d) {k0 : Nat} {x : Prop}
include H
theorem Up12.lead : ∀ {Y : List Fz} {k F V : Nat}, Up12 d k0 x Y k F V → k = k0 ∨ Le11 (e11 d) d.s.length k0 k
  | [], k, F, V, h => .inl h.1
  | z :: Y, k, F, V, h => by
    obtain ⟨G, ho, ha, -, F', V', h', -⟩ := h
    obtain ⟨j, e, hj, he⟩ := H.call G.lt G.on.lt ho
    obtain rfl : k = j := by have := e.symm.trans ha; omega
    refine .inr ?_
    rcases Up12.lead h' with h1 | h1
    · rw [← h1]; exact .one G.lt hj he
    · exact h1.trans (.one G.lt hj he)
theorem Up12.le : ∀ {Y : List Fz} {k F V : Nat}, Up12 d k0 x Y k F V → (F : Int) + (ce12 d k).1 ≤ (ce12 d k0).1 ∧ (V : Int) + (ce12 d k).2.2 ≤ (ce12 d k0).2.2 ∧ dg12 d Y + (ce12 d k).2.1 ≤ (ce12 d k0).2.1
  | [], k, F, V, h => by
    obtain ⟨rfl, rfl, rfl⟩ := h
    simp [dg12]
  | z :: Y, k, F, V, h => by
    obtain ⟨G, ho, ha, -, F', V', h', e1, e2⟩ := h
    obtain ⟨i1, i2, i3⟩ := Up12.le h'
    obtain ⟨g1, g2, -, g4⟩ := G.le H
    have g4 := g4 ho
    obtain ⟨j, e, hj, he⟩ := H.call G.lt G.on.lt ho
    have hjk : k = j := by have := e.symm.trans ha; omega
    rw [← hjk] at e hj he
    obtain ⟨p1, p2, p3⟩ := H.pos hj
    have c1 : cu12 (ce12 d) (fo12 d z) z.p = 1 + (ce12 d k).1.toNat := by rw [cu12, if_pos ho, ha, Int.toNat_natCast]
    have c2 : cv12 (ce12 d) (fo12 d z) z.p = (ce12 d k).2.2.toNat := by rw [cv12, if_neg (by omega), if_pos ho, ha, Int.toNat_natCast]
    rw [c1] at g1
    rw [c2] at g2
    rw [ha, Int.toNat_natCast] at g4
    rw [dg12_cons, e1, e2]
    omega
end
/-- A call that is under way: its top frame, those that wait, what it took. -/
def Ru12 (d : Md) (k0 : Nat) (x : Prop) (z : Fz) (Y : List Fz) (f v : Nat) : Prop :=
  Go12 d z ∧ (x → z.st = true) ∧ ∃ F V, Up12 d k0 x Y z.k F V ∧ f ≤ F + su12 d z ∧ v ≤ V + sv12 d z ∧ (x → f = F + su12 d z ∧ v = V + sv12 d z)
/-- All that is come to is straight. -/
def Xs12 (d : Md) (k0 : Nat) (x : Prop) : Prop := x → ∀ j, (j = k0 ∨ Le11 (e11 d) d.s.length k0 j) → sr12 (co11 d j) = true
section
variable {d : Md} (H : Ok12 d) {k0 : Nat} {x : Prop}
include H
theorem Ru12.start (hk : k0 < d.s.length) : Ru12 d k0 x (Fz.new k0) [] 0 0 := by
  obtain ⟨h1, h2⟩ := su12_new d k0
  exact ⟨H.start hk, fun _ => rfl, 0, 0, ⟨rfl, rfl, rfl⟩, Nat.zero_le _, Nat.zero_le _, fun _ => by rw [h1, h2]; exact ⟨rfl, rfl⟩⟩
variable {z : Fz} {Y : List Fz} {f v : Nat} (R : Ru12 d k0 x z Y f v)
include R
theorem Ru12.bound : (f : Int) + 1 ≤ (ce12 d k0).1 ∧ (v : Int) ≤ (ce12 d k0).2.2 ∧ dg12 d Y + gh12 d z ≤ (ce12 d k0).2.1 := by
  obtain ⟨G, -, F, V, U, h1, h2, -⟩ := R
  obtain ⟨u1, u2, u3⟩ := U.le H
  obtain ⟨g1, g2, g3, -⟩ := G.le H
  have : 1 ≤ cu12 (ce12 d) (fo12 d z) z.p := by unfold cu12; split <;> omega
  omega
theorem Ru12.str (hx : Xs12 d k0 x) (h : x) : sr12 (fo12 d z) = true := by
  obtain ⟨G, -, F, V, U, -⟩ := R
  exact hx h _ (U.lead H)
theorem Ru12.notx (hx : Xs12 d k0 x) (h : iO9 (fo12 d z) z.p = 26 ∨ iO9 (fo12 d z) z.p = 27 ∨ iO9 (fo12 d z) z.p = 32) : ¬ x := fun hxx => by
  obtain ⟨a, b, c, -⟩ := sr12_at (R.str H hx hxx) R.1.on.lt
  rcases h with h | h | h
  · exact a h
  · exact b h
  · exact c h
/-- A call. -/
theorem Ru12.call (ho : iO9 (fo12 d z) z.p = 30) : ∃ j : Nat, iA9 (fo12 d z) z.p = j ∧ j < d.s.length ∧ Ru12 d k0 x (Fz.new j) (z :: Y) (f + 1) v := by
  obtain ⟨G, hst, F, V, U, h1, h2, h3⟩ := R
  obtain ⟨j, e, hj, he⟩ := H.call G.lt G.on.lt ho
  obtain ⟨n1, n2⟩ := su12_new d j
  refine ⟨j, e, hj, H.start hj, fun _ => rfl, F + su12 d z + 1, V + sv12 d z, ⟨G, ho, e, hst, F, V, U, rfl, rfl⟩, by omega, by omega, fun hx => ?_⟩
  have := h3 hx
  omega
/-- The end of all. -/
theorem Ru12.over (hx : Xs12 d k0 x) (hY : Y = []) (ho : iO9 (fo12 d z) z.p = 31) : x → ((f : Int) + 1 = (ce12 d k0).1 ∧ (v : Int) = (ce12 d k0).2.2) := fun hxx => by
  obtain ⟨-, -, -, hl⟩ := sr12_at (R.str H hx hxx) R.1.on.lt
  have hl := hl ho
  obtain ⟨G, hst, F, V, U, h1, h2, h3⟩ := R
  subst hY
  obtain ⟨hk, rfl, rfl⟩ := U
  obtain ⟨e1, e2⟩ := G.exact H (hst hxx) ho hl
  have := h3 hxx
  rw [← hk]
  omega
/-- On, by one instruction that calls nobody. -/
theorem Ru12.on_ {p : Nat} {lf : Nat → Nat} {st : Bool} (ho : iO9 (fo12 d z) z.p ≠ 30) (hi : In9 (fo12 d z) (lpU9 (fo12 d z) (fo12 d z).length) p (put9 z.came z.p (z.came z.p + 1)) lf st) (hy : (p : Int) ∈ wy9 (fo12 d z) z.p) (hs : x → st = true)
    {w : Nat} (hw : w = if iO9 (fo12 d z) z.p = 22 then (iA9 (fo12 d z) z.p).toNat else 0) : Ru12 d k0 x (z.to p lf st) Y (f + 1) (v + w) := by
  obtain ⟨G, hst, F, V, U, h1, h2, h3⟩ := R
  obtain ⟨t1, t2⟩ := su12_to (p := p) (lf := lf) (st := st) G.on.lt
  have c1 : cu12 (ce12 d) (fo12 d z) z.p = 1 := by rw [cu12, if_neg ho]
  have c2 : cv12 (ce12 d) (fo12 d z) z.p = w := by rw [cv12, if_neg ho, hw]
  rw [c1] at t1
  rw [c2] at t2
  refine ⟨⟨G.lt, hi, G.way H hy⟩, hs, F, V, U, by omega, by omega, fun hxx => ?_⟩
  have := h3 hxx
  omega
theorem Ru12.next (h26 : iO9 (fo12 d z) z.p ≠ 26) (h27 : iO9 (fo12 d z) z.p ≠ 27) (h28 : iO9 (fo12 d z) z.p ≠ 28) (h29 : iO9 (fo12 d z) z.p ≠ 29) (h30 : iO9 (fo12 d z) z.p ≠ 30) (h31 : iO9 (fo12 d z) z.p ≠ 31) (h32 : iO9 (fo12 d z) z.p ≠ 32)
    {w : Nat} (hw : w = if iO9 (fo12 d z) z.p = 22 then (iA9 (fo12 d z) z.p).toNat else 0) : z.p + 1 < (fo12 d z).length ∧ Ru12 d k0 x (z.to (z.p + 1) z.lf z.st) Y (f + 1) (v + w) := by
  obtain ⟨h1, h2⟩ := R.1.on.go_on (H.wl R.1.lt) h31 h32 h28 h29 (st' := z.st) id
  refine ⟨h1, R.on_ H h30 h2 ?_ R.2.1 hw⟩
  rw [wy9, if_neg (by omega), if_neg h26, if_neg h27, if_neg h29]
  simp
theorem Ru12.loop (ho : iO9 (fo12 d z) z.p = 28) : z.p + 1 < (fo12 d z).length ∧ 1 ≤ iA9 (fo12 d z) z.p ∧ iA9 (fo12 d z) z.p ≤ 100 ∧ Ru12 d k0 x (z.to (z.p + 1) (put9 z.lf z.p (iA9 (fo12 d z) z.p).toNat) z.st) Y (f + 1) v := by
  obtain ⟨h1, h2, h3, h4⟩ := R.1.on.go_loop (H.wl R.1.lt) ho
  refine ⟨h1, h2, h3, R.on_ H (by omega) h4 ?_ R.2.1 (w := 0) (by rw [if_neg (by omega)])⟩
  rw [wy9, if_neg (by omega), if_neg (by omega), if_neg (by omega), if_neg (by omega)]
  simp
theorem Ru12.again (ho : iO9 (fo12 d z) z.p = 29) : ∃ g : Nat, iA9 (fo12 d z) z.p = g ∧ g < z.p ∧ 1 ≤ z.lf g ∧ z.lf g ≤ 100 ∧ (2 ≤ z.lf g → Ru12 d k0 x (z.to (g + 1) (put9 z.lf g (z.lf g - 1)) z.st) Y (f + 1) v) ∧
    (z.lf g = 1 → z.p + 1 < (fo12 d z).length ∧ Ru12 d k0 x (z.to (z.p + 1) (put9 z.lf g (z.lf g - 1)) z.st) Y (f + 1) v) := by
  obtain ⟨g, h1, h2, h3, h4, h5, h6⟩ := R.1.on.go_again (H.wl R.1.lt) ho
  have hw : wy9 (fo12 d z) z.p = [iA9 (fo12 d z) z.p + 1, (z.p : Int) + 1] := by rw [wy9, if_neg (by omega), if_neg (by omega), if_neg (by omega), if_pos ho]
  refine ⟨g, h1, h2, h3, h4, fun h => R.on_ H (by omega) (h5 h) (by rw [hw, h1]; simp) R.2.1 (w := 0) (by rw [if_neg (by omega)]), fun h => ?_⟩
  obtain ⟨h7, h8⟩ := h6 h
  rw [h]
  exact ⟨h7, R.on_ H (by omega) h8 (by rw [hw]; simp) R.2.1 (w := 0) (by rw [if_neg (by omega)])⟩
theorem Ru12.jump (hx : Xs12 d k0 x) (ho : iO9 (fo12 d z) z.p = 26 ∨ iO9 (fo12 d z) z.p = 27) : ∃ a : Nat, iA9 (fo12 d z) z.p = a ∧ a < (fo12 d z).length ∧ Ru12 d k0 x (z.to a z.lf false) Y (f + 1) v := by
  obtain ⟨a, h1, h2, h3⟩ := R.1.on.go_jump (H.wl R.1.lt) ho
  refine ⟨a, h1, h2, R.on_ H (by omega) h3 ?_ (fun hxx => absurd hxx (R.notx H hx (by omega))) (w := 0) (by rw [if_neg (by omega)])⟩
  rw [wy9, if_neg (by omega)]
  by_cases h : iO9 (fo12 d z) z.p = 26
  · rw [if_pos h, h1]; simp
  · rw [if_neg h, if_pos (by omega), h1]
    split <;> simp
theorem Ru12.past (hx : Xs12 d k0 x) (ho : iO9 (fo12 d z) z.p = 27) : z.p + 1 < (fo12 d z).length ∧ Ru12 d k0 x (z.to (z.p + 1) z.lf false) Y (f + 1) v := by
  have n1 : iO9 (fo12 d z) z.p ≠ 31 := by omega
  have n2 : iO9 (fo12 d z) z.p ≠ 32 := by omega
  have n3 : iO9 (fo12 d z) z.p ≠ 28 := by omega
  have n4 : iO9 (fo12 d z) z.p ≠ 29 := by omega
  obtain ⟨h1, h2⟩ := R.1.on.go_on (H.wl R.1.lt) n1 n2 n3 n4 (st' := false) (fun h => (by cases h))
  refine ⟨h1, R.on_ H (by omega) h2 ?_ (fun hxx => absurd hxx (R.notx H hx (by omega))) (w := 0) (by rw [if_neg (by omega)])⟩
  rw [wy9, if_neg (by omega), if_neg (by omega), if_pos ho]
  split
  · rename_i h; rw [h]; simp
  · simp
end
/-- What was called is at its end. -/
theorem Ru12.back {d : Md} (H : Ok12 d) {k0 : Nat} {x : Prop} (hx : Xs12 d k0 x) {z z' : Fz} {Y : List Fz} {f v : Nat} (R : Ru12 d k0 x z (z' :: Y) f v) (ho : iO9 (fo12 d z) z.p = 31) : z'.p + 1 < (fo12 d z').length ∧ Ru12 d k0 x (z'.to (z'.p + 1) z'.lf z'.st) Y (f + 1) v := by
  have hs := fun hxx => R.str H hx hxx
  obtain ⟨G, hst, F, V, U, h1, h2, h3⟩ := R
  obtain ⟨G', ho', ha', hst', F', V', U', e1, e2⟩ := U
  obtain ⟨g1, g2, -, -⟩ := G.le H
  obtain ⟨p1, p2, p3⟩ := H.pos G.lt
  have n1 : iO9 (fo12 d z') z'.p ≠ 31 := by omega
  have n2 : iO9 (fo12 d z') z'.p ≠ 32 := by omega
  have n3 : iO9 (fo12 d z') z'.p ≠ 28 := by omega
  have n4 : iO9 (fo12 d z') z'.p ≠ 29 := by omega
  obtain ⟨o1, o2⟩ := G'.on.go_on (H.wl G'.lt) n1 n2 n3 n4 (st' := z'.st) id
  obtain ⟨t1, t2⟩ := su12_to (p := z'.p + 1) (lf := z'.lf) (st := z'.st) G'.on.lt
  have c1 : cu12 (ce12 d) (fo12 d z') z'.p = 1 + (ce12 d z.k).1.toNat := by rw [cu12, if_pos ho', ha', Int.toNat_natCast]
  have c2 : cv12 (ce12 d) (fo12 d z') z'.p = (ce12 d z.k).2.2.toNat := by rw [cv12, if_neg (by omega), if_pos ho', ha', Int.toNat_natCast]
  have c3 : cu12 (ce12 d) (fo12 d z) z.p = 1 := by rw [cu12, if_neg (by omega)]
  have c4 : cv12 (ce12 d) (fo12 d z) z.p = 0 := by rw [cv12, if_neg (by omega), if_neg (by omega)]
  rw [c1] at t1
  rw [c2] at t2
  rw [c3] at g1
  rw [c4] at g2
  have f1 : f + 1 ≤ F' + su12 d (z'.to (z'.p + 1) z'.lf z'.st) := by omega
  have f2 : v ≤ V' + sv12 d (z'.to (z'.p + 1) z'.lf z'.st) := by omega
  refine ⟨o1, ⟨G'.lt, o2, G'.way H ?_⟩, hst', F', V', U', f1, f2, fun hxx => ?_⟩
  · rw [wy9, if_neg (by omega), if_neg (by omega), if_neg (by omega), if_neg (by omega)]
    simp [Fz.to]
  · obtain ⟨-, -, -, hl⟩ := sr12_at (hs hxx) G.on.lt
    obtain ⟨x1, x2⟩ := G.exact H (hst hxx) ho (hl ho)
    have := h3 hxx
    omega
end Go.Proofs.YtmgppdjbmhjmbaaGreat
