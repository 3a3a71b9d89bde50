/-
  Ta, Tb, Tu, Tv, Ts, Tl: in one text.
-/
import Derived.Test.YtmgppdjbmhjmbaaGreatLm
import Derived.Test.YtmgppdjbmhjmbaaGreatLs
import Derived.Test.YtmgppdjbmhjmbaaGreatOpt
import Derived.Deep.WholeRow
namespace Go.Proofs.YtmgppdjbmhjmbaaGreat
open Go.RowKit
set_option maxRecDepth 100000
set_option linter.unusedSimpArgs false
set_option linter.unusedVariables false

/-- A method's kinds. -/
def ki10 (h : Mh) : List Int := h.a ++ h.l
/-- Is what an instruction names there? -/
def th10 (d : Md) (h : Mh) (x : Ins) : Bool :=
  if x.1 = 1 then decide (x.2.1 < (d.p.length : Int)) else if x.1 = 2 ∨ x.1 = 3 then decide (x.2.1 < (h.a.length : Int) + h.l.length) else if x.1 = 4 ∨ x.1 = 5 then decide (x.2.1 < (d.g.length : Int)) else if x.1 = 30 then decide (x.2.1 < (d.s.length : Int)) else true
/-- The kind of a value of a row. -/
def pk10 (L : List Vlu) (a : Nat) : Int := (L[a]?.getD (0, 0, 0)).1
/-- A method's arguments and result. -/
def me10 (d : Md) (a : Nat) : Mh := (d.s[a]?.getD (Mh.zero, [])).1
/-- A place: whether it is reached, its row. -/
abbrev Rz := Bool × List Int
def z10 : Rz := (false, [])
def ix10 (c : List Ins) (p : Nat) : Ins := c[p]?.getD (0, 0, 0)
/-- The ways of one place, one by one. -/
def sw10 (nx : List Int) : List Int → List Rz → Option (List Rz)
  | [], S => some S
  | v :: W, S => if (S[v.toNat]?.getD z10).1 = true ∧ ¬ (S[v.toNat]?.getD z10).2 = nx then none else sw10 nx W (S.set v.toNat (true, nx))
def ini10 (n : Nat) : List Rz := (List.replicate n z10).set 0 (true, [])
/-- The greatest length. -/
def hg10 (S : List Rz) : Nat := S.foldl (fun n z => max n z.2.length) 0
section
variable {d : Md} {h : Mh} {c : List Ins} {p : Nat}
theorem sw10_len {nx : List Int} : ∀ {W : List Int} {S S' : List Rz}, sw10 nx W S = some S' → S'.length = S.length
  | [], S, S', hs => by rw [sw10] at hs; injection hs with hs; rw [hs]
  | v :: W, S, S', hs => by
    rw [sw10] at hs
    split at hs
    · cases hs
    · rw [sw10_len hs, List.length_set]
/-- What one place's ways do. -/
theorem sw10_spec {nx : List Int} : ∀ {W : List Int} {S S' : List Rz}, sw10 nx W S = some S' → (∀ v ∈ W, 0 ≤ v ∧ v < (S.length : Int)) →
    (∀ i : Nat, (S[i]?.getD z10).1 = true → S'[i]?.getD z10 = S[i]?.getD z10) ∧ (∀ v ∈ W, S'[v.toNat]?.getD z10 = (true, nx)) ∧ (∀ i : Nat, (i : Int) ∉ W → S'[i]?.getD z10 = S[i]?.getD z10)
  | [], S, S', hs, _ => by
    rw [sw10] at hs
    injection hs with hs
    subst hs
    exact ⟨fun i _ => rfl, fun v hv => (by cases hv), fun i _ => rfl⟩
  | v :: W, S, S', hs, hb => by
    rw [sw10] at hs
    split at hs
    · cases hs
    · rename_i hc
      obtain ⟨v0, v1⟩ := hb v List.mem_cons_self
      have hset : ∀ i : Nat, (S.set v.toNat (true, nx))[i]?.getD z10 = if i = v.toNat then (true, nx) else S[i]?.getD z10 := fun i => by
        rw [List.getElem?_set]
        by_cases hi : v.toNat = i
        · subst hi
          rw [if_pos rfl, if_pos rfl, if_pos (by omega)]
          rfl
        · rw [if_neg hi, if_neg (fun e => hi e.symm)]
      obtain ⟨k1, k2, k3⟩ := sw10_spec hs (fun u hu => by rw [List.length_set]; exact hb u (List.mem_cons_of_mem _ hu))
      have same : ∀ i : Nat, (S[i]?.getD z10).1 = true → (S.set v.toNat (true, nx))[i]?.getD z10 = S[i]?.getD z10 := fun i hi => by
        rw [hset]
        split
        · rename_i e
          subst e
          have h2 : (S[v.toNat]?.getD z10).2 = nx := Classical.byContradiction fun hn => hc ⟨hi, hn⟩
          rw [← hi, ← h2]
        · rfl
      refine ⟨fun i hi => ?_, fun u hu => ?_, fun i hi => ?_⟩
      · rw [k1 i (by rw [same i hi]; exact hi), same i hi]
      · by_cases huW : u ∈ W
        · exact k2 u huW
        · obtain rfl : u = v := by
            rcases List.mem_cons.1 hu with e | e
            · exact e
            · exact absurd e huW
          have e2 : ((u.toNat : Nat) : Int) = u := by omega
          rw [k1 u.toNat (by rw [hset, if_pos rfl]), hset, if_pos rfl]
      · have h1 : (i : Int) ∉ W := fun hh => hi (List.mem_cons_of_mem _ hh)
        have h2 : i ≠ v.toNat := fun hh => hi (by rw [hh, show ((v.toNat : Nat) : Int) = v by omega]; exact List.mem_cons_self)
        rw [k3 i h1, hset, if_neg h2]
end
end Go.Proofs.YtmgppdjbmhjmbaaGreat
namespace Go.Proofs.YtmgppdjbmhjmbaaGreat
open Go.RowKit
set_option maxRecDepth 100000
set_option linter.unusedSimpArgs false
set_option linter.unusedVariables false

/-- The ways of a place: where they lead. -/
theorem ahead9 {l : List Ins} (h : flE9 l = 0) {p : Nat} (hp : p < l.length) : (wy9 l p).length ≤ 2 ∧ ((wy9 l p).length = 0 ↔ (iO9 l p = 31 ∨ iO9 l p = 32)) ∧
    ∀ (i : Nat) (x : Int), (wy9 l p)[i]? = some x → (∃ y : Nat, x = (y : Int) ∧ y < l.length ∧ (p < y ∨ (iO9 l p = 29 ∧ x = iA9 l p + 1)) ∧ ∀ b ∈ lpU9 l l.length, wi9 b y = true → b.1 ≤ p ∧ p ≤ b.2.1) ∧ (∀ (j : Nat) (z : Int), j < i → (wy9 l p)[j]? = some z → z < x) := by
  have hw := wl9 h
  have hlast := hw.last
  have hin : ∀ q, wi9 q p = true → q.1 ≤ p ∧ p ≤ q.2.1 := fun q hq => by rw [wi9_iff] at hq; omega
  have hnx : ∀ q : Lp, wi9 q (p + 1) = true → q.1 ≤ p ∧ p ≤ q.2.1 := fun q hq => by rw [wi9_iff] at hq; omega
  have one : ∀ x : Int, ∀ (i : Nat) (z : Int), ([x] : List Int)[i]? = some z → z = x ∧ i = 0 := fun x i z hz => by
    match i, hz with
    | 0, hz => simp at hz; exact ⟨hz.symm, rfl⟩
  have two : ∀ x y : Int, ∀ (i : Nat) (z : Int), ([x, y] : List Int)[i]? = some z → (z = x ∧ i = 0) ∨ (z = y ∧ i = 1) := fun x y i z hz => by
    match i, hz with
    | 0, hz => simp at hz; exact .inl ⟨hz.symm, rfl⟩
    | 1, hz => simp at hz; exact .inr ⟨hz.symm, rfl⟩
  have none1 : ∀ x : Int, ∀ (i : Nat) (z : Int), ([x] : List Int)[i]? = some z → ∀ (j : Nat) (z' : Int), j < i → ([x] : List Int)[j]? = some z' → z' < z := fun x i z hz j z' hj _ => by
    rw [(one x i z hz).2] at hj
    exact absurd hj (Nat.not_lt_zero _)
  by_cases he : iO9 l p = 31 ∨ iO9 l p = 32
  · have e : wy9 l p = [] := by rw [wy9, if_pos he]
    rw [e]
    exact ⟨by simp, by simp [he], fun i x hx => by simp at hx⟩
  have hp1 : p + 1 < l.length := by
    by_cases hh : p + 1 < l.length
    · exact hh
    · exfalso
      apply he
      have : l.length - 1 = p := by omega
      rw [this] at hlast
      exact hlast
  have hpn : ∃ y : Nat, (p : Int) + 1 = y ∧ y < l.length ∧ (p < y ∨ (iO9 l p = 29 ∧ (p : Int) + 1 = iA9 l p + 1)) ∧ ∀ b ∈ lpU9 l l.length, wi9 b y = true → b.1 ≤ p ∧ p ≤ b.2.1 :=
    ⟨p + 1, by simp, hp1, .inl (by omega), fun b _ hb => hnx b hb⟩
  by_cases h26 : iO9 l p = 26
  · have e : wy9 l p = [iA9 l p] := by rw [wy9, if_neg he, if_pos h26]
    obtain ⟨j1, j2, j3⟩ := hw.jump p hp (.inl h26)
    rw [e]
    refine ⟨by simp, by simp; omega, fun i x hx => ⟨?_, none1 _ i x hx⟩⟩
    obtain ⟨rfl, -⟩ := one _ i x hx
    exact ⟨(iA9 l p).toNat, by omega, by omega, .inl (by omega), fun b hb hh => hin b (j3 b hb hh)⟩
  by_cases h27 : iO9 l p = 27
  · obtain ⟨j1, j2, j3⟩ := hw.jump p hp (.inr h27)
    have hA : ∃ y : Nat, iA9 l p = y ∧ y < l.length ∧ (p < y ∨ (iO9 l p = 29 ∧ iA9 l p = iA9 l p + 1)) ∧ ∀ b ∈ lpU9 l l.length, wi9 b y = true → b.1 ≤ p ∧ p ≤ b.2.1 :=
      ⟨(iA9 l p).toNat, by omega, by omega, .inl (by omega), fun b hb hh => hin b (j3 b hb hh)⟩
    by_cases hq : iA9 l p = p + 1
    · have e : wy9 l p = [iA9 l p] := by rw [wy9, if_neg he, if_neg h26, if_pos h27, if_pos hq]
      rw [e]
      refine ⟨by simp, by simp; omega, fun i x hx => ⟨?_, none1 _ i x hx⟩⟩
      obtain ⟨rfl, -⟩ := one _ i x hx
      exact hA
    · have e : wy9 l p = [(p : Int) + 1, iA9 l p] := by rw [wy9, if_neg he, if_neg h26, if_pos h27, if_neg hq]
      rw [e]
      refine ⟨by simp, by simp; omega, fun i x hx => ?_⟩
      rcases two _ _ i x hx with ⟨rfl, rfl⟩ | ⟨rfl, rfl⟩
      · exact ⟨hpn, fun j z hj => by omega⟩
      · refine ⟨hA, fun j z hj hz => ?_⟩
        obtain rfl : j = 0 := by omega
        simp at hz
        omega
  by_cases h29 : iO9 l p = 29
  · obtain ⟨x0, hx0, hxp⟩ := hw.ofA p hp h29
    obtain ⟨q1, q2, -, -, q5, -⟩ := hw.mem x0 hx0
    rw [hxp] at q1 q5
    have e : wy9 l p = [iA9 l p + 1, (p : Int) + 1] := by rw [wy9, if_neg he, if_neg h26, if_neg h27, if_pos h29]
    rw [e]
    refine ⟨by simp, by simp; omega, fun i x hx => ?_⟩
    rcases two _ _ i x hx with ⟨rfl, rfl⟩ | ⟨rfl, rfl⟩
    · refine ⟨⟨x0.1 + 1, by omega, by omega, .inr ⟨h29, rfl⟩, fun b hb hh => hin b ?_⟩, fun j z hj => by omega⟩
      have := hw.turn hx0 hb
      rw [hxp] at this
      rw [this]
      exact hh
    · refine ⟨hpn, fun j z hj hz => ?_⟩
      obtain rfl : j = 0 := by omega
      simp at hz
      omega
  have e : wy9 l p = [(p : Int) + 1] := by rw [wy9, if_neg he, if_neg h26, if_neg h27, if_neg h29]
  rw [e]
  refine ⟨by simp, by simp; omega, fun i x hx => ⟨?_, none1 _ i x hx⟩⟩
  obtain ⟨rfl, -⟩ := one _ i x hx
  exact hpn
end Go.Proofs.YtmgppdjbmhjmbaaGreat
namespace Go.Proofs.YtmgppdjbmhjmbaaGreat
open Go.RowKit
set_option maxRecDepth 100000
set_option linter.unusedSimpArgs false
set_option linter.unusedVariables false

/-- Two modules that rows do not tell apart, but for the method itself. -/
structure Sa10 (d d' : Md) : Prop where
  p : d'.p.map (fun v => v.1) = d.p.map (fun v => v.1)
  g : d'.g.map (fun v => v.1) = d.g.map (fun v => v.1)
  s : d'.s.map (fun z => (z.1.a, z.1.r)) = d.s.map (fun z => (z.1.a, z.1.r))
theorem pk10_same {L L' : List Vlu} (h : L'.map (fun v => v.1) = L.map (fun v => v.1)) (a : Nat) : pk10 L' a = pk10 L a := by
  have e : ∀ M : List Vlu, pk10 M a = ((M.map (fun v => v.1))[a]?).getD 0 := fun M => by
    rw [List.getElem?_map, pk10]; cases M[a]? <;> rfl
  rw [e, e, h]
theorem me10_same {d d' : Md} (h : d'.s.map (fun z => (z.1.a, z.1.r)) = d.s.map (fun z => (z.1.a, z.1.r))) (a : Nat) : (me10 d' a).a = (me10 d a).a ∧ (me10 d' a).r = (me10 d a).r := by
  have e : ∀ M : Md, ((me10 M a).a, (me10 M a).r) = ((M.s.map (fun z => (z.1.a, z.1.r)))[a]?).getD (Mh.zero.a, Mh.zero.r) := fun M => by
    rw [List.getElem?_map, me10]; cases M.s[a]? <;> rfl
  have e2 := (e d').trans ((congrArg (fun l => (l[a]?).getD (Mh.zero.a, Mh.zero.r)) h).trans (e d).symm)
  exact ⟨congrArg Prod.fst e2, congrArg Prod.snd e2⟩
theorem th10_same {d d' : Md} (S : Sa10 d d') {h h' : Mh} (ha : h'.a = h.a) (hl : h'.l = h.l) (x : Ins) : th10 d' h' x = th10 d h x := by
  have e1 : d'.p.length = d.p.length := by simpa using congrArg List.length S.p
  have e2 : d'.g.length = d.g.length := by simpa using congrArg List.length S.g
  have e3 : d'.s.length = d.s.length := by simpa using congrArg List.length S.s
  simp only [th10, e1, e2, e3, ha, hl]
section
variable {d : Md} {h : Mh} {c : List Ins}
end
section
variable {c : List Ins} {t : Nat} {y : Ins}
end
section
variable {d : Md} {h : Mh} {c : List Ins} {t : Nat} {y : Ins}
end
end Go.Proofs.YtmgppdjbmhjmbaaGreat
namespace Go.Proofs.YtmgppdjbmhjmbaaGreat
open Go.RowKit
set_option maxRecDepth 100000
set_option linter.unusedSimpArgs false
set_option linter.unusedVariables false

/-- The law's drop: a stack without some kinds, with others, or nothing. -/
def dp10 (R K G : List Int) : Option (List Int) :=
  if R.length < K.length then none else if (List.range K.length).all (fun i => K[i]?.getD 0 == 0 || K[i]?.getD 0 == R[R.length - K.length + i]?.getD 0) = true then some (R.take (R.length - K.length) ++ G) else none
/-- The law's step. -/
def st10 (d : Md) (h : Mh) (x : Ins) (R : List Int) : Option (List Int) :=
  if x.1 = 1 then some (R ++ [pk10 d.p x.2.1.toNat]) else
  if x.1 = 2 then some (R ++ [(ki10 h)[x.2.1.toNat]?.getD 0]) else
  if x.1 = 3 then dp10 R [(ki10 h)[x.2.1.toNat]?.getD 0] [] else
  if x.1 = 4 then some (R ++ [pk10 d.g x.2.1.toNat]) else
  if x.1 = 5 then dp10 R [pk10 d.g x.2.1.toNat] [] else
  if x.1 = 7 then (if R.length < 1 then none else some (R ++ [R[R.length - 1]?.getD 0])) else
  if x.1 = 8 then (if R.length < 2 then none else some ((R.take (R.length - 2) ++ [R[R.length - 1]?.getD 0]) ++ [R[R.length - 2]?.getD 0])) else
  if x.1 = 30 then dp10 R (me10 d x.2.1.toNat).a [(me10 d x.2.1.toNat).r] else
  if x.1 = 31 then dp10 R [h.r] [] else
  dp10 R (tkL x.1) (gvL x.1)
theorem hg10_ge {S : List Rz} : ∀ {n : Nat}, n ≤ S.foldl (fun n z => max n z.2.length) n ∧ ∀ z ∈ S, z.2.length ≤ S.foldl (fun n z => max n z.2.length) n := by
  induction S with
  | nil => exact fun {n} => ⟨Nat.le_refl _, fun z hz => (by cases hz)⟩
  | cons y S ih =>
    intro n
    rw [List.foldl_cons]
    have h := @ih (max n y.2.length)
    refine ⟨by omega, fun z hz => ?_⟩
    rcases List.mem_cons.1 hz with rfl | hz
    · omega
    · exact h.2 z hz
theorem hg10_mem {S : List Rz} {z : Rz} (h : z ∈ S) : z.2.length ≤ hg10 S := hg10_ge.2 z h
end Go.Proofs.YtmgppdjbmhjmbaaGreat
namespace Go.Proofs.YtmgppdjbmhjmbaaGreat
open Go.RowKit
set_option maxRecDepth 100000
set_option linter.unusedSimpArgs false
set_option linter.unusedVariables false

/-- One value is taken off a stack, of that kind (z: 0 is any kind): what is left, the error. -/
def st1 (z : Bool) (k : Int) (s : List Int × Int) : List Int × Int := if s.1.length = 0 then (s.1, 101) else (s.1.dropLast, if (z = false ∨ k ≠ 0) ∧ s.1.getLastD 0 ≠ k ∧ s.2 = 0 then 100 else s.2)
/-- What an instruction takes. -/
def K10 (d : Md) (h : Mh) (x : Ins) : Bool × List Int :=
  if x.1 = 3 then (false, [(ki10 h)[x.2.1.toNat]?.getD 0]) else
  if x.1 = 5 then (false, [pk10 d.g x.2.1.toNat]) else
  if x.1 = 7 then (true, [0]) else
  if x.1 = 8 then (true, [0, 0]) else
  if x.1 = 30 then (false, (me10 d x.2.1.toNat).a) else
  if x.1 = 31 then (false, [h.r]) else (true, tkL x.1)
/-- What it leaves, where it took these. -/
def lv10 (d : Md) (h : Mh) (x : Ins) (T : List Int) : List Int :=
  if x.1 = 1 then [pk10 d.p x.2.1.toNat] else
  if x.1 = 2 then [(ki10 h)[x.2.1.toNat]?.getD 0] else
  if x.1 = 4 then [pk10 d.g x.2.1.toNat] else
  if x.1 = 7 then [T[0]?.getD 0, T[0]?.getD 0] else
  if x.1 = 8 then [T[1]?.getD 0, T[0]?.getD 0] else
  if x.1 = 30 then [(me10 d x.2.1.toNat).r] else gvL x.1
/-- The stack behind what is taken. -/
def sk10 (d : Md) (h : Mh) (x : Ins) (R : List Int) : List Int × Int := (K10 d h x).2.foldr (st1 (K10 d h x).1) (R, 0)
/-- A row behind an instruction. -/
def af10s (d : Md) (h : Mh) (x : Ins) (R : List Int) : List Int × Int :=
  if (sk10 d h x R).2 = 0 then ((sk10 d h x R).1 ++ lv10 d h x (R.drop (sk10 d h x R).1.length), 0) else ([], (sk10 d h x R).2)
theorem st1_ok {z : Bool} {R : List Int} : ∀ {K : List Int}, (K.foldr (st1 z) (R, 0)).2 = 0 → K.length ≤ R.length ∧ (K.foldr (st1 z) (R, 0)).1 = R.take (R.length - K.length) ∧ ∀ i : Nat, i < K.length → (K[i]?.getD 0 = 0 ∨ K[i]?.getD 0 = R[R.length - K.length + i]?.getD 0)
  | [], _ => ⟨Nat.zero_le _, by simp, fun i hi => absurd hi (by simp)⟩
  | k :: K, h => by
    rw [List.foldr_cons] at h ⊢
    generalize hs : K.foldr (st1 z) (R, 0) = s at h ⊢
    unfold st1 at h ⊢
    by_cases h0 : s.1.length = 0
    · rw [if_pos h0] at h
      cases h
    rw [if_neg h0] at h ⊢
    have h2 : s.2 = 0 := Classical.byContradiction fun hn => by
      have hc : ¬ ((z = false ∨ k ≠ 0) ∧ s.1.getLastD 0 ≠ k ∧ s.2 = 0) := fun hh => hn hh.2.2
      dsimp only at h
      rw [if_neg hc] at h
      exact hn h
    have ih := st1_ok (z := z) (R := R) (K := K) (by rw [hs]; exact h2)
    rw [hs] at ih
    obtain ⟨i1, i2, i3⟩ := ih
    have hl : s.1.length = R.length - K.length := by rw [i2, List.length_take]; omega
    have hk : k = 0 ∨ k = s.1.getLastD 0 := by
      by_cases hk0 : k = 0
      · exact .inl hk0
      · refine .inr (Classical.byContradiction fun hn => ?_)
        dsimp only at h
        rw [if_pos ⟨.inr hk0, fun e => hn e.symm, h2⟩] at h
        cases h
    refine ⟨by simp only [List.length_cons]; omega, ?_, fun i hi => ?_⟩
    · dsimp only
      rw [List.dropLast_eq_take, hl, i2, List.take_take, List.length_cons]
      congr 1
      omega
    · match i with
      | 0 =>
        have e : s.1.getLastD 0 = R[R.length - (k :: K).length + 0]?.getD 0 := by
          rw [List.getLastD_eq_getLast?, List.getLast?_eq_getElem?, hl, i2, List.getElem?_take, if_pos (by omega), List.length_cons]
          congr 2
        rw [← e]
        simpa using hk
      | i + 1 =>
        simp only [List.length_cons] at hi ⊢
        have := i3 i (by omega)
        rw [List.getElem?_cons_succ, show R.length - (K.length + 1) + (i + 1) = R.length - K.length + i by omega]
        exact this
theorem st1_dp {z : Bool} {R K : List Int} (h : (K.foldr (st1 z) (R, 0)).2 = 0) (G : List Int) : dp10 R K G = some ((K.foldr (st1 z) (R, 0)).1 ++ G) := by
  obtain ⟨b1, b2, b3⟩ := st1_ok h
  unfold dp10
  rw [if_neg (by omega), if_pos, b2]
  rw [List.all_eq_true]
  intro i hi
  have hi := List.mem_range.1 hi
  simpa using b3 i hi
theorem sk10_len {d : Md} {h : Mh} {x : Ins} {R : List Int} (he : (sk10 d h x R).2 = 0) : (sk10 d h x R).1 = R.take (R.length - (K10 d h x).2.length) ∧ (K10 d h x).2.length ≤ R.length := ⟨(st1_ok he).2.1, (st1_ok he).1⟩
theorem gv10 {o : Int} (h : o = 3 ∨ o = 5 ∨ o = 31) : gvL o = [] := (tk_open (by rcases h with rfl | rfl | rfl <;> rfl)).2
theorem gv10_len (o : Int) : (gvL o).length ≤ 1 := by
  unfold gvL
  split
  · simp
  split
  · simp
  split <;> simp
theorem tk10_open {o : Int} (h : o = 1 ∨ o = 2 ∨ o = 4) : tkL o = [] := (tk_open (by rcases h with rfl | rfl | rfl <;> rfl)).1
/-- What is told behind an instruction, the law's step tells, too. -/
theorem st10s_ok {d : Md} {h : Mh} {x : Ins} {R nx : List Int} (ha : af10s d h x R = (nx, 0)) : st10 d h x R = some nx := by
  unfold af10s at ha
  by_cases h0 : (sk10 d h x R).2 = 0
  case neg =>
    rw [if_neg h0] at ha
    injection ha with _ ha
    exact absurd ha h0
  rw [if_pos h0] at ha
  injection ha with ha _
  obtain ⟨k1, k2⟩ := sk10_len h0
  have dp := fun G => st1_dp (z := (K10 d h x).1) (R := R) (K := (K10 d h x).2) h0 G
  rw [show ((K10 d h x).2.foldr (st1 (K10 d h x).1) (R, 0)).1 = (sk10 d h x R).1 from rfl] at dp
  subst ha
  have l0 : (sk10 d h x R).1.length = R.length - (K10 d h x).2.length := by rw [k1, List.length_take]; omega
  unfold st10
  by_cases c1 : x.1 = 1
  · rw [if_pos c1, k1]
    simp [K10, lv10, c1, tk10_open (.inl rfl)]
  by_cases c2 : x.1 = 2
  · rw [if_neg c1, if_pos c2, k1]
    simp [K10, lv10, c2, tk10_open (.inr (.inl rfl))]
  by_cases c3 : x.1 = 3
  · have e1 : (K10 d h x).2 = [(ki10 h)[x.2.1.toNat]?.getD 0] := by simp [K10, c3]
    have e2 : ∀ T, lv10 d h x T = [] := fun T => by simp [lv10, c3, gv10 (.inl rfl)]
    rw [if_neg c1, if_neg c2, if_pos c3, ← e1, dp, e2]
  by_cases c4 : x.1 = 4
  · rw [if_neg c1, if_neg c2, if_neg c3, if_pos c4, k1]
    simp [K10, lv10, c4, tk10_open (.inr (.inr rfl))]
  by_cases c5 : x.1 = 5
  · have e1 : (K10 d h x).2 = [pk10 d.g x.2.1.toNat] := by simp [K10, c5]
    have e2 : ∀ T, lv10 d h x T = [] := fun T => by simp [lv10, c5, gv10 (.inr (.inl rfl))]
    rw [if_neg c1, if_neg c2, if_neg c3, if_neg c4, if_pos c5, ← e1, dp, e2]
  by_cases c7 : x.1 = 7
  · have e1 : (K10 d h x).2.length = 1 := by simp [K10, c7]
    rw [e1] at k1 k2 l0
    rw [if_neg c1, if_neg c2, if_neg c3, if_neg c4, if_neg c5, if_pos c7, if_neg (by omega), l0, k1]
    have e2 : ∀ T, lv10 d h x T = [T[0]?.getD 0, T[0]?.getD 0] := fun T => by simp [lv10, c7]
    rw [e2, List.getElem?_drop, Nat.add_zero]
    congr 1
    have hR : R = R.take (R.length - 1) ++ [R[R.length - 1]?.getD 0] := by
      conv => lhs; rw [← List.take_append_drop (R.length - 1) R]
      congr 1
      rw [List.getElem?_eq_getElem (show R.length - 1 < R.length by omega), Option.getD_some, List.drop_eq_getElem_cons (show R.length - 1 < R.length by omega), List.drop_of_length_le (by omega)]
    have hq : R ++ [R[R.length - 1]?.getD 0] = R.take (R.length - 1) ++ [R[R.length - 1]?.getD 0, R[R.length - 1]?.getD 0] := by
      rw [List.append_cons (R.take (R.length - 1)) _ [_], ← hR]
    first | exact hq | exact hq.symm
  by_cases c8 : x.1 = 8
  · have e1 : (K10 d h x).2.length = 2 := by simp [K10, c8]
    rw [e1] at k1 k2 l0
    rw [if_neg c1, if_neg c2, if_neg c3, if_neg c4, if_neg c5, if_neg c7, if_pos c8, if_neg (by omega), l0, k1]
    have e2 : ∀ T, lv10 d h x T = [T[1]?.getD 0, T[0]?.getD 0] := fun T => by simp [lv10, c8]
    rw [e2, List.getElem?_drop, List.getElem?_drop, Nat.add_zero, show R.length - 2 + 1 = R.length - 1 by omega]
    simp
  by_cases c30 : x.1 = 30
  · have e1 : (K10 d h x).2 = (me10 d x.2.1.toNat).a := by simp [K10, c30]
    have e2 : ∀ T, lv10 d h x T = [(me10 d x.2.1.toNat).r] := fun T => by simp [lv10, c30]
    rw [if_neg c1, if_neg c2, if_neg c3, if_neg c4, if_neg c5, if_neg c7, if_neg c8, if_pos c30, ← e1, dp, e2]
  by_cases c31 : x.1 = 31
  · have e1 : (K10 d h x).2 = [h.r] := by simp [K10, c31]
    have e2 : ∀ T, lv10 d h x T = [] := fun T => by simp [lv10, c31, gv10 (.inr (.inr rfl))]
    rw [if_neg c1, if_neg c2, if_neg c3, if_neg c4, if_neg c5, if_neg c7, if_neg c8, if_neg c30, if_pos c31, ← e1, dp, e2]
  · have e1 : (K10 d h x).2 = tkL x.1 := by simp [K10, c3, c5, c7, c8, c30, c31]
    have e2 : ∀ T, lv10 d h x T = gvL x.1 := fun T => by simp [lv10, c1, c2, c4, c7, c8, c30]
    rw [if_neg c1, if_neg c2, if_neg c3, if_neg c4, if_neg c5, if_neg c7, if_neg c8, if_neg c30, if_neg c31, ← e1, dp, e2]
theorem lv10_len (d : Md) (h : Mh) (x : Ins) (T : List Int) : (lv10 d h x T).length ≤ 2 := by
  unfold lv10
  split
  · simp
  split
  · simp
  split
  · simp
  split
  · simp
  split
  · simp
  split
  · simp
  exact Nat.le_trans (gv10_len x.1) (by omega)
theorem af10s_bd (d : Md) (h : Mh) (x : Ins) (R : List Int) : (af10s d h x R).1.length ≤ R.length + 2 := by
  unfold af10s
  split
  · rename_i h0
    have := lv10_len d h x (R.drop (sk10 d h x R).1.length)
    have := (sk10_len h0).1
    have : (sk10 d h x R).1.length ≤ R.length := by rw [this, List.length_take]; omega
    simp only [List.length_append]
    omega
  · simp
theorem af10s_same {d d' : Md} (S : Sa10 d d') {h h' : Mh} (ha : h'.a = h.a) (hl : h'.l = h.l) (hr : h'.r = h.r) (x : Ins) (R : List Int) : af10s d' h' x R = af10s d h x R := by
  have e1 := pk10_same S.p
  have e2 := pk10_same S.g
  have e3 := fun a => (me10_same S.s a).1
  have e4 := fun a => (me10_same S.s a).2
  have f1 : K10 d' h' x = K10 d h x := by simp only [K10, ki10, e2, e3, ha, hl, hr]
  have f2 : ∀ T, lv10 d' h' x T = lv10 d h x T := fun T => by simp only [lv10, ki10, e1, e2, e4, ha, hl]
  have f3 : sk10 d' h' x R = sk10 d h x R := by rw [sk10, f1, ← sk10]
  rw [af10s, f3, f2, ← af10s]

/-- The rows, when the places ahead of p were gone through. -/
def rs10s (d : Md) (h : Mh) (c : List Ins) : Nat → List Rz × Int
  | 0 => (ini10 c.length, 0)
  | p + 1 =>
    if (rs10s d h c p).2 = 0 then
      (if ((rs10s d h c p).1[p]?.getD z10).1 = true then
        (if (af10s d h (ix10 c p) ((rs10s d h c p).1[p]?.getD z10).2).2 = 0 then
          (match sw10 (af10s d h (ix10 c p) ((rs10s d h c p).1[p]?.getD z10).2).1 (wy9 c p) (rs10s d h c p).1 with
          | some S => (S, 0)
          | none => ([], 100))
        else ([], (af10s d h (ix10 c p) ((rs10s d h c p).1[p]?.getD z10).2).2))
      else ((rs10s d h c p).1, 0))
    else ([], (rs10s d h c p).2)
/-- The rows of a method, and its error. -/
def rm10s (d : Md) (h : Mh) (c : List Ins) : List Rz × Int :=
  if flE9 c = 0 then (if c.all (th10 d h) = true then (if (rs10s d h c c.length).2 = 0 then ((rs10s d h c c.length).1, 0) else ([], (rs10s d h c c.length).2)) else ([], 100)) else ([], flE9 c)
def rw10s (d : Md) (k : Int) : List Rz × Int := if k < 0 ∨ (d.s.length : Int) ≤ k then ([], 2) else rm10s d (d.s[k.toNat]?.getD (Mh.zero, [])).1 (d.s[k.toNat]?.getD (Mh.zero, [])).2
section
variable {d : Md} {h : Mh} {c : List Ins} {p : Nat}
/-- One step, in words. -/
theorem rs10s_skip (h0 : (rs10s d h c p).2 = 0) (hr : ((rs10s d h c p).1[p]?.getD z10).1 = false) : rs10s d h c (p + 1) = ((rs10s d h c p).1, 0) := by
  rw [rs10s, if_pos h0, if_neg (by rw [hr]; decide)]
end
section
variable {d : Md} {h : Mh} {c : List Ins} {p : Nat}
theorem rs10s_err (h0 : (rs10s d h c p).2 = 0) (hr : ((rs10s d h c p).1[p]?.getD z10).1 = true) {e : Int} (ha : (af10s d h (ix10 c p) ((rs10s d h c p).1[p]?.getD z10).2).2 = e) (he : e ≠ 0) : rs10s d h c (p + 1) = ([], e) := by
  rw [rs10s, if_pos h0, if_pos hr, if_neg (by rw [ha]; exact he), ha]
end
section
variable {d : Md} {h : Mh} {c : List Ins} {p : Nat}
theorem rs10s_ways (h0 : (rs10s d h c p).2 = 0) (hr : ((rs10s d h c p).1[p]?.getD z10).1 = true) {nx : List Int} (ha : af10s d h (ix10 c p) ((rs10s d h c p).1[p]?.getD z10).2 = (nx, 0)) :
    rs10s d h c (p + 1) = match sw10 nx (wy9 c p) (rs10s d h c p).1 with
      | some S => (S, 0)
      | none => ([], 100) := by
  rw [rs10s, if_pos h0, if_pos hr, if_pos (by rw [ha]), ha]
end
section
variable {d : Md} {h : Mh} {c : List Ins} {p : Nat}
theorem rs10s_stop (h0 : (rs10s d h c p).2 ≠ 0) : ∀ q, p ≤ q → (rs10s d h c q).2 = (rs10s d h c p).2 := by
  intro q hq
  obtain ⟨k, rfl⟩ : ∃ k, q = p + k := ⟨q - p, by omega⟩
  clear hq
  induction k with
  | zero => rfl
  | succ k ih => rw [← Nat.add_assoc, rs10s, if_neg (by rw [ih]; exact h0)]; exact ih
end
section
variable {d : Md} {h : Mh} {c : List Ins} {p : Nat}
theorem rs10s_len : ∀ p, (rs10s d h c p).2 = 0 → (rs10s d h c p).1.length = c.length
  | 0, _ => by simp [rs10s, ini10]
  | p + 1, h0 => by
    by_cases h1 : (rs10s d h c p).2 = 0
    · have ih := rs10s_len p h1
      cases hr : ((rs10s d h c p).1[p]?.getD z10).1 with
      | false => rw [rs10s_skip h1 hr]; exact ih
      | true =>
        obtain ⟨nx, e, ha⟩ : ∃ nx e, af10s d h (ix10 c p) ((rs10s d h c p).1[p]?.getD z10).2 = (nx, e) := ⟨_, _, rfl⟩
        by_cases he : e = 0
        · subst he
          rw [rs10s_ways h1 hr ha] at h0 ⊢
          cases hs : sw10 nx (wy9 c p) (rs10s d h c p).1 with
          | none => rw [hs] at h0; cases h0
          | some S => dsimp only; rw [sw10_len hs]; exact ih
        · rw [rs10s_err h1 hr (by rw [ha]) he] at h0
          exact absurd h0 he
    · have := rs10s_stop h1 (p + 1) (by omega)
      rw [h0] at this
      exact absurd this.symm h1
end
/-- What holds of the rows when the places ahead of p were gone through. -/
structure In10s (d : Md) (h : Mh) (c : List Ins) (p : Nat) (S : List Rz) : Prop where
  first : S[0]?.getD z10 = (true, [])
  none_ : ∀ i : Nat, (S[i]?.getD z10).1 = false → S[i]?.getD z10 = z10
  step : ∀ j : Nat, j < p → (S[j]?.getD z10).1 = true → ∃ nx, af10s d h (ix10 c j) (S[j]?.getD z10).2 = (nx, 0) ∧ ∀ v ∈ wy9 c j, S[v.toNat]?.getD z10 = (true, nx)
  loops : ∀ b ∈ lpU9 c c.length, ∀ i : Nat, wi9 b i = true → (S[i]?.getD z10).1 = true → (S[b.1 + 1]?.getD z10).1 = true
  led : ∀ i : Nat, 0 < i → (S[i]?.getD z10).1 = true → ∃ j, j < i ∧ j < p ∧ (S[j]?.getD z10).1 = true ∧ (i : Int) ∈ wy9 c j
theorem rs10s_inv {d : Md} {h : Mh} {c : List Ins} (hc : flE9 c = 0) : ∀ p, p ≤ c.length → (rs10s d h c p).2 = 0 → In10s d h c p (rs10s d h c p).1
  | 0, _, _ => by
    have hp := (codM_all (flE9_zero hc).1).1
    have at0 : ∀ i : Nat, (rs10s d h c 0).1[i]?.getD z10 = if i = 0 then (true, []) else z10 := fun i => by
      simp only [rs10s, ini10]
      rw [List.getElem?_set]
      by_cases hi : 0 = i
      · subst hi
        rw [if_pos rfl, if_pos rfl, if_pos (by simp; omega)]
        rfl
      · rw [if_neg hi, if_neg (fun e => hi e.symm), List.getElem?_replicate]
        split <;> rfl
    refine ⟨by rw [at0, if_pos rfl], fun i hi => ?_, fun j hj => by omega, fun b hb i hw hi => ?_, fun i h0 hi => ?_⟩
    · rw [at0] at hi ⊢
      split at hi
      · cases hi
      · rename_i h0; rw [if_neg h0]
    · rw [at0] at hi
      split at hi
      · rename_i h0
        rw [wi9_iff] at hw
        omega
      · cases hi
    · rw [at0, if_neg (by omega)] at hi
      cases hi
  | p + 1, hp, h0 => by
    by_cases h1 : (rs10s d h c p).2 = 0
    · have ih := rs10s_inv hc p (by omega) h1
      have hlen := rs10s_len (d := d) (h := h) (c := c) p h1
      cases hr : ((rs10s d h c p).1[p]?.getD z10).1 with
      | false =>
        rw [rs10s_skip h1 hr]
        refine ⟨ih.first, ih.none_, fun j hj hh => ?_, ih.loops, fun i hi hh => ?_⟩
        · by_cases hjp : j < p
          · exact ih.step j hjp hh
          · obtain rfl : j = p := by omega
            dsimp only at hh
            rw [hr] at hh
            cases hh
        · obtain ⟨j, j1, j2, j3⟩ := ih.led i hi hh
          exact ⟨j, j1, by omega, j3⟩
      | true =>
        obtain ⟨nx, e, ha⟩ : ∃ nx e, af10s d h (ix10 c p) ((rs10s d h c p).1[p]?.getD z10).2 = (nx, e) := ⟨_, _, rfl⟩
        by_cases he : e = 0
        · subst he
          rw [rs10s_ways h1 hr ha] at h0 ⊢
          cases hs : sw10 nx (wy9 c p) (rs10s d h c p).1 with
          | none => rw [hs] at h0; cases h0
          | some S =>
            dsimp only
            generalize (rs10s d h c p).1 = S0 at ih hlen hr ha hs
            obtain ⟨-, -, hah⟩ := ahead9 hc (p := p) (by omega)
            have hW : ∀ v ∈ wy9 c p, ∃ y : Nat, v = (y : Int) ∧ y < c.length ∧ (p < y ∨ (iO9 c p = 29 ∧ v = iA9 c p + 1)) ∧ ∀ b ∈ lpU9 c c.length, wi9 b y = true → b.1 ≤ p ∧ p ≤ b.2.1 := fun v hv => by
              obtain ⟨i, hi, rfl⟩ := List.getElem_of_mem hv
              exact (hah i _ (List.getElem?_eq_getElem hi)).1
            obtain ⟨k1, k2, k3⟩ := sw10_spec hs (fun v hv => by
              obtain ⟨y, rfl, hy, -⟩ := hW v hv
              rw [hlen]
              omega)
            have hwl := wl9 hc
            -- a way that leads back leads to what is reached
            have hback : ∀ y : Nat, (y : Int) ∈ wy9 c p → ¬ p < y → (S0[y]?.getD z10).1 = true := fun y hy hn => by
              obtain ⟨y', e', hy1, hy2, hy3⟩ := hW _ hy
              obtain rfl : y = y' := by omega
              rcases hy2 with hy2 | ⟨h29, hA⟩
              · exact absurd hy2 hn
              · obtain ⟨b, hb, hbp⟩ := hwl.ofA p (by omega) h29
                obtain ⟨q1, q2, -, -, q5, -⟩ := hwl.mem b hb
                rw [hbp] at q1 q5
                have : y = b.1 + 1 := by omega
                rw [this]
                exact ih.loops b hb p (by rw [wi9_iff]; omega) hr
            have hsame : ∀ j : Nat, j ≤ p → S[j]?.getD z10 = S0[j]?.getD z10 := fun j hj => by
              by_cases hm : (j : Int) ∈ wy9 c p
              · exact k1 j (hback j hm (by omega))
              · exact k3 j hm
            refine ⟨by rw [hsame 0 (by omega)]; exact ih.first, fun i hi => ?_, fun j hj hh => ?_, fun b hb i hw hi => ?_, fun i hi0 hi => ?_⟩
            · by_cases hm : (i : Int) ∈ wy9 c p
              · have := k2 _ hm
                rw [Int.toNat_natCast] at this
                rw [this] at hi
                cases hi
              · rw [k3 i hm] at hi ⊢
                exact ih.none_ i hi
            · by_cases hjp : j < p
              · rw [hsame j (by omega)] at hh ⊢
                obtain ⟨nx', n1, n2⟩ := ih.step j hjp hh
                exact ⟨nx', n1, fun v hv => by rw [k1 _ (by rw [n2 v hv]), n2 v hv]⟩
              · obtain rfl : j = p := by omega
                rw [hsame j (Nat.le_refl _)]
                exact ⟨nx, ha, k2⟩
            · by_cases hi0 : (S0[i]?.getD z10).1 = true
              · have := ih.loops b hb i hw hi0
                rw [k1 _ this]
                exact this
              · have hm : (i : Int) ∈ wy9 c p := Classical.byContradiction fun hn => by
                  rw [k3 i hn] at hi
                  exact hi0 hi
                obtain ⟨y', e', hy1, hy2, hy3⟩ := hW _ hm
                obtain rfl : i = y' := by omega
                obtain ⟨u1, u2⟩ := hy3 b hb hw
                obtain ⟨q1, q2, q3, -⟩ := hwl.mem b hb
                by_cases hbp : b.1 = p
                · rw [hbp] at q3
                  have hwy : wy9 c p = [(p : Int) + 1] := by
                    rw [wy9, if_neg (by omega), if_neg (by omega), if_neg (by omega), if_neg (by omega)]
                  rw [hwy, List.mem_singleton] at hm
                  have : b.1 + 1 = i := by omega
                  rw [this]
                  exact hi
                · have := ih.loops b hb p (by rw [wi9_iff]; omega) hr
                  rw [k1 _ this]
                  exact this
            · by_cases hi1 : (S0[i]?.getD z10).1 = true
              · obtain ⟨j, j1, j2, j3, j4⟩ := ih.led i hi0 hi1
                exact ⟨j, j1, by omega, by rw [k1 _ j3]; exact j3, j4⟩
              · have hm : (i : Int) ∈ wy9 c p := Classical.byContradiction fun hn => by
                  rw [k3 i hn] at hi
                  exact hi1 hi
                have hpi : p < i := Classical.byContradiction fun hn => hi1 (hback i hm hn)
                exact ⟨p, hpi, by omega, by rw [hsame p (Nat.le_refl _)]; exact hr, hm⟩
        · rw [rs10s_err h1 hr (by rw [ha]) he] at h0
          exact absurd h0 he
    · have := rs10s_stop h1 (p + 1) (by omega)
      rw [h0] at this
      exact absurd this.symm h1
theorem rs10s_same {d d' : Md} (S : Sa10 d d') {h h' : Mh} (ha : h'.a = h.a) (hl : h'.l = h.l) (hr : h'.r = h.r) (c : List Ins) : ∀ p, rs10s d' h' c p = rs10s d h c p
  | 0 => rfl
  | p + 1 => by
    have ih := rs10s_same S ha hl hr c p
    simp only [rs10s, ih, af10s_same S ha hl hr]
theorem rm10s_same {d d' : Md} (S : Sa10 d d') {h h' : Mh} (ha : h'.a = h.a) (hl : h'.l = h.l) (hr : h'.r = h.r) (c : List Ins) : rm10s d' h' c = rm10s d h c := by
  have e : (th10 d' h') = th10 d h := funext fun x => th10_same S ha hl x
  simp only [rm10s, rs10s_same S ha hl hr, e]
/-- Rows hang on kinds, on the method's own code, alone. -/
theorem rw10s_same {d d' : Md} (S : Sa10 d d') {k : Int} (hm : ∀ z z', 0 ≤ k → d.s[k.toNat]? = some z → d'.s[k.toNat]? = some z' → z'.1.l = z.1.l ∧ z'.2 = z.2) : rw10s d' k = rw10s d k := by
  have e3 : d'.s.length = d.s.length := by simpa using congrArg List.length S.s
  unfold rw10s
  rw [e3]
  by_cases hk : k < 0 ∨ (d.s.length : Int) ≤ k
  · rw [if_pos hk, if_pos hk]
  · rw [if_neg hk, if_neg hk]
    have h1 : k.toNat < d.s.length := by omega
    obtain ⟨z, hz⟩ : ∃ z, d.s[k.toNat]? = some z := ⟨_, List.getElem?_eq_getElem h1⟩
    obtain ⟨z', hz'⟩ : ∃ z, d'.s[k.toNat]? = some z := ⟨_, List.getElem?_eq_getElem (by rw [e3]; exact h1)⟩
    obtain ⟨hl, hc⟩ := hm z z' (by omega) hz hz'
    have := me10_same S.s k.toNat
    simp only [me10, hz, hz', Option.getD_some] at this
    rw [hz, hz']
    simp only [Option.getD_some, hc]
    exact rm10s_same S this.1 hl this.2 _
section
variable {d : Md} {h : Mh} {c : List Ins}
end
section
variable {d : Md} {h : Mh} {c : List Ins} {t : Nat} {y : Ins}
end
section
variable {d : Md} {h : Mh} {c : List Ins} {t : Nat} {y : Ins}
end
section
variable {d : Md} {h : Mh} {c : List Ins} {t : Nat} {y : Ins}
end
/-- What the rows of a method that flows well hold, at the end. -/
theorem rm10s_ok {d : Md} {h : Mh} {c : List Ins} (he : (rm10s d h c).2 = 0) : flE9 c = 0 ∧ c.all (th10 d h) = true ∧ (rm10s d h c).1 = (rs10s d h c c.length).1 ∧ (rs10s d h c c.length).2 = 0 ∧ (rm10s d h c).1.length = c.length ∧ In10s d h c c.length (rm10s d h c).1 := by
  unfold rm10s at he ⊢
  by_cases hc : flE9 c = 0
  · rw [if_pos hc] at he ⊢
    by_cases ha : c.all (th10 d h) = true
    · rw [if_pos ha] at he ⊢
      by_cases h0 : (rs10s d h c c.length).2 = 0
      · rw [if_pos h0]
        exact ⟨hc, ha, rfl, h0, rs10s_len _ h0, rs10s_inv hc _ (Nat.le_refl _) h0⟩
      · rw [if_neg h0] at he
        exact absurd he h0
    · rw [if_neg ha] at he
      cases he
  · rw [if_neg hc] at he
    exact absurd he hc
/-- One step of a run: behind a reached place, whichever way it goes, there stands what is told. -/
theorem run10s {d : Md} {h : Mh} {c : List Ins} {S : List Rz} (hI : In10s d h c c.length S) (hc : flE9 c = 0) {p : Nat} (hp : p < c.length) (hr : (S[p]?.getD z10).1 = true) :
    ∃ nx, st10 d h (ix10 c p) (S[p]?.getD z10).2 = some nx ∧ ∀ v ∈ wy9 c p, ∃ y : Nat, v = (y : Int) ∧ y < c.length ∧ S[y]?.getD z10 = (true, nx) := by
  obtain ⟨nx, ha, hv⟩ := hI.step p hp hr
  refine ⟨nx, st10s_ok ha, fun v hm => ?_⟩
  obtain ⟨j, hj⟩ := List.getElem?_of_mem hm
  obtain ⟨⟨y, rfl, hy, -⟩, -⟩ := (ahead9 hc hp).2.2 j v hj
  exact ⟨y, rfl, hy, by simpa using hv _ hm⟩
end Go.Proofs.YtmgppdjbmhjmbaaGreat
namespace Go.Proofs.YtmgppdjbmhjmbaaGreat
open Go.RowKit
set_option maxRecDepth 100000
set_option linter.unusedSimpArgs false
set_option linter.unusedVariables false

section
variable {w w' : World} {B : Nat} {f : Nat → Bool}
end
/-- A row at place i holds at most 2 i values. -/
theorem in10s_len {d : Md} {h : Mh} {c : List Ins} {p : Nat} {S : List Rz} (hI : In10s d h c p S) : ∀ i : Nat, (S[i]?.getD z10).2.length ≤ 2 * i := by
  intro i
  induction i using Nat.strongRecOn with
  | ind i ih =>
    cases hr : (S[i]?.getD z10).1 with
    | false => rw [hI.none_ i hr]; simp [z10]
    | true =>
      by_cases h0 : i = 0
      · subst h0
        rw [hI.first]
        simp
      · obtain ⟨j, h1, h2, h3, h4⟩ := hI.led i (by omega) hr
        obtain ⟨nx, ha, hv⟩ := hI.step j h2 h3
        have := hv _ h4
        rw [Int.toNat_natCast] at this
        rw [this]
        have e := af10s_bd d h (ix10 c j) (S[j]?.getD z10).2
        rw [ha] at e
        have := ih j h1
        dsimp only at e ⊢
        omega
/-- What holds where rows are told. -/
theorem rw10s_ok {d : Md} {k : Int} (he : (rw10s d k).2 = 0) : ∃ (n : Nat) (h : Mh) (c : List Ins), k = n ∧ n < d.s.length ∧ d.s[n]? = some (h, c) ∧ flE9 c = 0 ∧ c.all (th10 d h) = true ∧ (rw10s d k).1.length = c.length ∧ In10s d h c c.length (rw10s d k).1 := by
  unfold rw10s at he ⊢
  split
  · rename_i hk
    rw [if_pos hk] at he
    cases he
  · rename_i hk
    rw [if_neg hk] at he
    have hn : k.toNat < d.s.length := by omega
    have e := List.getElem?_eq_getElem hn
    rw [e] at he ⊢
    obtain ⟨h1, h2, h3, h4, h5, h6⟩ := rm10s_ok he
    exact ⟨k.toNat, _, _, by omega, hn, e, h1, h2, h5, h6⟩
end Go.Proofs.YtmgppdjbmhjmbaaGreat
