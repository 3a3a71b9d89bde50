/-
  Rj, Fr, Fk: in one text.
-/
import Derived.Test.YtimjnmkfbdijeaaLs
import Derived.ArgAppend
namespace Go.Proofs.Ytimjnmkfbdijeaa
open Go.RowKit
set_option maxRecDepth 100000
set_option linter.unusedSimpArgs false
set_option linter.unusedVariables false

def LpOk (_x : Lp) : Prop := True
/-- The slice at A, of capacity c, reads as the values L. -/
def Rj (w : World) (A : Option Addr) (c : Nat) (L : List Lp) : Prop :=
  (∀ x ∈ L, LpOk x) ∧ L.length ≤ c ∧ c ≤ maxLen ∧ ((A = none ∧ c = 0) ∨ ∃ ad : Addr, A = some ad ∧ ∀ i x, L[i]? = some x → w.cell? (ad.add (i * 3)) = some (.int .i64 x.1) ∧ w.cell? ⟨(ad.add (i * 3)).block, (ad.add (i * 3)).off + 1, none⟩ = some (.int .i64 x.2.1) ∧ w.cell? ⟨(ad.add (i * 3)).block, (ad.add (i * 3)).off + 2, none⟩ = some (.int .i64 x.2.2))
/-- The cells of values. -/
def cej (L : List Lp) : List Value := L.flatMap fun x => [.int .i64 x.1, .int .i64 x.2.1, .int .i64 x.2.2]
section
variable {w w' : World} {A : Option Addr} {c : Nat} {L : List Lp}
theorem Rj.le (h : Rj w A c L) : L.length ≤ c := h.2.1
theorem Rj.len (h : Rj w A c L) : L.length ≤ 9223372036854775807 := Nat.le_trans h.le h.2.2.1
theorem Rj.at_ (h : Rj w A c L) {i : Nat} (hi : i < L.length) : ∃ ad : Addr, A = some ad ∧ w.cell? (ad.add (i * 3)) = some (.int .i64 (L[i]).1) ∧ w.cell? ⟨(ad.add (i * 3)).block, (ad.add (i * 3)).off + 1, none⟩ = some (.int .i64 (L[i]).2.1) ∧ w.cell? ⟨(ad.add (i * 3)).block, (ad.add (i * 3)).off + 2, none⟩ = some (.int .i64 (L[i]).2.2) := by
  rcases h.2.2.2 with ⟨_, hc⟩ | ⟨ad, ha, hc⟩
  · have := h.le; omega
  · exact ⟨ad, ha, hc i _ (List.getElem?_eq_getElem hi)⟩
theorem Rj.none_ (w : World) : Rj w none 0 [] := ⟨fun x hx => (by cases hx), Nat.le_refl _, Nat.zero_le _, .inl ⟨rfl, rfl⟩⟩
theorem Rj.keep (h : Rj w A c L) (hb : Below w.heap.size w w') : Rj w' A c L := by
  refine ⟨h.1, h.2.1, h.2.2.1, ?_⟩
  rcases h.2.2.2 with hn | ⟨ad, ha, hc⟩
  · exact .inl hn
  · refine .inr ⟨ad, ha, fun i x hx => ?_⟩
    obtain ⟨h1, h2, h3⟩ := hc i x hx
    exact ⟨(hb.cell (cell_lt h1)).trans h1, (hb.cell (cell_lt h2)).trans h2, (hb.cell (cell_lt h3)).trans h3⟩
theorem Rj.drewN (h : Rj w A c L) (q : Nat) : Rj (w.drewN q) A c L := h
end
abbrev fJ (A : Option Addr) (c : Nat) (L : List Lp) : Fct := ⟨fun w => Rj w A c L, fun _ _ h hb => h.keep hb⟩

theorem length_cej (L : List Lp) : (cej L).length = L.length * 3 := by
  induction L with
  | nil => rfl
  | cons x L ih => rw [cej, List.flatMap_cons, List.length_append, ← cej, ih]; simp; omega
theorem cej_append (L M : List Lp) : cej (L ++ M) = cej L ++ cej M := by simp [cej]
theorem cej_cons (x : Lp) (L : List Lp) : cej (x :: L) = .int .i64 x.1 :: .int .i64 x.2.1 :: .int .i64 x.2.2 :: cej L := by simp [cej]
theorem cej_one (L : List Lp) : ∀ u ∈ cej L, u.oneCell' = true := by
  intro u hu
  simp only [cej, List.mem_flatMap] at hu
  obtain ⟨x, _, hx⟩ := hu
  simp at hx
  rcases hx with rfl | rfl | rfl <;> rfl
theorem cej_at {L : List Lp} {i : Nat} {x : Lp} (h : L[i]? = some x) : (cej L)[i * 3]? = some (.int .i64 x.1) ∧ (cej L)[i * 3 + 1]? = some (.int .i64 x.2.1) ∧ (cej L)[i * 3 + 2]? = some (.int .i64 x.2.2) := by
  induction L generalizing i with
  | nil => simp at h
  | cons y L ih =>
    cases i with
    | zero =>
      simp at h
      subst h
      rw [cej_cons]
      exact ⟨rfl, rfl, rfl⟩
    | succ i =>
      obtain ⟨h1, h2, h3⟩ := ih (i := i) (by simpa using h)
      rw [cej_cons, show (i + 1) * 3 = i * 3 + 1 + 1 + 1 by omega, show i * 3 + 1 + 1 + 1 + 1 = (i * 3 + 1) + 1 + 1 + 1 by omega, show i * 3 + 1 + 1 + 1 + 2 = (i * 3 + 2) + 1 + 1 + 1 by omega]
      simp only [List.getElem?_cons_succ]
      exact ⟨h1, h2, h3⟩
theorem cej_inv {L : List Lp} {j : Nat} {u : Value} (h : (cej L)[j]? = some u) : ∃ i x, L[i]? = some x ∧ ((j = i * 3 ∧ u = .int .i64 x.1) ∨ (j = i * 3 + 1 ∧ u = .int .i64 x.2.1) ∨ (j = i * 3 + 2 ∧ u = .int .i64 x.2.2)) := by
  have hj := (List.getElem?_eq_some_iff.1 h).1
  rw [length_cej] at hj
  have hi : j / 3 < L.length := by omega
  have hx : L[j / 3]? = some L[j / 3] := List.getElem?_eq_getElem hi
  obtain ⟨h1, h2, h3⟩ := cej_at hx
  refine ⟨j / 3, _, hx, ?_⟩
  have h3' : j % 3 = 0 ∨ j % 3 = 1 ∨ j % 3 = 2 := by omega
  rcases h3' with e | e | e
  · have e' : j = j / 3 * 3 := by omega
    rw [← e', h] at h1
    exact .inl ⟨e', Option.some.inj h1⟩
  · have e' : j = j / 3 * 3 + 1 := by omega
    rw [← e', h] at h2
    exact .inr (.inl ⟨e', Option.some.inj h2⟩)
  · have e' : j = j / 3 * 3 + 2 := by omega
    rw [← e', h] at h3
    exact .inr (.inr ⟨e', Option.some.inj h3⟩)
theorem jadd_1 (ad : Addr) (k : Nat) : ad.add (k + 1) = ⟨(ad.add k).block, (ad.add k).off + 1, none⟩ := by
  unfold Addr.add
  rw [if_neg (by omega)]
  split
  · subst_vars; rfl
  · rfl
theorem jadd_2 (ad : Addr) (k : Nat) : ad.add (k + 2) = ⟨(ad.add k).block, (ad.add k).off + 2, none⟩ := by
  unfold Addr.add
  rw [if_neg (by omega)]
  split
  · subst_vars; rfl
  · rfl
theorem Rj.of_own {w : World} {A : Option Addr} {c base e : Nat} {n : Nat} {L : List Lp} (h : w.ownsRow base e 3 (.slice A n c) n (cej L)) (hb : ∀ x ∈ L, LpOk x) : Rj w A c L ∧ n = L.length := by
  have hn : n = L.length := by have := h.1; rw [length_cej] at this; omega
  refine ⟨⟨hb, ?_⟩, hn⟩
  have hcell := fun g => h.cells (g := g)
  rcases h.2 with ⟨hv, h0⟩ | ⟨g, cap, cur, hv, _, _, hcap, hm, _⟩
  · injection hv with e1 e2 e3
    exact ⟨by omega, by omega, .inl ⟨e1, e3⟩⟩
  · injection hv with e1 e2 e3
    subst e1 e3
    refine ⟨by omega, hm, .inr ⟨_, rfl, fun i x hx => ?_⟩⟩
    obtain ⟨h1, h2, h3⟩ := cej_at hx
    rw [← jadd_1, ← jadd_2]
    exact ⟨hcell g rfl _ _ h1, hcell g rfl _ _ h2, hcell g rfl _ _ h3⟩
theorem rj_cells {w : World} {ad : Addr} {c : Nat} {L : List Lp} (h : Rj w (some ad) c L) (hc : 0 < c) : ∀ j u, (cej L)[j]? = some u → w.cell? (ad.add j) = some u := by
  intro j u hj
  obtain ⟨i, x, hx, hu⟩ := cej_inv hj
  rcases h.2.2.2 with ⟨ha, _⟩ | ⟨ad', ha, hcell⟩
  · cases ha
  · injection ha with ha
    subst ha
    obtain ⟨h1, h2, h3⟩ := hcell i x hx
    rw [← jadd_1] at h2
    rw [← jadd_2] at h3
    rcases hu with ⟨rfl, rfl⟩ | ⟨rfl, rfl⟩ | ⟨rfl, rfl⟩
    · exact h1
    · exact h2
    · exact h3
theorem Rj.grown {w w' : World} {A : Option Addr} {c : Nat} {L : List Lp} (h : Rj w A c L) {row : Option Nat} (hg : w.grownBy w' row) (hr : ∀ ad, A = some ad → some ad.block ≠ row) : Rj w' A c L := by
  refine ⟨h.1, h.2.1, h.2.2.1, ?_⟩
  rcases h.2.2.2 with hn | ⟨ad, ha, hc⟩
  · exact .inl hn
  · refine .inr ⟨ad, ha, fun i x hx => ?_⟩
    have hb : ∀ k, (ad.add k).block = ad.block := fun k => by unfold Addr.add; split <;> rfl
    obtain ⟨h1, h2, h3⟩ := hc i x hx
    refine ⟨hg.cell h1 (by rw [hb]; exact hr ad ha), hg.cell h2 (by simp only [hb]; exact hr ad ha), hg.cell h3 (by simp only [hb]; exact hr ad ha)⟩
end Go.Proofs.Ytimjnmkfbdijeaa
namespace Go.Proofs.Ytimjnmkfbdijeaa
open Go.RowKit
set_option maxRecDepth 100000
set_option linter.unusedSimpArgs false
set_option linter.unusedVariables false

/-- The slice at A, of capacity c, reads as the integers L. -/
def Rn (w : World) (A : Option Addr) (c : Nat) (L : List Int) : Prop := L.length ≤ c ∧ c ≤ maxLen ∧ ((A = none ∧ c = 0) ∨ ∃ ad : Addr, A = some ad ∧ ∀ i x, L[i]? = some x → w.cell? (ad.add i) = some (.int .i64 x))
section
variable {w w' : World} {A : Option Addr} {c : Nat} {L : List Int}
theorem Rn.keep (h : Rn w A c L) (hb : Below w.heap.size w w') : Rn w' A c L := by
  refine ⟨h.1, h.2.1, ?_⟩
  rcases h.2.2 with hn | ⟨ad, ha, hc⟩
  · exact .inl hn
  · exact .inr ⟨ad, ha, fun i x hx => (hb.cell (cell_lt (hc i x hx))).trans (hc i x hx)⟩
theorem Rn.at_ (h : Rn w A c L) {i : Nat} {x : Int} (hi : L[i]? = some x) : ∃ ad : Addr, A = some ad ∧ w.cell? (ad.add i) = some (.int .i64 x) := by
  rcases h.2.2 with ⟨_, hc⟩ | ⟨ad, ha, hc⟩
  · have := h.1
    have := (List.getElem?_eq_some_iff.1 hi).1
    omega
  · exact ⟨ad, ha, hc i x hi⟩
theorem Rn.new (w : World) (L : List Int) (t : Nat) (h : L.length ≤ maxLen) : Rn (w.alloc (.cells (L.map (Value.int .i64)).toArray t)) (some ⟨w.heap.size, 0, none⟩) L.length L := by
  refine ⟨Nat.le_refl _, h, .inr ⟨_, rfl, fun i x hx => ?_⟩⟩
  have e : (⟨w.heap.size, 0, none⟩ : Addr).add i = ⟨w.heap.size, i, none⟩ := by
    unfold Addr.add
    split
    · rename_i h0; simp [h0]
    · simp
  rw [e]
  simp [go_sem, hx]
end
abbrev fRn (A : Option Addr) (c : Nat) (L : List Int) : Fct := ⟨fun w => Rn w A c L, fun _ _ h hb => h.keep hb⟩
theorem add_succ9 (ad : Addr) (k : Nat) : ad.add (k + 1) = ⟨ad.block, ad.off + (k + 1), none⟩ := by
  unfold Addr.add
  rw [if_neg (by omega)]
/-- Operations and what stands behind them, one after the other. -/
def two9 (L : List Ins) : List Int := L.flatMap fun x => [x.1, x.2.1]
theorem two9_len (L : List Ins) : (two9 L).length = 2 * L.length := by
  induction L with
  | nil => rfl
  | cons x L ih => rw [two9, List.flatMap_cons, List.length_append, ← two9, ih]; simp; omega
theorem two9_at : ∀ {L : List Ins} {i : Nat} {x : Ins}, L[i]? = some x → (two9 L)[2 * i]? = some x.1 ∧ (two9 L)[2 * i + 1]? = some x.2.1
  | y :: L, 0, x, h => by
    simp at h
    subst h
    exact ⟨rfl, rfl⟩
  | y :: L, i + 1, x, h => by
    obtain ⟨h1, h2⟩ := two9_at (L := L) (i := i) (by simpa using h)
    have e : two9 (y :: L) = y.1 :: y.2.1 :: two9 L := rfl
    rw [e, show 2 * (i + 1) = 2 * i + 1 + 1 by omega]
    simp only [List.getElem?_cons_succ]
    exact ⟨h1, h2⟩
end Go.Proofs.Ytimjnmkfbdijeaa
namespace Go.Proofs.Ytimjnmkfbdijeaa
open Go.RowKit
set_option maxRecDepth 100000
set_option linter.unusedSimpArgs false
set_option linter.unusedVariables false

/-- The cells of integers. -/
def ci9 (L : List Int) : List Value := L.map (Value.int .i64)
theorem Rn.of_own {w : World} {A : Option Addr} {c base e n : Nat} {L : List Int} (h : w.ownsRow base e 1 (.slice A n c) n (ci9 L)) : Rn w A c L ∧ n = L.length := by
  have hn : n = L.length := by have := h.1; simp [ci9] at this; omega
  refine ⟨?_, hn⟩
  have hcell := fun g => h.cells (g := g)
  rcases h.2 with ⟨hv, h0⟩ | ⟨g, cap, cur, hv, _, _, hcap, hm, _⟩
  · injection hv with e1 e2 e3
    exact ⟨by omega, by omega, .inl ⟨e1, e3⟩⟩
  · injection hv with e1 e2 e3
    subst e1 e3
    exact ⟨by omega, hm, .inr ⟨_, rfl, fun i x hx => hcell g rfl _ _ (by simp [ci9, hx])⟩⟩
/-- A block's cells from its beginning on. -/
def Cl9 (w : World) (g : Nat) (xs : List Value) : Prop := g < w.heap.size ∧ ∀ i u, xs[i]? = some u → w.cell? ⟨g, i, none⟩ = some u
theorem Cl9.keep {w w' : World} {g : Nat} {xs : List Value} (h : Cl9 w g xs) (hb : Below w.heap.size w w') : Cl9 w' g xs := ⟨Nat.lt_of_lt_of_le h.1 hb.size, fun i u hu => ((bcell hb).1 _ _ h.1).trans (h.2 i u hu)⟩
abbrev fCl (g : Nat) (xs : List Value) : Fct := ⟨fun w => Cl9 w g xs, fun _ _ h hb => h.keep hb⟩
theorem Cl9.of_own {w : World} {base e size n c : Nat} {A : Option Addr} {xs : List Value} (h : w.ownsRow base e size (.slice A n c) n xs) (hn : 0 < n) : ∃ g, A = some ⟨g, 0, none⟩ ∧ Cl9 w g xs := by
  have hc := fun g => h.cells (g := g)
  rcases h.2 with ⟨hv, h0⟩ | ⟨g, cap, cur, hv, _, hb, _⟩
  · omega
  · injection hv with e1 e2 e3
    subst e1
    exact ⟨g, rfl, (Array.getElem?_eq_some_iff.1 hb).1, fun i u hu => by
      have := hc g rfl i u hu
      have e : (⟨g, 0, none⟩ : Addr).add i = ⟨g, i, none⟩ := by
        unfold Addr.add
        split
        · rename_i h0; simp [h0]
        · simp
      rwa [e] at this⟩
def three9 : List Ins := [(28, 3, 0), (0, 0, 0), (29, 0, 0), (31, 0, 0)]
end Go.Proofs.Ytimjnmkfbdijeaa
