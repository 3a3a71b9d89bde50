/-
  Slices of values (three cells each) that read as a list ('Rv'), what keeps them so; their cells, an append of one to a slice of the call's own; the reference's Copy and Same.
-/
import Derived.Test.YtmgppdjbmhjmbaaGreatLd
namespace Go.Proofs.YtmgppdjbmhjmbaaGreat
open Go.RowKit
set_option maxRecDepth 100000
set_option linter.unusedSimpArgs false
set_option linter.unusedVariables false

/-- An value's three numbers. -/
abbrev Vlu := Int × Int × Int
def VlOk (x : Vlu) : Prop := (0 ≤ x.1 ∧ x.1 < 256) ∧ (-9223372036854775808 ≤ x.2.1 ∧ x.2.1 ≤ 9223372036854775807) ∧ (-9223372036854775808 ≤ x.2.2 ∧ x.2.2 ≤ 9223372036854775807)
/-- The slice at A, of capacity c, reads as the values L. -/
def Rv (w : World) (A : Option Addr) (c : Nat) (L : List Vlu) : Prop :=
  (∀ x ∈ L, VlOk x) ∧ L.length ≤ c ∧ c ≤ maxLen ∧ ((A = none ∧ c = 0) ∨ ∃ ad : Addr, A = some ad ∧ ∀ i x, L[i]? = some x → w.cell? (ad.add (i * 3)) = some (.int .u8 x.1) ∧ w.cell? ⟨(ad.add (i * 3)).block, (ad.add (i * 3)).off + 1, none⟩ = some (.int .i64 x.2.1) ∧ w.cell? ⟨(ad.add (i * 3)).block, (ad.add (i * 3)).off + 2, none⟩ = some (.int .i64 x.2.2))
/-- The cells of values. -/
def cev (L : List Vlu) : List Value := L.flatMap fun x => [.int .u8 x.1, .int .i64 x.2.1, .int .i64 x.2.2]
section
variable {w w' : World} {A : Option Addr} {c : Nat} {L : List Vlu}
theorem Rv.le (h : Rv w A c L) : L.length ≤ c := h.2.1
theorem Rv.len (h : Rv w A c L) : L.length ≤ 9223372036854775807 := Nat.le_trans h.le h.2.2.1
theorem Rv.at_ (h : Rv w A c L) {i : Nat} (hi : i < L.length) : ∃ ad : Addr, A = some ad ∧ w.cell? (ad.add (i * 3)) = some (.int .u8 (L[i]).1) ∧ w.cell? ⟨(ad.add (i * 3)).block, (ad.add (i * 3)).off + 1, none⟩ = some (.int .i64 (L[i]).2.1) ∧ w.cell? ⟨(ad.add (i * 3)).block, (ad.add (i * 3)).off + 2, none⟩ = some (.int .i64 (L[i]).2.2) := by
  rcases h.2.2.2 with ⟨_, hc⟩ | ⟨ad, ha, hc⟩
  · have := h.le; omega
  · exact ⟨ad, ha, hc i _ (List.getElem?_eq_getElem hi)⟩
theorem Rv.none_ (w : World) : Rv w none 0 [] := ⟨fun x hx => (by cases hx), Nat.le_refl _, Nat.zero_le _, .inl ⟨rfl, rfl⟩⟩
theorem Rv.keep (h : Rv w A c L) (hb : Below w.heap.size w w') : Rv w' A c L := by
  refine ⟨h.1, h.2.1, h.2.2.1, ?_⟩
  rcases h.2.2.2 with hn | ⟨ad, ha, hc⟩
  · exact .inl hn
  · refine .inr ⟨ad, ha, fun i x hx => ?_⟩
    obtain ⟨h1, h2, h3⟩ := hc i x hx
    exact ⟨(hb.cell (cell_lt h1)).trans h1, (hb.cell (cell_lt h2)).trans h2, (hb.cell (cell_lt h3)).trans h3⟩
theorem Rv.drewN (h : Rv w A c L) (q : Nat) : Rv (w.drewN q) A c L := h
end
theorem length_cev (L : List Vlu) : (cev L).length = L.length * 3 := by
  induction L with
  | nil => rfl
  | cons x L ih => rw [cev, List.flatMap_cons, List.length_append, ← cev, ih]; simp; omega
theorem cev_cons (x : Vlu) (L : List Vlu) : cev (x :: L) = .int .u8 x.1 :: .int .i64 x.2.1 :: .int .i64 x.2.2 :: cev L := by simp [cev]
theorem cev_at {L : List Vlu} {i : Nat} {x : Vlu} (h : L[i]? = some x) : (cev L)[i * 3]? = some (.int .u8 x.1) ∧ (cev L)[i * 3 + 1]? = some (.int .i64 x.2.1) ∧ (cev L)[i * 3 + 2]? = some (.int .i64 x.2.2) := by
  induction L generalizing i with
  | nil => simp at h
  | cons y L ih =>
    cases i with
    | zero =>
      simp at h
      subst h
      rw [cev_cons]
      exact ⟨rfl, rfl, rfl⟩
    | succ i =>
      obtain ⟨h1, h2, h3⟩ := ih (i := i) (by simpa using h)
      rw [cev_cons, show (i + 1) * 3 = i * 3 + 1 + 1 + 1 by omega, show i * 3 + 1 + 1 + 1 + 1 = (i * 3 + 1) + 1 + 1 + 1 by omega, show i * 3 + 1 + 1 + 1 + 2 = (i * 3 + 2) + 1 + 1 + 1 by omega]
      simp only [List.getElem?_cons_succ]
      exact ⟨h1, h2, h3⟩
theorem vadd_1 (ad : Addr) (k : Nat) : ad.add (k + 1) = ⟨(ad.add k).block, (ad.add k).off + 1, none⟩ := by
  unfold Addr.add
  rw [if_neg (by omega)]
  split
  · subst_vars; rfl
  · rfl
theorem vadd_2 (ad : Addr) (k : Nat) : ad.add (k + 2) = ⟨(ad.add k).block, (ad.add k).off + 2, none⟩ := by
  unfold Addr.add
  rw [if_neg (by omega)]
  split
  · subst_vars; rfl
  · rfl
theorem Rv.of_own {w : World} {A : Option Addr} {c base e : Nat} {n : Nat} {L : List Vlu} (h : w.ownsRow base e 3 (.slice A n c) n (cev L)) (hb : ∀ x ∈ L, VlOk x) : Rv w A c L ∧ n = L.length := by
  have hn : n = L.length := by have := h.1; rw [length_cev] at this; omega
  refine ⟨⟨hb, ?_⟩, hn⟩
  have hcell := fun g => h.cells (g := g)
  rcases h.2 with ⟨hv, h0⟩ | ⟨g, cap, cur, hv, _, _, hcap, hm, _⟩
  · injection hv with e1 e2 e3
    exact ⟨by omega, by omega, .inl ⟨e1, e3⟩⟩
  · injection hv with e1 e2 e3
    subst e1 e3
    refine ⟨by omega, hm, .inr ⟨_, rfl, fun i x hx => ?_⟩⟩
    obtain ⟨h1, h2, h3⟩ := cev_at hx
    rw [← vadd_1, ← vadd_2]
    exact ⟨hcell g rfl _ _ h1, hcell g rfl _ _ h2, hcell g rfl _ _ h3⟩
theorem Rv.grown {w w' : World} {A : Option Addr} {c : Nat} {L : List Vlu} (h : Rv w A c L) {row : Option Nat} (hg : w.grownBy w' row) (hr : ∀ ad, A = some ad → some ad.block ≠ row) : Rv w' A c L := by
  refine ⟨h.1, h.2.1, h.2.2.1, ?_⟩
  rcases h.2.2.2 with hn | ⟨ad, ha, hc⟩
  · exact .inl hn
  · refine .inr ⟨ad, ha, fun i x hx => ?_⟩
    have hb : ∀ k, (ad.add k).block = ad.block := fun k => by unfold Addr.add; split <;> rfl
    obtain ⟨h1, h2, h3⟩ := hc i x hx
    refine ⟨hg.cell h1 (by rw [hb]; exact hr ad ha), hg.cell h2 (by simp only [hb]; exact hr ad ha), hg.cell h3 (by simp only [hb]; exact hr ad ha)⟩
end Go.Proofs.YtmgppdjbmhjmbaaGreat
