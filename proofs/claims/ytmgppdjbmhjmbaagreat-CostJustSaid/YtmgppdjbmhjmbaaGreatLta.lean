/-
  Tk, Td, Tw: in one text.
-/
import Derived.Test.YtmgppdjbmhjmbaaGreatLk
import Derived.Test.YtmgppdjbmhjmbaaGreatLa
import Derived.Test.YtmgppdjbmhjmbaaGreatLt
import Derived.Deep.WholeRow
namespace Go.Proofs.YtmgppdjbmhjmbaaGreat
open Go.RowKit
set_option maxRecDepth 100000
set_option linter.unusedSimpArgs false
set_option linter.unusedVariables false

end Go.Proofs.YtmgppdjbmhjmbaaGreat
namespace Go.Proofs.YtmgppdjbmhjmbaaGreat
open Go.RowKit
set_option maxRecDepth 100000
set_option linter.unusedSimpArgs false
set_option linter.unusedVariables false

/-- A place's row in memory: whether it is reached, where its kinds lie. -/
structure Rx where
  r : Bool
  A : Option Addr
  c : Nat
  K : List Int
abbrev rz (z : Rx) : Rz := (z.r, z.K)
def At2 (w : World) (p : Addr) (z : Rx) : Prop := w.cell? p = some (.bool z.r) ∧ w.cell? ⟨p.block, p.off + 1, none⟩ = some (.slice z.A z.K.length z.c)
/-- The slice at A, of capacity c, reads as the rows Z. -/
def Rw (w : World) (A : Option Addr) (c : Nat) (Z : List Rx) : Prop := (∀ z ∈ Z, Rd w z.A z.c z.K) ∧ Z.length ≤ c ∧ c ≤ maxLen ∧ ((A = none ∧ c = 0) ∨ ∃ ad : Addr, A = some ad ∧ ∀ i z, Z[i]? = some z → At2 w (ad.add (i * 2)) z)
theorem At2.keep {w w' : World} {p : Addr} {z : Rx} (h : At2 w p z) (hb : Below w.heap.size w w') : At2 w' p z := ⟨(hb.cell (cell_lt h.1)).trans h.1, (hb.cell (cell_lt h.2)).trans h.2⟩
theorem Rw.keep {w w' : World} {A : Option Addr} {c : Nat} {Z : List Rx} (h : Rw w A c Z) (hb : Below w.heap.size w w') : Rw w' A c Z := by
  refine ⟨fun z hz => (h.1 z hz).keep hb, h.2.1, h.2.2.1, ?_⟩
  rcases h.2.2.2 with hn | ⟨ad, ha, hc⟩
  · exact .inl hn
  · exact .inr ⟨ad, ha, fun i z hz => (hc i z hz).keep hb⟩
theorem Rw.len {w : World} {A : Option Addr} {c : Nat} {Z : List Rx} (h : Rw w A c Z) : Z.length ≤ 9223372036854775807 := Nat.le_trans h.2.1 h.2.2.1
theorem Rw.at_ {w : World} {A : Option Addr} {c : Nat} {Z : List Rx} (h : Rw w A c Z) {i : Nat} {z : Rx} (hz : Z[i]? = some z) : ∃ ad : Addr, A = some ad ∧ At2 w (ad.add (i * 2)) z ∧ Rd w z.A z.c z.K := by
  rcases h.2.2.2 with ⟨_, hc⟩ | ⟨ad, ha, hc⟩
  · have := h.2.1
    have := (List.getElem?_eq_some_iff.1 hz).1
    omega
  · exact ⟨ad, ha, hc i z hz, h.1 z (List.mem_of_getElem? hz)⟩
abbrev fRw (A : Option Addr) (c : Nat) (Z : List Rx) : Fct := ⟨fun w => Rw w A c Z, fun _ _ h hb => h.keep hb⟩
theorem hg10_take {Z : List Rx} {i : Nat} {z : Rx} (h : Z[i]? = some z) : hg10 ((Z.take (i + 1)).map rz) = max (hg10 ((Z.take i).map rz)) z.K.length := by
  rw [List.take_add_one, h]
  simp [hg10]
end Go.Proofs.YtmgppdjbmhjmbaaGreat
namespace Go.Proofs.YtmgppdjbmhjmbaaGreat
open Go.RowKit
set_option maxRecDepth 100000
set_option linter.unusedSimpArgs false
set_option linter.unusedVariables false

/-! Rows in a block that is written. -/
def cer (Z : List Rx) : List Value := Z.flatMap fun z => [.bool z.r, .slice z.A z.K.length z.c]
theorem cer_cons (z : Rx) (Z : List Rx) : cer (z :: Z) = .bool z.r :: .slice z.A z.K.length z.c :: cer Z := by simp [cer]
theorem length_cer (Z : List Rx) : (cer Z).length = Z.length * 2 := by
  induction Z with
  | nil => rfl
  | cons z Z ih => rw [cer_cons]; simp [ih]; omega
theorem cer_at : ∀ {Z : List Rx} {i : Nat} {z : Rx}, Z[i]? = some z → (cer Z)[i * 2]? = some (.bool z.r) ∧ (cer Z)[i * 2 + 1]? = some (.slice z.A z.K.length z.c)
  | y :: Z, 0, z, h => by
    simp at h
    subst h
    rw [cer_cons]
    exact ⟨rfl, rfl⟩
  | y :: Z, i + 1, z, h => by
    obtain ⟨h1, h2⟩ := cer_at (Z := Z) (i := i) (by simpa using h)
    rw [cer_cons, show (i + 1) * 2 = i * 2 + 1 + 1 by omega, show i * 2 + 1 + 1 + 1 = (i * 2 + 1) + 1 + 1 by omega]
    simp only [List.getElem?_cons_succ]
    exact ⟨h1, h2⟩
theorem cer_setr : ∀ {Z : List Rx} {i : Nat} {z : Rx} (r : Bool), Z[i]? = some z → (cer Z).set (i * 2) (.bool r) = cer (Z.set i { z with r := r })
  | y :: Z, 0, z, r, h => by
    simp at h
    subst h
    rw [List.set_cons_zero, cer_cons, cer_cons]
    rfl
  | y :: Z, i + 1, z, r, h => by
    have ih := cer_setr (Z := Z) (i := i) (z := z) r (by simpa using h)
    rw [List.set_cons_succ, cer_cons, cer_cons, ← ih, show (i + 1) * 2 = i * 2 + 1 + 1 by omega]
    rfl
theorem cer_setk : ∀ {Z : List Rx} {i : Nat} {z : Rx} (A : Option Addr) (c : Nat) (K : List Int), Z[i]? = some z → (cer Z).set (i * 2 + 1) (.slice A K.length c) = cer (Z.set i ⟨z.r, A, c, K⟩)
  | y :: Z, 0, z, A, c, K, h => by
    simp at h
    subst h
    rw [List.set_cons_zero, cer_cons, cer_cons]
    rfl
  | y :: Z, i + 1, z, A, c, K, h => by
    have ih := cer_setk (Z := Z) (i := i) (z := z) A c K (by simpa using h)
    rw [List.set_cons_succ, cer_cons, cer_cons, ← ih, show (i + 1) * 2 + 1 = i * 2 + 1 + 1 + 1 by omega]
    rfl
/-- Block g holds the rows Z. -/
def Wr (w : World) (t g : Nat) (Z : List Rx) : Prop := w.heap[g]? = some (.cells (cer Z).toArray t (0, 0)) ∧ ∀ z ∈ Z, Rd w z.A z.c z.K
theorem cer_no (Z : List Rx) : ∀ u ∈ cer Z, ∀ kd x, u ≠ .int kd x := by
  intro u hu kd x e
  simp only [cer, List.mem_flatMap] at hu
  obtain ⟨z, -, hz⟩ := hu
  subst e
  simp at hz
section
variable {w w' : World} {t g : Nat} {Z : List Rx}
theorem Wr.lt (h : Wr w t g Z) : g < w.heap.size := (Array.getElem?_eq_some_iff.1 h.1).1
theorem Wr.keep (h : Wr w t g Z) (hb : Below w.heap.size w w') : Wr w' t g Z := ⟨(hb.block g h.lt).trans h.1, fun z hz => (h.2 z hz).keep hb⟩
theorem Wr.cell0 (h : Wr w t g Z) {i : Nat} {z : Rx} (hz : Z[i]? = some z) : w.cell? ⟨g, i * 2, none⟩ = some (.bool z.r) := by
  rw [cell_of_row w g _ _ _ (0, 0) h.1, List.getElem?_toArray]
  exact (cer_at hz).1
theorem Wr.cell1 (h : Wr w t g Z) {i : Nat} {z : Rx} (hz : Z[i]? = some z) : w.cell? ⟨g, i * 2 + 1, none⟩ = some (.slice z.A z.K.length z.c) := by
  rw [cell_of_row w g _ _ _ (0, 0) h.1, List.getElem?_toArray]
  exact (cer_at hz).2
theorem Wr.froz (h : Wr w t g Z) (i : Nat) : w.frozen? ⟨g, i, none⟩ = false := frozen_of_row w g i _ _ h.1
/-- No integer lies in the block. -/
theorem Wr.no_int (h : Wr w t g Z) {p : Addr} {kd : IntKind} {x : Int} (hp : w.cell? p = some (.int kd x)) : p.block ≠ g := by
  intro e
  obtain ⟨b, o, sp⟩ := p
  subst e
  have hc : sp = none → (cer Z)[o]? = some (.int kd x) := fun e => by
    subst e
    rw [cell_of_row w _ _ _ _ (0, 0) h.1, List.getElem?_toArray] at hp
    exact hp
  cases sp with
  | none => exact cer_no Z _ (List.mem_of_getElem? (hc rfl)) kd x rfl
  | some s => simp [World.cell?, h.1] at hp
theorem Rd.past {A : Option Addr} {c : Nat} {K : List Int} (h : Rd w A c K) (hw : Wr w t g Z) (j : Nat) (v : Value) : Rd (w.setCell ⟨g, j, none⟩ v) A c K := by
  refine ⟨h.1, h.2.1, h.2.2.1, ?_⟩
  rcases h.2.2.2 with hn | ⟨ad, ha, hc⟩
  · exact .inl hn
  · refine .inr ⟨ad, ha, fun i x hx => ?_⟩
    have := hc i x hx
    rw [World.cell?_setCell_other _ _ _ _ (fun e => hw.no_int this (by rw [← e]))]
    exact this
theorem Wr.setr (h : Wr w t g Z) {i : Nat} {z : Rx} (hz : Z[i]? = some z) (r : Bool) : Wr (w.setCell ⟨g, i * 2, none⟩ (.bool r)) t g (Z.set i { z with r := r }) := by
  refine ⟨?_, fun u hu => ?_⟩
  · rw [heap_setCell_same w g _ _ _ _ h.1, ← cer_setr r hz]
    simp
  · rcases List.mem_or_eq_of_mem_set hu with hu | rfl
    · exact (h.2 u hu).past h _ _
    · exact (h.2 z (List.mem_of_getElem? hz)).past h _ _
theorem Wr.setk (h : Wr w t g Z) {i : Nat} {z : Rx} (hz : Z[i]? = some z) {A : Option Addr} {c : Nat} {K : List Int} (hk : Rd w A c K) : Wr (w.setCell ⟨g, i * 2 + 1, none⟩ (.slice A K.length c)) t g (Z.set i ⟨z.r, A, c, K⟩) := by
  refine ⟨?_, fun u hu => ?_⟩
  · rw [heap_setCell_same w g _ _ _ _ h.1, ← cer_setk A c K hz]
    simp
  · rcases List.mem_or_eq_of_mem_set hu with hu | rfl
    · exact (h.2 u hu).past h _ _
    · exact hk.past h _ _
theorem Wr.rw (h : Wr w t g Z) {m : Nat} (hm : Z.length = m) (hl : m ≤ 1000000) : Rw w (some ⟨g, 0, none⟩) m Z := by
  refine ⟨h.2, by omega, by unfold maxLen; omega, .inr ⟨_, rfl, fun i z hz => ?_⟩⟩
  have e : ∀ k, (⟨g, 0, none⟩ : Addr).add k = ⟨g, k, none⟩ := fun k => by
    unfold Addr.add
    split
    · rename_i h0; simp [h0]
    · simp
  rw [At2, e]
  exact ⟨h.cell0 hz, h.cell1 hz⟩
end
abbrev fWr (t g : Nat) (Z : List Rx) : Fct := ⟨fun w => Wr w t g Z, fun _ _ h hb => h.keep hb⟩
/-- One cell. -/
abbrev fC1 (p : Addr) (v : Value) : Fct := ⟨fun w => w.cell? p = some v, fun _ _ h hb => (hb.cell (cell_lt h)).trans h⟩
/-- The zero rows of a make. -/
def zx10 : Rx := ⟨false, none, 0, []⟩
theorem Wr.of_own {w : World} {base t m : Nat} {A : Option Addr} (h : w.ownsRow base t 2 (.slice A m m) m (cer (List.replicate m zx10))) (hm : 0 < m) : ∃ g, A = some ⟨g, 0, none⟩ ∧ base ≤ g ∧ Wr w t g (List.replicate m zx10) := by
  rcases h.2 with ⟨hv, h0⟩ | ⟨g, cap, cur, hv, hg, hb, h1, h2, h3, h4⟩
  · omega
  · injection hv with e1 e2 e3
    subst e1 e3
    refine ⟨g, rfl, hg, ?_, fun z hz => ?_⟩
    · rw [hb]
      congr 2
      apply Array.ext'
      rw [← h4, List.take_of_length_le (by simp [h3])]
    · rw [List.eq_of_mem_replicate hz]
      exact Rd.none_ w
end Go.Proofs.YtmgppdjbmhjmbaaGreat
