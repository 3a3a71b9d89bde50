/-
  Rows of the call's own by their blocks' types: what a write to a block of another type leaves; an append of methods.
-/
import Derived.Test.YteimpkjpoijhmaaDoorMm
import Derived.Test.YteimpkjpoijhmaaDoorPv
import Derived.OwnWalk
import Derived.Laws.OwnMore
namespace Go.Proofs.YteimpkjpoijhmaaDoor
open Go.RowKit
set_option maxRecDepth 100000
set_option linter.unusedSimpArgs false
set_option linter.unusedVariables false

/-- Block B holds n cells of type t. -/
def Bk (w : World) (B t n : Nat) : Prop := ∃ cur, w.heap[B]? = some (.cells cur t (0, 0)) ∧ cur.size = n
theorem Bk.lt {w : World} {B t n : Nat} (h : Bk w B t n) : B < w.heap.size := by
  obtain ⟨cur, h, _⟩ := h
  exact (Array.getElem?_eq_some_iff.1 h).1
theorem Bk.keep {w w' : World} {B t n : Nat} (h : Bk w B t n) (hb : Below w.heap.size w w') : Bk w' B t n := by
  have hl := h.lt
  obtain ⟨cur, h, hn⟩ := h
  exact ⟨cur, (hb.block B hl).trans h, hn⟩
theorem Bk.new (w : World) (cs : Array Value) (t : Nat) : Bk (w.alloc (.cells cs t)) w.heap.size t cs.size := ⟨cs, heap_alloc_new w _, rfl⟩
theorem Bk.set {w : World} {B t n : Nat} (h : Bk w B t n) (g j : Nat) (v : Value) : Bk (w.setCell ⟨g, j, none⟩ v) B t n := by
  obtain ⟨cur, h, hn⟩ := h
  by_cases e : g = B
  · subst e
    exact ⟨cur.setIfInBounds j v, heap_setCell_same w g j cur t v h, by simpa using hn⟩
  · exact ⟨cur, (Below.heap_setCell w ⟨g, j, none⟩ v B (fun e' => e e'.symm)).trans h, hn⟩
/-- A row stays behind a write to a block of another type. -/
theorem own_tag {w : World} {base e size n B t k : Nat} {v : Value} {xs : List Value} (h : w.ownsRow base e size v n xs) (hB : Bk w B t k) (hne : e ≠ t) (j : Nat) (u : Value) : (w.setCell ⟨B, j, none⟩ u).ownsRow base e size v n xs := by
  obtain ⟨h1, h2⟩ := h
  refine ⟨h1, ?_⟩
  rcases h2 with h2 | ⟨g, cap, cur, hv, hg, hh, r⟩
  · exact .inl h2
  · obtain ⟨cur2, hh2, _⟩ := hB
    have hgB : g ≠ B := fun e' => by
      subst e'
      rw [hh] at hh2
      injection hh2 with hh2
      injection hh2 with _ h3 _
      exact hne h3
    exact .inr ⟨g, cap, cur, hv, hg, by rw [Below.heap_setCell _ _ _ _ (fun e' => hgB e')]; exact hh, r⟩
/-- A row stays behind an append to a row of another type. -/
theorem own_grown {w w' : World} {base base2 e e2 size size2 n n2 : Nat} {v v2 : Value} {xs xs2 : List Value} (h : w.ownsRow base e size v n xs) (h2 : w.ownsRow base2 e2 size2 v2 n2 xs2) (hne : e ≠ e2) (hg : w.grownBy w' v2.ownBlock) : w'.ownsRow base e size v n xs := by
  obtain ⟨h1, h3⟩ := h
  refine ⟨h1, ?_⟩
  rcases h3 with h3 | ⟨g, cap, cur, hv, hgb, hh, r⟩
  · exact .inl h3
  · have hlt := (Array.getElem?_eq_some_iff.1 hh).1
    have hgB : some g ≠ v2.ownBlock := fun e' => by
      rcases h2.2 with ⟨rfl, _⟩ | ⟨g2, cap2, cur2, rfl, _, hh2, _⟩
      · simp [Value.ownBlock] at e'
      · simp [Value.ownBlock] at e'
        subst e'
        rw [hh] at hh2
        injection hh2 with hh2
        injection hh2 with _ h3 _
        exact hne h3
    exact .inr ⟨g, cap, cur, hv, hgb, (hg.block g hlt hgB).trans hh, r⟩
theorem Bk.grown {w w' : World} {B t n base2 e2 size2 n2 : Nat} {v2 : Value} {xs2 : List Value} (h : Bk w B t n) (h2 : w.ownsRow base2 e2 size2 v2 n2 xs2) (hne : t ≠ e2) (hg : w.grownBy w' v2.ownBlock) : Bk w' B t n := by
  have hlt := h.lt
  obtain ⟨cur, hh, hn⟩ := h
  have hgB : some B ≠ v2.ownBlock := fun e' => by
    rcases h2.2 with ⟨rfl, _⟩ | ⟨g2, cap2, cur2, rfl, _, hh2, _⟩
    · simp [Value.ownBlock] at e'
    · simp [Value.ownBlock] at e'
      subst e'
      rw [hh] at hh2
      injection hh2 with hh2
      injection hh2 with _ h3 _
      exact hne h3
  exact ⟨cur, (hg.block B hlt hgB).trans hh, hn⟩
theorem length_ce8 (z : Me) : (ce8 z).length = 8 := rfl
theorem length_cem (Z : List Me) : (cem Z).length = Z.length * 8 := by
  induction Z with
  | nil => rfl
  | cons z Z ih => rw [cem, List.flatMap_cons, List.length_append, ← cem, ih, length_ce8]; simp; omega
theorem cem_append (Z Y : List Me) : cem (Z ++ Y) = cem Z ++ cem Y := by simp [cem]
theorem cem_one (z : Me) : cem [z] = ce8 z := by simp [cem]
theorem ce8_one (z : Me) : ∀ u ∈ ce8 z, u.oneCell' = true := by
  intro u hu
  simp [ce8] at hu
  rcases hu with rfl | rfl | rfl | rfl | rfl | rfl | rfl | rfl <;> rfl
theorem cem_at {Z : List Me} {i : Nat} {z : Me} (h : Z[i]? = some z) (j : Nat) (hj : j < 8) : (cem Z)[i * 8 + j]? = (ce8 z)[j]? := by
  induction Z generalizing i with
  | nil => simp at h
  | cons y Z ih =>
    have e : cem (y :: Z) = ce8 y ++ cem Z := by simp [cem]
    cases i with
    | zero =>
      simp at h
      subst h
      rw [e, Nat.zero_mul, Nat.zero_add, List.getElem?_append_left (by rw [length_ce8]; omega)]
    | succ i =>
      rw [e, List.getElem?_append_right (by rw [length_ce8]; omega), length_ce8, show (i + 1) * 8 + j - 8 = i * 8 + j by omega]
      exact ih (by simpa using h)
theorem Tryd.infoM : (Tryd.prog.info? 49).map (fun i => (i.zero, i.size, i.bytes)) = some (some (.agg #[.slice none 0 0, .slice none 0 0, .int .u8 0, .bool false, .int .i64 0, .int .i64 0, .int .i64 0, .slice none 0 0]), 8, 104) := by kernel_rfl
/-- append of one method, to a slice of the call's own. -/
theorem wpList_append_rm (w : World) {ops : Array Oper} {rest : List Oper} {o : Oper} {a : Act} {Q : Exit → Act → World → Prop} (hgd : o.guard = none) (s x : Operand)
    (ho : o.op = .call { callee := .builtin .append, args := #[s, x], argTypes := #[23, 23] })
    (base : Nat) (v : Value) (n : Nat) (K : List Me) (hs : a.eval s = v) (hown : w.ownsRow base 49 8 v n (cem K))
    (ad : Addr) (z : Me) (hx : a.eval x = .slice (some ad) 1 1) (hr : ∀ j u, (ce8 z)[j]? = some u → w.cell? (ad.add j) = some u) (hbytes : n + 1 ≤ 1000000) (hbase : base ≤ w.heap.size)
    (h : ∀ A' c' w', w'.ownsRow base 49 8 (.slice A' (n + 1) c') (n + 1) (cem (K ++ [z])) → w.grownBy w' v.ownBlock → Below base w w' →
      ((Value.slice A' (n + 1) c').ownBlock = v.ownBlock ∨ (Value.slice A' (n + 1) c').ownBlock = some w.heap.size) → wpList Tryd.prog ops Q rest (a.put o.dst (.slice A' (n + 1) c')) w') : wpList Tryd.prog ops Q (o :: rest) a w := by
  have hinfo := Tryd.infoM
  rw [Option.map_eq_some_iff] at hinfo
  obtain ⟨i, hi, hz⟩ := hinfo
  simp only [Prod.mk.injEq] at hz
  obtain ⟨hz0, hz1, hz2⟩ := hz
  have hbel : ∀ {w'}, w.grownBy w' v.ownBlock → Below base w w' := fun hg => (Below.refl _ _).grown hg hbase fun g hg' => (hown.lt g hg').1
  refine wpList_append_own_at w hgd s x 23 ho base 49 i _ 8 104 Tryd.underlying23 hi hz0 hz1 hz2 rfl (by decide) v n (cem K) hs hown ad 1 1 (ce8 z) hx (by rw [length_ce8]) hr (ce8_one z) (by unfold maxLen; omega) (by omega) hbase ?_
  intro v' w' hown' hg _ hb
  obtain ⟨A', c', rfl⟩ := own_form hown'
  exact h A' c' w' (by rw [cem_append, cem_one]; exact hown') hg (hbel hg) hb
/-- What the call owns reads as methods, if each one's parts do. -/
theorem Rm.of_own {w : World} {A : Option Addr} {c base e n : Nat} {Z : List Me} (h : w.ownsRow base e 8 (.slice A n c) n (cem Z)) (hk : ∀ z ∈ Z, z.ok w) : Rm w A c Z ∧ n = Z.length := by
  have hn : n = Z.length := by have := h.1; rw [length_cem] at this; omega
  refine ⟨⟨hk, ?_⟩, hn⟩
  have hcell := fun g => h.cells (g := g)
  rcases h.2 with ⟨hv, h0⟩ | ⟨g, cap, cur, hv, _, _, hcap, hm, _⟩
  · injection hv with e1 e2 e3
    exact ⟨by omega, by omega, .inl ⟨e1, e3⟩⟩
  · injection hv with e1 e2 e3
    subst e1 e3
    refine ⟨by omega, hm, .inr ⟨_, rfl, fun i z hz => ?_⟩⟩
    have hq : ∀ j, j < 8 → w.cell? ((⟨g, 0, none⟩ : Addr).add (i * 8 + j)) = (ce8 z)[j]? := fun j hj => by
      have h1 := cem_at hz j hj
      have h2 : (ce8 z)[j]? = some ((ce8 z)[j]'(by rw [length_ce8]; exact hj)) := List.getElem?_eq_getElem _
      rw [h2] at h1 ⊢
      exact hcell g rfl _ _ h1
    have ea : ∀ j, (⟨g, 0, none⟩ : Addr).add (i * 8 + (j + 1)) = ⟨((⟨g, 0, none⟩ : Addr).add (i * 8)).block, ((⟨g, 0, none⟩ : Addr).add (i * 8)).off + (j + 1), none⟩ := fun j => by
      unfold Addr.add
      rw [if_neg (by omega)]
      split
      · rename_i h0; simp [h0]
      · simp
    refine ⟨hq 0 (by omega), ?_, ?_, ?_, ?_, ?_, ?_, ?_⟩
    · rw [← ea 0]; exact hq 1 (by omega)
    · rw [← ea 1]; exact hq 2 (by omega)
    · rw [← ea 2]; exact hq 3 (by omega)
    · rw [← ea 3]; exact hq 4 (by omega)
    · rw [← ea 4]; exact hq 5 (by omega)
    · rw [← ea 5]; exact hq 6 (by omega)
    · rw [← ea 6]; exact hq 7 (by omega)
/-- A module is stored, cell by cell. -/
def put4 (w : World) (B : Nat) (y : Ma) (d : Md) : World :=
  (((w.setCell ⟨B, 0, none⟩ (.slice y.G d.g.length y.gc)).setCell ⟨B, 1, none⟩ (.slice y.P d.p.length y.pc)).setCell ⟨B, 2, none⟩ (.slice y.A d.s.length y.c)).setCell ⟨B, 3, none⟩ (.int .i64 d.i)
theorem put4_below {w0 w : World} {k B : Nat} (h : Below k w0 w) (hB : k ≤ B) (y : Ma) (d : Md) : Below k w0 (put4 w B y d) :=
  (((h.setCell (p := ⟨B, 0, none⟩) hB _).setCell (p := ⟨B, 1, none⟩) hB _).setCell (p := ⟨B, 2, none⟩) hB _).setCell (p := ⟨B, 3, none⟩) hB _
theorem put4_db {w : World} {B : Nat} {t : Ma} {e : Md} (h : Db w B t e) (y : Ma) (d : Md) : Db (put4 w B y d) B y d := by
  obtain ⟨h0, h1, h2, h3, h4⟩ := h
  unfold put4
  refine ⟨by simpa using h0, ?_, ?_, ?_, ?_⟩ <;> simp [go_sem, h1, h2, h3, h4]
theorem Db.other {w : World} {B : Nat} {y : Ma} {d : Md} (h : Db w B y d) {p : Addr} (hp : p.block ≠ B) (v : Value) : Db (w.setCell p v) B y d := by
  obtain ⟨h0, h1, h2, h3, h4⟩ := h
  have ne : ∀ i, p ≠ (⟨B, i, none⟩ : Addr) := fun i e => hp (by rw [e])
  refine ⟨by simpa using h0, ?_, ?_, ?_, ?_⟩ <;> (rw [World.cell?_setCell_other _ _ _ _ (ne _)]; assumption)
/-! Rows that may be written over: each in a block of its elements' type, from lo on, below hi. -/
def Rs (w : World) (lo hi e size : Nat) (A : Option Addr) (n : Nat) : Prop := n = 0 ∨ ∃ g cur, A = some ⟨g, 0, none⟩ ∧ lo ≤ g ∧ g < hi ∧ w.heap[g]? = some (.cells cur e (0, 0)) ∧ n * size ≤ cur.size
theorem Rs.keep {w w' : World} {lo hi e size n : Nat} {A : Option Addr} (h : Rs w lo hi e size A n) (hb : Below w.heap.size w w') : Rs w' lo hi e size A n := by
  rcases h with h | ⟨g, cur, h1, h2, h3, h4, h5⟩
  · exact .inl h
  · exact .inr ⟨g, cur, h1, h2, h3, (hb.block g (Array.getElem?_eq_some_iff.1 h4).1).trans h4, h5⟩
theorem Rs.set {w : World} {lo hi e size n : Nat} {A : Option Addr} (h : Rs w lo hi e size A n) (b j : Nat) (v : Value) : Rs (w.setCell ⟨b, j, none⟩ v) lo hi e size A n := by
  rcases h with h | ⟨g, cur, h1, h2, h3, h4, h5⟩
  · exact .inl h
  · by_cases hg : b = g
    · subst hg
      exact .inr ⟨b, cur.setIfInBounds j v, h1, h2, h3, heap_setCell_same w b j cur e v h4, by simpa using h5⟩
    · exact .inr ⟨g, cur, h1, h2, h3, (Below.heap_setCell w ⟨b, j, none⟩ v g (fun e' => hg e'.symm)).trans h4, h5⟩
theorem Rs.of_own {w : World} {base e size n c lo hi : Nat} {A : Option Addr} {xs : List Value} (h : w.ownsRow base e size (.slice A n c) n xs) (hl : lo ≤ base) (hh : w.heap.size ≤ hi) : Rs w lo hi e size A n := by
  rcases h.2 with ⟨hv, h0⟩ | ⟨g, cap, cur, hv, hg, hb, hcap, hm, hs, ht⟩
  · exact .inl h0
  · injection hv with e1 e2 e3
    have hlt := (Array.getElem?_eq_some_iff.1 hb).1
    exact .inr ⟨g, cur, e1, by omega, by omega, hb, by rw [hs]; exact Nat.mul_le_mul_right _ hcap⟩
/-- A cell of such a row is there, and may be written. -/
theorem Rs.cell {w : World} {lo hi e size n : Nat} {A : Option Addr} (h : Rs w lo hi e size A n) {i : Nat} (hi' : i < n * size) : ∃ g u, A = some ⟨g, 0, none⟩ ∧ lo ≤ g ∧ g < hi ∧ w.cell? ⟨g, i, none⟩ = some u ∧ w.frozen? ⟨g, i, none⟩ = false := by
  rcases h with h | ⟨g, cur, h1, h2, h3, h4, h5⟩
  · subst h
    omega
  · exact ⟨g, cur[i]'(by omega), h1, h2, h3, by rw [cell_of_row w g i cur e (0, 0) h4, Array.getElem?_eq_getElem (by omega)], frozen_of_row w g i cur e h4⟩
end Go.Proofs.YteimpkjpoijhmaaDoor
