/-
  Layer 16, law FrameLast: what is pushed and popped, on lists; the row of what is wanted.
-/
import Derived.Test.YtkifapnmojfjoaaUk
namespace Go.Proofs.Ytkifapnmojfjoaa
open Go.RowKit
set_option maxRecDepth 100000
set_option linter.unusedSimpArgs false
set_option linter.unusedVariables false

/-- The frame that New makes of locals b alone, with Q on its stack. -/
structure Fl16 (b : List Int) (Q : List Vlu) (f : Fm) : Prop where
  l : f.l = b.map fun k => ((k, 0, 0) : Vlu)
  s : f.s = Q
  p : f.p = 0
section
variable {b : List Int} {Q : List Vlu} {f : Fm} {v x : Vlu} {n m i : Nat} {k : Int}
theorem Fl16.new (b : List Int) : Fl16 b [] (nF16 b []) := ⟨rfl, rfl, rfl⟩
theorem Fl16.size (h : Fl16 b Q f) (hn : b.length = n) (hm : Q.length = m) : n16 f = n + m := by
  unfold n16
  rw [h.l, h.s, List.length_map, hn, hm]
theorem kd16_iff (k : Int) : kd16 k = (decide (1 ≤ k) && decide (k ≤ 3)) := by
  rw [kd16, Bool.eq_iff_iff]
  simp
  omega
theorem Fl16.room (h : Fl16 b Q f) (hn : b.length = n) (hm : Q.length = m) : pB16 f v = (decide (1 ≤ v.1) && decide (v.1 ≤ 3) && decide ((n : Int) + (m : Int) < 256)) := by
  rw [pB16, h.size hn hm, kd16_iff]
  congr 1
  exact decide_eq_decide.2 (by omega)
theorem Fl16.push (h : Fl16 b Q f) (hp : pB16 f v = true) : Fl16 b (Q ++ [v]) (pF16 f v) := by
  rw [pF16, if_pos hp]
  exact ⟨h.l, by show f.s ++ [v] = _; rw [h.s], h.p⟩
theorem Fl16.push_no (hp : pB16 f v = false) : pF16 f v = f := if_neg (by rw [hp]; decide)
theorem Fl16.top (h : Fl16 b (Q ++ [v]) f) : tV16 f = v ∧ tB16 f = true := by
  refine ⟨?_, ?_⟩
  · unfold tV16
    rw [h.s]
    simp
  · unfold tB16
    rw [h.s]
    simp
theorem Fl16.pop (h : Fl16 b (Q ++ [v]) f) (hk : k = 0 ∨ k = v.1) : oB16 f k = true ∧ oV16 f k = v ∧ Fl16 b Q (oF16 f k) := by
  have h1 : oB16 f k = true := by
    unfold oB16
    rw [h.top.1, h.top.2]
    rcases hk with rfl | rfl <;> simp
  refine ⟨h1, ?_, ?_⟩
  · rw [oV16, if_pos h1, h.top.1]
  · rw [oF16, if_pos h1]
    exact ⟨h.l, by show f.s.dropLast = _; rw [h.s]; simp, h.p⟩
theorem Fl16.other (h : Fl16 b (Q ++ [v]) f) (h0 : k ≠ 0) (h1 : k ≠ v.1) : oB16 f k = false ∧ oV16 f k = z16 ∧ oF16 f k = f := by
  have h2 : oB16 f k = false := by
    unfold oB16
    rw [h.top.1, h.top.2]
    simp [h0, h1]
  exact ⟨h2, if_neg (by rw [h2]; decide), if_neg (by rw [h2]; decide)⟩
theorem Fl16.get (h : Fl16 b Q f) {y : Int} (hy : b[i]? = some y) : gB16 f (i : Int) = true ∧ gV16 f (i : Int) = (y, 0, 0) := by
  have hl := (List.getElem?_eq_some_iff.1 hy).1
  have h1 : gB16 f (i : Int) = true := by
    unfold gB16
    rw [h.l, List.length_map]
    simp
    exact hl
  refine ⟨h1, ?_⟩
  rw [gV16, if_pos h1, h.l, Int.toNat_natCast, List.getElem?_map, hy]
  rfl
/-- The kind that another one is asked for is neither it nor none. -/
theorem kind16 (h : 1 ≤ k ∧ k ≤ 3) : k % 3 + 1 ≠ 0 ∧ k % 3 + 1 ≠ k ∧ 0 ≤ k % 3 + 1 ∧ k % 3 + 1 < 256 := by omega
/-- A row without its last one. -/
theorem snoc16 {L : List Vlu} (h : L.length = m + 1) : ∃ Q v, L = Q ++ [v] ∧ Q.length = m := by
  have hne : L ≠ [] := by intro e; rw [e] at h; simp at h
  exact ⟨L.dropLast, L.getLast hne, (List.dropLast_concat_getLast hne).symm, by rw [List.length_dropLast, h]; rfl⟩
end
/-- The values that are wanted, in a row of the call's own. -/
abbrev tW16 (A : Option Addr) (m c : Nat) (Q : List Vlu) : Th15 := ⟨fun w => w.ownsRow 0 33 3 (.slice A m c) m (cev Q), mX16 A, fun w w' Y h hf hx => own_fr16 h hf fun a ha => hx _ ⟨a, ha, rfl⟩, fun w h j hj => by
  obtain ⟨a, ha, rfl⟩ := hj
  obtain ⟨cur, hc⟩ := own_ty16 h ha
  exact (Array.getElem?_eq_some_iff.1 hc).1⟩
theorem own_cut16 {w : World} {g m c : Nat} {Q : List Vlu} {v : Vlu} (h : w.ownsRow 0 33 3 (.slice (some ⟨g, 0, none⟩) (m + 1) c) (m + 1) (cev (Q ++ [v]))) (hQ : Q.length = m) : w.ownsRow 0 33 3 (.slice (some ⟨g, 0, none⟩) m c) m (cev Q) := by
  refine ⟨by rw [length_cev, hQ], .inr ?_⟩
  rcases h.2 with ⟨h1, _⟩ | ⟨ra, cap, cur, hv, hb, hh, hn, hm, hs, ht⟩
  · cases h1
  · injection hv with e1 e2 e3
    injection e1 with e1
    injection e1 with e1
    subst e1 e3
    refine ⟨g, c, cur, rfl, hb, hh, by omega, hm, hs, ?_⟩
    have h2 : (cur.toList.take ((m + 1) * 3)).take (m * 3) = (cev (Q ++ [v])).take (m * 3) := by rw [ht]
    rw [List.take_take, Nat.min_eq_left (by omega), cev_append, List.take_append_of_le_length (by rw [length_cev, hQ]; exact Nat.le_refl _)] at h2
    rw [h2, List.take_of_length_le (by rw [length_cev, hQ]; exact Nat.le_refl _)]
/-- append of one value, out of a region that draws nothing, with what becomes of the row's block. -/
theorem wpList_append_rvgb {w : World} {ops : Array Oper} {rest : List Oper} {o : Oper} {a : Act} {Q : Exit → Act → World → Prop} (hgd : o.guard = none) (s x : Operand)
    (ho : o.op = .call { callee := .builtin .append, args := #[s, x], argTypes := #[23, 23] })
    (v : Value) (n : Nat) (K0 : List Vlu) (hs : a.eval s = v) (hown : w.ownsRow 0 33 3 v n (cev K0))
    (ad : Addr) (m c : Nat) (L : List Vlu) (hx : a.eval x = .slice (some ad) m c) (hr : Rv w (some ad) c L) (hc : 0 < c) (hm : m = L.length) (hbytes : n + m ≤ 1000000)
    (h : ∀ A' c' w', w'.ownsRow 0 33 3 (.slice A' (n + m) c') (n + m) (cev (K0 ++ L)) → w.grownBy w' v.ownBlock → ((Value.slice A' (n + m) c').ownBlock = v.ownBlock ∨ (Value.slice A' (n + m) c').ownBlock = some w.heap.size) → wpList Try.prog ops Q rest (a.put o.dst (.slice A' (n + m) c')) w') : wpList Try.prog ops Q (o :: rest) a w := by
  refine wpList_plain hgd fun K hK => ?_
  have := step_append_rvgb (ops := ops) (K := K) (Q := Q) (E := True) hgd s x ho v n K0 hs hown ad m c L hx hr hc hm hbytes fun A' c' w' h1 h2 h3 => hK _ _ (h A' c' w' h1 h2 h3)
  rw [if_pos (by simp [Region.wanted, hgd])] at this
  exact this
end Go.Proofs.Ytkifapnmojfjoaa
