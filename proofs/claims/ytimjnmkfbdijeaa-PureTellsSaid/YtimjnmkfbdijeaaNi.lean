/-
  append of integers to a row of the call's own (as in Fi, without flow).
-/
import Derived.Test.YtimjnmkfbdijeaaLu
import Derived.Test.YtimjnmkfbdijeaaLk
import Derived.ArgAppend
namespace Go.Proofs.Ytimjnmkfbdijeaa
open Go.RowKit
set_option maxRecDepth 100000
set_option linter.unusedVariables false

theorem ci9_oneN (L : List Int) : ∀ u ∈ ci9 L, u.oneCell' = true := by
  intro u hu
  simp only [ci9, List.mem_map] at hu
  obtain ⟨x, -, rfl⟩ := hu
  rfl
theorem wpList_append_niN (w : World) {ops : Array Oper} {rest : List Oper} {o : Oper} {a : Act} {Q : Exit → Act → World → Prop} (hgd : o.guard = none) (s x : Operand)
    (ho : o.op = .call { callee := .builtin .append, args := #[s, x], argTypes := #[53, 53] })
    (base : Nat) (v : Value) (n : Nat) (K : List Int) (hs : a.eval s = v) (hown : w.ownsRow base 3 1 v n (ci9 K))
    (A : Option Addr) (m c : Nat) (L : List Int) (hx : a.eval x = .slice A m c) (hr : Rn w A c L) (hm : m = L.length) (hbytes : n + m ≤ 1000000) (hbase : base ≤ w.heap.size)
    (h : ∀ A' c' w', w'.ownsRow base 3 1 (.slice A' (n + m) c') (n + m) (ci9 (K ++ L)) → Below base w w' → wpList Try.prog ops Q rest (a.put o.dst (.slice A' (n + m) c')) w') : wpList Try.prog ops Q (o :: rest) a w := by
  have hinfo := Try.infoN
  rw [Option.map_eq_some_iff] at hinfo
  obtain ⟨i, hi, hz⟩ := hinfo
  simp only [Prod.mk.injEq] at hz
  obtain ⟨hz0, hz1, hz2⟩ := hz
  have hbel : ∀ {w'}, w.grownBy w' v.ownBlock → Below base w w' := fun hg => (Below.refl _ _).grown hg hbase fun g hg' => (hown.lt g hg').1
  rcases hr.2.2 with ⟨rfl, rfl⟩ | ⟨ad, rfl, hcell⟩
  · have h0 : L = [] := List.eq_nil_of_length_eq_zero (by have := hr.1; omega)
    subst h0
    obtain rfl : m = 0 := hm
    refine wpList_append_own_none hgd s x 53 ho base 3 i 1 Try.underlying53 hi v n (ci9 K) hs hown hx ?_
    obtain ⟨A', c', rfl⟩ := own_form hown
    have := h A' c' w (by simpa using hown) (hbel (World.grownBy.refl w _))
    simpa using this
  · refine wpList_append_own_at w hgd s x 53 ho base 3 i _ 1 8 Try.underlying53 hi hz0 hz1 hz2 rfl (by decide) v n (ci9 K) hs hown ad m c (ci9 L) hx (by simp [ci9, hm])
      (fun j u hj => by
        simp only [ci9, List.getElem?_map, Option.map_eq_some_iff] at hj
        obtain ⟨y, hy, rfl⟩ := hj
        exact hcell j y hy) (ci9_oneN L) (by unfold maxLen; omega) (by omega) hbase ?_
    intro v' w' hown' hg _ _
    obtain ⟨A', c', rfl⟩ := own_form hown'
    exact h A' c' w' (by rw [ci9, List.map_append]; exact hown') (hbel hg)
end Go.Proofs.Ytimjnmkfbdijeaa
