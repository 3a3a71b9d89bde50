/-
  Layer 16: the reference's Set, Push, Pop.
-/
import Derived.Test.YtkifapnmojfjoaaUa
import Derived.Test.YtkifapnmojfjoaaLq
namespace Go.Proofs.Ytkifapnmojfjoaa
open Go.RowKit
set_option maxRecDepth 100000
set_option linter.unusedSimpArgs false
set_option linter.unusedVariables false

theorem hb16 {a b : Option Nat} {s : Nat} (h : a = b ∨ ∃ q, s ≤ q ∧ a = some q) : ∀ q, a = some q → some q = b ∨ s ≤ q := fun q hq => by
  rcases h with h | ⟨r, h1, h2⟩
  · exact .inl (by rw [← hq]; exact h)
  · rw [h2] at hq
    injection hq with hq
    exact .inr (by omega)
theorem rf16_locals {X : Nat → Prop} {w w9 : World} {B m : Nat} {f : Fm} {A A2 A3 N : Option Addr} {c c2 c3 cn : Nat} {T : List (Int × Int)} {l' : List Vlu} (hm : l'.length = m) (hok : ∀ x ∈ l' ++ f.s, VlOk x) (hn : l'.length + f.s.length ≤ 256) (h : Rq16 w B f A A2 A3 c c2 c3 T) (x0 : X B) (x1 : ∀ a, A = some a → X a.block) (x2 : ∀ a, A2 = some a → X a.block) (x3 : ∀ a, A3 = some a → X a.block) (x4 : ∀ j, X j → j < w.heap.size)
    (hf : Fr11 (fun j => some j = (Value.slice A f.l.length c).ownBlock) w w9) (ho : w9.ownsRow 0 33 3 (.slice N m cn) m (cev l'))
    (hb9 : ∀ q, (Value.slice N m cn).ownBlock = some q → some q = (Value.slice A f.l.length c).ownBlock ∨ w.heap.size ≤ q) :
    w9.heap[B]? = some (.cells #[.slice A f.l.length c, .slice A2 f.s.length c2, .int .i64 f.p, .slice A3 T.length c3] 40 (0, 0)) ∧
    ∃ X', Rf16 X' (w9.setCell ⟨B, 0, none⟩ (.slice N m cn)) B { f with l := l' } ∧ Fr11 X w (w9.setCell ⟨B, 0, none⟩ (.slice N m cn)) ∧ ∀ j, X' j → X j ∨ w.heap.size ≤ j := by
  subst hm
  have hXA : ∀ j, some j = (Value.slice A f.l.length c).ownBlock → X j := fun j hj => by
    cases hA : A with
    | none => rw [hA] at hj; simp [Value.ownBlock] at hj
    | some a =>
      rw [hA] at hj
      have e : j = a.block := by { simpa [Value.ownBlock] using hj }
      rw [e]; exact x1 a hA
  have hBB : ¬ some B = (Value.slice A f.l.length c).ownBlock := fun e => by
    cases hA : A with
    | none => rw [hA] at e; simp [Value.ownBlock] at e
    | some a =>
      rw [hA] at e
      have e : B = a.block := by { simpa [Value.ownBlock] using e }
      exact h.Bl hA e
  have hB9 := (hf.block _ (Array.getElem?_eq_some_iff.1 h.box).1 hBB).trans h.box
  have hap_A2 : ∀ a, A2 = some a → ¬ some a.block = (Value.slice A f.l.length c).ownBlock := fun a ha e => by
    cases hb : A with
    | none => rw [hb] at e; simp [Value.ownBlock] at e
    | some b =>
      rw [hb] at e
      have e : a.block = b.block := by { simpa [Value.ownBlock] using e }
      exact (fun e => h.ap b a hb ha e.symm) e
  have hap_A3 : ∀ a, A3 = some a → ¬ some a.block = (Value.slice A f.l.length c).ownBlock := fun a ha e => by
    cases hb : A with
    | none => rw [hb] at e; simp [Value.ownBlock] at e
    | some b =>
      rw [hb] at e
      have e : a.block = b.block := by { simpa [Value.ownBlock] using e }
      exact (fun e => h.lt hb ha e.symm) e
  have hNO : ∀ a, N = some a → ∀ b, A2 = some b → a.block ≠ b.block := fun a ha b hb e => by
    rcases hb9 a.block (by rw [ha]; rfl) with h9 | h9
    · exact hap_A2 b hb (by rw [← e]; exact h9)
    · have := x4 _ (x2 b hb)
      omega
  have hNB : ∀ a, N = some a → ¬ a.block = B := fun a ha e => by
    obtain ⟨cur, hc⟩ := own_ty16 ho ha
    rw [e] at hc
    have := hB9.symm.trans hc
    simp at this
  have hs : Fr11 (fun j => j = B) w9 (w9.setCell ⟨B, 0, none⟩ (.slice N l'.length cn)) := (Fr11.refl (fun j => j = B) w9).set (p := ⟨B, 0, none⟩) (.inr rfl) _
  have hXN : ∀ a, N = some a → X a.block ∨ (w.heap.size ≤ a.block ∧ a.block < w9.heap.size) := fun a ha => by
    obtain ⟨cur, hc⟩ := own_ty16 ho ha
    have hlt := (Array.getElem?_eq_some_iff.1 hc).1
    subst ha
    rcases hb9 a.block rfl with h9 | h9
    · exact .inl (hXA _ h9)
    · exact .inr ⟨h9, hlt⟩
  refine ⟨hB9, fun j => X j ∨ (w.heap.size ≤ j ∧ j < w9.heap.size), ⟨N, A2, A3, cn, c2, c3, T, ⟨?_, own_fr16 ho hs (fun a ha => hNB a ha), own_fr16 (own_fr16 h.rs hf (fun a ha e => hap_A2 a ha e)) hs (fun a ha e => h.Bs ha e.symm), own_fr16 (own_fr16 h.rt hf (fun a ha e => hap_A3 a ha e)) hs (fun a ha e => h.Bt ha e.symm), fun a a2 ha h2 => hNO a ha a2 h2, hok, hn, h.nd, h.pos, h.tt, h.tq⟩, .inl x0, hXN, fun a ha => .inl (x2 a ha), fun a ha => .inl (x3 a ha), fun j hj => ?_⟩, (hf.mono hXA).set (p := ⟨B, 0, none⟩) (.inr x0) _, fun j hj => hj.imp id And.left⟩
  · rw [heap_setCell_same w9 B 0 _ _ _ hB9]
    rfl
  · simp
    rcases hj with hj | hj
    · exact Nat.lt_of_lt_of_le (x4 j hj) hf.size
    · exact hj.2
theorem rf16_stack {X : Nat → Prop} {w w9 : World} {B m : Nat} {f : Fm} {A A2 A3 N : Option Addr} {c c2 c3 cn : Nat} {T : List (Int × Int)} {s' : List Vlu} (hm : s'.length = m) (hok : ∀ x ∈ f.l ++ s', VlOk x) (hn : f.l.length + s'.length ≤ 256) (h : Rq16 w B f A A2 A3 c c2 c3 T) (x0 : X B) (x1 : ∀ a, A = some a → X a.block) (x2 : ∀ a, A2 = some a → X a.block) (x3 : ∀ a, A3 = some a → X a.block) (x4 : ∀ j, X j → j < w.heap.size)
    (hf : Fr11 (fun j => some j = (Value.slice A2 f.s.length c2).ownBlock) w w9) (ho : w9.ownsRow 0 33 3 (.slice N m cn) m (cev s'))
    (hb9 : ∀ q, (Value.slice N m cn).ownBlock = some q → some q = (Value.slice A2 f.s.length c2).ownBlock ∨ w.heap.size ≤ q) :
    w9.heap[B]? = some (.cells #[.slice A f.l.length c, .slice A2 f.s.length c2, .int .i64 f.p, .slice A3 T.length c3] 40 (0, 0)) ∧
    ∃ X', Rf16 X' (w9.setCell ⟨B, 1, none⟩ (.slice N m cn)) B { f with s := s' } ∧ Fr11 X w (w9.setCell ⟨B, 1, none⟩ (.slice N m cn)) ∧ ∀ j, X' j → X j ∨ w.heap.size ≤ j := by
  subst hm
  have hXA : ∀ j, some j = (Value.slice A2 f.s.length c2).ownBlock → X j := fun j hj => by
    cases hA : A2 with
    | none => rw [hA] at hj; simp [Value.ownBlock] at hj
    | some a =>
      rw [hA] at hj
      have e : j = a.block := by { simpa [Value.ownBlock] using hj }
      rw [e]; exact x2 a hA
  have hBB : ¬ some B = (Value.slice A2 f.s.length c2).ownBlock := fun e => by
    cases hA : A2 with
    | none => rw [hA] at e; simp [Value.ownBlock] at e
    | some a =>
      rw [hA] at e
      have e : B = a.block := by { simpa [Value.ownBlock] using e }
      exact h.Bs hA e
  have hB9 := (hf.block _ (Array.getElem?_eq_some_iff.1 h.box).1 hBB).trans h.box
  have hap_A : ∀ a, A = some a → ¬ some a.block = (Value.slice A2 f.s.length c2).ownBlock := fun a ha e => by
    cases hb : A2 with
    | none => rw [hb] at e; simp [Value.ownBlock] at e
    | some b =>
      rw [hb] at e
      have e : a.block = b.block := by { simpa [Value.ownBlock] using e }
      exact h.ap a b ha hb e
  have hap_A3 : ∀ a, A3 = some a → ¬ some a.block = (Value.slice A2 f.s.length c2).ownBlock := fun a ha e => by
    cases hb : A2 with
    | none => rw [hb] at e; simp [Value.ownBlock] at e
    | some b =>
      rw [hb] at e
      have e : a.block = b.block := by { simpa [Value.ownBlock] using e }
      exact (fun e => h.st hb ha e.symm) e
  have hNO : ∀ a, N = some a → ∀ b, A = some b → a.block ≠ b.block := fun a ha b hb e => by
    rcases hb9 a.block (by rw [ha]; rfl) with h9 | h9
    · exact hap_A b hb (by rw [← e]; exact h9)
    · have := x4 _ (x1 b hb)
      omega
  have hNB : ∀ a, N = some a → ¬ a.block = B := fun a ha e => by
    obtain ⟨cur, hc⟩ := own_ty16 ho ha
    rw [e] at hc
    have := hB9.symm.trans hc
    simp at this
  have hs : Fr11 (fun j => j = B) w9 (w9.setCell ⟨B, 1, none⟩ (.slice N s'.length cn)) := (Fr11.refl (fun j => j = B) w9).set (p := ⟨B, 1, none⟩) (.inr rfl) _
  have hXN : ∀ a, N = some a → X a.block ∨ (w.heap.size ≤ a.block ∧ a.block < w9.heap.size) := fun a ha => by
    obtain ⟨cur, hc⟩ := own_ty16 ho ha
    have hlt := (Array.getElem?_eq_some_iff.1 hc).1
    subst ha
    rcases hb9 a.block rfl with h9 | h9
    · exact .inl (hXA _ h9)
    · exact .inr ⟨h9, hlt⟩
  refine ⟨hB9, fun j => X j ∨ (w.heap.size ≤ j ∧ j < w9.heap.size), ⟨A, N, A3, c, cn, c3, T, ⟨?_, own_fr16 (own_fr16 h.rl hf (fun a ha e => hap_A a ha e)) hs (fun a ha e => h.Bl ha e.symm), own_fr16 ho hs (fun a ha => hNB a ha), own_fr16 (own_fr16 h.rt hf (fun a ha e => hap_A3 a ha e)) hs (fun a ha e => h.Bt ha e.symm), fun a a2 ha h2 e => hNO a2 h2 a ha e.symm, hok, hn, h.nd, h.pos, h.tt, h.tq⟩, .inl x0, fun a ha => .inl (x1 a ha), hXN, fun a ha => .inl (x3 a ha), fun j hj => ?_⟩, (hf.mono hXA).set (p := ⟨B, 1, none⟩) (.inr x0) _, fun j hj => hj.imp id And.left⟩
  · rw [heap_setCell_same w9 B 1 _ _ _ hB9]
    rfl
  · simp
    rcases hj with hj | hj
    · exact Nat.lt_of_lt_of_le (x4 j hj) hf.size
    · exact hj.2
theorem rf16_turns {X : Nat → Prop} {w w9 : World} {B m : Nat} {f : Fm} {A A2 A3 N : Option Addr} {c c2 c3 cn : Nat} {T : List (Int × Int)} {T' : List (Int × Int)} {t' : Int → Int} {q' : Nat} (hm : T'.length = m) (hnd : (T'.map (·.1)).Nodup) (hpos : ∀ x ∈ T', 0 < x.2 ∧ x.2 ≤ 9223372036854775807) (htt : ∀ y, t' y = lk16 T' y) (htq : T'.length ≤ q') (h : Rq16 w B f A A2 A3 c c2 c3 T) (x0 : X B) (x1 : ∀ a, A = some a → X a.block) (x2 : ∀ a, A2 = some a → X a.block) (x3 : ∀ a, A3 = some a → X a.block) (x4 : ∀ j, X j → j < w.heap.size)
    (hf : Fr11 (fun j => some j = (Value.slice A3 T.length c3).ownBlock) w w9) (ho : w9.ownsRow 0 68 2 (.slice N m cn) m (cet16 T'))
    (hb9 : ∀ q, (Value.slice N m cn).ownBlock = some q → some q = (Value.slice A3 T.length c3).ownBlock ∨ w.heap.size ≤ q) :
    w9.heap[B]? = some (.cells #[.slice A f.l.length c, .slice A2 f.s.length c2, .int .i64 f.p, .slice A3 T.length c3] 40 (0, 0)) ∧
    ∃ X', Rf16 X' (w9.setCell ⟨B, 3, none⟩ (.slice N m cn)) B { f with t := t', q := q' } ∧ Fr11 X w (w9.setCell ⟨B, 3, none⟩ (.slice N m cn)) ∧ ∀ j, X' j → X j ∨ w.heap.size ≤ j := by
  subst hm
  have hXA : ∀ j, some j = (Value.slice A3 T.length c3).ownBlock → X j := fun j hj => by
    cases hA : A3 with
    | none => rw [hA] at hj; simp [Value.ownBlock] at hj
    | some a =>
      rw [hA] at hj
      have e : j = a.block := by { simpa [Value.ownBlock] using hj }
      rw [e]; exact x3 a hA
  have hBB : ¬ some B = (Value.slice A3 T.length c3).ownBlock := fun e => by
    cases hA : A3 with
    | none => rw [hA] at e; simp [Value.ownBlock] at e
    | some a =>
      rw [hA] at e
      have e : B = a.block := by { simpa [Value.ownBlock] using e }
      exact h.Bt hA e
  have hB9 := (hf.block _ (Array.getElem?_eq_some_iff.1 h.box).1 hBB).trans h.box
  have hap_A : ∀ a, A = some a → ¬ some a.block = (Value.slice A3 T.length c3).ownBlock := fun a ha e => by
    cases hb : A3 with
    | none => rw [hb] at e; simp [Value.ownBlock] at e
    | some b =>
      rw [hb] at e
      have e : a.block = b.block := by { simpa [Value.ownBlock] using e }
      exact h.lt ha hb e
  have hap_A2 : ∀ a, A2 = some a → ¬ some a.block = (Value.slice A3 T.length c3).ownBlock := fun a ha e => by
    cases hb : A3 with
    | none => rw [hb] at e; simp [Value.ownBlock] at e
    | some b =>
      rw [hb] at e
      have e : a.block = b.block := by { simpa [Value.ownBlock] using e }
      exact h.st ha hb e
  have hNB : ∀ a, N = some a → ¬ a.block = B := fun a ha e => by
    obtain ⟨cur, hc⟩ := own_ty16 ho ha
    rw [e] at hc
    have := hB9.symm.trans hc
    simp at this
  have hs : Fr11 (fun j => j = B) w9 (w9.setCell ⟨B, 3, none⟩ (.slice N T'.length cn)) := (Fr11.refl (fun j => j = B) w9).set (p := ⟨B, 3, none⟩) (.inr rfl) _
  have hXN : ∀ a, N = some a → X a.block ∨ (w.heap.size ≤ a.block ∧ a.block < w9.heap.size) := fun a ha => by
    obtain ⟨cur, hc⟩ := own_ty16 ho ha
    have hlt := (Array.getElem?_eq_some_iff.1 hc).1
    subst ha
    rcases hb9 a.block rfl with h9 | h9
    · exact .inl (hXA _ h9)
    · exact .inr ⟨h9, hlt⟩
  refine ⟨hB9, fun j => X j ∨ (w.heap.size ≤ j ∧ j < w9.heap.size), ⟨A, A2, N, c, c2, cn, T', ⟨?_, own_fr16 (own_fr16 h.rl hf (fun a ha e => hap_A a ha e)) hs (fun a ha e => h.Bl ha e.symm), own_fr16 (own_fr16 h.rs hf (fun a ha e => hap_A2 a ha e)) hs (fun a ha e => h.Bs ha e.symm), own_fr16 ho hs (fun a ha => hNB a ha), h.ap, h.ok, h.many, hnd, hpos, htt, htq⟩, .inl x0, fun a ha => .inl (x1 a ha), fun a ha => .inl (x2 a ha), hXN, fun j hj => ?_⟩, (hf.mono hXA).set (p := ⟨B, 3, none⟩) (.inr x0) _, fun j hj => hj.imp id And.left⟩
  · rw [heap_setCell_same w9 B 3 _ _ _ hB9]
    rfl
  · simp
    rcases hj with hj | hj
    · exact Nat.lt_of_lt_of_le (x4 j hj) hf.size
    · exact hj.2

theorem cev_set16 {L : List Vlu} {k : Nat} (x : Vlu) (h : k < L.length) : (((cev L).set (k * 3) (.int .u8 x.1)).set (k * 3 + 1) (.int .i64 x.2.1)).set (k * 3 + 2) (.int .i64 x.2.2) = cev (L.set k x) := by
  induction L generalizing k with
  | nil => simp at h
  | cons y L ih =>
    cases k with
    | zero => rfl
    | succ k =>
      have := ih (k := k) (by simpa using h)
      rw [cev_cons, show (k + 1) * 3 = k * 3 + 1 + 1 + 1 by omega, show k * 3 + 1 + 1 + 1 + 1 = (k * 3 + 1) + 1 + 1 + 1 by omega, show k * 3 + 1 + 1 + 1 + 2 = (k * 3 + 2) + 1 + 1 + 1 by omega]
      simp only [List.set_cons_succ, List.set_cons_succ]
      rw [this, cev_cons]
/-- One local written over. -/
def st16 (w : World) (g k : Nat) (x : Vlu) : World := ((w.setCell ⟨g, k * 3, none⟩ (.int .u8 x.1)).setCell ⟨g, k * 3 + 1, none⟩ (.int .i64 x.2.1)).setCell ⟨g, k * 3 + 2, none⟩ (.int .i64 x.2.2)
theorem st16_fr (w : World) (g k : Nat) (x : Vlu) : Fr11 (fun j => j = g) w (st16 w g k x) :=
  (((Fr11.refl (fun j => j = g) w).set (p := ⟨g, k * 3, none⟩) (.inr rfl) _).set (p := ⟨g, k * 3 + 1, none⟩) (.inr rfl) _).set (p := ⟨g, k * 3 + 2, none⟩) (.inr rfl) _
theorem Rf16.setl {X : Nat → Prop} {w : World} {B g k : Nat} {f : Fm} {A A2 A3 : Option Addr} {c c2 c3 : Nat} {T : List (Int × Int)} (h : Rq16 w B f A A2 A3 c c2 c3 T) (x0 : X B) (x1 : ∀ a, A = some a → X a.block) (x2 : ∀ a, A2 = some a → X a.block) (x3 : ∀ a, A3 = some a → X a.block) (x4 : ∀ j, X j → j < w.heap.size)
    (hA : A = some ⟨g, 0, none⟩) (hk : k < f.l.length) {v : Vlu} (hv : VlOk v) : Rf16 X (st16 w g k v) B { f with l := f.l.set k v } ∧ Fr11 X w (st16 w g k v) := by
  subst hA
  have hf := st16_fr w g k v
  have hl : (f.l.set k v).length = f.l.length := by simp
  have hrl : (st16 w g k v).ownsRow 0 33 3 (.slice (some ⟨g, 0, none⟩) f.l.length c) f.l.length (cev (f.l.set k v)) := by
    rw [← cev_set16 v hk]
    exact ((((h.rl.stored (k * 3) _).1).stored (k * 3 + 1) _).1.stored (k * 3 + 2) _).1
  refine ⟨⟨_, A2, A3, c, c2, c3, T, ⟨?_, ?_, own_fr16 h.rs hf (fun a ha e => h.ap _ a rfl ha e.symm), own_fr16 h.rt hf (fun a ha e => h.lt rfl ha e.symm), h.ap, ?_, ?_, h.nd, h.pos, h.tt, h.tq⟩, x0, x1, x2, x3, fun j hj => Nat.lt_of_lt_of_le (x4 j hj) hf.size⟩, hf.mono fun j hj => by rw [hj]; exact x1 _ rfl⟩
  · show _ = some (Obj.cells #[.slice (some ⟨g, 0, none⟩) (f.l.set k v).length c, _, _, _] _ _)
    rw [hl]
    exact (hf.block _ (Array.getElem?_eq_some_iff.1 h.box).1 (h.Bl rfl)).trans h.box
  · show World.ownsRow _ 0 _ 3 (.slice _ (f.l.set k v).length c) (f.l.set k v).length _
    rw [hl]
    exact hrl
  · intro y hy
    rcases List.mem_append.1 hy with hy | hy
    · rcases List.mem_or_eq_of_mem_set hy with hy | rfl
      · exact h.ok y (List.mem_append_left _ hy)
      · exact hv
    · exact h.ok y (List.mem_append_right _ hy)
  · have := h.many
    unfold n16 at this ⊢
    dsimp only
    rw [hl]
    exact this
end Go.Proofs.Ytkifapnmojfjoaa
