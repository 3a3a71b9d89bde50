/-
  Modules parsed back, on lists alone: by definition; what has bytes is read from them; what is read has just those bytes; a byte more, a byte less.
-/
import Derived.Test.YteimpkjpoijhmaaDoorMl
import Derived.Test.YteimpkjpoijhmaaDoorLi
import Derived.Test.YteimpkjpoijhmaaDoorHj
namespace Go.Proofs.YteimpkjpoijhmaaDoor
open Go.RowKit
set_option maxRecDepth 100000
set_option linter.unusedSimpArgs false
set_option linter.unusedVariables false

abbrev Mz := Mh × List Ins
def apM (K : List Mz) (r : List Mz × Int × Int) : List Mz × Int × Int := if r.2.2 = 0 then (K ++ r.1, r.2.1, 0) else ([], 0, r.2.2)
theorem apM_apM (K M : List Mz) (r : List Mz × Int × Int) : apM K (apM M r) = apM (K ++ M) r := by
  unfold apM
  by_cases h : r.2.2 = 0
  · simp [h]
  · simp [h]
theorem apM_nil (r : List Mz × Int × Int) (h : r.2.2 ≠ 0 → r = ([], 0, r.2.2)) : apM [] r = r := by
  unfold apM
  by_cases h0 : r.2.2 = 0
  · obtain ⟨a, b, c⟩ := r
    simp at h0
    subst h0
    simp
  · rw [if_neg h0]
    exact (h h0).symm
/-- So many methods, from a place on: the methods, the place behind, the error. -/
def qms (l : List Int) : Nat → Int → List Mz × Int × Int
  | 0, q => ([], q, 0)
  | k + 1, q => match rdQ l q with
    | (m, n, e) => if e = 0 then (match rdC l n with
      | (f, K, t) => if f = 0 then apM [(m, K)] (qms l k t) else ([], 0, f)) else ([], 0, e)
theorem qms_err (l : List Int) : ∀ (k : Nat) (q : Int), (qms l k q).2.2 ≠ 0 → qms l k q = ([], 0, (qms l k q).2.2)
  | 0, q => fun h => absurd rfl h
  | k + 1, q => fun h => by
    obtain ⟨m, n, e, hQ⟩ : ∃ m n e, rdQ l q = (m, n, e) := ⟨_, _, _, rfl⟩
    obtain ⟨f, K, t, hC⟩ : ∃ f K t, rdC l n = (f, K, t) := ⟨_, _, _, rfl⟩
    simp only [qms, hQ, hC] at h ⊢
    by_cases he : e = 0
    · rw [if_pos he] at h ⊢
      by_cases hf : f = 0
      · rw [if_pos hf] at h ⊢
        unfold apM at h ⊢
        by_cases hr : (qms l k t).2.2 = 0
        · rw [if_pos hr] at h
          exact absurd rfl h
        · rw [if_neg hr]
      · rw [if_neg hf]
    · rw [if_neg he]
/-- The last byte, behind the methods. -/
def qPz (l : List Int) (g p : List Vlu) (many : Int) (s : List Mz) (q : Int) : Md × Int :=
  if getE l q 1 = 0 then (if (many ≤ getV l q 1 ∧ getV l q 1 ≠ 255) ∨ getN l q 1 < l.length then (Md.zero, 80) else (⟨g, p, s, if getV l q 1 = 255 then -1 else getV l q 1⟩, 0)) else (Md.zero, getE l q 1)
def qPs (l : List Int) (g p : List Vlu) (many : Int) (r : List Mz × Int × Int) : Md × Int := if r.2.2 = 0 then qPz l g p many r.1 r.2.1 else (Md.zero, r.2.2)
def qPm (l : List Int) (g : List Vlu) (r : List Vlu × Int × Int) : Md × Int :=
  if r.2.2 = 0 then (if getE l r.2.1 1 = 0 then (if 16 < getV l r.2.1 1 then (Md.zero, 80) else qPs l g r.1 (getV l r.2.1 1) (qms l (getV l r.2.1 1).toNat (getN l r.2.1 1))) else (Md.zero, getE l r.2.1 1)) else (Md.zero, r.2.2)
def qPg (l : List Int) (r : List Vlu × Int × Int) : Md × Int := if r.2.2 = 0 then (if 4 < r.1.length then (Md.zero, 80) else qPm l r.1 (rdP l r.2.1)) else (Md.zero, r.2.2)
/-- Parse: the module, the error. -/
def qP (l : List Int) : Md × Int := if 2000 < l.length then (Md.zero, 3) else qPg l (rdP l 0)

def qOk (d : Md) : Prop := (∀ x ∈ d.g, VlOk x) ∧ (∀ x ∈ d.p, VlOk x) ∧ ∀ z ∈ d.s, ∀ x ∈ z.2, InOk x
theorem qok_of {w : World} {y : Ma} {d : Md} (h : Hq w y d) : qOk d := by
  refine ⟨h.1.1, h.2.1.1, fun z hz x hx => ?_⟩
  rw [← h.2.2.2.1] at hz
  obtain ⟨u, hu, rfl⟩ := List.mem_map.1 hz
  exact (h.2.2.1.1 u hu).2.1.1 x hx
theorem qmE_all : ∀ {s : List Mz}, qmE s = 0 → ∀ z ∈ s, mM z.1 = true ∧ codM z.2 = true
  | [], _ => fun z hz => (by cases hz)
  | y :: s, h => fun z hz => by
    rw [qmE] at h
    by_cases h1 : mM y.1 = true
    · rw [if_pos h1] at h
      by_cases h2 : codM y.2 = true
      · rw [if_pos h2] at h
        rcases List.mem_cons.1 hz with rfl | hz
        · exact ⟨h1, h2⟩
        · exact qmE_all h z hz
      · rw [if_neg h2] at h; cases h
    · rw [if_neg h1] at h; cases h
theorem qmE_mk : ∀ {s : List Mz}, (∀ z ∈ s, mM z.1 = true ∧ codM z.2 = true) → qmE s = 0
  | [], _ => rfl
  | y :: s, h => by
    rw [qmE, if_pos (h y (List.mem_cons_self ..)).1, if_pos (h y (List.mem_cons_self ..)).2]
    exact qmE_mk fun z hz => h z (List.mem_cons_of_mem _ hz)
theorem qmB_byt {s : List Mz} (h : ∀ z ∈ s, mM z.1 = true ∧ codM z.2 = true) (h0 : ∀ z ∈ s, ∀ x ∈ z.2, InOk x) : Byt (qmB s) := by
  intro y hy
  obtain ⟨z, hz, hy⟩ := List.mem_flatMap.1 hy
  rcases List.mem_append.1 hy with hy | hy
  · exact mL_byt _ y hy
  · exact cB_byt (h z hz).2 (h0 z hz) y hy
theorem drop_take_len {l Z Y : List Int} {p : Nat} (h : l.drop p = Z ++ Y) (hz : 0 < Z.length) : p ≤ l.length ∧ (l.take p).length = p ∧ l = l.take p ++ (Z ++ Y) := by
  have hp : p < l.length := by
    rcases Nat.lt_or_ge p l.length with h1 | h1
    · exact h1
    · rw [List.drop_of_length_le h1] at h
      have := congrArg List.length h
      simp at this
      omega
  exact ⟨by omega, by simp; omega, by rw [← h, List.take_append_drop]⟩
theorem qms_enc {l : List Int} : ∀ {s : List Mz} {p : Nat} {Y : List Int}, (∀ z ∈ s, mM z.1 = true ∧ codM z.2 = true) → l.drop p = qmB s ++ Y → qms l s.length p = (s, ((p + (qmB s).length : Nat) : Int), 0)
  | [], p, Y, _, _ => by simp [qms, qmB]
  | (m, K) :: s, p, Y, h, hd => by
    have hm := (h (m, K) (List.mem_cons_self ..)).1
    have hk := (h (m, K) (List.mem_cons_self ..)).2
    have hmp := mL_pos hm
    have hcp := cB_pos K
    have e1 : qmB ((m, K) :: s) = mL m ++ (codB K ++ qmB s) := by simp [qmB]
    rw [e1, List.append_assoc] at hd
    obtain ⟨hp, hpl, hl⟩ := drop_take_len hd hmp
    have hq := rdQ_enc hm (l.take p) ((codB K ++ qmB s) ++ Y)
    rw [← hl, hpl] at hq
    have hd2 : l.drop (p + (mL m).length) = codB K ++ (qmB s ++ Y) := by
      rw [← List.drop_drop, hd, List.drop_left, List.append_assoc]
    obtain ⟨hp2, hpl2, hl2⟩ := drop_take_len hd2 hcp
    have hc := rdC_enc hk (l.take (p + (mL m).length)) (qmB s ++ Y)
    rw [List.append_assoc, ← hl2, hpl2] at hc
    have hd3 : l.drop (p + (mL m).length + (codB K).length) = qmB s ++ Y := by
      rw [← List.drop_drop, hd2, List.drop_left]
    have ih := qms_enc (fun z hz => h z (List.mem_cons_of_mem _ hz)) hd3
    rw [List.length_cons, qms, hq]
    dsimp only
    rw [if_pos rfl, show (p : Int) + ((mL m).length : Int) = ((p + (mL m).length : Nat) : Int) by omega, hc]
    dsimp only
    rw [if_pos rfl, ih, apM, if_pos rfl, e1]
    simp only [List.length_append, List.singleton_append]
    rw [show p + (mL m).length + (codB K).length + (qmB s).length = p + ((mL m).length + ((codB K).length + (qmB s).length)) by omega]
theorem qms_inv {l : List Int} (hb : Byt l) : ∀ {k p : Nat} {s : List Mz} {n : Int}, p ≤ l.length → qms l k p = (s, n, 0) → s.length = k ∧ (∀ z ∈ s, mM z.1 = true ∧ codM z.2 = true) ∧ (∀ z ∈ s, ∀ x ∈ z.2, InOk x) ∧ ∃ q : Nat, n = (q : Int) ∧ q = p + (qmB s).length ∧ q ≤ l.length ∧ l.drop p = qmB s ++ l.drop q
  | 0, p, s, n, hp, h => by
    simp only [qms, Prod.mk.injEq] at h
    obtain ⟨rfl, rfl, _⟩ := h
    exact ⟨rfl, fun z hz => (by cases hz), fun z hz => (by cases hz), p, rfl, by simp [qmB], hp, by simp [qmB]⟩
  | k + 1, p, s, n, hp, h => by
    obtain ⟨m, t, e, hQ⟩ : ∃ m n e, rdQ l p = (m, n, e) := ⟨_, _, _, rfl⟩
    simp only [qms, hQ] at h
    by_cases he : e = 0
    · subst he
      rw [if_pos rfl] at h
      obtain ⟨q, hq, ht, hle, hm, hL⟩ := rdQ_ok hb hQ
      obtain rfl : p = q := by omega
      obtain ⟨f, K, u, hC⟩ : ∃ f K u, rdC l t = (f, K, u) := ⟨_, _, _, rfl⟩
      rw [hC] at h
      dsimp only at h
      by_cases hf : f = 0
      · subst hf
        rw [if_pos rfl] at h
        obtain ⟨hk, hik, h0, h1, hu, hu2, hd⟩ := rdC_inv hb hC
        obtain ⟨s', n', e', hr⟩ : ∃ s' n' e', qms l k u = (s', n', e') := ⟨_, _, _, rfl⟩
        rw [hr, apM] at h
        dsimp only at h
        by_cases he' : e' = 0
        · subst he'
          rw [if_pos rfl] at h
          simp only [Prod.mk.injEq] at h
          obtain ⟨rfl, rfl, _⟩ := h
          obtain ⟨i1, i2, i3, q', i4, i5, i6, i7⟩ := qms_inv hb hu hr
          have htn : t.toNat = p + (mL m).length := by rw [ht]; omega
          rw [htn] at hu2 hd
          have e1 : qmB ([(m, K)] ++ s') = mL m ++ (codB K ++ qmB s') := by simp [qmB]
          have hd0 : l.drop p = mL m ++ l.drop (p + (mL m).length) := by
            conv => lhs; rw [← List.take_append_drop (mL m).length (l.drop p)]
            rw [List.drop_drop, ← hL]
          refine ⟨by simp [i1], fun z hz => ?_, fun z hz => ?_, q', i4, ?_, i6, ?_⟩
          · rcases List.mem_append.1 hz with hz | hz
            · rw [List.mem_singleton.1 hz]; exact ⟨hm, hk⟩
            · exact i2 z hz
          · rcases List.mem_append.1 hz with hz | hz
            · rw [List.mem_singleton.1 hz]; exact hik
            · exact i3 z hz
          · rw [e1, i5, hu2]
            simp only [List.length_append]
            omega
          · rw [e1, hd0, hd, i7]
            simp only [List.append_assoc]
        · rw [if_neg he'] at h
          simp only [Prod.mk.injEq] at h
          exact absurd h.2.2 he'
      · rw [if_neg hf] at h
        simp only [Prod.mk.injEq] at h
        exact absurd h.2.2 hf
    · rw [if_neg he] at h
      simp only [Prod.mk.injEq] at h
      exact absurd h.2.2 he
end Go.Proofs.YteimpkjpoijhmaaDoor
