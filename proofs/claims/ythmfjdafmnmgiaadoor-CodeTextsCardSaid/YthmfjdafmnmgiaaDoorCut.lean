/-
  What octet's cut, join, settle answer, for every argument: the part of the bytes, the number that it denotes; and what is cleared beside an error.
-/
import Derived.Test.YthmfjdafmnmgiaaDoorPut
namespace Go.Proofs.YthmfjdafmnmgiaaDoor
open Go.RowKit

/-- cut's error. -/
def cutE (l : List Int) (p n : Int) : Int := if p < 0 ∨ l.length < p then 2 else if l.length - p < n then 10 else 0
/-- cut's part. -/
def cutL (l : List Int) (p n : Int) : List Int := if cutE l p n = 0 then (l.drop p.toNat).take n.toNat else []
/-- cut's next. -/
def cutN (l : List Int) (p n : Int) : Int := if cutE l p n = 0 then p + n else 0

theorem cut_arg {l : List Int} {p n : Int} (h : p < 0 ∨ l.length < p) : cutE l p n = 2 ∧ cutL l p n = [] ∧ cutN l p n = 0 := by
  have e : cutE l p n = 2 := by rw [cutE, if_pos h]
  exact ⟨e, by rw [cutL, if_neg (by rw [e]; decide)], by rw [cutN, if_neg (by rw [e]; decide)]⟩
theorem cut_short {l : List Int} {p n : Int} (h1 : 0 ≤ p) (h2 : p ≤ l.length) (h : l.length - p < n) : cutE l p n = 10 ∧ cutL l p n = [] ∧ cutN l p n = 0 := by
  have e : cutE l p n = 10 := by rw [cutE, if_neg (by omega), if_pos h]
  exact ⟨e, by rw [cutL, if_neg (by rw [e]; decide)], by rw [cutN, if_neg (by rw [e]; decide)]⟩
theorem cut_yes {l : List Int} {p n : Int} (h1 : 0 ≤ p) (h2 : p ≤ l.length) (h : n ≤ l.length - p) : cutE l p n = 0 ∧ cutL l p n = (l.drop p.toNat).take n.toNat ∧ cutN l p n = p + n := by
  have e : cutE l p n = 0 := by rw [cutE, if_neg (by omega), if_neg (by omega)]
  exact ⟨e, by rw [cutL, if_pos e], by rw [cutN, if_pos e]⟩
theorem byt_cut {l : List Int} (h : Byt l) (p n : Int) : Byt (cutL l p n) := by
  unfold cutL
  split
  · exact byt_take (byt_drop h _) _
  · intro x hx; cases hx

set_option maxHeartbeats 400000 in
theorem cut_any (A : Option Addr) (c : Nat) (l : List Int) (p n : Int) (w : World) (hr : Rd w A c l) (hn : 0 ≤ n) :
    Calls Tryd.prog 77 #[.slice A l.length c, .int .i64 p, .int .i64 n] w fun e w' => ∃ A' c', e = .returned (.tuple #[.slice A' (cutL l p n).length c', .int .i64 (cutN l p n), .int .i64 (cutE l p n)]) ∧
      (∀ w2 : World, Rd w2 A c l → Rd w2 A' c' (cutL l p n)) ∧ w = w' := by
  have hlen := hr.len
  have hlc := hr.le
  have hcap := hr.cap
  by_cases h0 : p < 0
  · obtain ⟨e1, e2, e3⟩ := cut_arg (l := l) (n := n) (.inl h0)
    rw [e1, e2, e3]
    clear e1 e2 e3
    go_enter Tryd.func77, Tryd.ntmps77
    go_wp2_with fail
    go_ret3
    exact ⟨none, 0, rfl, fun _ _ => Rd.none_ _, rfl⟩
  · by_cases h2 : l.length < p
    · obtain ⟨e1, e2, e3⟩ := cut_arg (l := l) (n := n) (.inr h2)
      rw [e1, e2, e3]
      clear e1 e2 e3
      go_enter Tryd.func77, Tryd.ntmps77
      go_wp2_with fail
      go_ret3
      exact ⟨none, 0, rfl, fun _ _ => Rd.none_ _, rfl⟩
    · by_cases h3 : l.length - p < n
      · obtain ⟨e1, e2, e3⟩ := cut_short (by omega) (by omega) h3
        rw [e1, e2, e3]
        clear e1 e2 e3
        go_enter Tryd.func77, Tryd.ntmps77
        go_wp2_with fail
        go_ret3
        exact ⟨none, 0, rfl, fun _ _ => Rd.none_ _, rfl⟩
      · obtain ⟨a, rfl⟩ : ∃ a : Nat, p = a := ⟨p.toNat, by omega⟩
        obtain ⟨m, rfl⟩ : ∃ m : Nat, n = m := ⟨n.toNat, by omega⟩
        obtain ⟨e1, e2, e3⟩ := cut_yes (l := l) (p := a) (n := m) (by omega) (by omega) (by omega)
        rw [e1, e2, e3]
        clear e1 e2 e3
        have hs : ∀ w2 : World, Rd w2 A c l → Rd w2 (if c = a then A else A.map (·.add a)) (c - a) ((l.drop a).take m) := by
          intro w2 h2
          have hs := h2.sub a (a + m) (by omega) (by omega)
          have e4 : a + m - a = m := by omega
          rw [e4] at hs
          exact hs
        have e5 : ((l.drop (a : Int).toNat).take (m : Int).toNat).length = m := by simp; omega
        rw [e5]
        clear e5
        have HS := Lib.hid hs
        clear hs
        go_enter Tryd.func77, Tryd.ntmps77
        go_wp2_with fail
        all_goals
          go_ret3
          refine ⟨_, _, rfl, ?_, rfl⟩
          have hs := HS.out
          simpa [*] using hs
theorem cutE_inv {l : List Int} {p W : Int} (h : cutE l p W = 0) : 0 ≤ p ∧ p ≤ l.length ∧ W ≤ l.length - p := by
  by_cases h1 : p < 0 ∨ l.length < p
  · rw [(cut_arg h1).1] at h; simp at h
  · by_cases h2 : l.length - p < W
    · rw [(cut_short (by omega) (by omega) h2).1] at h; simp at h
    · omega
end Go.Proofs.YthmfjdafmnmgiaaDoor
