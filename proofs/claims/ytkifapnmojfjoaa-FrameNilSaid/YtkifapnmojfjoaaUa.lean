/-
  Layer 16 (frame): what the chapter says, on data; the reference's frame in memory.
-/
import Derived.Test.YtkifapnmojfjoaaPv
import Derived.Test.YtkifapnmojfjoaaFre
import Derived.Laws.OwnMore
import Derived.BigQuiet
namespace Go.Proofs.Ytkifapnmojfjoaa
open Go.RowKit
set_option maxRecDepth 100000
set_option linter.unusedSimpArgs false
set_option linter.unusedVariables false

/-- A frame: locals, stack (its top last), place, the turns that a loop has left; q: no more loops than so many have been begun. -/
structure Fm where
  l : List Vlu
  s : List Vlu
  p : Int
  t : Int → Int
  q : Nat
def z16 : Vlu := (0, 0, 0)
def va16 (x : Vlu) : Value := .agg #[.int .u8 x.1, .int .i64 x.2.1, .int .i64 x.2.2]
def kd16 (k : Int) : Bool := k == 1 || k == 2 || k == 3
def gB16 (f : Fm) (i : Int) : Bool := decide (0 ≤ i) && decide (i < (f.l.length : Int))
def gV16 (f : Fm) (i : Int) : Vlu := if gB16 f i = true then f.l[i.toNat]?.getD z16 else z16
def sB16 (f : Fm) (i : Int) (v : Vlu) : Bool := gB16 f i && (gV16 f i).1 == v.1
def sF16 (f : Fm) (i : Int) (v : Vlu) : Fm := if sB16 f i v = true then { f with l := f.l.set i.toNat v } else f
def n16 (f : Fm) : Nat := f.l.length + f.s.length
def pB16 (f : Fm) (v : Vlu) : Bool := kd16 v.1 && decide (n16 f < 256)
def pF16 (f : Fm) (v : Vlu) : Fm := if pB16 f v = true then { f with s := f.s ++ [v] } else f
def tB16 (f : Fm) : Bool := decide (0 < f.s.length)
def tV16 (f : Fm) : Vlu := f.s.getLastD z16
def oB16 (f : Fm) (k : Int) : Bool := tB16 f && (k == 0 || k == (tV16 f).1)
def oV16 (f : Fm) (k : Int) : Vlu := if oB16 f k = true then tV16 f else z16
def oF16 (f : Fm) (k : Int) : Fm := if oB16 f k = true then { f with s := f.s.dropLast } else f
def goF16 (f : Fm) (p : Int) : Fm := { f with p := p }
def bF16 (f : Fm) (x n : Int) : Fm := { f with t := fun y => if y = x then (if 0 < n then n else 0) else f.t y, q := f.q + 1 }
def aB16 (f : Fm) (x : Int) : Bool := decide (0 < f.t x)
def aM16 (f : Fm) (x : Int) : Bool := decide (1 < f.t x)
def aF16 (f : Fm) (x : Int) : Fm := if aB16 f x = true then bF16 f x (f.t x - 1) else f
def nB16 (a b : List Int) (v : List Vlu) : Bool := decide (a.length = v.length) && decide (a.length + b.length ≤ 16) && a.all kd16 && decide (v.map (·.1) = a) && b.all kd16
def nF16 (b : List Int) (v : List Vlu) : Fm := ⟨v ++ b.map fun k => (k, 0, 0), [], 0, fun _ => 0, 0⟩
/-- The turns that a row of loops has. -/
def lk16 : List (Int × Int) → Int → Int
  | [], _ => 0
  | x :: T, y => if x.1 = y then x.2 else lk16 T y
def cet16 (T : List (Int × Int)) : List Value := T.flatMap fun x => [.int .i64 x.1, .int .i64 x.2]
theorem length_cet16 (T : List (Int × Int)) : (cet16 T).length = T.length * 2 := by
  induction T with
  | nil => rfl
  | cons x T ih => rw [cet16, List.flatMap_cons, List.length_append, ← cet16, ih]; simp; omega
theorem cet16_append (T U : List (Int × Int)) : cet16 (T ++ U) = cet16 T ++ cet16 U := by simp [cet16]
theorem cet16_at {T : List (Int × Int)} {i : Nat} {x : Int × Int} (h : T[i]? = some x) : (cet16 T)[i * 2]? = some (.int .i64 x.1) ∧ (cet16 T)[i * 2 + 1]? = some (.int .i64 x.2) := by
  induction T generalizing i with
  | nil => simp at h
  | cons y T ih =>
    cases i with
    | zero =>
      simp at h
      subst h
      exact ⟨rfl, rfl⟩
    | succ i =>
      obtain ⟨h1, h2⟩ := ih (i := i) (by simpa using h)
      have e : cet16 (y :: T) = .int .i64 y.1 :: .int .i64 y.2 :: cet16 T := rfl
      rw [e, show (i + 1) * 2 = i * 2 + 1 + 1 by omega, show i * 2 + 1 + 1 + 1 = (i * 2 + 1) + 1 + 1 by omega]
      simp only [List.getElem?_cons_succ]
      exact ⟨h1, h2⟩
/-- The reference's frame at block B. -/
structure Rq16 (w : World) (B : Nat) (f : Fm) (A A2 A3 : Option Addr) (c c2 c3 : Nat) (T : List (Int × Int)) : Prop where
  box : w.heap[B]? = some (.cells #[.slice A f.l.length c, .slice A2 f.s.length c2, .int .i64 f.p, .slice A3 T.length c3] 40 (0, 0))
  rl : w.ownsRow 0 33 3 (.slice A f.l.length c) f.l.length (cev f.l)
  rs : w.ownsRow 0 33 3 (.slice A2 f.s.length c2) f.s.length (cev f.s)
  rt : w.ownsRow 0 68 2 (.slice A3 T.length c3) T.length (cet16 T)
  ap : ∀ a a2, A = some a → A2 = some a2 → a.block ≠ a2.block
  ok : ∀ x ∈ f.l ++ f.s, VlOk x
  many : n16 f ≤ 256
  nd : (T.map (·.1)).Nodup
  pos : ∀ x ∈ T, 0 < x.2 ∧ x.2 ≤ 9223372036854775807
  tt : ∀ y, f.t y = lk16 T y
  tq : T.length ≤ f.q
/-- It lies in the blocks of X. -/
def Rf16 (X : Nat → Prop) (w : World) (B : Nat) (f : Fm) : Prop := ∃ A A2 A3 c c2 c3 T, Rq16 w B f A A2 A3 c c2 c3 T ∧ X B ∧ (∀ a, A = some a → X a.block) ∧ (∀ a, A2 = some a → X a.block) ∧ (∀ a, A3 = some a → X a.block) ∧ ∀ j, X j → j < w.heap.size
section
variable {w w' : World} {B : Nat} {f : Fm} {A A2 A3 : Option Addr} {c c2 c3 : Nat} {T : List (Int × Int)} {X Y : Nat → Prop}
theorem own_fr16 {e size n m : Nat} {xs : List Value} {A : Option Addr} {c : Nat} (h : w.ownsRow 0 e size (.slice A n c) m xs) (hf : Fr11 Y w w') (hx : ∀ a, A = some a → ¬ Y a.block) : w'.ownsRow 0 e size (.slice A n c) m xs :=
  hf.own h (fun j hj => by
    cases A with
    | none => simp [Value.ownBlock] at hj
    | some a => have e : a.block = j := by { simpa [Value.ownBlock] using hj }; rw [← e]; exact hx a rfl)
theorem Rq16.fr (h : Rq16 w B f A A2 A3 c c2 c3 T) (hf : Fr11 Y w w') (h0 : ¬ Y B) (h1 : ∀ a, A = some a → ¬ Y a.block) (h2 : ∀ a, A2 = some a → ¬ Y a.block) (h3 : ∀ a, A3 = some a → ¬ Y a.block) : Rq16 w' B f A A2 A3 c c2 c3 T :=
  ⟨(hf.block _ (Array.getElem?_eq_some_iff.1 h.box).1 h0).trans h.box, own_fr16 h.rl hf h1, own_fr16 h.rs hf h2, own_fr16 h.rt hf h3, h.ap, h.ok, h.many, h.nd, h.pos, h.tt, h.tq⟩
theorem Rf16.fr (h : Rf16 X w B f) (hf : Fr11 Y w w') (hx : ∀ j, X j → ¬ Y j) : Rf16 X w' B f := by
  obtain ⟨A, A2, A3, c, c2, c3, T, h, h0, h1, h2, h3, h4⟩ := h
  exact ⟨A, A2, A3, c, c2, c3, T, h.fr hf (hx _ h0) (fun a ha => hx _ (h1 a ha)) (fun a ha => hx _ (h2 a ha)) (fun a ha => hx _ (h3 a ha)), h0, h1, h2, h3, fun j hj => Nat.lt_of_lt_of_le (h4 j hj) hf.size⟩
theorem nb16 (h : Below w.heap.size w w') : Fr11 (fun _ => False) w w' := Fr11.of_below h fun j h1 h2 => by omega
theorem Rf16.keep (h : Rf16 X w B f) (hb : Below w.heap.size w w') : Rf16 X w' B f := h.fr (nb16 hb) fun _ _ => id
theorem Rq16.c0 (h : Rq16 w B f A A2 A3 c c2 c3 T) : w.cell? ⟨B, 0, none⟩ = some (.slice A f.l.length c) ∧ w.cell? ⟨B, 1, none⟩ = some (.slice A2 f.s.length c2) ∧ w.cell? ⟨B, 2, none⟩ = some (.int .i64 f.p) ∧ w.cell? ⟨B, 3, none⟩ = some (.slice A3 T.length c3) := by
  refine ⟨?_, ?_, ?_, ?_⟩ <;> simp [World.cell?, h.box]
theorem Rq16.fz (h : Rq16 w B f A A2 A3 c c2 c3 T) (i : Nat) : w.frozen? ⟨B, i, none⟩ = false := frozen_of_row w B i _ _ h.box
/-- The cells of one value of a row of the call's own. -/
theorem val16 {L : List Vlu} {n c : Nat} {A : Option Addr} (h : w.ownsRow 0 33 3 (.slice A n c) n (cev L)) {i : Nat} {x : Vlu} (hi : L[i]? = some x) :
    ∃ g, A = some ⟨g, 0, none⟩ ∧ (w.cell? ⟨g, i * 3, none⟩ = some (.int .u8 x.1) ∧ w.cell? ⟨g, i * 3 + 1, none⟩ = some (.int .i64 x.2.1) ∧ w.cell? ⟨g, i * 3 + 2, none⟩ = some (.int .i64 x.2.2)) ∧ ∀ j, w.frozen? ⟨g, j, none⟩ = false := by
  have hl := (List.getElem?_eq_some_iff.1 hi).1
  have hn := h.1
  rw [length_cev] at hn
  rcases h.2 with ⟨_, h0⟩ | ⟨g, cap, cur, hv, _, hh, _⟩
  · omega
  · injection hv with e1
    subst e1
    obtain ⟨h1, h2, h3⟩ := cev_at hi
    have hz : ∀ j, (⟨g, 0, none⟩ : Addr).add j = ⟨g, j, none⟩ := fun j => by unfold Addr.add; split <;> simp_all
    have k1 := h.cells rfl _ _ h1
    have k2 := h.cells rfl _ _ h2
    have k3 := h.cells rfl _ _ h3
    rw [hz] at k1 k2 k3
    exact ⟨g, rfl, ⟨k1, k2, k3⟩, fun j => frozen_of_row w g j _ _ hh⟩
theorem own_ty16 {e size n m c : Nat} {xs : List Value} {A : Option Addr} (h : w.ownsRow 0 e size (.slice A n c) m xs) {a : Addr} (ha : A = some a) : ∃ cur, w.heap[a.block]? = some (.cells cur e (0, 0)) := by
  subst ha
  rcases h.2 with ⟨h1, _⟩ | ⟨ra, cap, cur, hv, _, hh, _⟩
  · cases h1
  · injection hv with e1
    injection e1 with e1
    subst e1
    exact ⟨cur, hh⟩
theorem Rq16.Bl (h : Rq16 w B f A A2 A3 c c2 c3 T) {a : Addr} (ha : A = some a) : B ≠ a.block := by
  intro e
  subst e
  obtain ⟨cur, hc⟩ := own_ty16 h.rl ha
  have := h.box.symm.trans hc
  simp at this
theorem Rq16.Bs (h : Rq16 w B f A A2 A3 c c2 c3 T) {a : Addr} (ha : A2 = some a) : B ≠ a.block := by
  intro e
  subst e
  obtain ⟨cur, hc⟩ := own_ty16 h.rs ha
  have := h.box.symm.trans hc
  simp at this
theorem Rq16.Bt (h : Rq16 w B f A A2 A3 c c2 c3 T) {a : Addr} (ha : A3 = some a) : B ≠ a.block := by
  intro e
  subst e
  obtain ⟨cur, hc⟩ := own_ty16 h.rt ha
  have := h.box.symm.trans hc
  simp at this
theorem Rq16.lt (h : Rq16 w B f A A2 A3 c c2 c3 T) {a b : Addr} (ha : A = some a) (hb : A3 = some b) : a.block ≠ b.block := by
  intro e
  obtain ⟨cur, hc⟩ := own_ty16 h.rl ha
  obtain ⟨cur2, hc2⟩ := own_ty16 h.rt hb
  rw [e] at hc
  have := hc.symm.trans hc2
  simp at this
theorem Rq16.st (h : Rq16 w B f A A2 A3 c c2 c3 T) {a b : Addr} (ha : A2 = some a) (hb : A3 = some b) : a.block ≠ b.block := by
  intro e
  obtain ⟨cur, hc⟩ := own_ty16 h.rs ha
  obtain ⟨cur2, hc2⟩ := own_ty16 h.rt hb
  rw [e] at hc
  have := hc.symm.trans hc2
  simp at this
end
/-! The reference's. -/
theorem rkind_v (k : Int) (w : World) : Calls Try.prog 24 #[.int .u8 k] w fun e w' => e = .returned (.bool (kd16 k)) ∧ w' = w := by
  by_cases h1 : k = 1
  · subst h1
    go_enter Try.func24, Try.ntmps24
    go_wp2_with fail
    go_ret
    exact ⟨rfl, rfl⟩
  · by_cases h2 : k = 2
    · subst h2
      go_enter Try.func24, Try.ntmps24
      go_wp2_with fail
      go_ret
      exact ⟨rfl, rfl⟩
    · have e1 : (k == 1) = false := by simpa using h1
      have e2 : (k == 2) = false := by simpa using h2
      have HK : Hid (kd16 k = (k == 3)) := by rw [Hid, kd16, e1, e2]; rfl
      clear h1 h2
      go_enter Try.func24, Try.ntmps24
      go_wp2_with fail
      go_ret
      rw [HK.out]
      exact ⟨rfl, rfl⟩
theorem rget_v (X : Nat → Prop) (B : Nat) (f : Fm) (i : Int) (w : World) (h : Rf16 X w B f) :
    Calls Try.prog 25 #[.pointer (some ⟨B, 0, none⟩), .int .i64 i] w fun e w' => e = .returned (.tuple #[va16 (gV16 f i), .bool (gB16 f i)]) ∧ Below w.heap.size w w' := by
  obtain ⟨A, A2, A3, c, c2, c3, T, h, -⟩ := h
  obtain ⟨b0, -, -, -⟩ := h.c0
  have hm := h.many
  have H := Lib.hid h
  obtain ⟨n, hn⟩ : ∃ n, f.l.length = n := ⟨_, rfl⟩
  rw [hn] at b0
  have hn9 : n ≤ 256 := by unfold n16 at hm; omega
  have HN := Lib.hid hn
  clear h hn hm
  cases hg : gB16 f i with
  | true =>
    have HG := Lib.hid hg
    have hb := hg
    simp only [gB16, Bool.and_eq_true, decide_eq_true_eq, HN.out] at hb
    obtain ⟨h1, h2⟩ := hb
    obtain ⟨k, rfl⟩ : ∃ k : Nat, i = (k : Int) := ⟨i.toNat, by omega⟩
    have hx : f.l[k]? = some (gV16 f k) := by rw [gV16, if_pos hg, Int.toNat_natCast, List.getElem?_eq_getElem (by rw [HN.out]; omega)]; rfl
    obtain ⟨g, hA, ⟨a0, a1, a2⟩, -⟩ := val16 H.out.rl hx
    subst hA
    obtain ⟨⟨x0, x1, x2⟩, hx2⟩ : ∃ x, gV16 f k = x := ⟨_, rfl⟩
    have HX := Lib.hid hx2
    rw [hx2] at a0 a1 a2
    dsimp only at a0 a1 a2
    have hl0 : B < w.heap.size := cell_lt b0
    have hl1 : g < w.heap.size := cell_lt a0
    clear hx hx2 hg
    go_enter Try.func25, Try.ntmps25
    go_wp2_with fail
    refine bodyPost_ret (v := .tuple #[.agg #[.int .u8 x0, .int .i64 x1, .int .i64 x2], .bool true]) (by simp [results, Try.results25, go_sem]) rfl ?_
    rw [HX.out]
    exact ⟨rfl, (Below.refl _ _).alloc (Nat.le_refl _) _⟩
  | false =>
    have HG := Lib.hid hg
    have HX : Hid (gV16 f i = z16) := by rw [Hid, gV16, if_neg (by rw [hg]; decide)]
    simp only [gB16, Bool.and_eq_false_iff, decide_eq_false_iff_not, HN.out] at hg
    have HI := Lib.hid hg
    have hl0 : B < w.heap.size := cell_lt b0
    clear hg
    by_cases h1 : i < 0
    · go_enter Try.func25, Try.ntmps25
      go_wp2_with fail
      refine bodyPost_ret (v := .tuple #[va16 z16, .bool false]) (by simp [results, Try.results25, go_sem, va16, z16]) rfl ?_
      rw [HX.out]
      exact ⟨rfl, (Below.refl _ _).alloc (Nat.le_refl _) _⟩
    · have h2 : (n : Int) ≤ i := by have := HI.out; omega
      go_enter Try.func25, Try.ntmps25
      go_wp2_with fail
      refine bodyPost_ret (v := .tuple #[va16 z16, .bool false]) (by simp [results, Try.results25, go_sem, va16, z16]) rfl ?_
      rw [HX.out]
      exact ⟨rfl, (Below.refl _ _).alloc (Nat.le_refl _) _⟩
theorem tV16_at {f : Fm} (h : tB16 f = true) : f.s[f.s.length - 1]? = some (tV16 f) := by
  rw [tB16, decide_eq_true_eq] at h
  rw [tV16, List.getLastD_eq_getLast?, List.getLast?_eq_getElem?, List.getElem?_eq_getElem (by omega)]
  rfl
theorem tV16_no {f : Fm} (h : tB16 f = false) : tV16 f = z16 := by
  rw [tB16, decide_eq_false_iff_not] at h
  have : f.s = [] := List.length_eq_zero_iff.1 (by omega)
  rw [tV16, this]
  rfl
theorem rtop_v (X : Nat → Prop) (B : Nat) (f : Fm) (w : World) (h : Rf16 X w B f) :
    Calls Try.prog 14 #[.pointer (some ⟨B, 0, none⟩)] w fun e w' => e = .returned (.tuple #[va16 (tV16 f), .bool (tB16 f)]) ∧ Below w.heap.size w w' := by
  obtain ⟨A, A2, A3, c, c2, c3, T, h, -⟩ := h
  obtain ⟨-, b1, -, -⟩ := h.c0
  have hm := h.many
  have H := Lib.hid h
  obtain ⟨n, hn⟩ : ∃ n, f.s.length = n := ⟨_, rfl⟩
  rw [hn] at b1
  have hn9 : n ≤ 256 := by unfold n16 at hm; omega
  have HN := Lib.hid hn
  have hl0 : B < w.heap.size := cell_lt b1
  clear h hn hm
  cases hg : tB16 f with
  | true =>
    have HG := Lib.hid hg
    have hx := tV16_at hg
    rw [HN.out] at hx
    have hb := hg
    rw [tB16, decide_eq_true_eq, HN.out] at hb
    obtain ⟨g, hA, ⟨a0, a1, a2⟩, -⟩ := val16 H.out.rs hx
    subst hA
    obtain ⟨⟨x0, x1, x2⟩, hx2⟩ : ∃ x, tV16 f = x := ⟨_, rfl⟩
    have HX := Lib.hid hx2
    rw [hx2] at a0 a1 a2
    dsimp only at a0 a1 a2
    obtain ⟨k, hk⟩ : ∃ k, n = k + 1 := ⟨n - 1, by omega⟩
    subst hk
    rw [Nat.add_sub_cancel] at a0 a1 a2
    have hl1 : g < w.heap.size := cell_lt a0
    have hwk : IntKind.i64.wrap ((k : Int) + 1 - 1) = k := by rw [IntKind.wrap_i64]; omega
    clear hx hx2 hg hb
    go_enter Try.func14, Try.ntmps14
    go_upto_region 3 with (fail)
    go_region
    go_wp2_with fail
    refine bodyPost_ret (v := .tuple #[.agg #[.int .u8 x0, .int .i64 x1, .int .i64 x2], .bool true]) (by simp [results, Try.results14, go_sem]) rfl ?_
    rw [HX.out]
    exact ⟨rfl, below_draws ((Below.refl _ _).alloc (Nat.le_refl _) _) 1⟩
  | false =>
    have HX := Lib.hid (tV16_no hg)
    have HG := Lib.hid hg
    rw [tB16, decide_eq_false_iff_not, HN.out] at hg
    obtain rfl : n = 0 := by omega
    clear hg
    go_enter Try.func14, Try.ntmps14
    go_wp2_with fail
    refine bodyPost_ret (v := .tuple #[va16 z16, .bool false]) (by simp [results, Try.results14, go_sem, va16, z16]) rfl ?_
    rw [HX.out]
    exact ⟨rfl, (Below.refl _ _).alloc (Nat.le_refl _) _⟩
theorem rsize_v (X : Nat → Prop) (B : Nat) (f : Fm) (w : World) (h : Rf16 X w B f) :
    Calls Try.prog 11 #[.pointer (some ⟨B, 0, none⟩)] w fun e w' => e = .returned (.int .i64 (n16 f : Int)) ∧ Below w.heap.size w w' := by
  obtain ⟨A, A2, A3, c, c2, c3, T, h, -⟩ := h
  obtain ⟨b0, b1, -, -⟩ := h.c0
  have hm := h.many
  obtain ⟨n, hn⟩ : ∃ n, f.l.length = n := ⟨_, rfl⟩
  obtain ⟨m, hs⟩ : ∃ m, f.s.length = m := ⟨_, rfl⟩
  rw [hn] at b0
  rw [hs] at b1
  have HN : Hid (n16 f = n + m) := Lib.hid (by rw [n16, hn, hs])
  have hn9 : n + m ≤ 256 := by rw [← hn, ← hs]; exact hm
  clear h hn hm hs
  go_enter Try.func11, Try.ntmps11
  go_upto_region 1 with (fail)
  go_quiet (fail)
  go_wp2_with fail
  go_ret
  rw [HN.out]
  exact ⟨rfl, below_draws (Below.refl _ _) _⟩
end Go.Proofs.Ytkifapnmojfjoaa
