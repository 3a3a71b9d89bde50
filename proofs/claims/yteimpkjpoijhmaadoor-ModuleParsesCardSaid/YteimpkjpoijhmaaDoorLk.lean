/-
  Hh, Hk, Hr, Hs, Hm, Hw, Hy: in one text.
-/
import Derived.Test.YteimpkjpoijhmaaDoorPv
namespace Go.Proofs.YteimpkjpoijhmaaDoor
open Go.RowKit
set_option maxRecDepth 100000
set_option linter.unusedSimpArgs false
set_option linter.unusedVariables false

/-- A head: the arguments' kinds, the other locals' kinds, the result's kind, whether it reads, fuel, stack, heap. -/
structure Mh where
  a : List Int
  l : List Int
  r : Int
  q : Bool
  f : Int
  s : Int
  h : Int
/-- Where its three slices lie. -/
structure Mc where
  A : Option Addr
  c : Nat
  B : Option Addr
  d : Nat
  D : Option Addr
  k : Nat
  e : Nat
def Mh.zero : Mh := ⟨[], [], 0, false, 0, 0, 0⟩
def Mc.zero : Mc := ⟨none, 0, none, 0, none, 0, 0⟩
abbrev mv (x : Mc) (m : Mh) : Value := .agg #[.slice x.A m.a.length x.c, .slice x.B m.l.length x.d, .int .u8 m.r, .bool m.q, .int .i64 m.f, .int .i64 m.s, .int .i64 m.h, .slice x.D x.k x.e]
abbrev hcel (x : Mc) (m : Mh) : Obj := .cells #[.slice x.A m.a.length x.c, .slice x.B m.l.length x.d, .int .u8 m.r, .bool m.q, .int .i64 m.f, .int .i64 m.s, .int .i64 m.h, .slice x.D x.k x.e] 49
def Mh.nums (m : Mh) : Prop := (0 ≤ m.r ∧ m.r < 256) ∧ (-9223372036854775808 ≤ m.f ∧ m.f ≤ 9223372036854775807) ∧ (-9223372036854775808 ≤ m.s ∧ m.s ≤ 9223372036854775807) ∧ (-9223372036854775808 ≤ m.h ∧ m.h ≤ 9223372036854775807)
/-- The value reads as the head. -/
def Hd (w : World) (x : Mc) (m : Mh) : Prop := Rd w x.A x.c m.a ∧ Rd w x.B x.d m.l ∧ m.nums
theorem Hd.keep {w w' : World} {x : Mc} {m : Mh} (h : Hd w x m) (hb : Below w.heap.size w w') : Hd w' x m := ⟨h.1.keep hb, h.2.1.keep hb, h.2.2⟩
theorem Hd.la {w : World} {x : Mc} {m : Mh} (h : Hd w x m) : m.a.length ≤ 9223372036854775807 := h.1.len
theorem Hd.ll {w : World} {x : Mc} {m : Mh} (h : Hd w x m) : m.l.length ≤ 9223372036854775807 := h.2.1.len
theorem Hd.zero (w : World) : Hd w Mc.zero Mh.zero := ⟨Rd.none_ w, Rd.none_ w, by unfold Mh.nums Mh.zero; decide⟩
abbrev fH (x : Mc) (m : Mh) : Fct := ⟨fun w => Hd w x m, fun _ _ h hb => h.keep hb⟩
/-- The head lies in block B. -/
def Mb (w : World) (B : Nat) (x : Mc) (m : Mh) : Prop := B < w.heap.size ∧ w.cell? ⟨B, 0, none⟩ = some (.slice x.A m.a.length x.c) ∧ w.cell? ⟨B, 1, none⟩ = some (.slice x.B m.l.length x.d) ∧
  w.cell? ⟨B, 2, none⟩ = some (.int .u8 m.r) ∧ w.cell? ⟨B, 3, none⟩ = some (.bool m.q) ∧ w.cell? ⟨B, 4, none⟩ = some (.int .i64 m.f) ∧ w.cell? ⟨B, 5, none⟩ = some (.int .i64 m.s) ∧ w.cell? ⟨B, 6, none⟩ = some (.int .i64 m.h) ∧
  w.cell? ⟨B, 7, none⟩ = some (.slice x.D x.k x.e)
theorem Mb.new (w : World) (x : Mc) (m : Mh) : Mb (w.alloc (hcel x m)) w.heap.size x m := by
  refine ⟨by simp, ?_, ?_, ?_, ?_, ?_, ?_, ?_, ?_⟩ <;> simp [go_sem]
theorem Mb.keep {w w' : World} {B : Nat} {x : Mc} {m : Mh} (h : Mb w B x m) (hb : Below w.heap.size w w') : Mb w' B x m := by
  obtain ⟨h0, h1, h2, h3, h4, h5, h6, h7, h8⟩ := h
  obtain ⟨hc, hf⟩ := bcell hb
  exact ⟨Nat.lt_of_lt_of_le h0 hb.size, (hc _ _ h0).trans h1, (hc _ _ h0).trans h2, (hc _ _ h0).trans h3, (hc _ _ h0).trans h4, (hc _ _ h0).trans h5, (hc _ _ h0).trans h6, (hc _ _ h0).trans h7, (hc _ _ h0).trans h8⟩
theorem Mb.other {w : World} {B : Nat} {x : Mc} {m : Mh} (h : Mb w B x m) {p : Addr} (hp : p.block ≠ B) (v : Value) : Mb (w.setCell p v) B x m := by
  obtain ⟨h0, h1, h2, h3, h4, h5, h6, h7, h8⟩ := h
  have ne : ∀ i, p ≠ (⟨B, i, none⟩ : Addr) := fun i e => hp (by rw [e])
  refine ⟨by simpa using h0, ?_, ?_, ?_, ?_, ?_, ?_, ?_, ?_⟩ <;> (rw [World.cell?_setCell_other _ _ _ _ (ne _)]; assumption)
abbrev fM (B : Nat) (x : Mc) (m : Mh) : Fct := ⟨fun w => Mb w B x m, fun _ _ h hb => h.keep hb⟩
theorem Sx.mkM {w0 w : World} {L : List Fct} (h : Sx w0 w L) (x : Mc) (m : Mh) : Sx w0 (w.alloc (hcel x m)) (fM w.heap.size x m :: L) := (h.mk1 _).add (fM w.heap.size x m) (Mb.new w x m)

/-! What the chapter says. -/
def kO (l : List Int) : Bool := l.all fun x => decide (1 ≤ x) && decide (x ≤ 3)
def mM (m : Mh) : Bool := decide (m.a.length ≤ 4) && (decide (m.l.length + m.a.length ≤ 16) && (kO m.a && (kO m.l && ((decide (1 ≤ m.r) && decide (m.r ≤ 2)) && ((decide (0 ≤ m.f) && decide (m.f ≤ 1048576)) && ((decide (0 ≤ m.s) && decide (m.s ≤ 256)) && (decide (0 ≤ m.h) && decide (m.h ≤ 1024))))))))
def mG (m : Mh) : Bool := mM m && !m.a.contains 3
def mS (a b : Mh) : Bool := a.a == b.a && (a.l == b.l && (a.r == b.r && (a.q == b.q && (a.f == b.f && (a.s == b.s && a.h == b.h)))))
def fl (q : Bool) : Int := if q then 1 else 0
def mZ (m : Mh) : List Vlu := if mM m then m.l.map fun k => (k, 0, 0) else []
def fitL : List Int → List Vlu → Bool
  | [], [] => true
  | k :: K, x :: X => (x.1 == k && insB x.1 x.2.1 x.2.2) && fitL K X
  | _, _ => false
def mF (m : Mh) (X : List Vlu) : Bool := mM m && fitL m.a X
def mL (m : Mh) : List Int := if mM m then ((m.a.length : Int) :: m.a) ++ (((m.l.length : Int) :: m.l) ++ ([m.r, fl m.q] ++ (digs m.f 3 ++ (digs m.s 2 ++ digs m.h 2)))) else []
def mE (m : Mh) : Int := if mM m then 0 else 70
theorem mS_iff {a b : Mh} : mS a b = true ↔ a = b := by
  obtain ⟨a1, a2, a3, a4, a5, a6, a7⟩ := a
  obtain ⟨b1, b2, b3, b4, b5, b6, b7⟩ := b
  simp [mS]
theorem mS_self (m : Mh) : mS m m = true := mS_iff.2 rfl
theorem mS_comm (a b : Mh) : mS a b = mS b a := by
  rw [Bool.eq_iff_iff, mS_iff, mS_iff]
  exact eq_comm
theorem mM_iff {m : Mh} : mM m = true ↔ m.a.length ≤ 4 ∧ m.l.length + m.a.length ≤ 16 ∧ kO m.a = true ∧ kO m.l = true ∧ (1 ≤ m.r ∧ m.r ≤ 2) ∧ (0 ≤ m.f ∧ m.f ≤ 1048576) ∧ (0 ≤ m.s ∧ m.s ≤ 256) ∧ (0 ≤ m.h ∧ m.h ≤ 1024) := by
  simp [mM, and_assoc]
theorem kO_at {l : List Int} (h : kO l = true) {x : Int} (hx : x ∈ l) : 1 ≤ x ∧ x ≤ 3 := by
  have := List.all_eq_true.1 h x hx
  simpa using this
end Go.Proofs.YteimpkjpoijhmaaDoor
namespace Go.Proofs.YteimpkjpoijhmaaDoor
open Go.RowKit
set_option maxRecDepth 100000
set_option linter.unusedSimpArgs false
set_option linter.unusedVariables false

def nE (l : List Int) (q W lo hi : Int) : Int := if getE l q W = 0 then (if lo ≤ getV l q W ∧ getV l q W ≤ hi then 0 else 70) else getE l q W
def rN (l : List Int) (W lo hi : Int) (s : Int × Int) : Int × Int × Int :=
  if s.2 = 0 then (if nE l s.1 W lo hi = 0 then (getV l s.1 W, getN l s.1 W, 0) else (0, s.1, nE l s.1 W lo hi)) else (0, s.1, s.2)
def rKs (l : List Int) : Nat → Int × Int → List Int × Int × Int
  | 0, s => ([], s.1, s.2)
  | k + 1, s => ((rN l 1 1 3 s).1 :: (rKs l k (rN l 1 1 3 s).2).1, (rKs l k (rN l 1 1 3 s).2).2)
def rK (l : List Int) (hi : Int) (s : Int × Int) : List Int × Int × Int := rKs l (rN l 1 0 hi s).1.toNat (rN l 1 0 hi s).2
theorem rN_err {l : List Int} {W lo hi q e : Int} (he : e ≠ 0) : rN l W lo hi (q, e) = (0, q, e) := by rw [rN, if_neg he]
theorem rN_yes {l : List Int} {W lo hi q : Int} (h : nE l q W lo hi = 0) : rN l W lo hi (q, 0) = (getV l q W, getN l q W, 0) := by rw [rN, if_pos rfl, if_pos h]
theorem rN_no {l : List Int} {W lo hi q : Int} (h : nE l q W lo hi ≠ 0) : rN l W lo hi (q, 0) = (0, q, nE l q W lo hi) := by rw [rN, if_pos rfl, if_neg h]
theorem rKs_err {l : List Int} {q e : Int} (he : e ≠ 0) : ∀ k, (rKs l k (q, e)).2 = (q, e)
  | 0 => rfl
  | k + 1 => by rw [rKs, rN_err he]; exact rKs_err he k
theorem rK_err {l : List Int} {hi q e : Int} (he : e ≠ 0) : rK l hi (q, e) = ([], q, e) := by rw [rK, rN_err he]; rfl
theorem rKs_len (l : List Int) : ∀ k s, (rKs l k s).1.length = k
  | 0, s => rfl
  | k + 1, s => by rw [rKs, List.length_cons, rKs_len l k]
theorem rKs_snoc (l : List Int) : ∀ k s, rKs l (k + 1) s = ((rKs l k s).1 ++ [(rN l 1 1 3 (rKs l k s).2).1], (rN l 1 1 3 (rKs l k s).2).2)
  | 0, s => by simp [rKs]
  | k + 1, s => by
    have := rKs_snoc l k (rN l 1 1 3 s).2
    rw [rKs, this]
    rfl
/-! What getting one byte at a place comes to. -/
theorem nE_arg {l : List Int} {q : Int} (h : q < 0 ∨ (l.length : Int) < q) (W lo hi : Int) (h1 : 1 ≤ W) (h2 : W ≤ 7) : nE l q W lo hi = 2 := by
  have e := cut_arg (n := W) h
  have : getE l q W = 2 := by rw [get_eq (by omega), e.1]; simp
  rw [nE, this]; simp
theorem getE_small {l : List Int} (hb : Byt l) {q W : Int} (h1 : 1 ≤ W) (h2 : W ≤ 7) : getE l q W = cutE l q W := by
  refine get_small (by omega) ?_
  have hl := cutL_le l q W 7 (by omega)
  have := num_lt (byt_cut hb q W)
  have h3 : p256 (cutL l q W).length ≤ p256 7 := by
    exact p256_le hl
  have h4 : p256 7 = 72057594037927936 := by decide
  omega
theorem getB_short {l : List Int} (hb : Byt l) {q W : Int} (h0 : 0 ≤ q) (hq : q ≤ l.length) (h1 : 1 ≤ W) (h2 : W ≤ 7) (h : (l.length : Int) < q + W) : getE l q W = 10 := by
  rw [getE_small hb h1 h2, (cut_short h0 hq (by omega)).1]
theorem getB_long {l : List Int} (hb : Byt l) {q W : Int} (h0 : 0 ≤ q) (h1 : 1 ≤ W) (h2 : W ≤ 7) (h : q + W ≤ l.length) : getE l q W = 0 ∧ getV l q W = num ((l.drop q.toNat).take W.toNat) ∧ getN l q W = q + W := by
  have e := cut_yes (l := l) (p := q) (n := W) h0 (by omega) (by omega)
  have : getE l q W = 0 := by rw [getE_small hb h1 h2, e.1]
  exact ⟨this, by rw [getV, if_pos this, e.2.1], by rw [getN, if_pos this]⟩
theorem getB_byte {l : List Int} (hb : Byt l) {q : Nat} (h : q < l.length) : getE l q 1 = 0 ∧ getV l q 1 = l[q] ∧ getN l q 1 = q + 1 := by
  obtain ⟨h1, h2, h3⟩ := getB_long hb (q := q) (W := 1) (by omega) (by omega) (by omega) (by omega)
  refine ⟨h1, ?_, h3⟩
  rw [h2, Int.toNat_natCast, show (1 : Int).toNat = 1 from rfl, List.drop_eq_getElem_cons h, List.take_succ_cons, List.take_zero, num, num]
  omega
theorem nE_byte {l : List Int} (hb : Byt l) {q : Nat} (h : q < l.length) (lo hi : Int) : nE l q 1 lo hi = if lo ≤ l[q] ∧ l[q] ≤ hi then 0 else 70 := by
  obtain ⟨h1, h2, h3⟩ := getB_byte hb h
  rw [nE, if_pos h1, h2]
theorem nE_end {l : List Int} (hb : Byt l) {q : Nat} (h : q = l.length) (lo hi : Int) : nE l q 1 lo hi = 10 := by
  have := getB_short hb (q := q) (W := 1) (by omega) (by omega) (by omega) (by omega) (by omega)
  rw [nE, this]; simp
/-! The whole, part by part. -/
def fs7 : List (Int × Int × Int) := [(1, 1, 2), (1, 0, 1), (3, 0, 1048576), (2, 0, 256), (2, 0, 1024)]
def rF (l : List Int) : List (Int × Int × Int) → Int × Int → List Int × Int × Int
  | [], s => ([], s.1, s.2)
  | (W, lo, hi) :: r, s => ((rN l W lo hi s).1 :: (rF l r (rN l W lo hi s).2).1, (rF l r (rN l W lo hi s).2).2)
def mk7 (A B : List Int) (r : List Int × Int × Int) : Mh × Int × Int := if r.2.2 = 0 then (⟨A, B, r.1.getD 0 0, r.1.getD 1 0 == 1, r.1.getD 2 0, r.1.getD 3 0, r.1.getD 4 0⟩, r.2.1, 0) else (Mh.zero, 0, r.2.2)
def rdQ (l : List Int) (p : Int) : Mh × Int × Int := mk7 (rK l 4 (p, 0)).1 (rK l (16 - (rK l 4 (p, 0)).1.length) (rK l 4 (p, 0)).2).1 (rF l fs7 (rK l (16 - (rK l 4 (p, 0)).1.length) (rK l 4 (p, 0)).2).2)
theorem rF_err {l : List Int} {q e : Int} (he : e ≠ 0) : ∀ fs, (rF l fs (q, e)).2 = (q, e)
  | [] => rfl
  | (W, lo, hi) :: r => by rw [rF, rN_err he]; exact rF_err he r
theorem mk7_no {A B : List Int} {r : List Int × Int × Int} {e : Int} (h : r.2.2 = e) (he : e ≠ 0) : mk7 A B r = (Mh.zero, 0, e) := by rw [mk7, h, if_neg he]
theorem rdQ_1 {l : List Int} {p : Int} {K1 : List Int} {n1 e1 : Int} (h : rK l 4 (p, 0) = (K1, n1, e1)) (he : e1 ≠ 0) : rdQ l p = (Mh.zero, 0, e1) := by
  rw [rdQ, h, rK_err he, rF_err he |> fun h => mk7_no (by rw [h]) he]
theorem rdQ_2 {l : List Int} {p : Int} {K1 K2 : List Int} {n1 n2 e2 : Int} (h : rK l 4 (p, 0) = (K1, n1, 0)) (h2 : rK l (16 - K1.length) (n1, 0) = (K2, n2, e2)) (he : e2 ≠ 0) : rdQ l p = (Mh.zero, 0, e2) := by
  rw [rdQ, h, h2, rF_err he |> fun h => mk7_no (by rw [h]) he]
theorem rdQ_3 {l : List Int} {p : Int} {K1 K2 : List Int} {n1 n2 : Int} (h : rK l 4 (p, 0) = (K1, n1, 0)) (h2 : rK l (16 - K1.length) (n1, 0) = (K2, n2, 0)) : rdQ l p = mk7 K1 K2 (rF l fs7 (n2, 0)) := by
  rw [rdQ, h, h2]
theorem rdQ_arg {l : List Int} {p : Int} (h : p < 0 ∨ (l.length : Int) < p) : rdQ l p = (Mh.zero, 0, 2) := by
  refine rdQ_1 (K1 := []) (n1 := p) ?_ (by decide)
  have e := nE_arg h 1 0 4 (by decide) (by decide)
  rw [rK, rN_no (by rw [e]; decide), e]
  rfl
theorem rKs_ok {l : List Int} (hb : Byt l) : ∀ (k : Nat) (q : Nat) (K : List Int) (n : Int), q ≤ l.length → rKs l k ((q : Int), 0) = (K, n, 0) → n = ((q + k : Nat) : Int) ∧ q + k ≤ l.length ∧ K.length = k ∧ K = (l.drop q).take k ∧ kO K = true
  | 0, q, K, n, hq, h => by
    simp only [rKs, Prod.mk.injEq] at h
    obtain ⟨rfl, rfl, _⟩ := h
    exact ⟨by simp, by omega, rfl, by simp, rfl⟩
  | k + 1, q, K, n, hq, h => by
    by_cases h1 : q < l.length
    · have e := nE_byte hb h1 1 3
      by_cases hx : 1 ≤ l[q] ∧ l[q] ≤ 3
      · rw [if_pos hx] at e
        obtain ⟨g1, g2, g3⟩ := getB_byte hb h1
        rw [rKs, rN_yes e, g2, g3] at h
        simp only [Prod.mk.injEq] at h
        obtain ⟨rfl, h2⟩ := h
        obtain ⟨a1, a2, a3, a4, a5⟩ := rKs_ok hb k (q + 1) _ n (by omega) (show rKs l k (((q + 1 : Nat) : Int), 0) = ((rKs l k (((q : Int) + 1), 0)).1, n, 0) from Prod.ext rfl h2)
        refine ⟨by rw [a1]; congr 1; omega, by omega, by rw [List.length_cons, a3], ?_, ?_⟩
        · rw [List.drop_eq_getElem_cons h1, List.take_succ_cons, ← a4]
        · have := a5
          unfold kO at *
          rw [List.all_cons, this]
          simpa using hx
      · rw [if_neg hx] at e
        rw [rKs, rN_no (by rw [e]; decide), e] at h
        have := rKs_err (l := l) (q := q) (e := 70) (by decide) k
        simp only [Prod.mk.injEq] at h
        rw [this] at h
        simp at h
    · have e := nE_end hb (show q = l.length by omega) 1 3
      rw [rKs, rN_no (by rw [e]; decide), e] at h
      have := rKs_err (l := l) (q := q) (e := 10) (by decide) k
      simp only [Prod.mk.injEq] at h
      rw [this] at h
      simp at h
theorem rK_ok {l : List Int} (hb : Byt l) {q : Nat} {hi n : Int} {K : List Int} (hq : q ≤ l.length) (h : rK l hi (q, 0) = (K, n, 0)) :
    n = ((q + (1 + K.length) : Nat) : Int) ∧ q + (1 + K.length) ≤ l.length ∧ (K.length : Int) ≤ hi ∧ (K.length : Int) :: K = (l.drop q).take (1 + K.length) ∧ kO K = true := by
  by_cases h1 : q < l.length
  · have hbd := hb _ (List.getElem_mem h1)
    have e := nE_byte hb h1 0 hi
    by_cases hx : 0 ≤ l[q] ∧ l[q] ≤ hi
    · rw [if_pos hx] at e
      obtain ⟨g1, g2, g3⟩ := getB_byte hb h1
      rw [rK, rN_yes e, g2, g3] at h
      obtain ⟨a1, a2, a3, a4, a5⟩ := rKs_ok hb _ (q + 1) _ n (by omega) h
      have e2 : (K.length : Int) = l[q] := by omega
      refine ⟨by rw [a1]; congr 1; omega, by omega, by omega, ?_, a5⟩
      rw [e2, List.drop_eq_getElem_cons h1, Nat.add_comm 1, List.take_succ_cons, a3, ← a4]
    · rw [if_neg hx] at e
      rw [rK, rN_no (by rw [e]; decide), e] at h
      have := rKs_err (l := l) (q := q) (e := 70) (by decide) 0
      simp [rKs] at h
  · have e := nE_end hb (show q = l.length by omega) 0 hi
    rw [rK, rN_no (by rw [e]; decide), e] at h
    simp [rKs] at h
end Go.Proofs.YteimpkjpoijhmaaDoor
namespace Go.Proofs.YteimpkjpoijhmaaDoor
open Go.RowKit
set_option maxRecDepth 100000
set_option linter.unusedSimpArgs false
set_option linter.unusedVariables false

theorem kO_take {l : List Int} {j : Nat} (hj : j < l.length) (h : kO (l.take j) = true) : kO (l.take (j + 1)) = (decide (1 ≤ l[j]) && decide (l[j] ≤ 3)) := by
  unfold kO at *
  rw [List.take_add_one, List.all_append, h, List.getElem?_eq_getElem hj]
  simp
theorem kO_no {l : List Int} {j : Nat} (hj : j < l.length) (h : ¬ (1 ≤ l[j] ∧ l[j] ≤ 3)) : kO l = false := by
  unfold kO
  rw [List.all_eq_false]
  exact ⟨l[j], List.getElem_mem hj, by simpa using h⟩
theorem r7kinds_v (A : Option Addr) (c n : Nat) (l : List Int) (v : Bool) (w : World) (hr : Rd w A c l) (hn : l.length = n) (hv : kO l = v) :
    Calls Tryd.prog 101 #[.slice A n c] w fun e w' => e = .returned (.bool v) ∧ w = w' := by
  subst hn
  have hlen := hr.len
  have HR := Lib.hid hr
  have HV := Lib.hid hv
  clear hr hv
  go_enter Tryd.func101, Tryd.ntmps101
  go_wp2_with fail
  go_loopw [3] (fun i wr => ∃ j : Nat, j ≤ l.length ∧ i = .int .i64 j ∧ Hid (kO (l.take j) = true) ∧ Hid (w = wr)) (fun i _ => l.length - (intOf i).toNat)
  case atStart => exact ⟨0, by omega, rfl, rfl, rfl⟩
  case round =>
    obtain ⟨j, hj, rfl, HA, HW⟩ := hrel
    have HR1 : Hid (Rd wr A c l) := by rw [Hid, ← HW.out]; exact HR.out
    by_cases h1 : j < l.length
    · obtain ⟨ad, rfl, hc⟩ := HR1.out.at_ h1
      rw [List.getElem?_eq_getElem h1] at hc
      simp only [Option.getD_some] at hc
      by_cases hx : 1 ≤ l[j] ∧ l[j] ≤ 3
      · have HN : Hid (kO (l.take (j + 1)) = true) := by rw [Hid, kO_take h1 HA.out]; simpa using hx
        have hx3 : l[j] = 1 ∨ l[j] = 2 ∨ l[j] = 3 := by omega
        clear hx HA
        rcases hx3 with hx | hx | hx <;> rw [hx] at hc
        all_goals
          clear hx
          go_wp2_with fail
          go_roundw
          case rel => exact ⟨j + 1, by omega, by go_num, HN, HW⟩
          case measure => simp [intOf]; omega
      · have HN : Hid (v = false) := by rw [Hid, ← HV.out]; exact kO_no h1 hx
        generalize l[j] = x at *
        have e1 : (x != 1) = true := by simp; omega
        have e2 : (x != 2) = true := by simp; omega
        have e3 : (x != 3) = true := by simp; omega
        clear hx HA
        go_wp2_with fail
        go_ret
        exact ⟨by rw [HN.out]; rfl, HW.out⟩
    · obtain rfl : j = l.length := by omega
      have HN : Hid (v = true) := by rw [Hid, ← HV.out]; have := HA.out; rwa [List.take_length] at this
      clear HA
      go_wp2_with fail
      go_ret
      exact ⟨by rw [HN.out]; rfl, HW.out⟩
theorem take_ne {l k : List Int} {j : Nat} (h1 : j < l.length) (h2 : j < k.length) (h : ¬ l[j] = k[j]) : ¬ l = k := by
  intro e
  subst e
  exact h rfl
theorem take_eq {l k : List Int} {j : Nat} (h1 : j < l.length) (h2 : j < k.length) (h : l[j] = k[j]) (ht : l.take j = k.take j) : l.take (j + 1) = k.take (j + 1) := by
  rw [List.take_add_one, List.take_add_one, List.getElem?_eq_getElem h1, List.getElem?_eq_getElem h2, h, ht]
theorem beq_no {l k : List Int} (h : ¬ l = k) : (l == k) = false := by simpa using h
theorem r7same_v (A B : Option Addr) (c d n m : Nat) (l k : List Int) (v : Bool) (w : World) (hr : Rd w A c l) (hs : Rd w B d k) (hn : l.length = n) (hm : k.length = m) (hv : (l == k) = v) :
    Calls Tryd.prog 70 #[.slice A n c, .slice B m d] w fun e w' => e = .returned (.bool v) ∧ Below w.heap.size w w' := by
  subst hn hm
  have hlen := hr.len
  have hlen2 := hs.len
  have HR := Lib.hid hr
  have HS := Lib.hid hs
  have HV := Lib.hid hv
  clear hr hs hv
  by_cases hl : l.length = k.length
  · go_enter Tryd.func70, Tryd.ntmps70
    go_wp2_with fail
    go_loopw [5] (fun i wr => ∃ j : Nat, j ≤ l.length ∧ i = .int .i64 j ∧ Hid (l.take j = k.take j) ∧ Hid (Below w.heap.size w wr)) (fun i _ => l.length - (intOf i).toNat)
    case atStart => exact ⟨0, by omega, rfl, rfl, Below.refl _ _⟩
    case round =>
      obtain ⟨j, hj, rfl, HT, HB⟩ := hrel
      by_cases h1 : j < l.length
      · have h2 : j < k.length := by omega
        obtain ⟨ad, rfl, hc⟩ := (HR.out.keep HB.out).at_ h1
        obtain ⟨bd, rfl, hd⟩ := (HS.out.keep HB.out).at_ h2
        rw [List.getElem?_eq_getElem h1] at hc
        rw [List.getElem?_eq_getElem h2] at hd
        simp only [Option.getD_some] at hc hd
        by_cases hx : l[j] = k[j]
        · have HN := Lib.hid (take_eq h1 h2 hx HT.out)
          clear HT
          rw [← hx] at hd
          clear hx
          generalize l[j] = x at *
          go_wp2_with fail
          go_quiet (fail)
          go_wp2_with fail
          go_roundw
          case rel => exact ⟨j + 1, by omega, by go_num, HN, Lib.hid (below_draws HB.out _)⟩
          case measure => simp [intOf]; omega
        · have HN : Hid (v = false) := by rw [Hid, ← HV.out]; exact beq_no (take_ne h1 h2 hx)
          clear HT
          generalize l[j] = x at *
          generalize k[j] = y at *
          go_wp2_with fail
          go_quiet (fail)
          go_wp2_with fail
          go_ret
          exact ⟨by rw [HN.out]; rfl, below_draws HB.out _⟩
      · obtain rfl : j = l.length := by omega
        have HN : Hid (v = true) := by
          rw [Hid, ← HV.out]
          have := HT.out
          rw [List.take_length, hl, List.take_length] at this
          simpa using this
        clear HT
        go_wp2_with fail
        go_ret
        exact ⟨by rw [HN.out]; rfl, HB.out⟩
  · have HN : Hid (v = false) := by rw [Hid, ← HV.out]; exact beq_no (fun e => hl (by rw [e]))
    go_enter Tryd.func70, Tryd.ntmps70
    go_wp2_with fail
    go_ret
    exact ⟨by rw [HN.out]; rfl, Below.refl _ _⟩
end Go.Proofs.YteimpkjpoijhmaaDoor
namespace Go.Proofs.YteimpkjpoijhmaaDoor
open Go.RowKit
set_option maxRecDepth 100000
set_option linter.unusedSimpArgs false
set_option linter.unusedVariables false

set_option maxHeartbeats 1000000 in
theorem r7sam_v (x y : Mc) (m k : Mh) (v : Bool) (w : World) (hx : Hd w x m) (hy : Hd w y k) (hv : mS m k = v) :
    Calls Tryd.prog 41 #[mv x m, mv y k] w fun e w' => e = .returned (.bool v) ∧ Below w.heap.size w w' := by
  have HV := Lib.hid hv
  have S0 := Lib.hid (((((Sx.start w).add (fH x m) hx).add (fH y k) hy).mkM x m).mkM y k)
  rw [size1] at S0
  clear hx hy hv
  obtain ⟨-, ⟨hy0, hy1, hy2, hy3, hy4, hy5, hy6, hy7, hy8⟩, ⟨hx0, hx1, hx2, hx3, hx4, hx5, hx6, hx7, hx8⟩, hyd, hxd, -⟩ := S0.out
  have P1 := Lib.hid (r7same_v x.A y.A x.c y.c _ _ m.a k.a _ _ hxd.1 hyd.1 rfl rfl rfl)
  clear hxd hyd
  go_enter Tryd.func41, Tryd.ntmps41
  go_wp2_with fail
  refine P1.out.mono ?_
  rintro e w1 ⟨rfl, hb1⟩
  have S1 := Lib.hid (S0.out.call hb1)
  clear P1 S0 hb1 hx1 hx2 hx3 hx4 hx5 hx6 hx7 hx8 hy1 hy2 hy3 hy4 hy5 hy6 hy7 hy8
  by_cases h0 : m.a = k.a
  · rw [show (m.a == k.a) = true from by simpa using h0]
    obtain ⟨-, ⟨hy0, hy1, hy2, hy3, hy4, hy5, hy6, hy7, hy8⟩, ⟨hx0, hx1, hx2, hx3, hx4, hx5, hx6, hx7, hx8⟩, hyd, hxd, -⟩ := S1.out
    have P2 := Lib.hid (r7same_v x.B y.B x.d y.d _ _ m.l k.l _ _ hxd.2.1 hyd.2.1 rfl rfl rfl)
    clear hxd hyd
    have H0 := Lib.hid h0
    clear h0
    go_wp2_with fail
    refine P2.out.mono ?_
    rintro e w2 ⟨rfl, hb2⟩
    have S2 := Lib.hid (S1.out.call hb2)
    clear P2 S1 hb2 hx1 hx2 hx3 hx4 hx5 hx6 hx7 hx8 hy1 hy2 hy3 hy4 hy5 hy6 hy7 hy8
    obtain ⟨-, ⟨hy0, hy1, hy2, hy3, hy4, hy5, hy6, hy7, hy8⟩, ⟨hx0, hx1, hx2, hx3, hx4, hx5, hx6, hx7, hx8⟩, hyd, hxd, -⟩ := S2.out
    clear hxd hyd
    by_cases h1 : m.l = k.l
    · rw [show (m.l == k.l) = true from by simpa using h1]
      have H1 := Lib.hid h1
      clear h1
      by_cases h2 : m.r = k.r
      · have H2 := Lib.hid h2
        have E2 : (m.r == k.r) = true := by simpa using h2
        clear h2
        by_cases h3 : m.q = k.q
        · have H3 := Lib.hid h3
          have E3 : (m.q == k.q) = true := by simpa using h3
          clear h3
          by_cases h4 : m.f = k.f
          · have H4 := Lib.hid h4
            have E4 : (m.f == k.f) = true := by simpa using h4
            clear h4
            by_cases h5 : m.s = k.s
            · have H5 := Lib.hid h5
              have E5 : (m.s == k.s) = true := by simpa using h5
              clear h5
              by_cases h6 : m.h = k.h
              · have H6 := Lib.hid h6
                have E6 : (m.h == k.h) = true := by simpa using h6
                clear h6
                go_wp2_with fail
                go_ret
                exact ⟨by rw [← HV.out]; simp [mS, H0.out, H1.out, H2.out, H3.out, H4.out, H5.out, H6.out], S2.out.1⟩
              · have H6 := Lib.hid h6
                have E6 : (m.h == k.h) = false := by simpa using h6
                clear h6
                go_wp2_with fail
                go_ret
                exact ⟨by rw [← HV.out]; simp [mS, H6.out], S2.out.1⟩
            · have H5 := Lib.hid h5
              have E5 : (m.s == k.s) = false := by simpa using h5
              clear h5
              go_wp2_with fail
              go_ret
              exact ⟨by rw [← HV.out]; simp [mS, H5.out], S2.out.1⟩
          · have H4 := Lib.hid h4
            have E4 : (m.f == k.f) = false := by simpa using h4
            clear h4
            go_wp2_with fail
            go_ret
            exact ⟨by rw [← HV.out]; simp [mS, H4.out], S2.out.1⟩
        · have H3 := Lib.hid h3
          have E3 : (m.q == k.q) = false := by simpa using h3
          clear h3
          go_wp2_with fail
          go_ret
          exact ⟨by rw [← HV.out]; simp [mS, H3.out], S2.out.1⟩
      · have H2 := Lib.hid h2
        have E2 : (m.r == k.r) = false := by simpa using h2
        clear h2
        go_wp2_with fail
        go_ret
        exact ⟨by rw [← HV.out]; simp [mS, H2.out], S2.out.1⟩
    · rw [show (m.l == k.l) = false from by simpa using h1]
      have H1 := Lib.hid h1
      clear h1
      go_wp2_with fail
      go_ret
      exact ⟨by rw [← HV.out]; simp [mS, H1.out], S2.out.1⟩
  · rw [show (m.a == k.a) = false from by simpa using h0]
    have H0 := Lib.hid h0
    clear h0
    go_wp2_with fail
    go_ret
    exact ⟨by rw [← HV.out]; simp [mS, H0.out], S1.out.1⟩
/-- More than is gone through. -/
def gB (m : Mh) : Bool := decide ((100 : Int) < m.a.length) || decide ((100 : Int) < m.l.length)
theorem gB_no {m : Mh} (h : gB m = false) : m.a.length ≤ 100 ∧ m.l.length ≤ 100 := by
  simp [gB] at h
  omega
theorem great_v (x : Mc) (m : Mh) (w : World) (hx : Hd w x m) : Calls Tryd.prog 25 #[mv x m] w fun e w' => e = .returned (.bool (gB m)) ∧ Below w.heap.size w w' := by
  have h1 := hx.la
  have h2 := hx.ll
  clear hx
  by_cases g1 : 100 < m.a.length
  · have E : gB m = true := by simp [gB]; omega
    rw [E]
    clear E
    go_enter Tryd.func25, Tryd.ntmps25
    go_wp2_with fail
    go_ret
    exact ⟨rfl, new1⟩
  · go_enter Tryd.func25, Tryd.ntmps25
    go_wp2_with fail
    go_ret
    exact ⟨rfl, new1⟩
end Go.Proofs.YteimpkjpoijhmaaDoor
namespace Go.Proofs.YteimpkjpoijhmaaDoor
open Go.RowKit
set_option maxRecDepth 100000
set_option linter.unusedSimpArgs false
set_option linter.unusedVariables false

theorem ret_of {a b : Bool} (h : a = b) : Ending.returned (.bool a) = Ending.returned (.bool b) := by rw [h]
set_option maxHeartbeats 2000000 in
theorem r7may_v (x : Mc) (m : Mh) (v : Bool) (w : World) (hx : Hd w x m) (hv : mM m = v) : Calls Tryd.prog 62 #[mv x m] w fun e w' => e = .returned (.bool v) ∧ Below w.heap.size w w' := by
  have h1 := hx.la
  have h2 := hx.ll
  have HV := Lib.hid hv
  have S0 := Lib.hid (((Sx.start w).add (fH x m) hx).mkM x m)
  clear hx hv
  have P1 := fun w1 (h : Hid (Sx w w1 [fM w.heap.size x m, fH x m])) => Lib.hid (r7kinds_v x.A x.c _ m.a _ w1 h.out.2.2.1.1 rfl rfl)
  have P2 := fun w1 (h : Hid (Sx w w1 [fM w.heap.size x m, fH x m])) => Lib.hid (r7kinds_v x.B x.d _ m.l _ w1 h.out.2.2.1.2.1 rfl rfl)
  by_cases g1 : m.a.length ≤ 4
  · by_cases g2 : m.l.length + m.a.length ≤ 16
    · have G1 := Lib.hid g1
      have G2 := Lib.hid g2
      go_enter Tryd.func62, Tryd.ntmps62
      go_wp2_with fail
      refine (P1 _ S0).out.mono ?_
      rintro e w1 ⟨rfl, rfl⟩
      by_cases k1 : kO m.a = true
      · rw [k1]
        have K1 := Lib.hid k1
        clear k1
        go_wp2_with fail
        refine (P2 _ S0).out.mono ?_
        rintro e w2 ⟨rfl, rfl⟩
        by_cases k2 : kO m.l = true
        · rw [k2]
          have K2 := Lib.hid k2
          clear k2 P1 P2
          by_cases r1 : m.r = 1
          · have R1 := Lib.hid r1
            have r1' : (m.r != 1) = false := by simpa using r1
            clear r1
            go_wp2_with fail
            all_goals
              go_ret
              refine ⟨?_, S0.out.1⟩
              rw [← HV.out]
              refine ret_of ?_
              rw [Bool.eq_iff_iff, mM_iff, K1.out, K2.out, R1.out]
              have q1 := G1.out
              have q2 := G2.out
              simp
              omega
          · by_cases r2 : m.r = 2
            · have R1 := Lib.hid r2
              have r1' : (m.r != 1) = true := by simpa using r1
              have r2' : (m.r != 2) = false := by simpa using r2
              clear r1 r2
              go_wp2_with fail
              all_goals
                go_ret
                refine ⟨?_, S0.out.1⟩
                rw [← HV.out]
                refine ret_of ?_
                rw [Bool.eq_iff_iff, mM_iff, K1.out, K2.out, R1.out]
                have q1 := G1.out
                have q2 := G2.out
                simp
                omega
            · have R : Hid ((decide (1 ≤ m.r) && decide (m.r ≤ 2)) = false) := by unfold Hid; simp; omega
              have r1' : (m.r != 1) = true := by simpa using r1
              have r2' : (m.r != 2) = true := by simpa using r2
              clear r1 r2
              go_wp2_with fail
              go_ret
              exact ⟨by rw [← HV.out, mM, R.out]; simp, S0.out.1⟩
        · rw [show kO m.l = false by simpa using k2]
          have K2 := Lib.hid k2
          clear k2 P1 P2
          go_wp2_with fail
          go_ret
          exact ⟨by rw [← HV.out]; simp [mM, K2.out], S0.out.1⟩
      · rw [show kO m.a = false by simpa using k1]
        have K1 := Lib.hid k1
        clear k1 P1 P2
        go_wp2_with fail
        go_ret
        exact ⟨by rw [← HV.out]; simp [mM, K1.out], S0.out.1⟩
    · have G2 := Lib.hid g2
      clear P1 P2
      go_enter Tryd.func62, Tryd.ntmps62
      go_wp2_with fail
      go_ret
      exact ⟨by rw [← HV.out]; simp [mM, G2.out], S0.out.1⟩
  · have G1 := Lib.hid g1
    clear P1 P2
    go_enter Tryd.func62, Tryd.ntmps62
    go_wp2_with fail
    go_ret
    exact ⟨by rw [← HV.out]; simp [mM, G1.out], S0.out.1⟩
end Go.Proofs.YteimpkjpoijhmaaDoor
namespace Go.Proofs.YteimpkjpoijhmaaDoor
open Go.RowKit
set_option maxRecDepth 100000
set_option linter.unusedSimpArgs false
set_option linter.unusedVariables false

def rw7 (r : List Int × Int × Int) : List Int × Int × Int := if r.2.2 = 0 then r else ([], 0, r.2.2)
def apK (K : List Int) (r : List Int × Int × Int) : List Int × Int × Int := (K ++ r.1, r.2)
theorem rw7_no {r : List Int × Int × Int} {e : Int} (h : r.2.2 = e) (he : e ≠ 0) : rw7 r = ([], 0, e) := by rw [rw7, h, if_neg he]
theorem rK_short {l : List Int} (hb : Byt l) {hi : Int} {q : Nat} (h : q = l.length) : (rK l hi (q, 0)).2.2 = 10 := by
  rw [rK, rN_no (by rw [nE_end hb h]; decide), nE_end hb h, rKs_err (by decide)]
theorem rK_bad {l : List Int} (hb : Byt l) {hi : Int} {q : Nat} (h : q < l.length) (hm : hi < l[q]) : (rK l hi (q, 0)).2.2 = 70 := by
  have e : nE l q 1 0 hi = 70 := by rw [nE_byte hb h, if_neg (by omega)]
  rw [rK, rN_no (by rw [e]; decide), e, rKs_err (by decide)]
theorem rK_go {l : List Int} (hb : Byt l) {hi : Int} {q : Nat} (h : q < l.length) {M : Nat} (hM : l[q] = M) (hm : ¬ hi < l[q]) : rK l hi (q, 0) = apK [] (rKs l (M - 0) (((q + (0 + 1) : Nat) : Int), 0)) := by
  have e : nE l q 1 0 hi = 0 := by rw [nE_byte hb h, if_pos (by omega)]
  obtain ⟨h1, h2, h3⟩ := getB_byte hb h
  rw [rK, rN_yes e, h2, h3, hM]
  simp [apK]
theorem apK_yes {l : List Int} (hb : Byt l) {q : Nat} (h : q < l.length) (hx : 1 ≤ l[q] ∧ l[q] ≤ 3) (K : List Int) (k : Nat) : apK K (rKs l (k + 1) ((q : Int), 0)) = apK (K ++ [l[q]]) (rKs l k (((q + 1 : Nat) : Int), 0)) := by
  have e : nE l q 1 1 3 = 0 := by rw [nE_byte hb h, if_pos hx]
  obtain ⟨h1, h2, h3⟩ := getB_byte hb h
  rw [rKs, rN_yes e, h2, h3]
  simp [apK]
theorem apK_bad {l : List Int} (hb : Byt l) {q : Nat} (h : q < l.length) (hx : ¬ (1 ≤ l[q] ∧ l[q] ≤ 3)) (K : List Int) (k : Nat) : (apK K (rKs l (k + 1) ((q : Int), 0))).2.2 = 70 := by
  have e : nE l q 1 1 3 = 70 := by rw [nE_byte hb h, if_neg hx]
  rw [apK, rKs, rN_no (by rw [e]; decide), e, rKs_err (by decide)]
theorem apK_short {l : List Int} (hb : Byt l) {q : Nat} (h : q = l.length) (K : List Int) (k : Nat) : (apK K (rKs l (k + 1) ((q : Int), 0))).2.2 = 10 := by
  rw [apK, rKs, rN_no (by rw [nE_end hb h]; decide), nE_end hb h, rKs_err (by decide)]
theorem kO_snoc {K : List Int} (h : kO K = true) (x : Int) : kO (K ++ [x]) = (decide (1 ≤ x) && decide (x ≤ 3)) := by
  unfold kO at *
  rw [List.all_append, h]
  simp
set_option maxHeartbeats 2000000 in
theorem r7row_v (A : Option Addr) (c n : Nat) (l : List Int) (q : Nat) (hi : Int) (R : List Int × Int × Int) (w : World) (hr : Rd w A c l) (hn : l.length = n) (hl : l.length ≤ 2000) (hq : q ≤ l.length) (hi0 : hi ≤ 100) (hR : rw7 (rK l hi (q, 0)) = R) :
    Calls Tryd.prog 72 #[.slice A n c, .int .i64 q, .int .i64 hi] w fun e w' => ∃ A' c', e = .returned (.tuple #[.slice A' R.1.length c', .int .i64 R.2.1, .int .i64 R.2.2]) ∧ w'.ownsRow w.heap.size 5 1 (.slice A' R.1.length c') R.1.length (cel R.1) ∧ Byt R.1 ∧ Below w.heap.size w w' := by
  subst hn
  have HR := Lib.hid hr
  have HRR := Lib.hid hR
  have HBY := Lib.hid hr.byt
  obtain ⟨i0, hi', hz0, hz1, hz2⟩ := info_parts Tryd.info5
  clear hr hR
  by_cases h1 : q < l.length
  · obtain ⟨ad, rfl, hc⟩ := HR.out.at_ h1
    have hbd := HBY.out _ (List.getElem_mem h1)
    rw [List.getElem?_eq_getElem h1] at hc
    simp only [Option.getD_some] at hc
    by_cases hm : hi < l[q]
    · have HN := Lib.hid (rw7_no (rK_bad HBY.out h1 hm) (by decide))
      generalize l[q] = x at *
      go_enter Tryd.func72, Tryd.ntmps72
      go_wp2_with fail
      go_ret3
      rw [← HRR.out, HN.out]
      exact ⟨none, 0, rfl, World.ownsRow_nil _ _ _ _, fun x hx => (by cases hx), Below.refl _ _⟩
    · obtain ⟨M, hM⟩ : ∃ M : Nat, l[q] = M := ⟨l[q].toNat, by omega⟩
      have HI : Hid (rK l hi (q, 0) = apK [] (rKs l (M - 0) (((q + (0 + 1) : Nat) : Int), 0))) := Lib.hid (rK_go HBY.out h1 hM hm)
      rw [hM] at hc hm hbd
      clear hM
      generalize rK l hi (q, 0) = X at *
      go_enter Tryd.func72, Tryd.ntmps72
      go_wp2_with fail
      go_loopw [10, 11] (fun o i wr => ∃ (j : Nat) (K : List Int) (A' : Option Addr) (c' : Nat), j ≤ M ∧ q + (j + 1) ≤ l.length ∧ i = .int .i64 ((j + 1 : Nat) : Int) ∧ o = .slice A' j c' ∧ Hid (X = apK K (rKs l (M - j) (((q + (j + 1) : Nat) : Int), 0)) ∧ K.length = j ∧ kO K = true ∧ Byt K) ∧ Hid (wr.ownsRow w.heap.size 5 1 (.slice A' j c') j (cel K)) ∧ Hid (Below w.heap.size w wr)) (fun o _ _ => match o with | .slice _ j _ => M - j | _ => 0)
      case atStart => exact ⟨0, [], none, 0, by omega, by omega, rfl, rfl, Lib.hid ⟨HI.out, rfl, rfl, fun x hx => (by cases hx)⟩, Lib.hid (World.ownsRow_nil _ _ _ _), Lib.hid (Below.refl _ _)⟩
      case round =>
        obtain ⟨j, K, A', c', hj, hjl, rfl, rfl, HX, HO, HB⟩ := hrel
        clear HI
        by_cases h2 : j < M
        · by_cases h3 : q + (j + 1) < l.length
          · obtain ⟨ad', e', hc'⟩ := (HR.out.keep HB.out).at_ h3
            obtain rfl : ad = ad' := by simpa using e'
            rw [List.getElem?_eq_getElem h3] at hc'
            simp only [Option.getD_some] at hc'
            have hbd' := HBY.out _ (List.getElem_mem h3)
            have HK := Lib.hid (kO_snoc HX.out.2.2.1 l[q + (j + 1)])
            have HY : Hid ((1 ≤ l[q + (j + 1)] ∧ l[q + (j + 1)] ≤ 3) → X = apK (K ++ [l[q + (j + 1)]]) (rKs l (M - (j + 1)) (((q + (j + 1 + 1) : Nat) : Int), 0))) := fun hx => by
              rw [HX.out.1, show M - j = (M - (j + 1)) + 1 by omega, apK_yes HBY.out h3 hx]
              rfl
            have HZ : Hid (¬ (1 ≤ l[q + (j + 1)] ∧ l[q + (j + 1)] ≤ 3) → X.2.2 = 70) := fun hx => by
              rw [HX.out.1, show M - j = (M - (j + 1)) + 1 by omega, apK_bad HBY.out h3 hx]
            generalize l[q + (j + 1)] = x at *
            clear e'
            have HR1 := Lib.hid (rd_one wr x hbd')
            have HO1 := Lib.hid (own_below HO.out (new1 (a := .cells #[.int .u8 x] 5)) (Nat.le_refl _))
            have HB1 := Lib.hid (HB.out.alloc HB.out.size (.cells #[.int .u8 x] 5))
            have HL := Lib.hid HX.out.2.1
            have HBK : Hid (Byt (K ++ [x])) := fun y hy => by
              rcases List.mem_append.1 hy with hy | hy
              · exact HX.out.2.2.2 y hy
              · rw [List.mem_singleton.1 hy]; exact hbd'
            clear HX HO HB
            go_wp2_with (at_builtin; refine wpList_append_rd _ rfl _ _ 28 rfl w.heap.size 5 i0 Tryd.underlying28 hi' hz0 hz1 hz2 _ j K rfl HO1.out _ 1 1 [x] rfl HR1.out rfl (by omega) (by simpa using HB1.out.size) ?_)
            intro A7 c7 w7 ho7 hg7 hb7 _
            have HO7 := Lib.hid ho7
            have HB7 := Lib.hid (HB1.out.trans hb7)
            have HL7 : Hid ((K ++ [x]).length = j + 1) := by rw [Hid, List.length_append, HL.out]; rfl
            clear ho7 hg7 hb7 HO1 HR1 HB1
            go_wp2_with fail
            refine (r7kinds_v A7 c7 (j + 1) (K ++ [x]) _ _ (own_rd HO7.out HBK.out) HL7.out HK.out).mono ?_
            rintro e w8 ⟨rfl, rfl⟩
            by_cases hx : 1 ≤ x ∧ x ≤ 3
            · have HN := Lib.hid (HY.out hx)
              have HK1 : Hid (kO (K ++ [x]) = true) := by rw [Hid, HK.out]; simpa using hx
              rw [show (decide (1 ≤ x) && decide (x ≤ 3)) = true by simpa using hx]
              clear hx HY HZ HK
              go_wp2_with fail
              go_roundw
              case rel => exact ⟨j + 1, K ++ [x], A7, c7, by omega, by omega, by go_num, rfl, Lib.hid ⟨HN.out, HL7.out, HK1.out, HBK.out⟩, HO7, HB7⟩
              case measure => simp; omega
            · have HN := Lib.hid (rw7_no (HZ.out hx) (by decide))
              rw [show (decide (1 ≤ x) && decide (x ≤ 3)) = false by simp; omega]
              clear hx HY HZ HK
              go_wp2_with fail
              go_ret3
              rw [← HRR.out, HN.out]
              exact ⟨none, 0, rfl, World.ownsRow_nil _ _ _ _, fun x hx => (by cases hx), HB7.out⟩
          · have HN : Hid (rw7 X = ([], 0, 10)) := by
              refine rw7_no ?_ (by decide)
              rw [HX.out.1, show M - j = (M - (j + 1)) + 1 by omega, apK_short HBY.out (by omega)]
            clear HX HO
            go_wp2_with fail
            go_ret3
            rw [← HRR.out, HN.out]
            exact ⟨none, 0, rfl, World.ownsRow_nil _ _ _ _, fun x hx => (by cases hx), HB.out⟩
        · obtain rfl : j = M := by omega
          have HN : Hid (rw7 X = (K, ((q + (j + 1) : Nat) : Int), 0)) := by
            rw [Hid, HX.out.1, Nat.sub_self, rKs, apK, rw7, if_pos rfl, List.append_nil]
          have HL := Lib.hid HX.out.2.1
          have HBK := Lib.hid HX.out.2.2.2
          clear HX
          have hadd : wrap64 (wrap64 ((q : Int) + 1) + (j : Int)) = ((q + (j + 1) : Nat) : Int) := by unfold wrap64; omega
          go_wp2_with fail
          go_ret3
          rw [← HRR.out, HN.out]
          exact ⟨A', c', by simp [HL.out]; omega, by rw [HL.out]; exact HO.out, HBK.out, HB.out⟩
  · have HN := Lib.hid (rw7_no (rK_short (hi := hi) HBY.out (show q = l.length by omega)) (by decide))
    go_enter Tryd.func72, Tryd.ntmps72
    go_wp2_with fail
    go_ret3
    rw [← HRR.out, HN.out]
    exact ⟨none, 0, rfl, World.ownsRow_nil _ _ _ _, fun x hx => (by cases hx), Below.refl _ _⟩
end Go.Proofs.YteimpkjpoijhmaaDoor
namespace Go.Proofs.YteimpkjpoijhmaaDoor
open Go.RowKit
set_option maxRecDepth 100000
set_option linter.unusedSimpArgs false
set_option linter.unusedVariables false

/-- No cell of the block is frozen. -/
def Mf (w : World) (B : Nat) : Prop := B < w.heap.size ∧ ∀ i, w.frozen? ⟨B, i, none⟩ = false
theorem Mf.new (w : World) (cs : Array Value) (t : Nat) : Mf (w.alloc (.cells cs t)) w.heap.size := ⟨by simp, fun i => by simp [go_sem]⟩
theorem Mf.keep {w w' : World} {B : Nat} (h : Mf w B) (hb : Below w.heap.size w w') : Mf w' B := ⟨Nat.lt_of_lt_of_le h.1 hb.size, fun i => ((bcell hb).2 _ _ h.1).trans (h.2 i)⟩
theorem Mf.set {w : World} {B : Nat} (h : Mf w B) (p : Addr) (v : Value) : Mf (w.setCell p v) B := ⟨by simpa using h.1, fun i => by simpa using h.2 i⟩
abbrev fF (B : Nat) : Fct := ⟨fun w => Mf w B, fun _ _ h hb => h.keep hb⟩
theorem Sx.mkMF {w0 w : World} {L : List Fct} (h : Sx w0 w L) (x : Mc) (m : Mh) : Sx w0 (w.alloc (hcel x m)) (fF w.heap.size :: fM w.heap.size x m :: L) := (h.mkM x m).add (fF w.heap.size) (Mf.new w _ _)
/-- A head is stored, cell by cell. -/
def put8 (w : World) (B : Nat) (x : Mc) (m : Mh) : World :=
  (((((((w.setCell ⟨B, 0, none⟩ (.slice x.A m.a.length x.c)).setCell ⟨B, 1, none⟩ (.slice x.B m.l.length x.d)).setCell ⟨B, 2, none⟩ (.int .u8 m.r)).setCell ⟨B, 3, none⟩ (.bool m.q)).setCell ⟨B, 4, none⟩ (.int .i64 m.f)).setCell ⟨B, 5, none⟩ (.int .i64 m.s)).setCell ⟨B, 6, none⟩ (.int .i64 m.h)).setCell ⟨B, 7, none⟩ (.slice x.D x.k x.e)
theorem put8_below {w0 w : World} {k B : Nat} (h : Below k w0 w) (hB : k ≤ B) (x : Mc) (m : Mh) : Below k w0 (put8 w B x m) :=
  (((((((h.setCell (p := ⟨B, 0, none⟩) hB _).setCell (p := ⟨B, 1, none⟩) hB _).setCell (p := ⟨B, 2, none⟩) hB _).setCell (p := ⟨B, 3, none⟩) hB _).setCell (p := ⟨B, 4, none⟩) hB _).setCell (p := ⟨B, 5, none⟩) hB _).setCell (p := ⟨B, 6, none⟩) hB _).setCell (p := ⟨B, 7, none⟩) hB _
theorem put8_mb {w : World} {B : Nat} {y : Mc} {k : Mh} (h : Mb w B y k) (x : Mc) (m : Mh) : Mb (put8 w B x m) B x m := by
  obtain ⟨h0, h1, h2, h3, h4, h5, h6, h7, h8⟩ := h
  unfold put8
  refine ⟨by simpa using h0, ?_, ?_, ?_, ?_, ?_, ?_, ?_, ?_⟩ <;> simp [go_sem, h1, h2, h3, h4, h5, h6, h7, h8]

theorem Mb.setA {w : World} {B : Nat} {x : Mc} {m : Mh} (h : Mb w B x m) (A : Option Addr) (c : Nat) (a : List Int) (n : Nat) (hn : a.length = n) : Mb (w.setCell ⟨B, 0, none⟩ (.slice A n c)) B { x with A := A, c := c } { m with a := a } := by
  subst hn
  obtain ⟨h0, h1, h2, h3, h4, h5, h6, h7, h8⟩ := h
  refine ⟨by simpa using h0, ?_, ?_, ?_, ?_, ?_, ?_, ?_, ?_⟩ <;> simp [go_sem, h1, h2, h3, h4, h5, h6, h7, h8]
theorem Mb.setB {w : World} {B : Nat} {x : Mc} {m : Mh} (h : Mb w B x m) (A : Option Addr) (c : Nat) (a : List Int) (n : Nat) (hn : a.length = n) : Mb (w.setCell ⟨B, 1, none⟩ (.slice A n c)) B { x with B := A, d := c } { m with l := a } := by
  subst hn
  obtain ⟨h0, h1, h2, h3, h4, h5, h6, h7, h8⟩ := h
  refine ⟨by simpa using h0, ?_, ?_, ?_, ?_, ?_, ?_, ?_, ?_⟩ <;> simp [go_sem, h1, h2, h3, h4, h5, h6, h7, h8]
theorem Mb.setR {w : World} {B : Nat} {x : Mc} {m : Mh} (h : Mb w B x m) (z : Int) : Mb (w.setCell ⟨B, 2, none⟩ (.int .u8 z)) B x { m with r := z } := by
  obtain ⟨h0, h1, h2, h3, h4, h5, h6, h7, h8⟩ := h
  refine ⟨by simpa using h0, ?_, ?_, ?_, ?_, ?_, ?_, ?_, ?_⟩ <;> simp [go_sem, h1, h2, h3, h4, h5, h6, h7, h8]
theorem Mb.setQ {w : World} {B : Nat} {x : Mc} {m : Mh} (h : Mb w B x m) (z : Bool) : Mb (w.setCell ⟨B, 3, none⟩ (.bool z)) B x { m with q := z } := by
  obtain ⟨h0, h1, h2, h3, h4, h5, h6, h7, h8⟩ := h
  refine ⟨by simpa using h0, ?_, ?_, ?_, ?_, ?_, ?_, ?_, ?_⟩ <;> simp [go_sem, h1, h2, h3, h4, h5, h6, h7, h8]
theorem Mb.setF {w : World} {B : Nat} {x : Mc} {m : Mh} (h : Mb w B x m) (z : Int) : Mb (w.setCell ⟨B, 4, none⟩ (.int .i64 z)) B x { m with f := z } := by
  obtain ⟨h0, h1, h2, h3, h4, h5, h6, h7, h8⟩ := h
  refine ⟨by simpa using h0, ?_, ?_, ?_, ?_, ?_, ?_, ?_, ?_⟩ <;> simp [go_sem, h1, h2, h3, h4, h5, h6, h7, h8]
theorem Mb.setS {w : World} {B : Nat} {x : Mc} {m : Mh} (h : Mb w B x m) (z : Int) : Mb (w.setCell ⟨B, 5, none⟩ (.int .i64 z)) B x { m with s := z } := by
  obtain ⟨h0, h1, h2, h3, h4, h5, h6, h7, h8⟩ := h
  refine ⟨by simpa using h0, ?_, ?_, ?_, ?_, ?_, ?_, ?_, ?_⟩ <;> simp [go_sem, h1, h2, h3, h4, h5, h6, h7, h8]
theorem Mb.setH {w : World} {B : Nat} {x : Mc} {m : Mh} (h : Mb w B x m) (z : Int) : Mb (w.setCell ⟨B, 6, none⟩ (.int .i64 z)) B x { m with h := z } := by
  obtain ⟨h0, h1, h2, h3, h4, h5, h6, h7, h8⟩ := h
  refine ⟨by simpa using h0, ?_, ?_, ?_, ?_, ?_, ?_, ?_, ?_⟩ <;> simp [go_sem, h1, h2, h3, h4, h5, h6, h7, h8]
theorem Mb.setD {w : World} {B : Nat} {x : Mc} {m : Mh} (h : Mb w B x m) (A : Option Addr) (k e : Nat) : Mb (w.setCell ⟨B, 7, none⟩ (.slice A k e)) B { x with D := A, k := k, e := e } m := by
  obtain ⟨h0, h1, h2, h3, h4, h5, h6, h7, h8⟩ := h
  refine ⟨by simpa using h0, ?_, ?_, ?_, ?_, ?_, ?_, ?_, ?_⟩ <;> simp [go_sem, h1, h2, h3, h4, h5, h6, h7, h8]
theorem Rd.setc {w : World} {A : Option Addr} {c : Nat} {l : List Int} (h : Rd w A c l) {p : Addr} (hp : ∀ ad, A = some ad → 0 < l.length → ad.block ≠ p.block) (v : Value) : Rd (w.setCell p v) A c l := by
  refine ⟨h.1, h.2.1, h.2.2.1, ?_⟩
  rcases h.2.2.2 with hn | ⟨ad, ha, hc⟩
  · exact .inl hn
  · refine .inr ⟨ad, ha, fun i x hx => ?_⟩
    have hb : (ad.add i).block = ad.block := by unfold Addr.add; split <;> rfl
    rw [World.cell?_setCell_other _ _ _ _ (fun e => hp ad ha (by have := (List.getElem?_eq_some_iff.1 hx).1; omega) (by rw [← hb, ← e]))]
    exact hc i x hx
theorem Mf.keepM {w : World} {B : Nat} (h : Mf w B) : w.frozen? ⟨B, 0, none⟩ = false ∧ w.frozen? ⟨B, 1, none⟩ = false ∧ w.frozen? ⟨B, 2, none⟩ = false ∧ w.frozen? ⟨B, 3, none⟩ = false ∧ w.frozen? ⟨B, 4, none⟩ = false ∧ w.frozen? ⟨B, 5, none⟩ = false ∧ w.frozen? ⟨B, 6, none⟩ = false ∧ w.frozen? ⟨B, 7, none⟩ = false :=
  ⟨h.2 0, h.2 1, h.2 2, h.2 3, h.2 4, h.2 5, h.2 6, h.2 7⟩
/-- A row of the call's own. -/
abbrev fO (B : Nat) (A : Option Addr) (c : Nat) (l : List Int) : Fct := ⟨fun w => w.ownsRow B 5 1 (.slice A l.length c) l.length (cel l) ∧ Byt l, fun _ _ h hb => ⟨own_below h.1 hb (Nat.le_refl _), h.2⟩⟩
theorem rd_fO {B : Nat} {A : Option Addr} {c : Nat} {l : List Int} {w : World} (h : (fO B A c l).p w) : Rd w A c l := own_rd h.1 h.2
theorem put8_own {w : World} {N B e size n : Nat} {v : Value} {xs : List Value} (h : w.ownsRow N e size v n xs) (hB : B < N) (x : Mc) (m : Mh) : (put8 w B x m).ownsRow N e size v n xs :=
  ownsRow_setCell_below (ownsRow_setCell_below (ownsRow_setCell_below (ownsRow_setCell_below (ownsRow_setCell_below (ownsRow_setCell_below (ownsRow_setCell_below (ownsRow_setCell_below h hB _) hB _) hB _) hB _) hB _) hB _) hB _) hB _
theorem put8_rd {w : World} {B c : Nat} {A : Option Addr} {l : List Int} (h : Rd w A c l) (hB : ∀ ad, A = some ad → 0 < l.length → ad.block ≠ B) (x : Mc) (m : Mh) : Rd (put8 w B x m) A c l :=
  (((((((h.setc hB _).setc hB _).setc hB _).setc hB _).setc hB _).setc hB _).setc hB _).setc hB _
theorem Mb.drew {w : World} {B : Nat} {x : Mc} {m : Mh} (h : Mb w B x m) : Mb w.drew B x m := h
theorem own_succ {W : World} {base e size k : Nat} {v : Value} {xs : List Value} (h : W.ownsRow base e size v (k + 1) xs) : ∃ g cap, v = .slice (some ⟨g, 0, none⟩) (k + 1) cap := by
  rcases h.2 with ⟨_, h0⟩ | ⟨g, cap, _, rfl, _⟩
  · omega
  · exact ⟨g, cap, rfl⟩
/-- The cells of integers. -/
def ci (l : List Int) : List Value := l.map (Value.int .i64)
theorem ci_append (l m : List Int) : ci (l ++ m) = ci l ++ ci m := by simp [ci]
theorem ci_one (l : List Int) : ∀ u ∈ ci l, u.oneCell' = true := ints_oneCell _ _
/-- Integers in block B. -/
def Ia (w : World) (B : Nat) (l : List Int) : Prop := B < w.heap.size ∧ ∀ i z, l[i]? = some z → w.cell? ⟨B, i, none⟩ = some (.int .i64 z)
theorem Ia.keep {w w' : World} {B : Nat} {l : List Int} (h : Ia w B l) (hb : Below w.heap.size w w') : Ia w' B l := ⟨Nat.lt_of_lt_of_le h.1 hb.size, fun i z hi => ((bcell hb).1 _ _ h.1).trans (h.2 i z hi)⟩
theorem Ia.new (w : World) (l : List Int) (t : Nat) : Ia (w.alloc (.cells (ci l).toArray t)) w.heap.size l := ⟨by simp, fun i z hi => by simp [go_sem, ci, hi]⟩
abbrev fIa (B : Nat) (l : List Int) : Fct := ⟨fun w => Ia w B l, fun _ _ h hb => h.keep hb⟩
theorem Tryd.infoN : (Tryd.prog.info? 3).map (fun i => (i.zero, i.size, i.bytes)) = some (some (.int .i64 0), 1, 8) := by kernel_rfl
end Go.Proofs.YteimpkjpoijhmaaDoor
