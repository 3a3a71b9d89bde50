/-
  Hh, Hr, Hs, Hm, Hy: in one text.
-/
import Derived.Test.YtmgppdjbmhjmbaaGreatPv
namespace Go.Proofs.YtmgppdjbmhjmbaaGreat
open Go.RowKit
set_option maxRecDepth 100000
set_option linter.unusedSimpArgs false
set_option linter.unusedVariables false

/-- A head: the arguments' kinds, the other locals' kinds, the result's kind, whether it reads, fuel, stack, heap. -/
structure Mh where
  a : List Int
  l : List Int
  r : Int
  q : Bool
  f : Int
  s : Int
  h : Int
/-- Where its three slices lie. -/
structure Mc where
  A : Option Addr
  c : Nat
  B : Option Addr
  d : Nat
  D : Option Addr
  k : Nat
  e : Nat
def Mh.zero : Mh := ⟨[], [], 0, false, 0, 0, 0⟩
def Mc.zero : Mc := ⟨none, 0, none, 0, none, 0, 0⟩
abbrev mv (x : Mc) (m : Mh) : Value := .agg #[.slice x.A m.a.length x.c, .slice x.B m.l.length x.d, .int .u8 m.r, .bool m.q, .int .i64 m.f, .int .i64 m.s, .int .i64 m.h, .slice x.D x.k x.e]
abbrev hcel (x : Mc) (m : Mh) : Obj := .cells #[.slice x.A m.a.length x.c, .slice x.B m.l.length x.d, .int .u8 m.r, .bool m.q, .int .i64 m.f, .int .i64 m.s, .int .i64 m.h, .slice x.D x.k x.e] 39
def Mh.nums (m : Mh) : Prop := (0 ≤ m.r ∧ m.r < 256) ∧ (-9223372036854775808 ≤ m.f ∧ m.f ≤ 9223372036854775807) ∧ (-9223372036854775808 ≤ m.s ∧ m.s ≤ 9223372036854775807) ∧ (-9223372036854775808 ≤ m.h ∧ m.h ≤ 9223372036854775807)
/-- The value reads as the head. -/
def Hd (w : World) (x : Mc) (m : Mh) : Prop := Rd w x.A x.c m.a ∧ Rd w x.B x.d m.l ∧ m.nums
theorem Hd.keep {w w' : World} {x : Mc} {m : Mh} (h : Hd w x m) (hb : Below w.heap.size w w') : Hd w' x m := ⟨h.1.keep hb, h.2.1.keep hb, h.2.2⟩
theorem Hd.la {w : World} {x : Mc} {m : Mh} (h : Hd w x m) : m.a.length ≤ 9223372036854775807 := h.1.len
theorem Hd.ll {w : World} {x : Mc} {m : Mh} (h : Hd w x m) : m.l.length ≤ 9223372036854775807 := h.2.1.len
theorem Hd.zero (w : World) : Hd w Mc.zero Mh.zero := ⟨Rd.none_ w, Rd.none_ w, by unfold Mh.nums Mh.zero; decide⟩
abbrev fH (x : Mc) (m : Mh) : Fct := ⟨fun w => Hd w x m, fun _ _ h hb => h.keep hb⟩
/-- The head lies in block B. -/
def Mb (w : World) (B : Nat) (x : Mc) (m : Mh) : Prop := B < w.heap.size ∧ w.cell? ⟨B, 0, none⟩ = some (.slice x.A m.a.length x.c) ∧ w.cell? ⟨B, 1, none⟩ = some (.slice x.B m.l.length x.d) ∧
  w.cell? ⟨B, 2, none⟩ = some (.int .u8 m.r) ∧ w.cell? ⟨B, 3, none⟩ = some (.bool m.q) ∧ w.cell? ⟨B, 4, none⟩ = some (.int .i64 m.f) ∧ w.cell? ⟨B, 5, none⟩ = some (.int .i64 m.s) ∧ w.cell? ⟨B, 6, none⟩ = some (.int .i64 m.h) ∧
  w.cell? ⟨B, 7, none⟩ = some (.slice x.D x.k x.e)
theorem Mb.new (w : World) (x : Mc) (m : Mh) : Mb (w.alloc (hcel x m)) w.heap.size x m := by
  refine ⟨by simp, ?_, ?_, ?_, ?_, ?_, ?_, ?_, ?_⟩ <;> simp [go_sem]
theorem Mb.keep {w w' : World} {B : Nat} {x : Mc} {m : Mh} (h : Mb w B x m) (hb : Below w.heap.size w w') : Mb w' B x m := by
  obtain ⟨h0, h1, h2, h3, h4, h5, h6, h7, h8⟩ := h
  obtain ⟨hc, hf⟩ := bcell hb
  exact ⟨Nat.lt_of_lt_of_le h0 hb.size, (hc _ _ h0).trans h1, (hc _ _ h0).trans h2, (hc _ _ h0).trans h3, (hc _ _ h0).trans h4, (hc _ _ h0).trans h5, (hc _ _ h0).trans h6, (hc _ _ h0).trans h7, (hc _ _ h0).trans h8⟩
theorem Mb.other {w : World} {B : Nat} {x : Mc} {m : Mh} (h : Mb w B x m) {p : Addr} (hp : p.block ≠ B) (v : Value) : Mb (w.setCell p v) B x m := by
  obtain ⟨h0, h1, h2, h3, h4, h5, h6, h7, h8⟩ := h
  have ne : ∀ i, p ≠ (⟨B, i, none⟩ : Addr) := fun i e => hp (by rw [e])
  refine ⟨by simpa using h0, ?_, ?_, ?_, ?_, ?_, ?_, ?_, ?_⟩ <;> (rw [World.cell?_setCell_other _ _ _ _ (ne _)]; assumption)
abbrev fM (B : Nat) (x : Mc) (m : Mh) : Fct := ⟨fun w => Mb w B x m, fun _ _ h hb => h.keep hb⟩
theorem Sx.mkM {w0 w : World} {L : List Fct} (h : Sx w0 w L) (x : Mc) (m : Mh) : Sx w0 (w.alloc (hcel x m)) (fM w.heap.size x m :: L) := (h.mk1 _).add (fM w.heap.size x m) (Mb.new w x m)

/-! What the chapter says. -/
def kO (l : List Int) : Bool := l.all fun x => decide (1 ≤ x) && decide (x ≤ 3)
def mM (m : Mh) : Bool := decide (m.a.length ≤ 4) && (decide (m.l.length + m.a.length ≤ 16) && (kO m.a && (kO m.l && ((decide (1 ≤ m.r) && decide (m.r ≤ 2)) && ((decide (0 ≤ m.f) && decide (m.f ≤ 1048576)) && ((decide (0 ≤ m.s) && decide (m.s ≤ 256)) && (decide (0 ≤ m.h) && decide (m.h ≤ 1024))))))))
def fl (q : Bool) : Int := if q then 1 else 0
def mL (m : Mh) : List Int := if mM m then ((m.a.length : Int) :: m.a) ++ (((m.l.length : Int) :: m.l) ++ ([m.r, fl m.q] ++ (digs m.f 3 ++ (digs m.s 2 ++ digs m.h 2)))) else []
end Go.Proofs.YtmgppdjbmhjmbaaGreat
namespace Go.Proofs.YtmgppdjbmhjmbaaGreat
open Go.RowKit
set_option maxRecDepth 100000
set_option linter.unusedSimpArgs false
set_option linter.unusedVariables false

theorem take_ne {l k : List Int} {j : Nat} (h1 : j < l.length) (h2 : j < k.length) (h : ¬ l[j] = k[j]) : ¬ l = k := by
  intro e
  subst e
  exact h rfl
theorem take_eq {l k : List Int} {j : Nat} (h1 : j < l.length) (h2 : j < k.length) (h : l[j] = k[j]) (ht : l.take j = k.take j) : l.take (j + 1) = k.take (j + 1) := by
  rw [List.take_add_one, List.take_add_one, List.getElem?_eq_getElem h1, List.getElem?_eq_getElem h2, h, ht]
theorem beq_no {l k : List Int} (h : ¬ l = k) : (l == k) = false := by simpa using h
end Go.Proofs.YtmgppdjbmhjmbaaGreat
namespace Go.Proofs.YtmgppdjbmhjmbaaGreat
open Go.RowKit
set_option maxRecDepth 100000
set_option linter.unusedSimpArgs false
set_option linter.unusedVariables false

/-- More than is gone through. -/
def gB (m : Mh) : Bool := decide ((100 : Int) < m.a.length) || decide ((100 : Int) < m.l.length)
theorem great_v (x : Mc) (m : Mh) (w : World) (hx : Hd w x m) : Calls Tryz.prog 21 #[mv x m] w fun e w' => e = .returned (.bool (gB m)) ∧ Below w.heap.size w w' := by
  have h1 := hx.la
  have h2 := hx.ll
  clear hx
  by_cases g1 : 100 < m.a.length
  · have E : gB m = true := by simp [gB]; omega
    rw [E]
    clear E
    go_enter Tryz.func21, Tryz.ntmps21
    go_wp2_with fail
    go_ret
    exact ⟨rfl, new1⟩
  · go_enter Tryz.func21, Tryz.ntmps21
    go_wp2_with fail
    go_ret
    exact ⟨rfl, new1⟩
end Go.Proofs.YtmgppdjbmhjmbaaGreat
namespace Go.Proofs.YtmgppdjbmhjmbaaGreat
open Go.RowKit
set_option maxRecDepth 100000
set_option linter.unusedSimpArgs false
set_option linter.unusedVariables false

end Go.Proofs.YtmgppdjbmhjmbaaGreat
namespace Go.Proofs.YtmgppdjbmhjmbaaGreat
open Go.RowKit
set_option maxRecDepth 100000
set_option linter.unusedSimpArgs false
set_option linter.unusedVariables false

/-- No cell of the block is frozen. -/
def Mf (w : World) (B : Nat) : Prop := B < w.heap.size ∧ ∀ i, w.frozen? ⟨B, i, none⟩ = false
theorem Mf.new (w : World) (cs : Array Value) (t : Nat) : Mf (w.alloc (.cells cs t)) w.heap.size := ⟨by simp, fun i => by simp [go_sem]⟩
theorem Mf.keep {w w' : World} {B : Nat} (h : Mf w B) (hb : Below w.heap.size w w') : Mf w' B := ⟨Nat.lt_of_lt_of_le h.1 hb.size, fun i => ((bcell hb).2 _ _ h.1).trans (h.2 i)⟩
theorem Mf.set {w : World} {B : Nat} (h : Mf w B) (p : Addr) (v : Value) : Mf (w.setCell p v) B := ⟨by simpa using h.1, fun i => by simpa using h.2 i⟩
/-- A head is stored, cell by cell. -/
def put8 (w : World) (B : Nat) (x : Mc) (m : Mh) : World :=
  (((((((w.setCell ⟨B, 0, none⟩ (.slice x.A m.a.length x.c)).setCell ⟨B, 1, none⟩ (.slice x.B m.l.length x.d)).setCell ⟨B, 2, none⟩ (.int .u8 m.r)).setCell ⟨B, 3, none⟩ (.bool m.q)).setCell ⟨B, 4, none⟩ (.int .i64 m.f)).setCell ⟨B, 5, none⟩ (.int .i64 m.s)).setCell ⟨B, 6, none⟩ (.int .i64 m.h)).setCell ⟨B, 7, none⟩ (.slice x.D x.k x.e)
theorem put8_below {w0 w : World} {k B : Nat} (h : Below k w0 w) (hB : k ≤ B) (x : Mc) (m : Mh) : Below k w0 (put8 w B x m) :=
  (((((((h.setCell (p := ⟨B, 0, none⟩) hB _).setCell (p := ⟨B, 1, none⟩) hB _).setCell (p := ⟨B, 2, none⟩) hB _).setCell (p := ⟨B, 3, none⟩) hB _).setCell (p := ⟨B, 4, none⟩) hB _).setCell (p := ⟨B, 5, none⟩) hB _).setCell (p := ⟨B, 6, none⟩) hB _).setCell (p := ⟨B, 7, none⟩) hB _
theorem put8_mb {w : World} {B : Nat} {y : Mc} {k : Mh} (h : Mb w B y k) (x : Mc) (m : Mh) : Mb (put8 w B x m) B x m := by
  obtain ⟨h0, h1, h2, h3, h4, h5, h6, h7, h8⟩ := h
  unfold put8
  refine ⟨by simpa using h0, ?_, ?_, ?_, ?_, ?_, ?_, ?_, ?_⟩ <;> simp [go_sem, h1, h2, h3, h4, h5, h6, h7, h8]

theorem Mb.setB {w : World} {B : Nat} {x : Mc} {m : Mh} (h : Mb w B x m) (A : Option Addr) (c : Nat) (a : List Int) (n : Nat) (hn : a.length = n) : Mb (w.setCell ⟨B, 1, none⟩ (.slice A n c)) B { x with B := A, d := c } { m with l := a } := by
  subst hn
  obtain ⟨h0, h1, h2, h3, h4, h5, h6, h7, h8⟩ := h
  refine ⟨by simpa using h0, ?_, ?_, ?_, ?_, ?_, ?_, ?_, ?_⟩ <;> simp [go_sem, h1, h2, h3, h4, h5, h6, h7, h8]
theorem Mb.setQ {w : World} {B : Nat} {x : Mc} {m : Mh} (h : Mb w B x m) (z : Bool) : Mb (w.setCell ⟨B, 3, none⟩ (.bool z)) B x { m with q := z } := by
  obtain ⟨h0, h1, h2, h3, h4, h5, h6, h7, h8⟩ := h
  refine ⟨by simpa using h0, ?_, ?_, ?_, ?_, ?_, ?_, ?_, ?_⟩ <;> simp [go_sem, h1, h2, h3, h4, h5, h6, h7, h8]
theorem Rd.setc {w : World} {A : Option Addr} {c : Nat} {l : List Int} (h : Rd w A c l) {p : Addr} (hp : ∀ ad, A = some ad → 0 < l.length → ad.block ≠ p.block) (v : Value) : Rd (w.setCell p v) A c l := by
  refine ⟨h.1, h.2.1, h.2.2.1, ?_⟩
  rcases h.2.2.2 with hn | ⟨ad, ha, hc⟩
  · exact .inl hn
  · refine .inr ⟨ad, ha, fun i x hx => ?_⟩
    have hb : (ad.add i).block = ad.block := by unfold Addr.add; split <;> rfl
    rw [World.cell?_setCell_other _ _ _ _ (fun e => hp ad ha (by have := (List.getElem?_eq_some_iff.1 hx).1; omega) (by rw [← hb, ← e]))]
    exact hc i x hx
theorem Mf.keepM {w : World} {B : Nat} (h : Mf w B) : w.frozen? ⟨B, 0, none⟩ = false ∧ w.frozen? ⟨B, 1, none⟩ = false ∧ w.frozen? ⟨B, 2, none⟩ = false ∧ w.frozen? ⟨B, 3, none⟩ = false ∧ w.frozen? ⟨B, 4, none⟩ = false ∧ w.frozen? ⟨B, 5, none⟩ = false ∧ w.frozen? ⟨B, 6, none⟩ = false ∧ w.frozen? ⟨B, 7, none⟩ = false :=
  ⟨h.2 0, h.2 1, h.2 2, h.2 3, h.2 4, h.2 5, h.2 6, h.2 7⟩
theorem Mb.drew {w : World} {B : Nat} {x : Mc} {m : Mh} (h : Mb w B x m) : Mb w.drew B x m := h
theorem own_succ {W : World} {base e size k : Nat} {v : Value} {xs : List Value} (h : W.ownsRow base e size v (k + 1) xs) : ∃ g cap, v = .slice (some ⟨g, 0, none⟩) (k + 1) cap := by
  rcases h.2 with ⟨_, h0⟩ | ⟨g, cap, _, rfl, _⟩
  · omega
  · exact ⟨g, cap, rfl⟩
theorem Tryz.infoN : (Tryz.prog.info? 3).map (fun i => (i.zero, i.size, i.bytes)) = some (some (.int .i64 0), 1, 8) := by kernel_rfl
end Go.Proofs.YtmgppdjbmhjmbaaGreat
