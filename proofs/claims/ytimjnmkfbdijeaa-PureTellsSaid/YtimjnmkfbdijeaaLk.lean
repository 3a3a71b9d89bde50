/-
  Hh, Hr, Hs, Hm, Hy: in one text.
-/
import Derived.Test.YtimjnmkfbdijeaaPv
namespace Go.Proofs.Ytimjnmkfbdijeaa
open Go.RowKit
set_option maxRecDepth 100000
set_option linter.unusedSimpArgs false
set_option linter.unusedVariables false

/-- A head: the arguments' kinds, the other locals' kinds, the result's kind, whether it reads, fuel, stack, heap. -/
structure Mh where
  a : List Int
  l : List Int
  r : Int
  q : Bool
  f : Int
  s : Int
  h : Int
/-- Where its three slices lie. -/
structure Mc where
  A : Option Addr
  c : Nat
  B : Option Addr
  d : Nat
  D : Option Addr
  k : Nat
  e : Nat
def Mh.zero : Mh := ⟨[], [], 0, false, 0, 0, 0⟩
def Mc.zero : Mc := ⟨none, 0, none, 0, none, 0, 0⟩
abbrev mv (x : Mc) (m : Mh) : Value := .agg #[.slice x.A m.a.length x.c, .slice x.B m.l.length x.d, .int .u8 m.r, .bool m.q, .int .i64 m.f, .int .i64 m.s, .int .i64 m.h, .slice x.D x.k x.e]
abbrev hcel (x : Mc) (m : Mh) : Obj := .cells #[.slice x.A m.a.length x.c, .slice x.B m.l.length x.d, .int .u8 m.r, .bool m.q, .int .i64 m.f, .int .i64 m.s, .int .i64 m.h, .slice x.D x.k x.e] 52
def Mh.nums (m : Mh) : Prop := (0 ≤ m.r ∧ m.r < 256) ∧ (-9223372036854775808 ≤ m.f ∧ m.f ≤ 9223372036854775807) ∧ (-9223372036854775808 ≤ m.s ∧ m.s ≤ 9223372036854775807) ∧ (-9223372036854775808 ≤ m.h ∧ m.h ≤ 9223372036854775807)
/-- The value reads as the head. -/
def Hd (w : World) (x : Mc) (m : Mh) : Prop := Rd w x.A x.c m.a ∧ Rd w x.B x.d m.l ∧ m.nums
theorem Hd.keep {w w' : World} {x : Mc} {m : Mh} (h : Hd w x m) (hb : Below w.heap.size w w') : Hd w' x m := ⟨h.1.keep hb, h.2.1.keep hb, h.2.2⟩
theorem Hd.la {w : World} {x : Mc} {m : Mh} (h : Hd w x m) : m.a.length ≤ 9223372036854775807 := h.1.len
theorem Hd.ll {w : World} {x : Mc} {m : Mh} (h : Hd w x m) : m.l.length ≤ 9223372036854775807 := h.2.1.len
theorem Hd.zero (w : World) : Hd w Mc.zero Mh.zero := ⟨Rd.none_ w, Rd.none_ w, by unfold Mh.nums Mh.zero; decide⟩
abbrev fH (x : Mc) (m : Mh) : Fct := ⟨fun w => Hd w x m, fun _ _ h hb => h.keep hb⟩
/-- The head lies in block B. -/
def Mb (w : World) (B : Nat) (x : Mc) (m : Mh) : Prop := B < w.heap.size ∧ w.cell? ⟨B, 0, none⟩ = some (.slice x.A m.a.length x.c) ∧ w.cell? ⟨B, 1, none⟩ = some (.slice x.B m.l.length x.d) ∧
  w.cell? ⟨B, 2, none⟩ = some (.int .u8 m.r) ∧ w.cell? ⟨B, 3, none⟩ = some (.bool m.q) ∧ w.cell? ⟨B, 4, none⟩ = some (.int .i64 m.f) ∧ w.cell? ⟨B, 5, none⟩ = some (.int .i64 m.s) ∧ w.cell? ⟨B, 6, none⟩ = some (.int .i64 m.h) ∧
  w.cell? ⟨B, 7, none⟩ = some (.slice x.D x.k x.e)
theorem Mb.new (w : World) (x : Mc) (m : Mh) : Mb (w.alloc (hcel x m)) w.heap.size x m := by
  refine ⟨by simp, ?_, ?_, ?_, ?_, ?_, ?_, ?_, ?_⟩ <;> simp [go_sem]
theorem Mb.keep {w w' : World} {B : Nat} {x : Mc} {m : Mh} (h : Mb w B x m) (hb : Below w.heap.size w w') : Mb w' B x m := by
  obtain ⟨h0, h1, h2, h3, h4, h5, h6, h7, h8⟩ := h
  obtain ⟨hc, hf⟩ := bcell hb
  exact ⟨Nat.lt_of_lt_of_le h0 hb.size, (hc _ _ h0).trans h1, (hc _ _ h0).trans h2, (hc _ _ h0).trans h3, (hc _ _ h0).trans h4, (hc _ _ h0).trans h5, (hc _ _ h0).trans h6, (hc _ _ h0).trans h7, (hc _ _ h0).trans h8⟩
theorem Mb.other {w : World} {B : Nat} {x : Mc} {m : Mh} (h : Mb w B x m) {p : Addr} (hp : p.block ≠ B) (v : Value) : Mb (w.setCell p v) B x m := by
  obtain ⟨h0, h1, h2, h3, h4, h5, h6, h7, h8⟩ := h
  have ne : ∀ i, p ≠ (⟨B, i, none⟩ : Addr) := fun i e => hp (by rw [e])
  refine ⟨by simpa using h0, ?_, ?_, ?_, ?_, ?_, ?_, ?_, ?_⟩ <;> (rw [World.cell?_setCell_other _ _ _ _ (ne _)]; assumption)
abbrev fM (B : Nat) (x : Mc) (m : Mh) : Fct := ⟨fun w => Mb w B x m, fun _ _ h hb => h.keep hb⟩
theorem Sx.mkM {w0 w : World} {L : List Fct} (h : Sx w0 w L) (x : Mc) (m : Mh) : Sx w0 (w.alloc (hcel x m)) (fM w.heap.size x m :: L) := (h.mk1 _).add (fM w.heap.size x m) (Mb.new w x m)

/-! What the chapter says. -/
def kO (l : List Int) : Bool := l.all fun x => decide (1 ≤ x) && decide (x ≤ 3)
def mM (m : Mh) : Bool := decide (m.a.length ≤ 4) && (decide (m.l.length + m.a.length ≤ 16) && (kO m.a && (kO m.l && ((decide (1 ≤ m.r) && decide (m.r ≤ 2)) && ((decide (0 ≤ m.f) && decide (m.f ≤ 1048576)) && ((decide (0 ≤ m.s) && decide (m.s ≤ 256)) && (decide (0 ≤ m.h) && decide (m.h ≤ 1024))))))))
def mG (m : Mh) : Bool := mM m && !m.a.contains 3
def mS (a b : Mh) : Bool := a.a == b.a && (a.l == b.l && (a.r == b.r && (a.q == b.q && (a.f == b.f && (a.s == b.s && a.h == b.h)))))
def fl (q : Bool) : Int := if q then 1 else 0
def mZ (m : Mh) : List Vlu := if mM m then m.l.map fun k => (k, 0, 0) else []
def fitL : List Int → List Vlu → Bool
  | [], [] => true
  | k :: K, x :: X => (x.1 == k && insB x.1 x.2.1 x.2.2) && fitL K X
  | _, _ => false
def mF (m : Mh) (X : List Vlu) : Bool := mM m && fitL m.a X
def mL (m : Mh) : List Int := if mM m then ((m.a.length : Int) :: m.a) ++ (((m.l.length : Int) :: m.l) ++ ([m.r, fl m.q] ++ (digs m.f 3 ++ (digs m.s 2 ++ digs m.h 2)))) else []
def mE (m : Mh) : Int := if mM m then 0 else 70
theorem mS_iff {a b : Mh} : mS a b = true ↔ a = b := by
  obtain ⟨a1, a2, a3, a4, a5, a6, a7⟩ := a
  obtain ⟨b1, b2, b3, b4, b5, b6, b7⟩ := b
  simp [mS]
theorem mS_self (m : Mh) : mS m m = true := mS_iff.2 rfl
theorem mS_comm (a b : Mh) : mS a b = mS b a := by
  rw [Bool.eq_iff_iff, mS_iff, mS_iff]
  exact eq_comm
theorem mM_iff {m : Mh} : mM m = true ↔ m.a.length ≤ 4 ∧ m.l.length + m.a.length ≤ 16 ∧ kO m.a = true ∧ kO m.l = true ∧ (1 ≤ m.r ∧ m.r ≤ 2) ∧ (0 ≤ m.f ∧ m.f ≤ 1048576) ∧ (0 ≤ m.s ∧ m.s ≤ 256) ∧ (0 ≤ m.h ∧ m.h ≤ 1024) := by
  simp [mM, and_assoc]
theorem kO_at {l : List Int} (h : kO l = true) {x : Int} (hx : x ∈ l) : 1 ≤ x ∧ x ≤ 3 := by
  have := List.all_eq_true.1 h x hx
  simpa using this
end Go.Proofs.Ytimjnmkfbdijeaa
namespace Go.Proofs.Ytimjnmkfbdijeaa
open Go.RowKit
set_option maxRecDepth 100000
set_option linter.unusedSimpArgs false
set_option linter.unusedVariables false

theorem kO_take {l : List Int} {j : Nat} (hj : j < l.length) (h : kO (l.take j) = true) : kO (l.take (j + 1)) = (decide (1 ≤ l[j]) && decide (l[j] ≤ 3)) := by
  unfold kO at *
  rw [List.take_add_one, List.all_append, h, List.getElem?_eq_getElem hj]
  simp
theorem kO_no {l : List Int} {j : Nat} (hj : j < l.length) (h : ¬ (1 ≤ l[j] ∧ l[j] ≤ 3)) : kO l = false := by
  unfold kO
  rw [List.all_eq_false]
  exact ⟨l[j], List.getElem_mem hj, by simpa using h⟩
theorem take_ne {l k : List Int} {j : Nat} (h1 : j < l.length) (h2 : j < k.length) (h : ¬ l[j] = k[j]) : ¬ l = k := by
  intro e
  subst e
  exact h rfl
theorem take_eq {l k : List Int} {j : Nat} (h1 : j < l.length) (h2 : j < k.length) (h : l[j] = k[j]) (ht : l.take j = k.take j) : l.take (j + 1) = k.take (j + 1) := by
  rw [List.take_add_one, List.take_add_one, List.getElem?_eq_getElem h1, List.getElem?_eq_getElem h2, h, ht]
theorem beq_no {l k : List Int} (h : ¬ l = k) : (l == k) = false := by simpa using h
theorem r7same_v (A B : Option Addr) (c d n m : Nat) (l k : List Int) (v : Bool) (w : World) (hr : Rd w A c l) (hs : Rd w B d k) (hn : l.length = n) (hm : k.length = m) (hv : (l == k) = v) :
    Calls Try.prog 48 #[.slice A n c, .slice B m d] w fun e w' => e = .returned (.bool v) ∧ Below w.heap.size w w' := by
  subst hn hm
  have hlen := hr.len
  have hlen2 := hs.len
  have HR := Lib.hid hr
  have HS := Lib.hid hs
  have HV := Lib.hid hv
  clear hr hs hv
  by_cases hl : l.length = k.length
  · go_enter Try.func48, Try.ntmps48
    go_wp2_with fail
    go_loopw [5] (fun i wr => ∃ j : Nat, j ≤ l.length ∧ i = .int .i64 j ∧ Hid (l.take j = k.take j) ∧ Hid (Below w.heap.size w wr)) (fun i _ => l.length - (intOf i).toNat)
    case atStart => exact ⟨0, by omega, rfl, rfl, Below.refl _ _⟩
    case round =>
      obtain ⟨j, hj, rfl, HT, HB⟩ := hrel
      by_cases h1 : j < l.length
      · have h2 : j < k.length := by omega
        obtain ⟨ad, rfl, hc⟩ := (HR.out.keep HB.out).at_ h1
        obtain ⟨bd, rfl, hd⟩ := (HS.out.keep HB.out).at_ h2
        rw [List.getElem?_eq_getElem h1] at hc
        rw [List.getElem?_eq_getElem h2] at hd
        simp only [Option.getD_some] at hc hd
        by_cases hx : l[j] = k[j]
        · have HN := Lib.hid (take_eq h1 h2 hx HT.out)
          clear HT
          rw [← hx] at hd
          clear hx
          generalize l[j] = x at *
          go_wp2_with fail
          go_quiet (fail)
          go_wp2_with fail
          go_roundw
          case rel => exact ⟨j + 1, by omega, by go_num, HN, Lib.hid (below_draws HB.out _)⟩
          case measure => simp [intOf]; omega
        · have HN : Hid (v = false) := by rw [Hid, ← HV.out]; exact beq_no (take_ne h1 h2 hx)
          clear HT
          generalize l[j] = x at *
          generalize k[j] = y at *
          go_wp2_with fail
          go_quiet (fail)
          go_wp2_with fail
          go_ret
          exact ⟨by rw [HN.out]; rfl, below_draws HB.out _⟩
      · obtain rfl : j = l.length := by omega
        have HN : Hid (v = true) := by
          rw [Hid, ← HV.out]
          have := HT.out
          rw [List.take_length, hl, List.take_length] at this
          simpa using this
        clear HT
        go_wp2_with fail
        go_ret
        exact ⟨by rw [HN.out]; rfl, HB.out⟩
  · have HN : Hid (v = false) := by rw [Hid, ← HV.out]; exact beq_no (fun e => hl (by rw [e]))
    go_enter Try.func48, Try.ntmps48
    go_wp2_with fail
    go_ret
    exact ⟨by rw [HN.out]; rfl, Below.refl _ _⟩
end Go.Proofs.Ytimjnmkfbdijeaa
namespace Go.Proofs.Ytimjnmkfbdijeaa
open Go.RowKit
set_option maxRecDepth 100000
set_option linter.unusedSimpArgs false
set_option linter.unusedVariables false

set_option maxHeartbeats 1000000 in
theorem r7sam_v (x y : Mc) (m k : Mh) (v : Bool) (w : World) (hx : Hd w x m) (hy : Hd w y k) (hv : mS m k = v) :
    Calls Try.prog 34 #[mv x m, mv y k] w fun e w' => e = .returned (.bool v) ∧ Below w.heap.size w w' := by
  have HV := Lib.hid hv
  have S0 := Lib.hid (((((Sx.start w).add (fH x m) hx).add (fH y k) hy).mkM x m).mkM y k)
  rw [size1] at S0
  clear hx hy hv
  obtain ⟨-, ⟨hy0, hy1, hy2, hy3, hy4, hy5, hy6, hy7, hy8⟩, ⟨hx0, hx1, hx2, hx3, hx4, hx5, hx6, hx7, hx8⟩, hyd, hxd, -⟩ := S0.out
  have P1 := Lib.hid (r7same_v x.A y.A x.c y.c _ _ m.a k.a _ _ hxd.1 hyd.1 rfl rfl rfl)
  clear hxd hyd
  go_enter Try.func34, Try.ntmps34
  go_wp2_with fail
  refine P1.out.mono ?_
  rintro e w1 ⟨rfl, hb1⟩
  have S1 := Lib.hid (S0.out.call hb1)
  clear P1 S0 hb1 hx1 hx2 hx3 hx4 hx5 hx6 hx7 hx8 hy1 hy2 hy3 hy4 hy5 hy6 hy7 hy8
  by_cases h0 : m.a = k.a
  · rw [show (m.a == k.a) = true from by simpa using h0]
    obtain ⟨-, ⟨hy0, hy1, hy2, hy3, hy4, hy5, hy6, hy7, hy8⟩, ⟨hx0, hx1, hx2, hx3, hx4, hx5, hx6, hx7, hx8⟩, hyd, hxd, -⟩ := S1.out
    have P2 := Lib.hid (r7same_v x.B y.B x.d y.d _ _ m.l k.l _ _ hxd.2.1 hyd.2.1 rfl rfl rfl)
    clear hxd hyd
    have H0 := Lib.hid h0
    clear h0
    go_wp2_with fail
    refine P2.out.mono ?_
    rintro e w2 ⟨rfl, hb2⟩
    have S2 := Lib.hid (S1.out.call hb2)
    clear P2 S1 hb2 hx1 hx2 hx3 hx4 hx5 hx6 hx7 hx8 hy1 hy2 hy3 hy4 hy5 hy6 hy7 hy8
    obtain ⟨-, ⟨hy0, hy1, hy2, hy3, hy4, hy5, hy6, hy7, hy8⟩, ⟨hx0, hx1, hx2, hx3, hx4, hx5, hx6, hx7, hx8⟩, hyd, hxd, -⟩ := S2.out
    clear hxd hyd
    by_cases h1 : m.l = k.l
    · rw [show (m.l == k.l) = true from by simpa using h1]
      have H1 := Lib.hid h1
      clear h1
      by_cases h2 : m.r = k.r
      · have H2 := Lib.hid h2
        have E2 : (m.r == k.r) = true := by simpa using h2
        clear h2
        by_cases h3 : m.q = k.q
        · have H3 := Lib.hid h3
          have E3 : (m.q == k.q) = true := by simpa using h3
          clear h3
          by_cases h4 : m.f = k.f
          · have H4 := Lib.hid h4
            have E4 : (m.f == k.f) = true := by simpa using h4
            clear h4
            by_cases h5 : m.s = k.s
            · have H5 := Lib.hid h5
              have E5 : (m.s == k.s) = true := by simpa using h5
              clear h5
              by_cases h6 : m.h = k.h
              · have H6 := Lib.hid h6
                have E6 : (m.h == k.h) = true := by simpa using h6
                clear h6
                go_wp2_with fail
                go_ret
                exact ⟨by rw [← HV.out]; simp [mS, H0.out, H1.out, H2.out, H3.out, H4.out, H5.out, H6.out], S2.out.1⟩
              · have H6 := Lib.hid h6
                have E6 : (m.h == k.h) = false := by simpa using h6
                clear h6
                go_wp2_with fail
                go_ret
                exact ⟨by rw [← HV.out]; simp [mS, H6.out], S2.out.1⟩
            · have H5 := Lib.hid h5
              have E5 : (m.s == k.s) = false := by simpa using h5
              clear h5
              go_wp2_with fail
              go_ret
              exact ⟨by rw [← HV.out]; simp [mS, H5.out], S2.out.1⟩
          · have H4 := Lib.hid h4
            have E4 : (m.f == k.f) = false := by simpa using h4
            clear h4
            go_wp2_with fail
            go_ret
            exact ⟨by rw [← HV.out]; simp [mS, H4.out], S2.out.1⟩
        · have H3 := Lib.hid h3
          have E3 : (m.q == k.q) = false := by simpa using h3
          clear h3
          go_wp2_with fail
          go_ret
          exact ⟨by rw [← HV.out]; simp [mS, H3.out], S2.out.1⟩
      · have H2 := Lib.hid h2
        have E2 : (m.r == k.r) = false := by simpa using h2
        clear h2
        go_wp2_with fail
        go_ret
        exact ⟨by rw [← HV.out]; simp [mS, H2.out], S2.out.1⟩
    · rw [show (m.l == k.l) = false from by simpa using h1]
      have H1 := Lib.hid h1
      clear h1
      go_wp2_with fail
      go_ret
      exact ⟨by rw [← HV.out]; simp [mS, H1.out], S2.out.1⟩
  · rw [show (m.a == k.a) = false from by simpa using h0]
    have H0 := Lib.hid h0
    clear h0
    go_wp2_with fail
    go_ret
    exact ⟨by rw [← HV.out]; simp [mS, H0.out], S1.out.1⟩
/-- More than is gone through. -/
def gB (m : Mh) : Bool := decide ((100 : Int) < m.a.length) || decide ((100 : Int) < m.l.length)
theorem gB_no {m : Mh} (h : gB m = false) : m.a.length ≤ 100 ∧ m.l.length ≤ 100 := by
  simp [gB] at h
  omega
theorem great_v (x : Mc) (m : Mh) (w : World) (hx : Hd w x m) : Calls Try.prog 22 #[mv x m] w fun e w' => e = .returned (.bool (gB m)) ∧ Below w.heap.size w w' := by
  have h1 := hx.la
  have h2 := hx.ll
  clear hx
  by_cases g1 : 100 < m.a.length
  · have E : gB m = true := by simp [gB]; omega
    rw [E]
    clear E
    go_enter Try.func22, Try.ntmps22
    go_wp2_with fail
    go_ret
    exact ⟨rfl, new1⟩
  · go_enter Try.func22, Try.ntmps22
    go_wp2_with fail
    go_ret
    exact ⟨rfl, new1⟩
end Go.Proofs.Ytimjnmkfbdijeaa
namespace Go.Proofs.Ytimjnmkfbdijeaa
open Go.RowKit
set_option maxRecDepth 100000
set_option linter.unusedSimpArgs false
set_option linter.unusedVariables false

theorem ret_of {a b : Bool} (h : a = b) : Ending.returned (.bool a) = Ending.returned (.bool b) := by rw [h]
end Go.Proofs.Ytimjnmkfbdijeaa
namespace Go.Proofs.Ytimjnmkfbdijeaa
open Go.RowKit
set_option maxRecDepth 100000
set_option linter.unusedSimpArgs false
set_option linter.unusedVariables false

/-- No cell of the block is frozen. -/
def Mf (w : World) (B : Nat) : Prop := B < w.heap.size ∧ ∀ i, w.frozen? ⟨B, i, none⟩ = false
theorem Mf.new (w : World) (cs : Array Value) (t : Nat) : Mf (w.alloc (.cells cs t)) w.heap.size := ⟨by simp, fun i => by simp [go_sem]⟩
theorem Mf.keep {w w' : World} {B : Nat} (h : Mf w B) (hb : Below w.heap.size w w') : Mf w' B := ⟨Nat.lt_of_lt_of_le h.1 hb.size, fun i => ((bcell hb).2 _ _ h.1).trans (h.2 i)⟩
theorem Mf.set {w : World} {B : Nat} (h : Mf w B) (p : Addr) (v : Value) : Mf (w.setCell p v) B := ⟨by simpa using h.1, fun i => by simpa using h.2 i⟩
abbrev fF (B : Nat) : Fct := ⟨fun w => Mf w B, fun _ _ h hb => h.keep hb⟩
theorem Sx.mkMF {w0 w : World} {L : List Fct} (h : Sx w0 w L) (x : Mc) (m : Mh) : Sx w0 (w.alloc (hcel x m)) (fF w.heap.size :: fM w.heap.size x m :: L) := (h.mkM x m).add (fF w.heap.size) (Mf.new w _ _)
/-- A head is stored, cell by cell. -/
def put8 (w : World) (B : Nat) (x : Mc) (m : Mh) : World :=
  (((((((w.setCell ⟨B, 0, none⟩ (.slice x.A m.a.length x.c)).setCell ⟨B, 1, none⟩ (.slice x.B m.l.length x.d)).setCell ⟨B, 2, none⟩ (.int .u8 m.r)).setCell ⟨B, 3, none⟩ (.bool m.q)).setCell ⟨B, 4, none⟩ (.int .i64 m.f)).setCell ⟨B, 5, none⟩ (.int .i64 m.s)).setCell ⟨B, 6, none⟩ (.int .i64 m.h)).setCell ⟨B, 7, none⟩ (.slice x.D x.k x.e)
theorem put8_below {w0 w : World} {k B : Nat} (h : Below k w0 w) (hB : k ≤ B) (x : Mc) (m : Mh) : Below k w0 (put8 w B x m) :=
  (((((((h.setCell (p := ⟨B, 0, none⟩) hB _).setCell (p := ⟨B, 1, none⟩) hB _).setCell (p := ⟨B, 2, none⟩) hB _).setCell (p := ⟨B, 3, none⟩) hB _).setCell (p := ⟨B, 4, none⟩) hB _).setCell (p := ⟨B, 5, none⟩) hB _).setCell (p := ⟨B, 6, none⟩) hB _).setCell (p := ⟨B, 7, none⟩) hB _
theorem put8_mb {w : World} {B : Nat} {y : Mc} {k : Mh} (h : Mb w B y k) (x : Mc) (m : Mh) : Mb (put8 w B x m) B x m := by
  obtain ⟨h0, h1, h2, h3, h4, h5, h6, h7, h8⟩ := h
  unfold put8
  refine ⟨by simpa using h0, ?_, ?_, ?_, ?_, ?_, ?_, ?_, ?_⟩ <;> simp [go_sem, h1, h2, h3, h4, h5, h6, h7, h8]

theorem Mb.setA {w : World} {B : Nat} {x : Mc} {m : Mh} (h : Mb w B x m) (A : Option Addr) (c : Nat) (a : List Int) (n : Nat) (hn : a.length = n) : Mb (w.setCell ⟨B, 0, none⟩ (.slice A n c)) B { x with A := A, c := c } { m with a := a } := by
  subst hn
  obtain ⟨h0, h1, h2, h3, h4, h5, h6, h7, h8⟩ := h
  refine ⟨by simpa using h0, ?_, ?_, ?_, ?_, ?_, ?_, ?_, ?_⟩ <;> simp [go_sem, h1, h2, h3, h4, h5, h6, h7, h8]
theorem Mb.setB {w : World} {B : Nat} {x : Mc} {m : Mh} (h : Mb w B x m) (A : Option Addr) (c : Nat) (a : List Int) (n : Nat) (hn : a.length = n) : Mb (w.setCell ⟨B, 1, none⟩ (.slice A n c)) B { x with B := A, d := c } { m with l := a } := by
  subst hn
  obtain ⟨h0, h1, h2, h3, h4, h5, h6, h7, h8⟩ := h
  refine ⟨by simpa using h0, ?_, ?_, ?_, ?_, ?_, ?_, ?_, ?_⟩ <;> simp [go_sem, h1, h2, h3, h4, h5, h6, h7, h8]
theorem Mb.setR {w : World} {B : Nat} {x : Mc} {m : Mh} (h : Mb w B x m) (z : Int) : Mb (w.setCell ⟨B, 2, none⟩ (.int .u8 z)) B x { m with r := z } := by
  obtain ⟨h0, h1, h2, h3, h4, h5, h6, h7, h8⟩ := h
  refine ⟨by simpa using h0, ?_, ?_, ?_, ?_, ?_, ?_, ?_, ?_⟩ <;> simp [go_sem, h1, h2, h3, h4, h5, h6, h7, h8]
theorem Mb.setQ {w : World} {B : Nat} {x : Mc} {m : Mh} (h : Mb w B x m) (z : Bool) : Mb (w.setCell ⟨B, 3, none⟩ (.bool z)) B x { m with q := z } := by
  obtain ⟨h0, h1, h2, h3, h4, h5, h6, h7, h8⟩ := h
  refine ⟨by simpa using h0, ?_, ?_, ?_, ?_, ?_, ?_, ?_, ?_⟩ <;> simp [go_sem, h1, h2, h3, h4, h5, h6, h7, h8]
theorem Mb.setF {w : World} {B : Nat} {x : Mc} {m : Mh} (h : Mb w B x m) (z : Int) : Mb (w.setCell ⟨B, 4, none⟩ (.int .i64 z)) B x { m with f := z } := by
  obtain ⟨h0, h1, h2, h3, h4, h5, h6, h7, h8⟩ := h
  refine ⟨by simpa using h0, ?_, ?_, ?_, ?_, ?_, ?_, ?_, ?_⟩ <;> simp [go_sem, h1, h2, h3, h4, h5, h6, h7, h8]
theorem Mb.setS {w : World} {B : Nat} {x : Mc} {m : Mh} (h : Mb w B x m) (z : Int) : Mb (w.setCell ⟨B, 5, none⟩ (.int .i64 z)) B x { m with s := z } := by
  obtain ⟨h0, h1, h2, h3, h4, h5, h6, h7, h8⟩ := h
  refine ⟨by simpa using h0, ?_, ?_, ?_, ?_, ?_, ?_, ?_, ?_⟩ <;> simp [go_sem, h1, h2, h3, h4, h5, h6, h7, h8]
theorem Mb.setH {w : World} {B : Nat} {x : Mc} {m : Mh} (h : Mb w B x m) (z : Int) : Mb (w.setCell ⟨B, 6, none⟩ (.int .i64 z)) B x { m with h := z } := by
  obtain ⟨h0, h1, h2, h3, h4, h5, h6, h7, h8⟩ := h
  refine ⟨by simpa using h0, ?_, ?_, ?_, ?_, ?_, ?_, ?_, ?_⟩ <;> simp [go_sem, h1, h2, h3, h4, h5, h6, h7, h8]
theorem Mb.setD {w : World} {B : Nat} {x : Mc} {m : Mh} (h : Mb w B x m) (A : Option Addr) (k e : Nat) : Mb (w.setCell ⟨B, 7, none⟩ (.slice A k e)) B { x with D := A, k := k, e := e } m := by
  obtain ⟨h0, h1, h2, h3, h4, h5, h6, h7, h8⟩ := h
  refine ⟨by simpa using h0, ?_, ?_, ?_, ?_, ?_, ?_, ?_, ?_⟩ <;> simp [go_sem, h1, h2, h3, h4, h5, h6, h7, h8]
theorem Rd.setc {w : World} {A : Option Addr} {c : Nat} {l : List Int} (h : Rd w A c l) {p : Addr} (hp : ∀ ad, A = some ad → 0 < l.length → ad.block ≠ p.block) (v : Value) : Rd (w.setCell p v) A c l := by
  refine ⟨h.1, h.2.1, h.2.2.1, ?_⟩
  rcases h.2.2.2 with hn | ⟨ad, ha, hc⟩
  · exact .inl hn
  · refine .inr ⟨ad, ha, fun i x hx => ?_⟩
    have hb : (ad.add i).block = ad.block := by unfold Addr.add; split <;> rfl
    rw [World.cell?_setCell_other _ _ _ _ (fun e => hp ad ha (by have := (List.getElem?_eq_some_iff.1 hx).1; omega) (by rw [← hb, ← e]))]
    exact hc i x hx
theorem Mf.keepM {w : World} {B : Nat} (h : Mf w B) : w.frozen? ⟨B, 0, none⟩ = false ∧ w.frozen? ⟨B, 1, none⟩ = false ∧ w.frozen? ⟨B, 2, none⟩ = false ∧ w.frozen? ⟨B, 3, none⟩ = false ∧ w.frozen? ⟨B, 4, none⟩ = false ∧ w.frozen? ⟨B, 5, none⟩ = false ∧ w.frozen? ⟨B, 6, none⟩ = false ∧ w.frozen? ⟨B, 7, none⟩ = false :=
  ⟨h.2 0, h.2 1, h.2 2, h.2 3, h.2 4, h.2 5, h.2 6, h.2 7⟩
/-- A row of the call's own. -/
abbrev fO (B : Nat) (A : Option Addr) (c : Nat) (l : List Int) : Fct := ⟨fun w => w.ownsRow B 5 1 (.slice A l.length c) l.length (cel l) ∧ Byt l, fun _ _ h hb => ⟨own_below h.1 hb (Nat.le_refl _), h.2⟩⟩
theorem rd_fO {B : Nat} {A : Option Addr} {c : Nat} {l : List Int} {w : World} (h : (fO B A c l).p w) : Rd w A c l := own_rd h.1 h.2
theorem put8_own {w : World} {N B e size n : Nat} {v : Value} {xs : List Value} (h : w.ownsRow N e size v n xs) (hB : B < N) (x : Mc) (m : Mh) : (put8 w B x m).ownsRow N e size v n xs :=
  ownsRow_setCell_below (ownsRow_setCell_below (ownsRow_setCell_below (ownsRow_setCell_below (ownsRow_setCell_below (ownsRow_setCell_below (ownsRow_setCell_below (ownsRow_setCell_below h hB _) hB _) hB _) hB _) hB _) hB _) hB _) hB _
theorem put8_rd {w : World} {B c : Nat} {A : Option Addr} {l : List Int} (h : Rd w A c l) (hB : ∀ ad, A = some ad → 0 < l.length → ad.block ≠ B) (x : Mc) (m : Mh) : Rd (put8 w B x m) A c l :=
  (((((((h.setc hB _).setc hB _).setc hB _).setc hB _).setc hB _).setc hB _).setc hB _).setc hB _
theorem Mb.drew {w : World} {B : Nat} {x : Mc} {m : Mh} (h : Mb w B x m) : Mb w.drew B x m := h
theorem own_succ {W : World} {base e size k : Nat} {v : Value} {xs : List Value} (h : W.ownsRow base e size v (k + 1) xs) : ∃ g cap, v = .slice (some ⟨g, 0, none⟩) (k + 1) cap := by
  rcases h.2 with ⟨_, h0⟩ | ⟨g, cap, _, rfl, _⟩
  · omega
  · exact ⟨g, cap, rfl⟩
/-- The cells of integers. -/
def ci (l : List Int) : List Value := l.map (Value.int .i64)
theorem ci_append (l m : List Int) : ci (l ++ m) = ci l ++ ci m := by simp [ci]
theorem ci_one (l : List Int) : ∀ u ∈ ci l, u.oneCell' = true := ints_oneCell _ _
/-- Integers in block B. -/
def Ia (w : World) (B : Nat) (l : List Int) : Prop := B < w.heap.size ∧ ∀ i z, l[i]? = some z → w.cell? ⟨B, i, none⟩ = some (.int .i64 z)
theorem Ia.keep {w w' : World} {B : Nat} {l : List Int} (h : Ia w B l) (hb : Below w.heap.size w w') : Ia w' B l := ⟨Nat.lt_of_lt_of_le h.1 hb.size, fun i z hi => ((bcell hb).1 _ _ h.1).trans (h.2 i z hi)⟩
theorem Ia.new (w : World) (l : List Int) (t : Nat) : Ia (w.alloc (.cells (ci l).toArray t)) w.heap.size l := ⟨by simp, fun i z hi => by simp [go_sem, ci, hi]⟩
abbrev fIa (B : Nat) (l : List Int) : Fct := ⟨fun w => Ia w B l, fun _ _ h hb => h.keep hb⟩
theorem Try.infoN : (Try.prog.info? 3).map (fun i => (i.zero, i.size, i.bytes)) = some (some (.int .i64 0), 1, 8) := by kernel_rfl
end Go.Proofs.Ytimjnmkfbdijeaa
