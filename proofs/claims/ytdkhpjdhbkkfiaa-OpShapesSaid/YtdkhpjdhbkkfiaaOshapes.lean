/-
  The walk of OpShapes: for every opcode it returns true; nothing that was there has changed.
-/
import Derived.Test.YtdkhpjdhbkkfiaaOref
namespace Go.Proofs.Ytdkhpjdhbkkfiaa
open Go.RowKit
set_option linter.unusedSimpArgs false
set_option linter.unusedVariables false

theorem rof_any (n : Int) (w : World) (h0 : 0 ≤ n) : Calls Try.prog 4 #[.int .u8 n] w fun e w' => ∃ A c A' c', e = .returned (.tuple #[.slice A (tkL n).length c, .slice A' (gvL n).length c', .bool (fxB n)]) ∧ Rd w' A c (tkL n) ∧ Rd w' A' c' (gvL n) ∧ Below w.heap.size w w' := by
  cases h : fxB n with
  | true => exact rof_t n w h
  | false =>
    rw [(tk_open h).1, (tk_open h).2]
    refine (rof_f n w h h0).mono ?_
    rintro e w1 ⟨rfl, rfl⟩
    exact ⟨none, 0, none, 0, rfl, Rd.none_ _, Rd.none_ _, Below.refl _ _⟩
theorem tk_byt (n : Int) : Byt (tkL n) ∧ Byt (gvL n) := by
  constructor
  · unfold tkL; repeat' split
    all_goals exact byt_of (by decide)
  · unfold gvL; repeat' split
    all_goals exact byt_of (by decide)
/-- Two slices lie at block B. -/
def Sh (w : World) (B : Nat) (x y : Value) : Prop := B < w.heap.size ∧ w.cell? ⟨B, 0, none⟩ = some x ∧ w.cell? ⟨B, 1, none⟩ = some y
theorem Sh.keep {w w' : World} {B : Nat} {x y : Value} (h : Sh w B x y) (hb : Below w.heap.size w w') : Sh w' B x y := by
  obtain ⟨h1, h2, h3⟩ := h
  obtain ⟨hc, hf⟩ := bcell hb
  exact ⟨Nat.lt_of_lt_of_le h1 hb.size, (hc _ _ h1).trans h2, (hc _ _ h1).trans h3⟩
theorem Sh.new (w : World) (x y : Value) : Sh (w.alloc (.cells #[x, y] 26)) w.heap.size x y := by
  refine ⟨by simp, ?_, ?_⟩ <;> simp [go_sem]
theorem Sh.other {w : World} {B : Nat} {x y : Value} (h : Sh w B x y) {p : Addr} (hp : p.block ≠ B) (v : Value) : Sh (w.setCell p v) B x y := by
  obtain ⟨h1, h2, h3⟩ := h
  have ne : ∀ i, p ≠ (⟨B, i, none⟩ : Addr) := fun i e => hp (by rw [e])
  refine ⟨by simpa using h1, ?_, ?_⟩
  · rw [World.cell?_setCell_other _ _ _ _ (ne 0)]; exact h2
  · rw [World.cell?_setCell_other _ _ _ _ (ne 1)]; exact h3

/-- What holds at a turn: two slices of the turn's own at block B, the first below m, the second from m on. -/
def Tn (b m B : Nat) (A : Option Addr) (c : Nat) (x : Nat) (A' : Option Addr) (c' : Nat) (y : Nat) (w : World) : Prop :=
  (∃ l, Byt l ∧ l.length = x ∧ w.ownsRow b 5 1 (.slice A x c) x (cel l)) ∧ (∃ l, Byt l ∧ l.length = y ∧ w.ownsRow m 5 1 (.slice A' y c') y (cel l)) ∧ Sh w B (.slice A x c) (.slice A' y c')
theorem Tn.keep {b m B : Nat} {A : Option Addr} {c x : Nat} {A' : Option Addr} {c' y : Nat} {w w' : World} (h : Tn b m B A c x A' c' y w) (hb : Below w.heap.size w w') : Tn b m B A c x A' c' y w' := by
  obtain ⟨⟨l, h1, h2, h3⟩, ⟨l', h4, h5, h6⟩, h7⟩ := h
  exact ⟨⟨l, h1, h2, own_below h3 hb (Nat.le_refl _)⟩, ⟨l', h4, h5, own_below h6 hb (Nat.le_refl _)⟩, h7.keep hb⟩

theorem Tn.put1 {b m B g j : Nat} {c x : Nat} {A' : Option Addr} {c' y : Nat} {w : World} (h : Tn b m B (some ⟨g, 0, none⟩) c x A' c' y w) (hj : j < x) (hm : g < m) (hB : g ≠ B) : Tn b m B (some ⟨g, 0, none⟩) c x A' c' y (w.setCell ⟨g, j, none⟩ (.int .u8 77)) := by
  obtain ⟨⟨l, h1, h2, h3⟩, ⟨l', h4, h5, h6⟩, h7⟩ := h
  refine ⟨⟨l.set j 77, byt_set h1 j (by decide), by rw [List.length_set]; exact h2, ?_⟩, ⟨l', h4, h5, ownsRow_setCell_below h6 hm _⟩, h7.other hB _⟩
  have := (h3.stored j (.int .u8 77)).1
  rwa [cel_set] at this
theorem Tn.put2 {b m B g j : Nat} {A : Option Addr} {c x : Nat} {c' y : Nat} {w : World} (h : Tn b m B A c x (some ⟨g, 0, none⟩) c' y w) (hj : j < y) (hA : ∀ x : Addr, A = some x → x.block < m) (hm : m ≤ g) (hB : g ≠ B) : Tn b m B A c x (some ⟨g, 0, none⟩) c' y (w.setCell ⟨g, j, none⟩ (.int .u8 77)) := by
  obtain ⟨⟨l, h1, h2, h3⟩, ⟨l', h4, h5, h6⟩, h7⟩ := h
  have ho : (Value.slice A x c).ownBlock ≠ some g := by
    cases A with
    | none => simp [Value.ownBlock]
    | some z => have := hA z rfl; simp [Value.ownBlock]; omega
  refine ⟨⟨l, h1, h2, ownsRow_setCell_other h3 ho _⟩, ⟨l'.set j 77, byt_set h4 j (by decide), by rw [List.length_set]; exact h5, ?_⟩, h7.other hB _⟩
  have := (h6.stored j (.int .u8 77)).1
  rwa [cel_set] at this

set_option maxHeartbeats 4000000 in
theorem oshapes_walk (n : Int) (w : World) (h0 : 0 ≤ n) : Calls Try.prog 3 #[.int .u8 n] w fun e w' => e = .returned (.bool true) ∧ Below w.heap.size w w' := by
  have HR := fun w => Lib.hid (rof_any n w h0)
  have HO := fun w => Lib.hid (of_any n w)
  have hb := tk_byt n
  obtain ⟨v, hv⟩ : ∃ v, fxB n = v := ⟨_, rfl⟩
  simp only [hv] at HR HO
  clear hv
  generalize tkL n = T at *
  generalize gvL n = V at *
  have HB := Lib.hid hb
  clear hb
  go_enter Try.func3, Try.ntmps3
  go_wp2_with fail
  refine (HR _).out.mono ?_
  rintro e w1 ⟨A1, c1, A2, c2, rfl, r1, r2, hb1⟩
  have hl1 := r1.len
  have hl2 := r2.len
  have S1 := Lib.hid ((((Sx.start w).call hb1).add (fR A1 c1 T) r1).add (fR A2 c2 V) r2)
  clear r1 r2 hb1
  go_wp2_with fail
  go_loopw [6, 7, 8, 9, 10] (fun i _ _ _ _ wr => ∃ k : Nat, k ≤ 2 ∧ i = .int .i64 k ∧ Hid (Sx w wr [fR A2 c2 V, fR A1 c1 T])) (fun i _ _ _ _ _ => 2 - (intOf i).toNat)
  case atStart => exact ⟨0, by omega, rfl, S1⟩
  case round =>
    obtain ⟨k, hk, rfl, S2⟩ := hrel
    rename World => wA
    clear S1
    by_cases hk2 : k < 2
    · go_wp2_with fail
      refine (HO _).out.mono ?_
      rintro e w3 ⟨A, c, A', c', m, rfl, o1, ob, om, o2, hb3⟩
      have S3 := Lib.hid (S2.out.call hb3)
      have L1 := Lib.hid (fun g hg => (o1.lt g hg).2)
      have L2 := Lib.hid (fun g hg => (o2.lt g hg).2)
      have T3 := Lib.hid (show Tn wA.heap.size m w3.heap.size A c T.length A' c' V.length (w3.alloc (.cells #[.slice A T.length c, .slice A' V.length c'] 26)) from
        ⟨⟨T, HB.out.1, rfl, own_below o1 new1 (Nat.le_refl _)⟩, ⟨V, HB.out.2, rfl, own_below o2 new1 (Nat.le_refl _)⟩, Sh.new w3 _ _⟩)
      have OB := Lib.hid ob
      have OM := Lib.hid om
      have R3 := Lib.hid (own_rd (own_below o1 (new1 (a := .cells #[.slice A T.length c, .slice A' V.length c'] 26)) (Nat.le_refl _)) HB.out.1)
      have B3 := Lib.hid (below_on hb3 (new1 (a := .cells #[.slice A T.length c, .slice A' V.length c'] 26)))
      have R5 := Lib.hid o2
      clear o1 o2 ob om hb3
      have R4 := Lib.hid (show Rd (w3.alloc (.cells #[.slice A T.length c, .slice A' V.length c'] 26)) A' c' V from own_rd (own_below R5.out (new1 (a := .cells #[.slice A T.length c, .slice A' V.length c'] 26)) (Nat.le_refl _)) HB.out.2)
      have S4 := Lib.hid (((S3.out.mk1 (.cells #[.slice A T.length c, .slice A' V.length c'] 26)).add (fR A c T) R3.out).add (fR A' c' V) R4.out)
      clear S3 R3 R4 R5
      go_wp2_with fail
      refine (same_t A A1 c c1 _ _ T _ S4.out.2.2.1 S4.out.2.2.2.2.1 rfl rfl).mono ?_
      rintro e w4 ⟨rfl, hb4⟩
      have S5 := Lib.hid (S4.out.call hb4)
      have T5 := Lib.hid (T3.out.keep hb4)
      have B5 := Lib.hid (below_on B3.out hb4)
      clear hb4 S4 T3 B3
      obtain ⟨-, -, ⟨z0, z1, z2⟩⟩ := T5.out
      go_wp2_with fail
      refine (same_t A' A2 c' c2 _ _ V _ S5.out.2.1 S5.out.2.2.2.1 rfl rfl).mono ?_
      rintro e w5 ⟨rfl, hb5⟩
      have T6 := Lib.hid (T5.out.keep hb5)
      have B6 := Lib.hid (below_on B5.out hb5)
      clear hb5 S5 T5 B5 z0 z1 z2
      go_wp2_with fail
      go_loopw [9] (fun i wx => ∃ j : Nat, j ≤ T.length ∧ i = .int .i64 j ∧ Hid (Tn wA.heap.size m w3.heap.size A c T.length A' c' V.length wx) ∧ Hid (Below wA.heap.size wA wx)) (fun i _ => T.length - (intOf i).toNat)
      case atStart => exact ⟨0, by omega, rfl, T6, B6⟩
      case round =>
        obtain ⟨j, hj, rfl, T7, B7⟩ := hrel
        clear T6 B6
        by_cases hj2 : j < T.length
        · obtain ⟨⟨l, hbl, hll, hown⟩, -, ⟨z0, z1, z2⟩⟩ := T7.out
          obtain ⟨g, rfl, hg⟩ := own_some hown (by omega)
          have hgm := OB.out _ rfl
          have hgB : g < w3.heap.size := L1.out g rfl
          have hfz := hown.frozenAt j
          have hcell := hown.cellAt j (by omega)
          obtain ⟨x, hx⟩ : ∃ x, l[j]? = some x := ⟨_, List.getElem?_eq_getElem (by omega)⟩
          have hx' : (cel l)[j]? = some (.int .u8 x) := by simp [cel, hx]
          rw [hx'] at hcell
          have T8 := Lib.hid (T7.out.put1 hj2 hgm (by omega))
          have B8 := Lib.hid (B7.out.setCell (p := ⟨g, j, none⟩) hg (.int .u8 77))
          clear hown hx hx' hbl hll T7 B7
          go_wp2_with fail
          go_roundw
          case rel => exact ⟨j + 1, by omega, by go_num, T8, B8⟩
          case measure => simp [intOf]; omega
        · obtain rfl : j = T.length := by omega
          obtain ⟨-, -, ⟨z0, z1, z2⟩⟩ := T7.out
          go_wp2_with fail
          clear z0 z1 z2
          go_loopw [10] (fun i wx => ∃ j : Nat, j ≤ V.length ∧ i = .int .i64 j ∧ Hid (Tn wA.heap.size m w3.heap.size A c T.length A' c' V.length wx) ∧ Hid (Below wA.heap.size wA wx)) (fun i _ => V.length - (intOf i).toNat)
          case atStart => exact ⟨0, by omega, rfl, T7, B7⟩
          case round =>
            obtain ⟨j, hj, rfl, T9, B9⟩ := hrel
            clear T7 B7
            by_cases hj2 : j < V.length
            · obtain ⟨-, ⟨l, hbl, hll, hown⟩, ⟨z0, z1, z2⟩⟩ := T9.out
              obtain ⟨g, rfl, hg⟩ := own_some hown (by omega)
              have hgB : g < w3.heap.size := L2.out g rfl
              have hgb : wA.heap.size ≤ g := Nat.le_trans OM.out hg
              have hfz := hown.frozenAt j
              have hcell := hown.cellAt j (by omega)
              obtain ⟨x, hx⟩ : ∃ x, l[j]? = some x := ⟨_, List.getElem?_eq_getElem (by omega)⟩
              have hx' : (cel l)[j]? = some (.int .u8 x) := by simp [cel, hx]
              rw [hx'] at hcell
              have T8 := Lib.hid (T9.out.put2 hj2 OB.out hg (by omega))
              have B8 := Lib.hid (B9.out.setCell (p := ⟨g, j, none⟩) hgb (.int .u8 77))
              clear hown hx hx' hbl hll T9 B9
              go_wp2_with fail
              go_roundw
              case rel => exact ⟨j + 1, by omega, by go_num, T8, B8⟩
              case measure => simp [intOf]; omega
            · obtain rfl : j = V.length := by omega
              obtain ⟨-, -, ⟨z0, z1, z2⟩⟩ := T9.out
              go_wp2_with fail
              go_roundw
              case rel => exact ⟨k + 1, by omega, by go_num, Lib.hid (S2.out.call B9.out)⟩
              case measure => simp [intOf]; omega
    · obtain rfl : k = 2 := by omega
      go_wp2_with fail
      go_ret
      exact ⟨rfl, S2.out.1⟩
end Go.Proofs.Ytdkhpjdhbkkfiaa
