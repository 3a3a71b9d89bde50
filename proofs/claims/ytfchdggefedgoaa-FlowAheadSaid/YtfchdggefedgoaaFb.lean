/-
  The program's loopsOf: the loops of code that flows well, by a stack of those that are open.
-/
import Derived.Test.YtfchdggefedgoaaFd
import Derived.Test.YtfchdggefedgoaaFc
import Derived.Deep.WholeRow
import Derived.Laws.OwnMore
namespace Go.Proofs.Ytfchdggefedgoaa
open Go.RowKit
set_option maxRecDepth 100000
set_option linter.unusedSimpArgs false
set_option linter.unusedVariables false

/-- An array of four integers in block B. -/
def A4 (w : World) (B : Nat) (f : Nat → Nat) : Prop := w.heap[B]? = some (.cells #[.int .i64 (f 0), .int .i64 (f 1), .int .i64 (f 2), .int .i64 (f 3)] 69 (0, 0))
section
variable {w w' : World} {B : Nat} {f : Nat → Nat}
theorem A4.lt (h : A4 w B f) : B < w.heap.size := (Array.getElem?_eq_some_iff.1 h).1
theorem A4.keep (h : A4 w B f) (hb : Below w.heap.size w w') : A4 w' B f := (hb.block B h.lt).trans h
theorem A4.cell (h : A4 w B f) {i : Nat} (hi : i < 4) : w.cell? ⟨B, i, none⟩ = some (.int .i64 (f i)) := by
  rw [cell_of_row w B i _ _ (0, 0) h]
  match i, hi with
  | 0, _ => rfl
  | 1, _ => rfl
  | 2, _ => rfl
  | 3, _ => rfl
theorem A4.froz (h : A4 w B f) (i : Nat) : w.frozen? ⟨B, i, none⟩ = false := frozen_of_row w B i _ _ h
theorem A4.put (h : A4 w B f) {j : Nat} (hj : j < 4) (v : Nat) : A4 (w.setCell ⟨B, j, none⟩ (.int .i64 v)) B (put9 f j v) := by
  unfold A4
  rw [heap_setCell_same w B j _ _ _ h]
  match j, hj with
  | 0, _ => simp [put9]
  | 1, _ => simp [put9]
  | 2, _ => simp [put9]
  | 3, _ => simp [put9]
theorem A4.other (h : A4 w B f) {p : Addr} (hp : p.block ≠ B) (v : Value) : A4 (w.setCell p v) B f := (Below.heap_setCell w p v B (fun e => hp e.symm)).trans h
theorem A4.new (w : World) : A4 (w.alloc (.cells #[.int .i64 0, .int .i64 0, .int .i64 0, .int .i64 0] 69)) w.heap.size (fun _ => 0) := heap_alloc_last w _
end
theorem cej_set : ∀ {xs : List Lp} {k f t : Nat} {z : Int} (t' : Nat), xs[k]? = some (f, t, z) → cej (xs.set k (f, t', z)) = (cej xs).set (k * 3 + 1) (.int .i64 t')
  | x :: xs, 0, f, t, z, t', h => by
    simp at h
    subst h
    rw [List.set_cons_zero, cej_cons, cej_cons]
    rfl
  | x :: xs, k + 1, f, t, z, t', h => by
    have ih := cej_set (xs := xs) (k := k) (f := f) (t := t) (z := z) t' (by simpa using h)
    rw [List.set_cons_succ, cej_cons, cej_cons, ih, show (k + 1) * 3 + 1 = k * 3 + 1 + 1 + 1 + 1 by omega]
    rfl
theorem sF9_len (L : List Ins) : ∀ p, (sF9 L p).length ≤ p
  | 0 => by simp [sF9]
  | p + 1 => by
    have := sF9_len L p
    rw [sF9_succ, List.length_append]
    split <;> simp <;> omega
theorem own_split {w : World} {base e n c : Nat} {A : Option Addr} {xs : List Value} (h : w.ownsRow base e 3 (.slice A n c) n xs) (hn : 0 < n) : ∃ g, A = some ⟨g, 0, none⟩ ∧ base ≤ g ∧ g < w.heap.size := by
  rcases h.2 with ⟨hv, h0⟩ | ⟨g, cap, cur, hv, hg, hb, _⟩
  · injection hv with e1 e2 e3
    omega
  · injection hv with e1 e2 e3
    subst e1
    exact ⟨g, rfl, hg, (Array.getElem?_eq_some_iff.1 hb).1⟩
/-- What the program's loopsOf tells. -/
def Lo9 (w w' : World) (FL : List Lp) (E : Int) (r : Ending) : Prop := ∃ A' c', r = .returned (.tuple #[.slice A' FL.length c', .int .i64 E]) ∧ w'.ownsRow w.heap.size 40 3 (.slice A' FL.length c') FL.length (cej FL) ∧ Below w.heap.size w w'
theorem flE9f_40 {l : List Ins} (h : codM l = false) : flE9 l = 40 ∧ flL9 l = [] := by
  have e : flE9 l = 40 := by rw [flE9, h]; rfl
  exact ⟨e, by rw [flL9, e]; rfl⟩
theorem flE9f_90 {l : List Ins} (hc : codM l = true) (h : ¬ (okL9 l = true ∧ ns9 (lpU9 l l.length) l.length = true ∧ (la9 l = 31 ∨ la9 l = 32) ∧ (List.range l.length).all (jp9 l (lpU9 l l.length)) = true)) : flE9 l = 90 ∧ flL9 l = [] := by
  have e : flE9 l = 90 := by rw [flE9, if_pos hc, if_neg h]
  exact ⟨e, by rw [flL9, e]; rfl⟩
theorem flE9f_ok {l : List Ins} (hc : codM l = true) (h : okL9 l = true ∧ ns9 (lpU9 l l.length) l.length = true ∧ (la9 l = 31 ∨ la9 l = 32) ∧ (List.range l.length).all (jp9 l (lpU9 l l.length)) = true) : flE9 l = 0 ∧ flL9 l = lpU9 l l.length := by
  have e : flE9 l = 0 := by rw [flE9, if_pos hc, if_pos h]
  exact ⟨e, by rw [flL9, if_pos e]⟩
set_option maxHeartbeats 16000000 in
theorem loopsof_v (A : Option Addr) (c m : Nat) (L : List Ins) (w : World) (hr : Ri w A c L) (hm : L.length = m) :
    Calls Try.prog 25 #[.slice A m c] w fun r w' => Lo9 w w' (flL9 L) (flE9 L) r := by
  have HLm := Lib.hid hm
  have HR := Lib.hid hr
  have hml : m ≤ 9223372036854775807 := by have := hr.len; omega
  clear hr hm
  obtain ⟨E, hE⟩ : ∃ e, flE9 L = e := ⟨_, rfl⟩
  obtain ⟨FL, hFL⟩ : ∃ x, flL9 L = x := ⟨_, rfl⟩
  have HEF := Lib.hid (show flE9 L = E ∧ flL9 L = FL from ⟨hE, hFL⟩)
  rw [hE, hFL]
  clear hE hFL
  obtain ⟨B, hB⟩ : ∃ B, w.heap.size = B := ⟨_, rfl⟩
  have HBB := Lib.hid hB
  clear hB
  go_enter Try.func25, Try.ntmps25
  go_wp2_with fail
  refine wp_scope_jumps 0 (fun a' w' => ∃ (E' : Int) (u0 u1 u2 u4 u5 u6 u7 u8 u9 u10 u11 u12 u13 u14 u15 u16 u17 u18 u19 u20 u21 u22 u23 u24 u25 u26 u27 u28 u29 u30 u31 u32 u33 u34 u35 u36 u37 u38 u39 u40 u41 u42 u43 u44 u45 u46 u47 u48 u49 u50 u51 u52 u53 u54 u55 u56 u57 u58 u59 u60 u61 u62 u63 u64 u65 u66 u67 u68 u69 u70 u71 u72 u73 u74 u75 u76 u77 u78 : Value), a' = { tmps := #[u0, u1, u2, Value.int .i64 E', u4, u5, u6, u7, u8, u9, u10, u11, u12, u13, u14, u15, u16, u17, u18, u19, u20, u21, u22, u23, u24, u25, u26, u27, u28, u29, u30, u31, u32, u33, u34, u35, u36, u37, u38, u39, u40, u41, u42, u43, u44, u45, u46, u47, u48, u49, u50, u51, u52, u53, u54, u55, u56, u57, u58, u59, u60, u61, u62, u63, u64, u65, u66, u67, u68, u69, u70, u71, u72, u73, u74, u75, u76, u77, u78], defers := [] } ∧ Hid (E = E' ∧ FL = []) ∧ Hid (Below w.heap.size w w')) (fun _ _ => 0) rfl ?_ ?_
  rotate_left 1
  · rintro a' w' ⟨E', u0, u1, u2, u4, u5, u6, u7, u8, u9, u10, u11, u12, u13, u14, u15, u16, u17, u18, u19, u20, u21, u22, u23, u24, u25, u26, u27, u28, u29, u30, u31, u32, u33, u34, u35, u36, u37, u38, u39, u40, u41, u42, u43, u44, u45, u46, u47, u48, u49, u50, u51, u52, u53, u54, u55, u56, u57, u58, u59, u60, u61, u62, u63, u64, u65, u66, u67, u68, u69, u70, u71, u72, u73, u74, u75, u76, u77, u78, rfl, HE, HB⟩
    go_wp2_with fail
    simp only [Exit.jump]
    go_ret2
    exact ⟨none, 0, by rw [HE.out.1, HE.out.2]; rfl, by rw [HE.out.2]; exact World.ownsRow_nil _ _ _ _, HB.out⟩
  have HB0 : Hid (Below w.heap.size w (w.alloc (.cells #[.int .i64 0, .int .i64 0, .int .i64 0, .int .i64 0] 69))) := Lib.hid new1
  have HV := Lib.hid (valid9_v A c m L (w.alloc (.cells #[.int .i64 0, .int .i64 0, .int .i64 0, .int .i64 0] 69)) (HR.out.keep HB0.out) HLm.out)
  cases hcm : codM L with
  | false =>
    have HE : Hid (E = 40 ∧ FL = []) := Lib.hid (by rw [← HEF.out.1, ← HEF.out.2]; exact flE9f_40 hcm)
    rw [hcm] at HV
    clear hcm
    go_wp2_with fail
    refine HV.out.mono ?_
    rintro r w2 ⟨rfl, hb⟩
    have HB2 := Lib.hid (below_on HB0.out hb)
    clear hb
    go_wp2_with fail
    go_step3
    exact ⟨rfl, 40, _, _, _, _, _, _, _, _, _, _, _, _, _, _, _, _, _, _, _, _, _, _, _, _, _, _, _, _, _, _, _, _, _, _, _, _, _, _, _, _, _, _, _, _, _, _, _, _, _, _, _, _, _, _, _, _, _, _, _, _, _, _, _, _, _, _, _, _, _, _, _, _, _, _, _, _, _, _, rfl, HE, HB2⟩
  | true =>
    have HCM := Lib.hid hcm
    rw [hcm] at HV
    clear hcm
    have HNG : Hid (¬ sG9 L L.length → E = 90 ∧ FL = []) := Lib.hid fun h => by
      rw [← HEF.out.1, ← HEF.out.2]
      exact flE9f_90 HCM.out (fun h2 => h ((stack9 HCM.out).1 ⟨h2.1, h2.2.1⟩).1)
    have HNN : Hid (∀ x ∈ L, 0 ≤ x.2.1) := Lib.hid fun x hx => inM_nn ((codM_all HCM.out).2.2 x hx)
    have hm1 : 1 ≤ m := by have := (codM_all HCM.out).1; rw [HLm.out] at this; exact this
    have hm2 : m ≤ 200 := by have := (codM_all HCM.out).2.1; rw [HLm.out] at this; exact this
    go_wp2_with fail
    refine HV.out.mono ?_
    rintro r w2 ⟨rfl, hb⟩
    have HB2 := Lib.hid (below_on HB0.out hb)
    have HA2 : Hid (A4 w2 B fun _ => 0) := Lib.hid (by
      have h := (A4.new w).keep hb
      rwa [HBB.out] at h)
    rw [HBB.out]
    clear hb HV HB0
    go_wp2_with fail
    go_loopw [2, 5, 13] (fun lv dv pv wq => ∃ (p d n c1 : Nat) (A1 : Option Addr) (of : Nat → Nat), p ≤ m ∧ pv = .int .i64 p ∧ d ≤ 4 ∧ dv = .int .i64 d ∧ n ≤ p ∧ lv = .slice A1 n c1 ∧ Hid (n = (sF9 L p).length) ∧ Hid (sG9 L p) ∧ Hid (d = (sS9 L p).length) ∧ Hid (A4 wq B of) ∧ Hid (∀ i f, (sS9 L p)[i]? = some f → of i = ix9 L f) ∧ Hid (wq.ownsRow (B + 1) 40 3 (.slice A1 n c1) n (cej (sL9 L p))) ∧ Hid (Below w.heap.size w wq)) (fun _ _ pv _ => m - (intOf pv).toNat)
    case atStart => exact ⟨0, 0, 0, 0, none, _, by omega, rfl, by omega, rfl, by omega, rfl, Lib.hid rfl, Lib.hid (fun q hq => by omega), Lib.hid rfl, HA2, Lib.hid (fun i f h => by simp [sS9, sF9] at h), Lib.hid (World.ownsRow_nil _ _ _ _), HB2⟩
    case round =>
      clear HA2 HB2
      obtain ⟨p, d, n, c1, A1, of, hpm, rfl, hd4, rfl, hnp, rfl, HN, HG, HD, HA, HOF, HO, HB⟩ := hrel
      by_cases hp : p < m
      · obtain ⟨⟨o, b0, z⟩, hx⟩ : ∃ x, L[p]? = some x := ⟨_, List.getElem?_eq_getElem (by rw [HLm.out]; exact hp)⟩
        obtain ⟨b, rfl⟩ : ∃ b : Nat, b0 = b := ⟨b0.toNat, by have := HNN.out _ (List.mem_of_getElem? hx); simp at this; omega⟩
        have HXO : Hid (iO9 L p = o ∧ iA9 L p = b) := Lib.hid ⟨by simp [iO9, hx], by simp [iA9, hx]⟩
        obtain ⟨ad, hA, k1, k2, k3⟩ := (HR.out.keep HB.out).cl9 hx
        subst hA
        clear hx
        go_upto_region 9 with (fail)
        have HB1 : Hid (Below w.heap.size w (wr.alloc (.cells #[.int .u8 o, .int .i64 b, .int .i64 z] 52))) := Lib.hid (below_on HB.out new1)
        have HA1 : Hid (A4 (wr.alloc (.cells #[.int .u8 o, .int .i64 b, .int .i64 z] 52)) B of) := Lib.hid (HA.out.keep new1)
        have HO1 : Hid ((wr.alloc (.cells #[.int .u8 o, .int .i64 b, .int .i64 z] 52)).ownsRow (B + 1) 40 3 (.slice A1 n c1) n (cej (sL9 L p))) := Lib.hid (HO.out.alloc _)
        have hBs : B < wr.heap.size := HA.out.lt
        obtain ⟨D, hD⟩ : ∃ D, wr.heap.size = D := ⟨_, rfl⟩
        have q0 : (wr.alloc (.cells #[.int .u8 o, .int .i64 b, .int .i64 z] 52)).cell? ⟨D, 0, none⟩ = some (.int .u8 o) := by rw [← hD]; simp [go_sem]
        have q1 : (wr.alloc (.cells #[.int .u8 o, .int .i64 b, .int .i64 z] 52)).cell? ⟨D, 1, none⟩ = some (.int .i64 b) := by rw [← hD]; simp [go_sem]
        have hDs : D < (wr.alloc (.cells #[.int .u8 o, .int .i64 b, .int .i64 z] 52)).heap.size := by rw [← hD]; simp
        rw [hD] at hBs ⊢
        generalize wr.alloc (.cells #[.int .u8 o, .int .i64 b, .int .i64 z] 52) = w1 at HB1 HA1 HO1 q0 q1 hDs ⊢
        clear k1 k2 k3 HA HO HB hD
        by_cases h28 : o = 28
        · subst h28
          by_cases hd : d = 4
          · subst hd
            have HE : Hid (E = 90 ∧ FL = []) := Lib.hid (HNG.out (fun h => by
              have h := h p (by rw [HLm.out]; exact hp)
              have := h.1 HXO.out.1; rw [← HD.out] at this; omega))
            go_wp2_with fail
            go_step3
            exact ⟨rfl, 90, _, _, _, _, _, _, _, _, _, _, _, _, _, _, _, _, _, _, _, _, _, _, _, _, _, _, _, _, _, _, _, _, _, _, _, _, _, _, _, _, _, _, _, _, _, _, _, _, _, _, _, _, _, _, _, _, _, _, _, _, _, _, _, _, _, _, _, _, _, _, _, _, _, _, _, _, _, _, rfl, HE, HB1⟩
          · have hd3 : (d : Int) < 4 := by omega
            have y0 := HA1.out.cell (i := d) (by omega)
            have yf := HA1.out.froz d
            have hne : ((d : Int) == 4) = false := by simp; omega
            go_upto_region 13 with (fail)
            have HA3 : Hid (A4 (w1.setCell ⟨B, d, none⟩ (.int .i64 n)) B (put9 of d n)) := Lib.hid (HA1.out.put (by omega) n)
            have HB3 : Hid (Below w.heap.size w (w1.setCell ⟨B, d, none⟩ (.int .i64 n))) := Lib.hid (HB1.out.setCell (p := ⟨B, d, none⟩) (by rw [HBB.out]; exact Nat.le_refl _) _)
            have HO3 : Hid ((w1.setCell ⟨B, d, none⟩ (.int .i64 n)).ownsRow (B + 1) 40 3 (.slice A1 n c1) n (cej (sL9 L p))) := Lib.hid (ownsRow_setCell_below HO1.out (by simp) _)
            have q1' : (w1.setCell ⟨B, d, none⟩ (.int .i64 n)).cell? ⟨D, 1, none⟩ = some (.int .i64 b) := by rw [World.cell?_setCell_other _ _ _ _ (fun e => by injection e with e; omega)]; exact q1
            have hDs' : D < (w1.setCell ⟨B, d, none⟩ (.int .i64 n)).heap.size := by simpa using hDs
            generalize w1.setCell ⟨B, d, none⟩ (.int .i64 n) = w3 at HA3 HB3 HO3 q1' hDs' ⊢
            clear q0 q1 y0 yf hDs HA1 HB1 HO1
            have ST := Lib.hid (s9_loop HXO.out.1 (sG9_self HG.out))
            have HSL : Hid (w3.ownsRow (B + 1) 40 3 (.slice A1 n c1) n (cej (sL9 L p))) := HO3
            have hB3 := HA3.out.lt
            go_wp2_with (at_builtin; refine wpList_append_rf _ rfl (.tmp 30) (.tmp 35) rfl (B + 1) _ n (sL9 L p) rfl (HO3.out.alloc _) _ 1 1 [(p, 0, (b : Int))] rfl (rf_new w3 (p, 0, (b : Int)) trivial) rfl (by omega) (by simp; omega) ?_)
            rintro A9 c9 w9 ho hb
            have HB9 : Hid (Below w.heap.size w w9) := Lib.hid (HB3.out.trans ((new1.mono HB3.out.size).trans (hb.mono (by rw [HBB.out]; omega))))
            have HA9 : Hid (A4 w9 B (put9 of d n)) := Lib.hid ((hb.block B (by omega)).trans (HA3.out.keep new1))
            have HO9 : Hid (w9.ownsRow (B + 1) 40 3 (.slice A9 (n + 1) c9) (n + 1) (cej (sL9 L (p + 1)))) := Lib.hid (by rw [ST.out.1, HXO.out.2]; exact ho)
            clear ho hb HA3 HB3 HO3 q1' hDs'
            have HN9 : Hid (n + 1 = (sF9 L (p + 1)).length) := Lib.hid (by rw [sF9_succ, if_pos HXO.out.1, List.length_append, ← HN.out]; rfl)
            have HG9 : Hid (sG9 L (p + 1)) := Lib.hid fun q hq => by
              by_cases hqp : q < p
              · exact HG.out q hqp
              · obtain rfl : q = p := by omega
                exact ⟨fun _ => by rw [← HD.out]; omega, fun h => by rw [HXO.out.1] at h; cases h⟩
            have HD9 : Hid (d + 1 = (sS9 L (p + 1)).length) := Lib.hid (by rw [ST.out.2, List.length_append, ← HD.out]; rfl)
            have HOF9 : Hid (∀ i f, (sS9 L (p + 1))[i]? = some f → put9 of d n i = ix9 L f) := Lib.hid fun i f h => by
              rw [ST.out.2] at h
              unfold put9
              by_cases hid : i = d
              · subst hid
                rw [List.getElem?_append_right (by rw [← HD.out]; exact Nat.le_refl _), ← HD.out, Nat.sub_self] at h
                simp at h
                subst h
                rw [if_pos rfl, ix9, HN.out]
              · have hlt := (List.getElem?_eq_some_iff.1 h).1
                rw [List.length_append, ← HD.out] at hlt
                simp at hlt
                rw [List.getElem?_append_left (by rw [← HD.out]; omega)] at h
                rw [if_neg hid]
                exact HOF.out i f h
            go_wp2_with fail
            go_roundw
            case rel => exact ⟨p + 1, d + 1, n + 1, c9, A9, _, by omega, by go_num, by omega, by go_num, by omega, rfl, HN9, HG9, HD9, HA9, HOF9, HO9, HB9⟩
            case measure => simp [intOf]; omega
        · by_cases h29 : o = 29
          · subst h29
            have HB5 : Hid (Below w.heap.size w w1.drew) := Lib.hid (below_draws HB1.out 1)
            have HA5 : Hid (A4 w1.drew B of) := HA1
            have HO5 : Hid (w1.drew.ownsRow (B + 1) 40 3 (.slice A1 n c1) n (cej (sL9 L p))) := HO1
            by_cases hd : d = 0
            · subst hd
              have HE : Hid (E = 90 ∧ FL = []) := Lib.hid (HNG.out (fun h => by
                have h := h p (by rw [HLm.out]; exact hp)
                obtain ⟨f, hf, -⟩ := h.2 HXO.out.1; rw [List.eq_nil_of_length_eq_zero HD.out.symm] at hf; cases hf))
              have SR : Hid (Below w1.heap.size w1 w1.drew) := Lib.hid (below_draws (Below.refl _ _) 1)
              go_upto_region 16 with (fail)
              refine wp_region_held_drew (S := fun w' => Hid (Below w1.heap.size w1 w')) (by kernel_rfl) (SR) (fun hHeld => ?_)
              refine wpAnyH_take (i := 0) (v := ?_) rfl (by kernel_rfl) (by kernel_rfl) (by kernel_rfl) (fun _ _ _ h => h) (Or.inl ⟨by rfl, ?_⟩) (by assumption) ?_
              rotate_left 1
              · intro w _; go_simp; try with_reducible rfl
              try simp only [Act.put, List.getElem_toArray, List.getElem_cons_zero, List.getElem_cons_succ, List.setIfInBounds_toArray, List.set_cons_zero, List.set_cons_succ]
              refine wpAnyH_take (i := 1) (v := ?_) rfl (by kernel_rfl) (by kernel_rfl) (by kernel_rfl) (fun _ _ _ h => h) (Or.inl ⟨by rfl, ?_⟩) (by assumption) ?_
              rotate_left 1
              · intro w _; go_simp; try with_reducible rfl
              try simp only [Act.put, List.getElem_toArray, List.getElem_cons_zero, List.getElem_cons_succ, List.setIfInBounds_toArray, List.set_cons_zero, List.set_cons_succ]
              refine wpAnyH_take (i := 2) (v := ?_) rfl (by kernel_rfl) (by kernel_rfl) (by kernel_rfl) (fun _ _ _ h => h) (Or.inl ⟨by rfl, ?_⟩) (by assumption) ?_
              rotate_left 1
              · intro w _; go_simp; try with_reducible rfl
              try simp only [Act.put, List.getElem_toArray, List.getElem_cons_zero, List.getElem_cons_succ, List.setIfInBounds_toArray, List.set_cons_zero, List.set_cons_succ]
              refine wpAnyH_take (i := 3) (v := undef) rfl (by kernel_rfl) (by kernel_rfl) (by kernel_rfl) (fun _ _ _ h => h) (Or.inr ⟨by rfl, rfl⟩) (by assumption) ?_
              try simp only [Act.put, List.getElem_toArray, List.getElem_cons_zero, List.getElem_cons_succ, List.setIfInBounds_toArray, List.set_cons_zero, List.set_cons_succ]
              refine wpAnyH_take (i := 4) (v := undef) rfl (by kernel_rfl) (by kernel_rfl) (by kernel_rfl) (fun _ _ _ h => h) (Or.inr ⟨by rfl, rfl⟩) (by assumption) ?_
              try simp only [Act.put, List.getElem_toArray, List.getElem_cons_zero, List.getElem_cons_succ, List.setIfInBounds_toArray, List.set_cons_zero, List.set_cons_succ]
              refine wpAnyH_take (i := 5) (v := undef) rfl (by kernel_rfl) (by kernel_rfl) (by kernel_rfl) (fun _ _ _ h => h) (Or.inr ⟨by rfl, rfl⟩) (by assumption) ?_
              try simp only [Act.put, List.getElem_toArray, List.getElem_cons_zero, List.getElem_cons_succ, List.setIfInBounds_toArray, List.set_cons_zero, List.set_cons_succ]
              refine wpAnyH_take (i := 6) (v := undef) rfl (by kernel_rfl) (by kernel_rfl) (by kernel_rfl) (fun _ _ _ h => h) (Or.inr ⟨by rfl, rfl⟩) (by assumption) ?_
              try simp only [Act.put, List.getElem_toArray, List.getElem_cons_zero, List.getElem_cons_succ, List.setIfInBounds_toArray, List.set_cons_zero, List.set_cons_succ]
              refine wpAnyH_take (i := 7) (v := undef) rfl (by kernel_rfl) (by kernel_rfl) (by kernel_rfl) (fun _ _ _ h => h) (Or.inr ⟨by rfl, rfl⟩) (by assumption) ?_
              try simp only [Act.put, List.getElem_toArray, List.getElem_cons_zero, List.getElem_cons_succ, List.setIfInBounds_toArray, List.set_cons_zero, List.set_cons_succ]
              refine wpAnyH_take (i := 8) (v := undef) rfl (by kernel_rfl) (by kernel_rfl) (by kernel_rfl) (fun _ _ _ h => h) (Or.inr ⟨by rfl, rfl⟩) (by assumption) ?_
              try simp only [Act.put, List.getElem_toArray, List.getElem_cons_zero, List.getElem_cons_succ, List.setIfInBounds_toArray, List.set_cons_zero, List.set_cons_succ]
              refine wpAnyH_take (i := 9) (v := undef) rfl (by kernel_rfl) (by kernel_rfl) (by kernel_rfl) (fun _ _ _ h => h) (Or.inr ⟨by rfl, rfl⟩) (by assumption) ?_
              try simp only [Act.put, List.getElem_toArray, List.getElem_cons_zero, List.getElem_cons_succ, List.setIfInBounds_toArray, List.set_cons_zero, List.set_cons_succ]
              refine wpAnyH_take (i := 10) (v := undef) rfl (by kernel_rfl) (by kernel_rfl) (by kernel_rfl) (fun _ _ _ h => h) (Or.inr ⟨by rfl, rfl⟩) (by assumption) ?_
              try simp only [Act.put, List.getElem_toArray, List.getElem_cons_zero, List.getElem_cons_succ, List.setIfInBounds_toArray, List.set_cons_zero, List.set_cons_succ]
              refine wpAnyH_take (i := 11) (v := undef) rfl (by kernel_rfl) (by kernel_rfl) (by kernel_rfl) (fun _ _ _ h => h) (Or.inr ⟨by rfl, rfl⟩) (by assumption) ?_
              try simp only [Act.put, List.getElem_toArray, List.getElem_cons_zero, List.getElem_cons_succ, List.setIfInBounds_toArray, List.set_cons_zero, List.set_cons_succ]
              refine wpAnyH_take (i := 12) (v := undef) rfl (by kernel_rfl) (by kernel_rfl) (by kernel_rfl) (fun _ _ _ h => h) (Or.inr ⟨by rfl, rfl⟩) (by assumption) ?_
              try simp only [Act.put, List.getElem_toArray, List.getElem_cons_zero, List.getElem_cons_succ, List.setIfInBounds_toArray, List.set_cons_zero, List.set_cons_succ]
              refine wpAnyH_take (i := 13) (v := undef) rfl (by kernel_rfl) (by kernel_rfl) (by kernel_rfl) (fun _ _ _ h => h) (Or.inr ⟨by rfl, rfl⟩) (by assumption) ?_
              try simp only [Act.put, List.getElem_toArray, List.getElem_cons_zero, List.getElem_cons_succ, List.setIfInBounds_toArray, List.set_cons_zero, List.set_cons_succ]
              refine wpAnyH_take (i := 14) (v := ?_) rfl (by kernel_rfl) (by kernel_rfl) (by kernel_rfl) (fun _ _ _ h => h) (Or.inl ⟨by rfl, ?_⟩) (by assumption) ?_
              rotate_left 1
              · intro w _; go_simp; try with_reducible rfl
              try simp only [Act.put, List.getElem_toArray, List.getElem_cons_zero, List.getElem_cons_succ, List.setIfInBounds_toArray, List.set_cons_zero, List.set_cons_succ]
              refine wpAnyH_done (by kernel_rfl) ?_ _
              clear hHeld
              go_wp2_with fail
              go_step3
              exact ⟨rfl, 90, _, _, _, _, _, _, _, _, _, _, _, _, _, _, _, _, _, _, _, _, _, _, _, _, _, _, _, _, _, _, _, _, _, _, _, _, _, _, _, _, _, _, _, _, _, _, _, _, _, _, _, _, _, _, _, _, _, _, _, _, _, _, _, _, _, _, _, _, _, _, _, _, _, _, _, _, _, _, rfl, HE, HB5⟩
            · obtain ⟨e, hde⟩ : ∃ e : Nat, (d : Int) - 1 = (e : Int) := ⟨d - 1, by omega⟩
              have hed : d = e + 1 := by omega
              have HED := Lib.hid hed
              have he4 : (e : Int) < 4 := by omega
              have hwe : IntKind.i64.wrap (e : Int) = (e : Int) := by
                simp [IntKind.wrap, IntKind.signed, IntKind.bits, go_sem]
                omega
              have hdn : ((d : Int) == 0) = false := by simp; omega
              obtain ⟨f, hf⟩ : ∃ f, (sS9 L p)[e]? = some f := ⟨_, List.getElem?_eq_getElem (by rw [← HD.out]; omega)⟩
              have HLA : Hid ((sS9 L p).getLast? = some f) := Lib.hid (by rw [List.getLast?_eq_getElem?, ← HD.out, HED.out, Nat.add_sub_cancel]; exact hf)
              obtain ⟨f1, f2, f3⟩ := mem_sS9.1 (List.mem_of_getElem? hf)
              have hxk : (sL9 L p)[ix9 L f]? = some (f, 0, iA9 L f) := by rw [sL9_at f1 f2, sT9, f3]; rfl
              have hoe := HOF.out e f hf
              obtain ⟨k, hk⟩ : ∃ k, ix9 L f = k := ⟨_, rfl⟩
              rw [hk] at hxk hoe
              have HK := Lib.hid hk
              have HXK := Lib.hid hxk
              have hkn : k < n := by
                have := (List.getElem?_eq_some_iff.1 hxk).1
                rw [sL9, List.length_map, ← HN.out] at this
                exact this
              obtain ⟨g, hg, hBg, hgs⟩ := own_split HO1.out (by omega)
              subst hg
              have y0 := HA5.out.cell (i := e) (by omega)
              rw [hoe] at y0
              have t0 : w1.drew.cell? ⟨g, k * 3, none⟩ = some (.int .i64 f) := by
                rw [HO5.out.cellAt (k * 3) (by omega)]
                exact (cej_at hxk).1
              have t1 : w1.drew.cell? ⟨g, k * 3 + 1, none⟩ = some (.int .i64 0) := by
                rw [HO5.out.cellAt (k * 3 + 1) (by omega)]
                exact (cej_at hxk).2.1
              have tf : w1.drew.frozen? ⟨g, k * 3 + 1, none⟩ = false := HO5.out.frozenAt _
              have hf3 := f3
              clear hf f1 f2 f3 hf3 hxk hoe hk hed
              have SR : Hid (Below w1.heap.size w1 w1.drew ∧ w1.drew.cell? ⟨D, 1, none⟩ = some (.int .i64 b) ∧ w1.drew.cell? ⟨B, e, none⟩ = some (.int .i64 k) ∧ w1.drew.cell? ⟨g, k * 3, none⟩ = some (.int .i64 f)) := Lib.hid ⟨below_draws (Below.refl _ _) 1, q1, y0, t0⟩
              by_cases hfb : f = b
              · obtain rfl : b = f := hfb.symm
                clear hfb
                have AG := Lib.hid (s9_again HXO.out.1 HLA.out HXO.out.2)
                go_upto_region 16 with (fail)
                refine wp_region_held_drew (S := fun w' => Hid (Below w1.heap.size w1 w' ∧ w'.cell? ⟨D, 1, none⟩ = some (.int .i64 b) ∧ w'.cell? ⟨B, e, none⟩ = some (.int .i64 k) ∧ w'.cell? ⟨g, k * 3, none⟩ = some (.int .i64 b))) (by kernel_rfl) (SR) (fun hHeld => ?_)
                refine wpAnyH_take (i := 0) (v := ?_) rfl (by kernel_rfl) (by kernel_rfl) (by kernel_rfl) (fun _ _ _ h => h) (Or.inl ⟨by rfl, ?_⟩) (by assumption) ?_
                rotate_left 1
                · intro w _; go_simp; try with_reducible rfl
                try simp only [Act.put, List.getElem_toArray, List.getElem_cons_zero, List.getElem_cons_succ, List.setIfInBounds_toArray, List.set_cons_zero, List.set_cons_succ]
                refine wpAnyH_take (i := 1) (v := ?_) rfl (by kernel_rfl) (by kernel_rfl) (by kernel_rfl) (fun _ _ _ h => h) (Or.inl ⟨by rfl, ?_⟩) (by assumption) ?_
                rotate_left 1
                · intro w _; go_simp; try with_reducible rfl
                try simp only [Act.put, List.getElem_toArray, List.getElem_cons_zero, List.getElem_cons_succ, List.setIfInBounds_toArray, List.set_cons_zero, List.set_cons_succ]
                refine wpAnyH_take (i := 2) (v := ?_) rfl (by kernel_rfl) (by kernel_rfl) (by kernel_rfl) (fun _ _ _ h => h) (Or.inl ⟨by rfl, ?_⟩) (by assumption) ?_
                rotate_left 1
                · intro w _; go_simp; try with_reducible rfl
                try simp only [Act.put, List.getElem_toArray, List.getElem_cons_zero, List.getElem_cons_succ, List.setIfInBounds_toArray, List.set_cons_zero, List.set_cons_succ]
                refine wpAnyH_take (i := 3) (v := ?_) rfl (by kernel_rfl) (by kernel_rfl) (by kernel_rfl) (fun _ _ _ h => h) (Or.inl ⟨by rfl, ?_⟩) (by assumption) ?_
                rotate_left 1
                · intro w _; go_simp; try with_reducible rfl
                try simp only [Act.put, List.getElem_toArray, List.getElem_cons_zero, List.getElem_cons_succ, List.setIfInBounds_toArray, List.set_cons_zero, List.set_cons_succ]
                refine wpAnyH_take (i := 4) (v := ?_) rfl (by kernel_rfl) (by kernel_rfl) (by kernel_rfl) (fun _ _ _ h => h) (Or.inl ⟨by rfl, ?_⟩) (by assumption) ?_
                rotate_left 1
                · intro w _; go_simp; try with_reducible rfl
                try simp only [Act.put, List.getElem_toArray, List.getElem_cons_zero, List.getElem_cons_succ, List.setIfInBounds_toArray, List.set_cons_zero, List.set_cons_succ]
                refine wpAnyH_take (i := 5) (v := ?_) rfl (by kernel_rfl) (by kernel_rfl) (by kernel_rfl) (fun _ _ _ h => h) (Or.inl ⟨by rfl, ?_⟩) (by assumption) ?_
                rotate_left 1
                · intro w _; go_simp; try with_reducible rfl
                try simp only [Act.put, List.getElem_toArray, List.getElem_cons_zero, List.getElem_cons_succ, List.setIfInBounds_toArray, List.set_cons_zero, List.set_cons_succ]
                refine wpAnyH_take (i := 6) (v := ?_) rfl (by kernel_rfl) (by kernel_rfl) (by kernel_rfl) (fun _ _ _ h => h) (Or.inl ⟨by rfl, ?_⟩) (by assumption) ?_
                rotate_left 1
                · intro w _; go_simp; try with_reducible rfl
                try simp only [Act.put, List.getElem_toArray, List.getElem_cons_zero, List.getElem_cons_succ, List.setIfInBounds_toArray, List.set_cons_zero, List.set_cons_succ]
                refine wpAnyH_take (i := 7) (v := ?_) rfl (by kernel_rfl) (by kernel_rfl) (by kernel_rfl) (fun _ _ _ h => h) (Or.inl ⟨by rfl, ?_⟩) (by assumption) ?_
                rotate_left 1
                · intro w hSw; (try dsimp only at hSw); obtain ⟨-, s0, s1, s2⟩ := hSw.out; go_simp; try with_reducible rfl
                try simp only [Act.put, List.getElem_toArray, List.getElem_cons_zero, List.getElem_cons_succ, List.setIfInBounds_toArray, List.set_cons_zero, List.set_cons_succ]
                refine wpAnyH_take (i := 8) (v := ?_) rfl (by kernel_rfl) (by kernel_rfl) (by kernel_rfl) (fun _ _ _ h => h) (Or.inl ⟨by rfl, ?_⟩) (by assumption) ?_
                rotate_left 1
                · intro w _; go_simp; try with_reducible rfl
                try simp only [Act.put, List.getElem_toArray, List.getElem_cons_zero, List.getElem_cons_succ, List.setIfInBounds_toArray, List.set_cons_zero, List.set_cons_succ]
                refine wpAnyH_take (i := 9) (v := ?_) rfl (by kernel_rfl) (by kernel_rfl) (by kernel_rfl) (fun _ _ _ h => h) (Or.inl ⟨by rfl, ?_⟩) (by assumption) ?_
                rotate_left 1
                · intro w _; go_simp; try with_reducible rfl
                try simp only [Act.put, List.getElem_toArray, List.getElem_cons_zero, List.getElem_cons_succ, List.setIfInBounds_toArray, List.set_cons_zero, List.set_cons_succ]
                refine wpAnyH_take (i := 10) (v := ?_) rfl (by kernel_rfl) (by kernel_rfl) (by kernel_rfl) (fun _ _ _ h => h) (Or.inl ⟨by rfl, ?_⟩) (by assumption) ?_
                rotate_left 1
                · intro w hSw; (try dsimp only at hSw); obtain ⟨-, s0, s1, s2⟩ := hSw.out; go_simp; try with_reducible rfl
                try simp only [Act.put, List.getElem_toArray, List.getElem_cons_zero, List.getElem_cons_succ, List.setIfInBounds_toArray, List.set_cons_zero, List.set_cons_succ]
                refine wpAnyH_take (i := 11) (v := ?_) rfl (by kernel_rfl) (by kernel_rfl) (by kernel_rfl) (fun _ _ _ h => h) (Or.inl ⟨by rfl, ?_⟩) (by assumption) ?_
                rotate_left 1
                · intro w _; go_simp; try with_reducible rfl
                try simp only [Act.put, List.getElem_toArray, List.getElem_cons_zero, List.getElem_cons_succ, List.setIfInBounds_toArray, List.set_cons_zero, List.set_cons_succ]
                refine wpAnyH_take (i := 12) (v := ?_) rfl (by kernel_rfl) (by kernel_rfl) (by kernel_rfl) (fun _ _ _ h => h) (Or.inl ⟨by rfl, ?_⟩) (by assumption) ?_
                rotate_left 1
                · intro w hSw; (try dsimp only at hSw); obtain ⟨-, s0, s1, s2⟩ := hSw.out; go_simp; try with_reducible rfl
                try simp only [Act.put, List.getElem_toArray, List.getElem_cons_zero, List.getElem_cons_succ, List.setIfInBounds_toArray, List.set_cons_zero, List.set_cons_succ]
                refine wpAnyH_take (i := 13) (v := ?_) rfl (by kernel_rfl) (by kernel_rfl) (by kernel_rfl) (fun _ _ _ h => h) (Or.inl ⟨by rfl, ?_⟩) (by assumption) ?_
                rotate_left 1
                · intro w _; go_simp; try with_reducible rfl
                try simp only [Act.put, List.getElem_toArray, List.getElem_cons_zero, List.getElem_cons_succ, List.setIfInBounds_toArray, List.set_cons_zero, List.set_cons_succ]
                refine wpAnyH_take (i := 14) (v := ?_) rfl (by kernel_rfl) (by kernel_rfl) (by kernel_rfl) (fun _ _ _ h => h) (Or.inl ⟨by rfl, ?_⟩) (by assumption) ?_
                rotate_left 1
                · intro w _; go_simp; try with_reducible rfl
                try simp only [Act.put, List.getElem_toArray, List.getElem_cons_zero, List.getElem_cons_succ, List.setIfInBounds_toArray, List.set_cons_zero, List.set_cons_succ]
                refine wpAnyH_done (by kernel_rfl) ?_ _
                clear hHeld
                go_upto_region 19 with (fail)
                have HB6 : Hid (Below w.heap.size w (w1.drew.setCell ⟨g, k * 3 + 1, none⟩ (.int .i64 p))) := Lib.hid (HB5.out.setCell (p := ⟨g, k * 3 + 1, none⟩) (by rw [HBB.out]; show B ≤ g; omega) _)
                have HA6 : Hid (A4 (w1.drew.setCell ⟨g, k * 3 + 1, none⟩ (.int .i64 p)) B of) := Lib.hid (HA5.out.other (by show g ≠ B; omega) _)
                have HO6 : Hid ((w1.drew.setCell ⟨g, k * 3 + 1, none⟩ (.int .i64 p)).ownsRow (B + 1) 40 3 (.slice (some ⟨g, 0, none⟩) n c1) n (cej (sL9 L (p + 1)))) := Lib.hid (by
                  have h := (HO5.out.stored (k * 3 + 1) (.int .i64 p)).1
                  rw [AG.out.1, HK.out, cej_set p HXK.out]
                  exact h)
                have e6 : w1.drew.setCell ⟨g, k * 3 + 1, none⟩ (.int .i64 p) = (w1.setCell ⟨g, k * 3 + 1, none⟩ (.int .i64 p)).drew := rfl
                rw [e6] at HB6 HA6 HO6
                clear e6
                generalize (w1.setCell ⟨g, k * 3 + 1, none⟩ (.int .i64 p)).drew = w6 at HB6 HA6 HO6 ⊢
                clear y0 t0 t1 tf q0 q1 HB5 HA5 HO5 HB1 HA1 HO1 SR
                have HN9 : Hid (n = (sF9 L (p + 1)).length) := Lib.hid (by rw [sF9_succ, if_neg (by rw [HXO.out.1]; omega), List.append_nil, ← HN.out])
                have HG9 : Hid (sG9 L (p + 1)) := Lib.hid fun q hq => by
                  by_cases hqp : q < p
                  · exact HG.out q hqp
                  · obtain rfl : q = p := by omega
                    exact ⟨fun h => (by rw [HXO.out.1] at h; cases h), fun _ => ⟨b, HLA.out, HXO.out.2⟩⟩
                have HD9 : Hid (e = (sS9 L (p + 1)).length) := Lib.hid (by rw [AG.out.2, List.length_dropLast, ← HD.out, HED.out, Nat.add_sub_cancel])
                have HOF9 : Hid (∀ i f, (sS9 L (p + 1))[i]? = some f → of i = ix9 L f) := Lib.hid fun i f h => by
                  rw [AG.out.2, List.getElem?_dropLast] at h
                  split at h
                  · exact HOF.out i f h
                  · cases h
                go_wp2_with fail
                go_roundw
                case rel => exact ⟨p + 1, e, n, c1, some ⟨g, 0, none⟩, of, by omega, by go_num, by omega, by go_num, by omega, rfl, HN9, HG9, HD9, HA6, HOF9, HO6, HB6⟩
                case measure => simp [intOf]; omega
              · have hfn : ((f : Int) != (b : Int)) = true := by simp; omega
                have HE : Hid (E = 90 ∧ FL = []) := Lib.hid (HNG.out (fun h => by
                  have h := h p (by rw [HLm.out]; exact hp)
                  obtain ⟨f', hf', hA'⟩ := h.2 HXO.out.1; rw [HLA.out] at hf'; injection hf' with hf'; rw [HXO.out.2] at hA'; omega))
                go_upto_region 16 with (fail)
                refine wp_region_held_drew (S := fun w' => Hid (Below w1.heap.size w1 w' ∧ w'.cell? ⟨D, 1, none⟩ = some (.int .i64 b) ∧ w'.cell? ⟨B, e, none⟩ = some (.int .i64 k) ∧ w'.cell? ⟨g, k * 3, none⟩ = some (.int .i64 f))) (by kernel_rfl) (SR) (fun hHeld => ?_)
                refine wpAnyH_take (i := 0) (v := ?_) rfl (by kernel_rfl) (by kernel_rfl) (by kernel_rfl) (fun _ _ _ h => h) (Or.inl ⟨by rfl, ?_⟩) (by assumption) ?_
                rotate_left 1
                · intro w _; go_simp; try with_reducible rfl
                try simp only [Act.put, List.getElem_toArray, List.getElem_cons_zero, List.getElem_cons_succ, List.setIfInBounds_toArray, List.set_cons_zero, List.set_cons_succ]
                refine wpAnyH_take (i := 1) (v := ?_) rfl (by kernel_rfl) (by kernel_rfl) (by kernel_rfl) (fun _ _ _ h => h) (Or.inl ⟨by rfl, ?_⟩) (by assumption) ?_
                rotate_left 1
                · intro w _; go_simp; try with_reducible rfl
                try simp only [Act.put, List.getElem_toArray, List.getElem_cons_zero, List.getElem_cons_succ, List.setIfInBounds_toArray, List.set_cons_zero, List.set_cons_succ]
                refine wpAnyH_take (i := 2) (v := ?_) rfl (by kernel_rfl) (by kernel_rfl) (by kernel_rfl) (fun _ _ _ h => h) (Or.inl ⟨by rfl, ?_⟩) (by assumption) ?_
                rotate_left 1
                · intro w _; go_simp; try with_reducible rfl
                try simp only [Act.put, List.getElem_toArray, List.getElem_cons_zero, List.getElem_cons_succ, List.setIfInBounds_toArray, List.set_cons_zero, List.set_cons_succ]
                refine wpAnyH_take (i := 3) (v := ?_) rfl (by kernel_rfl) (by kernel_rfl) (by kernel_rfl) (fun _ _ _ h => h) (Or.inl ⟨by rfl, ?_⟩) (by assumption) ?_
                rotate_left 1
                · intro w _; go_simp; try with_reducible rfl
                try simp only [Act.put, List.getElem_toArray, List.getElem_cons_zero, List.getElem_cons_succ, List.setIfInBounds_toArray, List.set_cons_zero, List.set_cons_succ]
                refine wpAnyH_take (i := 4) (v := ?_) rfl (by kernel_rfl) (by kernel_rfl) (by kernel_rfl) (fun _ _ _ h => h) (Or.inl ⟨by rfl, ?_⟩) (by assumption) ?_
                rotate_left 1
                · intro w _; go_simp; try with_reducible rfl
                try simp only [Act.put, List.getElem_toArray, List.getElem_cons_zero, List.getElem_cons_succ, List.setIfInBounds_toArray, List.set_cons_zero, List.set_cons_succ]
                refine wpAnyH_take (i := 5) (v := ?_) rfl (by kernel_rfl) (by kernel_rfl) (by kernel_rfl) (fun _ _ _ h => h) (Or.inl ⟨by rfl, ?_⟩) (by assumption) ?_
                rotate_left 1
                · intro w _; go_simp; try with_reducible rfl
                try simp only [Act.put, List.getElem_toArray, List.getElem_cons_zero, List.getElem_cons_succ, List.setIfInBounds_toArray, List.set_cons_zero, List.set_cons_succ]
                refine wpAnyH_take (i := 6) (v := ?_) rfl (by kernel_rfl) (by kernel_rfl) (by kernel_rfl) (fun _ _ _ h => h) (Or.inl ⟨by rfl, ?_⟩) (by assumption) ?_
                rotate_left 1
                · intro w _; go_simp; try with_reducible rfl
                try simp only [Act.put, List.getElem_toArray, List.getElem_cons_zero, List.getElem_cons_succ, List.setIfInBounds_toArray, List.set_cons_zero, List.set_cons_succ]
                refine wpAnyH_take (i := 7) (v := ?_) rfl (by kernel_rfl) (by kernel_rfl) (by kernel_rfl) (fun _ _ _ h => h) (Or.inl ⟨by rfl, ?_⟩) (by assumption) ?_
                rotate_left 1
                · intro w hSw; (try dsimp only at hSw); obtain ⟨-, s0, s1, s2⟩ := hSw.out; go_simp; try with_reducible rfl
                try simp only [Act.put, List.getElem_toArray, List.getElem_cons_zero, List.getElem_cons_succ, List.setIfInBounds_toArray, List.set_cons_zero, List.set_cons_succ]
                refine wpAnyH_take (i := 8) (v := ?_) rfl (by kernel_rfl) (by kernel_rfl) (by kernel_rfl) (fun _ _ _ h => h) (Or.inl ⟨by rfl, ?_⟩) (by assumption) ?_
                rotate_left 1
                · intro w _; go_simp; try with_reducible rfl
                try simp only [Act.put, List.getElem_toArray, List.getElem_cons_zero, List.getElem_cons_succ, List.setIfInBounds_toArray, List.set_cons_zero, List.set_cons_succ]
                refine wpAnyH_take (i := 9) (v := ?_) rfl (by kernel_rfl) (by kernel_rfl) (by kernel_rfl) (fun _ _ _ h => h) (Or.inl ⟨by rfl, ?_⟩) (by assumption) ?_
                rotate_left 1
                · intro w _; go_simp; try with_reducible rfl
                try simp only [Act.put, List.getElem_toArray, List.getElem_cons_zero, List.getElem_cons_succ, List.setIfInBounds_toArray, List.set_cons_zero, List.set_cons_succ]
                refine wpAnyH_take (i := 10) (v := ?_) rfl (by kernel_rfl) (by kernel_rfl) (by kernel_rfl) (fun _ _ _ h => h) (Or.inl ⟨by rfl, ?_⟩) (by assumption) ?_
                rotate_left 1
                · intro w hSw; (try dsimp only at hSw); obtain ⟨-, s0, s1, s2⟩ := hSw.out; go_simp; try with_reducible rfl
                try simp only [Act.put, List.getElem_toArray, List.getElem_cons_zero, List.getElem_cons_succ, List.setIfInBounds_toArray, List.set_cons_zero, List.set_cons_succ]
                refine wpAnyH_take (i := 11) (v := ?_) rfl (by kernel_rfl) (by kernel_rfl) (by kernel_rfl) (fun _ _ _ h => h) (Or.inl ⟨by rfl, ?_⟩) (by assumption) ?_
                rotate_left 1
                · intro w _; go_simp; try with_reducible rfl
                try simp only [Act.put, List.getElem_toArray, List.getElem_cons_zero, List.getElem_cons_succ, List.setIfInBounds_toArray, List.set_cons_zero, List.set_cons_succ]
                refine wpAnyH_take (i := 12) (v := ?_) rfl (by kernel_rfl) (by kernel_rfl) (by kernel_rfl) (fun _ _ _ h => h) (Or.inl ⟨by rfl, ?_⟩) (by assumption) ?_
                rotate_left 1
                · intro w hSw; (try dsimp only at hSw); obtain ⟨-, s0, s1, s2⟩ := hSw.out; go_simp; try with_reducible rfl
                try simp only [Act.put, List.getElem_toArray, List.getElem_cons_zero, List.getElem_cons_succ, List.setIfInBounds_toArray, List.set_cons_zero, List.set_cons_succ]
                refine wpAnyH_take (i := 13) (v := ?_) rfl (by kernel_rfl) (by kernel_rfl) (by kernel_rfl) (fun _ _ _ h => h) (Or.inl ⟨by rfl, ?_⟩) (by assumption) ?_
                rotate_left 1
                · intro w _; go_simp; try with_reducible rfl
                try simp only [Act.put, List.getElem_toArray, List.getElem_cons_zero, List.getElem_cons_succ, List.setIfInBounds_toArray, List.set_cons_zero, List.set_cons_succ]
                refine wpAnyH_take (i := 14) (v := ?_) rfl (by kernel_rfl) (by kernel_rfl) (by kernel_rfl) (fun _ _ _ h => h) (Or.inl ⟨by rfl, ?_⟩) (by assumption) ?_
                rotate_left 1
                · intro w _; go_simp; try with_reducible rfl
                try simp only [Act.put, List.getElem_toArray, List.getElem_cons_zero, List.getElem_cons_succ, List.setIfInBounds_toArray, List.set_cons_zero, List.set_cons_succ]
                refine wpAnyH_done (by kernel_rfl) ?_ _
                clear hHeld
                go_wp2_with fail
                go_step3
                exact ⟨rfl, 90, _, _, _, _, _, _, _, _, _, _, _, _, _, _, _, _, _, _, _, _, _, _, _, _, _, _, _, _, _, _, _, _, _, _, _, _, _, _, _, _, _, _, _, _, _, _, _, _, _, _, _, _, _, _, _, _, _, _, _, _, _, _, _, _, _, _, _, _, _, _, _, _, _, _, _, _, _, _, rfl, HE, HB5⟩
          · have e28 : (o == 28) = false := by simpa using h28
            have e29 : (o == 29) = false := by simpa using h29
            have ST := Lib.hid (s9_other (l := L) (p := p) (by rw [HXO.out.1]; exact h28) (by rw [HXO.out.1]; exact h29))
            have HN9 : Hid (n = (sF9 L (p + 1)).length) := Lib.hid (by rw [sF9_succ, if_neg (by rw [HXO.out.1]; exact h28), List.append_nil, ← HN.out])
            have HG9 : Hid (sG9 L (p + 1)) := Lib.hid fun q hq => by
              by_cases hqp : q < p
              · exact HG.out q hqp
              · obtain rfl : q = p := by omega
                exact ⟨fun h => absurd (HXO.out.1.symm.trans h) h28, fun h => absurd (HXO.out.1.symm.trans h) h29⟩
            have HD9 : Hid (d = (sS9 L (p + 1)).length) := Lib.hid (by rw [ST.out.2, ← HD.out])
            have HOF9 : Hid (∀ i f, (sS9 L (p + 1))[i]? = some f → of i = ix9 L f) := Lib.hid (by rw [ST.out.2]; exact HOF.out)
            have HO9 : Hid (w1.ownsRow (B + 1) 40 3 (.slice A1 n c1) n (cej (sL9 L (p + 1)))) := Lib.hid (by rw [ST.out.1]; exact HO1.out)
            go_wp2_with fail
            go_roundw
            case rel => exact ⟨p + 1, d, n, c1, A1, of, by omega, by go_num, by omega, rfl, by omega, rfl, HN9, HG9, HD9, HA1, HOF9, HO9, HB1⟩
            case measure => simp [intOf]; omega
      · obtain rfl : m = p := by omega
        by_cases hd : d = 0
        · subst hd
          have hS : sS9 L m = [] := List.eq_nil_of_length_eq_zero HD.out.symm
          have HST : Hid (okL9 L = true ∧ ns9 (lpU9 L L.length) L.length = true) := Lib.hid ((stack9 HCM.out).2 (by rw [HLm.out]; exact ⟨HG.out, hS⟩))
          have HLP : Hid (lpU9 L L.length = sL9 L m) := Lib.hid (by
            have h := stack9_loops (l := L) (by rw [HLm.out]; exact HG.out) (by rw [HLm.out]; exact hS)
            rw [h, HLm.out])
          have HNS : Hid ((sL9 L m).length = n) := Lib.hid (by rw [sL9, List.length_map, ← HN.out])
          have HJ := Lib.hid (jumpsfit_v A A1 c m c1 n L (sL9 L m) wr (HR.out.keep HB.out) HLm.out (Rj.of_own HO.out (fun _ _ => trivial)).1 HNS.out hm2 HNN.out)
          clear hS
          cases hj : (List.range m).all (jp9 L (sL9 L m)) with
          | false =>
            have HE : Hid (E = 90 ∧ FL = []) := Lib.hid (by
              rw [← HEF.out.1, ← HEF.out.2]
              exact flE9f_90 HCM.out (fun h => by
                have h := h.2.2.2
                rw [HLP.out, HLm.out, hj] at h
                cases h))
            rw [hj] at HJ
            clear hj
            go_wp2_with fail
            refine HJ.out.mono ?_
            rintro r w3 ⟨rfl, hb⟩
            have HB3 := Lib.hid (below_on HB.out hb)
            clear hb
            go_wp2_with fail
            go_step3
            exact ⟨rfl, 90, _, _, _, _, _, _, _, _, _, _, _, _, _, _, _, _, _, _, _, _, _, _, _, _, _, _, _, _, _, _, _, _, _, _, _, _, _, _, _, _, _, _, _, _, _, _, _, _, _, _, _, _, _, _, _, _, _, _, _, _, _, _, _, _, _, _, _, _, _, _, _, _, _, _, _, _, _, _, rfl, HE, HB3⟩
          | true =>
            have HJJ := Lib.hid hj
            rw [hj] at HJ
            clear hj
            go_wp2_with fail
            refine HJ.out.mono ?_
            rintro r w3 ⟨rfl, hb⟩
            have HB3 := Lib.hid (below_on HB.out hb)
            have HO3 : Hid (w3.ownsRow (B + 1) 40 3 (.slice A1 n c1) n (cej (sL9 L m))) := Lib.hid (own_below HO.out hb (Nat.le_refl _))
            have HEN := Lib.hid (ends9f_v A c m L w3 (HR.out.keep HB3.out) HLm.out hm1 hm2)
            clear hb
            by_cases hla : la9 L = 31 ∨ la9 L = 32
            · have HE : Hid (E = 0 ∧ FL = sL9 L m) := Lib.hid (by
                rw [← HEF.out.1, ← HEF.out.2, ← HLP.out]
                exact flE9f_ok HCM.out ⟨HST.out.1, HST.out.2, hla, by rw [HLP.out, HLm.out]; exact HJJ.out⟩)
              rw [decide_eq_true hla] at HEN
              clear hla
              go_wp2_with fail
              refine HEN.out.mono ?_
              rintro r w4 ⟨rfl, hb⟩
              have HB4 := Lib.hid (below_on HB3.out hb)
              have HO4 : Hid (w4.ownsRow w.heap.size 40 3 (.slice A1 n c1) n (cej (sL9 L m))) := Lib.hid (own_below HO3.out hb (by rw [HBB.out]; omega))
              clear hb
              go_wp2_with fail
              simp only [Exit.jump]
              go_ret2
              exact ⟨A1, c1, by rw [HE.out.1, HE.out.2, HNS.out]; rfl, by rw [HE.out.2, HNS.out]; exact HO4.out, HB4.out⟩
            · have HE : Hid (E = 90 ∧ FL = []) := Lib.hid (by
                rw [← HEF.out.1, ← HEF.out.2]
                exact flE9f_90 HCM.out (fun h => hla h.2.2.1))
              rw [decide_eq_false hla] at HEN
              clear hla
              go_wp2_with fail
              refine HEN.out.mono ?_
              rintro r w4 ⟨rfl, hb⟩
              have HB4 := Lib.hid (below_on HB3.out hb)
              clear hb
              go_wp2_with fail
              go_step3
              exact ⟨rfl, 90, _, _, _, _, _, _, _, _, _, _, _, _, _, _, _, _, _, _, _, _, _, _, _, _, _, _, _, _, _, _, _, _, _, _, _, _, _, _, _, _, _, _, _, _, _, _, _, _, _, _, _, _, _, _, _, _, _, _, _, _, _, _, _, _, _, _, _, _, _, _, _, _, _, _, _, _, _, _, rfl, HE, HB4⟩
        · have hd0 : 0 < d := by omega
          have HE : Hid (E = 90 ∧ FL = []) := Lib.hid (by
            rw [← HEF.out.1, ← HEF.out.2]
            exact flE9f_90 HCM.out (fun h => by
              have h := ((stack9 HCM.out).1 ⟨h.1, h.2.1⟩).2
              rw [HLm.out] at h
              have h2 := HD.out
              rw [h] at h2
              simp at h2
              omega))
          go_wp2_with fail
          go_step3
          exact ⟨rfl, 90, _, _, _, _, _, _, _, _, _, _, _, _, _, _, _, _, _, _, _, _, _, _, _, _, _, _, _, _, _, _, _, _, _, _, _, _, _, _, _, _, _, _, _, _, _, _, _, _, _, _, _, _, _, _, _, _, _, _, _, _, _, _, _, _, _, _, _, _, _, _, _, _, _, _, _, _, _, _, rfl, HE, HB⟩
end Go.Proofs.Ytfchdggefedgoaa
