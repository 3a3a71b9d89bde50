/-
  Layer 16: the program's add, New.
-/
import Derived.Test.YtkifapnmojfjoaaUq
import Derived.Test.YtkifapnmojfjoaaUs
namespace Go.Proofs.Ytkifapnmojfjoaa
open Go.RowKit Go.Maps
set_option maxRecDepth 100000
set_option linter.unusedSimpArgs false
set_option linter.unusedVariables false

/-- A frame that New is making: locals l so far. -/
structure Qn16 (w : World) (B M : Nat) (l : List Vlu) (L : List Vlu) : Prop where
  box : w.heap[B]? = some (.cells (pc16 (.pointer none) L l.length (.slice none 0 0) 0 M) 47 (0, 0))
  ll : L.length = 16
  le : l.length ≤ 16
  pre : L.take l.length = l
  mp : w.ownsMap Try.prog 3 (plainElem Try.prog 3) M 0 (.map [] : DataW Unit)
  ok : ∀ x ∈ l, VlOk x
section
variable {w w' : World} {B M : Nat} {l L : List Vlu} {Y : Nat → Prop}
theorem Qn16.BM (h : Qn16 w B M l L) : B ≠ M := by
  intro e
  obtain ⟨es, clock, hb, -⟩ := h.mp
  rw [← e] at hb
  have := h.box.symm.trans hb
  simp at this
theorem Qn16.fr (h : Qn16 w B M l L) (hf : Fr11 Y w w') (h0 : ¬ Y B) (h1 : ¬ Y M) : Qn16 w' B M l L :=
  ⟨(hf.block _ (Array.getElem?_eq_some_iff.1 h.box).1 h0).trans h.box, h.ll, h.le, h.pre, ownm_fr16 h.mp hf h1, h.ok⟩
theorem Qn16.c49 (h : Qn16 w B M l L) : w.cell? ⟨B, 49, none⟩ = some (.int .i64 l.length) := cell_of_box16 h.box (pc16_e (j := 0) h.ll)
theorem Qn16.fz (h : Qn16 w B M l L) (i : Nat) : w.frozen? ⟨B, i, none⟩ = false := frozen_of_row w B i _ _ h.box
theorem take_set16 {n : Nat} {v : Vlu} (hn : n < L.length) (h : L.take n = l) : (L.set n v).take (n + 1) = l ++ [v] := by
  rw [List.take_add_one, List.take_set, List.set_eq_of_length_le (by rw [List.length_take]; omega), h, List.getElem?_set_self hn]
  rfl
end
theorem padd_no (B M : Nat) (l L : List Vlu) (v0 v1 v2 : Int) (w : World) (h : Qn16 w B M l L) (hn : l.length = 16 ∨ kd16 v0 = false) :
    Calls Try.prog 23 #[.pointer (some ⟨B, 0, none⟩), .agg #[.int .u8 v0, .int .i64 v1, .int .i64 v2]] w fun e w' => e = .returned (.bool false) ∧ Below w.heap.size w w' := by
  have H := Lib.hid (h.fr (nb16 ((Below.refl w.heap.size w).alloc (Nat.le_refl _) (.cells #[.int .u8 v0, .int .i64 v1, .int .i64 v2] 33))) id id)
  have hl0 : B < w.heap.size := (Array.getElem?_eq_some_iff.1 h.box).1
  clear h
  have b0 := H.out.c49
  have hle := H.out.le
  obtain ⟨n, hln⟩ : ∃ n, l.length = n := ⟨_, rfl⟩
  rw [hln] at b0 hn hle
  clear hln H
  by_cases h16 : n = 16
  · subst h16
    go_enter Try.func23, Try.ntmps23
    go_wp2_with fail
    go_ret
    exact ⟨rfl, (Below.refl _ _).alloc (Nat.le_refl _) _⟩
  · have g1 : ((n : Int) == 16) = false := by simp; omega
    have hk : kd16 v0 = false := hn.resolve_left h16
    have HK := Lib.hid (ppossible_v v0 (w.alloc (.cells #[.int .u8 v0, .int .i64 v1, .int .i64 v2] 33)))
    rw [hk] at HK
    clear hk hn
    go_enter Try.func23, Try.ntmps23
    go_wp2_with fail
    refine HK.out.mono ?_
    rintro e w1 ⟨rfl, rfl⟩
    go_wp2_with fail
    go_ret
    exact ⟨rfl, (Below.refl _ _).alloc (Nat.le_refl _) _⟩
theorem padd_yes (B M : Nat) (l L : List Vlu) (v0 v1 v2 : Int) (w : World) (h : Qn16 w B M l L) (hv : VlOk (v0, v1, v2)) (hn : l.length < 16) (hk : kd16 v0 = true) :
    Calls Try.prog 23 #[.pointer (some ⟨B, 0, none⟩), .agg #[.int .u8 v0, .int .i64 v1, .int .i64 v2]] w fun e w' => e = .returned (.bool true) ∧ Qn16 w' B M (l ++ [(v0, v1, v2)]) (L.set l.length (v0, v1, v2)) ∧ Fr11 (fun j => j = B) w w' := by
  have HBA : Hid (Below w.heap.size w (w.alloc (.cells #[.int .u8 v0, .int .i64 v1, .int .i64 v2] 33))) := Lib.hid ((Below.refl _ _).alloc (Nat.le_refl _) _)
  have H := Lib.hid (h.fr (nb16 HBA.out) id id)
  have HBW : Hid (B < w.heap.size) := Lib.hid (Array.getElem?_eq_some_iff.1 h.box).1
  have HV := Lib.hid hv
  have HK := Lib.hid (ppossible_v v0 (w.alloc (.cells #[.int .u8 v0, .int .i64 v1, .int .i64 v2] 33)))
  rw [hk] at HK
  clear h hk hv
  have b0 := H.out.c49
  obtain ⟨n, hln⟩ : ∃ n, l.length = n := ⟨_, rfl⟩
  have HN := Lib.hid hln
  rw [hln] at b0 hn ⊢
  clear hln
  have g1 : ((n : Int) == 16) = false := by simp; omega
  go_enter Try.func23, Try.ntmps23
  go_upto_region 1 with (fail)
  have HQ : Hid ((w.alloc (.cells #[.int .u8 v0, .int .i64 v1, .int .i64 v2] 33)).heap[w.heap.size]? = some (.cells #[.int .u8 v0, .int .i64 v1, .int .i64 v2] 33 (0, 0))) := Lib.hid (World.alloc_heap_new _ _)
  have HNE : Hid (w.heap.size ≠ B) := Lib.hid (by have := HBW.out; omega)
  obtain ⟨wa, hwa⟩ : ∃ wa, w.alloc (.cells #[.int .u8 v0, .int .i64 v1, .int .i64 v2] 33) = wa := ⟨_, rfl⟩
  rw [hwa] at HBA HQ H HK b0 ⊢
  clear hwa
  obtain ⟨P0, hP0⟩ : ∃ P0, w.heap.size = P0 := ⟨_, rfl⟩
  rw [hP0] at HQ HNE ⊢
  clear hP0
  have q0 := cell_of_box16 (i := 0) HQ.out rfl
  have q1 := cell_of_box16 (i := 1) HQ.out rfl
  have q2 := cell_of_box16 (i := 2) HQ.out rfl
  have hlB := cell_lt b0
  obtain ⟨⟨x0, x1, x2⟩, hx⟩ : ∃ x, L[n]? = some x := ⟨_, List.getElem?_eq_getElem (by rw [H.out.ll]; exact hn)⟩
  obtain ⟨k0, k1, k2⟩ := pc16_l (s := .pointer none) (S := .slice none 0 0) (n := l.length) (p := 0) (M := M) hx
  have a0 := cell_of_box16 H.out.box k0
  have a1 := cell_of_box16 H.out.box k1
  have a2 := cell_of_box16 H.out.box k2
  have f0 := H.out.fz (1 + n * 3)
  have f1 := H.out.fz (1 + n * 3 + 1)
  have f2 := H.out.fz (1 + n * 3 + 2)
  clear hx k0 k1 k2
  go_wp2_with fail
  refine HK.out.mono ?_
  rintro e w1 ⟨rfl, rfl⟩
  go_upto_region 3 with (fail)
  have hws := HBA.out.size
  have HB2 : Hid ((pst16 w1 B n (v0, v1, v2)).drew.heap[B]? = some (.cells (pc16 (.pointer none) (L.set n (v0, v1, v2)) n (.slice none 0 0) 0 M) 47 (0, 0))) := Lib.hid (by
    have := pst16_heap (v0, v1, v2) H.out.box (k := n) (by rw [H.out.ll]; exact hn)
    rw [HN.out] at this
    exact this)
  have HF2 : Hid (Fr11 (fun j => j = B) w1 (pst16 w1 B n (v0, v1, v2)).drew) := Lib.hid ((pst16_fr w1 B n _).drewN 1)
  go_region
  go_upto_region 4 with (fail)
  change Code.wp _ _ _ _ (pst16 w1 B n (v0, v1, v2)).drew
  clear b0 q0 q1 q2 a0 a1 a2 f0 f1 f2
  generalize (pst16 w1 B n (v0, v1, v2)).drew = w2 at HB2 HF2 ⊢
  have hl2 : (L.set n (v0, v1, v2)).length = 16 := by rw [List.length_set]; exact H.out.ll
  have HL2 := Lib.hid hl2
  have b0 := cell_of_box16 HB2.out (pc16_e (j := 0) hl2)
  have z0 : w2.frozen? ⟨B, 49, none⟩ = false := frozen_of_row w2 B 49 _ _ HB2.out
  have hlB2 : B < w2.heap.size := (Array.getElem?_eq_some_iff.1 HB2.out).1
  have hwn : IntKind.i64.wrap ((n : Int) + 1) = (n : Int) + 1 := by rw [IntKind.wrap_i64]; omega
  simp only [Nat.add_zero, List.getElem?_cons_zero] at b0
  clear hl2
  go_wp2_with fail
  go_ret
  have hs : Fr11 (fun j => j = B) w2 (w2.setCell ⟨B, 49, none⟩ (.int .i64 ((n : Int) + 1))) := (Fr11.refl (fun j => j = B) w2).set (p := ⟨B, 49, none⟩) (.inr rfl) _
  refine ⟨rfl, ⟨?_, HL2.out, by rw [List.length_append, HN.out]; show n + 1 ≤ 16; omega, ?_, ownm_fr16 (ownm_fr16 H.out.mp HF2.out (fun e => H.out.BM e.symm)) hs (fun e => H.out.BM e.symm), ?_⟩, ?_⟩
  · rw [heap_setCell_same w2 B 49 _ _ _ HB2.out, pc16_set (j := 0) HL2.out, List.length_append, HN.out]
    rfl
  · have e : (l ++ [(v0, v1, v2)]).length = n + 1 := by rw [List.length_append, HN.out]; rfl
    rw [e]
    exact take_set16 (by rw [H.out.ll]; exact hn) (by rw [← HN.out]; exact H.out.pre)
  · intro y hy
    rcases List.mem_append.1 hy with hy | hy
    · exact H.out.ok y hy
    · rw [List.mem_singleton.1 hy]; exact HV.out
  · exact ((nb16 HBA.out).mono (fun _ => False.elim)).trans (HF2.out.trans hs (fun _ _ h => h)) (fun _ _ h => h)
/-- What New answers. -/
def Nwp16 (w w' : World) (a b : List Int) (v : List Vlu) (e : Ending) : Prop := Below w.heap.size w w' ∧
  ((nB16 a b v = false ∧ e = .returned (.tuple #[.pointer none, .int .i64 2])) ∨ (nB16 a b v = true ∧ ∃ B X, e = .returned (.tuple #[.pointer (some ⟨B, 0, none⟩), .int .i64 0]) ∧ Pf16 X w' B (nF16 b v) ∧ ∀ j, X j → w.heap.size ≤ j))
set_option maxHeartbeats 16000000 in
theorem pnew_v (A1 A2 A3 : Option Addr) (c1 c2 c3 n1 n2 n3 : Nat) (a b : List Int) (v : List Vlu) (w : World) (ha : Rd w A1 c1 a) (hb : Rd w A2 c2 b) (hv : Rv w A3 c3 v) (h1 : a.length = n1) (h2 : b.length = n2) (h3 : v.length = n3) (m1 : n1 ≤ 1000) (m2 : n2 ≤ 1000) (m3 : n3 ≤ 1000) :
    Calls Try.prog 7 #[.slice A1 n1 c1, .slice A2 n2 c2, .slice A3 n3 c3] w fun e w' => Nwp16 w w' a b v e := by
  have HA := Lib.hid ha
  have HB := Lib.hid hb
  have HVV := Lib.hid hv
  have H1 := Lib.hid h1
  have H2 := Lib.hid h2
  have H3 := Lib.hid h3
  clear ha hb hv h1 h2 h3
  by_cases g1 : n1 = n3
  · subst g1
    have hmm := @run_makeMap Try.prog
    go_enter Try.func7, Try.ntmps7
    go_wp2_with fail
    obtain ⟨M, hM⟩ : ∃ M, w.heap.size = M := ⟨_, rfl⟩
    have HBW0 : Hid (Below w.heap.size w ((w.alloc (.map #[] 0)).alloc (.cells (pc16 (.pointer none) (List.replicate 16 z16) (([] : List Vlu).length : Int) (.slice none 0 0) 0 w.heap.size) 47))) := Lib.hid (((Below.refl _ _).alloc (Nat.le_refl _) _).alloc (by rw [size1]; omega) _)
    have HI0 : Hid (Qn16 ((w.alloc (.map #[] 0)).alloc (.cells (pc16 (.pointer none) (List.replicate 16 z16) (([] : List Vlu).length : Int) (.slice none 0 0) 0 w.heap.size) 47)) (w.heap.size + 1) w.heap.size (v.take 0) (List.replicate 16 z16)) := Lib.hid (by
      have hb := World.alloc_heap_new (w.alloc (.map #[] 0)) (.cells (pc16 (.pointer none) (List.replicate 16 z16) (([] : List Vlu).length : Int) (.slice none 0 0) 0 w.heap.size) 47)
      rw [size1] at hb
      exact ⟨hb, by simp, by simp, rfl, (World.ownsMap_made (H := Unit) w Try.prog 3 (plainElem Try.prog 3)).alloc _, fun x hx => by cases hx⟩)
    change Code.wp _ _ _ _ ((w.alloc (.map #[] 0)).alloc (.cells (pc16 (.pointer none) (List.replicate 16 z16) (([] : List Vlu).length : Int) (.slice none 0 0) 0 w.heap.size) 47))
    generalize ((w.alloc (.map #[] 0)).alloc (.cells (pc16 (.pointer none) (List.replicate 16 z16) (([] : List Vlu).length : Int) (.slice none 0 0) 0 w.heap.size) 47)) = w1 at HI0 HBW0 ⊢
    have HMM := Lib.hid hM
    rw [hM] at HI0 ⊢
    obtain ⟨B, hB⟩ : ∃ B, M + 1 = B := ⟨_, rfl⟩
    have HBM := Lib.hid hB
    rw [hB] at HI0 ⊢
    clear hM hB hmm
    go_loopw [23] (fun iv wr => ∃ (i : Nat) (L : List Vlu), i ≤ n1 ∧ i ≤ 16 ∧ iv = .int .i64 i ∧ Hid (Qn16 wr B M (v.take i) L) ∧ Hid (Below w.heap.size w wr) ∧ Hid ((a.take i).all kd16 = true ∧ (v.take i).map (·.1) = a.take i)) (fun iv _ => n1 - (intOf iv).toNat)
    case atStart => exact ⟨0, _, by omega, by omega, rfl, HI0, HBW0, Lib.hid ⟨rfl, rfl⟩⟩
    case round =>
      clear HI0 HBW0
      obtain ⟨i, L, hi, hi16, rfl, HQ, HBW, HOK⟩ := hrel
      rename World => wr
      by_cases h1 : i < n1
      · have hia : i < a.length := by rw [H1.out]; exact h1
        have hiv : i < v.length := by rw [H3.out]; exact h1
        obtain ⟨ad, hA1, a0w⟩ := HA.out.at_ hia
        subst hA1
        obtain ⟨ad3, hA3, q0w, q1w, q2w⟩ := HVV.out.at_ hiv
        subst hA3
        obtain ⟨y, hy⟩ : ∃ y, a[i]? = some y := ⟨_, List.getElem?_eq_getElem hia⟩
        rw [hy, Option.getD_some] at a0w
        obtain ⟨⟨v0, v1, v2⟩, hvi⟩ : ∃ z, v[i] = z := ⟨_, rfl⟩
        rw [hvi] at q0w q1w q2w
        dsimp only at q0w q1w q2w
        have HV : Hid (VlOk (v0, v1, v2)) := Lib.hid (by rw [← hvi]; exact HVV.out.1 _ (List.getElem_mem hiv))
        have HVT : Hid (v.take (i + 1) = v.take i ++ [(v0, v1, v2)]) := Lib.hid (by rw [List.take_add_one, List.getElem?_eq_getElem hiv, hvi]; rfl)
        have HAT : Hid (a.take (i + 1) = a.take i ++ [y]) := Lib.hid (by rw [List.take_add_one, hy]; rfl)
        have HYM : Hid (y ∈ a) := Lib.hid (List.mem_of_getElem? hy)
        have HVA : Hid ((v.map (·.1))[i]? = some v0) := Lib.hid (by rw [List.getElem?_map, List.getElem?_eq_getElem hiv, hvi]; rfl)
        have HYI := Lib.hid hy
        have HLI : Hid ((v.take i).length = i) := Lib.hid (by rw [List.length_take]; omega)
        have K := fun {p : Addr} {u : Value} (h : w.cell? p = some u) => (HBW.out.cell (cell_lt h)).trans h
        have a0 := K a0w
        have q0 := K q0w
        have q1 := K q1w
        have q2 := K q2w
        clear hy hvi K hia hiv a0w q0w q1w q2w
        by_cases he : v0 = y
        · subst he
          by_cases hno : i = 16 ∨ kd16 v0 = false
          · have HN : Hid (nB16 a b v = false) := Lib.hid (nB16_no fun h => by
              rcases hno with hno | hno
              · have := h.2.1; rw [H1.out] at this; omega
              · have := List.all_eq_true.1 h.2.2.1 v0 HYM.out; rw [hno] at this; cases this)
            have HC := Lib.hid (padd_no B M (v.take i) L v0 v1 v2 wr HQ.out (by rw [HLI.out]; exact hno))
            clear hno
            go_wp2_with fail
            refine HC.out.mono ?_
            rintro e w5 ⟨rfl, hb5⟩
            have HB5 := Lib.hid (HBW.out.trans (hb5.mono HBW.out.size))
            clear hb5
            go_wp2_with fail
            go_ret2
            exact ⟨HB5.out, .inl ⟨HN.out, rfl⟩⟩
          · have hi9 : i < 16 := by omega
            have HKY : Hid (kd16 v0 = true) := Lib.hid (by cases h : kd16 v0 with | true => rfl | false => exact absurd (.inr h) hno)
            have HC := Lib.hid (padd_yes B M (v.take i) L v0 v1 v2 wr HQ.out HV.out (by rw [HLI.out]; exact hi9) HKY.out)
            rw [← HVT.out] at HC
            clear hno
            go_wp2_with fail
            refine HC.out.mono ?_
            rintro e w5 ⟨rfl, hq5, hf5⟩
            have HQ5 := Lib.hid hq5
            have HB5 := Lib.hid (HBW.out.trans (hf5.below fun j hj => ⟨Nat.lt_of_lt_of_le hj HBW.out.size, fun hx => by have := HBM.out; have := HMM.out; omega⟩))
            have HOK2 : Hid ((a.take (i + 1)).all kd16 = true ∧ (v.take (i + 1)).map (·.1) = a.take (i + 1)) := Lib.hid (by
              rw [HAT.out, HVT.out, List.all_append, List.map_append, HOK.out.1, HOK.out.2]
              exact ⟨by simp [HKY.out], rfl⟩)
            clear hq5 hf5 HC a0 q0 q1 q2 HQ HBW
            go_wp2_with fail
            go_roundw
            case rel => exact ⟨i + 1, _, by omega, by omega, by go_num, HQ5, HB5, HOK2⟩
            case measure => simp [intOf]; omega
        · have hne : (v0 != y) = true := by simpa using he
          have HN : Hid (nB16 a b v = false) := Lib.hid (nB16_no fun h => by
            have h5 := h.2.2.2.1
            have h6 := HVA.out
            rw [h5, HYI.out] at h6
            injection h6 with h6
            exact he h6.symm)
          clear he
          go_wp2_with fail
          go_ret2
          exact ⟨HBW.out, .inl ⟨HN.out, rfl⟩⟩
      · obtain rfl : i = n1 := by omega
        have HVF : Hid (v.take i = v) := Lib.hid (List.take_of_length_le (by rw [H3.out]; exact Nat.le_refl _))
        have HAF : Hid (a.all kd16 = true ∧ v.map (·.1) = a) := Lib.hid (by
          have h := HOK.out
          rw [HVF.out, List.take_of_length_le (by rw [H1.out]; exact Nat.le_refl _)] at h
          exact h)
        rw [HVF.out] at HQ
        clear HOK
        have HQ0 : Hid (Qn16 wr B M (v ++ (b.take 0).map fun k => ((k, 0, 0) : Vlu)) L) := Lib.hid (by rw [List.take_zero, List.map_nil, List.append_nil]; exact HQ.out)
        have HBW0 := HBW
        clear HQ HBW
        go_wp2_with fail
        go_loopw [47] (fun iv wr => ∃ (j : Nat) (L : List Vlu), j ≤ n2 ∧ i + j ≤ 16 ∧ iv = .int .i64 j ∧ Hid (Qn16 wr B M (v ++ (b.take j).map fun k => ((k, 0, 0) : Vlu)) L) ∧ Hid (Below w.heap.size w wr) ∧ Hid ((b.take j).all kd16 = true)) (fun iv _ => n2 - (intOf iv).toNat)
        case atStart => exact ⟨0, L, by omega, by omega, rfl, HQ0, HBW0, Lib.hid rfl⟩
        case round =>
          clear HQ0 HBW0
          obtain ⟨j, L2, hj, hj16, rfl, HQ, HBW, HOK⟩ := hrel
          rename World => wr
          by_cases h1 : j < n2
          · have hib : j < b.length := by rw [H2.out]; exact h1
            obtain ⟨ad, hA2, a0w⟩ := HB.out.at_ hib
            subst hA2
            obtain ⟨v0, hy⟩ : ∃ y, b[j]? = some y := ⟨_, List.getElem?_eq_getElem hib⟩
            rw [hy, Option.getD_some] at a0w
            have hby := HB.out.byte j
            rw [hy, Option.getD_some] at hby
            have HV : Hid (VlOk (v0, 0, 0)) := Lib.hid (by unfold VlOk; dsimp only; omega)
            have HBT : Hid (b.take (j + 1) = b.take j ++ [v0]) := Lib.hid (by rw [List.take_add_one, hy]; rfl)
            have HYM : Hid (v0 ∈ b) := Lib.hid (List.mem_of_getElem? hy)
            have HLI : Hid ((v ++ (b.take j).map fun k => ((k, 0, 0) : Vlu)).length = i + j) := Lib.hid (by rw [List.length_append, List.length_map, H3.out, List.length_take, H2.out]; omega)
            have a0 := (HBW.out.cell (cell_lt a0w)).trans a0w
            clear hy hib hby a0w
            by_cases hno : i + j = 16 ∨ kd16 v0 = false
            · have HN : Hid (nB16 a b v = false) := Lib.hid (nB16_no fun h => by
                rcases hno with hno | hno
                · have := h.2.1; rw [H1.out, H2.out] at this; omega
                · have := List.all_eq_true.1 h.2.2.2.2 v0 HYM.out; rw [hno] at this; cases this)
              have HC := Lib.hid (padd_no B M _ L2 v0 0 0 wr HQ.out (by rw [HLI.out]; exact hno))
              clear hno
              go_wp2_with fail
              refine HC.out.mono ?_
              rintro e w5 ⟨rfl, hb5⟩
              have HB5 := Lib.hid (HBW.out.trans (hb5.mono HBW.out.size))
              clear hb5
              go_wp2_with fail
              go_ret2
              exact ⟨HB5.out, .inl ⟨HN.out, rfl⟩⟩
            · have hi9 : i + j < 16 := by omega
              have HKY : Hid (kd16 v0 = true) := Lib.hid (by cases h : kd16 v0 with | true => rfl | false => exact absurd (.inr h) hno)
              have HEQ : Hid ((v ++ (b.take j).map fun k => ((k, 0, 0) : Vlu)) ++ [(v0, 0, 0)] = v ++ (b.take (j + 1)).map fun k => ((k, 0, 0) : Vlu)) := Lib.hid (by rw [HBT.out, List.map_append, List.append_assoc]; rfl)
              have HC := Lib.hid (padd_yes B M _ L2 v0 0 0 wr HQ.out HV.out (by rw [HLI.out]; exact hi9) HKY.out)
              rw [HEQ.out] at HC
              clear hno
              go_wp2_with fail
              refine HC.out.mono ?_
              rintro e w5 ⟨rfl, hq5, hf5⟩
              have HQ5 := Lib.hid hq5
              have HB5 := Lib.hid (HBW.out.trans (hf5.below fun j hj => ⟨Nat.lt_of_lt_of_le hj HBW.out.size, fun hx => by have := HBM.out; have := HMM.out; omega⟩))
              have HOK2 : Hid ((b.take (j + 1)).all kd16 = true) := Lib.hid (by
                rw [HBT.out, List.all_append, HOK.out]
                simp [HKY.out])
              clear hq5 hf5 HC a0 HQ HBW
              go_wp2_with fail
              go_roundw
              case rel => exact ⟨j + 1, _, by omega, by omega, by go_num, HQ5, HB5, HOK2⟩
              case measure => simp [intOf]; omega
          · obtain rfl : j = n2 := by omega
            have HBF : Hid (b.take j = b) := Lib.hid (List.take_of_length_le (by rw [H2.out]; exact Nat.le_refl _))
            rw [HBF.out] at HQ HOK
            have HN : Hid (nB16 a b v = true) := Lib.hid (by
              rw [nB16, HAF.out.1, HOK.out, decide_eq_true HAF.out.2, decide_eq_true (by rw [H1.out, H3.out]), decide_eq_true (by rw [H1.out, H2.out]; omega)]
              rfl)
            have b0 := cell_of_box16 HQ.out.box pc16_s
            have z0 := HQ.out.fz 0
            have hlB := cell_lt b0
            go_wp2_with fail
            go_ret2
            have hs : Fr11 (fun j => j = B) wr (wr.setCell ⟨B, 0, none⟩ (.pointer (some ⟨B, 0, none⟩))) := (Fr11.refl (fun j => j = B) wr).set (p := ⟨B, 0, none⟩) (.inr rfl) _
            refine ⟨HBW.out.trans (hs.below fun j hj => ⟨Nat.lt_of_lt_of_le hj HBW.out.size, fun hx => by have := HBM.out; have := HMM.out; omega⟩), .inr ⟨HN.out, B, fun j => j = B ∨ j = M, rfl, ⟨none, 0, M, L2, .map [], ⟨?_, HQ.out.ll, HQ.out.le, HQ.out.pre, World.ownsRow_nil _ _ _ _, ownm_fr16 HQ.out.mp hs (fun e => HQ.out.BM e.symm), fun y _ _ => rfl, fun x hx => HQ.out.ok x (by simpa [nF16] using hx), ?_, fun y => ⟨Int.le_refl _, by show (0 : Int) ≤ _; omega⟩⟩, .inl rfl, .inr rfl, fun a h => (by cases h), ?_⟩, ?_⟩⟩
            · rw [heap_setCell_same wr B 0 _ _ _ HQ.out.box]
              rfl
            · have := HQ.out.le
              unfold n16 nF16
              simp only [List.length_nil]
              omega
            · intro j hj
              have h5 : B < (wr.setCell ⟨B, 0, none⟩ (.pointer (some ⟨B, 0, none⟩))).heap.size := by simpa using hlB
              have := HBM.out
              rcases hj with hj | hj <;> omega
            · intro j hj
              have := HBM.out
              have := HMM.out
              rcases hj with hj | hj <;> omega
  · have HN : Hid (nB16 a b v = false) := Lib.hid (nB16_no fun h => by have := h.1; rw [H1.out, H3.out] at this; omega)
    have g2 : ((n3 : Int) != n1) = true := by simp; omega
    go_enter Try.func7, Try.ntmps7
    go_wp2_with fail
    go_ret2
    exact ⟨Below.refl _ _, .inl ⟨HN.out, rfl⟩⟩
end Go.Proofs.Ytkifapnmojfjoaa
