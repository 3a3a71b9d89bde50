/-
  The bytes of a pool, by definition; what the reference's Bytes answers.
-/
import Derived.Test.YtohbndjfnakelaaDoorPm
import Derived.Test.YtohbndjfnakelaaDoorLd
namespace Go.Proofs.YtohbndjfnakelaaDoor
open Go.RowKit
set_option maxRecDepth 100000
set_option linter.unusedSimpArgs false
set_option linter.unusedVariables false

/-- A value's bytes; a pool's; the error of what is none; a pool's bytes or none. -/
def vB (x : Vlu) : List Int := valB x.1 x.2.1 x.2.2
def poB (L : List Vlu) : List Int := (L.length : Int) :: L.flatMap vB
def poE (L : List Vlu) : Int := if poM L = true then 0 else 60
def poL (L : List Vlu) : List Int := if poM L = true then poB L else []
theorem vB_len (x : Vlu) : (vB x).length ≤ 9 := by
  rw [vB, valB]
  split <;> simp [length_digs]
theorem vB_byt (x : Vlu) : Byt (vB x) := byt_valB _ _ _
theorem vBs_len : ∀ L : List Vlu, (L.flatMap vB).length ≤ 9 * L.length
  | [] => by simp
  | x :: L => by
    have h1 := vB_len x
    have h2 := vBs_len L
    rw [List.flatMap_cons, List.length_append, List.length_cons]
    omega
theorem vBs_byt (L : List Vlu) : Byt (L.flatMap vB) := by
  intro y hy
  obtain ⟨x, _, hy⟩ := List.mem_flatMap.1 hy
  exact vB_byt x y hy
theorem poB_byt {L : List Vlu} (h : L.length ≤ 32) : Byt (poB L) := by
  intro y hy
  rcases List.mem_cons.1 hy with rfl | hy
  · omega
  · exact vBs_byt L y hy
theorem poM_le {L : List Vlu} (h : poM L = true) : L.length ≤ 32 := by simp only [poM, Bool.and_eq_true, decide_eq_true_eq] at h; exact h.1
theorem poM_at {L : List Vlu} (h : poM L = true) : ∀ x ∈ L, vM x = true := by simp only [poM, Bool.and_eq_true] at h; exact List.all_eq_true.1 h.2
theorem poL_byt (L : List Vlu) : Byt (poL L) := by
  unfold poL
  split
  · rename_i h
    exact poB_byt (poM_le h)
  · exact fun y hy => (by cases hy)
theorem poL_len (L : List Vlu) : (poL L).length ≤ 289 := by
  unfold poL
  split
  · rename_i h
    have h1 := poM_le h
    have h2 := vBs_len L
    rw [poB, List.length_cons]
    omega
  · simp
theorem bytE_of {x : Vlu} (h : vM x = true) : bytE x.1 x.2.1 x.2.2 = 0 := if_pos h
theorem bytL_of {x : Vlu} (h : vM x = true) : bytL x.1 x.2.1 x.2.2 = vB x := if_pos h
theorem r6bytes_v (A : Option Addr) (c m : Nat) (L : List Vlu) (w : World) (hr : Rv w A c L) (hm : L.length = m) : Calls Tryd.prog 8 #[.slice A m c] w fun e w' => ∃ A' c', e = .returned (.tuple #[.slice A' (poL L).length c', .int .i64 (poE L)]) ∧ w'.ownsRow w.heap.size 5 1 (.slice A' (poL L).length c') (poL L).length (cel (poL L)) ∧ Below w.heap.size w w' := by
  subst hm
  obtain ⟨i0, hi, hz0, hz1, hz2⟩ := info_parts Tryd.info5
  cases hc : poM L with
  | false =>
    have HC := Lib.hid hc
    rw [poL, if_neg (by rw [hc]; decide), poE, if_neg (by rw [hc]; decide)]
    clear hc
    go_enter Tryd.func8, Tryd.ntmps8
    go_wp2_with fail
    refine (r6may_any A c _ L _ hr rfl).mono ?_
    rintro e w1 ⟨rfl, hb1⟩
    rw [HC.out]
    go_wp2_with fail
    go_ret2
    exact ⟨none, 0, rfl, World.ownsRow_nil _ _ _ _, hb1⟩
  | true =>
    have HC := Lib.hid hc
    rw [poL, if_pos hc, poE, if_pos hc]
    have hl2 := poM_le hc
    have HALL := Lib.hid (poM_at hc)
    have HOK := Lib.hid hr.1
    have S0 := Lib.hid ((Sx.start w).add (fW A c L) hr)
    have HR0 := Lib.hid hr
    clear hc hr
    go_enter Tryd.func8, Tryd.ntmps8
    go_wp2_with fail
    refine (r6may_any A c _ L _ S0.out.2.1 rfl).mono ?_
    rintro e w1 ⟨rfl, hb1⟩
    rw [HC.out]
    have S1 := Lib.hid (S0.out.call hb1)
    clear hb1 S0
    go_wp2_with fail
    have HO1 := Lib.hid (show (w1.alloc (.cells #[.int .u8 L.length] 5)).ownsRow w.heap.size 5 1 (.slice (some ⟨w1.heap.size, 0, none⟩) 1 1) 1 (cel [(L.length : Int)]) from
      own_base (World.ownsRow_lit (base := w1.heap.size) (e := 5) (size := 1) w1 #[.int .u8 L.length] 1 (Nat.le_refl _) (by unfold maxLen; simp) (by simp)) S1.out.1.size)
    have S2 := Lib.hid (S1.out.mk1 (.cells #[.int .u8 L.length] 5))
    have hmod : (L.length : Int) % 256 = L.length := by omega
    try rw [hmod]
    go_loopw [4, 5] (fun o i wr => ∃ (j : Nat) (A' : Option Addr) (c' : Nat) (X : List Int) (N : Nat), j ≤ L.length ∧ i = .int .i64 j ∧ o = .slice A' N c' ∧ N ≤ 1 + 9 * j ∧ Hid (X = (L.length : Int) :: (L.take j).flatMap vB ∧ X.length = N ∧ wr.ownsRow w.heap.size 5 1 (.slice A' N c') N (cel X)) ∧ Hid (Sx w wr [fW A c L]))
      (fun _ i _ => L.length - (intOf i).toNat)
    case atStart => exact ⟨0, _, _, [(L.length : Int)], 1, by omega, rfl, rfl, by omega, Lib.hid ⟨by simp, rfl, HO1.out⟩, S2⟩
    case round =>
      obtain ⟨j, A', c', X, N, hj, rfl, rfl, hN, HX, S3⟩ := hrel
      clear HO1 S1 S2
      by_cases h1 : j < L.length
      · obtain ⟨ad, rfl, x0, x1, x2⟩ := S3.out.2.1.at_ h1
        have HV := Lib.hid (HALL.out _ (List.getElem_mem h1))
        have HQ := Lib.hid (HOK.out _ (List.getElem_mem h1))
        have HL : Hid (L.take (j + 1) = L.take j ++ [L[j]]) := by rw [Hid, List.take_add_one, List.getElem?_eq_getElem h1]; rfl
        generalize L[j] = x at *
        have hbl := vB_len x
        go_wp2_with fail
        refine (r3bytes_v x.1 x.2.1 x.2.2 0 (vB x) _ _ HQ.out.2.1 ⟨bytE_of HV.out, bytL_of HV.out, rfl⟩).mono ?_
        rintro e w3 ⟨A3, c3, rfl, ho3, hb3⟩
        have HR1 := Lib.hid (own_rd ho3 (vB_byt x))
        have HO3 := Lib.hid (own_below HX.out.2.2 hb3 (Nat.le_refl _))
        have S4 := Lib.hid (S3.out.call hb3)
        have HX1 := Lib.hid HX.out.1
        have HX2 := Lib.hid HX.out.2.1
        clear HX ho3 hb3 x0 x1 x2 S3
        go_wp2_with (at_builtin; refine wpList_append_rd _ rfl _ _ 26 rfl w.heap.size 5 i0 Tryd.underlying26 hi hz0 hz1 hz2 _ N X rfl HO3.out _ _ _ (vB x) rfl HR1.out rfl (by omega) S4.out.1.size ?_)
        intro A2 c2 w4 ho4 hg4 hb4 _
        have HO4 := Lib.hid ho4
        have S5 := Lib.hid (show Sx w w4 [fW (some ad) c L] from ⟨S4.out.1.trans hb4, HR0.out.keep (S4.out.1.trans hb4), trivial⟩)
        clear ho4 hg4 hb4 HO3 HR1 S4
        go_wp2_with fail
        go_roundw
        case rel => exact ⟨j + 1, A2, c2, _, N + (vB x).length, by omega, by go_num, rfl, by omega, Lib.hid ⟨by rw [HX1.out, HL.out, List.flatMap_append, List.flatMap_cons, List.flatMap_nil, List.append_nil, List.cons_append], by rw [List.length_append, HX2.out], HO4.out⟩, S5⟩
        case measure => simp [intOf]; omega
      · obtain rfl : j = L.length := by omega
        have hx := HX.out
        rw [List.take_length, ← poB] at hx
        obtain ⟨rfl, rfl, ho⟩ := hx
        have HO := Lib.hid ho
        clear ho HX
        go_wp2_with fail
        go_ret2
        exact ⟨A', c', rfl, HO.out, S3.out.1⟩
end Go.Proofs.YtohbndjfnakelaaDoor
