/-
  Pm, Pb, Pr, Pd, Pmt, Pk: in one text.
-/
import Derived.Test.YteimpkjpoijhmaaDoorPv
import Derived.Test.YteimpkjpoijhmaaDoorLe
import Derived.Test.YteimpkjpoijhmaaDoorLd
namespace Go.Proofs.YteimpkjpoijhmaaDoor
open Go.RowKit
set_option maxRecDepth 100000
set_option linter.unusedSimpArgs false
set_option linter.unusedVariables false

/-- Whether a value may be outside; whether values are a pool; where a value is first (how many values there are, if nowhere). -/
def vM (x : Vlu) : Bool := mayB x.1 x.2.1 x.2.2
def poM (L : List Vlu) : Bool := decide (L.length ≤ 32) && L.all vM
def fdK : List Vlu → Vlu → Nat
  | [], _ => 0
  | y :: L, x => if y = x then 0 else fdK L x + 1
def fdI (L : List Vlu) (x : Vlu) : Int := if fdK L x < L.length then fdK L x else -1
theorem fdK_le : ∀ (L : List Vlu) (x : Vlu), fdK L x ≤ L.length
  | [], _ => Nat.le_refl _
  | y :: L, x => by
    have := fdK_le L x
    rw [fdK, List.length_cons]
    split <;> omega
theorem fdK_at : ∀ {L : List Vlu} {x : Vlu} {j : Nat}, j ≤ fdK L x → (h : j < L.length) → (L[j] = x ↔ j = fdK L x)
  | [], _, _, _, h => by simp at h
  | y :: L, x, 0, hj, _ => by
    rw [fdK]
    by_cases e : y = x
    · simp [e]
    · simp [e]
  | y :: L, x, j + 1, hj, h => by
    by_cases e : y = x
    · rw [fdK, if_pos e] at hj; omega
    · rw [fdK, if_neg e] at hj ⊢
      have := fdK_at (L := L) (x := x) (j := j) (by omega) (by simpa using h)
      simp only [List.getElem_cons_succ]
      rw [this]
      omega
theorem fdI_hit {L : List Vlu} {x : Vlu} {j : Nat} (hj : j ≤ fdK L x) (h : j < L.length) (e : L[j] = x) : fdI L x = j := by
  have := (fdK_at hj h).1 e
  rw [fdI, if_pos (by omega), this]
theorem fdI_miss {L : List Vlu} {x : Vlu} (h : L.length ≤ fdK L x) : fdI L x = -1 := by rw [fdI, if_neg (by omega)]
theorem vlu_eq3 (x y : Vlu) (v : Bool) (h : decide (x = y) = v) : (x.1 == y.1 && x.2.1 == y.2.1 && x.2.2 == y.2.2) = v := by rw [vlu_eq, h]

theorem r6may_any (A : Option Addr) (c m : Nat) (L : List Vlu) (w : World) (hr : Rv w A c L) (hm : L.length = m) : Calls Tryd.prog 60 #[.slice A m c] w fun e w' => e = .returned (.bool (poM L)) ∧ Below w.heap.size w w' := by
  subst hm
  have hlen := hr.len
  have HR := Lib.hid hr
  clear hr
  go_enter Tryd.func60, Tryd.ntmps60
  go_wp2_with fail
  go_loopw [3] (fun i wr => ∃ j : Nat, j ≤ L.length ∧ j ≤ 33 ∧ i = .int .i64 j ∧ Hid ((L.take j).all vM = true) ∧ Hid (Below w.heap.size w wr)) (fun i _ => L.length - (intOf i).toNat)
  case atStart => exact ⟨0, by omega, by omega, rfl, rfl, Lib.hid (Below.refl _ _)⟩
  case round =>
    obtain ⟨j, hj, hj2, rfl, HA, HB⟩ := hrel
    by_cases h1 : j < L.length
    · by_cases h2 : j ≤ 32
      · obtain ⟨ad, rfl, hc0, hc1, hc2⟩ := (HR.out.keep HB.out).at_ h1
        go_wp2_with fail
        refine (r3may_v L[j].1 L[j].2.1 L[j].2.2 _ _ rfl).mono ?_
        rintro e w1 ⟨rfl, hb1⟩
        have HB1 := Lib.hid (below_on HB.out hb1)
        clear hb1 hc0 hc1 hc2 HB
        cases hv : mayB L[j].1 L[j].2.1 L[j].2.2 with
        | true =>
          have HN : Hid ((L.take (j + 1)).all vM = true) := by
            rw [Hid, List.take_add_one, List.getElem?_eq_getElem h1]
            simp only [Option.toList_some, List.all_append, HA.out, List.all_cons, List.all_nil, Bool.and_true, Bool.true_and]
            exact hv
          clear HA
          go_wp2_with fail
          go_roundw
          case rel => exact ⟨j + 1, by omega, by omega, by go_num, HN, HB1⟩
          case measure => simp [intOf]; omega
        | false =>
          have HN : Hid (poM L = false) := by
            have : L.all vM = false := List.all_eq_false.2 ⟨L[j], List.getElem_mem h1, by simp [vM, hv]⟩
            rw [Hid, poM, this, Bool.and_false]
          go_wp2_with fail
          go_ret
          exact ⟨by rw [HN.out]; rfl, HB1.out⟩
      · have HN : Hid (poM L = false) := by rw [Hid, poM, decide_eq_false (show ¬ L.length ≤ 32 by omega)]; simp
        go_wp2_with fail
        go_ret
        exact ⟨by rw [HN.out]; simp [go_sem]; omega, HB.out⟩
    · obtain rfl : j = L.length := by omega
      have HN : Hid (poM L = decide (L.length ≤ 32)) := by
        have h2 := HA.out
        rw [List.take_length] at h2
        rw [Hid, poM, h2, Bool.and_true]
      clear HA
      by_cases e2 : L.length ≤ 32
      · go_wp2_with fail
        go_ret
        exact ⟨by rw [HN.out, decide_eq_true e2]; simp [go_sem]; omega, HB.out⟩
      · go_wp2_with fail
        go_ret
        exact ⟨by rw [HN.out, decide_eq_false e2]; simp [go_sem]; omega, HB.out⟩
end Go.Proofs.YteimpkjpoijhmaaDoor
namespace Go.Proofs.YteimpkjpoijhmaaDoor
open Go.RowKit
set_option maxRecDepth 100000
set_option linter.unusedSimpArgs false
set_option linter.unusedVariables false

/-- A value's bytes; a pool's; the error of what is none; a pool's bytes or none. -/
def vB (x : Vlu) : List Int := valB x.1 x.2.1 x.2.2
def poB (L : List Vlu) : List Int := (L.length : Int) :: L.flatMap vB
def poE (L : List Vlu) : Int := if poM L = true then 0 else 60
def poL (L : List Vlu) : List Int := if poM L = true then poB L else []
theorem vB_len (x : Vlu) : (vB x).length ≤ 9 := by
  rw [vB, valB]
  split <;> simp [length_digs]
theorem vB_byt (x : Vlu) : Byt (vB x) := byt_valB _ _ _
theorem vBs_len : ∀ L : List Vlu, (L.flatMap vB).length ≤ 9 * L.length
  | [] => by simp
  | x :: L => by
    have h1 := vB_len x
    have h2 := vBs_len L
    rw [List.flatMap_cons, List.length_append, List.length_cons]
    omega
theorem vBs_byt (L : List Vlu) : Byt (L.flatMap vB) := by
  intro y hy
  obtain ⟨x, _, hy⟩ := List.mem_flatMap.1 hy
  exact vB_byt x y hy
theorem poB_byt {L : List Vlu} (h : L.length ≤ 32) : Byt (poB L) := by
  intro y hy
  rcases List.mem_cons.1 hy with rfl | hy
  · omega
  · exact vBs_byt L y hy
theorem poM_le {L : List Vlu} (h : poM L = true) : L.length ≤ 32 := by simp only [poM, Bool.and_eq_true, decide_eq_true_eq] at h; exact h.1
theorem poM_at {L : List Vlu} (h : poM L = true) : ∀ x ∈ L, vM x = true := by simp only [poM, Bool.and_eq_true] at h; exact List.all_eq_true.1 h.2
theorem poL_byt (L : List Vlu) : Byt (poL L) := by
  unfold poL
  split
  · rename_i h
    exact poB_byt (poM_le h)
  · exact fun y hy => (by cases hy)
theorem poL_len (L : List Vlu) : (poL L).length ≤ 289 := by
  unfold poL
  split
  · rename_i h
    have h1 := poM_le h
    have h2 := vBs_len L
    rw [poB, List.length_cons]
    omega
  · simp
theorem bytE_of {x : Vlu} (h : vM x = true) : bytE x.1 x.2.1 x.2.2 = 0 := if_pos h
theorem bytL_of {x : Vlu} (h : vM x = true) : bytL x.1 x.2.1 x.2.2 = vB x := if_pos h
theorem r6bytes_v (A : Option Addr) (c m : Nat) (L : List Vlu) (w : World) (hr : Rv w A c L) (hm : L.length = m) : Calls Tryd.prog 28 #[.slice A m c] w fun e w' => ∃ A' c', e = .returned (.tuple #[.slice A' (poL L).length c', .int .i64 (poE L)]) ∧ w'.ownsRow w.heap.size 5 1 (.slice A' (poL L).length c') (poL L).length (cel (poL L)) ∧ Below w.heap.size w w' := by
  subst hm
  obtain ⟨i0, hi, hz0, hz1, hz2⟩ := info_parts Tryd.info5
  cases hc : poM L with
  | false =>
    have HC := Lib.hid hc
    rw [poL, if_neg (by rw [hc]; decide), poE, if_neg (by rw [hc]; decide)]
    clear hc
    go_enter Tryd.func28, Tryd.ntmps28
    go_wp2_with fail
    refine (r6may_any A c _ L _ hr rfl).mono ?_
    rintro e w1 ⟨rfl, hb1⟩
    rw [HC.out]
    go_wp2_with fail
    go_ret2
    exact ⟨none, 0, rfl, World.ownsRow_nil _ _ _ _, hb1⟩
  | true =>
    have HC := Lib.hid hc
    rw [poL, if_pos hc, poE, if_pos hc]
    have hl2 := poM_le hc
    have HALL := Lib.hid (poM_at hc)
    have HOK := Lib.hid hr.1
    have S0 := Lib.hid ((Sx.start w).add (fW A c L) hr)
    have HR0 := Lib.hid hr
    clear hc hr
    go_enter Tryd.func28, Tryd.ntmps28
    go_wp2_with fail
    refine (r6may_any A c _ L _ S0.out.2.1 rfl).mono ?_
    rintro e w1 ⟨rfl, hb1⟩
    rw [HC.out]
    have S1 := Lib.hid (S0.out.call hb1)
    clear hb1 S0
    go_wp2_with fail
    have HO1 := Lib.hid (show (w1.alloc (.cells #[.int .u8 L.length] 5)).ownsRow w.heap.size 5 1 (.slice (some ⟨w1.heap.size, 0, none⟩) 1 1) 1 (cel [(L.length : Int)]) from
      own_base (World.ownsRow_lit (base := w1.heap.size) (e := 5) (size := 1) w1 #[.int .u8 L.length] 1 (Nat.le_refl _) (by unfold maxLen; simp) (by simp)) S1.out.1.size)
    have S2 := Lib.hid (S1.out.mk1 (.cells #[.int .u8 L.length] 5))
    have hmod : (L.length : Int) % 256 = L.length := by omega
    try rw [hmod]
    go_loopw [4, 5] (fun o i wr => ∃ (j : Nat) (A' : Option Addr) (c' : Nat) (X : List Int) (N : Nat), j ≤ L.length ∧ i = .int .i64 j ∧ o = .slice A' N c' ∧ N ≤ 1 + 9 * j ∧ Hid (X = (L.length : Int) :: (L.take j).flatMap vB ∧ X.length = N ∧ wr.ownsRow w.heap.size 5 1 (.slice A' N c') N (cel X)) ∧ Hid (Sx w wr [fW A c L]))
      (fun _ i _ => L.length - (intOf i).toNat)
    case atStart => exact ⟨0, _, _, [(L.length : Int)], 1, by omega, rfl, rfl, by omega, Lib.hid ⟨by simp, rfl, HO1.out⟩, S2⟩
    case round =>
      obtain ⟨j, A', c', X, N, hj, rfl, rfl, hN, HX, S3⟩ := hrel
      clear HO1 S1 S2
      by_cases h1 : j < L.length
      · obtain ⟨ad, rfl, x0, x1, x2⟩ := S3.out.2.1.at_ h1
        have HV := Lib.hid (HALL.out _ (List.getElem_mem h1))
        have HQ := Lib.hid (HOK.out _ (List.getElem_mem h1))
        have HL : Hid (L.take (j + 1) = L.take j ++ [L[j]]) := by rw [Hid, List.take_add_one, List.getElem?_eq_getElem h1]; rfl
        generalize L[j] = x at *
        have hbl := vB_len x
        go_wp2_with fail
        refine (r3bytes_v x.1 x.2.1 x.2.2 0 (vB x) _ _ HQ.out.2.1 ⟨bytE_of HV.out, bytL_of HV.out, rfl⟩).mono ?_
        rintro e w3 ⟨A3, c3, rfl, ho3, hb3⟩
        have HR1 := Lib.hid (own_rd ho3 (vB_byt x))
        have HO3 := Lib.hid (own_below HX.out.2.2 hb3 (Nat.le_refl _))
        have S4 := Lib.hid (S3.out.call hb3)
        have HX1 := Lib.hid HX.out.1
        have HX2 := Lib.hid HX.out.2.1
        clear HX ho3 hb3 x0 x1 x2 S3
        go_wp2_with (at_builtin; refine wpList_append_rd _ rfl _ _ 28 rfl w.heap.size 5 i0 Tryd.underlying28 hi hz0 hz1 hz2 _ N X rfl HO3.out _ _ _ (vB x) rfl HR1.out rfl (by omega) S4.out.1.size ?_)
        intro A2 c2 w4 ho4 hg4 hb4 _
        have HO4 := Lib.hid ho4
        have S5 := Lib.hid (show Sx w w4 [fW (some ad) c L] from ⟨S4.out.1.trans hb4, HR0.out.keep (S4.out.1.trans hb4), trivial⟩)
        clear ho4 hg4 hb4 HO3 HR1 S4
        go_wp2_with fail
        go_roundw
        case rel => exact ⟨j + 1, A2, c2, _, N + (vB x).length, by omega, by go_num, rfl, by omega, Lib.hid ⟨by rw [HX1.out, HL.out, List.flatMap_append, List.flatMap_cons, List.flatMap_nil, List.append_nil, List.cons_append], by rw [List.length_append, HX2.out], HO4.out⟩, S5⟩
        case measure => simp [intOf]; omega
      · obtain rfl : j = L.length := by omega
        have hx := HX.out
        rw [List.take_length, ← poB] at hx
        obtain ⟨rfl, rfl, ho⟩ := hx
        have HO := Lib.hid ho
        clear ho HX
        go_wp2_with fail
        go_ret2
        exact ⟨A', c', rfl, HO.out, S3.out.1⟩
end Go.Proofs.YteimpkjpoijhmaaDoor
namespace Go.Proofs.YteimpkjpoijhmaaDoor
open Go.RowKit
set_option maxRecDepth 100000
set_option linter.unusedSimpArgs false
set_option linter.unusedVariables false

/-- Values ahead of what was read behind them; k values at q; a pool at p: the values, the place behind them, the error. -/
def apV (K : List Vlu) (r : List Vlu × Int × Int) : List Vlu × Int × Int := if r.2.2 = 0 then (K ++ r.1, r.2.1, 0) else ([], 0, r.2.2)
def rpS (l : List Int) : Nat → Int → List Vlu × Int × Int
  | 0, q => ([], q, 0)
  | k + 1, q => match rdT l q with
    | (x, a, b, n, e) => if e = 0 then apV [(x, a, b)] (rpS l k n) else ([], 0, e)
def rdP (l : List Int) (p : Int) : List Vlu × Int × Int :=
  if getE l p 1 = 0 then (if 32 < getV l p 1 then ([], 0, 60) else rpS l (getV l p 1).toNat (getN l p 1)) else ([], 0, getE l p 1)
theorem apV_apV (K M : List Vlu) (r : List Vlu × Int × Int) : apV K (apV M r) = apV (K ++ M) r := by
  unfold apV
  by_cases h : r.2.2 = 0
  · simp [h]
  · simp [h]
theorem rpS_form (l : List Int) (k : Nat) (q : Int) : apV [] (rpS l k q) = rpS l k q := by
  cases k with
  | zero => rfl
  | succ k =>
    rw [rpS]
    obtain ⟨x, a, b, n, e⟩ := rdT l q
    simp only
    by_cases h : e = 0
    · rw [if_pos h, apV_apV, List.nil_append]
    · rw [if_neg h]; simp [apV, h]
theorem rpS_yes {l : List Int} {k : Nat} {q x a b n : Int} (h : rdT l q = (x, a, b, n, 0)) : rpS l (k + 1) q = apV [(x, a, b)] (rpS l k n) := by rw [rpS, h]; simp
theorem rpS_no {l : List Int} {k : Nat} {q x a b n e : Int} (h : rdT l q = (x, a, b, n, e)) (he : e ≠ 0) : rpS l (k + 1) q = ([], 0, e) := by rw [rpS, h]; simp [he]
theorem apV_no (K : List Vlu) {e : Int} (he : e ≠ 0) : apV K ([], 0, e) = ([], 0, e) := by simp [apV, he]
theorem wrap64_bd (n : Int) : -9223372036854775808 ≤ wrap64 n ∧ wrap64 n ≤ 9223372036854775807 := by
  unfold wrap64; omega
theorem rdT_vok {l : List Int} (hb : Byt l) {q x a b n e : Int} (h : rdT l q = (x, a, b, n, e)) : VlOk (x, a, b) := by
  have z : VlOk (0, 0, 0) := by unfold VlOk; simp only; omega
  have b1 := x3_bd hb (q.toNat + 1)
  have b2 := x3_bd hb (q.toNat + 4)
  have b4 := wrap64_bd (num ((l.drop (q.toNat + 1)).take 8))
  unfold rdT at h
  repeat' split at h
  all_goals (obtain ⟨rfl, rfl, rfl, rfl, rfl⟩ := by simpa using h)
  all_goals (unfold VlOk; simp only; omega)
set_option maxHeartbeats 2000000 in
theorem r6read_v (A : Option Addr) (c n : Nat) (l : List Int) (p : Int) (w : World) (hr : Rd w A c l) (hn : l.length = n) (hl : l.length ≤ 2000) :
    Calls Tryd.prog 43 #[.slice A n c, .int .i64 p] w fun e w' => ∃ A' c', e = .returned (.tuple #[.slice A' (rdP l p).1.length c', .int .i64 (rdP l p).2.1, .int .i64 (rdP l p).2.2]) ∧
      Rv w' A' c' (rdP l p).1 ∧ Below w.heap.size w w' := by
  subst hn
  have hlen := hr.len
  have HW := Lib.hid hr
  have HG := Lib.hid (rget_any A c l p 1 w hr hl)
  have HGb : Hid (getE l p 1 = 0 → 0 ≤ getV l p 1) := fun h => by rw [getV, if_pos h]; exact num_nonneg (byt_cut hr.byt _ _)
  have HE : Hid (getE l p 1 ≠ 0 → rdP l p = ([], 0, getE l p 1)) := fun h => by rw [rdP, if_neg h]
  have HL : Hid (getE l p 1 = 0 → 32 < getV l p 1 → rdP l p = ([], 0, 60)) := fun h h2 => by rw [rdP, if_pos h, if_pos h2]
  have HS : Hid (getE l p 1 = 0 → ¬ 32 < getV l p 1 → rdP l p = rpS l (getV l p 1).toNat (getN l p 1)) := fun h h2 => by rw [rdP, if_pos h, if_neg h2]
  generalize rdP l p = R at *
  generalize getE l p 1 = e0 at *
  generalize getV l p 1 = many at *
  generalize getN l p 1 = q0 at *
  clear hr
  go_enter Tryd.func43, Tryd.ntmps43
  go_wp2_with fail
  refine HG.out.mono ?_
  rintro e w1 ⟨rfl, rfl⟩
  clear HG
  by_cases he : e0 = 0
  · subst he
    by_cases hm : 32 < many
    · have HN := Lib.hid (HL.out rfl hm)
      clear HE HL HS HGb
      go_wp2_with fail
      go_ret3
      obtain rfl := HN.out
      exact ⟨none, 0, rfl, Rv.none_ _, Below.refl _ _⟩
    · have hm0 := HGb.out rfl
      obtain ⟨M, rfl⟩ : ∃ M : Nat, many = M := ⟨many.toNat, by omega⟩
      have HI : Hid (R = apV [] (rpS l (M - 0) q0)) := by rw [Hid, rpS_form]; exact HS.out rfl (by omega)
      clear HE HL HS HGb
      go_wp2_with fail
      go_loopw [8, 10, 11, 12, 13] (fun i o _ _ _ wr => ∃ (j : Nat) (q : Int) (K : List Vlu) (A' : Option Addr) (c' : Nat), j ≤ M ∧ i = .int .i64 q ∧ o = .slice A' j c' ∧ Hid (R = apV K (rpS l (M - j) q) ∧ K.length = j ∧ (∀ x ∈ K, VlOk x)) ∧ Hid (wr.ownsRow w.heap.size 67 3 (.slice A' j c') j (cev K)) ∧ Hid (Below w.heap.size w wr)) (fun _ o _ _ _ _ => match o with | .slice _ j _ => M - j | _ => 0)
      case atStart => exact ⟨0, q0, [], none, 0, by omega, rfl, rfl, Lib.hid ⟨HI.out, rfl, fun x hx => (by cases hx)⟩, Lib.hid (World.ownsRow_nil _ _ _ _), Lib.hid (Below.refl _ _)⟩
      case round =>
        obtain ⟨j, q, K, A', c', hj, rfl, rfl, HX, HO, HB⟩ := hrel
        clear HI
        by_cases h1 : j < M
        · obtain ⟨x, a, b, n2, e2, hrd⟩ : ∃ x a b n2 e2, rdT l q = (x, a, b, n2, e2) := ⟨_, _, _, _, _, rfl⟩
          have HRD := Lib.hid hrd
          have hok := rdT_vok HW.out.byt hrd
          have HK := fun w hr => Lib.hid (r3read_v A c l q x a b n2 e2 w hr hl hrd)
          clear hrd
          go_wp2_with fail
          refine (HK _ (HW.out.keep HB.out)).out.mono ?_
          rintro e w3 ⟨rfl, hb3⟩
          have HB3 := Lib.hid (below_on HB.out hb3)
          have HO3 := Lib.hid (own_below HO.out hb3 (Nat.le_refl _))
          clear HK hb3 HB HO
          by_cases he2 : e2 = 0
          · subst he2
            have HOK : Hid (∀ u ∈ K ++ [(x, a, b)], VlOk u) := by
              intro u hu
              rcases List.mem_append.1 hu with hu | hu
              · exact HX.out.2.2 u hu
              · rw [List.mem_singleton.1 hu]; exact hok
            have HN : Hid (R = apV (K ++ [(x, a, b)]) (rpS l (M - (j + 1)) n2)) := by
              rw [Hid, HX.out.1, show M - j = (M - (j + 1)) + 1 by omega, rpS_yes HRD.out, apV_apV]
            have HLL : Hid ((K ++ [(x, a, b)]).length = j + 1) := by rw [Hid, List.length_append, HX.out.2.1]; rfl
            have HR5 := Lib.hid (rv_new (w3.alloc (.cells #[.int .u8 x, .int .i64 a, .int .i64 b] 67)) (x, a, b) hok)
            have HO5 := Lib.hid (own_below (own_below HO3.out (new1 (a := .cells #[.int .u8 x, .int .i64 a, .int .i64 b] 67)) (Nat.le_refl _)) (new1 (a := .cells #[.int .u8 x, .int .i64 a, .int .i64 b] 67)) (Nat.le_refl _))
            have HB5 := Lib.hid ((HB3.out.alloc HB3.out.size (.cells #[.int .u8 x, .int .i64 a, .int .i64 b] 67)).alloc (by rw [size1]; have := HB3.out.size; omega) (.cells #[.int .u8 x, .int .i64 a, .int .i64 b] 67))
            rw [size1] at HR5
            go_wp2_with (at_builtin; refine wpList_append_rv _ rfl _ _ rfl w.heap.size _ j K rfl HO5.out _ 1 1 [(x, a, b)] rfl HR5.out rfl (by omega) HB5.out.size ?_)
            intro A7 c7 w7 ho7 hb7
            have HO7 := Lib.hid ho7
            have HB7 := Lib.hid (HB5.out.trans hb7)
            clear ho7 hb7
            go_wp2_with fail
            go_roundw
            case rel => exact ⟨j + 1, n2, _, A7, c7, by omega, rfl, rfl, Lib.hid ⟨HN.out, HLL.out, HOK.out⟩, HO7, HB7⟩
            case measure => simp; omega
          · have HN : Hid (R = ([], 0, e2)) := by
              rw [Hid, HX.out.1, show M - j = (M - (j + 1)) + 1 by omega, rpS_no HRD.out he2, apV_no _ he2]
            clear HX HRD
            go_wp2_with fail
            go_ret3
            obtain rfl := HN.out
            exact ⟨none, 0, rfl, Rv.none_ _, HB3.out.alloc HB3.out.size _⟩
        · obtain rfl : j = M := by omega
          have HN : Hid (R = (K, q, 0)) := by
            rw [Hid, HX.out.1, Nat.sub_self, rpS, apV, if_pos rfl, List.append_nil]
          have HL := Lib.hid HX.out.2.1
          have HRv := Lib.hid (Rv.of_own HO.out HX.out.2.2).1
          clear HX HO
          go_wp2_with fail
          go_ret3
          obtain rfl := HN.out
          exact ⟨A', c', by simp [HL.out], HRv.out, HB.out⟩
  · have HN := Lib.hid (HE.out he)
    clear HE HL HS HGb
    go_wp2_with fail
    go_ret3
    obtain rfl := HN.out
    exact ⟨none, 0, rfl, Rv.none_ _, Below.refl _ _⟩
end Go.Proofs.YteimpkjpoijhmaaDoor
namespace Go.Proofs.YteimpkjpoijhmaaDoor
open Go.RowKit
set_option maxRecDepth 100000
set_option linter.unusedSimpArgs false
set_option linter.unusedVariables false

/-- One more value: the values, where it stands, the error. -/
def adP (L : List Vlu) (x : Vlu) : List Vlu × Int × Int :=
  if poM L = true then (if fdK L x < L.length then (L, (fdK L x : Int), 0) else if poM (L ++ [x]) = true then (L ++ [x], (L.length : Int), 0) else ([], 0, 60)) else ([], 0, 60)
end Go.Proofs.YteimpkjpoijhmaaDoor
namespace Go.Proofs.YteimpkjpoijhmaaDoor
open Go.RowKit
set_option maxRecDepth 100000
set_option linter.unusedVariables false

theorem vB_ne (x : Vlu) : vB x ≠ [] := by
  rw [vB, valB]
  split <;> simp
theorem vlen_drop {l Y Z : List Int} {p : Nat} (h : l.drop p = Z ++ Y) (hz : Z ≠ []) : p < l.length ∧ l.length = p + Z.length + Y.length := by
  have h1 := congrArg List.length h
  rw [List.length_drop, List.length_append] at h1
  have h2 : 0 < Z.length := List.length_pos_iff.2 hz
  omega
theorem rdT_vB {x : Vlu} (h : vM x = true) (h0 : VlOk x) (Y : List Int) : rdT (vB x ++ Y) 0 = (x.1, x.2.1, x.2.2, ((vB x).length : Int), 0) := by
  obtain ⟨k, a, b⟩ := x
  rcases may_cases (k := k) (a := a) (b := b) h with ⟨rfl, rfl⟩ | ⟨rfl, ho⟩
  · show rdT (valB 1 a 0 ++ Y) 0 = (1, a, 0, ((valB 1 a 0).length : Int), 0)
    rw [rdT_1 Y h0.2.1, len_1]; rfl
  · show rdT (valB 2 a b ++ Y) 0 = (2, a, b, ((valB 2 a b).length : Int), 0)
    rw [rdT_2 Y ho, len_2]; rfl
theorem rdT_enc {l Y : List Int} {p : Nat} {x : Vlu} (h : vM x = true) (h0 : VlOk x) (hd : l.drop p = vB x ++ Y) : rdT l p = (x.1, x.2.1, x.2.2, ((p + (vB x).length : Nat) : Int), 0) := by
  obtain ⟨hp, _⟩ := vlen_drop hd (vB_ne x)
  have hl : l = l.take p ++ (vB x ++ Y) := by rw [← hd, List.take_append_drop]
  have ht : (l.take p).length = p := by rw [List.length_take]; omega
  have := rdT_at (l.take p) (vB x) Y (vB_ne x) (rdT_vB h h0 Y) rfl
  rw [← hl, ht] at this
  rw [this]
  simp
theorem rpS_enc {l Y : List Int} {L : List Vlu} (h : ∀ x ∈ L, vM x = true) (h0 : ∀ x ∈ L, VlOk x) : ∀ {p : Nat}, l.drop p = L.flatMap vB ++ Y → rpS l L.length p = (L, ((p + (L.flatMap vB).length : Nat) : Int), 0) := by
  induction L with
  | nil => intro p _; rfl
  | cons x L ih =>
    intro p hd
    rw [List.flatMap_cons, List.append_assoc] at hd
    have h1 := rdT_enc (h x (by simp)) (h0 x (by simp)) hd
    have hd2 : l.drop (p + (vB x).length) = L.flatMap vB ++ Y := by rw [← List.drop_drop, hd, List.drop_left]
    rw [List.length_cons, rpS_yes h1, ih (fun y hy => h y (by simp [hy])) (fun y hy => h0 y (by simp [hy])) hd2, apV, if_pos rfl, List.flatMap_cons, List.length_append, Nat.add_assoc]
    rfl
theorem get_1 {l : List Int} (hb : Byt l) {p : Nat} (h : p < l.length) : getE l p 1 = 0 ∧ getV l p 1 = l[p]?.getD 0 ∧ getN l p 1 = ((p + 1 : Nat) : Int) := by
  obtain ⟨h1, h2, h3⟩ := get1 hb h
  exact ⟨h3, h1, by rw [h2]; omega⟩
/-- What has bytes is read from them, wherever they stand. -/
theorem rdP_enc {L : List Vlu} (h : poM L = true) (h0 : ∀ x ∈ L, VlOk x) (X Y : List Int) (hX : Byt X) (hY : Byt Y) : rdP (X ++ (poB L ++ Y)) X.length = (L, ((X.length + (poB L).length : Nat) : Int), 0) := by
  have hd : (X ++ (poB L ++ Y)).drop X.length = poB L ++ Y := List.drop_left
  have hd1 : (X ++ (poB L ++ Y)).drop (X.length + 1) = L.flatMap vB ++ Y := by rw [← List.drop_drop, hd, poB]; rfl
  have hlt : X.length < (X ++ (poB L ++ Y)).length := by simp [poB]
  have hby : Byt (X ++ (poB L ++ Y)) := byt_append hX (byt_append (poB_byt (poM_le h)) hY)
  obtain ⟨e1, e2, e3⟩ := get_1 hby hlt
  have he : (X ++ (poB L ++ Y))[X.length]?.getD 0 = (L.length : Int) := by
    rw [List.getElem?_append_right (Nat.le_refl _), Nat.sub_self, poB]; rfl
  rw [rdP, if_pos e1, e2, he, if_neg (by have := poM_le h; omega), e3, Int.toNat_natCast, rpS_enc (poM_at h) h0 hd1, poB, List.length_cons]
  congr 2
  omega
theorem rdT_inv {l : List Int} (hb : Byt l) {p : Nat} {k a b n : Int} (h : rdT l p = (k, a, b, n, 0)) : vM (k, a, b) = true ∧ VlOk (k, a, b) ∧ ∃ q : Nat, n = (q : Int) ∧ q = p + (vB (k, a, b)).length ∧ q ≤ l.length ∧ l.drop p = vB (k, a, b) ++ l.drop q := by
  obtain ⟨q, m, hq, hn, hm, hB, hl, hle⟩ := rdT_ok hb h
  obtain rfl : p = q := by omega
  have hv : vM (k, a, b) = true := hm
  have e : bytL k a b = vB (k, a, b) := bytL_of hv
  rw [e] at hB hl
  refine ⟨hv, rdT_vok hb h, p + m, by omega, by omega, hle, ?_⟩
  rw [hB, ← List.drop_drop, List.take_append_drop]
theorem rpS_inv {l : List Int} (hb : Byt l) : ∀ {k p : Nat} {L : List Vlu} {n : Int}, p ≤ l.length → rpS l k p = (L, n, 0) → L.length = k ∧ (∀ x ∈ L, vM x = true) ∧ (∀ x ∈ L, VlOk x) ∧ ∃ q : Nat, n = (q : Int) ∧ q = p + (L.flatMap vB).length ∧ q ≤ l.length ∧ l.drop p = L.flatMap vB ++ l.drop q := by
  intro k
  induction k with
  | zero =>
    intro p L n hp h
    simp only [rpS, Prod.mk.injEq, and_true] at h
    obtain ⟨rfl, rfl⟩ := h
    exact ⟨rfl, fun x hx => (by cases hx), fun x hx => (by cases hx), p, rfl, rfl, hp, rfl⟩
  | succ k ih =>
    intro p L n hp h
    obtain ⟨x, a, b, n1, e, hr⟩ : ∃ x a b n1 e, rdT l p = (x, a, b, n1, e) := ⟨_, _, _, _, _, rfl⟩
    by_cases he : e = 0
    · subst he
      rw [rpS_yes hr] at h
      obtain ⟨m1, m2, q1, rfl, m3, m4, m5⟩ := rdT_inv hb hr
      unfold apV at h
      by_cases h2 : (rpS l k (q1 : Int)).2.2 = 0
      · rw [if_pos h2] at h
        obtain ⟨M, n2, hs⟩ : ∃ M n2, rpS l k (q1 : Int) = (M, n2, 0) := ⟨_, _, by rw [← h2]⟩
        rw [hs] at h
        simp only [Prod.mk.injEq, and_true] at h
        obtain ⟨rfl, rfl⟩ := h
        obtain ⟨n1, n2, n3, q, rfl, n4, n5, n6⟩ := ih m4 hs
        refine ⟨by rw [List.length_append, n1]; simp; omega, ?_, ?_, q, rfl, ?_, n5, ?_⟩
        · intro y hy
          rcases List.mem_append.1 hy with hy | hy
          · rw [List.mem_singleton.1 hy]; exact m1
          · exact n2 y hy
        · intro y hy
          rcases List.mem_append.1 hy with hy | hy
          · rw [List.mem_singleton.1 hy]; exact m2
          · exact n3 y hy
        · rw [n4, m3, List.flatMap_append, List.length_append]; simp; omega
        · rw [m5, n6, List.flatMap_append, List.append_assoc]; simp
      · rw [if_neg h2] at h
        exact absurd (congrArg (fun r => r.2.2) h) h2
    · rw [rpS_no hr he] at h
      exact absurd (congrArg (fun r => r.2.2) h) he
theorem poM_mk {L : List Vlu} (h2 : L.length ≤ 32) (h3 : ∀ x ∈ L, vM x = true) : poM L = true := by
  rw [poM, decide_eq_true h2, List.all_eq_true.2 h3]; rfl
theorem getE_1 {l : List Int} {p : Int} (h : getE l p 1 = 0) : 0 ≤ p ∧ p.toNat < l.length := by
  by_cases h1 : p < 0 ∨ (l.length : Int) < p + 1
  · exfalso
    have hc : cutE l p 1 ≠ 0 := by unfold cutE; repeat' split
                                   all_goals omega
    rw [getE, if_neg (by omega), if_neg hc] at h
    exact hc h
  · omega
/-- What is read has just those bytes. -/
theorem rdP_inv {l : List Int} (hb : Byt l) {p : Int} {L : List Vlu} {n : Int} (h : rdP l p = (L, n, 0)) : poM L = true ∧ (∀ x ∈ L, VlOk x) ∧ ∃ i q : Nat, p = (i : Int) ∧ n = (q : Int) ∧ q ≤ l.length ∧ q = i + (poB L).length ∧ l.drop i = poB L ++ l.drop q := by
  unfold rdP at h
  by_cases h1 : getE l p 1 = 0
  · obtain ⟨hp0, hlt⟩ := getE_1 h1
    obtain ⟨i, rfl⟩ : ∃ i : Nat, p = i := ⟨p.toNat, by omega⟩
    rw [Int.toNat_natCast] at hlt
    obtain ⟨e1, e2, e3⟩ := get_1 hb hlt
    rw [if_pos h1, e2, e3] at h
    have c0 : l.drop i = l[i]?.getD 0 :: l.drop (i + 1) := by rw [List.drop_eq_getElem_cons hlt, List.getElem?_eq_getElem hlt]; rfl
    have hby : 0 ≤ l[i]?.getD 0 := by rw [List.getElem?_eq_getElem hlt]; exact (hb _ (List.getElem_mem hlt)).1
    generalize l[i]?.getD 0 = m at *
    by_cases h3 : 32 < m
    · rw [if_pos h3] at h; simp at h
    · rw [if_neg h3] at h
      obtain ⟨n1, n2, n3, q, rfl, n4, n5, n6⟩ := rpS_inv hb (by omega) h
      have hm : (L.length : Int) = m := by omega
      refine ⟨poM_mk (by omega) n2, n3, i, q, rfl, rfl, n5, by rw [n4, poB, List.length_cons]; omega, ?_⟩
      rw [c0, n6, poB, hm]
      rfl
  · rw [if_neg h1] at h
    exact absurd (congrArg (fun r => r.2.2) h) h1
theorem vlen_drop2 {l Z : List Int} {p : Nat} (h : l.drop p = Z) (hp : p ≤ l.length) : l.length = p + Z.length := by
  have h1 := congrArg List.length h
  rw [List.length_drop] at h1
  omega
theorem rdT_cut {l : List Int} {p : Nat} {x : Vlu} (h : vM x = true) (hp : p ≤ l.length) (hd : l.drop p = (vB x).dropLast) : (rdT l p).2.2.2.2 = 10 := by
  have hk : l[p]? = (vB x).dropLast[0]? := by rw [← hd, List.getElem?_drop]; rfl
  have hl := vlen_drop2 hd hp
  obtain ⟨k, a, b⟩ := x
  rcases may_cases (k := k) (a := a) (b := b) h with ⟨rfl, rfl⟩ | ⟨rfl, ho⟩
  · have e : vB (1, a, 0) = 1 :: digs a 8 := valB_1 a
    rw [e] at hk hl
    have h8 : (1 :: digs a 8).dropLast.length = 8 := by rw [List.length_dropLast, List.length_cons, length_digs]
    rw [h8] at hl
    have h0 : l[(p : Int).toNat]?.getD 0 = 1 := by rw [Int.toNat_natCast, hk, List.dropLast_cons_of_ne_nil (by intro e; have := congrArg List.length e; rw [length_digs] at this; cases this)]; rfl
    unfold rdT
    rw [if_neg (by omega), if_neg (by omega), if_pos h0, if_pos (by rw [Int.toNat_natCast]; omega)]
  · have e : vB (2, a, b) = 2 :: (digs (a + 1048576) 3 ++ digs (b + 1048576) 3) := valB_2 a b
    rw [e] at hk hl
    have h6 : (2 :: (digs (a + 1048576) 3 ++ digs (b + 1048576) 3)).dropLast.length = 6 := by rw [List.length_dropLast, List.length_cons, List.length_append, length_digs, length_digs]
    rw [h6] at hl
    have h0 : l[(p : Int).toNat]?.getD 0 = 2 := by rw [Int.toNat_natCast, hk, List.dropLast_cons_of_ne_nil (by intro e; have := congrArg List.length e; rw [List.length_append, length_digs, length_digs] at this; cases this)]; rfl
    unfold rdT
    rw [if_neg (by omega), if_neg (by omega), if_neg (by rw [h0]; decide), if_pos h0, if_pos (by rw [Int.toNat_natCast]; omega)]
theorem rpS_cut {l : List Int} : ∀ {L : List Vlu} {p : Nat}, L ≠ [] → (∀ x ∈ L, vM x = true) → (∀ x ∈ L, VlOk x) → p ≤ l.length → l.drop p = (L.flatMap vB).dropLast → rpS l L.length p = ([], 0, 10)
  | [], p, h, _, _, _, _ => absurd rfl h
  | [x], p, _, h, h0, hp, hd => by
    rw [List.flatMap_cons, List.flatMap_nil, List.append_nil] at hd
    have hc := rdT_cut (h x (by simp)) hp hd
    obtain ⟨k, a, b, n, e, hr⟩ : ∃ k a b n e, rdT l p = (k, a, b, n, e) := ⟨_, _, _, _, _, rfl⟩
    rw [hr] at hc
    simp only at hc
    subst hc
    exact rpS_no hr (by decide)
  | x :: y :: L, p, _, h, h0, hp, hd => by
    have hne : (y :: L).flatMap vB ≠ [] := by
      rw [List.flatMap_cons]
      intro e
      exact vB_ne y (List.append_eq_nil_iff.1 e).1
    rw [List.flatMap_cons, List.dropLast_append_of_ne_nil hne] at hd
    have h1 := rdT_enc (h x (by simp)) (h0 x (by simp)) hd
    have hd2 : l.drop (p + (vB x).length) = ((y :: L).flatMap vB).dropLast := by rw [← List.drop_drop, hd, List.drop_left]
    have hp2 : p + (vB x).length ≤ l.length := by have := (vlen_drop hd (vB_ne x)).2; omega
    rw [List.length_cons, rpS_yes h1, rpS_cut (by simp) (fun z hz => h z (by simp [hz])) (fun z hz => h0 z (by simp [hz])) hp2 hd2]
    rfl
/-- Without the last byte nothing is read. -/
theorem rdP_cut {L : List Vlu} (h : poM L = true) (h0 : ∀ x ∈ L, VlOk x) : rdP ((poB L).dropLast) 0 = ([], 0, 10) := by
  by_cases hL : L = []
  · subst hL; decide
  · have hne : L.flatMap vB ≠ [] := by
      obtain ⟨x, M, rfl⟩ := List.exists_cons_of_ne_nil hL
      rw [List.flatMap_cons]
      intro e
      exact vB_ne x (List.append_eq_nil_iff.1 e).1
    have he : (poB L).dropLast = (L.length : Int) :: (L.flatMap vB).dropLast := by rw [poB, List.dropLast_cons_of_ne_nil hne]
    have hby : Byt ((L.length : Int) :: (L.flatMap vB).dropLast) := by rw [← he]; exact fun x hx => poB_byt (poM_le h) x (List.dropLast_subset _ hx)
    rw [he]
    have hlt : 0 < ((L.length : Int) :: (L.flatMap vB).dropLast).length := by simp
    obtain ⟨e1, e2, e3⟩ := get_1 hby hlt
    rw [show (0 : Int) = ((0 : Nat) : Int) from rfl, rdP, if_pos e1, e2, e3]
    have hg : ((L.length : Int) :: (L.flatMap vB).dropLast)[0]?.getD 0 = (L.length : Int) := rfl
    rw [hg, if_neg (by have := poM_le h; omega), Int.toNat_natCast, rpS_cut hL (poM_at h) h0 (by simp) (by simp)]
    rfl
theorem rdP_err {l : List Int} {p : Int} (h : (rdP l p).2.2 ≠ 0) : rdP l p = ([], 0, (rdP l p).2.2) := by
  have key : ∀ k q, (rpS l k q).2.2 ≠ 0 → rpS l k q = ([], 0, (rpS l k q).2.2) := by
    intro k q
    rw [← rpS_form]
    unfold apV
    split
    · exact fun h => absurd rfl h
    · exact fun _ => rfl
  revert h
  unfold rdP
  split
  · split
    · exact fun _ => rfl
    · exact key _ _
  · exact fun _ => rfl
end Go.Proofs.YteimpkjpoijhmaaDoor
namespace Go.Proofs.YteimpkjpoijhmaaDoor
open Go.RowKit

def KPMay (F : Fct) : Prop := ∀ (A : Option Addr) (c m : Nat) (L : List Vlu) (w : World), F.p w → Rv w A c L → L.length = m → m ≤ 2000 → Calls Tryd.prog 20 #[.slice A m c] w fun e w' => e = .returned (.bool (poM L)) ∧ Below w.heap.size w w'
def KPBytes (F : Fct) : Prop := ∀ (A : Option Addr) (c m : Nat) (L : List Vlu) (w : World), F.p w → Rv w A c L → L.length = m → m ≤ 2000 → Calls Tryd.prog 21 #[.slice A m c] w fun e w' => ∃ A' c', e = .returned (.tuple #[.slice A' (poL L).length c', .int .i64 (poE L)]) ∧
  w'.ownsRow w.heap.size 5 1 (.slice A' (poL L).length c') (poL L).length (cel (poL L)) ∧ Below w.heap.size w w'
def KPRead (F : Fct) : Prop := ∀ (A : Option Addr) (c n : Nat) (l : List Int) (p : Int) (w : World), F.p w → Rd w A c l → l.length = n → Calls Tryd.prog 76 #[.slice A n c, .int .i64 p] w fun e w' => ∃ A' c', e = .returned (.tuple #[.slice A' (rdP l p).1.length c', .int .i64 (rdP l p).2.1, .int .i64 (rdP l p).2.2]) ∧
  Rv w' A' c' (rdP l p).1 ∧ Below w.heap.size w w'
end Go.Proofs.YteimpkjpoijhmaaDoor
