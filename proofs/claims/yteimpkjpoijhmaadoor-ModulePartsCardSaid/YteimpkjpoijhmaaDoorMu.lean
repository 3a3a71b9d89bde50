/-
  The walk of ModuleParts over its contracts: for every module it returns true; nothing that was there has changed.
-/
import Derived.Test.YteimpkjpoijhmaaDoorMw
import Derived.Test.YteimpkjpoijhmaaDoorLi
namespace Go.Proofs.YteimpkjpoijhmaaDoor
open Go.RowKit
set_option maxRecDepth 100000
set_option linter.unusedSimpArgs false
set_option linter.unusedVariables false

/-- What method.Bytes is to answer. -/
def KHBytes (F : Fct) : Prop := ∀ (x : Mc) (m : Mh) (w : World), F.p w → Hd w x m → Calls Tryd.prog 22 #[mv x m] w fun e w' => ∃ A c, e = .returned (.tuple #[.slice A (mL m).length c, .int .i64 (mE m)]) ∧ w'.ownsRow w.heap.size 5 1 (.slice A (mL m).length c) (mL m).length (cel (mL m)) ∧ Below w.heap.size w w'
def qMay (d : Md) : Bool := decide (d.g.length ≤ 4) && (poM d.g && (poM d.p && (decide (d.s.length ≤ 16) && (decide (-1 ≤ d.i) && decide (d.i < d.s.length)))))
def qOne (z : Mz) : Bool := mM z.1 && codM z.2
def qAcc (b : Bool) (s : List Mz) : Bool := b && s.all qOne
theorem qAcc_snoc (b : Bool) {s : List Mz} {j : Nat} (h : j < s.length) : qAcc b (s.take (j + 1)) = (qAcc b (s.take j) && qOne s[j]) := by
  rw [qAcc, qAcc, List.take_add_one, List.getElem?_eq_getElem h, List.all_append]
  cases b <;> simp
def qmL (s : List Mz) : List Int := s.flatMap fun z => mL z.1 ++ byL z.2
theorem mLl_le (m : Mh) : (mL m).length ≤ 27 := by
  by_cases h : mM m = true
  · exact mL_le h
  · rw [mL, if_neg h]; simp
theorem byL_le (k : List Ins) : (byL k).length ≤ 601 := by
  by_cases h : codM k = true
  · rw [byL, if_pos h]; exact cB_le h
  · rw [byL, if_neg h]; simp
theorem qmL_all {s : List Mz} (h : s.all qOne = true) : qmL s = qmB s := by
  induction s with
  | nil => rfl
  | cons z s ih =>
    rw [List.all_cons, Bool.and_eq_true] at h
    have hk : codM z.2 = true := by have := h.1; rw [qOne, Bool.and_eq_true] at this; exact this.2
    have e : qmL (z :: s) = (mL z.1 ++ byL z.2) ++ qmL s := rfl
    have e2 : qmB (z :: s) = (mL z.1 ++ codB z.2) ++ qmB s := rfl
    rw [e, e2, ih h.2, byL, if_pos hk]
theorem qmE_one {s : List Mz} : qmE s = 0 ↔ s.all qOne = true := by
  constructor
  · intro h
    rw [List.all_eq_true]
    intro z hz
    have := qmE_all h z hz
    rw [qOne, this.1, this.2]
    rfl
  · intro h
    refine qmE_mk fun z hz => ?_
    have := List.all_eq_true.1 h z hz
    rw [qOne, Bool.and_eq_true] at this
    exact this
theorem qmE_two (s : List Mz) : qmE s ≠ 3 := by
  induction s with
  | nil => decide
  | cons z s ih =>
    rw [qmE]
    split
    · split
      · exact ih
      · decide
    · decide
theorem qE_no {d : Md} (h : (qMay d && d.s.all qOne) = false) : qE d ≠ 0 ∧ qE d ≠ 3 := by
  unfold qE
  by_cases h1 : 4 < d.g.length ∨ 16 < d.s.length ∨ d.i < -1 ∨ (d.s.length : Int) ≤ d.i
  · rw [if_pos h1]; decide
  · rw [if_neg h1]
    by_cases h2 : poM d.g = true
    · rw [if_pos h2]
      by_cases h3 : poM d.p = true
      · rw [if_pos h3]
        have hm : qMay d = true := by
          rw [qMay, h2, h3]
          simp
          omega
        rw [hm, Bool.true_and] at h
        have h4 : qmE d.s ≠ 0 := fun h5 => by rw [qmE_one.1 h5] at h; cases h
        rw [if_neg h4]
        exact ⟨h4, qmE_two _⟩
      · rw [if_neg h3]; decide
    · rw [if_neg h2]; decide
theorem qE_yes {d : Md} (h : (qMay d && d.s.all qOne) = true) : qE d = (if 2000 < (qX d).length then 3 else 0) ∧ (poL d.g).length + (poL d.p).length + 2 + (qmL d.s).length = (qX d).length := by
  rw [Bool.and_eq_true, qMay, Bool.and_eq_true, Bool.and_eq_true, Bool.and_eq_true, Bool.and_eq_true, Bool.and_eq_true] at h
  obtain ⟨⟨h1, h2, h3, h4, h5, h6⟩, h7⟩ := h
  simp only [decide_eq_true_eq] at h1 h4 h5 h6
  constructor
  · unfold qE
    rw [if_neg (by omega), if_pos h2, if_pos h3, if_pos (qmE_one.2 h7)]
  · rw [qmL_all h7, poL, if_pos h2, poL, if_pos h3, qX]
    simp
    omega
theorem code_le {d : Md} (h : qG d = false) : d.g.length ≤ 100 ∧ d.p.length ≤ 100 ∧ d.s.length ≤ 40 ∧ ∀ z ∈ d.s, z.2.length ≤ 300 := by
  rw [qG] at h
  simp only [Bool.or_eq_false_iff, decide_eq_false_iff_not] at h
  obtain ⟨h1, h2, h3, h4⟩ := h
  refine ⟨by omega, by omega, by omega, fun z hz => ?_⟩
  have := List.any_eq_false.1 h4 z hz
  simp [qgE] at this
  omega
set_option maxHeartbeats 16000000 in
theorem m8parts_walk (F : Fct) (KB : KMBytes F) (KM : KMMay F) (KP : KMParse F) (KPM : KPMay F) (KPB : KPBytes F) (KHB : KHBytes F) (KCB : KBytes F) (y : Ma) (d : Md) (w : World) (hw : F.p w) (hy : Hq w y d) : Calls Tryd.prog 6 #[dv y d] w fun r w' => r = .returned (.bool true) ∧ Below w.heap.size w w' := by
  have hzl := hy.zlen
  have HZL := Lib.hid hzl
  have HZA := Lib.hid (fun (i : Nat) (h1 : i < y.Z.length) (h2 : i < d.s.length) => hy.zat h1 h2)
  have hib := hy.2.2.2.2
  obtain ⟨G, gc, P, pc, A, c, Z⟩ := y
  dsimp only at HZL HZA hzl
  have S0 := Lib.hid ((((Sx.start w).add F hw).add (fQm ⟨G, gc, P, pc, A, c, Z⟩ d) hy).mkD ⟨G, gc, P, pc, A, c, Z⟩ d)
  clear hy hw hzl
  go_enter Tryd.func6, Tryd.ntmps6
  go_wp2_with fail
  refine (awake8_any F KB KP _ S0.out.2.2.2.1).mono ?_
  rintro r1 w1 ⟨rfl, hb1⟩
  have S1 := Lib.hid (S0.out.call hb1)
  clear hb1 S0
  obtain ⟨-, ⟨x0, x1, x2, x3, x4⟩, -⟩ := S1.out
  dsimp only at x1 x2 x3
  go_wp2_with fail
  refine (great8_v ⟨G, gc, P, pc, A, c, Z⟩ d _ S1.out.2.2.1).mono ?_
  rintro r1 w2 ⟨rfl, hb2⟩
  have S2 := Lib.hid (S1.out.call hb2)
  clear hb2 S1
  clear x0 x1 x2 x3 x4
  cases g1 : qG d with
  | true =>
    go_wp2_with fail
    go_ret
    exact ⟨rfl, S2.out.1⟩
  | false =>
    have hcl := code_le g1
    have HG := Lib.hid g1
    have HCL := Lib.hid hcl.2.2.2
    obtain ⟨hg100, hp100, hs40, -⟩ := hcl
    clear g1
    obtain ⟨-, ⟨x0, x1, x2, x3, x4⟩, -⟩ := S2.out
    dsimp only at x1 x2 x3
    by_cases c1 : d.g.length ≤ 4
    · go_wp2_with fail
      refine (KPM G gc d.g.length d.g _ S2.out.2.2.2.1 S2.out.2.2.1.1 rfl (by omega)).mono ?_
      rintro r1 w3 ⟨rfl, hb3⟩
      have S3 := Lib.hid (S2.out.call hb3)
      clear hb3 S2
      clear x0 x1 x2 x3 x4
      obtain ⟨-, ⟨x0, x1, x2, x3, x4⟩, -⟩ := S3.out
      dsimp only at x1 x2 x3
      cases hpg : poM d.g with
      | false =>
        have HM0 : Hid (false = qMay d) := by rw [Hid, qMay, hpg]; simp
        obtain ⟨-, ⟨x0, x1, x2, x3, x4⟩, -⟩ := S3.out
        dsimp only at x1 x2 x3
        go_wp2_with fail
        refine (KPB G gc d.g.length d.g _ S3.out.2.2.2.1 S3.out.2.2.1.1 rfl (by omega)).mono ?_
        rintro r1 wa ⟨A4, c4, rfl, -, hba⟩
        have T1 := Lib.hid (S3.out.call hba)
        clear hba S3
        clear x0 x1 x2 x3 x4
        obtain ⟨-, ⟨x0, x1, x2, x3, x4⟩, -⟩ := T1.out
        dsimp only at x1 x2 x3
        go_wp2_with fail
        refine (KPB P pc d.p.length d.p _ T1.out.2.2.2.1 T1.out.2.2.1.2.1 rfl (by omega)).mono ?_
        rintro r1 wb ⟨A5, c5, rfl, -, hbb⟩
        have T2 := Lib.hid (T1.out.call hbb)
        clear hbb T1
        clear x0 x1 x2 x3 x4
        obtain ⟨sz0, hsz0⟩ : ∃ n, (poL d.g).length + (poL d.p).length + 2 = n := ⟨_, rfl⟩
        have HS0 := Lib.hid hsz0
        have bl1 := poL_len d.g
        have bl2 := poL_len d.p
        have bsz : sz0 ≤ 580 := by omega
        have hcast : ((poL d.g).length : Int) + (poL d.p).length + 2 = sz0 := by omega
        clear hsz0
        go_wp2_with fail
        clear hcast bl1 bl2
        go_loopw [3, 8, 9] (fun may sz i wr => ∃ (j N : Nat) (b : Bool), j ≤ d.s.length ∧ N ≤ 580 + j * 628 ∧ i = .int .i64 j ∧ sz = .int .i64 N ∧ may = .bool b ∧ Hid (b = qAcc false (d.s.take j)) ∧ Hid (N = sz0 + (qmL (d.s.take j)).length) ∧ Hid (Sx w wr [fD w.heap.size ⟨G, gc, P, pc, A, c, Z⟩ d, fQm ⟨G, gc, P, pc, A, c, Z⟩ d, F])) (fun _ _ i _ => d.s.length - (intOf i).toNat)
        case atStart => exact ⟨0, sz0, false, by omega, by omega, rfl, rfl, (by first | rfl | rw [decide_eq_false (by omega)] | rw [decide_eq_true (by omega)]), rfl, by simp [Hid, qmL], T2⟩
        case round =>
          obtain ⟨j, N, b, hj, hN, rfl, rfl, rfl, HBB, HNN, R0⟩ := hrel
          clear T2
          obtain ⟨-, ⟨x0, x1, x2, x3, x4⟩, -⟩ := R0.out; dsimp only at x1 x2 x3
          by_cases h1 : j < d.s.length
          · have h1z : j < Z.length := by rw [HZL.out]; exact h1
            have hR : Rm wr A c Z := R0.out.2.2.1.2.2.1
            obtain ⟨ad, rfl, -, -⟩ := hR.at_ h1z
            have HE := Lib.hid (Rm.each (w := wr) (ad := ad) (c := c) h1z)
            have HBS : Hid (qAcc false (d.s.take (j + 1)) = (qAcc false (d.s.take j) && qOne d.s[j])) := qAcc_snoc false h1
            have HNS : Hid ((qmL (d.s.take (j + 1))).length = (qmL (d.s.take j)).length + ((mL d.s[j].1).length + (byL d.s[j].2).length)) := by
              rw [Hid, List.take_add_one, List.getElem?_eq_getElem h1, qmL, List.flatMap_append, List.length_append]
              simp [qmL]
            have hk3 : (d.s[j]).2.length ≤ 300 := HCL.out _ (List.getElem_mem h1)
            rw [HZA.out j h1z h1] at HBS HNS hk3
            obtain ⟨⟨a1, a2, a3, a4, a5, a6, a7, a8⟩, hok⟩ := HE.out wr hR
            clear hR HE
            generalize Z[j] = z at *
            obtain ⟨x, m, k⟩ := z
            dsimp only at a1 a2 a3 a4 a5 a6 a7 a8 hok HBS HNS hk3
            have hkl : k.length = x.k := hok.2.2
            have R1 := Lib.hid (((R0.out.add (fH x m) hok.1).add (fT x.D x.e k) hok.2.1).mkM x m)
            have HKL := Lib.hid hkl
            have hxk : x.k ≤ 300 := by rw [← hkl]; exact hk3
            clear hok hkl R0 hk3
            go_upto_region 13 with (fail)
            clear a1 a2 a3 a4 a5 a6 a7 a8
            clear x0 x1 x2 x3 x4
            have R1' : Hid (Sx w (wr.alloc (.cells #[.slice x.A m.a.length x.c, .slice x.B m.l.length x.d, .int .u8 m.r, .bool m.q, .int .i64 m.f, .int .i64 m.s, .int .i64 m.h, .slice x.D x.k x.e] 49)) [fM wr.heap.size x m, fT x.D x.e k, fH x m, fD w.heap.size ⟨G, gc, P, pc, some ad, c, Z⟩ d, fQm ⟨G, gc, P, pc, some ad, c, Z⟩ d, F]) := R1
            clear R1
            generalize wr.alloc (.cells #[.slice x.A m.a.length x.c, .slice x.B m.l.length x.d, .int .u8 m.r, .bool m.q, .int .i64 m.f, .int .i64 m.s, .int .i64 m.h, .slice x.D x.k x.e] 49) = wc at R1' ⊢
            generalize wr.heap.size = TX at R1' ⊢
            obtain ⟨-, ⟨o0, o1, o2, o3, o4, o5, o6, o7, o8⟩, -⟩ := R1'.out
            go_wp2_with fail
            refine (KHB x m _ R1'.out.2.2.2.2.2.2.1 R1'.out.2.2.2.1).mono ?_
            rintro r1 wd ⟨A6, c6, rfl, -, hbd⟩
            have R2 := Lib.hid (R1'.out.call hbd)
            clear hbd R1' o0 o1 o2 o3 o4 o5 o6 o7 o8
            obtain ⟨-, ⟨o0, o1, o2, o3, o4, o5, o6, o7, o8⟩, -⟩ := R2.out
            go_wp2_with fail
            refine (KCB x.D x.e x.k k _ R2.out.2.2.2.2.2.2.1 R2.out.2.2.1 HKL.out (by omega)).mono ?_
            rintro r1 we ⟨A7, c7, rfl, -, hbe⟩
            have R3 : Hid (Sx w we [fD w.heap.size ⟨G, gc, P, pc, some ad, c, Z⟩ d, fQm ⟨G, gc, P, pc, some ad, c, Z⟩ d, F]) := Lib.hid (by have := R2.out.call hbe; exact ⟨this.1, this.2.2.2.2⟩)
            clear hbe R2 o0 o1 o2 o3 o4 o5 o6 o7 o8 HKL
            have hl1 := mLl_le m
            have hl2 := byL_le k
            obtain ⟨n1, hn1⟩ : ∃ n, (mL m).length = n := ⟨_, rfl⟩
            obtain ⟨n2, hn2⟩ : ∃ n, (byL k).length = n := ⟨_, rfl⟩
            rw [hn1, hn2] at HNS
            rw [hn1] at hl1 ⊢
            rw [hn2] at hl2 ⊢
            clear hn1 hn2
            have HN2 : Hid (N + n1 + n2 = sz0 + (qmL (d.s.take (j + 1))).length) := by rw [Hid, HNS.out, HNN.out]; omega
            clear HNN HNS
            cases b with
            | false =>
              cases hm : mM m with
              | false =>
                cases hk : codM k with
                | false =>
                  have e1 : mE m = 70 := by rw [mE, if_neg (by rw [hm]; decide)]
                  have e2 : cdE k = 40 := by rw [cdE, if_neg (by rw [hk]; decide)]
                  have HQ1 : Hid (false = qAcc false (d.s.take (j + 1))) := by
                    rw [Hid, HBS.out, ← HBB.out, qOne, hm, hk]
                    rfl
                  rw [e1, e2]
                  clear e1 e2 hm hk HBB HBS
                  go_wp2_with fail
                  go_roundw
                  case rel => exact ⟨j + 1, N + n1 + n2, false, by omega, by omega, by go_num, by go_num, rfl, HQ1, HN2, R3⟩
                  case measure => simp [intOf]; omega
                | true =>
                  have e1 : mE m = 70 := by rw [mE, if_neg (by rw [hm]; decide)]
                  have e2 : cdE k = 0 := by rw [cdE, if_pos hk]
                  have HQ1 : Hid (false = qAcc false (d.s.take (j + 1))) := by
                    rw [Hid, HBS.out, ← HBB.out, qOne, hm, hk]
                    rfl
                  rw [e1, e2]
                  clear e1 e2 hm hk HBB HBS
                  go_wp2_with fail
                  go_roundw
                  case rel => exact ⟨j + 1, N + n1 + n2, false, by omega, by omega, by go_num, by go_num, rfl, HQ1, HN2, R3⟩
                  case measure => simp [intOf]; omega
              | true =>
                cases hk : codM k with
                | false =>
                  have e1 : mE m = 0 := by rw [mE, if_pos hm]
                  have e2 : cdE k = 40 := by rw [cdE, if_neg (by rw [hk]; decide)]
                  have HQ1 : Hid (false = qAcc false (d.s.take (j + 1))) := by
                    rw [Hid, HBS.out, ← HBB.out, qOne, hm, hk]
                    rfl
                  rw [e1, e2]
                  clear e1 e2 hm hk HBB HBS
                  go_wp2_with fail
                  go_roundw
                  case rel => exact ⟨j + 1, N + n1 + n2, false, by omega, by omega, by go_num, by go_num, rfl, HQ1, HN2, R3⟩
                  case measure => simp [intOf]; omega
                | true =>
                  have e1 : mE m = 0 := by rw [mE, if_pos hm]
                  have e2 : cdE k = 0 := by rw [cdE, if_pos hk]
                  have HQ1 : Hid (false = qAcc false (d.s.take (j + 1))) := by
                    rw [Hid, HBS.out, ← HBB.out, qOne, hm, hk]
                    rfl
                  rw [e1, e2]
                  clear e1 e2 hm hk HBB HBS
                  go_wp2_with fail
                  go_roundw
                  case rel => exact ⟨j + 1, N + n1 + n2, false, by omega, by omega, by go_num, by go_num, rfl, HQ1, HN2, R3⟩
                  case measure => simp [intOf]; omega
            | true =>
              cases hm : mM m with
              | false =>
                cases hk : codM k with
                | false =>
                  have e1 : mE m = 70 := by rw [mE, if_neg (by rw [hm]; decide)]
                  have e2 : cdE k = 40 := by rw [cdE, if_neg (by rw [hk]; decide)]
                  have HQ1 : Hid (false = qAcc false (d.s.take (j + 1))) := by
                    rw [Hid, HBS.out, ← HBB.out, qOne, hm, hk]
                    rfl
                  rw [e1, e2]
                  clear e1 e2 hm hk HBB HBS
                  go_wp2_with fail
                  go_roundw
                  case rel => exact ⟨j + 1, N + n1 + n2, false, by omega, by omega, by go_num, by go_num, rfl, HQ1, HN2, R3⟩
                  case measure => simp [intOf]; omega
                | true =>
                  have e1 : mE m = 70 := by rw [mE, if_neg (by rw [hm]; decide)]
                  have e2 : cdE k = 0 := by rw [cdE, if_pos hk]
                  have HQ1 : Hid (false = qAcc false (d.s.take (j + 1))) := by
                    rw [Hid, HBS.out, ← HBB.out, qOne, hm, hk]
                    rfl
                  rw [e1, e2]
                  clear e1 e2 hm hk HBB HBS
                  go_wp2_with fail
                  go_roundw
                  case rel => exact ⟨j + 1, N + n1 + n2, false, by omega, by omega, by go_num, by go_num, rfl, HQ1, HN2, R3⟩
                  case measure => simp [intOf]; omega
              | true =>
                cases hk : codM k with
                | false =>
                  have e1 : mE m = 0 := by rw [mE, if_pos hm]
                  have e2 : cdE k = 40 := by rw [cdE, if_neg (by rw [hk]; decide)]
                  have HQ1 : Hid (false = qAcc false (d.s.take (j + 1))) := by
                    rw [Hid, HBS.out, ← HBB.out, qOne, hm, hk]
                    rfl
                  rw [e1, e2]
                  clear e1 e2 hm hk HBB HBS
                  go_wp2_with fail
                  go_roundw
                  case rel => exact ⟨j + 1, N + n1 + n2, false, by omega, by omega, by go_num, by go_num, rfl, HQ1, HN2, R3⟩
                  case measure => simp [intOf]; omega
                | true =>
                  have e1 : mE m = 0 := by rw [mE, if_pos hm]
                  have e2 : cdE k = 0 := by rw [cdE, if_pos hk]
                  have HQ1 : Hid (true = qAcc false (d.s.take (j + 1))) := by
                    rw [Hid, HBS.out, ← HBB.out, qOne, hm, hk]
                    rfl
                  rw [e1, e2]
                  clear e1 e2 hm hk HBB HBS
                  go_wp2_with fail
                  go_roundw
                  case rel => exact ⟨j + 1, N + n1 + n2, true, by omega, by omega, by go_num, by go_num, rfl, HQ1, HN2, R3⟩
                  case measure => simp [intOf]; omega
          · have hjn : j = d.s.length := by omega
            subst j
            have HB1 : Hid (b = qAcc false d.s) := by have := HBB.out; rwa [List.take_length] at this
            have HN1 : Hid (N = sz0 + (qmL d.s).length) := by have := HNN.out; rwa [List.take_length] at this
            clear HBB HNN
            go_wp2_with fail
            refine (KM ⟨G, gc, P, pc, A, c, Z⟩ d _ R0.out.2.2.2.1 R0.out.2.2.1 HG.out).mono ?_
            rintro r1 wf ⟨rfl, hbf⟩
            have R1 := Lib.hid (R0.out.call hbf)
            clear hbf R0
            clear x0 x1 x2 x3 x4
            cases b with
            | false =>
              have HF := Lib.hid (qE_no (d := d) (by show qAcc (qMay d) d.s = false; rw [← HM0.out]; exact HB1.out.symm))
              obtain ⟨ee, hee⟩ : ∃ ee, qE d = ee := ⟨_, rfl⟩
              rw [hee] at HF ⊢
              clear hee
              have f1 : (ee != 0) = true := by simpa using HF.out.1
              have f2 : (ee != 3) = true := by simpa using HF.out.2
              go_wp2_with fail
              go_ret
              exact ⟨rfl, R1.out.1⟩
            | true =>
              have HT := Lib.hid (qE_yes (d := d) (by show qAcc (qMay d) d.s = true; rw [← HM0.out]; exact HB1.out.symm))
              have HNX : Hid ((N : Int) = (qX d).length) := by
                have := HT.out.2
                rw [Hid, HN1.out, ← HS0.out]
                omega
              rw [HT.out.1]
              by_cases hlong : 2000 < (qX d).length
              · rw [if_pos hlong]
                have hNl : ¬ (N : Int) ≤ 2000 := by have := HNX.out; omega
                clear hlong
                go_wp2_with fail
                go_ret
                exact ⟨by show Ending.returned (.bool (!decide ((N : Int) ≤ 2000))) = _; rw [decide_eq_false (by omega)]; rfl, R1.out.1⟩
              · rw [if_neg hlong]
                have hNl : (N : Int) ≤ 2000 := by have := HNX.out; omega
                clear hlong
                go_wp2_with fail
                go_ret
                exact ⟨rfl, R1.out.1⟩
      | true =>
        go_wp2_with fail
        refine (KPM P pc d.p.length d.p _ S3.out.2.2.2.1 S3.out.2.2.1.2.1 rfl (by omega)).mono ?_
        rintro r1 w4 ⟨rfl, hb4⟩
        have S4 := Lib.hid (S3.out.call hb4)
        clear hb4 S3
        clear x0 x1 x2 x3 x4
        obtain ⟨-, ⟨x0, x1, x2, x3, x4⟩, -⟩ := S4.out
        dsimp only at x1 x2 x3
        cases hpp : poM d.p with
        | false =>
          have HM0 : Hid (false = qMay d) := by rw [Hid, qMay, hpp]; simp
          obtain ⟨-, ⟨x0, x1, x2, x3, x4⟩, -⟩ := S4.out
          dsimp only at x1 x2 x3
          go_wp2_with fail
          refine (KPB G gc d.g.length d.g _ S4.out.2.2.2.1 S4.out.2.2.1.1 rfl (by omega)).mono ?_
          rintro r1 wa ⟨A4, c4, rfl, -, hba⟩
          have T1 := Lib.hid (S4.out.call hba)
          clear hba S4
          clear x0 x1 x2 x3 x4
          obtain ⟨-, ⟨x0, x1, x2, x3, x4⟩, -⟩ := T1.out
          dsimp only at x1 x2 x3
          go_wp2_with fail
          refine (KPB P pc d.p.length d.p _ T1.out.2.2.2.1 T1.out.2.2.1.2.1 rfl (by omega)).mono ?_
          rintro r1 wb ⟨A5, c5, rfl, -, hbb⟩
          have T2 := Lib.hid (T1.out.call hbb)
          clear hbb T1
          clear x0 x1 x2 x3 x4
          obtain ⟨sz0, hsz0⟩ : ∃ n, (poL d.g).length + (poL d.p).length + 2 = n := ⟨_, rfl⟩
          have HS0 := Lib.hid hsz0
          have bl1 := poL_len d.g
          have bl2 := poL_len d.p
          have bsz : sz0 ≤ 580 := by omega
          have hcast : ((poL d.g).length : Int) + (poL d.p).length + 2 = sz0 := by omega
          clear hsz0
          go_wp2_with fail
          clear hcast bl1 bl2
          go_loopw [3, 8, 9] (fun may sz i wr => ∃ (j N : Nat) (b : Bool), j ≤ d.s.length ∧ N ≤ 580 + j * 628 ∧ i = .int .i64 j ∧ sz = .int .i64 N ∧ may = .bool b ∧ Hid (b = qAcc false (d.s.take j)) ∧ Hid (N = sz0 + (qmL (d.s.take j)).length) ∧ Hid (Sx w wr [fD w.heap.size ⟨G, gc, P, pc, A, c, Z⟩ d, fQm ⟨G, gc, P, pc, A, c, Z⟩ d, F])) (fun _ _ i _ => d.s.length - (intOf i).toNat)
          case atStart => exact ⟨0, sz0, false, by omega, by omega, rfl, rfl, (by first | rfl | rw [decide_eq_false (by omega)] | rw [decide_eq_true (by omega)]), rfl, by simp [Hid, qmL], T2⟩
          case round =>
            obtain ⟨j, N, b, hj, hN, rfl, rfl, rfl, HBB, HNN, R0⟩ := hrel
            clear T2
            obtain ⟨-, ⟨x0, x1, x2, x3, x4⟩, -⟩ := R0.out; dsimp only at x1 x2 x3
            by_cases h1 : j < d.s.length
            · have h1z : j < Z.length := by rw [HZL.out]; exact h1
              have hR : Rm wr A c Z := R0.out.2.2.1.2.2.1
              obtain ⟨ad, rfl, -, -⟩ := hR.at_ h1z
              have HE := Lib.hid (Rm.each (w := wr) (ad := ad) (c := c) h1z)
              have HBS : Hid (qAcc false (d.s.take (j + 1)) = (qAcc false (d.s.take j) && qOne d.s[j])) := qAcc_snoc false h1
              have HNS : Hid ((qmL (d.s.take (j + 1))).length = (qmL (d.s.take j)).length + ((mL d.s[j].1).length + (byL d.s[j].2).length)) := by
                rw [Hid, List.take_add_one, List.getElem?_eq_getElem h1, qmL, List.flatMap_append, List.length_append]
                simp [qmL]
              have hk3 : (d.s[j]).2.length ≤ 300 := HCL.out _ (List.getElem_mem h1)
              rw [HZA.out j h1z h1] at HBS HNS hk3
              obtain ⟨⟨a1, a2, a3, a4, a5, a6, a7, a8⟩, hok⟩ := HE.out wr hR
              clear hR HE
              generalize Z[j] = z at *
              obtain ⟨x, m, k⟩ := z
              dsimp only at a1 a2 a3 a4 a5 a6 a7 a8 hok HBS HNS hk3
              have hkl : k.length = x.k := hok.2.2
              have R1 := Lib.hid (((R0.out.add (fH x m) hok.1).add (fT x.D x.e k) hok.2.1).mkM x m)
              have HKL := Lib.hid hkl
              have hxk : x.k ≤ 300 := by rw [← hkl]; exact hk3
              clear hok hkl R0 hk3
              go_upto_region 13 with (fail)
              clear a1 a2 a3 a4 a5 a6 a7 a8
              clear x0 x1 x2 x3 x4
              have R1' : Hid (Sx w (wr.alloc (.cells #[.slice x.A m.a.length x.c, .slice x.B m.l.length x.d, .int .u8 m.r, .bool m.q, .int .i64 m.f, .int .i64 m.s, .int .i64 m.h, .slice x.D x.k x.e] 49)) [fM wr.heap.size x m, fT x.D x.e k, fH x m, fD w.heap.size ⟨G, gc, P, pc, some ad, c, Z⟩ d, fQm ⟨G, gc, P, pc, some ad, c, Z⟩ d, F]) := R1
              clear R1
              generalize wr.alloc (.cells #[.slice x.A m.a.length x.c, .slice x.B m.l.length x.d, .int .u8 m.r, .bool m.q, .int .i64 m.f, .int .i64 m.s, .int .i64 m.h, .slice x.D x.k x.e] 49) = wc at R1' ⊢
              generalize wr.heap.size = TX at R1' ⊢
              obtain ⟨-, ⟨o0, o1, o2, o3, o4, o5, o6, o7, o8⟩, -⟩ := R1'.out
              go_wp2_with fail
              refine (KHB x m _ R1'.out.2.2.2.2.2.2.1 R1'.out.2.2.2.1).mono ?_
              rintro r1 wd ⟨A6, c6, rfl, -, hbd⟩
              have R2 := Lib.hid (R1'.out.call hbd)
              clear hbd R1' o0 o1 o2 o3 o4 o5 o6 o7 o8
              obtain ⟨-, ⟨o0, o1, o2, o3, o4, o5, o6, o7, o8⟩, -⟩ := R2.out
              go_wp2_with fail
              refine (KCB x.D x.e x.k k _ R2.out.2.2.2.2.2.2.1 R2.out.2.2.1 HKL.out (by omega)).mono ?_
              rintro r1 we ⟨A7, c7, rfl, -, hbe⟩
              have R3 : Hid (Sx w we [fD w.heap.size ⟨G, gc, P, pc, some ad, c, Z⟩ d, fQm ⟨G, gc, P, pc, some ad, c, Z⟩ d, F]) := Lib.hid (by have := R2.out.call hbe; exact ⟨this.1, this.2.2.2.2⟩)
              clear hbe R2 o0 o1 o2 o3 o4 o5 o6 o7 o8 HKL
              have hl1 := mLl_le m
              have hl2 := byL_le k
              obtain ⟨n1, hn1⟩ : ∃ n, (mL m).length = n := ⟨_, rfl⟩
              obtain ⟨n2, hn2⟩ : ∃ n, (byL k).length = n := ⟨_, rfl⟩
              rw [hn1, hn2] at HNS
              rw [hn1] at hl1 ⊢
              rw [hn2] at hl2 ⊢
              clear hn1 hn2
              have HN2 : Hid (N + n1 + n2 = sz0 + (qmL (d.s.take (j + 1))).length) := by rw [Hid, HNS.out, HNN.out]; omega
              clear HNN HNS
              cases b with
              | false =>
                cases hm : mM m with
                | false =>
                  cases hk : codM k with
                  | false =>
                    have e1 : mE m = 70 := by rw [mE, if_neg (by rw [hm]; decide)]
                    have e2 : cdE k = 40 := by rw [cdE, if_neg (by rw [hk]; decide)]
                    have HQ1 : Hid (false = qAcc false (d.s.take (j + 1))) := by
                      rw [Hid, HBS.out, ← HBB.out, qOne, hm, hk]
                      rfl
                    rw [e1, e2]
                    clear e1 e2 hm hk HBB HBS
                    go_wp2_with fail
                    go_roundw
                    case rel => exact ⟨j + 1, N + n1 + n2, false, by omega, by omega, by go_num, by go_num, rfl, HQ1, HN2, R3⟩
                    case measure => simp [intOf]; omega
                  | true =>
                    have e1 : mE m = 70 := by rw [mE, if_neg (by rw [hm]; decide)]
                    have e2 : cdE k = 0 := by rw [cdE, if_pos hk]
                    have HQ1 : Hid (false = qAcc false (d.s.take (j + 1))) := by
                      rw [Hid, HBS.out, ← HBB.out, qOne, hm, hk]
                      rfl
                    rw [e1, e2]
                    clear e1 e2 hm hk HBB HBS
                    go_wp2_with fail
                    go_roundw
                    case rel => exact ⟨j + 1, N + n1 + n2, false, by omega, by omega, by go_num, by go_num, rfl, HQ1, HN2, R3⟩
                    case measure => simp [intOf]; omega
                | true =>
                  cases hk : codM k with
                  | false =>
                    have e1 : mE m = 0 := by rw [mE, if_pos hm]
                    have e2 : cdE k = 40 := by rw [cdE, if_neg (by rw [hk]; decide)]
                    have HQ1 : Hid (false = qAcc false (d.s.take (j + 1))) := by
                      rw [Hid, HBS.out, ← HBB.out, qOne, hm, hk]
                      rfl
                    rw [e1, e2]
                    clear e1 e2 hm hk HBB HBS
                    go_wp2_with fail
                    go_roundw
                    case rel => exact ⟨j + 1, N + n1 + n2, false, by omega, by omega, by go_num, by go_num, rfl, HQ1, HN2, R3⟩
                    case measure => simp [intOf]; omega
                  | true =>
                    have e1 : mE m = 0 := by rw [mE, if_pos hm]
                    have e2 : cdE k = 0 := by rw [cdE, if_pos hk]
                    have HQ1 : Hid (false = qAcc false (d.s.take (j + 1))) := by
                      rw [Hid, HBS.out, ← HBB.out, qOne, hm, hk]
                      rfl
                    rw [e1, e2]
                    clear e1 e2 hm hk HBB HBS
                    go_wp2_with fail
                    go_roundw
                    case rel => exact ⟨j + 1, N + n1 + n2, false, by omega, by omega, by go_num, by go_num, rfl, HQ1, HN2, R3⟩
                    case measure => simp [intOf]; omega
              | true =>
                cases hm : mM m with
                | false =>
                  cases hk : codM k with
                  | false =>
                    have e1 : mE m = 70 := by rw [mE, if_neg (by rw [hm]; decide)]
                    have e2 : cdE k = 40 := by rw [cdE, if_neg (by rw [hk]; decide)]
                    have HQ1 : Hid (false = qAcc false (d.s.take (j + 1))) := by
                      rw [Hid, HBS.out, ← HBB.out, qOne, hm, hk]
                      rfl
                    rw [e1, e2]
                    clear e1 e2 hm hk HBB HBS
                    go_wp2_with fail
                    go_roundw
                    case rel => exact ⟨j + 1, N + n1 + n2, false, by omega, by omega, by go_num, by go_num, rfl, HQ1, HN2, R3⟩
                    case measure => simp [intOf]; omega
                  | true =>
                    have e1 : mE m = 70 := by rw [mE, if_neg (by rw [hm]; decide)]
                    have e2 : cdE k = 0 := by rw [cdE, if_pos hk]
                    have HQ1 : Hid (false = qAcc false (d.s.take (j + 1))) := by
                      rw [Hid, HBS.out, ← HBB.out, qOne, hm, hk]
                      rfl
                    rw [e1, e2]
                    clear e1 e2 hm hk HBB HBS
                    go_wp2_with fail
                    go_roundw
                    case rel => exact ⟨j + 1, N + n1 + n2, false, by omega, by omega, by go_num, by go_num, rfl, HQ1, HN2, R3⟩
                    case measure => simp [intOf]; omega
                | true =>
                  cases hk : codM k with
                  | false =>
                    have e1 : mE m = 0 := by rw [mE, if_pos hm]
                    have e2 : cdE k = 40 := by rw [cdE, if_neg (by rw [hk]; decide)]
                    have HQ1 : Hid (false = qAcc false (d.s.take (j + 1))) := by
                      rw [Hid, HBS.out, ← HBB.out, qOne, hm, hk]
                      rfl
                    rw [e1, e2]
                    clear e1 e2 hm hk HBB HBS
                    go_wp2_with fail
                    go_roundw
                    case rel => exact ⟨j + 1, N + n1 + n2, false, by omega, by omega, by go_num, by go_num, rfl, HQ1, HN2, R3⟩
                    case measure => simp [intOf]; omega
                  | true =>
                    have e1 : mE m = 0 := by rw [mE, if_pos hm]
                    have e2 : cdE k = 0 := by rw [cdE, if_pos hk]
                    have HQ1 : Hid (true = qAcc false (d.s.take (j + 1))) := by
                      rw [Hid, HBS.out, ← HBB.out, qOne, hm, hk]
                      rfl
                    rw [e1, e2]
                    clear e1 e2 hm hk HBB HBS
                    go_wp2_with fail
                    go_roundw
                    case rel => exact ⟨j + 1, N + n1 + n2, true, by omega, by omega, by go_num, by go_num, rfl, HQ1, HN2, R3⟩
                    case measure => simp [intOf]; omega
            · have hjn : j = d.s.length := by omega
              subst j
              have HB1 : Hid (b = qAcc false d.s) := by have := HBB.out; rwa [List.take_length] at this
              have HN1 : Hid (N = sz0 + (qmL d.s).length) := by have := HNN.out; rwa [List.take_length] at this
              clear HBB HNN
              go_wp2_with fail
              refine (KM ⟨G, gc, P, pc, A, c, Z⟩ d _ R0.out.2.2.2.1 R0.out.2.2.1 HG.out).mono ?_
              rintro r1 wf ⟨rfl, hbf⟩
              have R1 := Lib.hid (R0.out.call hbf)
              clear hbf R0
              clear x0 x1 x2 x3 x4
              cases b with
              | false =>
                have HF := Lib.hid (qE_no (d := d) (by show qAcc (qMay d) d.s = false; rw [← HM0.out]; exact HB1.out.symm))
                obtain ⟨ee, hee⟩ : ∃ ee, qE d = ee := ⟨_, rfl⟩
                rw [hee] at HF ⊢
                clear hee
                have f1 : (ee != 0) = true := by simpa using HF.out.1
                have f2 : (ee != 3) = true := by simpa using HF.out.2
                go_wp2_with fail
                go_ret
                exact ⟨rfl, R1.out.1⟩
              | true =>
                have HT := Lib.hid (qE_yes (d := d) (by show qAcc (qMay d) d.s = true; rw [← HM0.out]; exact HB1.out.symm))
                have HNX : Hid ((N : Int) = (qX d).length) := by
                  have := HT.out.2
                  rw [Hid, HN1.out, ← HS0.out]
                  omega
                rw [HT.out.1]
                by_cases hlong : 2000 < (qX d).length
                · rw [if_pos hlong]
                  have hNl : ¬ (N : Int) ≤ 2000 := by have := HNX.out; omega
                  clear hlong
                  go_wp2_with fail
                  go_ret
                  exact ⟨by show Ending.returned (.bool (!decide ((N : Int) ≤ 2000))) = _; rw [decide_eq_false (by omega)]; rfl, R1.out.1⟩
                · rw [if_neg hlong]
                  have hNl : (N : Int) ≤ 2000 := by have := HNX.out; omega
                  clear hlong
                  go_wp2_with fail
                  go_ret
                  exact ⟨rfl, R1.out.1⟩
        | true =>
          have hMay : qMay d = (decide (d.s.length ≤ 16) && (decide (-1 ≤ d.i) && decide (d.i < d.s.length))) := by rw [qMay, hpg, hpp, decide_eq_true c1]; rfl
          clear hpg hpp
          by_cases c2 : d.s.length ≤ 16
          · by_cases c3 : -1 ≤ d.i
            · by_cases c4 : d.i < d.s.length
              · have HM0 : Hid (true = qMay d) := by rw [Hid, hMay, decide_eq_true c2, decide_eq_true c3, decide_eq_true c4]; rfl
                clear hMay
                obtain ⟨-, ⟨x0, x1, x2, x3, x4⟩, -⟩ := S4.out
                dsimp only at x1 x2 x3
                go_wp2_with fail
                refine (KPB G gc d.g.length d.g _ S4.out.2.2.2.1 S4.out.2.2.1.1 rfl (by omega)).mono ?_
                rintro r1 wa ⟨A4, c4, rfl, -, hba⟩
                have T1 := Lib.hid (S4.out.call hba)
                clear hba S4
                clear x0 x1 x2 x3 x4
                obtain ⟨-, ⟨x0, x1, x2, x3, x4⟩, -⟩ := T1.out
                dsimp only at x1 x2 x3
                go_wp2_with fail
                refine (KPB P pc d.p.length d.p _ T1.out.2.2.2.1 T1.out.2.2.1.2.1 rfl (by omega)).mono ?_
                rintro r1 wb ⟨A5, c5, rfl, -, hbb⟩
                have T2 := Lib.hid (T1.out.call hbb)
                clear hbb T1
                clear x0 x1 x2 x3 x4
                obtain ⟨sz0, hsz0⟩ : ∃ n, (poL d.g).length + (poL d.p).length + 2 = n := ⟨_, rfl⟩
                have HS0 := Lib.hid hsz0
                have bl1 := poL_len d.g
                have bl2 := poL_len d.p
                have bsz : sz0 ≤ 580 := by omega
                have hcast : ((poL d.g).length : Int) + (poL d.p).length + 2 = sz0 := by omega
                clear hsz0
                go_wp2_with fail
                clear hcast bl1 bl2
                go_loopw [3, 8, 9] (fun may sz i wr => ∃ (j N : Nat) (b : Bool), j ≤ d.s.length ∧ N ≤ 580 + j * 628 ∧ i = .int .i64 j ∧ sz = .int .i64 N ∧ may = .bool b ∧ Hid (b = qAcc true (d.s.take j)) ∧ Hid (N = sz0 + (qmL (d.s.take j)).length) ∧ Hid (Sx w wr [fD w.heap.size ⟨G, gc, P, pc, A, c, Z⟩ d, fQm ⟨G, gc, P, pc, A, c, Z⟩ d, F])) (fun _ _ i _ => d.s.length - (intOf i).toNat)
                case atStart => exact ⟨0, sz0, true, by omega, by omega, rfl, rfl, (by first | rfl | rw [decide_eq_false (by omega)] | rw [decide_eq_true (by omega)]), rfl, by simp [Hid, qmL], T2⟩
                case round =>
                  obtain ⟨j, N, b, hj, hN, rfl, rfl, rfl, HBB, HNN, R0⟩ := hrel
                  clear T2
                  obtain ⟨-, ⟨x0, x1, x2, x3, x4⟩, -⟩ := R0.out; dsimp only at x1 x2 x3
                  by_cases h1 : j < d.s.length
                  · have h1z : j < Z.length := by rw [HZL.out]; exact h1
                    have hR : Rm wr A c Z := R0.out.2.2.1.2.2.1
                    obtain ⟨ad, rfl, -, -⟩ := hR.at_ h1z
                    have HE := Lib.hid (Rm.each (w := wr) (ad := ad) (c := c) h1z)
                    have HBS : Hid (qAcc true (d.s.take (j + 1)) = (qAcc true (d.s.take j) && qOne d.s[j])) := qAcc_snoc true h1
                    have HNS : Hid ((qmL (d.s.take (j + 1))).length = (qmL (d.s.take j)).length + ((mL d.s[j].1).length + (byL d.s[j].2).length)) := by
                      rw [Hid, List.take_add_one, List.getElem?_eq_getElem h1, qmL, List.flatMap_append, List.length_append]
                      simp [qmL]
                    have hk3 : (d.s[j]).2.length ≤ 300 := HCL.out _ (List.getElem_mem h1)
                    rw [HZA.out j h1z h1] at HBS HNS hk3
                    obtain ⟨⟨a1, a2, a3, a4, a5, a6, a7, a8⟩, hok⟩ := HE.out wr hR
                    clear hR HE
                    generalize Z[j] = z at *
                    obtain ⟨x, m, k⟩ := z
                    dsimp only at a1 a2 a3 a4 a5 a6 a7 a8 hok HBS HNS hk3
                    have hkl : k.length = x.k := hok.2.2
                    have R1 := Lib.hid (((R0.out.add (fH x m) hok.1).add (fT x.D x.e k) hok.2.1).mkM x m)
                    have HKL := Lib.hid hkl
                    have hxk : x.k ≤ 300 := by rw [← hkl]; exact hk3
                    clear hok hkl R0 hk3
                    go_upto_region 13 with (fail)
                    clear a1 a2 a3 a4 a5 a6 a7 a8
                    clear x0 x1 x2 x3 x4
                    have R1' : Hid (Sx w (wr.alloc (.cells #[.slice x.A m.a.length x.c, .slice x.B m.l.length x.d, .int .u8 m.r, .bool m.q, .int .i64 m.f, .int .i64 m.s, .int .i64 m.h, .slice x.D x.k x.e] 49)) [fM wr.heap.size x m, fT x.D x.e k, fH x m, fD w.heap.size ⟨G, gc, P, pc, some ad, c, Z⟩ d, fQm ⟨G, gc, P, pc, some ad, c, Z⟩ d, F]) := R1
                    clear R1
                    generalize wr.alloc (.cells #[.slice x.A m.a.length x.c, .slice x.B m.l.length x.d, .int .u8 m.r, .bool m.q, .int .i64 m.f, .int .i64 m.s, .int .i64 m.h, .slice x.D x.k x.e] 49) = wc at R1' ⊢
                    generalize wr.heap.size = TX at R1' ⊢
                    obtain ⟨-, ⟨o0, o1, o2, o3, o4, o5, o6, o7, o8⟩, -⟩ := R1'.out
                    go_wp2_with fail
                    refine (KHB x m _ R1'.out.2.2.2.2.2.2.1 R1'.out.2.2.2.1).mono ?_
                    rintro r1 wd ⟨A6, c6, rfl, -, hbd⟩
                    have R2 := Lib.hid (R1'.out.call hbd)
                    clear hbd R1' o0 o1 o2 o3 o4 o5 o6 o7 o8
                    obtain ⟨-, ⟨o0, o1, o2, o3, o4, o5, o6, o7, o8⟩, -⟩ := R2.out
                    go_wp2_with fail
                    refine (KCB x.D x.e x.k k _ R2.out.2.2.2.2.2.2.1 R2.out.2.2.1 HKL.out (by omega)).mono ?_
                    rintro r1 we ⟨A7, c7, rfl, -, hbe⟩
                    have R3 : Hid (Sx w we [fD w.heap.size ⟨G, gc, P, pc, some ad, c, Z⟩ d, fQm ⟨G, gc, P, pc, some ad, c, Z⟩ d, F]) := Lib.hid (by have := R2.out.call hbe; exact ⟨this.1, this.2.2.2.2⟩)
                    clear hbe R2 o0 o1 o2 o3 o4 o5 o6 o7 o8 HKL
                    have hl1 := mLl_le m
                    have hl2 := byL_le k
                    obtain ⟨n1, hn1⟩ : ∃ n, (mL m).length = n := ⟨_, rfl⟩
                    obtain ⟨n2, hn2⟩ : ∃ n, (byL k).length = n := ⟨_, rfl⟩
                    rw [hn1, hn2] at HNS
                    rw [hn1] at hl1 ⊢
                    rw [hn2] at hl2 ⊢
                    clear hn1 hn2
                    have HN2 : Hid (N + n1 + n2 = sz0 + (qmL (d.s.take (j + 1))).length) := by rw [Hid, HNS.out, HNN.out]; omega
                    clear HNN HNS
                    cases b with
                    | false =>
                      cases hm : mM m with
                      | false =>
                        cases hk : codM k with
                        | false =>
                          have e1 : mE m = 70 := by rw [mE, if_neg (by rw [hm]; decide)]
                          have e2 : cdE k = 40 := by rw [cdE, if_neg (by rw [hk]; decide)]
                          have HQ1 : Hid (false = qAcc true (d.s.take (j + 1))) := by
                            rw [Hid, HBS.out, ← HBB.out, qOne, hm, hk]
                            rfl
                          rw [e1, e2]
                          clear e1 e2 hm hk HBB HBS
                          go_wp2_with fail
                          go_roundw
                          case rel => exact ⟨j + 1, N + n1 + n2, false, by omega, by omega, by go_num, by go_num, rfl, HQ1, HN2, R3⟩
                          case measure => simp [intOf]; omega
                        | true =>
                          have e1 : mE m = 70 := by rw [mE, if_neg (by rw [hm]; decide)]
                          have e2 : cdE k = 0 := by rw [cdE, if_pos hk]
                          have HQ1 : Hid (false = qAcc true (d.s.take (j + 1))) := by
                            rw [Hid, HBS.out, ← HBB.out, qOne, hm, hk]
                            rfl
                          rw [e1, e2]
                          clear e1 e2 hm hk HBB HBS
                          go_wp2_with fail
                          go_roundw
                          case rel => exact ⟨j + 1, N + n1 + n2, false, by omega, by omega, by go_num, by go_num, rfl, HQ1, HN2, R3⟩
                          case measure => simp [intOf]; omega
                      | true =>
                        cases hk : codM k with
                        | false =>
                          have e1 : mE m = 0 := by rw [mE, if_pos hm]
                          have e2 : cdE k = 40 := by rw [cdE, if_neg (by rw [hk]; decide)]
                          have HQ1 : Hid (false = qAcc true (d.s.take (j + 1))) := by
                            rw [Hid, HBS.out, ← HBB.out, qOne, hm, hk]
                            rfl
                          rw [e1, e2]
                          clear e1 e2 hm hk HBB HBS
                          go_wp2_with fail
                          go_roundw
                          case rel => exact ⟨j + 1, N + n1 + n2, false, by omega, by omega, by go_num, by go_num, rfl, HQ1, HN2, R3⟩
                          case measure => simp [intOf]; omega
                        | true =>
                          have e1 : mE m = 0 := by rw [mE, if_pos hm]
                          have e2 : cdE k = 0 := by rw [cdE, if_pos hk]
                          have HQ1 : Hid (false = qAcc true (d.s.take (j + 1))) := by
                            rw [Hid, HBS.out, ← HBB.out, qOne, hm, hk]
                            rfl
                          rw [e1, e2]
                          clear e1 e2 hm hk HBB HBS
                          go_wp2_with fail
                          go_roundw
                          case rel => exact ⟨j + 1, N + n1 + n2, false, by omega, by omega, by go_num, by go_num, rfl, HQ1, HN2, R3⟩
                          case measure => simp [intOf]; omega
                    | true =>
                      cases hm : mM m with
                      | false =>
                        cases hk : codM k with
                        | false =>
                          have e1 : mE m = 70 := by rw [mE, if_neg (by rw [hm]; decide)]
                          have e2 : cdE k = 40 := by rw [cdE, if_neg (by rw [hk]; decide)]
                          have HQ1 : Hid (false = qAcc true (d.s.take (j + 1))) := by
                            rw [Hid, HBS.out, ← HBB.out, qOne, hm, hk]
                            rfl
                          rw [e1, e2]
                          clear e1 e2 hm hk HBB HBS
                          go_wp2_with fail
                          go_roundw
                          case rel => exact ⟨j + 1, N + n1 + n2, false, by omega, by omega, by go_num, by go_num, rfl, HQ1, HN2, R3⟩
                          case measure => simp [intOf]; omega
                        | true =>
                          have e1 : mE m = 70 := by rw [mE, if_neg (by rw [hm]; decide)]
                          have e2 : cdE k = 0 := by rw [cdE, if_pos hk]
                          have HQ1 : Hid (false = qAcc true (d.s.take (j + 1))) := by
                            rw [Hid, HBS.out, ← HBB.out, qOne, hm, hk]
                            rfl
                          rw [e1, e2]
                          clear e1 e2 hm hk HBB HBS
                          go_wp2_with fail
                          go_roundw
                          case rel => exact ⟨j + 1, N + n1 + n2, false, by omega, by omega, by go_num, by go_num, rfl, HQ1, HN2, R3⟩
                          case measure => simp [intOf]; omega
                      | true =>
                        cases hk : codM k with
                        | false =>
                          have e1 : mE m = 0 := by rw [mE, if_pos hm]
                          have e2 : cdE k = 40 := by rw [cdE, if_neg (by rw [hk]; decide)]
                          have HQ1 : Hid (false = qAcc true (d.s.take (j + 1))) := by
                            rw [Hid, HBS.out, ← HBB.out, qOne, hm, hk]
                            rfl
                          rw [e1, e2]
                          clear e1 e2 hm hk HBB HBS
                          go_wp2_with fail
                          go_roundw
                          case rel => exact ⟨j + 1, N + n1 + n2, false, by omega, by omega, by go_num, by go_num, rfl, HQ1, HN2, R3⟩
                          case measure => simp [intOf]; omega
                        | true =>
                          have e1 : mE m = 0 := by rw [mE, if_pos hm]
                          have e2 : cdE k = 0 := by rw [cdE, if_pos hk]
                          have HQ1 : Hid (true = qAcc true (d.s.take (j + 1))) := by
                            rw [Hid, HBS.out, ← HBB.out, qOne, hm, hk]
                            rfl
                          rw [e1, e2]
                          clear e1 e2 hm hk HBB HBS
                          go_wp2_with fail
                          go_roundw
                          case rel => exact ⟨j + 1, N + n1 + n2, true, by omega, by omega, by go_num, by go_num, rfl, HQ1, HN2, R3⟩
                          case measure => simp [intOf]; omega
                  · have hjn : j = d.s.length := by omega
                    subst j
                    have HB1 : Hid (b = qAcc true d.s) := by have := HBB.out; rwa [List.take_length] at this
                    have HN1 : Hid (N = sz0 + (qmL d.s).length) := by have := HNN.out; rwa [List.take_length] at this
                    clear HBB HNN
                    go_wp2_with fail
                    refine (KM ⟨G, gc, P, pc, A, c, Z⟩ d _ R0.out.2.2.2.1 R0.out.2.2.1 HG.out).mono ?_
                    rintro r1 wf ⟨rfl, hbf⟩
                    have R1 := Lib.hid (R0.out.call hbf)
                    clear hbf R0
                    clear x0 x1 x2 x3 x4
                    cases b with
                    | false =>
                      have HF := Lib.hid (qE_no (d := d) (by show qAcc (qMay d) d.s = false; rw [← HM0.out]; exact HB1.out.symm))
                      obtain ⟨ee, hee⟩ : ∃ ee, qE d = ee := ⟨_, rfl⟩
                      rw [hee] at HF ⊢
                      clear hee
                      have f1 : (ee != 0) = true := by simpa using HF.out.1
                      have f2 : (ee != 3) = true := by simpa using HF.out.2
                      go_wp2_with fail
                      go_ret
                      exact ⟨rfl, R1.out.1⟩
                    | true =>
                      have HT := Lib.hid (qE_yes (d := d) (by show qAcc (qMay d) d.s = true; rw [← HM0.out]; exact HB1.out.symm))
                      have HNX : Hid ((N : Int) = (qX d).length) := by
                        have := HT.out.2
                        rw [Hid, HN1.out, ← HS0.out]
                        omega
                      rw [HT.out.1]
                      by_cases hlong : 2000 < (qX d).length
                      · rw [if_pos hlong]
                        have hNl : ¬ (N : Int) ≤ 2000 := by have := HNX.out; omega
                        clear hlong
                        go_wp2_with fail
                        go_ret
                        exact ⟨by show Ending.returned (.bool (!decide ((N : Int) ≤ 2000))) = _; rw [decide_eq_false (by omega)]; rfl, R1.out.1⟩
                      · rw [if_neg hlong]
                        have hNl : (N : Int) ≤ 2000 := by have := HNX.out; omega
                        clear hlong
                        go_wp2_with fail
                        go_ret
                        exact ⟨rfl, R1.out.1⟩
              · have HM0 : Hid (false = qMay d) := by rw [Hid, hMay, decide_eq_false c4]; simp
                clear hMay
                obtain ⟨-, ⟨x0, x1, x2, x3, x4⟩, -⟩ := S4.out
                dsimp only at x1 x2 x3
                go_wp2_with fail
                refine (KPB G gc d.g.length d.g _ S4.out.2.2.2.1 S4.out.2.2.1.1 rfl (by omega)).mono ?_
                rintro r1 wa ⟨A4, c4, rfl, -, hba⟩
                have T1 := Lib.hid (S4.out.call hba)
                clear hba S4
                clear x0 x1 x2 x3 x4
                obtain ⟨-, ⟨x0, x1, x2, x3, x4⟩, -⟩ := T1.out
                dsimp only at x1 x2 x3
                go_wp2_with fail
                refine (KPB P pc d.p.length d.p _ T1.out.2.2.2.1 T1.out.2.2.1.2.1 rfl (by omega)).mono ?_
                rintro r1 wb ⟨A5, c5, rfl, -, hbb⟩
                have T2 := Lib.hid (T1.out.call hbb)
                clear hbb T1
                clear x0 x1 x2 x3 x4
                obtain ⟨sz0, hsz0⟩ : ∃ n, (poL d.g).length + (poL d.p).length + 2 = n := ⟨_, rfl⟩
                have HS0 := Lib.hid hsz0
                have bl1 := poL_len d.g
                have bl2 := poL_len d.p
                have bsz : sz0 ≤ 580 := by omega
                have hcast : ((poL d.g).length : Int) + (poL d.p).length + 2 = sz0 := by omega
                clear hsz0
                go_wp2_with fail
                clear hcast bl1 bl2
                go_loopw [3, 8, 9] (fun may sz i wr => ∃ (j N : Nat) (b : Bool), j ≤ d.s.length ∧ N ≤ 580 + j * 628 ∧ i = .int .i64 j ∧ sz = .int .i64 N ∧ may = .bool b ∧ Hid (b = qAcc false (d.s.take j)) ∧ Hid (N = sz0 + (qmL (d.s.take j)).length) ∧ Hid (Sx w wr [fD w.heap.size ⟨G, gc, P, pc, A, c, Z⟩ d, fQm ⟨G, gc, P, pc, A, c, Z⟩ d, F])) (fun _ _ i _ => d.s.length - (intOf i).toNat)
                case atStart => exact ⟨0, sz0, false, by omega, by omega, rfl, rfl, (by first | rfl | rw [decide_eq_false (by omega)] | rw [decide_eq_true (by omega)]), rfl, by simp [Hid, qmL], T2⟩
                case round =>
                  obtain ⟨j, N, b, hj, hN, rfl, rfl, rfl, HBB, HNN, R0⟩ := hrel
                  clear T2
                  obtain ⟨-, ⟨x0, x1, x2, x3, x4⟩, -⟩ := R0.out; dsimp only at x1 x2 x3
                  by_cases h1 : j < d.s.length
                  · have h1z : j < Z.length := by rw [HZL.out]; exact h1
                    have hR : Rm wr A c Z := R0.out.2.2.1.2.2.1
                    obtain ⟨ad, rfl, -, -⟩ := hR.at_ h1z
                    have HE := Lib.hid (Rm.each (w := wr) (ad := ad) (c := c) h1z)
                    have HBS : Hid (qAcc false (d.s.take (j + 1)) = (qAcc false (d.s.take j) && qOne d.s[j])) := qAcc_snoc false h1
                    have HNS : Hid ((qmL (d.s.take (j + 1))).length = (qmL (d.s.take j)).length + ((mL d.s[j].1).length + (byL d.s[j].2).length)) := by
                      rw [Hid, List.take_add_one, List.getElem?_eq_getElem h1, qmL, List.flatMap_append, List.length_append]
                      simp [qmL]
                    have hk3 : (d.s[j]).2.length ≤ 300 := HCL.out _ (List.getElem_mem h1)
                    rw [HZA.out j h1z h1] at HBS HNS hk3
                    obtain ⟨⟨a1, a2, a3, a4, a5, a6, a7, a8⟩, hok⟩ := HE.out wr hR
                    clear hR HE
                    generalize Z[j] = z at *
                    obtain ⟨x, m, k⟩ := z
                    dsimp only at a1 a2 a3 a4 a5 a6 a7 a8 hok HBS HNS hk3
                    have hkl : k.length = x.k := hok.2.2
                    have R1 := Lib.hid (((R0.out.add (fH x m) hok.1).add (fT x.D x.e k) hok.2.1).mkM x m)
                    have HKL := Lib.hid hkl
                    have hxk : x.k ≤ 300 := by rw [← hkl]; exact hk3
                    clear hok hkl R0 hk3
                    go_upto_region 13 with (fail)
                    clear a1 a2 a3 a4 a5 a6 a7 a8
                    clear x0 x1 x2 x3 x4
                    have R1' : Hid (Sx w (wr.alloc (.cells #[.slice x.A m.a.length x.c, .slice x.B m.l.length x.d, .int .u8 m.r, .bool m.q, .int .i64 m.f, .int .i64 m.s, .int .i64 m.h, .slice x.D x.k x.e] 49)) [fM wr.heap.size x m, fT x.D x.e k, fH x m, fD w.heap.size ⟨G, gc, P, pc, some ad, c, Z⟩ d, fQm ⟨G, gc, P, pc, some ad, c, Z⟩ d, F]) := R1
                    clear R1
                    generalize wr.alloc (.cells #[.slice x.A m.a.length x.c, .slice x.B m.l.length x.d, .int .u8 m.r, .bool m.q, .int .i64 m.f, .int .i64 m.s, .int .i64 m.h, .slice x.D x.k x.e] 49) = wc at R1' ⊢
                    generalize wr.heap.size = TX at R1' ⊢
                    obtain ⟨-, ⟨o0, o1, o2, o3, o4, o5, o6, o7, o8⟩, -⟩ := R1'.out
                    go_wp2_with fail
                    refine (KHB x m _ R1'.out.2.2.2.2.2.2.1 R1'.out.2.2.2.1).mono ?_
                    rintro r1 wd ⟨A6, c6, rfl, -, hbd⟩
                    have R2 := Lib.hid (R1'.out.call hbd)
                    clear hbd R1' o0 o1 o2 o3 o4 o5 o6 o7 o8
                    obtain ⟨-, ⟨o0, o1, o2, o3, o4, o5, o6, o7, o8⟩, -⟩ := R2.out
                    go_wp2_with fail
                    refine (KCB x.D x.e x.k k _ R2.out.2.2.2.2.2.2.1 R2.out.2.2.1 HKL.out (by omega)).mono ?_
                    rintro r1 we ⟨A7, c7, rfl, -, hbe⟩
                    have R3 : Hid (Sx w we [fD w.heap.size ⟨G, gc, P, pc, some ad, c, Z⟩ d, fQm ⟨G, gc, P, pc, some ad, c, Z⟩ d, F]) := Lib.hid (by have := R2.out.call hbe; exact ⟨this.1, this.2.2.2.2⟩)
                    clear hbe R2 o0 o1 o2 o3 o4 o5 o6 o7 o8 HKL
                    have hl1 := mLl_le m
                    have hl2 := byL_le k
                    obtain ⟨n1, hn1⟩ : ∃ n, (mL m).length = n := ⟨_, rfl⟩
                    obtain ⟨n2, hn2⟩ : ∃ n, (byL k).length = n := ⟨_, rfl⟩
                    rw [hn1, hn2] at HNS
                    rw [hn1] at hl1 ⊢
                    rw [hn2] at hl2 ⊢
                    clear hn1 hn2
                    have HN2 : Hid (N + n1 + n2 = sz0 + (qmL (d.s.take (j + 1))).length) := by rw [Hid, HNS.out, HNN.out]; omega
                    clear HNN HNS
                    cases b with
                    | false =>
                      cases hm : mM m with
                      | false =>
                        cases hk : codM k with
                        | false =>
                          have e1 : mE m = 70 := by rw [mE, if_neg (by rw [hm]; decide)]
                          have e2 : cdE k = 40 := by rw [cdE, if_neg (by rw [hk]; decide)]
                          have HQ1 : Hid (false = qAcc false (d.s.take (j + 1))) := by
                            rw [Hid, HBS.out, ← HBB.out, qOne, hm, hk]
                            rfl
                          rw [e1, e2]
                          clear e1 e2 hm hk HBB HBS
                          go_wp2_with fail
                          go_roundw
                          case rel => exact ⟨j + 1, N + n1 + n2, false, by omega, by omega, by go_num, by go_num, rfl, HQ1, HN2, R3⟩
                          case measure => simp [intOf]; omega
                        | true =>
                          have e1 : mE m = 70 := by rw [mE, if_neg (by rw [hm]; decide)]
                          have e2 : cdE k = 0 := by rw [cdE, if_pos hk]
                          have HQ1 : Hid (false = qAcc false (d.s.take (j + 1))) := by
                            rw [Hid, HBS.out, ← HBB.out, qOne, hm, hk]
                            rfl
                          rw [e1, e2]
                          clear e1 e2 hm hk HBB HBS
                          go_wp2_with fail
                          go_roundw
                          case rel => exact ⟨j + 1, N + n1 + n2, false, by omega, by omega, by go_num, by go_num, rfl, HQ1, HN2, R3⟩
                          case measure => simp [intOf]; omega
                      | true =>
                        cases hk : codM k with
                        | false =>
                          have e1 : mE m = 0 := by rw [mE, if_pos hm]
                          have e2 : cdE k = 40 := by rw [cdE, if_neg (by rw [hk]; decide)]
                          have HQ1 : Hid (false = qAcc false (d.s.take (j + 1))) := by
                            rw [Hid, HBS.out, ← HBB.out, qOne, hm, hk]
                            rfl
                          rw [e1, e2]
                          clear e1 e2 hm hk HBB HBS
                          go_wp2_with fail
                          go_roundw
                          case rel => exact ⟨j + 1, N + n1 + n2, false, by omega, by omega, by go_num, by go_num, rfl, HQ1, HN2, R3⟩
                          case measure => simp [intOf]; omega
                        | true =>
                          have e1 : mE m = 0 := by rw [mE, if_pos hm]
                          have e2 : cdE k = 0 := by rw [cdE, if_pos hk]
                          have HQ1 : Hid (false = qAcc false (d.s.take (j + 1))) := by
                            rw [Hid, HBS.out, ← HBB.out, qOne, hm, hk]
                            rfl
                          rw [e1, e2]
                          clear e1 e2 hm hk HBB HBS
                          go_wp2_with fail
                          go_roundw
                          case rel => exact ⟨j + 1, N + n1 + n2, false, by omega, by omega, by go_num, by go_num, rfl, HQ1, HN2, R3⟩
                          case measure => simp [intOf]; omega
                    | true =>
                      cases hm : mM m with
                      | false =>
                        cases hk : codM k with
                        | false =>
                          have e1 : mE m = 70 := by rw [mE, if_neg (by rw [hm]; decide)]
                          have e2 : cdE k = 40 := by rw [cdE, if_neg (by rw [hk]; decide)]
                          have HQ1 : Hid (false = qAcc false (d.s.take (j + 1))) := by
                            rw [Hid, HBS.out, ← HBB.out, qOne, hm, hk]
                            rfl
                          rw [e1, e2]
                          clear e1 e2 hm hk HBB HBS
                          go_wp2_with fail
                          go_roundw
                          case rel => exact ⟨j + 1, N + n1 + n2, false, by omega, by omega, by go_num, by go_num, rfl, HQ1, HN2, R3⟩
                          case measure => simp [intOf]; omega
                        | true =>
                          have e1 : mE m = 70 := by rw [mE, if_neg (by rw [hm]; decide)]
                          have e2 : cdE k = 0 := by rw [cdE, if_pos hk]
                          have HQ1 : Hid (false = qAcc false (d.s.take (j + 1))) := by
                            rw [Hid, HBS.out, ← HBB.out, qOne, hm, hk]
                            rfl
                          rw [e1, e2]
                          clear e1 e2 hm hk HBB HBS
                          go_wp2_with fail
                          go_roundw
                          case rel => exact ⟨j + 1, N + n1 + n2, false, by omega, by omega, by go_num, by go_num, rfl, HQ1, HN2, R3⟩
                          case measure => simp [intOf]; omega
                      | true =>
                        cases hk : codM k with
                        | false =>
                          have e1 : mE m = 0 := by rw [mE, if_pos hm]
                          have e2 : cdE k = 40 := by rw [cdE, if_neg (by rw [hk]; decide)]
                          have HQ1 : Hid (false = qAcc false (d.s.take (j + 1))) := by
                            rw [Hid, HBS.out, ← HBB.out, qOne, hm, hk]
                            rfl
                          rw [e1, e2]
                          clear e1 e2 hm hk HBB HBS
                          go_wp2_with fail
                          go_roundw
                          case rel => exact ⟨j + 1, N + n1 + n2, false, by omega, by omega, by go_num, by go_num, rfl, HQ1, HN2, R3⟩
                          case measure => simp [intOf]; omega
                        | true =>
                          have e1 : mE m = 0 := by rw [mE, if_pos hm]
                          have e2 : cdE k = 0 := by rw [cdE, if_pos hk]
                          have HQ1 : Hid (true = qAcc false (d.s.take (j + 1))) := by
                            rw [Hid, HBS.out, ← HBB.out, qOne, hm, hk]
                            rfl
                          rw [e1, e2]
                          clear e1 e2 hm hk HBB HBS
                          go_wp2_with fail
                          go_roundw
                          case rel => exact ⟨j + 1, N + n1 + n2, true, by omega, by omega, by go_num, by go_num, rfl, HQ1, HN2, R3⟩
                          case measure => simp [intOf]; omega
                  · have hjn : j = d.s.length := by omega
                    subst j
                    have HB1 : Hid (b = qAcc false d.s) := by have := HBB.out; rwa [List.take_length] at this
                    have HN1 : Hid (N = sz0 + (qmL d.s).length) := by have := HNN.out; rwa [List.take_length] at this
                    clear HBB HNN
                    go_wp2_with fail
                    refine (KM ⟨G, gc, P, pc, A, c, Z⟩ d _ R0.out.2.2.2.1 R0.out.2.2.1 HG.out).mono ?_
                    rintro r1 wf ⟨rfl, hbf⟩
                    have R1 := Lib.hid (R0.out.call hbf)
                    clear hbf R0
                    clear x0 x1 x2 x3 x4
                    cases b with
                    | false =>
                      have HF := Lib.hid (qE_no (d := d) (by show qAcc (qMay d) d.s = false; rw [← HM0.out]; exact HB1.out.symm))
                      obtain ⟨ee, hee⟩ : ∃ ee, qE d = ee := ⟨_, rfl⟩
                      rw [hee] at HF ⊢
                      clear hee
                      have f1 : (ee != 0) = true := by simpa using HF.out.1
                      have f2 : (ee != 3) = true := by simpa using HF.out.2
                      go_wp2_with fail
                      go_ret
                      exact ⟨rfl, R1.out.1⟩
                    | true =>
                      have HT := Lib.hid (qE_yes (d := d) (by show qAcc (qMay d) d.s = true; rw [← HM0.out]; exact HB1.out.symm))
                      have HNX : Hid ((N : Int) = (qX d).length) := by
                        have := HT.out.2
                        rw [Hid, HN1.out, ← HS0.out]
                        omega
                      rw [HT.out.1]
                      by_cases hlong : 2000 < (qX d).length
                      · rw [if_pos hlong]
                        have hNl : ¬ (N : Int) ≤ 2000 := by have := HNX.out; omega
                        clear hlong
                        go_wp2_with fail
                        go_ret
                        exact ⟨by show Ending.returned (.bool (!decide ((N : Int) ≤ 2000))) = _; rw [decide_eq_false (by omega)]; rfl, R1.out.1⟩
                      · rw [if_neg hlong]
                        have hNl : (N : Int) ≤ 2000 := by have := HNX.out; omega
                        clear hlong
                        go_wp2_with fail
                        go_ret
                        exact ⟨rfl, R1.out.1⟩
            · have HM0 : Hid (false = qMay d) := by rw [Hid, hMay, decide_eq_false c3]; simp
              clear hMay
              obtain ⟨-, ⟨x0, x1, x2, x3, x4⟩, -⟩ := S4.out
              dsimp only at x1 x2 x3
              go_wp2_with fail
              refine (KPB G gc d.g.length d.g _ S4.out.2.2.2.1 S4.out.2.2.1.1 rfl (by omega)).mono ?_
              rintro r1 wa ⟨A4, c4, rfl, -, hba⟩
              have T1 := Lib.hid (S4.out.call hba)
              clear hba S4
              clear x0 x1 x2 x3 x4
              obtain ⟨-, ⟨x0, x1, x2, x3, x4⟩, -⟩ := T1.out
              dsimp only at x1 x2 x3
              go_wp2_with fail
              refine (KPB P pc d.p.length d.p _ T1.out.2.2.2.1 T1.out.2.2.1.2.1 rfl (by omega)).mono ?_
              rintro r1 wb ⟨A5, c5, rfl, -, hbb⟩
              have T2 := Lib.hid (T1.out.call hbb)
              clear hbb T1
              clear x0 x1 x2 x3 x4
              obtain ⟨sz0, hsz0⟩ : ∃ n, (poL d.g).length + (poL d.p).length + 2 = n := ⟨_, rfl⟩
              have HS0 := Lib.hid hsz0
              have bl1 := poL_len d.g
              have bl2 := poL_len d.p
              have bsz : sz0 ≤ 580 := by omega
              have hcast : ((poL d.g).length : Int) + (poL d.p).length + 2 = sz0 := by omega
              clear hsz0
              go_wp2_with fail
              clear hcast bl1 bl2
              go_loopw [3, 8, 9] (fun may sz i wr => ∃ (j N : Nat) (b : Bool), j ≤ d.s.length ∧ N ≤ 580 + j * 628 ∧ i = .int .i64 j ∧ sz = .int .i64 N ∧ may = .bool b ∧ Hid (b = qAcc false (d.s.take j)) ∧ Hid (N = sz0 + (qmL (d.s.take j)).length) ∧ Hid (Sx w wr [fD w.heap.size ⟨G, gc, P, pc, A, c, Z⟩ d, fQm ⟨G, gc, P, pc, A, c, Z⟩ d, F])) (fun _ _ i _ => d.s.length - (intOf i).toNat)
              case atStart => exact ⟨0, sz0, false, by omega, by omega, rfl, rfl, (by first | rfl | rw [decide_eq_false (by omega)] | rw [decide_eq_true (by omega)]), rfl, by simp [Hid, qmL], T2⟩
              case round =>
                obtain ⟨j, N, b, hj, hN, rfl, rfl, rfl, HBB, HNN, R0⟩ := hrel
                clear T2
                obtain ⟨-, ⟨x0, x1, x2, x3, x4⟩, -⟩ := R0.out; dsimp only at x1 x2 x3
                by_cases h1 : j < d.s.length
                · have h1z : j < Z.length := by rw [HZL.out]; exact h1
                  have hR : Rm wr A c Z := R0.out.2.2.1.2.2.1
                  obtain ⟨ad, rfl, -, -⟩ := hR.at_ h1z
                  have HE := Lib.hid (Rm.each (w := wr) (ad := ad) (c := c) h1z)
                  have HBS : Hid (qAcc false (d.s.take (j + 1)) = (qAcc false (d.s.take j) && qOne d.s[j])) := qAcc_snoc false h1
                  have HNS : Hid ((qmL (d.s.take (j + 1))).length = (qmL (d.s.take j)).length + ((mL d.s[j].1).length + (byL d.s[j].2).length)) := by
                    rw [Hid, List.take_add_one, List.getElem?_eq_getElem h1, qmL, List.flatMap_append, List.length_append]
                    simp [qmL]
                  have hk3 : (d.s[j]).2.length ≤ 300 := HCL.out _ (List.getElem_mem h1)
                  rw [HZA.out j h1z h1] at HBS HNS hk3
                  obtain ⟨⟨a1, a2, a3, a4, a5, a6, a7, a8⟩, hok⟩ := HE.out wr hR
                  clear hR HE
                  generalize Z[j] = z at *
                  obtain ⟨x, m, k⟩ := z
                  dsimp only at a1 a2 a3 a4 a5 a6 a7 a8 hok HBS HNS hk3
                  have hkl : k.length = x.k := hok.2.2
                  have R1 := Lib.hid (((R0.out.add (fH x m) hok.1).add (fT x.D x.e k) hok.2.1).mkM x m)
                  have HKL := Lib.hid hkl
                  have hxk : x.k ≤ 300 := by rw [← hkl]; exact hk3
                  clear hok hkl R0 hk3
                  go_upto_region 13 with (fail)
                  clear a1 a2 a3 a4 a5 a6 a7 a8
                  clear x0 x1 x2 x3 x4
                  have R1' : Hid (Sx w (wr.alloc (.cells #[.slice x.A m.a.length x.c, .slice x.B m.l.length x.d, .int .u8 m.r, .bool m.q, .int .i64 m.f, .int .i64 m.s, .int .i64 m.h, .slice x.D x.k x.e] 49)) [fM wr.heap.size x m, fT x.D x.e k, fH x m, fD w.heap.size ⟨G, gc, P, pc, some ad, c, Z⟩ d, fQm ⟨G, gc, P, pc, some ad, c, Z⟩ d, F]) := R1
                  clear R1
                  generalize wr.alloc (.cells #[.slice x.A m.a.length x.c, .slice x.B m.l.length x.d, .int .u8 m.r, .bool m.q, .int .i64 m.f, .int .i64 m.s, .int .i64 m.h, .slice x.D x.k x.e] 49) = wc at R1' ⊢
                  generalize wr.heap.size = TX at R1' ⊢
                  obtain ⟨-, ⟨o0, o1, o2, o3, o4, o5, o6, o7, o8⟩, -⟩ := R1'.out
                  go_wp2_with fail
                  refine (KHB x m _ R1'.out.2.2.2.2.2.2.1 R1'.out.2.2.2.1).mono ?_
                  rintro r1 wd ⟨A6, c6, rfl, -, hbd⟩
                  have R2 := Lib.hid (R1'.out.call hbd)
                  clear hbd R1' o0 o1 o2 o3 o4 o5 o6 o7 o8
                  obtain ⟨-, ⟨o0, o1, o2, o3, o4, o5, o6, o7, o8⟩, -⟩ := R2.out
                  go_wp2_with fail
                  refine (KCB x.D x.e x.k k _ R2.out.2.2.2.2.2.2.1 R2.out.2.2.1 HKL.out (by omega)).mono ?_
                  rintro r1 we ⟨A7, c7, rfl, -, hbe⟩
                  have R3 : Hid (Sx w we [fD w.heap.size ⟨G, gc, P, pc, some ad, c, Z⟩ d, fQm ⟨G, gc, P, pc, some ad, c, Z⟩ d, F]) := Lib.hid (by have := R2.out.call hbe; exact ⟨this.1, this.2.2.2.2⟩)
                  clear hbe R2 o0 o1 o2 o3 o4 o5 o6 o7 o8 HKL
                  have hl1 := mLl_le m
                  have hl2 := byL_le k
                  obtain ⟨n1, hn1⟩ : ∃ n, (mL m).length = n := ⟨_, rfl⟩
                  obtain ⟨n2, hn2⟩ : ∃ n, (byL k).length = n := ⟨_, rfl⟩
                  rw [hn1, hn2] at HNS
                  rw [hn1] at hl1 ⊢
                  rw [hn2] at hl2 ⊢
                  clear hn1 hn2
                  have HN2 : Hid (N + n1 + n2 = sz0 + (qmL (d.s.take (j + 1))).length) := by rw [Hid, HNS.out, HNN.out]; omega
                  clear HNN HNS
                  cases b with
                  | false =>
                    cases hm : mM m with
                    | false =>
                      cases hk : codM k with
                      | false =>
                        have e1 : mE m = 70 := by rw [mE, if_neg (by rw [hm]; decide)]
                        have e2 : cdE k = 40 := by rw [cdE, if_neg (by rw [hk]; decide)]
                        have HQ1 : Hid (false = qAcc false (d.s.take (j + 1))) := by
                          rw [Hid, HBS.out, ← HBB.out, qOne, hm, hk]
                          rfl
                        rw [e1, e2]
                        clear e1 e2 hm hk HBB HBS
                        go_wp2_with fail
                        go_roundw
                        case rel => exact ⟨j + 1, N + n1 + n2, false, by omega, by omega, by go_num, by go_num, rfl, HQ1, HN2, R3⟩
                        case measure => simp [intOf]; omega
                      | true =>
                        have e1 : mE m = 70 := by rw [mE, if_neg (by rw [hm]; decide)]
                        have e2 : cdE k = 0 := by rw [cdE, if_pos hk]
                        have HQ1 : Hid (false = qAcc false (d.s.take (j + 1))) := by
                          rw [Hid, HBS.out, ← HBB.out, qOne, hm, hk]
                          rfl
                        rw [e1, e2]
                        clear e1 e2 hm hk HBB HBS
                        go_wp2_with fail
                        go_roundw
                        case rel => exact ⟨j + 1, N + n1 + n2, false, by omega, by omega, by go_num, by go_num, rfl, HQ1, HN2, R3⟩
                        case measure => simp [intOf]; omega
                    | true =>
                      cases hk : codM k with
                      | false =>
                        have e1 : mE m = 0 := by rw [mE, if_pos hm]
                        have e2 : cdE k = 40 := by rw [cdE, if_neg (by rw [hk]; decide)]
                        have HQ1 : Hid (false = qAcc false (d.s.take (j + 1))) := by
                          rw [Hid, HBS.out, ← HBB.out, qOne, hm, hk]
                          rfl
                        rw [e1, e2]
                        clear e1 e2 hm hk HBB HBS
                        go_wp2_with fail
                        go_roundw
                        case rel => exact ⟨j + 1, N + n1 + n2, false, by omega, by omega, by go_num, by go_num, rfl, HQ1, HN2, R3⟩
                        case measure => simp [intOf]; omega
                      | true =>
                        have e1 : mE m = 0 := by rw [mE, if_pos hm]
                        have e2 : cdE k = 0 := by rw [cdE, if_pos hk]
                        have HQ1 : Hid (false = qAcc false (d.s.take (j + 1))) := by
                          rw [Hid, HBS.out, ← HBB.out, qOne, hm, hk]
                          rfl
                        rw [e1, e2]
                        clear e1 e2 hm hk HBB HBS
                        go_wp2_with fail
                        go_roundw
                        case rel => exact ⟨j + 1, N + n1 + n2, false, by omega, by omega, by go_num, by go_num, rfl, HQ1, HN2, R3⟩
                        case measure => simp [intOf]; omega
                  | true =>
                    cases hm : mM m with
                    | false =>
                      cases hk : codM k with
                      | false =>
                        have e1 : mE m = 70 := by rw [mE, if_neg (by rw [hm]; decide)]
                        have e2 : cdE k = 40 := by rw [cdE, if_neg (by rw [hk]; decide)]
                        have HQ1 : Hid (false = qAcc false (d.s.take (j + 1))) := by
                          rw [Hid, HBS.out, ← HBB.out, qOne, hm, hk]
                          rfl
                        rw [e1, e2]
                        clear e1 e2 hm hk HBB HBS
                        go_wp2_with fail
                        go_roundw
                        case rel => exact ⟨j + 1, N + n1 + n2, false, by omega, by omega, by go_num, by go_num, rfl, HQ1, HN2, R3⟩
                        case measure => simp [intOf]; omega
                      | true =>
                        have e1 : mE m = 70 := by rw [mE, if_neg (by rw [hm]; decide)]
                        have e2 : cdE k = 0 := by rw [cdE, if_pos hk]
                        have HQ1 : Hid (false = qAcc false (d.s.take (j + 1))) := by
                          rw [Hid, HBS.out, ← HBB.out, qOne, hm, hk]
                          rfl
                        rw [e1, e2]
                        clear e1 e2 hm hk HBB HBS
                        go_wp2_with fail
                        go_roundw
                        case rel => exact ⟨j + 1, N + n1 + n2, false, by omega, by omega, by go_num, by go_num, rfl, HQ1, HN2, R3⟩
                        case measure => simp [intOf]; omega
                    | true =>
                      cases hk : codM k with
                      | false =>
                        have e1 : mE m = 0 := by rw [mE, if_pos hm]
                        have e2 : cdE k = 40 := by rw [cdE, if_neg (by rw [hk]; decide)]
                        have HQ1 : Hid (false = qAcc false (d.s.take (j + 1))) := by
                          rw [Hid, HBS.out, ← HBB.out, qOne, hm, hk]
                          rfl
                        rw [e1, e2]
                        clear e1 e2 hm hk HBB HBS
                        go_wp2_with fail
                        go_roundw
                        case rel => exact ⟨j + 1, N + n1 + n2, false, by omega, by omega, by go_num, by go_num, rfl, HQ1, HN2, R3⟩
                        case measure => simp [intOf]; omega
                      | true =>
                        have e1 : mE m = 0 := by rw [mE, if_pos hm]
                        have e2 : cdE k = 0 := by rw [cdE, if_pos hk]
                        have HQ1 : Hid (true = qAcc false (d.s.take (j + 1))) := by
                          rw [Hid, HBS.out, ← HBB.out, qOne, hm, hk]
                          rfl
                        rw [e1, e2]
                        clear e1 e2 hm hk HBB HBS
                        go_wp2_with fail
                        go_roundw
                        case rel => exact ⟨j + 1, N + n1 + n2, true, by omega, by omega, by go_num, by go_num, rfl, HQ1, HN2, R3⟩
                        case measure => simp [intOf]; omega
                · have hjn : j = d.s.length := by omega
                  subst j
                  have HB1 : Hid (b = qAcc false d.s) := by have := HBB.out; rwa [List.take_length] at this
                  have HN1 : Hid (N = sz0 + (qmL d.s).length) := by have := HNN.out; rwa [List.take_length] at this
                  clear HBB HNN
                  go_wp2_with fail
                  refine (KM ⟨G, gc, P, pc, A, c, Z⟩ d _ R0.out.2.2.2.1 R0.out.2.2.1 HG.out).mono ?_
                  rintro r1 wf ⟨rfl, hbf⟩
                  have R1 := Lib.hid (R0.out.call hbf)
                  clear hbf R0
                  clear x0 x1 x2 x3 x4
                  cases b with
                  | false =>
                    have HF := Lib.hid (qE_no (d := d) (by show qAcc (qMay d) d.s = false; rw [← HM0.out]; exact HB1.out.symm))
                    obtain ⟨ee, hee⟩ : ∃ ee, qE d = ee := ⟨_, rfl⟩
                    rw [hee] at HF ⊢
                    clear hee
                    have f1 : (ee != 0) = true := by simpa using HF.out.1
                    have f2 : (ee != 3) = true := by simpa using HF.out.2
                    go_wp2_with fail
                    go_ret
                    exact ⟨rfl, R1.out.1⟩
                  | true =>
                    have HT := Lib.hid (qE_yes (d := d) (by show qAcc (qMay d) d.s = true; rw [← HM0.out]; exact HB1.out.symm))
                    have HNX : Hid ((N : Int) = (qX d).length) := by
                      have := HT.out.2
                      rw [Hid, HN1.out, ← HS0.out]
                      omega
                    rw [HT.out.1]
                    by_cases hlong : 2000 < (qX d).length
                    · rw [if_pos hlong]
                      have hNl : ¬ (N : Int) ≤ 2000 := by have := HNX.out; omega
                      clear hlong
                      go_wp2_with fail
                      go_ret
                      exact ⟨by show Ending.returned (.bool (!decide ((N : Int) ≤ 2000))) = _; rw [decide_eq_false (by omega)]; rfl, R1.out.1⟩
                    · rw [if_neg hlong]
                      have hNl : (N : Int) ≤ 2000 := by have := HNX.out; omega
                      clear hlong
                      go_wp2_with fail
                      go_ret
                      exact ⟨rfl, R1.out.1⟩
          · have HM0 : Hid (false = qMay d) := by rw [Hid, hMay, decide_eq_false c2]; simp
            clear hMay
            obtain ⟨-, ⟨x0, x1, x2, x3, x4⟩, -⟩ := S4.out
            dsimp only at x1 x2 x3
            go_wp2_with fail
            refine (KPB G gc d.g.length d.g _ S4.out.2.2.2.1 S4.out.2.2.1.1 rfl (by omega)).mono ?_
            rintro r1 wa ⟨A4, c4, rfl, -, hba⟩
            have T1 := Lib.hid (S4.out.call hba)
            clear hba S4
            clear x0 x1 x2 x3 x4
            obtain ⟨-, ⟨x0, x1, x2, x3, x4⟩, -⟩ := T1.out
            dsimp only at x1 x2 x3
            go_wp2_with fail
            refine (KPB P pc d.p.length d.p _ T1.out.2.2.2.1 T1.out.2.2.1.2.1 rfl (by omega)).mono ?_
            rintro r1 wb ⟨A5, c5, rfl, -, hbb⟩
            have T2 := Lib.hid (T1.out.call hbb)
            clear hbb T1
            clear x0 x1 x2 x3 x4
            obtain ⟨sz0, hsz0⟩ : ∃ n, (poL d.g).length + (poL d.p).length + 2 = n := ⟨_, rfl⟩
            have HS0 := Lib.hid hsz0
            have bl1 := poL_len d.g
            have bl2 := poL_len d.p
            have bsz : sz0 ≤ 580 := by omega
            have hcast : ((poL d.g).length : Int) + (poL d.p).length + 2 = sz0 := by omega
            clear hsz0
            go_wp2_with fail
            clear hcast bl1 bl2
            go_loopw [3, 8, 9] (fun may sz i wr => ∃ (j N : Nat) (b : Bool), j ≤ d.s.length ∧ N ≤ 580 + j * 628 ∧ i = .int .i64 j ∧ sz = .int .i64 N ∧ may = .bool b ∧ Hid (b = qAcc false (d.s.take j)) ∧ Hid (N = sz0 + (qmL (d.s.take j)).length) ∧ Hid (Sx w wr [fD w.heap.size ⟨G, gc, P, pc, A, c, Z⟩ d, fQm ⟨G, gc, P, pc, A, c, Z⟩ d, F])) (fun _ _ i _ => d.s.length - (intOf i).toNat)
            case atStart => exact ⟨0, sz0, false, by omega, by omega, rfl, rfl, (by first | rfl | rw [decide_eq_false (by omega)] | rw [decide_eq_true (by omega)]), rfl, by simp [Hid, qmL], T2⟩
            case round =>
              obtain ⟨j, N, b, hj, hN, rfl, rfl, rfl, HBB, HNN, R0⟩ := hrel
              clear T2
              obtain ⟨-, ⟨x0, x1, x2, x3, x4⟩, -⟩ := R0.out; dsimp only at x1 x2 x3
              by_cases h1 : j < d.s.length
              · have h1z : j < Z.length := by rw [HZL.out]; exact h1
                have hR : Rm wr A c Z := R0.out.2.2.1.2.2.1
                obtain ⟨ad, rfl, -, -⟩ := hR.at_ h1z
                have HE := Lib.hid (Rm.each (w := wr) (ad := ad) (c := c) h1z)
                have HBS : Hid (qAcc false (d.s.take (j + 1)) = (qAcc false (d.s.take j) && qOne d.s[j])) := qAcc_snoc false h1
                have HNS : Hid ((qmL (d.s.take (j + 1))).length = (qmL (d.s.take j)).length + ((mL d.s[j].1).length + (byL d.s[j].2).length)) := by
                  rw [Hid, List.take_add_one, List.getElem?_eq_getElem h1, qmL, List.flatMap_append, List.length_append]
                  simp [qmL]
                have hk3 : (d.s[j]).2.length ≤ 300 := HCL.out _ (List.getElem_mem h1)
                rw [HZA.out j h1z h1] at HBS HNS hk3
                obtain ⟨⟨a1, a2, a3, a4, a5, a6, a7, a8⟩, hok⟩ := HE.out wr hR
                clear hR HE
                generalize Z[j] = z at *
                obtain ⟨x, m, k⟩ := z
                dsimp only at a1 a2 a3 a4 a5 a6 a7 a8 hok HBS HNS hk3
                have hkl : k.length = x.k := hok.2.2
                have R1 := Lib.hid (((R0.out.add (fH x m) hok.1).add (fT x.D x.e k) hok.2.1).mkM x m)
                have HKL := Lib.hid hkl
                have hxk : x.k ≤ 300 := by rw [← hkl]; exact hk3
                clear hok hkl R0 hk3
                go_upto_region 13 with (fail)
                clear a1 a2 a3 a4 a5 a6 a7 a8
                clear x0 x1 x2 x3 x4
                have R1' : Hid (Sx w (wr.alloc (.cells #[.slice x.A m.a.length x.c, .slice x.B m.l.length x.d, .int .u8 m.r, .bool m.q, .int .i64 m.f, .int .i64 m.s, .int .i64 m.h, .slice x.D x.k x.e] 49)) [fM wr.heap.size x m, fT x.D x.e k, fH x m, fD w.heap.size ⟨G, gc, P, pc, some ad, c, Z⟩ d, fQm ⟨G, gc, P, pc, some ad, c, Z⟩ d, F]) := R1
                clear R1
                generalize wr.alloc (.cells #[.slice x.A m.a.length x.c, .slice x.B m.l.length x.d, .int .u8 m.r, .bool m.q, .int .i64 m.f, .int .i64 m.s, .int .i64 m.h, .slice x.D x.k x.e] 49) = wc at R1' ⊢
                generalize wr.heap.size = TX at R1' ⊢
                obtain ⟨-, ⟨o0, o1, o2, o3, o4, o5, o6, o7, o8⟩, -⟩ := R1'.out
                go_wp2_with fail
                refine (KHB x m _ R1'.out.2.2.2.2.2.2.1 R1'.out.2.2.2.1).mono ?_
                rintro r1 wd ⟨A6, c6, rfl, -, hbd⟩
                have R2 := Lib.hid (R1'.out.call hbd)
                clear hbd R1' o0 o1 o2 o3 o4 o5 o6 o7 o8
                obtain ⟨-, ⟨o0, o1, o2, o3, o4, o5, o6, o7, o8⟩, -⟩ := R2.out
                go_wp2_with fail
                refine (KCB x.D x.e x.k k _ R2.out.2.2.2.2.2.2.1 R2.out.2.2.1 HKL.out (by omega)).mono ?_
                rintro r1 we ⟨A7, c7, rfl, -, hbe⟩
                have R3 : Hid (Sx w we [fD w.heap.size ⟨G, gc, P, pc, some ad, c, Z⟩ d, fQm ⟨G, gc, P, pc, some ad, c, Z⟩ d, F]) := Lib.hid (by have := R2.out.call hbe; exact ⟨this.1, this.2.2.2.2⟩)
                clear hbe R2 o0 o1 o2 o3 o4 o5 o6 o7 o8 HKL
                have hl1 := mLl_le m
                have hl2 := byL_le k
                obtain ⟨n1, hn1⟩ : ∃ n, (mL m).length = n := ⟨_, rfl⟩
                obtain ⟨n2, hn2⟩ : ∃ n, (byL k).length = n := ⟨_, rfl⟩
                rw [hn1, hn2] at HNS
                rw [hn1] at hl1 ⊢
                rw [hn2] at hl2 ⊢
                clear hn1 hn2
                have HN2 : Hid (N + n1 + n2 = sz0 + (qmL (d.s.take (j + 1))).length) := by rw [Hid, HNS.out, HNN.out]; omega
                clear HNN HNS
                cases b with
                | false =>
                  cases hm : mM m with
                  | false =>
                    cases hk : codM k with
                    | false =>
                      have e1 : mE m = 70 := by rw [mE, if_neg (by rw [hm]; decide)]
                      have e2 : cdE k = 40 := by rw [cdE, if_neg (by rw [hk]; decide)]
                      have HQ1 : Hid (false = qAcc false (d.s.take (j + 1))) := by
                        rw [Hid, HBS.out, ← HBB.out, qOne, hm, hk]
                        rfl
                      rw [e1, e2]
                      clear e1 e2 hm hk HBB HBS
                      go_wp2_with fail
                      go_roundw
                      case rel => exact ⟨j + 1, N + n1 + n2, false, by omega, by omega, by go_num, by go_num, rfl, HQ1, HN2, R3⟩
                      case measure => simp [intOf]; omega
                    | true =>
                      have e1 : mE m = 70 := by rw [mE, if_neg (by rw [hm]; decide)]
                      have e2 : cdE k = 0 := by rw [cdE, if_pos hk]
                      have HQ1 : Hid (false = qAcc false (d.s.take (j + 1))) := by
                        rw [Hid, HBS.out, ← HBB.out, qOne, hm, hk]
                        rfl
                      rw [e1, e2]
                      clear e1 e2 hm hk HBB HBS
                      go_wp2_with fail
                      go_roundw
                      case rel => exact ⟨j + 1, N + n1 + n2, false, by omega, by omega, by go_num, by go_num, rfl, HQ1, HN2, R3⟩
                      case measure => simp [intOf]; omega
                  | true =>
                    cases hk : codM k with
                    | false =>
                      have e1 : mE m = 0 := by rw [mE, if_pos hm]
                      have e2 : cdE k = 40 := by rw [cdE, if_neg (by rw [hk]; decide)]
                      have HQ1 : Hid (false = qAcc false (d.s.take (j + 1))) := by
                        rw [Hid, HBS.out, ← HBB.out, qOne, hm, hk]
                        rfl
                      rw [e1, e2]
                      clear e1 e2 hm hk HBB HBS
                      go_wp2_with fail
                      go_roundw
                      case rel => exact ⟨j + 1, N + n1 + n2, false, by omega, by omega, by go_num, by go_num, rfl, HQ1, HN2, R3⟩
                      case measure => simp [intOf]; omega
                    | true =>
                      have e1 : mE m = 0 := by rw [mE, if_pos hm]
                      have e2 : cdE k = 0 := by rw [cdE, if_pos hk]
                      have HQ1 : Hid (false = qAcc false (d.s.take (j + 1))) := by
                        rw [Hid, HBS.out, ← HBB.out, qOne, hm, hk]
                        rfl
                      rw [e1, e2]
                      clear e1 e2 hm hk HBB HBS
                      go_wp2_with fail
                      go_roundw
                      case rel => exact ⟨j + 1, N + n1 + n2, false, by omega, by omega, by go_num, by go_num, rfl, HQ1, HN2, R3⟩
                      case measure => simp [intOf]; omega
                | true =>
                  cases hm : mM m with
                  | false =>
                    cases hk : codM k with
                    | false =>
                      have e1 : mE m = 70 := by rw [mE, if_neg (by rw [hm]; decide)]
                      have e2 : cdE k = 40 := by rw [cdE, if_neg (by rw [hk]; decide)]
                      have HQ1 : Hid (false = qAcc false (d.s.take (j + 1))) := by
                        rw [Hid, HBS.out, ← HBB.out, qOne, hm, hk]
                        rfl
                      rw [e1, e2]
                      clear e1 e2 hm hk HBB HBS
                      go_wp2_with fail
                      go_roundw
                      case rel => exact ⟨j + 1, N + n1 + n2, false, by omega, by omega, by go_num, by go_num, rfl, HQ1, HN2, R3⟩
                      case measure => simp [intOf]; omega
                    | true =>
                      have e1 : mE m = 70 := by rw [mE, if_neg (by rw [hm]; decide)]
                      have e2 : cdE k = 0 := by rw [cdE, if_pos hk]
                      have HQ1 : Hid (false = qAcc false (d.s.take (j + 1))) := by
                        rw [Hid, HBS.out, ← HBB.out, qOne, hm, hk]
                        rfl
                      rw [e1, e2]
                      clear e1 e2 hm hk HBB HBS
                      go_wp2_with fail
                      go_roundw
                      case rel => exact ⟨j + 1, N + n1 + n2, false, by omega, by omega, by go_num, by go_num, rfl, HQ1, HN2, R3⟩
                      case measure => simp [intOf]; omega
                  | true =>
                    cases hk : codM k with
                    | false =>
                      have e1 : mE m = 0 := by rw [mE, if_pos hm]
                      have e2 : cdE k = 40 := by rw [cdE, if_neg (by rw [hk]; decide)]
                      have HQ1 : Hid (false = qAcc false (d.s.take (j + 1))) := by
                        rw [Hid, HBS.out, ← HBB.out, qOne, hm, hk]
                        rfl
                      rw [e1, e2]
                      clear e1 e2 hm hk HBB HBS
                      go_wp2_with fail
                      go_roundw
                      case rel => exact ⟨j + 1, N + n1 + n2, false, by omega, by omega, by go_num, by go_num, rfl, HQ1, HN2, R3⟩
                      case measure => simp [intOf]; omega
                    | true =>
                      have e1 : mE m = 0 := by rw [mE, if_pos hm]
                      have e2 : cdE k = 0 := by rw [cdE, if_pos hk]
                      have HQ1 : Hid (true = qAcc false (d.s.take (j + 1))) := by
                        rw [Hid, HBS.out, ← HBB.out, qOne, hm, hk]
                        rfl
                      rw [e1, e2]
                      clear e1 e2 hm hk HBB HBS
                      go_wp2_with fail
                      go_roundw
                      case rel => exact ⟨j + 1, N + n1 + n2, true, by omega, by omega, by go_num, by go_num, rfl, HQ1, HN2, R3⟩
                      case measure => simp [intOf]; omega
              · have hjn : j = d.s.length := by omega
                subst j
                have HB1 : Hid (b = qAcc false d.s) := by have := HBB.out; rwa [List.take_length] at this
                have HN1 : Hid (N = sz0 + (qmL d.s).length) := by have := HNN.out; rwa [List.take_length] at this
                clear HBB HNN
                go_wp2_with fail
                refine (KM ⟨G, gc, P, pc, A, c, Z⟩ d _ R0.out.2.2.2.1 R0.out.2.2.1 HG.out).mono ?_
                rintro r1 wf ⟨rfl, hbf⟩
                have R1 := Lib.hid (R0.out.call hbf)
                clear hbf R0
                clear x0 x1 x2 x3 x4
                cases b with
                | false =>
                  have HF := Lib.hid (qE_no (d := d) (by show qAcc (qMay d) d.s = false; rw [← HM0.out]; exact HB1.out.symm))
                  obtain ⟨ee, hee⟩ : ∃ ee, qE d = ee := ⟨_, rfl⟩
                  rw [hee] at HF ⊢
                  clear hee
                  have f1 : (ee != 0) = true := by simpa using HF.out.1
                  have f2 : (ee != 3) = true := by simpa using HF.out.2
                  go_wp2_with fail
                  go_ret
                  exact ⟨rfl, R1.out.1⟩
                | true =>
                  have HT := Lib.hid (qE_yes (d := d) (by show qAcc (qMay d) d.s = true; rw [← HM0.out]; exact HB1.out.symm))
                  have HNX : Hid ((N : Int) = (qX d).length) := by
                    have := HT.out.2
                    rw [Hid, HN1.out, ← HS0.out]
                    omega
                  rw [HT.out.1]
                  by_cases hlong : 2000 < (qX d).length
                  · rw [if_pos hlong]
                    have hNl : ¬ (N : Int) ≤ 2000 := by have := HNX.out; omega
                    clear hlong
                    go_wp2_with fail
                    go_ret
                    exact ⟨by show Ending.returned (.bool (!decide ((N : Int) ≤ 2000))) = _; rw [decide_eq_false (by omega)]; rfl, R1.out.1⟩
                  · rw [if_neg hlong]
                    have hNl : (N : Int) ≤ 2000 := by have := HNX.out; omega
                    clear hlong
                    go_wp2_with fail
                    go_ret
                    exact ⟨rfl, R1.out.1⟩
    · have HM0 : Hid (false = qMay d) := by rw [Hid, qMay, decide_eq_false c1]; rfl
      obtain ⟨-, ⟨x0, x1, x2, x3, x4⟩, -⟩ := S2.out
      dsimp only at x1 x2 x3
      go_wp2_with fail
      refine (KPB G gc d.g.length d.g _ S2.out.2.2.2.1 S2.out.2.2.1.1 rfl (by omega)).mono ?_
      rintro r1 wa ⟨A4, c4, rfl, -, hba⟩
      have T1 := Lib.hid (S2.out.call hba)
      clear hba S2
      clear x0 x1 x2 x3 x4
      obtain ⟨-, ⟨x0, x1, x2, x3, x4⟩, -⟩ := T1.out
      dsimp only at x1 x2 x3
      go_wp2_with fail
      refine (KPB P pc d.p.length d.p _ T1.out.2.2.2.1 T1.out.2.2.1.2.1 rfl (by omega)).mono ?_
      rintro r1 wb ⟨A5, c5, rfl, -, hbb⟩
      have T2 := Lib.hid (T1.out.call hbb)
      clear hbb T1
      clear x0 x1 x2 x3 x4
      obtain ⟨sz0, hsz0⟩ : ∃ n, (poL d.g).length + (poL d.p).length + 2 = n := ⟨_, rfl⟩
      have HS0 := Lib.hid hsz0
      have bl1 := poL_len d.g
      have bl2 := poL_len d.p
      have bsz : sz0 ≤ 580 := by omega
      have hcast : ((poL d.g).length : Int) + (poL d.p).length + 2 = sz0 := by omega
      clear hsz0
      go_wp2_with fail
      clear hcast bl1 bl2
      go_loopw [3, 8, 9] (fun may sz i wr => ∃ (j N : Nat) (b : Bool), j ≤ d.s.length ∧ N ≤ 580 + j * 628 ∧ i = .int .i64 j ∧ sz = .int .i64 N ∧ may = .bool b ∧ Hid (b = qAcc false (d.s.take j)) ∧ Hid (N = sz0 + (qmL (d.s.take j)).length) ∧ Hid (Sx w wr [fD w.heap.size ⟨G, gc, P, pc, A, c, Z⟩ d, fQm ⟨G, gc, P, pc, A, c, Z⟩ d, F])) (fun _ _ i _ => d.s.length - (intOf i).toNat)
      case atStart => exact ⟨0, sz0, false, by omega, by omega, rfl, rfl, (by first | rfl | rw [decide_eq_false (by omega)] | rw [decide_eq_true (by omega)]), rfl, by simp [Hid, qmL], T2⟩
      case round =>
        obtain ⟨j, N, b, hj, hN, rfl, rfl, rfl, HBB, HNN, R0⟩ := hrel
        clear T2
        obtain ⟨-, ⟨x0, x1, x2, x3, x4⟩, -⟩ := R0.out; dsimp only at x1 x2 x3
        by_cases h1 : j < d.s.length
        · have h1z : j < Z.length := by rw [HZL.out]; exact h1
          have hR : Rm wr A c Z := R0.out.2.2.1.2.2.1
          obtain ⟨ad, rfl, -, -⟩ := hR.at_ h1z
          have HE := Lib.hid (Rm.each (w := wr) (ad := ad) (c := c) h1z)
          have HBS : Hid (qAcc false (d.s.take (j + 1)) = (qAcc false (d.s.take j) && qOne d.s[j])) := qAcc_snoc false h1
          have HNS : Hid ((qmL (d.s.take (j + 1))).length = (qmL (d.s.take j)).length + ((mL d.s[j].1).length + (byL d.s[j].2).length)) := by
            rw [Hid, List.take_add_one, List.getElem?_eq_getElem h1, qmL, List.flatMap_append, List.length_append]
            simp [qmL]
          have hk3 : (d.s[j]).2.length ≤ 300 := HCL.out _ (List.getElem_mem h1)
          rw [HZA.out j h1z h1] at HBS HNS hk3
          obtain ⟨⟨a1, a2, a3, a4, a5, a6, a7, a8⟩, hok⟩ := HE.out wr hR
          clear hR HE
          generalize Z[j] = z at *
          obtain ⟨x, m, k⟩ := z
          dsimp only at a1 a2 a3 a4 a5 a6 a7 a8 hok HBS HNS hk3
          have hkl : k.length = x.k := hok.2.2
          have R1 := Lib.hid (((R0.out.add (fH x m) hok.1).add (fT x.D x.e k) hok.2.1).mkM x m)
          have HKL := Lib.hid hkl
          have hxk : x.k ≤ 300 := by rw [← hkl]; exact hk3
          clear hok hkl R0 hk3
          go_upto_region 13 with (fail)
          clear a1 a2 a3 a4 a5 a6 a7 a8
          clear x0 x1 x2 x3 x4
          have R1' : Hid (Sx w (wr.alloc (.cells #[.slice x.A m.a.length x.c, .slice x.B m.l.length x.d, .int .u8 m.r, .bool m.q, .int .i64 m.f, .int .i64 m.s, .int .i64 m.h, .slice x.D x.k x.e] 49)) [fM wr.heap.size x m, fT x.D x.e k, fH x m, fD w.heap.size ⟨G, gc, P, pc, some ad, c, Z⟩ d, fQm ⟨G, gc, P, pc, some ad, c, Z⟩ d, F]) := R1
          clear R1
          generalize wr.alloc (.cells #[.slice x.A m.a.length x.c, .slice x.B m.l.length x.d, .int .u8 m.r, .bool m.q, .int .i64 m.f, .int .i64 m.s, .int .i64 m.h, .slice x.D x.k x.e] 49) = wc at R1' ⊢
          generalize wr.heap.size = TX at R1' ⊢
          obtain ⟨-, ⟨o0, o1, o2, o3, o4, o5, o6, o7, o8⟩, -⟩ := R1'.out
          go_wp2_with fail
          refine (KHB x m _ R1'.out.2.2.2.2.2.2.1 R1'.out.2.2.2.1).mono ?_
          rintro r1 wd ⟨A6, c6, rfl, -, hbd⟩
          have R2 := Lib.hid (R1'.out.call hbd)
          clear hbd R1' o0 o1 o2 o3 o4 o5 o6 o7 o8
          obtain ⟨-, ⟨o0, o1, o2, o3, o4, o5, o6, o7, o8⟩, -⟩ := R2.out
          go_wp2_with fail
          refine (KCB x.D x.e x.k k _ R2.out.2.2.2.2.2.2.1 R2.out.2.2.1 HKL.out (by omega)).mono ?_
          rintro r1 we ⟨A7, c7, rfl, -, hbe⟩
          have R3 : Hid (Sx w we [fD w.heap.size ⟨G, gc, P, pc, some ad, c, Z⟩ d, fQm ⟨G, gc, P, pc, some ad, c, Z⟩ d, F]) := Lib.hid (by have := R2.out.call hbe; exact ⟨this.1, this.2.2.2.2⟩)
          clear hbe R2 o0 o1 o2 o3 o4 o5 o6 o7 o8 HKL
          have hl1 := mLl_le m
          have hl2 := byL_le k
          obtain ⟨n1, hn1⟩ : ∃ n, (mL m).length = n := ⟨_, rfl⟩
          obtain ⟨n2, hn2⟩ : ∃ n, (byL k).length = n := ⟨_, rfl⟩
          rw [hn1, hn2] at HNS
          rw [hn1] at hl1 ⊢
          rw [hn2] at hl2 ⊢
          clear hn1 hn2
          have HN2 : Hid (N + n1 + n2 = sz0 + (qmL (d.s.take (j + 1))).length) := by rw [Hid, HNS.out, HNN.out]; omega
          clear HNN HNS
          cases b with
          | false =>
            cases hm : mM m with
            | false =>
              cases hk : codM k with
              | false =>
                have e1 : mE m = 70 := by rw [mE, if_neg (by rw [hm]; decide)]
                have e2 : cdE k = 40 := by rw [cdE, if_neg (by rw [hk]; decide)]
                have HQ1 : Hid (false = qAcc false (d.s.take (j + 1))) := by
                  rw [Hid, HBS.out, ← HBB.out, qOne, hm, hk]
                  rfl
                rw [e1, e2]
                clear e1 e2 hm hk HBB HBS
                go_wp2_with fail
                go_roundw
                case rel => exact ⟨j + 1, N + n1 + n2, false, by omega, by omega, by go_num, by go_num, rfl, HQ1, HN2, R3⟩
                case measure => simp [intOf]; omega
              | true =>
                have e1 : mE m = 70 := by rw [mE, if_neg (by rw [hm]; decide)]
                have e2 : cdE k = 0 := by rw [cdE, if_pos hk]
                have HQ1 : Hid (false = qAcc false (d.s.take (j + 1))) := by
                  rw [Hid, HBS.out, ← HBB.out, qOne, hm, hk]
                  rfl
                rw [e1, e2]
                clear e1 e2 hm hk HBB HBS
                go_wp2_with fail
                go_roundw
                case rel => exact ⟨j + 1, N + n1 + n2, false, by omega, by omega, by go_num, by go_num, rfl, HQ1, HN2, R3⟩
                case measure => simp [intOf]; omega
            | true =>
              cases hk : codM k with
              | false =>
                have e1 : mE m = 0 := by rw [mE, if_pos hm]
                have e2 : cdE k = 40 := by rw [cdE, if_neg (by rw [hk]; decide)]
                have HQ1 : Hid (false = qAcc false (d.s.take (j + 1))) := by
                  rw [Hid, HBS.out, ← HBB.out, qOne, hm, hk]
                  rfl
                rw [e1, e2]
                clear e1 e2 hm hk HBB HBS
                go_wp2_with fail
                go_roundw
                case rel => exact ⟨j + 1, N + n1 + n2, false, by omega, by omega, by go_num, by go_num, rfl, HQ1, HN2, R3⟩
                case measure => simp [intOf]; omega
              | true =>
                have e1 : mE m = 0 := by rw [mE, if_pos hm]
                have e2 : cdE k = 0 := by rw [cdE, if_pos hk]
                have HQ1 : Hid (false = qAcc false (d.s.take (j + 1))) := by
                  rw [Hid, HBS.out, ← HBB.out, qOne, hm, hk]
                  rfl
                rw [e1, e2]
                clear e1 e2 hm hk HBB HBS
                go_wp2_with fail
                go_roundw
                case rel => exact ⟨j + 1, N + n1 + n2, false, by omega, by omega, by go_num, by go_num, rfl, HQ1, HN2, R3⟩
                case measure => simp [intOf]; omega
          | true =>
            cases hm : mM m with
            | false =>
              cases hk : codM k with
              | false =>
                have e1 : mE m = 70 := by rw [mE, if_neg (by rw [hm]; decide)]
                have e2 : cdE k = 40 := by rw [cdE, if_neg (by rw [hk]; decide)]
                have HQ1 : Hid (false = qAcc false (d.s.take (j + 1))) := by
                  rw [Hid, HBS.out, ← HBB.out, qOne, hm, hk]
                  rfl
                rw [e1, e2]
                clear e1 e2 hm hk HBB HBS
                go_wp2_with fail
                go_roundw
                case rel => exact ⟨j + 1, N + n1 + n2, false, by omega, by omega, by go_num, by go_num, rfl, HQ1, HN2, R3⟩
                case measure => simp [intOf]; omega
              | true =>
                have e1 : mE m = 70 := by rw [mE, if_neg (by rw [hm]; decide)]
                have e2 : cdE k = 0 := by rw [cdE, if_pos hk]
                have HQ1 : Hid (false = qAcc false (d.s.take (j + 1))) := by
                  rw [Hid, HBS.out, ← HBB.out, qOne, hm, hk]
                  rfl
                rw [e1, e2]
                clear e1 e2 hm hk HBB HBS
                go_wp2_with fail
                go_roundw
                case rel => exact ⟨j + 1, N + n1 + n2, false, by omega, by omega, by go_num, by go_num, rfl, HQ1, HN2, R3⟩
                case measure => simp [intOf]; omega
            | true =>
              cases hk : codM k with
              | false =>
                have e1 : mE m = 0 := by rw [mE, if_pos hm]
                have e2 : cdE k = 40 := by rw [cdE, if_neg (by rw [hk]; decide)]
                have HQ1 : Hid (false = qAcc false (d.s.take (j + 1))) := by
                  rw [Hid, HBS.out, ← HBB.out, qOne, hm, hk]
                  rfl
                rw [e1, e2]
                clear e1 e2 hm hk HBB HBS
                go_wp2_with fail
                go_roundw
                case rel => exact ⟨j + 1, N + n1 + n2, false, by omega, by omega, by go_num, by go_num, rfl, HQ1, HN2, R3⟩
                case measure => simp [intOf]; omega
              | true =>
                have e1 : mE m = 0 := by rw [mE, if_pos hm]
                have e2 : cdE k = 0 := by rw [cdE, if_pos hk]
                have HQ1 : Hid (true = qAcc false (d.s.take (j + 1))) := by
                  rw [Hid, HBS.out, ← HBB.out, qOne, hm, hk]
                  rfl
                rw [e1, e2]
                clear e1 e2 hm hk HBB HBS
                go_wp2_with fail
                go_roundw
                case rel => exact ⟨j + 1, N + n1 + n2, true, by omega, by omega, by go_num, by go_num, rfl, HQ1, HN2, R3⟩
                case measure => simp [intOf]; omega
        · have hjn : j = d.s.length := by omega
          subst j
          have HB1 : Hid (b = qAcc false d.s) := by have := HBB.out; rwa [List.take_length] at this
          have HN1 : Hid (N = sz0 + (qmL d.s).length) := by have := HNN.out; rwa [List.take_length] at this
          clear HBB HNN
          go_wp2_with fail
          refine (KM ⟨G, gc, P, pc, A, c, Z⟩ d _ R0.out.2.2.2.1 R0.out.2.2.1 HG.out).mono ?_
          rintro r1 wf ⟨rfl, hbf⟩
          have R1 := Lib.hid (R0.out.call hbf)
          clear hbf R0
          clear x0 x1 x2 x3 x4
          cases b with
          | false =>
            have HF := Lib.hid (qE_no (d := d) (by show qAcc (qMay d) d.s = false; rw [← HM0.out]; exact HB1.out.symm))
            obtain ⟨ee, hee⟩ : ∃ ee, qE d = ee := ⟨_, rfl⟩
            rw [hee] at HF ⊢
            clear hee
            have f1 : (ee != 0) = true := by simpa using HF.out.1
            have f2 : (ee != 3) = true := by simpa using HF.out.2
            go_wp2_with fail
            go_ret
            exact ⟨rfl, R1.out.1⟩
          | true =>
            have HT := Lib.hid (qE_yes (d := d) (by show qAcc (qMay d) d.s = true; rw [← HM0.out]; exact HB1.out.symm))
            have HNX : Hid ((N : Int) = (qX d).length) := by
              have := HT.out.2
              rw [Hid, HN1.out, ← HS0.out]
              omega
            rw [HT.out.1]
            by_cases hlong : 2000 < (qX d).length
            · rw [if_pos hlong]
              have hNl : ¬ (N : Int) ≤ 2000 := by have := HNX.out; omega
              clear hlong
              go_wp2_with fail
              go_ret
              exact ⟨by show Ending.returned (.bool (!decide ((N : Int) ≤ 2000))) = _; rw [decide_eq_false (by omega)]; rfl, R1.out.1⟩
            · rw [if_neg hlong]
              have hNl : (N : Int) ≤ 2000 := by have := HNX.out; omega
              clear hlong
              go_wp2_with fail
              go_ret
              exact ⟨rfl, R1.out.1⟩
end Go.Proofs.YteimpkjpoijhmaaDoor
