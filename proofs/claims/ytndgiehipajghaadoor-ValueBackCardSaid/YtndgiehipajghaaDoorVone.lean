/-
  The walk of ValueOne: for every two values it returns true; nothing that was there has changed.
-/
import Derived.Test.YtndgiehipajghaaDoorVawake
import Derived.Lib.Bytes
namespace Go.Proofs.YtndgiehipajghaaDoor
open Go.RowKit
set_option linter.unusedSimpArgs false
set_option linter.unusedVariables false

/-- Texts of bytes are the same just if the bytes are. -/
theorem str_eq {L M : List Int} (h1 : Byt L) (h2 : Byt M) : ((strOfNums L).toList == (strOfNums M).toList) = decide (L = M) := by
  rw [Lib.strOfNums_toList, Lib.strOfNums_toList]
  have key : ∀ {L M : List Int}, Byt L → Byt M → L.map (fun n => UInt8.ofNat n.toNat) = M.map (fun n => UInt8.ofNat n.toNat) → L = M := by
    intro L
    induction L with
    | nil => intro M _ _ h; cases M with
      | nil => rfl
      | cons y M => simp at h
    | cons x L ih =>
      intro M h1 h2 h
      cases M with
      | nil => simp at h
      | cons y M =>
        simp only [List.map_cons, List.cons.injEq] at h
        have hx := h1 x (by simp)
        have hy := h2 y (by simp)
        have e : x.toNat = y.toNat := by
          have := congrArg UInt8.toNat h.1
          simp only [UInt8.toNat_ofNat'] at this
          omega
        rw [ih (fun z hz => h1 z (by simp [hz])) (fun z hz => h2 z (by simp [hz])) h.2, show x = y by omega]
  by_cases h : L = M
  · subst h; simp
  · rw [decide_eq_false h]
    simp only [beq_eq_false_iff_ne]
    exact fun e => h (key h1 h2 e)
theorem digs_inj {m n : Int} {W : Nat} (h : digs m W = digs n W) : m % p256 W = n % p256 W := by rw [← num_digs, ← num_digs, h]
theorem byt_valB (k a b : Int) : Byt (valB k a b) := by
  unfold valB
  split
  · intro x hx
    rcases List.mem_cons.1 hx with rfl | hx
    · exact ⟨by decide, by decide⟩
    · exact byt_digs _ _ x hx
  · intro x hx
    rcases List.mem_cons.1 hx with rfl | hx
    · exact ⟨by decide, by decide⟩
    · exact byt_append (byt_digs _ _) (byt_digs _ _) x hx
theorem byt_bytL (k a b : Int) : Byt (bytL k a b) := by
  unfold bytL
  split
  · exact byt_valB _ _ _
  · intro x hx; cases hx
theorem may_cases {k a b : Int} (h : mayB k a b = true) : (k = 1 ∧ b = 0) ∨ (k = 2 ∧ okB a b = true) := by
  by_cases h1 : k = 1
  · subst h1; exact .inl ⟨rfl, by simpa [mayB] using h⟩
  · right; simpa [mayB, h1] using h
theorem valB_1 (a : Int) : valB 1 a 0 = 1 :: digs a 8 := by rw [valB, if_pos rfl]
theorem valB_2 (a b : Int) : valB 2 a b = 2 :: (digs (a + 1048576) 3 ++ digs (b + 1048576) 3) := by rw [valB, if_neg (by decide)]
theorem len_1 (a : Int) : (valB 1 a 0).length = 9 := by simp [valB_1, length_digs]
theorem len_2 (a b : Int) : (valB 2 a b).length = 7 := by simp [valB_2, length_digs]
theorem valB_inj1 {a a' : Int} (h : -9223372036854775808 ≤ a ∧ a ≤ 9223372036854775807) (h' : -9223372036854775808 ≤ a' ∧ a' ≤ 9223372036854775807) : valB 1 a 0 = valB 1 a' 0 ↔ a = a' := by
  refine ⟨fun e => ?_, fun e => by rw [e]⟩
  rw [valB_1, valB_1] at e
  injection e with _ e
  have := digs_inj e
  rw [p256_8] at this
  omega
theorem valB_inj2 {a b a' b' : Int} (h : okB a b = true) (h' : okB a' b' = true) : valB 2 a b = valB 2 a' b' ↔ a = a' ∧ b = b' := by
  refine ⟨fun e => ?_, fun e => by rw [e.1, e.2]⟩
  obtain ⟨⟨h1, h2⟩, h3, h4⟩ := okB_iff.1 h
  obtain ⟨⟨g1, g2⟩, g3, g4⟩ := okB_iff.1 h'
  rw [valB_2, valB_2] at e
  injection e with _ e
  obtain ⟨e1, e2⟩ := List.append_inj e (by simp [length_digs])
  have d1 := digs_inj e1
  have d2 := digs_inj e2
  rw [p256_3] at d1 d2
  omega
theorem take_ne {n : Nat} {x y : Int} {l m : List Int} (hn : 0 < n) (h : x ≠ y) : (x :: l).take n ≠ (y :: m).take n := by
  obtain ⟨j, rfl⟩ : ∃ j, n = j + 1 := ⟨n - 1, by omega⟩
  intro e
  injection e with e1 _
  exact h e1

set_option maxRecDepth 100000 in
set_option maxHeartbeats 2000000 in
theorem one_99 (k a b k' a' b' : Int) (v : Bool) (L L' : List Int) (s s' t t' : ByteArray) (w : World) (hw : GW w) (h1 : bytE k a b = 0 ∧ bytL k a b = L ∧ L.length = 9) (h2 : bytE k' a' b' = 0 ∧ bytL k' a' b' = L' ∧ L'.length = 9)
    (hv : (k == k' && a == a' && b == b') = v) (hs : strOfNums L = s ∧ strOfNums L' = s' ∧ strOfNums (L.take 9) = t ∧ strOfNums (L'.take 9) = t') (e1 : (s.toList == s'.toList) = v) (e2 : (s.toList == s'.toList) = v) (hb : Byt L) (hb' : Byt L') :
    Calls Tryd.prog 6 #[.agg #[.int .u8 k, .int .i64 a, .int .i64 b], .agg #[.int .u8 k', .int .i64 a', .int .i64 b']] w fun e w' => e = .returned (.bool true) ∧ Below w.heap.size w w' := by
  have q := eq_val 9998 k a b k' a' b' v hv
  have H1 := Lib.hid h1
  have H2 := Lib.hid h2
  have HS := Lib.hid hs
  have Q := Lib.hid q
  have E1 := Lib.hid e1
  have E2 := Lib.hid e2
  have G := Lib.hid hw
  clear h1 h2 hs q e1 e2 hw hv
  go_enter Tryd.func6, Tryd.ntmps6
  go_wp2_with fail
  have S0 := Lib.hid ((((Sx.start w).add fG G.out).mkV k a b).mkV k' a' b')
  refine (awake_any _ S0.out.2.2.2.1).mono ?_
  rintro e w1 ⟨rfl, hb1⟩
  have S1 := Lib.hid (S0.out.call hb1)
  rw [size1] at S1
  clear hb1 G S0
  obtain ⟨-, ⟨z0, z1, z2, z3, -⟩, ⟨y0, y1, y2, y3, -⟩, -⟩ := S1.out
  go_wp2_with fail
  refine (vbytes_v k a b 0 _ _ _ S1.out.2.2.2.1 H1.out).mono ?_
  rintro e w2 ⟨A2, c2, rfl, ho2, hb2⟩
  have S2 := Lib.hid ((S1.out.call hb2).add (fR A2 c2 L) (own_rd ho2 hb))
  clear hb2 ho2 S1 z0 z1 z2 z3 y0 y1 y2 y3
  obtain ⟨-, -, ⟨z0, z1, z2, z3, -⟩, ⟨y0, y1, y2, y3, -⟩, -⟩ := S2.out
  go_wp2_with fail
  refine (vbytes_v k' a' b' 0 _ _ _ S2.out.2.2.2.2.1 H2.out).mono ?_
  rintro e w3 ⟨A3, c3, rfl, ho3, hb3⟩
  have S3 := Lib.hid ((S2.out.call hb3).add (fR A3 c3 L') (own_rd ho3 hb'))
  clear hb3 ho3 S2 z0 z1 z2 z3 y0 y1 y2 y3
  have R2 : Hid (Rd w3 A2 c2 L) := S3.out.2.2.1
  have R3 : Hid (Rd w3 A3 c3 L') := S3.out.2.1
  obtain ⟨-, -, -, ⟨z0, z1, z2, z3, -⟩, ⟨y0, y1, y2, y3, -⟩, -⟩ := S3.out
  have m2 : (9 : Int) ≤ (c2 : Int) := by have := R2.out.le; have := H1.out.2.2; omega
  have m3 : (9 : Int) ≤ (c3 : Int) := by have := R3.out.le; have := H2.out.2.2; omega
  have k1 : ∀ q : Nat, (convert 26 9 (.slice A2 9 c2)).run Tryd.prog (w3.drewN q) = .ok (.string s) (w3.drewN q) := by
    intro q
    have := rd_string (P := Tryd.prog) (R2.out.drewN q) 26 9 5 Tryd.underlying26 Tryd.underlying5 Tryd.underlying9
    rwa [H1.out.2.2, HS.out.1] at this
  have k2 : ∀ q : Nat, (convert 26 9 (.slice A3 9 c3)).run Tryd.prog (w3.drewN q) = .ok (.string s') (w3.drewN q) := by
    intro q
    have := rd_string (P := Tryd.prog) (R3.out.drewN q) 26 9 5 Tryd.underlying26 Tryd.underlying5 Tryd.underlying9
    rwa [H2.out.2.2, HS.out.2.1] at this
  have q := Q.out
  have e1 := E1.out
  have e2 := E2.out
  go_upto_region 7 with (fail)
  go_quiet (fail)
  go_upto_region 10 with (fail)
  go_quiet (fail)
  go_wp2_with fail
  go_ret
  exact ⟨rfl, below_draws (below_draws S3.out.1 _) _⟩
set_option maxRecDepth 100000 in
set_option maxHeartbeats 2000000 in
theorem one_97 (k a b k' a' b' : Int) (v : Bool) (L L' : List Int) (s s' t t' : ByteArray) (w : World) (hw : GW w) (h1 : bytE k a b = 0 ∧ bytL k a b = L ∧ L.length = 9) (h2 : bytE k' a' b' = 0 ∧ bytL k' a' b' = L' ∧ L'.length = 7)
    (hv : (k == k' && a == a' && b == b') = v) (hs : strOfNums L = s ∧ strOfNums L' = s' ∧ strOfNums (L.take 7) = t ∧ strOfNums (L'.take 7) = t') (e1 : (s.toList == s'.toList) = v) (e2 : (t.toList == s'.toList) = v) (hb : Byt L) (hb' : Byt L') :
    Calls Tryd.prog 6 #[.agg #[.int .u8 k, .int .i64 a, .int .i64 b], .agg #[.int .u8 k', .int .i64 a', .int .i64 b']] w fun e w' => e = .returned (.bool true) ∧ Below w.heap.size w w' := by
  have q := eq_val 9998 k a b k' a' b' v hv
  have H1 := Lib.hid h1
  have H2 := Lib.hid h2
  have HS := Lib.hid hs
  have Q := Lib.hid q
  have E1 := Lib.hid e1
  have E2 := Lib.hid e2
  have G := Lib.hid hw
  clear h1 h2 hs q e1 e2 hw hv
  go_enter Tryd.func6, Tryd.ntmps6
  go_wp2_with fail
  have S0 := Lib.hid ((((Sx.start w).add fG G.out).mkV k a b).mkV k' a' b')
  refine (awake_any _ S0.out.2.2.2.1).mono ?_
  rintro e w1 ⟨rfl, hb1⟩
  have S1 := Lib.hid (S0.out.call hb1)
  rw [size1] at S1
  clear hb1 G S0
  obtain ⟨-, ⟨z0, z1, z2, z3, -⟩, ⟨y0, y1, y2, y3, -⟩, -⟩ := S1.out
  go_wp2_with fail
  refine (vbytes_v k a b 0 _ _ _ S1.out.2.2.2.1 H1.out).mono ?_
  rintro e w2 ⟨A2, c2, rfl, ho2, hb2⟩
  have S2 := Lib.hid ((S1.out.call hb2).add (fR A2 c2 L) (own_rd ho2 hb))
  clear hb2 ho2 S1 z0 z1 z2 z3 y0 y1 y2 y3
  obtain ⟨-, -, ⟨z0, z1, z2, z3, -⟩, ⟨y0, y1, y2, y3, -⟩, -⟩ := S2.out
  go_wp2_with fail
  refine (vbytes_v k' a' b' 0 _ _ _ S2.out.2.2.2.2.1 H2.out).mono ?_
  rintro e w3 ⟨A3, c3, rfl, ho3, hb3⟩
  have S3 := Lib.hid ((S2.out.call hb3).add (fR A3 c3 L') (own_rd ho3 hb'))
  clear hb3 ho3 S2 z0 z1 z2 z3 y0 y1 y2 y3
  have R2 : Hid (Rd w3 A2 c2 L) := S3.out.2.2.1
  have R3 : Hid (Rd w3 A3 c3 L') := S3.out.2.1
  obtain ⟨-, -, -, ⟨z0, z1, z2, z3, -⟩, ⟨y0, y1, y2, y3, -⟩, -⟩ := S3.out
  have m2 : (7 : Int) ≤ (c2 : Int) := by have := R2.out.le; have := H1.out.2.2; omega
  have m3 : (7 : Int) ≤ (c3 : Int) := by have := R3.out.le; have := H2.out.2.2; omega
  have k1 : ∀ q : Nat, (convert 26 9 (.slice A2 9 c2)).run Tryd.prog (w3.drewN q) = .ok (.string s) (w3.drewN q) := by
    intro q
    have := rd_string (P := Tryd.prog) (R2.out.drewN q) 26 9 5 Tryd.underlying26 Tryd.underlying5 Tryd.underlying9
    rwa [H1.out.2.2, HS.out.1] at this
  have k2 : ∀ q : Nat, (convert 26 9 (.slice A3 7 c3)).run Tryd.prog (w3.drewN q) = .ok (.string s') (w3.drewN q) := by
    intro q
    have := rd_string (P := Tryd.prog) (R3.out.drewN q) 26 9 5 Tryd.underlying26 Tryd.underlying5 Tryd.underlying9
    rwa [H2.out.2.2, HS.out.2.1] at this
  have k3 : ∀ q : Nat, (convert 26 9 (.slice A2 7 c2)).run Tryd.prog (w3.drewN q) = .ok (.string t) (w3.drewN q) := by
    intro q
    have := rd_string (P := Tryd.prog) ((R2.out.pre 7).drewN q) 26 9 5 Tryd.underlying26 Tryd.underlying5 Tryd.underlying9
    rwa [List.length_take, H1.out.2.2, HS.out.2.2.1] at this
  have q := Q.out
  have e1 := E1.out
  have e2 := E2.out
  go_upto_region 7 with (fail)
  go_quiet (fail)
  go_upto_region 10 with (fail)
  go_quiet (fail)
  go_wp2_with fail
  go_ret
  exact ⟨rfl, below_draws (below_draws S3.out.1 _) _⟩
set_option maxRecDepth 100000 in
set_option maxHeartbeats 2000000 in
theorem one_79 (k a b k' a' b' : Int) (v : Bool) (L L' : List Int) (s s' t t' : ByteArray) (w : World) (hw : GW w) (h1 : bytE k a b = 0 ∧ bytL k a b = L ∧ L.length = 7) (h2 : bytE k' a' b' = 0 ∧ bytL k' a' b' = L' ∧ L'.length = 9)
    (hv : (k == k' && a == a' && b == b') = v) (hs : strOfNums L = s ∧ strOfNums L' = s' ∧ strOfNums (L.take 7) = t ∧ strOfNums (L'.take 7) = t') (e1 : (s.toList == s'.toList) = v) (e2 : (s.toList == t'.toList) = v) (hb : Byt L) (hb' : Byt L') :
    Calls Tryd.prog 6 #[.agg #[.int .u8 k, .int .i64 a, .int .i64 b], .agg #[.int .u8 k', .int .i64 a', .int .i64 b']] w fun e w' => e = .returned (.bool true) ∧ Below w.heap.size w w' := by
  have q := eq_val 9998 k a b k' a' b' v hv
  have H1 := Lib.hid h1
  have H2 := Lib.hid h2
  have HS := Lib.hid hs
  have Q := Lib.hid q
  have E1 := Lib.hid e1
  have E2 := Lib.hid e2
  have G := Lib.hid hw
  clear h1 h2 hs q e1 e2 hw hv
  go_enter Tryd.func6, Tryd.ntmps6
  go_wp2_with fail
  have S0 := Lib.hid ((((Sx.start w).add fG G.out).mkV k a b).mkV k' a' b')
  refine (awake_any _ S0.out.2.2.2.1).mono ?_
  rintro e w1 ⟨rfl, hb1⟩
  have S1 := Lib.hid (S0.out.call hb1)
  rw [size1] at S1
  clear hb1 G S0
  obtain ⟨-, ⟨z0, z1, z2, z3, -⟩, ⟨y0, y1, y2, y3, -⟩, -⟩ := S1.out
  go_wp2_with fail
  refine (vbytes_v k a b 0 _ _ _ S1.out.2.2.2.1 H1.out).mono ?_
  rintro e w2 ⟨A2, c2, rfl, ho2, hb2⟩
  have S2 := Lib.hid ((S1.out.call hb2).add (fR A2 c2 L) (own_rd ho2 hb))
  clear hb2 ho2 S1 z0 z1 z2 z3 y0 y1 y2 y3
  obtain ⟨-, -, ⟨z0, z1, z2, z3, -⟩, ⟨y0, y1, y2, y3, -⟩, -⟩ := S2.out
  go_wp2_with fail
  refine (vbytes_v k' a' b' 0 _ _ _ S2.out.2.2.2.2.1 H2.out).mono ?_
  rintro e w3 ⟨A3, c3, rfl, ho3, hb3⟩
  have S3 := Lib.hid ((S2.out.call hb3).add (fR A3 c3 L') (own_rd ho3 hb'))
  clear hb3 ho3 S2 z0 z1 z2 z3 y0 y1 y2 y3
  have R2 : Hid (Rd w3 A2 c2 L) := S3.out.2.2.1
  have R3 : Hid (Rd w3 A3 c3 L') := S3.out.2.1
  obtain ⟨-, -, -, ⟨z0, z1, z2, z3, -⟩, ⟨y0, y1, y2, y3, -⟩, -⟩ := S3.out
  have m2 : (7 : Int) ≤ (c2 : Int) := by have := R2.out.le; have := H1.out.2.2; omega
  have m3 : (7 : Int) ≤ (c3 : Int) := by have := R3.out.le; have := H2.out.2.2; omega
  have k1 : ∀ q : Nat, (convert 26 9 (.slice A2 7 c2)).run Tryd.prog (w3.drewN q) = .ok (.string s) (w3.drewN q) := by
    intro q
    have := rd_string (P := Tryd.prog) (R2.out.drewN q) 26 9 5 Tryd.underlying26 Tryd.underlying5 Tryd.underlying9
    rwa [H1.out.2.2, HS.out.1] at this
  have k2 : ∀ q : Nat, (convert 26 9 (.slice A3 9 c3)).run Tryd.prog (w3.drewN q) = .ok (.string s') (w3.drewN q) := by
    intro q
    have := rd_string (P := Tryd.prog) (R3.out.drewN q) 26 9 5 Tryd.underlying26 Tryd.underlying5 Tryd.underlying9
    rwa [H2.out.2.2, HS.out.2.1] at this
  have k4 : ∀ q : Nat, (convert 26 9 (.slice A3 7 c3)).run Tryd.prog (w3.drewN q) = .ok (.string t') (w3.drewN q) := by
    intro q
    have := rd_string (P := Tryd.prog) ((R3.out.pre 7).drewN q) 26 9 5 Tryd.underlying26 Tryd.underlying5 Tryd.underlying9
    rwa [List.length_take, H2.out.2.2, HS.out.2.2.2] at this
  have q := Q.out
  have e1 := E1.out
  have e2 := E2.out
  go_upto_region 7 with (fail)
  go_quiet (fail)
  go_upto_region 10 with (fail)
  go_quiet (fail)
  go_wp2_with fail
  go_ret
  exact ⟨rfl, below_draws (below_draws S3.out.1 _) _⟩
set_option maxRecDepth 100000 in
set_option maxHeartbeats 2000000 in
theorem one_77 (k a b k' a' b' : Int) (v : Bool) (L L' : List Int) (s s' t t' : ByteArray) (w : World) (hw : GW w) (h1 : bytE k a b = 0 ∧ bytL k a b = L ∧ L.length = 7) (h2 : bytE k' a' b' = 0 ∧ bytL k' a' b' = L' ∧ L'.length = 7)
    (hv : (k == k' && a == a' && b == b') = v) (hs : strOfNums L = s ∧ strOfNums L' = s' ∧ strOfNums (L.take 7) = t ∧ strOfNums (L'.take 7) = t') (e1 : (s.toList == s'.toList) = v) (e2 : (s.toList == s'.toList) = v) (hb : Byt L) (hb' : Byt L') :
    Calls Tryd.prog 6 #[.agg #[.int .u8 k, .int .i64 a, .int .i64 b], .agg #[.int .u8 k', .int .i64 a', .int .i64 b']] w fun e w' => e = .returned (.bool true) ∧ Below w.heap.size w w' := by
  have q := eq_val 9998 k a b k' a' b' v hv
  have H1 := Lib.hid h1
  have H2 := Lib.hid h2
  have HS := Lib.hid hs
  have Q := Lib.hid q
  have E1 := Lib.hid e1
  have E2 := Lib.hid e2
  have G := Lib.hid hw
  clear h1 h2 hs q e1 e2 hw hv
  go_enter Tryd.func6, Tryd.ntmps6
  go_wp2_with fail
  have S0 := Lib.hid ((((Sx.start w).add fG G.out).mkV k a b).mkV k' a' b')
  refine (awake_any _ S0.out.2.2.2.1).mono ?_
  rintro e w1 ⟨rfl, hb1⟩
  have S1 := Lib.hid (S0.out.call hb1)
  rw [size1] at S1
  clear hb1 G S0
  obtain ⟨-, ⟨z0, z1, z2, z3, -⟩, ⟨y0, y1, y2, y3, -⟩, -⟩ := S1.out
  go_wp2_with fail
  refine (vbytes_v k a b 0 _ _ _ S1.out.2.2.2.1 H1.out).mono ?_
  rintro e w2 ⟨A2, c2, rfl, ho2, hb2⟩
  have S2 := Lib.hid ((S1.out.call hb2).add (fR A2 c2 L) (own_rd ho2 hb))
  clear hb2 ho2 S1 z0 z1 z2 z3 y0 y1 y2 y3
  obtain ⟨-, -, ⟨z0, z1, z2, z3, -⟩, ⟨y0, y1, y2, y3, -⟩, -⟩ := S2.out
  go_wp2_with fail
  refine (vbytes_v k' a' b' 0 _ _ _ S2.out.2.2.2.2.1 H2.out).mono ?_
  rintro e w3 ⟨A3, c3, rfl, ho3, hb3⟩
  have S3 := Lib.hid ((S2.out.call hb3).add (fR A3 c3 L') (own_rd ho3 hb'))
  clear hb3 ho3 S2 z0 z1 z2 z3 y0 y1 y2 y3
  have R2 : Hid (Rd w3 A2 c2 L) := S3.out.2.2.1
  have R3 : Hid (Rd w3 A3 c3 L') := S3.out.2.1
  obtain ⟨-, -, -, ⟨z0, z1, z2, z3, -⟩, ⟨y0, y1, y2, y3, -⟩, -⟩ := S3.out
  have m2 : (7 : Int) ≤ (c2 : Int) := by have := R2.out.le; have := H1.out.2.2; omega
  have m3 : (7 : Int) ≤ (c3 : Int) := by have := R3.out.le; have := H2.out.2.2; omega
  have k1 : ∀ q : Nat, (convert 26 9 (.slice A2 7 c2)).run Tryd.prog (w3.drewN q) = .ok (.string s) (w3.drewN q) := by
    intro q
    have := rd_string (P := Tryd.prog) (R2.out.drewN q) 26 9 5 Tryd.underlying26 Tryd.underlying5 Tryd.underlying9
    rwa [H1.out.2.2, HS.out.1] at this
  have k2 : ∀ q : Nat, (convert 26 9 (.slice A3 7 c3)).run Tryd.prog (w3.drewN q) = .ok (.string s') (w3.drewN q) := by
    intro q
    have := rd_string (P := Tryd.prog) (R3.out.drewN q) 26 9 5 Tryd.underlying26 Tryd.underlying5 Tryd.underlying9
    rwa [H2.out.2.2, HS.out.2.1] at this
  have q := Q.out
  have e1 := E1.out
  have e2 := E2.out
  go_upto_region 7 with (fail)
  go_quiet (fail)
  go_upto_region 10 with (fail)
  go_quiet (fail)
  go_wp2_with fail
  go_ret
  exact ⟨rfl, below_draws (below_draws S3.out.1 _) _⟩
end Go.Proofs.YtndgiehipajghaaDoor
