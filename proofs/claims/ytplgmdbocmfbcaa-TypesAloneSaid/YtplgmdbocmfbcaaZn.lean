/-
  Layer 10: the law's step.
-/
import Derived.Test.YtplgmdbocmfbcaaTo
import Derived.Test.YtplgmdbocmfbcaaZf
import Derived.Test.YtplgmdbocmfbcaaLta
import Derived.Test.YtplgmdbocmfbcaaOpf
namespace Go.Proofs.Ytplgmdbocmfbcaa
open Go.RowKit
set_option maxRecDepth 100000
set_option linter.unusedSimpArgs false
set_option linter.unusedVariables false

abbrev mcel (x : Mc) (m : Mh) : Obj := .cells #[.slice x.A m.a.length x.c, .slice x.B m.l.length x.d, .int .u8 m.r, .bool m.q, .int .i64 m.f, .int .i64 m.s, .int .i64 m.h, .slice x.D x.k x.e] 36
theorem byt_snoc {R : List Int} {k : Int} (h : Byt R) (hk : 0 ≤ k ∧ k < 256) : Byt (R ++ [k]) := fun x hx => by
  rcases List.mem_append.1 hx with h1 | h1
  · exact h x h1
  · rw [List.mem_singleton.1 h1]; exact hk
theorem ki10_byt {w : World} {x : Mc} {m : Mh} (h : Hd w x m) : Byt (m.a ++ m.l) := fun v hv => by
  rcases List.mem_append.1 hv with h1 | h1
  · exact h.1.1 v h1
  · exact h.2.1.1 v h1
theorem Dr10.push {w w5 : World} {T : Option (List Int)} {R : List Int} {k : Int} {n e c' B : Nat} {A' : Option Addr} (hT : T = some (R ++ [k])) (hn : R.length = n) (hby : Byt (R ++ [k])) (ho : w5.ownsRow B e 1 (.slice A' (n + 1) c') (n + 1) (cel (R ++ [k]))) (hb : Below w.heap.size w w5) :
    Dr10 w w5 T (.returned (.tuple #[.slice A' (n + 1) c', .bool true])) := by
  subst hT hn
  exact ⟨A', c', by simp, own_rd ho hby, hb⟩
set_option maxHeartbeats 4000000 in
theorem step10_1 (y : Ma) (d : Md) (x : Mc) (m : Mh) (b : Nat) (z : Int) (A : Option Addr) (c n : Nat) (R : List Int) (w : World) (hq : Hq w y d) (hx : Hd w x m) (hr : Rd w A c R) (hn : R.length = n) (hnb : n ≤ 300000) (b1 : m.a.length ≤ 1000) (b2 : m.l.length ≤ 1000) (hth : b < d.p.length) :
    Calls Try.prog 13 #[dv y d, mv x m, .agg #[.int .u8 1, .int .i64 b, .int .i64 z], .slice A n c] w fun e w' => Dr10 w w' (st10 d m (1, (b : Int), z) R) e := by
  have HN := Lib.hid hn
  have HBY : Hid (Byt R) := Lib.hid hr.1
  have hn9 : n ≤ c := by have := hr.le; omega
  have hrb := hx.2.2.1
  obtain ⟨G, gc, P, pc, AA, cc, Z⟩ := y
  obtain ⟨B, hB⟩ : ∃ B, w.heap.size = B := ⟨_, rfl⟩
  have hs1 : (w.alloc (dcel ⟨G, gc, P, pc, AA, cc, Z⟩ d)).heap.size = B + 1 := by rw [size1, hB]
  have hs2 : ((w.alloc (dcel ⟨G, gc, P, pc, AA, cc, Z⟩ d)).alloc (mcel x m)).heap.size = B + 1 + 1 := by rw [size1, hs1]
  have S0 := Lib.hid (((((((Sx.start w).add (fR A c R) hr).add (fH x m) hx).add (fQm ⟨G, gc, P, pc, AA, cc, Z⟩ d) hq).mkD ⟨G, gc, P, pc, AA, cc, Z⟩ d).mkM x m).mkI 1 b z)
  rw [hs2, hs1, hB] at S0
  clear hq hx hr hn
  go_enter Try.func13, Try.ntmps13
  go_upto_region 1 with (fail)
  change Code.wp _ _ _ _ (((w.alloc (dcel ⟨G, gc, P, pc, AA, cc, Z⟩ d)).alloc (mcel x m)).alloc (ic10 1 b z))
  generalize ((w.alloc (dcel ⟨G, gc, P, pc, AA, cc, Z⟩ d)).alloc (mcel x m)).alloc (ic10 1 b z) = w3 at S0 ⊢
  clear hs1 hs2 hB
  have HKI := Lib.hid (r10kinds_v x m w3 S0.out.2.2.2.2.2.1 b1 b2)
  obtain ⟨-, -, ⟨m0, m1, m2, m3, m4, m5, m6, m7, m8⟩, -⟩ := S0.out
  go_wp2_with fail
  refine HKI.out.mono ?_
  rintro r w4 ⟨A1, c1, rfl, ho, hb⟩
  have S4 := Lib.hid (S0.out.call hb)
  have HK : Hid (Rd w4 A1 c1 (m.a ++ m.l)) := Lib.hid (own_rd ho (ki10_byt S4.out.2.2.2.2.2.1))
  clear HKI S0 ho hb m0 m1 m2 m3 m4 m5 m6 m7 m8
  obtain ⟨-, ⟨-, i0, i1, i2⟩, ⟨m0, m1, m2, m3, m4, m5, m6, m7, m8⟩, ⟨d0, d1, d2, d3, d4⟩, -⟩ := S4.out
  dsimp only at d1 d2 d3
  clear m0 m1 m2 m3 m4 m5 m6 m7 m8
  have hbl : b < d.p.length := hth
  obtain ⟨ad, hA, q0, -, -⟩ := S4.out.2.2.2.2.1.2.1.at_ hbl
  have hvk := (S4.out.2.2.2.2.1.2.1.1 _ (List.getElem_mem hbl)).1
  have hpk : pk10 d.p b = (d.p[b]'hbl).1 := by simp [pk10, hbl]
  dsimp only at hA
  subst hA
  generalize (d.p[b]'hbl).1 = k at q0 hvk hpk
  have HE : Hid (st10 d m (1, (b : Int), z) R = some (R ++ [k])) := Lib.hid (by simp [st10, hpk])
  clear hpk
  go_wp2_with fail
  refine (push10_v A c n R k w4 S4.out.2.2.2.2.2.2.1 HN.out (by omega) hvk).mono ?_
  rintro e w5 ⟨A', c', rfl, ho, hb⟩
  have HA := Lib.hid (Dr10.push HE.out HN.out (byt_snoc HBY.out hvk) ho (S4.out.call hb).1)
  clear ho hb
  go_wp2_with fail
  go_ret2
  exact HA.out
set_option maxHeartbeats 4000000 in
theorem step10_2 (y : Ma) (d : Md) (x : Mc) (m : Mh) (b : Nat) (z : Int) (A : Option Addr) (c n : Nat) (R : List Int) (w : World) (hq : Hq w y d) (hx : Hd w x m) (hr : Rd w A c R) (hn : R.length = n) (hnb : n ≤ 300000) (b1 : m.a.length ≤ 1000) (b2 : m.l.length ≤ 1000) (hth : b < m.a.length + m.l.length) :
    Calls Try.prog 13 #[dv y d, mv x m, .agg #[.int .u8 2, .int .i64 b, .int .i64 z], .slice A n c] w fun e w' => Dr10 w w' (st10 d m (2, (b : Int), z) R) e := by
  have HN := Lib.hid hn
  have HBY : Hid (Byt R) := Lib.hid hr.1
  have hn9 : n ≤ c := by have := hr.le; omega
  have hrb := hx.2.2.1
  obtain ⟨G, gc, P, pc, AA, cc, Z⟩ := y
  obtain ⟨B, hB⟩ : ∃ B, w.heap.size = B := ⟨_, rfl⟩
  have hs1 : (w.alloc (dcel ⟨G, gc, P, pc, AA, cc, Z⟩ d)).heap.size = B + 1 := by rw [size1, hB]
  have hs2 : ((w.alloc (dcel ⟨G, gc, P, pc, AA, cc, Z⟩ d)).alloc (mcel x m)).heap.size = B + 1 + 1 := by rw [size1, hs1]
  have S0 := Lib.hid (((((((Sx.start w).add (fR A c R) hr).add (fH x m) hx).add (fQm ⟨G, gc, P, pc, AA, cc, Z⟩ d) hq).mkD ⟨G, gc, P, pc, AA, cc, Z⟩ d).mkM x m).mkI 2 b z)
  rw [hs2, hs1, hB] at S0
  clear hq hx hr hn
  go_enter Try.func13, Try.ntmps13
  go_upto_region 1 with (fail)
  change Code.wp _ _ _ _ (((w.alloc (dcel ⟨G, gc, P, pc, AA, cc, Z⟩ d)).alloc (mcel x m)).alloc (ic10 2 b z))
  generalize ((w.alloc (dcel ⟨G, gc, P, pc, AA, cc, Z⟩ d)).alloc (mcel x m)).alloc (ic10 2 b z) = w3 at S0 ⊢
  clear hs1 hs2 hB
  have HKI := Lib.hid (r10kinds_v x m w3 S0.out.2.2.2.2.2.1 b1 b2)
  obtain ⟨-, -, ⟨m0, m1, m2, m3, m4, m5, m6, m7, m8⟩, -⟩ := S0.out
  go_wp2_with fail
  refine HKI.out.mono ?_
  rintro r w4 ⟨A1, c1, rfl, ho, hb⟩
  have S4 := Lib.hid (S0.out.call hb)
  have HK : Hid (Rd w4 A1 c1 (m.a ++ m.l)) := Lib.hid (own_rd ho (ki10_byt S4.out.2.2.2.2.2.1))
  clear HKI S0 ho hb m0 m1 m2 m3 m4 m5 m6 m7 m8
  obtain ⟨-, ⟨-, i0, i1, i2⟩, ⟨m0, m1, m2, m3, m4, m5, m6, m7, m8⟩, ⟨d0, d1, d2, d3, d4⟩, -⟩ := S4.out
  dsimp only at d1 d2 d3
  clear m0 m1 m2 m3 m4 m5 m6 m7 m8
  have hbl : b < m.a.length + m.l.length := hth
  obtain ⟨ad, hA, q0⟩ := HK.out.at_ (i := b) (by rw [List.length_append]; exact hbl)
  have hvk := HK.out.byte b
  obtain ⟨k, hk⟩ : ∃ k, (m.a ++ m.l)[b]?.getD 0 = k := ⟨_, rfl⟩
  rw [hk] at q0 hvk
  subst hA
  have HE : Hid (st10 d m (2, (b : Int), z) R = some (R ++ [k])) := Lib.hid (by simp [st10, ki10, hk])
  clear hk
  go_wp2_with fail
  refine (push10_v A c n R k w4 S4.out.2.2.2.2.2.2.1 HN.out (by omega) hvk).mono ?_
  rintro e w5 ⟨A', c', rfl, ho, hb⟩
  have HA := Lib.hid (Dr10.push HE.out HN.out (byt_snoc HBY.out hvk) ho (S4.out.call hb).1)
  clear ho hb
  go_wp2_with fail
  go_ret2
  exact HA.out
set_option maxHeartbeats 4000000 in
theorem step10_3 (y : Ma) (d : Md) (x : Mc) (m : Mh) (b : Nat) (z : Int) (A : Option Addr) (c n : Nat) (R : List Int) (w : World) (hq : Hq w y d) (hx : Hd w x m) (hr : Rd w A c R) (hn : R.length = n) (hnb : n ≤ 300000) (b1 : m.a.length ≤ 1000) (b2 : m.l.length ≤ 1000) (hth : b < m.a.length + m.l.length) :
    Calls Try.prog 13 #[dv y d, mv x m, .agg #[.int .u8 3, .int .i64 b, .int .i64 z], .slice A n c] w fun e w' => Dr10 w w' (st10 d m (3, (b : Int), z) R) e := by
  have HN := Lib.hid hn
  have HBY : Hid (Byt R) := Lib.hid hr.1
  have hn9 : n ≤ c := by have := hr.le; omega
  have hrb := hx.2.2.1
  obtain ⟨G, gc, P, pc, AA, cc, Z⟩ := y
  obtain ⟨B, hB⟩ : ∃ B, w.heap.size = B := ⟨_, rfl⟩
  have hs1 : (w.alloc (dcel ⟨G, gc, P, pc, AA, cc, Z⟩ d)).heap.size = B + 1 := by rw [size1, hB]
  have hs2 : ((w.alloc (dcel ⟨G, gc, P, pc, AA, cc, Z⟩ d)).alloc (mcel x m)).heap.size = B + 1 + 1 := by rw [size1, hs1]
  have S0 := Lib.hid (((((((Sx.start w).add (fR A c R) hr).add (fH x m) hx).add (fQm ⟨G, gc, P, pc, AA, cc, Z⟩ d) hq).mkD ⟨G, gc, P, pc, AA, cc, Z⟩ d).mkM x m).mkI 3 b z)
  rw [hs2, hs1, hB] at S0
  clear hq hx hr hn
  go_enter Try.func13, Try.ntmps13
  go_upto_region 1 with (fail)
  change Code.wp _ _ _ _ (((w.alloc (dcel ⟨G, gc, P, pc, AA, cc, Z⟩ d)).alloc (mcel x m)).alloc (ic10 3 b z))
  generalize ((w.alloc (dcel ⟨G, gc, P, pc, AA, cc, Z⟩ d)).alloc (mcel x m)).alloc (ic10 3 b z) = w3 at S0 ⊢
  clear hs1 hs2 hB
  have HKI := Lib.hid (r10kinds_v x m w3 S0.out.2.2.2.2.2.1 b1 b2)
  obtain ⟨-, -, ⟨m0, m1, m2, m3, m4, m5, m6, m7, m8⟩, -⟩ := S0.out
  go_wp2_with fail
  refine HKI.out.mono ?_
  rintro r w4 ⟨A1, c1, rfl, ho, hb⟩
  have S4 := Lib.hid (S0.out.call hb)
  have HK : Hid (Rd w4 A1 c1 (m.a ++ m.l)) := Lib.hid (own_rd ho (ki10_byt S4.out.2.2.2.2.2.1))
  clear HKI S0 ho hb m0 m1 m2 m3 m4 m5 m6 m7 m8
  obtain ⟨-, ⟨-, i0, i1, i2⟩, ⟨m0, m1, m2, m3, m4, m5, m6, m7, m8⟩, ⟨d0, d1, d2, d3, d4⟩, -⟩ := S4.out
  dsimp only at d1 d2 d3
  clear m0 m1 m2 m3 m4 m5 m6 m7 m8
  have hbl : b < m.a.length + m.l.length := hth
  obtain ⟨ad, hA, q0⟩ := HK.out.at_ (i := b) (by rw [List.length_append]; exact hbl)
  have hvk := HK.out.byte b
  obtain ⟨k, hk⟩ : ∃ k, (m.a ++ m.l)[b]?.getD 0 = k := ⟨_, rfl⟩
  rw [hk] at q0 hvk
  subst hA
  have HE : Hid (st10 d m (3, (b : Int), z) R = dp10 R [k] []) := Lib.hid (by simp [st10, ki10, hk])
  clear hk
  have HDR := Lib.hid (drop10_v A (some ⟨w4.heap.size, 0, none⟩) none c n 1 1 0 0 R [k] [] (w4.alloc (.cells #[.int .u8 k] 5)) (S4.out.2.2.2.2.2.2.1.keep new1) HN.out (by omega) (rd_one w4 k hvk) rfl (Rd.none_ _) rfl (by omega))
  go_wp2_with fail
  refine HDR.out.mono ?_
  rintro e w5 ⟨A', c', rfl, hr5, hb⟩
  have HA : Hid (Dr10 w w5 (st10 d m (3, (b : Int), z) R) (.returned (.tuple #[.slice A' ((dp10 R [k] []).getD []).length c', .bool (dp10 R [k] []).isSome]))) := Lib.hid (by rw [HE.out]; exact ⟨A', c', rfl, hr5, (S4.out.call (new1.trans (hb.mono (by simp)))).1⟩)
  clear hr5 hb HDR
  go_wp2_with fail
  go_ret2
  exact HA.out
set_option maxHeartbeats 4000000 in
theorem step10_4 (y : Ma) (d : Md) (x : Mc) (m : Mh) (b : Nat) (z : Int) (A : Option Addr) (c n : Nat) (R : List Int) (w : World) (hq : Hq w y d) (hx : Hd w x m) (hr : Rd w A c R) (hn : R.length = n) (hnb : n ≤ 300000) (b1 : m.a.length ≤ 1000) (b2 : m.l.length ≤ 1000) (hth : b < d.g.length) :
    Calls Try.prog 13 #[dv y d, mv x m, .agg #[.int .u8 4, .int .i64 b, .int .i64 z], .slice A n c] w fun e w' => Dr10 w w' (st10 d m (4, (b : Int), z) R) e := by
  have HN := Lib.hid hn
  have HBY : Hid (Byt R) := Lib.hid hr.1
  have hn9 : n ≤ c := by have := hr.le; omega
  have hrb := hx.2.2.1
  obtain ⟨G, gc, P, pc, AA, cc, Z⟩ := y
  obtain ⟨B, hB⟩ : ∃ B, w.heap.size = B := ⟨_, rfl⟩
  have hs1 : (w.alloc (dcel ⟨G, gc, P, pc, AA, cc, Z⟩ d)).heap.size = B + 1 := by rw [size1, hB]
  have hs2 : ((w.alloc (dcel ⟨G, gc, P, pc, AA, cc, Z⟩ d)).alloc (mcel x m)).heap.size = B + 1 + 1 := by rw [size1, hs1]
  have S0 := Lib.hid (((((((Sx.start w).add (fR A c R) hr).add (fH x m) hx).add (fQm ⟨G, gc, P, pc, AA, cc, Z⟩ d) hq).mkD ⟨G, gc, P, pc, AA, cc, Z⟩ d).mkM x m).mkI 4 b z)
  rw [hs2, hs1, hB] at S0
  clear hq hx hr hn
  go_enter Try.func13, Try.ntmps13
  go_upto_region 1 with (fail)
  change Code.wp _ _ _ _ (((w.alloc (dcel ⟨G, gc, P, pc, AA, cc, Z⟩ d)).alloc (mcel x m)).alloc (ic10 4 b z))
  generalize ((w.alloc (dcel ⟨G, gc, P, pc, AA, cc, Z⟩ d)).alloc (mcel x m)).alloc (ic10 4 b z) = w3 at S0 ⊢
  clear hs1 hs2 hB
  have HKI := Lib.hid (r10kinds_v x m w3 S0.out.2.2.2.2.2.1 b1 b2)
  obtain ⟨-, -, ⟨m0, m1, m2, m3, m4, m5, m6, m7, m8⟩, -⟩ := S0.out
  go_wp2_with fail
  refine HKI.out.mono ?_
  rintro r w4 ⟨A1, c1, rfl, ho, hb⟩
  have S4 := Lib.hid (S0.out.call hb)
  have HK : Hid (Rd w4 A1 c1 (m.a ++ m.l)) := Lib.hid (own_rd ho (ki10_byt S4.out.2.2.2.2.2.1))
  clear HKI S0 ho hb m0 m1 m2 m3 m4 m5 m6 m7 m8
  obtain ⟨-, ⟨-, i0, i1, i2⟩, ⟨m0, m1, m2, m3, m4, m5, m6, m7, m8⟩, ⟨d0, d1, d2, d3, d4⟩, -⟩ := S4.out
  dsimp only at d1 d2 d3
  clear m0 m1 m2 m3 m4 m5 m6 m7 m8
  have hbl : b < d.g.length := hth
  obtain ⟨ad, hA, q0, -, -⟩ := S4.out.2.2.2.2.1.1.at_ hbl
  have hvk := (S4.out.2.2.2.2.1.1.1 _ (List.getElem_mem hbl)).1
  have hpk : pk10 d.g b = (d.g[b]'hbl).1 := by simp [pk10, hbl]
  dsimp only at hA
  subst hA
  generalize (d.g[b]'hbl).1 = k at q0 hvk hpk
  have HE : Hid (st10 d m (4, (b : Int), z) R = some (R ++ [k])) := Lib.hid (by simp [st10, hpk])
  clear hpk
  go_wp2_with fail
  refine (push10_v A c n R k w4 S4.out.2.2.2.2.2.2.1 HN.out (by omega) hvk).mono ?_
  rintro e w5 ⟨A', c', rfl, ho, hb⟩
  have HA := Lib.hid (Dr10.push HE.out HN.out (byt_snoc HBY.out hvk) ho (S4.out.call hb).1)
  clear ho hb
  go_wp2_with fail
  go_ret2
  exact HA.out
set_option maxHeartbeats 4000000 in
theorem step10_5 (y : Ma) (d : Md) (x : Mc) (m : Mh) (b : Nat) (z : Int) (A : Option Addr) (c n : Nat) (R : List Int) (w : World) (hq : Hq w y d) (hx : Hd w x m) (hr : Rd w A c R) (hn : R.length = n) (hnb : n ≤ 300000) (b1 : m.a.length ≤ 1000) (b2 : m.l.length ≤ 1000) (hth : b < d.g.length) :
    Calls Try.prog 13 #[dv y d, mv x m, .agg #[.int .u8 5, .int .i64 b, .int .i64 z], .slice A n c] w fun e w' => Dr10 w w' (st10 d m (5, (b : Int), z) R) e := by
  have HN := Lib.hid hn
  have HBY : Hid (Byt R) := Lib.hid hr.1
  have hn9 : n ≤ c := by have := hr.le; omega
  have hrb := hx.2.2.1
  obtain ⟨G, gc, P, pc, AA, cc, Z⟩ := y
  obtain ⟨B, hB⟩ : ∃ B, w.heap.size = B := ⟨_, rfl⟩
  have hs1 : (w.alloc (dcel ⟨G, gc, P, pc, AA, cc, Z⟩ d)).heap.size = B + 1 := by rw [size1, hB]
  have hs2 : ((w.alloc (dcel ⟨G, gc, P, pc, AA, cc, Z⟩ d)).alloc (mcel x m)).heap.size = B + 1 + 1 := by rw [size1, hs1]
  have S0 := Lib.hid (((((((Sx.start w).add (fR A c R) hr).add (fH x m) hx).add (fQm ⟨G, gc, P, pc, AA, cc, Z⟩ d) hq).mkD ⟨G, gc, P, pc, AA, cc, Z⟩ d).mkM x m).mkI 5 b z)
  rw [hs2, hs1, hB] at S0
  clear hq hx hr hn
  go_enter Try.func13, Try.ntmps13
  go_upto_region 1 with (fail)
  change Code.wp _ _ _ _ (((w.alloc (dcel ⟨G, gc, P, pc, AA, cc, Z⟩ d)).alloc (mcel x m)).alloc (ic10 5 b z))
  generalize ((w.alloc (dcel ⟨G, gc, P, pc, AA, cc, Z⟩ d)).alloc (mcel x m)).alloc (ic10 5 b z) = w3 at S0 ⊢
  clear hs1 hs2 hB
  have HKI := Lib.hid (r10kinds_v x m w3 S0.out.2.2.2.2.2.1 b1 b2)
  obtain ⟨-, -, ⟨m0, m1, m2, m3, m4, m5, m6, m7, m8⟩, -⟩ := S0.out
  go_wp2_with fail
  refine HKI.out.mono ?_
  rintro r w4 ⟨A1, c1, rfl, ho, hb⟩
  have S4 := Lib.hid (S0.out.call hb)
  have HK : Hid (Rd w4 A1 c1 (m.a ++ m.l)) := Lib.hid (own_rd ho (ki10_byt S4.out.2.2.2.2.2.1))
  clear HKI S0 ho hb m0 m1 m2 m3 m4 m5 m6 m7 m8
  obtain ⟨-, ⟨-, i0, i1, i2⟩, ⟨m0, m1, m2, m3, m4, m5, m6, m7, m8⟩, ⟨d0, d1, d2, d3, d4⟩, -⟩ := S4.out
  dsimp only at d1 d2 d3
  clear m0 m1 m2 m3 m4 m5 m6 m7 m8
  have hbl : b < d.g.length := hth
  obtain ⟨ad, hA, q0, -, -⟩ := S4.out.2.2.2.2.1.1.at_ hbl
  have hvk := (S4.out.2.2.2.2.1.1.1 _ (List.getElem_mem hbl)).1
  have hpk : pk10 d.g b = (d.g[b]'hbl).1 := by simp [pk10, hbl]
  dsimp only at hA
  subst hA
  generalize (d.g[b]'hbl).1 = k at q0 hvk hpk
  have HE : Hid (st10 d m (5, (b : Int), z) R = dp10 R [k] []) := Lib.hid (by simp [st10, hpk])
  clear hpk
  have HDR := Lib.hid (drop10_v A (some ⟨w4.heap.size, 0, none⟩) none c n 1 1 0 0 R [k] [] (w4.alloc (.cells #[.int .u8 k] 5)) (S4.out.2.2.2.2.2.2.1.keep new1) HN.out (by omega) (rd_one w4 k hvk) rfl (Rd.none_ _) rfl (by omega))
  go_wp2_with fail
  refine HDR.out.mono ?_
  rintro e w5 ⟨A', c', rfl, hr5, hb⟩
  have HA : Hid (Dr10 w w5 (st10 d m (5, (b : Int), z) R) (.returned (.tuple #[.slice A' ((dp10 R [k] []).getD []).length c', .bool (dp10 R [k] []).isSome]))) := Lib.hid (by rw [HE.out]; exact ⟨A', c', rfl, hr5, (S4.out.call (new1.trans (hb.mono (by simp)))).1⟩)
  clear hr5 hb HDR
  go_wp2_with fail
  go_ret2
  exact HA.out
set_option maxHeartbeats 4000000 in
theorem step10_7 (y : Ma) (d : Md) (x : Mc) (m : Mh) (b : Nat) (z : Int) (A : Option Addr) (c n : Nat) (R : List Int) (w : World) (hq : Hq w y d) (hx : Hd w x m) (hr : Rd w A c R) (hn : R.length = n) (hnb : n ≤ 300000) (b1 : m.a.length ≤ 1000) (b2 : m.l.length ≤ 1000) :
    Calls Try.prog 13 #[dv y d, mv x m, .agg #[.int .u8 7, .int .i64 b, .int .i64 z], .slice A n c] w fun e w' => Dr10 w w' (st10 d m (7, (b : Int), z) R) e := by
  have HN := Lib.hid hn
  have HBY : Hid (Byt R) := Lib.hid hr.1
  have hn9 : n ≤ c := by have := hr.le; omega
  have hrb := hx.2.2.1
  obtain ⟨G, gc, P, pc, AA, cc, Z⟩ := y
  obtain ⟨B, hB⟩ : ∃ B, w.heap.size = B := ⟨_, rfl⟩
  have hs1 : (w.alloc (dcel ⟨G, gc, P, pc, AA, cc, Z⟩ d)).heap.size = B + 1 := by rw [size1, hB]
  have hs2 : ((w.alloc (dcel ⟨G, gc, P, pc, AA, cc, Z⟩ d)).alloc (mcel x m)).heap.size = B + 1 + 1 := by rw [size1, hs1]
  have S0 := Lib.hid (((((((Sx.start w).add (fR A c R) hr).add (fH x m) hx).add (fQm ⟨G, gc, P, pc, AA, cc, Z⟩ d) hq).mkD ⟨G, gc, P, pc, AA, cc, Z⟩ d).mkM x m).mkI 7 b z)
  rw [hs2, hs1, hB] at S0
  clear hq hx hr hn
  go_enter Try.func13, Try.ntmps13
  go_upto_region 1 with (fail)
  change Code.wp _ _ _ _ (((w.alloc (dcel ⟨G, gc, P, pc, AA, cc, Z⟩ d)).alloc (mcel x m)).alloc (ic10 7 b z))
  generalize ((w.alloc (dcel ⟨G, gc, P, pc, AA, cc, Z⟩ d)).alloc (mcel x m)).alloc (ic10 7 b z) = w3 at S0 ⊢
  clear hs1 hs2 hB
  have HKI := Lib.hid (r10kinds_v x m w3 S0.out.2.2.2.2.2.1 b1 b2)
  obtain ⟨-, -, ⟨m0, m1, m2, m3, m4, m5, m6, m7, m8⟩, -⟩ := S0.out
  go_wp2_with fail
  refine HKI.out.mono ?_
  rintro r w4 ⟨A1, c1, rfl, ho, hb⟩
  have S4 := Lib.hid (S0.out.call hb)
  have HK : Hid (Rd w4 A1 c1 (m.a ++ m.l)) := Lib.hid (own_rd ho (ki10_byt S4.out.2.2.2.2.2.1))
  clear HKI S0 ho hb m0 m1 m2 m3 m4 m5 m6 m7 m8
  obtain ⟨-, ⟨-, i0, i1, i2⟩, ⟨m0, m1, m2, m3, m4, m5, m6, m7, m8⟩, ⟨d0, d1, d2, d3, d4⟩, -⟩ := S4.out
  dsimp only at d1 d2 d3
  clear m0 m1 m2 m3 m4 m5 m6 m7 m8
  by_cases hlt : n < 1
  · have HE : Hid (st10 d m (7, (b : Int), z) R = none) := Lib.hid (by simp [st10, HN.out, hlt])
    have HA := Lib.hid (Dr10.no HE.out S4.out.1)
    go_wp2_with fail
    go_ret2
    exact HA.out
  · skip
    obtain ⟨j, hj⟩ : ∃ j : Nat, (n : Int) - 1 = j := ⟨n - 1, by omega⟩
    have hjn : j < n := by omega
    obtain ⟨ad, hA, q0⟩ := S4.out.2.2.2.2.2.2.1.at_ (i := j) (by rw [HN.out]; omega)
    subst hA
    have q0b := S4.out.2.2.2.2.2.2.1.byte j
    obtain ⟨k, hk⟩ : ∃ x, R[j]?.getD 0 = x := ⟨_, rfl⟩
    rw [hk] at q0 q0b
    have HE : Hid (st10 d m (7, (b : Int), z) R = some (R ++ [k])) := Lib.hid (by
      have e : R.length - 1 = j := by have := HN.out; omega
      simp only [st10]
      rw [e, hk, HN.out]
      simp; omega)
    clear hk
    go_wp2_with fail
    refine (push10_v (some ad) c n R k w4 S4.out.2.2.2.2.2.2.1 HN.out (by omega) q0b).mono ?_
    rintro e w5 ⟨A', c', rfl, ho, hb⟩
    have HA := Lib.hid (Dr10.push HE.out HN.out (byt_snoc HBY.out q0b) ho (S4.out.call hb).1)
    clear ho hb
    go_wp2_with fail
    go_ret2
    exact HA.out
set_option maxHeartbeats 4000000 in
theorem step10_8 (y : Ma) (d : Md) (x : Mc) (m : Mh) (b : Nat) (z : Int) (A : Option Addr) (c n : Nat) (R : List Int) (w : World) (hq : Hq w y d) (hx : Hd w x m) (hr : Rd w A c R) (hn : R.length = n) (hnb : n ≤ 300000) (b1 : m.a.length ≤ 1000) (b2 : m.l.length ≤ 1000) :
    Calls Try.prog 13 #[dv y d, mv x m, .agg #[.int .u8 8, .int .i64 b, .int .i64 z], .slice A n c] w fun e w' => Dr10 w w' (st10 d m (8, (b : Int), z) R) e := by
  have HN := Lib.hid hn
  have HBY : Hid (Byt R) := Lib.hid hr.1
  have hn9 : n ≤ c := by have := hr.le; omega
  have hrb := hx.2.2.1
  obtain ⟨G, gc, P, pc, AA, cc, Z⟩ := y
  obtain ⟨B, hB⟩ : ∃ B, w.heap.size = B := ⟨_, rfl⟩
  have hs1 : (w.alloc (dcel ⟨G, gc, P, pc, AA, cc, Z⟩ d)).heap.size = B + 1 := by rw [size1, hB]
  have hs2 : ((w.alloc (dcel ⟨G, gc, P, pc, AA, cc, Z⟩ d)).alloc (mcel x m)).heap.size = B + 1 + 1 := by rw [size1, hs1]
  have S0 := Lib.hid (((((((Sx.start w).add (fR A c R) hr).add (fH x m) hx).add (fQm ⟨G, gc, P, pc, AA, cc, Z⟩ d) hq).mkD ⟨G, gc, P, pc, AA, cc, Z⟩ d).mkM x m).mkI 8 b z)
  rw [hs2, hs1, hB] at S0
  clear hq hx hr hn
  go_enter Try.func13, Try.ntmps13
  go_upto_region 1 with (fail)
  change Code.wp _ _ _ _ (((w.alloc (dcel ⟨G, gc, P, pc, AA, cc, Z⟩ d)).alloc (mcel x m)).alloc (ic10 8 b z))
  generalize ((w.alloc (dcel ⟨G, gc, P, pc, AA, cc, Z⟩ d)).alloc (mcel x m)).alloc (ic10 8 b z) = w3 at S0 ⊢
  clear hs1 hs2 hB
  have HKI := Lib.hid (r10kinds_v x m w3 S0.out.2.2.2.2.2.1 b1 b2)
  obtain ⟨-, -, ⟨m0, m1, m2, m3, m4, m5, m6, m7, m8⟩, -⟩ := S0.out
  go_wp2_with fail
  refine HKI.out.mono ?_
  rintro r w4 ⟨A1, c1, rfl, ho, hb⟩
  have S4 := Lib.hid (S0.out.call hb)
  have HK : Hid (Rd w4 A1 c1 (m.a ++ m.l)) := Lib.hid (own_rd ho (ki10_byt S4.out.2.2.2.2.2.1))
  clear HKI S0 ho hb m0 m1 m2 m3 m4 m5 m6 m7 m8
  obtain ⟨-, ⟨-, i0, i1, i2⟩, ⟨m0, m1, m2, m3, m4, m5, m6, m7, m8⟩, ⟨d0, d1, d2, d3, d4⟩, -⟩ := S4.out
  dsimp only at d1 d2 d3
  clear m0 m1 m2 m3 m4 m5 m6 m7 m8
  by_cases hlt : n < 2
  · have HE : Hid (st10 d m (8, (b : Int), z) R = none) := Lib.hid (by simp [st10, HN.out, hlt])
    have HA := Lib.hid (Dr10.no HE.out S4.out.1)
    go_wp2_with fail
    go_ret2
    exact HA.out
  · skip
    obtain ⟨j1, hj1⟩ : ∃ j : Nat, (n : Int) - 1 = j := ⟨n - 1, by omega⟩
    have hj1n : j1 < n := by omega
    obtain ⟨ad, hA, q1⟩ := S4.out.2.2.2.2.2.2.1.at_ (i := j1) (by rw [HN.out]; omega)
    subst hA
    have q1b := S4.out.2.2.2.2.2.2.1.byte j1
    obtain ⟨k1, hk1⟩ : ∃ x, R[j1]?.getD 0 = x := ⟨_, rfl⟩
    rw [hk1] at q1 q1b
    obtain ⟨j2, hj2⟩ : ∃ j : Nat, (n : Int) - 2 = j := ⟨n - 2, by omega⟩
    have hj2n : j2 < n := by omega
    obtain ⟨ad, hA, q2⟩ := S4.out.2.2.2.2.2.2.1.at_ (i := j2) (by rw [HN.out]; omega)
    injection hA with hA
    subst hA
    have q2b := S4.out.2.2.2.2.2.2.1.byte j2
    obtain ⟨k2, hk2⟩ : ∃ x, R[j2]?.getD 0 = x := ⟨_, rfl⟩
    rw [hk2] at q2 q2b
    have HE : Hid (st10 d m (8, (b : Int), z) R = some ((R.take j2 ++ [k1]) ++ [k2])) := Lib.hid (by
      have e1 : R.length - 1 = j1 := by have := HN.out; omega
      have e2 : R.length - 2 = j2 := by have := HN.out; omega
      simp only [st10]
      rw [e1, e2, hk1, hk2, HN.out]
      simp; omega)
    have HRT := Lib.hid (S4.out.2.2.2.2.2.2.1.pre10 j2)
    have HTL : Hid ((R.take j2).length = j2) := Lib.hid (by rw [List.length_take, HN.out]; omega)
    have hj2c : j2 ≤ c := by omega
    have hw1 : IntKind.i64.wrap (j1 : Int) = (j1 : Int) := by
      simp [IntKind.wrap, IntKind.signed, IntKind.bits, go_sem]
      omega
    have hw2 : IntKind.i64.wrap (j2 : Int) = (j2 : Int) := by
      simp [IntKind.wrap, IntKind.signed, IntKind.bits, go_sem]
      omega
    clear hk1 hk2
    have SR : Hid (Below w4.heap.size w4 w4.drew ∧ w4.drew.cell? (ad.add j1) = some (.int .u8 k1) ∧ w4.drew.cell? (ad.add j2) = some (.int .u8 k2)) := Lib.hid ⟨below_draws (Below.refl _ _) 1, q1, q2⟩
    go_upto_region 21 with (fail)
    refine wp_region_held_drew (S := fun w' => Hid (Below w4.heap.size w4 w' ∧ w'.cell? (ad.add j1) = some (.int .u8 k1) ∧ w'.cell? (ad.add j2) = some (.int .u8 k2))) (by kernel_rfl) (SR) (fun hHeld => ?_)
    refine wpAnyH_take (i := 0) (v := ?_) rfl (by kernel_rfl) (by kernel_rfl) (by kernel_rfl) (fun _ _ _ h => h) (Or.inl ⟨by rfl, ?_⟩) (by assumption) ?_
    rotate_left 1
    · intro w _; go_simp; try with_reducible rfl
    try simp only [Act.put, List.getElem_toArray, List.getElem_cons_zero, List.getElem_cons_succ, List.setIfInBounds_toArray, List.set_cons_zero, List.set_cons_succ]
    refine wpAnyH_take (i := 1) (v := ?_) rfl (by kernel_rfl) (by kernel_rfl) (by kernel_rfl) (fun _ _ _ h => h) (Or.inl ⟨by rfl, ?_⟩) (by assumption) ?_
    rotate_left 1
    · intro w _; go_simp; try with_reducible rfl
    try simp only [Act.put, List.getElem_toArray, List.getElem_cons_zero, List.getElem_cons_succ, List.setIfInBounds_toArray, List.set_cons_zero, List.set_cons_succ]
    refine wpAnyH_take (i := 2) (v := ?_) rfl (by kernel_rfl) (by kernel_rfl) (by kernel_rfl) (fun _ _ _ h => h) (Or.inl ⟨by rfl, ?_⟩) (by assumption) ?_
    rotate_left 1
    · intro w _; go_simp; try with_reducible rfl
    try simp only [Act.put, List.getElem_toArray, List.getElem_cons_zero, List.getElem_cons_succ, List.setIfInBounds_toArray, List.set_cons_zero, List.set_cons_succ]
    refine wpAnyH_take (i := 3) (v := ?_) rfl (by kernel_rfl) (by kernel_rfl) (by kernel_rfl) (fun _ _ _ h => h) (Or.inl ⟨by rfl, ?_⟩) (by assumption) ?_
    rotate_left 1
    · intro w _; go_simp; try with_reducible rfl
    try simp only [Act.put, List.getElem_toArray, List.getElem_cons_zero, List.getElem_cons_succ, List.setIfInBounds_toArray, List.set_cons_zero, List.set_cons_succ]
    refine wpAnyH_take (i := 4) (v := ?_) rfl (by kernel_rfl) (by kernel_rfl) (by kernel_rfl) (fun _ _ _ h => h) (Or.inl ⟨by rfl, ?_⟩) (by assumption) ?_
    rotate_left 1
    · intro w _; go_simp; try with_reducible rfl
    try simp only [Act.put, List.getElem_toArray, List.getElem_cons_zero, List.getElem_cons_succ, List.setIfInBounds_toArray, List.set_cons_zero, List.set_cons_succ]
    refine wpAnyH_take (i := 5) (v := ?_) rfl (by kernel_rfl) (by kernel_rfl) (by kernel_rfl) (fun _ _ _ h => h) (Or.inl ⟨by rfl, ?_⟩) (by assumption) ?_
    rotate_left 1
    · intro w _; go_simp; try with_reducible rfl
    try simp only [Act.put, List.getElem_toArray, List.getElem_cons_zero, List.getElem_cons_succ, List.setIfInBounds_toArray, List.set_cons_zero, List.set_cons_succ]
    refine wpAnyH_take (i := 6) (v := ?_) rfl (by kernel_rfl) (by kernel_rfl) (by kernel_rfl) (fun _ _ _ h => h) (Or.inl ⟨by rfl, ?_⟩) (by assumption) ?_
    rotate_left 1
    · intro w _; go_simp; try with_reducible rfl
    try simp only [Act.put, List.getElem_toArray, List.getElem_cons_zero, List.getElem_cons_succ, List.setIfInBounds_toArray, List.set_cons_zero, List.set_cons_succ]
    refine wpAnyH_take (i := 7) (v := ?_) rfl (by kernel_rfl) (by kernel_rfl) (by kernel_rfl) (fun _ _ _ h => h) (Or.inl ⟨by rfl, ?_⟩) (by assumption) ?_
    rotate_left 1
    · intro w _; go_simp; try with_reducible rfl
    try simp only [Act.put, List.getElem_toArray, List.getElem_cons_zero, List.getElem_cons_succ, List.setIfInBounds_toArray, List.set_cons_zero, List.set_cons_succ]
    refine wpAnyH_take (i := 8) (v := ?_) rfl (by kernel_rfl) (by kernel_rfl) (by kernel_rfl) (fun _ _ _ h => h) (Or.inl ⟨by rfl, ?_⟩) (by assumption) ?_
    rotate_left 1
    · intro w hSw; (try dsimp only at hSw); obtain ⟨-, s0, s1⟩ := hSw.out; go_simp; try with_reducible rfl
    try simp only [Act.put, List.getElem_toArray, List.getElem_cons_zero, List.getElem_cons_succ, List.setIfInBounds_toArray, List.set_cons_zero, List.set_cons_succ]
    refine wpAnyH_take (i := 10) (v := ?_) rfl (by kernel_rfl) (by kernel_rfl) (by kernel_rfl) (fun _ _ _ h => h) (Or.inl ⟨by rfl, ?_⟩) (by assumption) ?_
    rotate_left 1
    · intro w _; go_simp; try with_reducible rfl
    try simp only [Act.put, List.getElem_toArray, List.getElem_cons_zero, List.getElem_cons_succ, List.setIfInBounds_toArray, List.set_cons_zero, List.set_cons_succ]
    refine wpAnyH_take (i := 11) (v := ?_) rfl (by kernel_rfl) (by kernel_rfl) (by kernel_rfl) (fun _ _ _ h => h) (Or.inl ⟨by rfl, ?_⟩) (by assumption) ?_
    rotate_left 1
    · intro w _; go_simp; try with_reducible rfl
    try simp only [Act.put, List.getElem_toArray, List.getElem_cons_zero, List.getElem_cons_succ, List.setIfInBounds_toArray, List.set_cons_zero, List.set_cons_succ]
    refine wpAnyH_take (i := 12) (v := ?_) rfl (by kernel_rfl) (by kernel_rfl) (by kernel_rfl) (fun _ _ _ h => h) (Or.inl ⟨by rfl, ?_⟩) (by assumption) ?_
    rotate_left 1
    · intro w _; go_simp; try with_reducible rfl
    try simp only [Act.put, List.getElem_toArray, List.getElem_cons_zero, List.getElem_cons_succ, List.setIfInBounds_toArray, List.set_cons_zero, List.set_cons_succ]
    refine wpAnyH_take (i := 13) (v := ?_) rfl (by kernel_rfl) (by kernel_rfl) (by kernel_rfl) (fun _ _ _ h => h) (Or.inl ⟨by rfl, ?_⟩) (by assumption) ?_
    rotate_left 1
    · intro w _; go_simp; try with_reducible rfl
    try simp only [Act.put, List.getElem_toArray, List.getElem_cons_zero, List.getElem_cons_succ, List.setIfInBounds_toArray, List.set_cons_zero, List.set_cons_succ]
    refine wpAnyH_take (i := 14) (v := ?_) rfl (by kernel_rfl) (by kernel_rfl) (by kernel_rfl) (fun _ _ _ h => h) (Or.inl ⟨by rfl, ?_⟩) (by assumption) ?_
    rotate_left 1
    · intro w hSw; (try dsimp only at hSw); obtain ⟨-, s0, s1⟩ := hSw.out; go_simp; try with_reducible rfl
    try simp only [Act.put, List.getElem_toArray, List.getElem_cons_zero, List.getElem_cons_succ, List.setIfInBounds_toArray, List.set_cons_zero, List.set_cons_succ]
    refine wpAnyH_ready (rs := [9]) (by kernel_rfl) (by simp) ?_
    refine AllReadyH.cons rfl (fun K hK => ?_) AllReadyH.nil
    go_simp
    refine (push10_v (some ad) c j2 (R.take j2) k1 _ (HRT.out.keep hHeld.out.1) HTL.out (by omega) q1b).mono ?_
    rintro e w5 ⟨A4, c4, rfl, ho4, hb⟩
    have HR4 := Lib.hid (own_rd ho4 (byt_snoc (fun x hx => HBY.out x (List.mem_of_mem_take hx)) q1b))
    clear ho4
    go_wp2_with fail
    refine hK.out _ _ (Lib.hid ⟨below_on hHeld.out.1 hb, (hb.cell (cell_lt hHeld.out.2.1)).trans hHeld.out.2.1, (hb.cell (cell_lt hHeld.out.2.2)).trans hHeld.out.2.2⟩) (fun hHeld => ?_)
    clear hK K
    try simp only [Act.put, List.getElem_toArray, List.getElem_cons_zero, List.getElem_cons_succ, List.setIfInBounds_toArray, List.set_cons_zero, List.set_cons_succ]
    refine wpAnyH_ready (rs := [15]) (by kernel_rfl) (by simp) ?_
    refine AllReadyH.cons rfl (fun K hK => ?_) AllReadyH.nil
    go_simp
    refine (push10_v A4 c4 (j2 + 1) (R.take j2 ++ [k1]) k2 _ HR4.out (by rw [List.length_append, HTL.out]; rfl) (by omega) q2b).mono ?_
    rintro e w6 ⟨A5, c5, rfl, ho5, hb⟩
    have HO5 := Lib.hid ho5
    clear ho5
    go_wp2_with fail
    refine hK.out _ _ (Lib.hid ⟨below_on hHeld.out.1 hb, (hb.cell (cell_lt hHeld.out.2.1)).trans hHeld.out.2.1, (hb.cell (cell_lt hHeld.out.2.2)).trans hHeld.out.2.2⟩) (fun hHeld => ?_)
    clear hK K
    try simp only [Act.put, List.getElem_toArray, List.getElem_cons_zero, List.getElem_cons_succ, List.setIfInBounds_toArray, List.set_cons_zero, List.set_cons_succ]
    refine wpAnyH_take (i := 16) (v := ?_) rfl (by kernel_rfl) (by kernel_rfl) (by kernel_rfl) (fun _ _ _ h => h) (Or.inl ⟨by rfl, ?_⟩) (by assumption) ?_
    rotate_left 1
    · intro w _; go_simp; try with_reducible rfl
    try simp only [Act.put, List.getElem_toArray, List.getElem_cons_zero, List.getElem_cons_succ, List.setIfInBounds_toArray, List.set_cons_zero, List.set_cons_succ]
    refine wpAnyH_take (i := 17) (v := ?_) rfl (by kernel_rfl) (by kernel_rfl) (by kernel_rfl) (fun _ _ _ h => h) (Or.inl ⟨by rfl, ?_⟩) (by assumption) ?_
    rotate_left 1
    · intro w _; go_simp; try with_reducible rfl
    try simp only [Act.put, List.getElem_toArray, List.getElem_cons_zero, List.getElem_cons_succ, List.setIfInBounds_toArray, List.set_cons_zero, List.set_cons_succ]
    refine wpAnyH_done (by kernel_rfl) ?_ _
    have HBE := Lib.hid (below_on S4.out.1 hHeld.out.1)
    clear hHeld
    have HA := Lib.hid (Dr10.push HE.out (by rw [List.length_append, HTL.out]; rfl) (byt_snoc (byt_snoc (fun x hx => HBY.out x (List.mem_of_mem_take hx)) q1b) q2b) HO5.out HBE.out)
    go_wp2_with fail
    go_ret2
    exact HA.out
set_option maxHeartbeats 4000000 in
theorem step10_31 (y : Ma) (d : Md) (x : Mc) (m : Mh) (b : Nat) (z : Int) (A : Option Addr) (c n : Nat) (R : List Int) (w : World) (hq : Hq w y d) (hx : Hd w x m) (hr : Rd w A c R) (hn : R.length = n) (hnb : n ≤ 300000) (b1 : m.a.length ≤ 1000) (b2 : m.l.length ≤ 1000) :
    Calls Try.prog 13 #[dv y d, mv x m, .agg #[.int .u8 31, .int .i64 b, .int .i64 z], .slice A n c] w fun e w' => Dr10 w w' (st10 d m (31, (b : Int), z) R) e := by
  have HN := Lib.hid hn
  have HBY : Hid (Byt R) := Lib.hid hr.1
  have hn9 : n ≤ c := by have := hr.le; omega
  have hrb := hx.2.2.1
  obtain ⟨G, gc, P, pc, AA, cc, Z⟩ := y
  obtain ⟨B, hB⟩ : ∃ B, w.heap.size = B := ⟨_, rfl⟩
  have hs1 : (w.alloc (dcel ⟨G, gc, P, pc, AA, cc, Z⟩ d)).heap.size = B + 1 := by rw [size1, hB]
  have hs2 : ((w.alloc (dcel ⟨G, gc, P, pc, AA, cc, Z⟩ d)).alloc (mcel x m)).heap.size = B + 1 + 1 := by rw [size1, hs1]
  have S0 := Lib.hid (((((((Sx.start w).add (fR A c R) hr).add (fH x m) hx).add (fQm ⟨G, gc, P, pc, AA, cc, Z⟩ d) hq).mkD ⟨G, gc, P, pc, AA, cc, Z⟩ d).mkM x m).mkI 31 b z)
  rw [hs2, hs1, hB] at S0
  clear hq hx hr hn
  go_enter Try.func13, Try.ntmps13
  go_upto_region 1 with (fail)
  change Code.wp _ _ _ _ (((w.alloc (dcel ⟨G, gc, P, pc, AA, cc, Z⟩ d)).alloc (mcel x m)).alloc (ic10 31 b z))
  generalize ((w.alloc (dcel ⟨G, gc, P, pc, AA, cc, Z⟩ d)).alloc (mcel x m)).alloc (ic10 31 b z) = w3 at S0 ⊢
  clear hs1 hs2 hB
  have HKI := Lib.hid (r10kinds_v x m w3 S0.out.2.2.2.2.2.1 b1 b2)
  obtain ⟨-, -, ⟨m0, m1, m2, m3, m4, m5, m6, m7, m8⟩, -⟩ := S0.out
  go_wp2_with fail
  refine HKI.out.mono ?_
  rintro r w4 ⟨A1, c1, rfl, ho, hb⟩
  have S4 := Lib.hid (S0.out.call hb)
  have HK : Hid (Rd w4 A1 c1 (m.a ++ m.l)) := Lib.hid (own_rd ho (ki10_byt S4.out.2.2.2.2.2.1))
  clear HKI S0 ho hb m0 m1 m2 m3 m4 m5 m6 m7 m8
  obtain ⟨-, ⟨-, i0, i1, i2⟩, ⟨m0, m1, m2, m3, m4, m5, m6, m7, m8⟩, ⟨d0, d1, d2, d3, d4⟩, -⟩ := S4.out
  dsimp only at d1 d2 d3
  have HE : Hid (st10 d m (31, (b : Int), z) R = dp10 R [m.r] []) := Lib.hid (by simp [st10])
  have HDR := Lib.hid (drop10_v A (some ⟨w4.heap.size, 0, none⟩) none c n 1 1 0 0 R [m.r] [] (w4.alloc (.cells #[.int .u8 m.r] 5)) (S4.out.2.2.2.2.2.2.1.keep new1) HN.out (by omega) (rd_one w4 m.r hrb) rfl (Rd.none_ _) rfl (by omega))
  go_wp2_with fail
  refine HDR.out.mono ?_
  rintro e w5 ⟨A', c', rfl, hr5, hb⟩
  have HA : Hid (Dr10 w w5 (st10 d m (31, (b : Int), z) R) (.returned (.tuple #[.slice A' ((dp10 R [m.r] []).getD []).length c', .bool (dp10 R [m.r] []).isSome]))) := Lib.hid (by rw [HE.out]; exact ⟨A', c', rfl, hr5, (S4.out.call (new1.trans (hb.mono (by simp)))).1⟩)
  clear hr5 hb HDR
  go_wp2_with fail
  go_ret2
  exact HA.out
set_option maxHeartbeats 4000000 in
theorem step10_d (y : Ma) (d : Md) (x : Mc) (m : Mh) (o : Int) (b : Nat) (z : Int) (A : Option Addr) (c n : Nat) (R : List Int) (w : World) (hq : Hq w y d) (hx : Hd w x m) (hr : Rd w A c R) (hn : R.length = n) (hnb : n ≤ 300000) (b1 : m.a.length ≤ 1000) (b2 : m.l.length ≤ 1000) (n1 : o ≠ 1) (n2 : o ≠ 2) (n3 : o ≠ 3) (n4 : o ≠ 4) (n5 : o ≠ 5) (n7 : o ≠ 7) (n8 : o ≠ 8) (n30 : o ≠ 30) (n31 : o ≠ 31) :
    Calls Try.prog 13 #[dv y d, mv x m, .agg #[.int .u8 o, .int .i64 b, .int .i64 z], .slice A n c] w fun e w' => Dr10 w w' (st10 d m (o, (b : Int), z) R) e := by
  have HN := Lib.hid hn
  have HBY : Hid (Byt R) := Lib.hid hr.1
  have hn9 : n ≤ c := by have := hr.le; omega
  have hrb := hx.2.2.1
  obtain ⟨G, gc, P, pc, AA, cc, Z⟩ := y
  obtain ⟨B, hB⟩ : ∃ B, w.heap.size = B := ⟨_, rfl⟩
  have hs1 : (w.alloc (dcel ⟨G, gc, P, pc, AA, cc, Z⟩ d)).heap.size = B + 1 := by rw [size1, hB]
  have hs2 : ((w.alloc (dcel ⟨G, gc, P, pc, AA, cc, Z⟩ d)).alloc (mcel x m)).heap.size = B + 1 + 1 := by rw [size1, hs1]
  have S0 := Lib.hid (((((((Sx.start w).add (fR A c R) hr).add (fH x m) hx).add (fQm ⟨G, gc, P, pc, AA, cc, Z⟩ d) hq).mkD ⟨G, gc, P, pc, AA, cc, Z⟩ d).mkM x m).mkI o b z)
  rw [hs2, hs1, hB] at S0
  clear hq hx hr hn
  go_enter Try.func13, Try.ntmps13
  go_upto_region 1 with (fail)
  change Code.wp _ _ _ _ (((w.alloc (dcel ⟨G, gc, P, pc, AA, cc, Z⟩ d)).alloc (mcel x m)).alloc (ic10 o b z))
  generalize ((w.alloc (dcel ⟨G, gc, P, pc, AA, cc, Z⟩ d)).alloc (mcel x m)).alloc (ic10 o b z) = w3 at S0 ⊢
  clear hs1 hs2 hB
  have HKI := Lib.hid (r10kinds_v x m w3 S0.out.2.2.2.2.2.1 b1 b2)
  obtain ⟨-, -, ⟨m0, m1, m2, m3, m4, m5, m6, m7, m8⟩, -⟩ := S0.out
  go_wp2_with fail
  refine HKI.out.mono ?_
  rintro r w4 ⟨A1, c1, rfl, ho, hb⟩
  have S4 := Lib.hid (S0.out.call hb)
  have HK : Hid (Rd w4 A1 c1 (m.a ++ m.l)) := Lib.hid (own_rd ho (ki10_byt S4.out.2.2.2.2.2.1))
  clear HKI S0 ho hb m0 m1 m2 m3 m4 m5 m6 m7 m8
  obtain ⟨-, ⟨-, i0, i1, i2⟩, ⟨m0, m1, m2, m3, m4, m5, m6, m7, m8⟩, ⟨d0, d1, d2, d3, d4⟩, -⟩ := S4.out
  dsimp only at d1 d2 d3
  clear m0 m1 m2 m3 m4 m5 m6 m7 m8
  have HE : Hid (st10 d m (o, (b : Int), z) R = dp10 R (tkL o) (gvL o)) := Lib.hid (by simp [st10, n1, n2, n3, n4, n5, n7, n8, n30, n31])
  have e01 : (o == 1) = false := by simpa using n1
  have e02 : (o == 2) = false := by simpa using n2
  have e03 : (o == 3) = false := by simpa using n3
  have e04 : (o == 4) = false := by simpa using n4
  have e05 : (o == 5) = false := by simpa using n5
  have e07 : (o == 7) = false := by simpa using n7
  have e08 : (o == 8) = false := by simpa using n8
  have e30 : (o == 30) = false := by simpa using n30
  have e31 : (o == 31) = false := by simpa using n31
  clear n1 n2 n3 n4 n5 n7 n8 n30 n31
  have hkl := tk10_len o
  have hgl := gv10_len o
  go_wp2_with fail
  refine (of_any o _).mono ?_
  rintro e w5 ⟨A2, c2, A3, c3, mm, rfl, ho1, -, -, ho2, hb⟩
  have S5 := Lib.hid (S4.out.call hb)
  have HR1 := Lib.hid (own_rd ho1 (tkL_byt o))
  have HR2 := Lib.hid (own_rd ho2 (gvL_byt o))
  clear ho1 ho2 hb S4 i0 i1 i2 d0 d1 d2 d3 d4
  go_upto_region 27 with (fail)
  have S6 : Hid (Sx w (w5.alloc (.cells #[.slice A2 (tkL o).length c2, .slice A3 (gvL o).length c3] 72)) [fR A2 c2 (tkL o), fR A3 c3 (gvL o), fR A c R]) := Lib.hid ⟨S5.out.1.trans (new1.mono S5.out.1.size), HR1.out.keep new1, HR2.out.keep new1, S5.out.2.2.2.2.2.2.1.keep new1, trivial⟩
  have HDR := Lib.hid (drop10_v A A2 A3 c n c2 (tkL o).length c3 (gvL o).length R (tkL o) (gvL o) _ S6.out.2.2.2.1 HN.out (by omega) S6.out.2.1 rfl S6.out.2.2.1 rfl (by omega))
  go_wp2_with fail
  refine HDR.out.mono ?_
  rintro e w6 ⟨A', c', rfl, hr5, hb⟩
  have HA : Hid (Dr10 w w6 (st10 d m (o, (b : Int), z) R) (.returned (.tuple #[.slice A' ((dp10 R (tkL o) (gvL o)).getD []).length c', .bool (dp10 R (tkL o) (gvL o)).isSome]))) := Lib.hid (by rw [HE.out]; exact ⟨A', c', rfl, hr5, (S6.out.call hb).1⟩)
  clear hr5 hb HDR
  go_wp2_with fail
  go_ret2
  exact HA.out
end Go.Proofs.Ytplgmdbocmfbcaa
