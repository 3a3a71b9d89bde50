/-
  What package module's functions are to answer (over a fact F); the law's small and told.
-/
import Derived.Test.YteimpkjpoijhmaaDoorMt
import Derived.Test.YteimpkjpoijhmaaDoorMs
import Derived.Test.YteimpkjpoijhmaaDoorMb
namespace Go.Proofs.YteimpkjpoijhmaaDoor
open Go.RowKit
set_option maxRecDepth 100000
set_option linter.unusedSimpArgs false
set_option linter.unusedVariables false

def KMBytes (F : Fct) : Prop := ∀ (y : Ma) (d : Md) (w : World), F.p w → Hq w y d → qG d = false → Calls Tryd.prog 11 #[dv y d] w fun r w' => ∃ A c, r = .returned (.tuple #[.slice A (qB d).length c, .int .i64 (qE d)]) ∧
    w'.ownsRow w.heap.size 5 1 (.slice A (qB d).length c) (qB d).length (cel (qB d)) ∧ Below w.heap.size w w'
def KMMay (F : Fct) : Prop := ∀ (y : Ma) (d : Md) (w : World), F.p w → Hq w y d → qG d = false → Calls Tryd.prog 12 #[dv y d] w fun r w' => r = .returned (.int .i64 (qE d)) ∧ Below w.heap.size w w'
def KMSame (F : Fct) : Prop := ∀ (y t : Ma) (d e : Md) (w : World), F.p w → Hq w y d → Hq w t e → qG d = false → qG e = false → Calls Tryd.prog 13 #[dv y d, dv t e] w fun r w' => r = .returned (.bool (qS d e)) ∧ Below w.heap.size w w'
def KMParse (F : Fct) : Prop := ∀ (A : Option Addr) (c n : Nat) (l : List Int) (w : World), F.p w → Rd w A c l → l.length = n → n ≤ 3001 → Calls Tryd.prog 16 #[.slice A n c] w fun r w' => ∃ y, r = .returned (.tuple #[dv y (qP l).1, .int .i64 (qP l).2]) ∧ Hq w' y (qP l).1 ∧ Below w.heap.size w w'
def KMCopy (F : Fct) : Prop := ∀ (y : Ma) (d : Md) (w : World), F.p w → Hq w y d → qG d = false → Calls Tryd.prog 24 #[dv y d] w fun r w' => ∃ t, r = .returned (dv t d) ∧ Hq w' t d ∧ Below w.heap.size w w'
theorem qE_qG {d : Md} (h : qE d = 0) : qG d = false := by
  obtain ⟨h1, h2, h3, h4, h5, h6, h7, h8⟩ := qE_parts h
  have hs : d.s.any qgE = false := by
    rw [List.any_eq_false]
    intro z hz
    have hz2 := qmE_all h7 z hz
    have hm := mM_iff.1 hz2.1
    have hk := codM_parts hz2.2
    simp [qgE, gB]
    omega
  have := poM_le h6
  simp [qG, hs]
  omega
/-- Is parsing some bytes told that error? -/
def tl8 (l : List Int) (e : Int) : Bool := (qP l).2 == e && qS (qP l).1 Md.zero
set_option maxHeartbeats 2000000 in
theorem told8_v (F : Fct) (KP : KMParse F) (A : Option Addr) (c n : Nat) (l : List Int) (e : Int) (v : Bool) (w : World) (hw : F.p w) (hr : Rd w A c l) (hn : l.length = n) (hl : n ≤ 3001) (hv : tl8 l e = v) :
    Calls Tryd.prog 19 #[.int .i64 e, .slice A n c] w fun x w' => x = .returned (.bool v) ∧ Below w.heap.size w w' := by
  have HV := Lib.hid hv
  have P1 := Lib.hid (KP A c n l w hw hr hn hl)
  rw [tl8] at HV
  obtain ⟨d, hd⟩ : ∃ d, (qP l).1 = d := ⟨_, rfl⟩
  obtain ⟨e0, he⟩ : ∃ e0, (qP l).2 = e0 := ⟨_, rfl⟩
  rw [hd, he] at HV P1
  clear hw hr hn hl hv hd he
  go_enter Tryd.func19, Tryd.ntmps19
  go_wp2_with fail
  refine P1.out.mono ?_
  rintro x w1 ⟨y, rfl, h1, hb1⟩
  have S1 := Lib.hid ((((Sx.start w).call hb1).add (fQm y d) h1).mkD y d)
  clear P1 h1 hb1
  obtain ⟨z0, z1, z2, z3, z4⟩ := S1.out.2.1
  by_cases hq : e0 = e
  · have E : (e0 == e) = true := by simpa using hq
    rw [E] at HV
    clear hq
    go_wp2_with fail
    refine (r8same_v y Ma.zero d Md.zero (qS d Md.zero) _ S1.out.2.2.1 (Hq.zero _) rfl).mono ?_
    rintro x w2 ⟨rfl, hb2⟩
    have S2 := Lib.hid (S1.out.call hb2)
    clear hb2 S1 z0 z1 z2 z3 z4
    go_wp2_with fail
    go_ret
    exact ⟨by rw [← HV.out]; simp, S2.out.1⟩
  · have E : (e0 == e) = false := by simpa using hq
    rw [E] at HV
    clear hq
    go_wp2_with fail
    go_ret
    exact ⟨by rw [← HV.out]; simp, S1.out.1⟩
def dsmall : Md := ⟨[(1, 0, 0)], [], [(⟨[], [], 1, false, 2, 1, 0⟩, [(4, 0, 0), (31, 0, 0)])], -1⟩
def ysmall (B : Nat) : Ma := ⟨some ⟨B, 0, none⟩, 1, none, 0, some ⟨B + 2, 0, none⟩, 1, [⟨⟨none, 0, none, 0, some ⟨B + 1, 0, none⟩, 2, 2⟩, ⟨[], [], 1, false, 2, 1, 0⟩, [(4, 0, 0), (31, 0, 0)]⟩]⟩
theorem small_facts (w : World) (o0 : Obj) : Hq ((((w.alloc o0).alloc (.cells #[.int .u8 1, .int .i64 0, .int .i64 0] 67)).alloc (.cells #[.int .u8 4, .int .i64 0, .int .i64 0, .int .u8 31, .int .i64 0, .int .i64 0] 86)).alloc
    (.cells #[.slice none 0 0, .slice none 0 0, .int .u8 1, .bool false, .int .i64 2, .int .i64 1, .int .i64 0, .slice (some ⟨w.heap.size + 1 + 1, 0, none⟩) 2 2] 49)) (ysmall (w.heap.size + 1)) dsmall := by
  have h1 := rv_new (w.alloc o0) (1, 0, 0) (by unfold VlOk; decide)
  rw [size1] at h1
  have h2 := (Ri.of_own (L := [(4, 0, 0), (31, 0, 0)]) (World.ownsRow_lit (base := 0) (e := 86) (size := 3) ((w.alloc o0).alloc (.cells #[.int .u8 1, .int .i64 0, .int .i64 0] 67)) (cei [(4, 0, 0), (31, 0, 0)]).toArray 2 (Nat.zero_le _) (by unfold maxLen; omega) (by simp [cei])) (by
    intro x hx
    simp at hx
    rcases hx with rfl | rfl <;> (unfold InOk; decide))).1
  rw [size1, size1] at h2
  refine ⟨(h1.keep new1).keep new1, Rv.none_ _, ⟨?_, Nat.le_refl _, (by show (1 : Nat) ≤ maxLen; unfold maxLen; decide), .inr ⟨_, rfl, ?_⟩⟩, rfl, by unfold dsmall; decide⟩
  · intro z hz
    have hz := List.mem_singleton.1 hz
    subst hz
    exact ⟨⟨Rd.none_ _, Rd.none_ _, (by unfold Mh.nums; decide : (⟨[], [], 1, false, 2, 1, 0⟩ : Mh).nums)⟩, h2.keep new1, rfl⟩
  · intro i z hz
    match i, hz with
    | 0, hz =>
      simp [ysmall] at hz
      subst hz
      unfold At8
      refine ⟨?_, ?_, ?_, ?_, ?_, ?_, ?_, ?_⟩ <;> simp [go_sem, Addr.add]
theorem small_v (w : World) : Calls Tryd.prog 48 #[] w fun e w' => e = .returned (dv (ysmall (w.heap.size + 1)) dsmall) ∧ Hq w' (ysmall (w.heap.size + 1)) dsmall ∧ Below w.heap.size w w' := by
  go_enter Tryd.func48, Tryd.ntmps48
  go_wp2_with fail
  have hf := small_facts w (.cells #[.slice (some ⟨w.heap.size + 1, 0, none⟩) 1 1, .slice none 0 0, .slice (some ⟨w.heap.size + 1 + 1 + 1, 0, none⟩) 1 1, .int .i64 (-1)] 25)
  exact bodyPost_ret (v := dv (ysmall (w.heap.size + 1)) dsmall) (by simp [results, Tryd.results48, go_sem, ysmall, dsmall]) rfl ⟨rfl, hf, ((new1.alloc (by simp) _).alloc (by simp; omega) _).alloc (by simp; omega) _⟩
set_option maxHeartbeats 4000000 in
theorem awake8_any (F : Fct) (KB : KMBytes F) (KP : KMParse F) (w : World) (hw : F.p w) : Calls Tryd.prog 18 #[] w fun e w' => e = .returned (.bool true) ∧ Below w.heap.size w w' := by
  have B1 : Hid (qB dsmall = [1, 1, 0, 0, 0, 0, 0, 0, 0, 0, 0, 1, 0, 0, 1, 0, 2, 0, 0, 1, 0, 0, 0, 2, 4, 0, 0, 31, 255] ∧ qE dsmall = 0 ∧ qG dsmall = false) := by unfold Hid; decide
  have T1 : Hid (tl8 [] 10 = true) := by unfold Hid; decide
  have T2 : Hid (tl8 [0, 0, 0, 0] 80 = true) := by unfold Hid; decide
  have T3 : Hid (tl8 [0, 0, 0, 255, 0] 80 = true) := by unfold Hid; decide
  have S0 := Lib.hid ((Sx.start w).add F hw)
  clear hw
  go_enter Tryd.func18, Tryd.ntmps18
  go_wp2_with fail
  refine (small_v _).mono ?_
  rintro e w1 ⟨rfl, h1, hb1⟩
  have S1 := Lib.hid ((S0.out.call hb1).add (fQm (ysmall (w.heap.size + 1)) dsmall) h1)
  clear h1 hb1 S0
  have P1 := Lib.hid (KB _ _ _ S1.out.2.2.1 S1.out.2.1 B1.out.2.2)
  rw [B1.out.1, B1.out.2.1] at P1
  go_wp2_with fail
  refine P1.out.mono ?_
  rintro e w3 ⟨A3, c3, rfl, ho3, hb3⟩
  have S3 := Lib.hid ((S1.out.call hb3).add (fR A3 c3 [1, 1, 0, 0, 0, 0, 0, 0, 0, 0, 0, 1, 0, 0, 1, 0, 2, 0, 0, 1, 0, 0, 0, 2, 4, 0, 0, 31, 255]) (own_rd ho3 (byt_of rfl)))
  clear S1 hb3 ho3 P1 B1
  rw [show ([1, 1, 0, 0, 0, 0, 0, 0, 0, 0, 0, 1, 0, 0, 1, 0, 2, 0, 0, 1, 0, 0, 0, 2, 4, 0, 0, 31, 255] : List Int).length = 29 from rfl]
  have k1 : (convert 28 9 (.slice A3 29 c3)).run Tryd.prog w3 = .ok (.string ⟨#[1, 1, 0, 0, 0, 0, 0, 0, 0, 0, 0, 1, 0, 0, 1, 0, 2, 0, 0, 1, 0, 0, 0, 2, 4, 0, 0, 31, 255]⟩) w3 := rd_string (P := Tryd.prog) S3.out.2.1 28 9 5 Tryd.underlying28 Tryd.underlying5 Tryd.underlying9
  go_wp2_with fail
  have Q1 := Lib.hid (told8_v F KP none 0 0 [] 10 true w3 S3.out.2.2.2.1 (Rd.none_ _) rfl (by decide) T1.out)
  refine Q1.out.mono ?_
  rintro e w4 ⟨rfl, hb4⟩
  have S4 := Lib.hid (S3.out.call hb4)
  clear S3 hb4 Q1 k1
  go_wp2_with fail
  have Q2 := Lib.hid (told8_v F KP (some ⟨w4.heap.size, 0, none⟩) 4 4 [0, 0, 0, 0] 80 true _ (F.keep _ _ S4.out.2.2.2.1 new1) (rd_lit w4 [0, 0, 0, 0] (byt_of rfl) (by decide)) rfl (by decide) T2.out)
  refine Q2.out.mono ?_
  rintro e w5 ⟨rfl, hb5⟩
  have S5 := Lib.hid (S4.out.call (below1 hb5))
  clear S4 hb5 Q2
  go_wp2_with fail
  have Q3 := Lib.hid (told8_v F KP (some ⟨w5.heap.size, 0, none⟩) 5 5 [0, 0, 0, 255, 0] 80 true _ (F.keep _ _ S5.out.2.2.2.1 new1) (rd_lit w5 [0, 0, 0, 255, 0] (byt_of rfl) (by decide)) rfl (by decide) T3.out)
  refine Q3.out.mono ?_
  rintro e w6 ⟨rfl, hb6⟩
  have S6 := Lib.hid (S5.out.call (below1 hb6))
  clear S5 hb6 Q3
  go_wp2_with fail
  go_ret
  exact ⟨rfl, S6.out.1⟩
end Go.Proofs.YteimpkjpoijhmaaDoor
