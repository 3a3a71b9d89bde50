/-
  Mm, Mg, Ms, Mo: in one text.
-/
import Derived.Test.YtimjnmkfbdijeaaLk
import Derived.Test.YtimjnmkfbdijeaaLg
import Derived.Test.YtimjnmkfbdijeaaLi
import Derived.Test.YtimjnmkfbdijeaaPv
import Derived.OwnWalk
import Derived.Laws.OwnMore
namespace Go.Proofs.Ytimjnmkfbdijeaa
open Go.RowKit
set_option maxRecDepth 100000
set_option linter.unusedSimpArgs false
set_option linter.unusedVariables false

/-- A method: where its slices lie, its head, its code. -/
structure Me where
  x : Mc
  m : Mh
  k : List Ins
def Me.ok (w : World) (z : Me) : Prop := Hd w z.x z.m ∧ Ri w z.x.D z.x.e z.k ∧ z.k.length = z.x.k
theorem Me.ok.keep {w w' : World} {z : Me} (h : z.ok w) (hb : Below w.heap.size w w') : z.ok w' := ⟨h.1.keep hb, h.2.1.keep hb, h.2.2⟩
abbrev ze (z : Me) : Mh × List Ins := (z.m, z.k)
/-- The cells of methods. -/
def ce8 (z : Me) : List Value := [.slice z.x.A z.m.a.length z.x.c, .slice z.x.B z.m.l.length z.x.d, .int .u8 z.m.r, .bool z.m.q, .int .i64 z.m.f, .int .i64 z.m.s, .int .i64 z.m.h, .slice z.x.D z.x.k z.x.e]
def cem (Z : List Me) : List Value := Z.flatMap ce8
/-- The eight cells of a method at an address. -/
def At8 (w : World) (p : Addr) (z : Me) : Prop := w.cell? p = some (.slice z.x.A z.m.a.length z.x.c) ∧ w.cell? ⟨p.block, p.off + 1, none⟩ = some (.slice z.x.B z.m.l.length z.x.d) ∧ w.cell? ⟨p.block, p.off + 2, none⟩ = some (.int .u8 z.m.r) ∧
  w.cell? ⟨p.block, p.off + 3, none⟩ = some (.bool z.m.q) ∧ w.cell? ⟨p.block, p.off + 4, none⟩ = some (.int .i64 z.m.f) ∧ w.cell? ⟨p.block, p.off + 5, none⟩ = some (.int .i64 z.m.s) ∧ w.cell? ⟨p.block, p.off + 6, none⟩ = some (.int .i64 z.m.h) ∧
  w.cell? ⟨p.block, p.off + 7, none⟩ = some (.slice z.x.D z.x.k z.x.e)
theorem At8.keep {w w' : World} {p : Addr} {z : Me} (h : At8 w p z) (hb : Below w.heap.size w w') : At8 w' p z := by
  obtain ⟨h1, h2, h3, h4, h5, h6, h7, h8⟩ := h
  have k : ∀ {a : Addr} {v : Value}, w.cell? a = some v → w'.cell? a = some v := fun hv => (hb.cell (cell_lt hv)).trans hv
  exact ⟨k h1, k h2, k h3, k h4, k h5, k h6, k h7, k h8⟩
/-- The slice at A, of capacity c, reads as the methods Z. -/
def Rm (w : World) (A : Option Addr) (c : Nat) (Z : List Me) : Prop :=
  (∀ z ∈ Z, z.ok w) ∧ Z.length ≤ c ∧ c ≤ maxLen ∧ ((A = none ∧ c = 0) ∨ ∃ ad : Addr, A = some ad ∧ ∀ i z, Z[i]? = some z → At8 w (ad.add (i * 8)) z)
section
variable {w w' : World} {A : Option Addr} {c : Nat} {Z : List Me}
theorem Rm.le (h : Rm w A c Z) : Z.length ≤ c := h.2.1
theorem Rm.len (h : Rm w A c Z) : Z.length ≤ 9223372036854775807 := Nat.le_trans h.le h.2.2.1
theorem Rm.at_ (h : Rm w A c Z) {i : Nat} (hi : i < Z.length) : ∃ ad : Addr, A = some ad ∧ At8 w (ad.add (i * 8)) Z[i] ∧ (Z[i]).ok w := by
  rcases h.2.2.2 with ⟨_, hc⟩ | ⟨ad, ha, hc⟩
  · have := h.le; omega
  · exact ⟨ad, ha, hc i _ (List.getElem?_eq_getElem hi), h.1 _ (List.getElem_mem hi)⟩
theorem Rm.none_ (w : World) : Rm w none 0 [] := ⟨fun x hx => (by cases hx), Nat.le_refl _, Nat.zero_le _, .inl ⟨rfl, rfl⟩⟩
theorem Rm.keep (h : Rm w A c Z) (hb : Below w.heap.size w w') : Rm w' A c Z := by
  refine ⟨fun z hz => (h.1 z hz).keep hb, h.2.1, h.2.2.1, ?_⟩
  rcases h.2.2.2 with hn | ⟨ad, ha, hc⟩
  · exact .inl hn
  · exact .inr ⟨ad, ha, fun i z hz => (hc i z hz).keep hb⟩
end
/-- A module, and where it lies. -/
structure Md where
  g : List Vlu
  p : List Vlu
  s : List (Mh × List Ins)
  i : Int
structure Ma where
  G : Option Addr
  gc : Nat
  P : Option Addr
  pc : Nat
  A : Option Addr
  c : Nat
  Z : List Me
def Md.zero : Md := ⟨[], [], [], 0⟩
def Ma.zero : Ma := ⟨none, 0, none, 0, none, 0, []⟩
abbrev dv (y : Ma) (d : Md) : Value := .agg #[.slice y.G d.g.length y.gc, .slice y.P d.p.length y.pc, .slice y.A d.s.length y.c, .int .i64 d.i]
def dcel (y : Ma) (d : Md) : Obj := .cells #[.slice y.G d.g.length y.gc, .slice y.P d.p.length y.pc, .slice y.A d.s.length y.c, .int .i64 d.i] 25
/-- The value reads as the module. -/
def Hq (w : World) (y : Ma) (d : Md) : Prop := Rv w y.G y.gc d.g ∧ Rv w y.P y.pc d.p ∧ Rm w y.A y.c y.Z ∧ y.Z.map ze = d.s ∧ (-9223372036854775808 ≤ d.i ∧ d.i ≤ 9223372036854775807)
theorem Hq.keep {w w' : World} {y : Ma} {d : Md} (h : Hq w y d) (hb : Below w.heap.size w w') : Hq w' y d := ⟨h.1.keep hb, h.2.1.keep hb, h.2.2.1.keep hb, h.2.2.2⟩
theorem Hq.zero (w : World) : Hq w Ma.zero Md.zero := ⟨Rv.none_ w, Rv.none_ w, Rm.none_ w, rfl, by unfold Md.zero; decide⟩
theorem Hq.zlen {w : World} {y : Ma} {d : Md} (h : Hq w y d) : y.Z.length = d.s.length := by rw [← h.2.2.2.1, List.length_map]
theorem Hq.zat {w : World} {y : Ma} {d : Md} (h : Hq w y d) {i : Nat} (h1 : i < y.Z.length) (h2 : i < d.s.length) : d.s[i] = ((y.Z[i]).m, (y.Z[i]).k) := by
  have e := h.2.2.2.1
  have : d.s[i]? = (y.Z.map ze)[i]? := by rw [e]
  rw [List.getElem?_eq_getElem h2, List.getElem?_map, List.getElem?_eq_getElem h1] at this
  simpa using this
abbrev fQm (y : Ma) (d : Md) : Fct := ⟨fun w => Hq w y d, fun _ _ h hb => h.keep hb⟩
/-- The module lies in block B. -/
def Db (w : World) (B : Nat) (y : Ma) (d : Md) : Prop := B < w.heap.size ∧ w.cell? ⟨B, 0, none⟩ = some (.slice y.G d.g.length y.gc) ∧ w.cell? ⟨B, 1, none⟩ = some (.slice y.P d.p.length y.pc) ∧ w.cell? ⟨B, 2, none⟩ = some (.slice y.A d.s.length y.c) ∧ w.cell? ⟨B, 3, none⟩ = some (.int .i64 d.i)
theorem Db.new (w : World) (y : Ma) (d : Md) : Db (w.alloc (dcel y d)) w.heap.size y d := by
  refine ⟨by simp, ?_, ?_, ?_, ?_⟩ <;> simp [go_sem, dcel]
theorem Db.keep {w w' : World} {B : Nat} {y : Ma} {d : Md} (h : Db w B y d) (hb : Below w.heap.size w w') : Db w' B y d := by
  obtain ⟨h0, h1, h2, h3, h4⟩ := h
  obtain ⟨hc, hf⟩ := bcell hb
  exact ⟨Nat.lt_of_lt_of_le h0 hb.size, (hc _ _ h0).trans h1, (hc _ _ h0).trans h2, (hc _ _ h0).trans h3, (hc _ _ h0).trans h4⟩
abbrev fD (B : Nat) (y : Ma) (d : Md) : Fct := ⟨fun w => Db w B y d, fun _ _ h hb => h.keep hb⟩
theorem Sx.mkD {w0 w : World} {L : List Fct} (h : Sx w0 w L) (y : Ma) (d : Md) : Sx w0 (w.alloc (dcel y d)) (fD w.heap.size y d :: L) := (h.mk1 _).add (fD w.heap.size y d) (Db.new w y d)

/-! What the chapter says. -/
def qgE (z : Mh × List Ins) : Bool := gB z.1 || decide (300 < z.2.length)
def qG (d : Md) : Bool := decide (100 < d.g.length) || (decide (100 < d.p.length) || (decide (40 < d.s.length) || d.s.any qgE))
/-- The first method's error. -/
def qmE : List (Mh × List Ins) → Int
  | [] => 0
  | z :: s => if mM z.1 = true then (if codM z.2 = true then qmE s else 40) else 70
def qmB (s : List (Mh × List Ins)) : List Int := s.flatMap fun z => mL z.1 ++ codB z.2
def qX (d : Md) : List Int := poB d.g ++ (poB d.p ++ ((d.s.length : Int) :: (qmB d.s ++ [if d.i < 0 then 255 else d.i])))
def qE (d : Md) : Int :=
  if 4 < d.g.length ∨ 16 < d.s.length ∨ d.i < -1 ∨ (d.s.length : Int) ≤ d.i then 80 else
  if poM d.g = true then (if poM d.p = true then (if qmE d.s = 0 then (if 2000 < (qX d).length then 3 else 0) else qmE d.s) else 60) else 60
def qB (d : Md) : List Int := if qE d = 0 then qX d else []
def qsS : List (Mh × List Ins) → List (Mh × List Ins) → Bool
  | [], [] => true
  | z :: s, y :: t => (mS z.1 y.1 && decide (z.2 = y.2)) && qsS s t
  | _, _ => false
def qS (a b : Md) : Bool := a.i == b.i && (decide (a.g = b.g) && (decide (a.p = b.p) && qsS a.s b.s))
theorem qsS_iff : ∀ {s t : List (Mh × List Ins)}, qsS s t = true ↔ s = t
  | [], [] => by simp [qsS]
  | [], _ :: _ => by simp [qsS]
  | _ :: _, [] => by simp [qsS]
  | (m, k) :: s, (m', k') :: t => by
    rw [qsS, Bool.and_eq_true, Bool.and_eq_true, mS_iff, qsS_iff (s := s) (t := t)]
    simp
theorem qS_iff {a b : Md} : qS a b = true ↔ a = b := by
  obtain ⟨g, p, s, i⟩ := a
  obtain ⟨g', p', s', i'⟩ := b
  simp only [qS, Bool.and_eq_true, qsS_iff, decide_eq_true_eq, beq_iff_eq, Md.mk.injEq]
  constructor
  · rintro ⟨h1, h2, h3, h4⟩; exact ⟨h2, h3, h4, h1⟩
  · rintro ⟨h2, h3, h4, h1⟩; exact ⟨h1, h2, h3, h4⟩
theorem qS_self (d : Md) : qS d d = true := qS_iff.2 rfl
theorem qS_comm (a b : Md) : qS a b = qS b a := by
  rw [Bool.eq_iff_iff, qS_iff, qS_iff]
  exact eq_comm
end Go.Proofs.Ytimjnmkfbdijeaa
namespace Go.Proofs.Ytimjnmkfbdijeaa
open Go.RowKit
set_option maxRecDepth 100000
set_option linter.unusedSimpArgs false
set_option linter.unusedVariables false

/-- One method of a module, at whatever world. -/
theorem Rm.each {w : World} {ad : Addr} {c : Nat} {Z : List Me} {j : Nat} (h1 : j < Z.length) : ∀ w', Rm w' (some ad) c Z → At8 w' (ad.add (j * 8)) Z[j] ∧ (Z[j]).ok w' := by
  intro w' h
  obtain ⟨ad', e', ha, hk⟩ := h.at_ h1
  obtain rfl := Option.some.inj e'
  exact ⟨ha, hk⟩
set_option maxHeartbeats 2000000 in
theorem great8_v (y : Ma) (d : Md) (w : World) (hq : Hq w y d) : Calls Try.prog 7 #[dv y d] w fun e w' => e = .returned (.bool (qG d)) ∧ Below w.heap.size w w' := by
  obtain ⟨v, hv⟩ : ∃ v, qG d = v := ⟨_, rfl⟩
  have HV := Lib.hid hv
  rw [hv]
  clear hv
  have hlg := hq.1.len
  have hlp := hq.2.1.len
  have hls := hq.2.2.1.len
  have hzl := hq.zlen
  rw [hzl] at hls
  have HZL := Lib.hid hzl
  have HZA := Lib.hid (fun (i : Nat) (h1 : i < y.Z.length) (h2 : i < d.s.length) => hq.zat h1 h2)
  obtain ⟨G, gc, P, pc, A, c, Z⟩ := y
  dsimp only at HZL HZA hzl
  have S0 := Lib.hid (((Sx.start w).add (fQm ⟨G, gc, P, pc, A, c, Z⟩ d) hq).mkD ⟨G, gc, P, pc, A, c, Z⟩ d)
  clear hq hzl
  obtain ⟨-, ⟨z0, z1, z2, z3, z4⟩, -⟩ := S0.out
  dsimp only at z1 z2 z3
  by_cases b1 : 100 < d.g.length
  · have HN : Hid (v = true) := by rw [Hid, ← HV.out, qG, decide_eq_true b1]; rfl
    go_enter Try.func7, Try.ntmps7
    go_wp2_with fail
    go_ret
    exact ⟨by rw [HN.out]; rfl, S0.out.1⟩
  · by_cases b2 : 100 < d.p.length
    · have HN : Hid (v = true) := by rw [Hid, ← HV.out, qG, decide_eq_true b2]; simp
      go_enter Try.func7, Try.ntmps7
      go_wp2_with fail
      go_ret
      exact ⟨by rw [HN.out]; rfl, S0.out.1⟩
    · by_cases b3 : 40 < d.s.length
      · have HN : Hid (v = true) := by rw [Hid, ← HV.out, qG, decide_eq_true b3]; simp
        go_enter Try.func7, Try.ntmps7
        go_wp2_with fail
        go_ret
        exact ⟨by rw [HN.out]; rfl, S0.out.1⟩
      · have HV2 : Hid (d.s.any qgE = v) := by rw [Hid, ← HV.out, qG, decide_eq_false b1, decide_eq_false b2, decide_eq_false b3]; rfl
        clear HV
        go_enter Try.func7, Try.ntmps7
        go_upto_region 3 with (fail)
        generalize hw0 : w.alloc (.cells #[.slice G d.g.length gc, .slice P d.p.length pc, .slice A d.s.length c, .int .i64 d.i] 25) = w0 at *
        have S1 : Hid (Sx w w0 [fD w.heap.size ⟨G, gc, P, pc, A, c, Z⟩ d, fQm ⟨G, gc, P, pc, A, c, Z⟩ d]) := by rw [← hw0]; exact S0
        clear S0 z0 z1 z2 z3 z4 hw0
        go_wp2_with fail
        go_loopw [3] (fun i wr => ∃ j : Nat, j ≤ d.s.length ∧ i = .int .i64 j ∧ Hid ((d.s.take j).any qgE = false) ∧ Hid (Sx w wr [fD w.heap.size ⟨G, gc, P, pc, A, c, Z⟩ d, fQm ⟨G, gc, P, pc, A, c, Z⟩ d])) (fun i _ => d.s.length - (intOf i).toNat)
        case atStart => exact ⟨0, by omega, rfl, by simp [Hid], S1⟩
        case round =>
          obtain ⟨j, hj, rfl, HT, S2⟩ := hrel
          clear S1
          obtain ⟨-, ⟨z0, z1, z2, z3, z4⟩, -⟩ := S2.out
          dsimp only at z1 z2 z3
          by_cases h1 : j < d.s.length
          · have h1z : j < Z.length := by rw [HZL.out]; exact h1
            have hR : Rm wr A c Z := S2.out.2.2.1.2.2.1
            obtain ⟨ad, rfl, -, -⟩ := hR.at_ h1z
            have HE := Lib.hid (Rm.each (w := wr) (ad := ad) (c := c) h1z)
            have HS : Hid (d.s.any qgE = true → v = true) := fun h => by rw [← HV2.out]; exact h
            have HJ : Hid (d.s[j] = ((Z[j]).m, (Z[j]).k)) := HZA.out j h1z h1
            have HTN : Hid (qgE d.s[j] = false → (d.s.take (j + 1)).any qgE = false) := fun h => by
              rw [List.take_add_one, List.getElem?_eq_getElem h1, List.any_append, HT.out]
              simp [h]
            have HTY : Hid (qgE d.s[j] = true → v = true) := fun h => HS.out (List.any_eq_true.2 ⟨_, List.getElem_mem h1, h⟩)
            rw [HJ.out] at HTN HTY
            obtain ⟨⟨a1, a2, a3, a4, a5, a6, a7, a8⟩, hok⟩ := HE.out wr hR
            clear HJ HS HT hR
            generalize Z[j] = z at *
            obtain ⟨x, m, k⟩ := z
            dsimp only at a1 a2 a3 a4 a5 a6 a7 a8 hok HTN HTY
            have hP := Lib.hid (great_v x m wr hok.1)
            have hkl : k.length = x.k := hok.2.2
            have HKL := Lib.hid hkl
            have hkm := hok.2.1.len
            rw [hkl] at hkm
            clear hok hkl
            go_wp2_with fail
            refine hP.out.mono ?_
            rintro e w3 ⟨rfl, hb3⟩
            have S3 := Lib.hid (S2.out.call hb3)
            have hR : Rm w3 (some ad) c Z := S3.out.2.2.1.2.2.1
            obtain ⟨⟨b1, b2, b3, b4, b5, b6, b7, b8⟩, -⟩ := HE.out w3 hR
            dsimp only at b1 b2 b3 b4 b5 b6 b7 b8
            clear hb3 S2 hP hR z0 z1 z2 z3 z4 a1 a2 a3 a4 a5 a6 a7 a8
            obtain ⟨-, ⟨z0, z1, z2, z3, z4⟩, -⟩ := S3.out
            dsimp only at z1 z2 z3
            cases hg : gB m with
            | true =>
              have HN := Lib.hid (HTY.out (by simp [qgE, hg]))
              clear HTN HTY hg
              go_wp2_with fail
              go_ret
              exact ⟨by rw [HN.out]; rfl, S3.out.1⟩
            | false =>
              by_cases h3 : 300 < x.k
              · have HN := Lib.hid (HTY.out (by simp [qgE, hg, HKL.out, h3]))
                clear HTN HTY hg
                go_wp2_with fail
                go_ret
                exact ⟨by rw [HN.out]; rfl, S3.out.1⟩
              · have HN := Lib.hid (HTN.out (by simp [qgE, hg, HKL.out]; omega))
                clear HTN HTY hg
                go_wp2_with fail
                go_roundw
                case rel => exact ⟨j + 1, by omega, by go_num, HN, S3⟩
                case measure => simp [intOf]; omega
          · obtain rfl : j = d.s.length := by omega
            have HN : Hid (v = false) := by
              have := HT.out
              rw [List.take_length] at this
              rw [Hid, ← HV2.out, this]
            clear HT
            go_wp2_with fail
            go_ret
            exact ⟨by rw [HN.out]; rfl, S2.out.1⟩
end Go.Proofs.Ytimjnmkfbdijeaa
namespace Go.Proofs.Ytimjnmkfbdijeaa
open Go.RowKit
set_option maxRecDepth 100000
set_option linter.unusedSimpArgs false
set_option linter.unusedVariables false

theorem qsS_at {s t : List (Mh × List Ins)} {j : Nat} (h : j < s.length) (h2 : j < t.length) : qsS (s.drop j) (t.drop j) = ((mS (s[j]).1 (t[j]).1 && decide ((s[j]).2 = (t[j]).2)) && qsS (s.drop (j + 1)) (t.drop (j + 1))) := by
  rw [List.drop_eq_getElem_cons h, List.drop_eq_getElem_cons h2, qsS]
theorem qsS_len {s t : List (Mh × List Ins)} (h : s.length ≠ t.length) : qsS s t = false := by
  cases hq : qsS s t with
  | false => rfl
  | true => exact absurd (by rw [qsS_iff.1 hq]) h
set_option maxHeartbeats 4000000 in
theorem r8same_v (y t : Ma) (d e : Md) (v : Bool) (w : World) (hy : Hq w y d) (ht : Hq w t e) (hv : qS d e = v) :
    Calls Try.prog 16 #[dv y d, dv t e] w fun r w' => r = .returned (.bool v) ∧ Below w.heap.size w w' := by
  have hls := hy.2.2.1.len
  have hls2 := ht.2.2.1.len
  have hzl := hy.zlen
  have hzl2 := ht.zlen
  rw [hzl] at hls
  rw [hzl2] at hls2
  have HZL := Lib.hid (And.intro hzl hzl2)
  have HZA := Lib.hid (fun (i : Nat) (h1 : i < y.Z.length) (h2 : i < d.s.length) => hy.zat h1 h2)
  have HZB := Lib.hid (fun (i : Nat) (h1 : i < t.Z.length) (h2 : i < e.s.length) => ht.zat h1 h2)
  obtain ⟨G, gc, P, pc, A, c, Z⟩ := y
  obtain ⟨G2, gc2, P2, pc2, A2, c2, Z2⟩ := t
  dsimp only at HZL HZA HZB hzl hzl2
  have S0 := Lib.hid (((((Sx.start w).add (fQm ⟨G, gc, P, pc, A, c, Z⟩ d) hy).add (fQm ⟨G2, gc2, P2, pc2, A2, c2, Z2⟩ e) ht).mkD ⟨G, gc, P, pc, A, c, Z⟩ d).mkD ⟨G2, gc2, P2, pc2, A2, c2, Z2⟩ e)
  rw [size1] at S0
  have HV := Lib.hid hv
  clear hy ht hv hzl hzl2
  obtain ⟨-, ⟨y0, y1, y2, y3, y4⟩, ⟨x0, x1, x2, x3, x4⟩, -⟩ := S0.out
  dsimp only at x1 x2 x3 y1 y2 y3
  by_cases hi : d.i = e.i
  · have E0 : (d.i != e.i) = false := by simpa using hi
    have HI := Lib.hid hi
    clear hi
    go_enter Try.func16, Try.ntmps16
    go_wp2_with fail
    refine (r3same_any G G2 gc gc2 _ _ d.g e.g _ S0.out.2.2.2.2.1.1 S0.out.2.2.2.1.1 rfl rfl).mono ?_
    rintro r1 w1 ⟨rfl, hb1⟩
    have S1 := Lib.hid (S0.out.call hb1)
    clear hb1 S0
    clear y0 y1 y2 y3 y4 x0 x1 x2 x3 x4
    obtain ⟨-, ⟨y0, y1, y2, y3, y4⟩, ⟨x0, x1, x2, x3, x4⟩, -⟩ := S1.out
    dsimp only at x1 x2 x3 y1 y2 y3
    by_cases hg : d.g = e.g
    · rw [decide_eq_true hg]
      have HG := Lib.hid hg
      clear hg
      go_wp2_with fail
      refine (r3same_any P P2 pc pc2 _ _ d.p e.p _ S1.out.2.2.2.2.1.2.1 S1.out.2.2.2.1.2.1 rfl rfl).mono ?_
      rintro r1 w2 ⟨rfl, hb2⟩
      have S2 := Lib.hid (S1.out.call hb2)
      clear hb2 S1
      clear y0 y1 y2 y3 y4 x0 x1 x2 x3 x4
      obtain ⟨-, ⟨y0, y1, y2, y3, y4⟩, ⟨x0, x1, x2, x3, x4⟩, -⟩ := S2.out
      dsimp only at x1 x2 x3 y1 y2 y3
      by_cases hp : d.p = e.p
      · rw [decide_eq_true hp]
        have HP := Lib.hid hp
        clear hp
        by_cases hn : d.s.length = e.s.length
        · have HNL := Lib.hid hn
          have E1 : ((d.s.length : Int) != (e.s.length : Int)) = false := by simp [hn]
          have HQ : Hid (qsS d.s e.s = v) := by
            rw [Hid, ← HV.out, qS, decide_eq_true HG.out, decide_eq_true HP.out, HI.out]
            simp
          clear hn HV
          go_wp2_with fail
          clear E1
          clear y0 y1 y2 y3 y4 x0 x1 x2 x3 x4
          go_loopw [5] (fun i wr => ∃ j : Nat, j ≤ d.s.length ∧ i = .int .i64 j ∧ Hid (qsS d.s e.s = qsS (d.s.drop j) (e.s.drop j)) ∧ Hid (Sx w wr [fD (w.heap.size + 1) ⟨G2, gc2, P2, pc2, A2, c2, Z2⟩ e, fD w.heap.size ⟨G, gc, P, pc, A, c, Z⟩ d, fQm ⟨G2, gc2, P2, pc2, A2, c2, Z2⟩ e, fQm ⟨G, gc, P, pc, A, c, Z⟩ d])) (fun i _ => d.s.length - (intOf i).toNat)
          case atStart => exact ⟨0, by omega, rfl, by simp [Hid], S2⟩
          case round =>
            obtain ⟨j, hj, rfl, HT, S1⟩ := hrel
            clear S2
            obtain ⟨-, ⟨y0, y1, y2, y3, y4⟩, ⟨x0, x1, x2, x3, x4⟩, -⟩ := S1.out
            dsimp only at x1 x2 x3 y1 y2 y3
            by_cases h1 : j < d.s.length
            · have h2 : j < e.s.length := by rw [← HNL.out]; exact h1
              have h1z : j < Z.length := by rw [HZL.out.1]; exact h1
              have h2z : j < Z2.length := by rw [HZL.out.2]; exact h2
              have hR : Rm wr A c Z := S1.out.2.2.2.2.1.2.2.1
              obtain ⟨ad, rfl, -, -⟩ := hR.at_ h1z
              have hR2 : Rm wr A2 c2 Z2 := S1.out.2.2.2.1.2.2.1
              obtain ⟨ad2, rfl, -, -⟩ := hR2.at_ h2z
              have HE1 := Lib.hid (Rm.each (w := wr) (ad := ad) (c := c) h1z)
              have HE2 := Lib.hid (Rm.each (w := wr) (ad := ad2) (c := c2) h2z)
              have hAT := qsS_at h1 h2
              rw [HZA.out j h1z h1, HZB.out j h2z h2] at hAT
              have HK : Hid ((Z[j]).k.length = (Z[j]).x.k ∧ (Z2[j]).k.length = (Z2[j]).x.k) := ⟨(HE1.out _ hR).2.2.2, (HE2.out _ hR2).2.2.2⟩
              clear hR hR2
              generalize Z[j] = z at *
              generalize Z2[j] = z2 at *
              obtain ⟨xx, m, k⟩ := z
              obtain ⟨xx2, m2, k2⟩ := z2
              dsimp only at hAT HK
              have HNO : Hid ((mS m m2 && decide (k = k2)) = false → v = false) := fun h => by rw [← HQ.out, HT.out, hAT, h, Bool.false_and]
              have HYES : Hid ((mS m m2 && decide (k = k2)) = true → Hid (qsS d.s e.s = qsS (d.s.drop (j + 1)) (e.s.drop (j + 1)))) := fun h => by rw [Hid, HT.out, hAT, h, Bool.true_and]
              obtain ⟨hs, hhs⟩ : ∃ b, mS m m2 = b := ⟨_, rfl⟩
              have HM := Lib.hid hhs
              clear hAT hhs HT
              go_upto_region 6 with (fail)
              clear y0 y1 y2 y3 y4 x0 x1 x2 x3 x4
              have S2 := S1
              clear S1
              cases hs with
              | false =>
                refine wp_region_held_drew (S := fun w' => Hid (Sx w w' [fD (w.heap.size + 1) ⟨G2, gc2, P2, pc2, (some ad2), c2, Z2⟩ e, fD w.heap.size ⟨G, gc, P, pc, (some ad), c, Z⟩ d, fQm ⟨G2, gc2, P2, pc2, (some ad2), c2, Z2⟩ e, fQm ⟨G, gc, P, pc, (some ad), c, Z⟩ d])) (by kernel_rfl) (Hsx.drew S2) (fun hHeld => ?_)
                refine wpAnyH_take (i := 0) (v := ?_) rfl (by kernel_rfl) (by kernel_rfl) (by kernel_rfl) (fun _ _ _ h => h) (Or.inl ⟨by rfl, ?_⟩) (by assumption) ?_
                rotate_left 1
                · intro w _; go_simp; try with_reducible rfl
                try simp only [Act.put, List.getElem_toArray, List.getElem_cons_zero, List.getElem_cons_succ, List.setIfInBounds_toArray, List.set_cons_zero, List.set_cons_succ]
                refine wpAnyH_take (i := 1) (v := ?_) rfl (by kernel_rfl) (by kernel_rfl) (by kernel_rfl) (fun _ _ _ h => h) (Or.inl ⟨by rfl, ?_⟩) (by assumption) ?_
                rotate_left 1
                · intro w hSw; (try dsimp only at hSw); obtain ⟨-, ⟨y0, y1, y2, y3, y4⟩, ⟨x0, x1, x2, x3, x4⟩, -⟩ := hSw.out; dsimp only at x1 x2 x3 y1 y2 y3; go_simp; try with_reducible rfl
                try simp only [Act.put, List.getElem_toArray, List.getElem_cons_zero, List.getElem_cons_succ, List.setIfInBounds_toArray, List.set_cons_zero, List.set_cons_succ]
                refine wpAnyH_take (i := 2) (v := ?_) rfl (by kernel_rfl) (by kernel_rfl) (by kernel_rfl) (fun _ _ _ h => h) (Or.inl ⟨by rfl, ?_⟩) (by assumption) ?_
                rotate_left 1
                · intro w _; go_simp; try with_reducible rfl
                try simp only [Act.put, List.getElem_toArray, List.getElem_cons_zero, List.getElem_cons_succ, List.setIfInBounds_toArray, List.set_cons_zero, List.set_cons_succ]
                refine wpAnyH_take (i := 3) (v := ?_) rfl (by kernel_rfl) (by kernel_rfl) (by kernel_rfl) (fun _ _ _ h => h) (Or.inl ⟨by rfl, ?_⟩) (by assumption) ?_
                rotate_left 1
                · intro w _; go_simp; try with_reducible rfl
                try simp only [Act.put, List.getElem_toArray, List.getElem_cons_zero, List.getElem_cons_succ, List.setIfInBounds_toArray, List.set_cons_zero, List.set_cons_succ]
                refine wpAnyH_take (i := 4) (v := ?_) rfl (by kernel_rfl) (by kernel_rfl) (by kernel_rfl) (fun _ _ _ h => h) (Or.inl ⟨by rfl, ?_⟩) (by assumption) ?_
                rotate_left 1
                · intro w hSw; (try dsimp only at hSw); obtain ⟨a1, a2, a3, a4, a5, a6, a7, a8⟩ := (HE1.out w hSw.out.2.2.2.2.1.2.2.1).1; dsimp only at a1 a2 a3 a4 a5 a6 a7 a8; go_simp; try with_reducible rfl
                try simp only [Act.put, List.getElem_toArray, List.getElem_cons_zero, List.getElem_cons_succ, List.setIfInBounds_toArray, List.set_cons_zero, List.set_cons_succ]
                refine wpAnyH_take (i := 5) (v := ?_) rfl (by kernel_rfl) (by kernel_rfl) (by kernel_rfl) (fun _ _ _ h => h) (Or.inl ⟨by rfl, ?_⟩) (by assumption) ?_
                rotate_left 1
                · intro w _; go_simp; try with_reducible rfl
                try simp only [Act.put, List.getElem_toArray, List.getElem_cons_zero, List.getElem_cons_succ, List.setIfInBounds_toArray, List.set_cons_zero, List.set_cons_succ]
                refine wpAnyH_take (i := 6) (v := ?_) rfl (by kernel_rfl) (by kernel_rfl) (by kernel_rfl) (fun _ _ _ h => h) (Or.inl ⟨by rfl, ?_⟩) (by assumption) ?_
                rotate_left 1
                · intro w hSw; (try dsimp only at hSw); obtain ⟨-, ⟨y0, y1, y2, y3, y4⟩, ⟨x0, x1, x2, x3, x4⟩, -⟩ := hSw.out; dsimp only at x1 x2 x3 y1 y2 y3; go_simp; try with_reducible rfl
                try simp only [Act.put, List.getElem_toArray, List.getElem_cons_zero, List.getElem_cons_succ, List.setIfInBounds_toArray, List.set_cons_zero, List.set_cons_succ]
                refine wpAnyH_take (i := 7) (v := ?_) rfl (by kernel_rfl) (by kernel_rfl) (by kernel_rfl) (fun _ _ _ h => h) (Or.inl ⟨by rfl, ?_⟩) (by assumption) ?_
                rotate_left 1
                · intro w _; go_simp; try with_reducible rfl
                try simp only [Act.put, List.getElem_toArray, List.getElem_cons_zero, List.getElem_cons_succ, List.setIfInBounds_toArray, List.set_cons_zero, List.set_cons_succ]
                refine wpAnyH_take (i := 8) (v := ?_) rfl (by kernel_rfl) (by kernel_rfl) (by kernel_rfl) (fun _ _ _ h => h) (Or.inl ⟨by rfl, ?_⟩) (by assumption) ?_
                rotate_left 1
                · intro w _; go_simp; try with_reducible rfl
                try simp only [Act.put, List.getElem_toArray, List.getElem_cons_zero, List.getElem_cons_succ, List.setIfInBounds_toArray, List.set_cons_zero, List.set_cons_succ]
                refine wpAnyH_take (i := 9) (v := ?_) rfl (by kernel_rfl) (by kernel_rfl) (by kernel_rfl) (fun _ _ _ h => h) (Or.inl ⟨by rfl, ?_⟩) (by assumption) ?_
                rotate_left 1
                · intro w hSw; (try dsimp only at hSw); obtain ⟨a1, a2, a3, a4, a5, a6, a7, a8⟩ := (HE2.out w hSw.out.2.2.2.1.2.2.1).1; dsimp only at a1 a2 a3 a4 a5 a6 a7 a8; go_simp; try with_reducible rfl
                try simp only [Act.put, List.getElem_toArray, List.getElem_cons_zero, List.getElem_cons_succ, List.setIfInBounds_toArray, List.set_cons_zero, List.set_cons_succ]
                refine wpAnyH_ready (rs := [10]) (by kernel_rfl) (by simp) ?_
                refine AllReadyH.cons rfl (fun K hK => ?_) AllReadyH.nil
                go_simp
                refine (r7sam_v xx xx2 m m2 _ _ (HE1.out _ hHeld.out.2.2.2.2.1.2.2.1).2.1 (HE2.out _ hHeld.out.2.2.2.1.2.2.1).2.1 HM.out).mono ?_
                rintro r1 wb ⟨rfl, hb⟩
                go_wp2_with fail
                refine hK.out _ _ (Hsx.call hb hHeld) (fun hHeld => ?_)
                clear hK K
                try simp only [Act.put, List.getElem_toArray, List.getElem_cons_zero, List.getElem_cons_succ, List.setIfInBounds_toArray, List.set_cons_zero, List.set_cons_succ]
                refine wpAnyH_take (i := 11) (v := ?_) rfl (by kernel_rfl) (by kernel_rfl) (by kernel_rfl) (fun _ _ _ h => h) (Or.inl ⟨by rfl, ?_⟩) (by assumption) ?_
                rotate_left 1
                · intro w _; go_simp; try with_reducible rfl
                try simp only [Act.put, List.getElem_toArray, List.getElem_cons_zero, List.getElem_cons_succ, List.setIfInBounds_toArray, List.set_cons_zero, List.set_cons_succ]
                refine wpAnyH_take (i := 12) (v := ?_) rfl (by kernel_rfl) (by kernel_rfl) (by kernel_rfl) (fun _ _ _ h => h) (Or.inl ⟨by rfl, ?_⟩) (by assumption) ?_
                rotate_left 1
                · intro w _; go_simp; try with_reducible rfl
                try simp only [Act.put, List.getElem_toArray, List.getElem_cons_zero, List.getElem_cons_succ, List.setIfInBounds_toArray, List.set_cons_zero, List.set_cons_succ]
                refine wpAnyH_take (i := 13) (v := undef) rfl (by kernel_rfl) (by kernel_rfl) (by kernel_rfl) (fun _ _ _ h => h) (Or.inr ⟨by rfl, rfl⟩) (by assumption) ?_
                try simp only [Act.put, List.getElem_toArray, List.getElem_cons_zero, List.getElem_cons_succ, List.setIfInBounds_toArray, List.set_cons_zero, List.set_cons_succ]
                refine wpAnyH_take (i := 14) (v := undef) rfl (by kernel_rfl) (by kernel_rfl) (by kernel_rfl) (fun _ _ _ h => h) (Or.inr ⟨by rfl, rfl⟩) (by assumption) ?_
                try simp only [Act.put, List.getElem_toArray, List.getElem_cons_zero, List.getElem_cons_succ, List.setIfInBounds_toArray, List.set_cons_zero, List.set_cons_succ]
                refine wpAnyH_take (i := 15) (v := undef) rfl (by kernel_rfl) (by kernel_rfl) (by kernel_rfl) (fun _ _ _ h => h) (Or.inr ⟨by rfl, rfl⟩) (by assumption) ?_
                try simp only [Act.put, List.getElem_toArray, List.getElem_cons_zero, List.getElem_cons_succ, List.setIfInBounds_toArray, List.set_cons_zero, List.set_cons_succ]
                refine wpAnyH_take (i := 16) (v := undef) rfl (by kernel_rfl) (by kernel_rfl) (by kernel_rfl) (fun _ _ _ h => h) (Or.inr ⟨by rfl, rfl⟩) (by assumption) ?_
                try simp only [Act.put, List.getElem_toArray, List.getElem_cons_zero, List.getElem_cons_succ, List.setIfInBounds_toArray, List.set_cons_zero, List.set_cons_succ]
                refine wpAnyH_take (i := 17) (v := undef) rfl (by kernel_rfl) (by kernel_rfl) (by kernel_rfl) (fun _ _ _ h => h) (Or.inr ⟨by rfl, rfl⟩) (by assumption) ?_
                try simp only [Act.put, List.getElem_toArray, List.getElem_cons_zero, List.getElem_cons_succ, List.setIfInBounds_toArray, List.set_cons_zero, List.set_cons_succ]
                refine wpAnyH_take (i := 18) (v := undef) rfl (by kernel_rfl) (by kernel_rfl) (by kernel_rfl) (fun _ _ _ h => h) (Or.inr ⟨by rfl, rfl⟩) (by assumption) ?_
                try simp only [Act.put, List.getElem_toArray, List.getElem_cons_zero, List.getElem_cons_succ, List.setIfInBounds_toArray, List.set_cons_zero, List.set_cons_succ]
                refine wpAnyH_take (i := 19) (v := undef) rfl (by kernel_rfl) (by kernel_rfl) (by kernel_rfl) (fun _ _ _ h => h) (Or.inr ⟨by rfl, rfl⟩) (by assumption) ?_
                try simp only [Act.put, List.getElem_toArray, List.getElem_cons_zero, List.getElem_cons_succ, List.setIfInBounds_toArray, List.set_cons_zero, List.set_cons_succ]
                refine wpAnyH_take (i := 20) (v := undef) rfl (by kernel_rfl) (by kernel_rfl) (by kernel_rfl) (fun _ _ _ h => h) (Or.inr ⟨by rfl, rfl⟩) (by assumption) ?_
                try simp only [Act.put, List.getElem_toArray, List.getElem_cons_zero, List.getElem_cons_succ, List.setIfInBounds_toArray, List.set_cons_zero, List.set_cons_succ]
                refine wpAnyH_take (i := 21) (v := undef) rfl (by kernel_rfl) (by kernel_rfl) (by kernel_rfl) (fun _ _ _ h => h) (Or.inr ⟨by rfl, rfl⟩) (by assumption) ?_
                try simp only [Act.put, List.getElem_toArray, List.getElem_cons_zero, List.getElem_cons_succ, List.setIfInBounds_toArray, List.set_cons_zero, List.set_cons_succ]
                refine wpAnyH_take (i := 22) (v := undef) rfl (by kernel_rfl) (by kernel_rfl) (by kernel_rfl) (fun _ _ _ h => h) (Or.inr ⟨by rfl, rfl⟩) (by assumption) ?_
                try simp only [Act.put, List.getElem_toArray, List.getElem_cons_zero, List.getElem_cons_succ, List.setIfInBounds_toArray, List.set_cons_zero, List.set_cons_succ]
                refine wpAnyH_take (i := 23) (v := undef) rfl (by kernel_rfl) (by kernel_rfl) (by kernel_rfl) (fun _ _ _ h => h) (Or.inr ⟨by rfl, rfl⟩) (by assumption) ?_
                try simp only [Act.put, List.getElem_toArray, List.getElem_cons_zero, List.getElem_cons_succ, List.setIfInBounds_toArray, List.set_cons_zero, List.set_cons_succ]
                refine wpAnyH_take (i := 24) (v := undef) rfl (by kernel_rfl) (by kernel_rfl) (by kernel_rfl) (fun _ _ _ h => h) (Or.inr ⟨by rfl, rfl⟩) (by assumption) ?_
                try simp only [Act.put, List.getElem_toArray, List.getElem_cons_zero, List.getElem_cons_succ, List.setIfInBounds_toArray, List.set_cons_zero, List.set_cons_succ]
                refine wpAnyH_take (i := 25) (v := undef) rfl (by kernel_rfl) (by kernel_rfl) (by kernel_rfl) (fun _ _ _ h => h) (Or.inr ⟨by rfl, rfl⟩) (by assumption) ?_
                try simp only [Act.put, List.getElem_toArray, List.getElem_cons_zero, List.getElem_cons_succ, List.setIfInBounds_toArray, List.set_cons_zero, List.set_cons_succ]
                refine wpAnyH_take (i := 26) (v := undef) rfl (by kernel_rfl) (by kernel_rfl) (by kernel_rfl) (fun _ _ _ h => h) (Or.inr ⟨by rfl, rfl⟩) (by assumption) ?_
                try simp only [Act.put, List.getElem_toArray, List.getElem_cons_zero, List.getElem_cons_succ, List.setIfInBounds_toArray, List.set_cons_zero, List.set_cons_succ]
                refine wpAnyH_take (i := 27) (v := ?_) rfl (by kernel_rfl) (by kernel_rfl) (by kernel_rfl) (fun _ _ _ h => h) (Or.inl ⟨by rfl, ?_⟩) (by assumption) ?_
                rotate_left 1
                · intro w _; go_simp; try with_reducible rfl
                try simp only [Act.put, List.getElem_toArray, List.getElem_cons_zero, List.getElem_cons_succ, List.setIfInBounds_toArray, List.set_cons_zero, List.set_cons_succ]
                refine wpAnyH_done (by kernel_rfl) ?_ _
                have HN : Hid (v = false) := HNO.out (by rw [HM.out]; rfl)
                have HB := Lib.hid hHeld.out.1
                clear hHeld S2
                go_wp2_with fail
                go_ret
                exact ⟨by rw [HN.out]; rfl, HB.out⟩
              | true =>
                refine wp_region_held_drew (S := fun w' => Hid (Sx w w' [fD (w.heap.size + 1) ⟨G2, gc2, P2, pc2, (some ad2), c2, Z2⟩ e, fD w.heap.size ⟨G, gc, P, pc, (some ad), c, Z⟩ d, fQm ⟨G2, gc2, P2, pc2, (some ad2), c2, Z2⟩ e, fQm ⟨G, gc, P, pc, (some ad), c, Z⟩ d])) (by kernel_rfl) (Hsx.drew S2) (fun hHeld => ?_)
                refine wpAnyH_take (i := 0) (v := ?_) rfl (by kernel_rfl) (by kernel_rfl) (by kernel_rfl) (fun _ _ _ h => h) (Or.inl ⟨by rfl, ?_⟩) (by assumption) ?_
                rotate_left 1
                · intro w _; go_simp; try with_reducible rfl
                try simp only [Act.put, List.getElem_toArray, List.getElem_cons_zero, List.getElem_cons_succ, List.setIfInBounds_toArray, List.set_cons_zero, List.set_cons_succ]
                refine wpAnyH_take (i := 1) (v := ?_) rfl (by kernel_rfl) (by kernel_rfl) (by kernel_rfl) (fun _ _ _ h => h) (Or.inl ⟨by rfl, ?_⟩) (by assumption) ?_
                rotate_left 1
                · intro w hSw; (try dsimp only at hSw); obtain ⟨-, ⟨y0, y1, y2, y3, y4⟩, ⟨x0, x1, x2, x3, x4⟩, -⟩ := hSw.out; dsimp only at x1 x2 x3 y1 y2 y3; go_simp; try with_reducible rfl
                try simp only [Act.put, List.getElem_toArray, List.getElem_cons_zero, List.getElem_cons_succ, List.setIfInBounds_toArray, List.set_cons_zero, List.set_cons_succ]
                refine wpAnyH_take (i := 2) (v := ?_) rfl (by kernel_rfl) (by kernel_rfl) (by kernel_rfl) (fun _ _ _ h => h) (Or.inl ⟨by rfl, ?_⟩) (by assumption) ?_
                rotate_left 1
                · intro w _; go_simp; try with_reducible rfl
                try simp only [Act.put, List.getElem_toArray, List.getElem_cons_zero, List.getElem_cons_succ, List.setIfInBounds_toArray, List.set_cons_zero, List.set_cons_succ]
                refine wpAnyH_take (i := 3) (v := ?_) rfl (by kernel_rfl) (by kernel_rfl) (by kernel_rfl) (fun _ _ _ h => h) (Or.inl ⟨by rfl, ?_⟩) (by assumption) ?_
                rotate_left 1
                · intro w _; go_simp; try with_reducible rfl
                try simp only [Act.put, List.getElem_toArray, List.getElem_cons_zero, List.getElem_cons_succ, List.setIfInBounds_toArray, List.set_cons_zero, List.set_cons_succ]
                refine wpAnyH_take (i := 4) (v := ?_) rfl (by kernel_rfl) (by kernel_rfl) (by kernel_rfl) (fun _ _ _ h => h) (Or.inl ⟨by rfl, ?_⟩) (by assumption) ?_
                rotate_left 1
                · intro w hSw; (try dsimp only at hSw); obtain ⟨a1, a2, a3, a4, a5, a6, a7, a8⟩ := (HE1.out w hSw.out.2.2.2.2.1.2.2.1).1; dsimp only at a1 a2 a3 a4 a5 a6 a7 a8; go_simp; try with_reducible rfl
                try simp only [Act.put, List.getElem_toArray, List.getElem_cons_zero, List.getElem_cons_succ, List.setIfInBounds_toArray, List.set_cons_zero, List.set_cons_succ]
                refine wpAnyH_take (i := 5) (v := ?_) rfl (by kernel_rfl) (by kernel_rfl) (by kernel_rfl) (fun _ _ _ h => h) (Or.inl ⟨by rfl, ?_⟩) (by assumption) ?_
                rotate_left 1
                · intro w _; go_simp; try with_reducible rfl
                try simp only [Act.put, List.getElem_toArray, List.getElem_cons_zero, List.getElem_cons_succ, List.setIfInBounds_toArray, List.set_cons_zero, List.set_cons_succ]
                refine wpAnyH_take (i := 6) (v := ?_) rfl (by kernel_rfl) (by kernel_rfl) (by kernel_rfl) (fun _ _ _ h => h) (Or.inl ⟨by rfl, ?_⟩) (by assumption) ?_
                rotate_left 1
                · intro w hSw; (try dsimp only at hSw); obtain ⟨-, ⟨y0, y1, y2, y3, y4⟩, ⟨x0, x1, x2, x3, x4⟩, -⟩ := hSw.out; dsimp only at x1 x2 x3 y1 y2 y3; go_simp; try with_reducible rfl
                try simp only [Act.put, List.getElem_toArray, List.getElem_cons_zero, List.getElem_cons_succ, List.setIfInBounds_toArray, List.set_cons_zero, List.set_cons_succ]
                refine wpAnyH_take (i := 7) (v := ?_) rfl (by kernel_rfl) (by kernel_rfl) (by kernel_rfl) (fun _ _ _ h => h) (Or.inl ⟨by rfl, ?_⟩) (by assumption) ?_
                rotate_left 1
                · intro w _; go_simp; try with_reducible rfl
                try simp only [Act.put, List.getElem_toArray, List.getElem_cons_zero, List.getElem_cons_succ, List.setIfInBounds_toArray, List.set_cons_zero, List.set_cons_succ]
                refine wpAnyH_take (i := 8) (v := ?_) rfl (by kernel_rfl) (by kernel_rfl) (by kernel_rfl) (fun _ _ _ h => h) (Or.inl ⟨by rfl, ?_⟩) (by assumption) ?_
                rotate_left 1
                · intro w _; go_simp; try with_reducible rfl
                try simp only [Act.put, List.getElem_toArray, List.getElem_cons_zero, List.getElem_cons_succ, List.setIfInBounds_toArray, List.set_cons_zero, List.set_cons_succ]
                refine wpAnyH_take (i := 9) (v := ?_) rfl (by kernel_rfl) (by kernel_rfl) (by kernel_rfl) (fun _ _ _ h => h) (Or.inl ⟨by rfl, ?_⟩) (by assumption) ?_
                rotate_left 1
                · intro w hSw; (try dsimp only at hSw); obtain ⟨a1, a2, a3, a4, a5, a6, a7, a8⟩ := (HE2.out w hSw.out.2.2.2.1.2.2.1).1; dsimp only at a1 a2 a3 a4 a5 a6 a7 a8; go_simp; try with_reducible rfl
                try simp only [Act.put, List.getElem_toArray, List.getElem_cons_zero, List.getElem_cons_succ, List.setIfInBounds_toArray, List.set_cons_zero, List.set_cons_succ]
                refine wpAnyH_ready (rs := [10]) (by kernel_rfl) (by simp) ?_
                refine AllReadyH.cons rfl (fun K hK => ?_) AllReadyH.nil
                go_simp
                refine (r7sam_v xx xx2 m m2 _ _ (HE1.out _ hHeld.out.2.2.2.2.1.2.2.1).2.1 (HE2.out _ hHeld.out.2.2.2.1.2.2.1).2.1 HM.out).mono ?_
                rintro r1 wb ⟨rfl, hb⟩
                go_wp2_with fail
                refine hK.out _ _ (Hsx.call hb hHeld) (fun hHeld => ?_)
                clear hK K
                try simp only [Act.put, List.getElem_toArray, List.getElem_cons_zero, List.getElem_cons_succ, List.setIfInBounds_toArray, List.set_cons_zero, List.set_cons_succ]
                refine wpAnyH_take (i := 11) (v := ?_) rfl (by kernel_rfl) (by kernel_rfl) (by kernel_rfl) (fun _ _ _ h => h) (Or.inl ⟨by rfl, ?_⟩) (by assumption) ?_
                rotate_left 1
                · intro w _; go_simp; try with_reducible rfl
                try simp only [Act.put, List.getElem_toArray, List.getElem_cons_zero, List.getElem_cons_succ, List.setIfInBounds_toArray, List.set_cons_zero, List.set_cons_succ]
                refine wpAnyH_take (i := 12) (v := ?_) rfl (by kernel_rfl) (by kernel_rfl) (by kernel_rfl) (fun _ _ _ h => h) (Or.inl ⟨by rfl, ?_⟩) (by assumption) ?_
                rotate_left 1
                · intro w _; go_simp; try with_reducible rfl
                try simp only [Act.put, List.getElem_toArray, List.getElem_cons_zero, List.getElem_cons_succ, List.setIfInBounds_toArray, List.set_cons_zero, List.set_cons_succ]
                refine wpAnyH_take (i := 13) (v := ?_) rfl (by kernel_rfl) (by kernel_rfl) (by kernel_rfl) (fun _ _ _ h => h) (Or.inl ⟨by rfl, ?_⟩) (by assumption) ?_
                rotate_left 1
                · intro w _; go_simp; try with_reducible rfl
                try simp only [Act.put, List.getElem_toArray, List.getElem_cons_zero, List.getElem_cons_succ, List.setIfInBounds_toArray, List.set_cons_zero, List.set_cons_succ]
                refine wpAnyH_take (i := 14) (v := ?_) rfl (by kernel_rfl) (by kernel_rfl) (by kernel_rfl) (fun _ _ _ h => h) (Or.inl ⟨by rfl, ?_⟩) (by assumption) ?_
                rotate_left 1
                · intro w hSw; (try dsimp only at hSw); obtain ⟨-, ⟨y0, y1, y2, y3, y4⟩, ⟨x0, x1, x2, x3, x4⟩, -⟩ := hSw.out; dsimp only at x1 x2 x3 y1 y2 y3; go_simp; try with_reducible rfl
                try simp only [Act.put, List.getElem_toArray, List.getElem_cons_zero, List.getElem_cons_succ, List.setIfInBounds_toArray, List.set_cons_zero, List.set_cons_succ]
                refine wpAnyH_take (i := 15) (v := ?_) rfl (by kernel_rfl) (by kernel_rfl) (by kernel_rfl) (fun _ _ _ h => h) (Or.inl ⟨by rfl, ?_⟩) (by assumption) ?_
                rotate_left 1
                · intro w _; go_simp; try with_reducible rfl
                try simp only [Act.put, List.getElem_toArray, List.getElem_cons_zero, List.getElem_cons_succ, List.setIfInBounds_toArray, List.set_cons_zero, List.set_cons_succ]
                refine wpAnyH_take (i := 16) (v := ?_) rfl (by kernel_rfl) (by kernel_rfl) (by kernel_rfl) (fun _ _ _ h => h) (Or.inl ⟨by rfl, ?_⟩) (by assumption) ?_
                rotate_left 1
                · intro w _; go_simp; try with_reducible rfl
                try simp only [Act.put, List.getElem_toArray, List.getElem_cons_zero, List.getElem_cons_succ, List.setIfInBounds_toArray, List.set_cons_zero, List.set_cons_succ]
                refine wpAnyH_take (i := 17) (v := ?_) rfl (by kernel_rfl) (by kernel_rfl) (by kernel_rfl) (fun _ _ _ h => h) (Or.inl ⟨by rfl, ?_⟩) (by assumption) ?_
                rotate_left 1
                · intro w _; go_simp; try with_reducible rfl
                try simp only [Act.put, List.getElem_toArray, List.getElem_cons_zero, List.getElem_cons_succ, List.setIfInBounds_toArray, List.set_cons_zero, List.set_cons_succ]
                refine wpAnyH_take (i := 18) (v := ?_) rfl (by kernel_rfl) (by kernel_rfl) (by kernel_rfl) (fun _ _ _ h => h) (Or.inl ⟨by rfl, ?_⟩) (by assumption) ?_
                rotate_left 1
                · intro w hSw; (try dsimp only at hSw); obtain ⟨a1, a2, a3, a4, a5, a6, a7, a8⟩ := (HE1.out w hSw.out.2.2.2.2.1.2.2.1).1; dsimp only at a1 a2 a3 a4 a5 a6 a7 a8; go_simp; try with_reducible rfl
                try simp only [Act.put, List.getElem_toArray, List.getElem_cons_zero, List.getElem_cons_succ, List.setIfInBounds_toArray, List.set_cons_zero, List.set_cons_succ]
                refine wpAnyH_take (i := 19) (v := ?_) rfl (by kernel_rfl) (by kernel_rfl) (by kernel_rfl) (fun _ _ _ h => h) (Or.inl ⟨by rfl, ?_⟩) (by assumption) ?_
                rotate_left 1
                · intro w _; go_simp; try with_reducible rfl
                try simp only [Act.put, List.getElem_toArray, List.getElem_cons_zero, List.getElem_cons_succ, List.setIfInBounds_toArray, List.set_cons_zero, List.set_cons_succ]
                refine wpAnyH_take (i := 20) (v := ?_) rfl (by kernel_rfl) (by kernel_rfl) (by kernel_rfl) (fun _ _ _ h => h) (Or.inl ⟨by rfl, ?_⟩) (by assumption) ?_
                rotate_left 1
                · intro w hSw; (try dsimp only at hSw); obtain ⟨-, ⟨y0, y1, y2, y3, y4⟩, ⟨x0, x1, x2, x3, x4⟩, -⟩ := hSw.out; dsimp only at x1 x2 x3 y1 y2 y3; go_simp; try with_reducible rfl
                try simp only [Act.put, List.getElem_toArray, List.getElem_cons_zero, List.getElem_cons_succ, List.setIfInBounds_toArray, List.set_cons_zero, List.set_cons_succ]
                refine wpAnyH_take (i := 21) (v := ?_) rfl (by kernel_rfl) (by kernel_rfl) (by kernel_rfl) (fun _ _ _ h => h) (Or.inl ⟨by rfl, ?_⟩) (by assumption) ?_
                rotate_left 1
                · intro w _; go_simp; try with_reducible rfl
                try simp only [Act.put, List.getElem_toArray, List.getElem_cons_zero, List.getElem_cons_succ, List.setIfInBounds_toArray, List.set_cons_zero, List.set_cons_succ]
                refine wpAnyH_take (i := 22) (v := ?_) rfl (by kernel_rfl) (by kernel_rfl) (by kernel_rfl) (fun _ _ _ h => h) (Or.inl ⟨by rfl, ?_⟩) (by assumption) ?_
                rotate_left 1
                · intro w _; go_simp; try with_reducible rfl
                try simp only [Act.put, List.getElem_toArray, List.getElem_cons_zero, List.getElem_cons_succ, List.setIfInBounds_toArray, List.set_cons_zero, List.set_cons_succ]
                refine wpAnyH_take (i := 23) (v := ?_) rfl (by kernel_rfl) (by kernel_rfl) (by kernel_rfl) (fun _ _ _ h => h) (Or.inl ⟨by rfl, ?_⟩) (by assumption) ?_
                rotate_left 1
                · intro w _; go_simp; try with_reducible rfl
                try simp only [Act.put, List.getElem_toArray, List.getElem_cons_zero, List.getElem_cons_succ, List.setIfInBounds_toArray, List.set_cons_zero, List.set_cons_succ]
                refine wpAnyH_take (i := 24) (v := ?_) rfl (by kernel_rfl) (by kernel_rfl) (by kernel_rfl) (fun _ _ _ h => h) (Or.inl ⟨by rfl, ?_⟩) (by assumption) ?_
                rotate_left 1
                · intro w hSw; (try dsimp only at hSw); obtain ⟨a1, a2, a3, a4, a5, a6, a7, a8⟩ := (HE2.out w hSw.out.2.2.2.1.2.2.1).1; dsimp only at a1 a2 a3 a4 a5 a6 a7 a8; go_simp; try with_reducible rfl
                try simp only [Act.put, List.getElem_toArray, List.getElem_cons_zero, List.getElem_cons_succ, List.setIfInBounds_toArray, List.set_cons_zero, List.set_cons_succ]
                refine wpAnyH_ready (rs := [25]) (by kernel_rfl) (by simp) ?_
                refine AllReadyH.cons rfl (fun K hK => ?_) AllReadyH.nil
                go_simp
                refine (r5same_any xx.D xx2.D xx.e xx2.e xx.k xx2.k k k2 _ (HE1.out _ hHeld.out.2.2.2.2.1.2.2.1).2.2.1 (HE2.out _ hHeld.out.2.2.2.1.2.2.1).2.2.1 HK.out.1 HK.out.2).mono ?_
                rintro r1 wb ⟨rfl, hb⟩
                go_wp2_with fail
                refine hK.out _ _ (Hsx.call hb hHeld) (fun hHeld => ?_)
                clear hK K
                try simp only [Act.put, List.getElem_toArray, List.getElem_cons_zero, List.getElem_cons_succ, List.setIfInBounds_toArray, List.set_cons_zero, List.set_cons_succ]
                refine wpAnyH_take (i := 26) (v := ?_) rfl (by kernel_rfl) (by kernel_rfl) (by kernel_rfl) (fun _ _ _ h => h) (Or.inl ⟨by rfl, ?_⟩) (by assumption) ?_
                rotate_left 1
                · intro w _; go_simp; try with_reducible rfl
                try simp only [Act.put, List.getElem_toArray, List.getElem_cons_zero, List.getElem_cons_succ, List.setIfInBounds_toArray, List.set_cons_zero, List.set_cons_succ]
                refine wpAnyH_take (i := 27) (v := ?_) rfl (by kernel_rfl) (by kernel_rfl) (by kernel_rfl) (fun _ _ _ h => h) (Or.inl ⟨by rfl, ?_⟩) (by assumption) ?_
                rotate_left 1
                · intro w _; go_simp; try with_reducible rfl
                try simp only [Act.put, List.getElem_toArray, List.getElem_cons_zero, List.getElem_cons_succ, List.setIfInBounds_toArray, List.set_cons_zero, List.set_cons_succ]
                refine wpAnyH_done (by kernel_rfl) ?_ _
                have S3 := hHeld
                clear hHeld S2
                by_cases hk : k = k2
                · rw [decide_eq_true hk]
                  have HN := HYES.out (by rw [HM.out, decide_eq_true hk]; rfl)
                  clear hk
                  go_wp2_with fail
                  go_roundw
                  case rel => exact ⟨j + 1, by omega, by go_num, HN, S3⟩
                  case measure => simp [intOf]; omega
                · rw [decide_eq_false hk]
                  have HN : Hid (v = false) := HNO.out (by rw [HM.out, decide_eq_false hk]; rfl)
                  clear hk
                  go_wp2_with fail
                  go_ret
                  exact ⟨by rw [HN.out]; rfl, S3.out.1⟩
            · obtain rfl : j = d.s.length := by omega
              have HN : Hid (v = true) := by
                rw [Hid, ← HQ.out, HT.out, List.drop_of_length_le (Nat.le_refl _), List.drop_of_length_le (by rw [HNL.out]; omega)]
                rfl
              clear HT
              go_wp2_with fail
              go_ret
              exact ⟨by rw [HN.out]; rfl, S1.out.1⟩
        · have E1 : ((d.s.length : Int) != (e.s.length : Int)) = true := by simp; omega
          have HN : Hid (v = false) := by rw [Hid, ← HV.out, qS, qsS_len hn]; simp
          clear hn
          go_wp2_with fail
          go_ret
          exact ⟨by rw [HN.out]; rfl, S2.out.1⟩
      · rw [decide_eq_false hp]
        have HN : Hid (v = false) := by rw [Hid, ← HV.out, qS, decide_eq_false hp]; simp
        clear hp
        go_wp2_with fail
        go_ret
        exact ⟨by rw [HN.out]; rfl, S2.out.1⟩
    · rw [decide_eq_false hg]
      have HN : Hid (v = false) := by rw [Hid, ← HV.out, qS, decide_eq_false hg]; simp
      clear hg
      go_wp2_with fail
      go_ret
      exact ⟨by rw [HN.out]; rfl, S1.out.1⟩
  · have E0 : (d.i != e.i) = true := by simpa using hi
    have HN : Hid (v = false) := by rw [Hid, ← HV.out, qS, show (d.i == e.i) = false by simpa using hi]; rfl
    clear hi
    go_enter Try.func16, Try.ntmps16
    go_wp2_with fail
    go_ret
    exact ⟨by rw [HN.out]; rfl, S0.out.1⟩
end Go.Proofs.Ytimjnmkfbdijeaa
namespace Go.Proofs.Ytimjnmkfbdijeaa
open Go.RowKit
set_option maxRecDepth 100000
set_option linter.unusedSimpArgs false
set_option linter.unusedVariables false

/-- Block B holds n cells of type t. -/
def Bk (w : World) (B t n : Nat) : Prop := ∃ cur, w.heap[B]? = some (.cells cur t (0, 0)) ∧ cur.size = n
theorem Bk.lt {w : World} {B t n : Nat} (h : Bk w B t n) : B < w.heap.size := by
  obtain ⟨cur, h, _⟩ := h
  exact (Array.getElem?_eq_some_iff.1 h).1
theorem Bk.keep {w w' : World} {B t n : Nat} (h : Bk w B t n) (hb : Below w.heap.size w w') : Bk w' B t n := by
  have hl := h.lt
  obtain ⟨cur, h, hn⟩ := h
  exact ⟨cur, (hb.block B hl).trans h, hn⟩
theorem Bk.new (w : World) (cs : Array Value) (t : Nat) : Bk (w.alloc (.cells cs t)) w.heap.size t cs.size := ⟨cs, heap_alloc_new w _, rfl⟩
theorem Bk.set {w : World} {B t n : Nat} (h : Bk w B t n) (g j : Nat) (v : Value) : Bk (w.setCell ⟨g, j, none⟩ v) B t n := by
  obtain ⟨cur, h, hn⟩ := h
  by_cases e : g = B
  · subst e
    exact ⟨cur.setIfInBounds j v, heap_setCell_same w g j cur t v h, by simpa using hn⟩
  · exact ⟨cur, (Below.heap_setCell w ⟨g, j, none⟩ v B (fun e' => e e'.symm)).trans h, hn⟩
/-- A row stays behind a write to a block of another type. -/
theorem own_tag {w : World} {base e size n B t k : Nat} {v : Value} {xs : List Value} (h : w.ownsRow base e size v n xs) (hB : Bk w B t k) (hne : e ≠ t) (j : Nat) (u : Value) : (w.setCell ⟨B, j, none⟩ u).ownsRow base e size v n xs := by
  obtain ⟨h1, h2⟩ := h
  refine ⟨h1, ?_⟩
  rcases h2 with h2 | ⟨g, cap, cur, hv, hg, hh, r⟩
  · exact .inl h2
  · obtain ⟨cur2, hh2, _⟩ := hB
    have hgB : g ≠ B := fun e' => by
      subst e'
      rw [hh] at hh2
      injection hh2 with hh2
      injection hh2 with _ h3 _
      exact hne h3
    exact .inr ⟨g, cap, cur, hv, hg, by rw [Below.heap_setCell _ _ _ _ (fun e' => hgB e')]; exact hh, r⟩
/-- A row stays behind an append to a row of another type. -/
theorem own_grown {w w' : World} {base base2 e e2 size size2 n n2 : Nat} {v v2 : Value} {xs xs2 : List Value} (h : w.ownsRow base e size v n xs) (h2 : w.ownsRow base2 e2 size2 v2 n2 xs2) (hne : e ≠ e2) (hg : w.grownBy w' v2.ownBlock) : w'.ownsRow base e size v n xs := by
  obtain ⟨h1, h3⟩ := h
  refine ⟨h1, ?_⟩
  rcases h3 with h3 | ⟨g, cap, cur, hv, hgb, hh, r⟩
  · exact .inl h3
  · have hlt := (Array.getElem?_eq_some_iff.1 hh).1
    have hgB : some g ≠ v2.ownBlock := fun e' => by
      rcases h2.2 with ⟨rfl, _⟩ | ⟨g2, cap2, cur2, rfl, _, hh2, _⟩
      · simp [Value.ownBlock] at e'
      · simp [Value.ownBlock] at e'
        subst e'
        rw [hh] at hh2
        injection hh2 with hh2
        injection hh2 with _ h3 _
        exact hne h3
    exact .inr ⟨g, cap, cur, hv, hgb, (hg.block g hlt hgB).trans hh, r⟩
theorem Bk.grown {w w' : World} {B t n base2 e2 size2 n2 : Nat} {v2 : Value} {xs2 : List Value} (h : Bk w B t n) (h2 : w.ownsRow base2 e2 size2 v2 n2 xs2) (hne : t ≠ e2) (hg : w.grownBy w' v2.ownBlock) : Bk w' B t n := by
  have hlt := h.lt
  obtain ⟨cur, hh, hn⟩ := h
  have hgB : some B ≠ v2.ownBlock := fun e' => by
    rcases h2.2 with ⟨rfl, _⟩ | ⟨g2, cap2, cur2, rfl, _, hh2, _⟩
    · simp [Value.ownBlock] at e'
    · simp [Value.ownBlock] at e'
      subst e'
      rw [hh] at hh2
      injection hh2 with hh2
      injection hh2 with _ h3 _
      exact hne h3
  exact ⟨cur, (hg.block B hlt hgB).trans hh, hn⟩
theorem length_ce8 (z : Me) : (ce8 z).length = 8 := rfl
theorem length_cem (Z : List Me) : (cem Z).length = Z.length * 8 := by
  induction Z with
  | nil => rfl
  | cons z Z ih => rw [cem, List.flatMap_cons, List.length_append, ← cem, ih, length_ce8]; simp; omega
theorem cem_append (Z Y : List Me) : cem (Z ++ Y) = cem Z ++ cem Y := by simp [cem]
theorem cem_one (z : Me) : cem [z] = ce8 z := by simp [cem]
theorem ce8_one (z : Me) : ∀ u ∈ ce8 z, u.oneCell' = true := by
  intro u hu
  simp [ce8] at hu
  rcases hu with rfl | rfl | rfl | rfl | rfl | rfl | rfl | rfl <;> rfl
theorem cem_at {Z : List Me} {i : Nat} {z : Me} (h : Z[i]? = some z) (j : Nat) (hj : j < 8) : (cem Z)[i * 8 + j]? = (ce8 z)[j]? := by
  induction Z generalizing i with
  | nil => simp at h
  | cons y Z ih =>
    have e : cem (y :: Z) = ce8 y ++ cem Z := by simp [cem]
    cases i with
    | zero =>
      simp at h
      subst h
      rw [e, Nat.zero_mul, Nat.zero_add, List.getElem?_append_left (by rw [length_ce8]; omega)]
    | succ i =>
      rw [e, List.getElem?_append_right (by rw [length_ce8]; omega), length_ce8, show (i + 1) * 8 + j - 8 = i * 8 + j by omega]
      exact ih (by simpa using h)
theorem Try.infoM : (Try.prog.info? 52).map (fun i => (i.zero, i.size, i.bytes)) = some (some (.agg #[.slice none 0 0, .slice none 0 0, .int .u8 0, .bool false, .int .i64 0, .int .i64 0, .int .i64 0, .slice none 0 0]), 8, 104) := by kernel_rfl
/-- append of one method, to a slice of the call's own. -/
theorem wpList_append_rm (w : World) {ops : Array Oper} {rest : List Oper} {o : Oper} {a : Act} {Q : Exit → Act → World → Prop} (hgd : o.guard = none) (s x : Operand)
    (ho : o.op = .call { callee := .builtin .append, args := #[s, x], argTypes := #[23, 23] })
    (base : Nat) (v : Value) (n : Nat) (K : List Me) (hs : a.eval s = v) (hown : w.ownsRow base 52 8 v n (cem K))
    (ad : Addr) (z : Me) (hx : a.eval x = .slice (some ad) 1 1) (hr : ∀ j u, (ce8 z)[j]? = some u → w.cell? (ad.add j) = some u) (hbytes : n + 1 ≤ 1000000) (hbase : base ≤ w.heap.size)
    (h : ∀ A' c' w', w'.ownsRow base 52 8 (.slice A' (n + 1) c') (n + 1) (cem (K ++ [z])) → w.grownBy w' v.ownBlock → Below base w w' →
      ((Value.slice A' (n + 1) c').ownBlock = v.ownBlock ∨ (Value.slice A' (n + 1) c').ownBlock = some w.heap.size) → wpList Try.prog ops Q rest (a.put o.dst (.slice A' (n + 1) c')) w') : wpList Try.prog ops Q (o :: rest) a w := by
  have hinfo := Try.infoM
  rw [Option.map_eq_some_iff] at hinfo
  obtain ⟨i, hi, hz⟩ := hinfo
  simp only [Prod.mk.injEq] at hz
  obtain ⟨hz0, hz1, hz2⟩ := hz
  have hbel : ∀ {w'}, w.grownBy w' v.ownBlock → Below base w w' := fun hg => (Below.refl _ _).grown hg hbase fun g hg' => (hown.lt g hg').1
  refine wpList_append_own_at w hgd s x 23 ho base 52 i _ 8 104 Try.underlying23 hi hz0 hz1 hz2 rfl (by decide) v n (cem K) hs hown ad 1 1 (ce8 z) hx (by rw [length_ce8]) hr (ce8_one z) (by unfold maxLen; omega) (by omega) hbase ?_
  intro v' w' hown' hg _ hb
  obtain ⟨A', c', rfl⟩ := own_form hown'
  exact h A' c' w' (by rw [cem_append, cem_one]; exact hown') hg (hbel hg) hb
/-- What the call owns reads as methods, if each one's parts do. -/
theorem Rm.of_own {w : World} {A : Option Addr} {c base e n : Nat} {Z : List Me} (h : w.ownsRow base e 8 (.slice A n c) n (cem Z)) (hk : ∀ z ∈ Z, z.ok w) : Rm w A c Z ∧ n = Z.length := by
  have hn : n = Z.length := by have := h.1; rw [length_cem] at this; omega
  refine ⟨⟨hk, ?_⟩, hn⟩
  have hcell := fun g => h.cells (g := g)
  rcases h.2 with ⟨hv, h0⟩ | ⟨g, cap, cur, hv, _, _, hcap, hm, _⟩
  · injection hv with e1 e2 e3
    exact ⟨by omega, by omega, .inl ⟨e1, e3⟩⟩
  · injection hv with e1 e2 e3
    subst e1 e3
    refine ⟨by omega, hm, .inr ⟨_, rfl, fun i z hz => ?_⟩⟩
    have hq : ∀ j, j < 8 → w.cell? ((⟨g, 0, none⟩ : Addr).add (i * 8 + j)) = (ce8 z)[j]? := fun j hj => by
      have h1 := cem_at hz j hj
      have h2 : (ce8 z)[j]? = some ((ce8 z)[j]'(by rw [length_ce8]; exact hj)) := List.getElem?_eq_getElem _
      rw [h2] at h1 ⊢
      exact hcell g rfl _ _ h1
    have ea : ∀ j, (⟨g, 0, none⟩ : Addr).add (i * 8 + (j + 1)) = ⟨((⟨g, 0, none⟩ : Addr).add (i * 8)).block, ((⟨g, 0, none⟩ : Addr).add (i * 8)).off + (j + 1), none⟩ := fun j => by
      unfold Addr.add
      rw [if_neg (by omega)]
      split
      · rename_i h0; simp [h0]
      · simp
    refine ⟨hq 0 (by omega), ?_, ?_, ?_, ?_, ?_, ?_, ?_⟩
    · rw [← ea 0]; exact hq 1 (by omega)
    · rw [← ea 1]; exact hq 2 (by omega)
    · rw [← ea 2]; exact hq 3 (by omega)
    · rw [← ea 3]; exact hq 4 (by omega)
    · rw [← ea 4]; exact hq 5 (by omega)
    · rw [← ea 5]; exact hq 6 (by omega)
    · rw [← ea 6]; exact hq 7 (by omega)
/-- A module is stored, cell by cell. -/
def put4 (w : World) (B : Nat) (y : Ma) (d : Md) : World :=
  (((w.setCell ⟨B, 0, none⟩ (.slice y.G d.g.length y.gc)).setCell ⟨B, 1, none⟩ (.slice y.P d.p.length y.pc)).setCell ⟨B, 2, none⟩ (.slice y.A d.s.length y.c)).setCell ⟨B, 3, none⟩ (.int .i64 d.i)
theorem put4_below {w0 w : World} {k B : Nat} (h : Below k w0 w) (hB : k ≤ B) (y : Ma) (d : Md) : Below k w0 (put4 w B y d) :=
  (((h.setCell (p := ⟨B, 0, none⟩) hB _).setCell (p := ⟨B, 1, none⟩) hB _).setCell (p := ⟨B, 2, none⟩) hB _).setCell (p := ⟨B, 3, none⟩) hB _
theorem put4_db {w : World} {B : Nat} {t : Ma} {e : Md} (h : Db w B t e) (y : Ma) (d : Md) : Db (put4 w B y d) B y d := by
  obtain ⟨h0, h1, h2, h3, h4⟩ := h
  unfold put4
  refine ⟨by simpa using h0, ?_, ?_, ?_, ?_⟩ <;> simp [go_sem, h1, h2, h3, h4]
theorem Db.other {w : World} {B : Nat} {y : Ma} {d : Md} (h : Db w B y d) {p : Addr} (hp : p.block ≠ B) (v : Value) : Db (w.setCell p v) B y d := by
  obtain ⟨h0, h1, h2, h3, h4⟩ := h
  have ne : ∀ i, p ≠ (⟨B, i, none⟩ : Addr) := fun i e => hp (by rw [e])
  refine ⟨by simpa using h0, ?_, ?_, ?_, ?_⟩ <;> (rw [World.cell?_setCell_other _ _ _ _ (ne _)]; assumption)
/-! Rows that may be written over: each in a block of its elements' type, from lo on, below hi. -/
def Rs (w : World) (lo hi e size : Nat) (A : Option Addr) (n : Nat) : Prop := n = 0 ∨ ∃ g cur, A = some ⟨g, 0, none⟩ ∧ lo ≤ g ∧ g < hi ∧ w.heap[g]? = some (.cells cur e (0, 0)) ∧ n * size ≤ cur.size
theorem Rs.keep {w w' : World} {lo hi e size n : Nat} {A : Option Addr} (h : Rs w lo hi e size A n) (hb : Below w.heap.size w w') : Rs w' lo hi e size A n := by
  rcases h with h | ⟨g, cur, h1, h2, h3, h4, h5⟩
  · exact .inl h
  · exact .inr ⟨g, cur, h1, h2, h3, (hb.block g (Array.getElem?_eq_some_iff.1 h4).1).trans h4, h5⟩
theorem Rs.set {w : World} {lo hi e size n : Nat} {A : Option Addr} (h : Rs w lo hi e size A n) (b j : Nat) (v : Value) : Rs (w.setCell ⟨b, j, none⟩ v) lo hi e size A n := by
  rcases h with h | ⟨g, cur, h1, h2, h3, h4, h5⟩
  · exact .inl h
  · by_cases hg : b = g
    · subst hg
      exact .inr ⟨b, cur.setIfInBounds j v, h1, h2, h3, heap_setCell_same w b j cur e v h4, by simpa using h5⟩
    · exact .inr ⟨g, cur, h1, h2, h3, (Below.heap_setCell w ⟨b, j, none⟩ v g (fun e' => hg e'.symm)).trans h4, h5⟩
theorem Rs.of_own {w : World} {base e size n c lo hi : Nat} {A : Option Addr} {xs : List Value} (h : w.ownsRow base e size (.slice A n c) n xs) (hl : lo ≤ base) (hh : w.heap.size ≤ hi) : Rs w lo hi e size A n := by
  rcases h.2 with ⟨hv, h0⟩ | ⟨g, cap, cur, hv, hg, hb, hcap, hm, hs, ht⟩
  · exact .inl h0
  · injection hv with e1 e2 e3
    have hlt := (Array.getElem?_eq_some_iff.1 hb).1
    exact .inr ⟨g, cur, e1, by omega, by omega, hb, by rw [hs]; exact Nat.mul_le_mul_right _ hcap⟩
/-- A cell of such a row is there, and may be written. -/
theorem Rs.cell {w : World} {lo hi e size n : Nat} {A : Option Addr} (h : Rs w lo hi e size A n) {i : Nat} (hi' : i < n * size) : ∃ g u, A = some ⟨g, 0, none⟩ ∧ lo ≤ g ∧ g < hi ∧ w.cell? ⟨g, i, none⟩ = some u ∧ w.frozen? ⟨g, i, none⟩ = false := by
  rcases h with h | ⟨g, cur, h1, h2, h3, h4, h5⟩
  · subst h
    omega
  · exact ⟨g, cur[i]'(by omega), h1, h2, h3, by rw [cell_of_row w g i cur e (0, 0) h4, Array.getElem?_eq_getElem (by omega)], frozen_of_row w g i cur e h4⟩
end Go.Proofs.Ytimjnmkfbdijeaa
