/-
  Layer 5, package code: the library's iterator over lines, for whatever the loop's body makes of them: what lies in memory between two rounds of Parse's loop.
-/
import Derived.Test.YthmfjdafmnmgiaaDoorCpl
import Derived.RangeFuncBox
import Derived.RangeFuncLeaves
import Derived.RangeFuncCalls
import Derived.Shelf.Abstract
import Derived.Shelf.RegionOpen
import Derived.OwnWalkIn
import Derived.TacticsInMore
import Derived.LoopNIn
import Derived.LoopIn
namespace Go.Proofs.YthmfjdafmnmgiaaDoor
open Go.RowKit
set_option maxRecDepth 100000
set_option linter.unusedSimpArgs false
set_option linter.unusedVariables false
attribute [local go_sem] Oper.semAt_some

/-- The blocks: the two results, the list, the text, the two of the loop's record; all else from n on. -/
structure Bk where
  a : Nat
  e : Nat
  l : Nat
  s : Nat
  d : Nat
  r : Nat
  n : Nat
def Bk.ok (k : Bk) : Prop := k.a < k.e ∧ k.e < k.l ∧ k.l < k.s ∧ k.s < k.d ∧ k.d < k.r ∧ k.r < k.n
def Ps (k : Bk) (W : World) (x : Value) (y : Int) (l : Value) (s : ByteArray) (lp : Loop) : Prop :=
  Boxed W k.a 22 x ∧ Boxed W k.e 27 (.int .i64 y) ∧ Boxed W k.l 22 l ∧ Boxed W k.s 9 (.string s) ∧ W.heap[k.d]? = some (.deferred (some [])) ∧ W.heap[k.r]? = some (.loop lp)
section
variable {k : Bk} {W W' : World} {x l : Value} {y : Int} {s : ByteArray} {lp : Loop}
theorem Ps.keep (h : Ps k W x y l s lp) (hk : k.ok) (hb : Below k.n W W') : Ps k W' x y l s lp := by
  obtain ⟨k1, k2, k3, k4, k5, k6⟩ := hk
  obtain ⟨h1, h2, h3, h4, h5, h6⟩ := h
  exact ⟨(hb.block _ (by omega)).trans h1, (hb.block _ (by omega)).trans h2, (hb.block _ (by omega)).trans h3, (hb.block _ (by omega)).trans h4, (hb.block _ (by omega)).trans h5, (hb.block _ (by omega)).trans h6⟩
theorem Ps.setA (h : Ps k W x y l s lp) (hk : k.ok) (v : Value) : Ps k (W.setCell ⟨k.a, 0, none⟩ v) v y l s lp := by
  obtain ⟨k1, k2, k3, k4, k5, k6⟩ := hk
  obtain ⟨h1, h2, h3, h4, h5, h6⟩ := h
  have o := fun j (hj : j ≠ k.a) => Below.heap_setCell W ⟨k.a, 0, none⟩ v j hj
  exact ⟨h1.set v, (o _ (by omega)).trans h2, (o _ (by omega)).trans h3, (o _ (by omega)).trans h4, (o _ (by omega)).trans h5, (o _ (by omega)).trans h6⟩
theorem Ps.setE (h : Ps k W x y l s lp) (hk : k.ok) (v : Int) : Ps k (W.setCell ⟨k.e, 0, none⟩ (.int .i64 v)) x v l s lp := by
  obtain ⟨k1, k2, k3, k4, k5, k6⟩ := hk
  obtain ⟨h1, h2, h3, h4, h5, h6⟩ := h
  have o := fun j (hj : j ≠ k.e) => Below.heap_setCell W ⟨k.e, 0, none⟩ (.int .i64 v) j hj
  exact ⟨(o _ (by omega)).trans h1, h2.set _, (o _ (by omega)).trans h3, (o _ (by omega)).trans h4, (o _ (by omega)).trans h5, (o _ (by omega)).trans h6⟩
theorem Ps.setL (h : Ps k W x y l s lp) (hk : k.ok) (v : Value) : Ps k (W.setCell ⟨k.l, 0, none⟩ v) x y v s lp := by
  obtain ⟨k1, k2, k3, k4, k5, k6⟩ := hk
  obtain ⟨h1, h2, h3, h4, h5, h6⟩ := h
  have o := fun j (hj : j ≠ k.l) => Below.heap_setCell W ⟨k.l, 0, none⟩ v j hj
  exact ⟨(o _ (by omega)).trans h1, (o _ (by omega)).trans h2, h3.set _, (o _ (by omega)).trans h4, (o _ (by omega)).trans h5, (o _ (by omega)).trans h6⟩
theorem Ps.setS (h : Ps k W x y l s lp) (hk : k.ok) (v : ByteArray) : Ps k (W.setCell ⟨k.s, 0, none⟩ (.string v)) x y l v lp := by
  obtain ⟨k1, k2, k3, k4, k5, k6⟩ := hk
  obtain ⟨h1, h2, h3, h4, h5, h6⟩ := h
  have o := fun j (hj : j ≠ k.s) => Below.heap_setCell W ⟨k.s, 0, none⟩ (.string v) j hj
  exact ⟨(o _ (by omega)).trans h1, (o _ (by omega)).trans h2, (o _ (by omega)).trans h3, h4.set _, (o _ (by omega)).trans h5, (o _ (by omega)).trans h6⟩
theorem Ps.putR (h : Ps k W x y l s lp) (hk : k.ok) (q : Loop) : Ps k (W.putObj k.r (.loop q)) x y l s q := by
  obtain ⟨k1, k2, k3, k4, k5, k6⟩ := hk
  obtain ⟨h1, h2, h3, h4, h5, h6⟩ := h
  have o := fun j (hj : j ≠ k.r) => World.putObj_heap_other (w := W) (o := .loop q) hj
  exact ⟨(o _ (by omega)).trans h1, (o _ (by omega)).trans h2, (o _ (by omega)).trans h3, (o _ (by omega)).trans h4, (o _ (by omega)).trans h5, World.putObj_heap_same (Array.getElem?_eq_some_iff.1 h6).1⟩
theorem Ps.lt (h : Ps k W x y l s lp) : k.r < W.heap.size := (Array.getElem?_eq_some_iff.1 h.2.2.2.2.2).1
end
theorem below_put {B : Nat} {a w : World} (h : Below B a w) {r : Nat} (hr : B ≤ r) (o : Obj) : Below B a (w.putObj r o) := by
  refine ⟨h.os, h.tape, h.output, ?_, fun j hj => ?_⟩
  · rw [World.putObj_size]; exact h.size
  · rw [World.putObj_heap_other (by omega)]; exact h.block j hj

/-- Between two rounds (T = []), or within one (T: the line that was handed over): what is left of the text S, what was gathered. -/
def It (k : Bk) (w : World) (S : List Int) (lp : Loop) (T R : List Int) (K : List Ins) (W : World) : Prop :=
  (Byt T ∧ Byt R ∧ (T ++ R).length ≤ 1000000) ∧ (∃ A n c, Ps k W (.slice none 0 0) 0 (.slice A n c) (strOfNums R) lp ∧ W.ownsRow k.n 47 3 (.slice A n c) n (cei K) ∧ K.length = n ∧ n ≤ 200) ∧
  (∀ x ∈ K, InOk x) ∧ psC S = psL (T ++ R) [] K ∧ Below k.a w W ∧ k.n ≤ W.heap.size
/-- A round has said that there is no code. -/
def Jf (k : Bk) (w : World) (S : List Int) (W : World) (st : LoopState) (j : Option Code) : Prop :=
  (∃ l s lp, Ps k W (.slice none 0 0) 40 l s lp ∧ lp.state = st ∧ lp.pending = j) ∧ psC S = (40, []) ∧ Below k.a w W ∧ k.n ≤ W.heap.size
def Lk (T R : List Int) : Prop := (∃ V, (∀ c ∈ V, c ≠ 10) ∧ T = V ++ [10]) ∨ ((∀ c ∈ T, c ≠ 10) ∧ T ≠ [] ∧ R = [])
/-- How long a text lies in a variable. -/
def strAt (W : World) (B : Nat) : Nat := match W.cell? ⟨B, 0, none⟩ with
  | some (.string s) => s.size
  | _ => 0
theorem strAt_eq {W : World} {B t : Nat} {s : ByteArray} (h : Boxed W B t (.string s)) : strAt W B = s.size := by rw [strAt, h.cell]

theorem ixK_parts {c : Int} : ∀ {R : List Int}, ixK R c < R.length → ∃ V R', R = V ++ c :: R' ∧ (∀ x ∈ V, x ≠ c) ∧ V.length = ixK R c
  | [], h => by simp at h
  | x :: R, h => by
    by_cases e : x = c
    · subst e
      exact ⟨[], R, rfl, fun y hy => (by cases hy), by simp [ixK]⟩
    · have hk : ixK (x :: R) c = ixK R c + 1 := by simp [ixK, e]
      obtain ⟨V, R', h1, h2, h3⟩ := ixK_parts (R := R) (by rw [hk] at h; simpa using h)
      refine ⟨x :: V, R', by rw [h1]; rfl, fun y hy => ?_, by rw [hk, ← h3]; rfl⟩
      rcases List.mem_cons.1 hy with rfl | hy
      · exact e
      · exact h2 y hy
theorem ixK_none {c : Int} : ∀ {R : List Int}, ¬ ixK R c < R.length → ∀ x ∈ R, x ≠ c
  | [], _ => fun x hx => (by cases hx)
  | x :: R, h => by
    by_cases e : x = c
    · subst e
      exact absurd (show ixK (x :: R) x < (x :: R).length by simp [ixK]) h
    · have hk : ixK (x :: R) c = ixK R c + 1 := by simp [ixK, e]
      intro y hy
      rcases List.mem_cons.1 hy with rfl | hy
      · exact e
      · exact ixK_none (R := R) (by rw [hk] at h; simpa using h) y hy
theorem It.setS {k : Bk} {w W : World} {S R : List Int} {lp : Loop} {K : List Ins} (h : It k w S lp [] R K W) (hk : k.ok) (T R' : List Int) (e : T ++ R' = R) : It k w S lp T R' K (W.setCell ⟨k.s, 0, none⟩ (.string (strOfNums R'))) := by
  obtain ⟨⟨_, hbR, hlR⟩, ⟨A, m, c, hP, hO, hKm, hm⟩, hK, hS, hB, hn⟩ := h
  subst e
  refine ⟨⟨fun x hx => hbR x (List.mem_append_left _ hx), fun x hx => hbR x (List.mem_append_right _ hx), hlR⟩, ⟨A, m, c, hP.setS hk _, ownsRow_setCell_below hO (show (⟨k.s, 0, none⟩ : Addr).block < k.n from by obtain ⟨_, _, _, _, _, _⟩ := hk; show k.s < k.n; omega) _, hKm, hm⟩, hK, hS, hB.setCell (p := ⟨k.s, 0, none⟩) (by obtain ⟨_, _, _, _⟩ := hk; show k.a ≤ k.s; omega) _, by simpa using hn⟩
theorem It.drew {k : Bk} {w W : World} {S T R : List Int} {lp : Loop} {K : List Ins} (h : It k w S lp T R K W) : It k w S lp T R K W.drew := by
  obtain ⟨h1, ⟨A, m, c, hP, hO, hKm, hm⟩, hK, hS, hB, hn⟩ := h
  exact ⟨h1, ⟨A, m, c, hP, hO.drew, hKm, hm⟩, hK, hS, hB.drew, hn⟩
set_option maxHeartbeats 4000000 in
theorem lines_in (k : Bk) (hk : k.ok) (w : World) (S : List Int) (lp : Loop) (n : Nat)
    (hY : ∀ T R K W, It k w S lp T R K W → Lk T R → YieldAt Fence.wide n Tryd.prog k.r #[.string (strOfNums T)] W fun e W' => (e = .returned (.bool true) ∧ ∃ K', It k w S lp [] R K' W') ∨ (e = .returned (.bool false) ∧ Jf k w S W' .done (some .ret)))
    (R0 : List Int) (K0 : List Ins) (W0 : World) (h0 : It k w S lp [] R0 K0 W0) :
    CallsIn Fence.wide (n + 1) Tryd.prog 45 #[.func (.yield k.r) #[] #[], .pointer (some ⟨k.s, 0, none⟩)] W0 fun e W' => (∃ v, e = .returned v) ∧ ((∃ K', It k w S lp [] [] K' W') ∨ Jf k w S W' .done (some .ret)) := by
  refine callsIn_of_wp Tryd.func45 rfl trivial ?_ rfl
  simp only [Tryd.ntmps45, List.size_toArray, List.length_cons, List.length_nil, Nat.reduceAdd, Nat.reduceSub, Array.replicate_succ, Array.replicate_zero, List.push_toArray, List.append_toArray, List.nil_append, List.cons_append]
  have HY := Lib.hid hY
  have H0 := Lib.hid h0
  clear hY h0
  gi_wp2
  gi_loopw [3] (fun _ wr => ∃ R K, Hid (It k w S lp [] R K wr)) (fun _ wr => strAt wr k.s)
  case atStart => exact ⟨R0, K0, H0⟩
  case round =>
    obtain ⟨R, K, HI⟩ := hrel
    obtain ⟨⟨-, hbR, hlR⟩, ⟨A, m, c, hP, hO, hKm, hm⟩, hK, hS, hB, hn⟩ := HI.out
    have hbox := hP.2.2.2.1
    have hcell := hbox.cell
    have hfr := hbox.frozen
    obtain ⟨t, ht⟩ : ∃ t, strOfNums R = t := ⟨_, rfl⟩
    have hsz : t.size = R.length := by rw [← ht, strOfNums_size]
    rw [ht] at hcell
    have HT := Lib.hid ht
    by_cases h0 : R = []
    · have hz : t.size = 0 := by rw [hsz, h0]; rfl
      have HI2 : Hid (It k w S lp [] [] K wr) := by rw [h0] at HI; exact HI
      clear hP hO hKm hm hK hS hB hn hbox ht hbR hlR hsz h0 HI HT
      gi_wp2
      go_end0
      exact ⟨⟨_, rfl⟩, .inl ⟨K, HI2.out⟩⟩
    · have hpos : 0 < R.length := List.length_pos_iff.2 h0
      have hix := ix_u8 (c := 10) (by omega) hbR
      have KI : ∀ (m : Nat) (w : World), Hid (CallsIn Fence.wide m Tryd.prog 46 #[.string t, .int .u8 10] w fun e w' => e = .returned (.int .i64 (if ixK R 10 < R.length then (ixK R 10 : Int) else -1)) ∧ w' = w) := by
        intro m w
        refine callsIn_wide.2 ?_
        have := Tryd.strings_IndexByte t 10 w
        rw [← ht, u8L_str] at this
        rw [show (10 : Int).toNat.toUInt8 = UInt8.ofNat (10 : Int).toNat from rfl, hix] at this
        rw [← ht]
        exact this
      have hm2 := hbox.lt
      by_cases hlt : ixK R 10 < R.length
      · obtain ⟨V, R', hR, hV, hVl⟩ := ixK_parts hlt
        have hTR : (V ++ [10]) ++ R' = R := by rw [hR]; simp
        have hI2 := ((HI.out.setS hk (V ++ [10]) R' hTR)).drew
        have hrl : R.length = V.length + 1 + R'.length := by rw [hR]; simp; omega
        have e1 : t.extract 0 (V.length + 1) = strOfNums (V ++ [10]) := by
          rw [← ht, str_part, List.drop_zero, Nat.sub_zero, ← hTR, List.take_left' (by simp)]
        have e2 : t.extract (V.length + 1) R.length = strOfNums R' := by
          rw [← ht, str_part, ← hTR, List.drop_left' (by simp), List.take_of_length_le (by simp; omega)]
        simp only [if_pos hlt] at KI
        simp only [← hVl] at KI
        obtain ⟨ln, hln⟩ : ∃ ln, strOfNums (V ++ [10]) = ln := ⟨_, rfl⟩
        obtain ⟨rs, hrs⟩ : ∃ rs, strOfNums R' = rs := ⟨_, rfl⟩
        obtain ⟨fn, tmps, assign, body, hy, hR3⟩ := HY.out _ _ _ _ hI2 (.inl ⟨V, hV, rfl⟩)
        rw [hrs] at hy hR3 e2
        rw [hln] at hy e1
        have HR3 := Lib.hid hR3
        have hmeas : Hid (strAt wr k.s = R.length) := by rw [Hid, strAt_eq hbox, strOfNums_size]
        have hvl : V.length < t.size := by omega
        have hl2 : R.length ≤ 1000000 := by simpa using hlR
        have hw64 : wrap64 ((V.length : Int) + 1) = V.length + 1 := by unfold wrap64; omega
        have e3 : t.extract (V.length + 1) (V.length + 1 + R'.length) = rs := by rw [← hrl]; exact e2
        clear hl2
        clear hP hO hKm hm hK hS hB hn hbox ht hbR hlR h0 HI HT hI2 hR3 hlt hVl hln hrs hix hV hTR hR
        gi_wp2_with (refine ⟨trivial, ?_⟩; gi_at_call 46; refine (KI _ _).out.mono ?_; rintro e w1 ⟨rfl, rfl⟩)
        gi_region
        gi_wp2
        refine HR3.out.mono ?_
        rintro e W3 (⟨rfl, K', hI3⟩ | ⟨rfl, hJ⟩)
        · have hm3 : Hid (strAt W3 k.s < strAt w1 k.s) := by
            obtain ⟨A3, n3, c3, hP3, _⟩ := hI3.2.1
            rw [Hid, hmeas.out, strAt_eq hP3.2.2.2.1, strOfNums_size]
            omega
          have HI3 := Lib.hid hI3
          clear hI3
          gi_wp2
          go_roundw
          case rel => exact ⟨R', K', HI3⟩
          case measure => exact hm3.out
        · have HJ := Lib.hid hJ
          clear hJ
          gi_wp2
          refine bodyPost_ret (results_none rfl _ _ _) rfl ?_
          exact ⟨⟨_, rfl⟩, .inr HJ.out⟩
      · have hI2 := (HI.out.setS hk R [] (by simp))
        have hV := ixK_none hlt
        simp only [if_neg hlt] at KI
        obtain ⟨fn, tmps, assign, body, hy, hR3⟩ := HY.out _ _ _ _ hI2 (.inr ⟨hV, h0, rfl⟩)
        rw [show strOfNums [] = (⟨#[]⟩ : ByteArray) from rfl] at hy hR3
        rw [ht] at hy
        have HR3 := Lib.hid hR3
        have hmeas : Hid (strAt wr k.s = R.length) := by rw [Hid, strAt_eq hbox, strOfNums_size]
        clear hP hO hKm hm hK hS hB hn hbox ht hbR hlR h0 HI HT hI2 hR3 hlt hix hV
        gi_wp2_with (refine ⟨trivial, ?_⟩; gi_at_call 46; refine (KI _ _).out.mono ?_; rintro e w1 ⟨rfl, rfl⟩)
        refine HR3.out.mono ?_
        rintro e W3 (⟨rfl, K', hI3⟩ | ⟨rfl, hJ⟩)
        · have hm3 : Hid (strAt W3 k.s < strAt w1 k.s) := by
            obtain ⟨A3, n3, c3, hP3, _⟩ := hI3.2.1
            rw [Hid, hmeas.out, strAt_eq hP3.2.2.2.1, strOfNums_size]
            simpa using hpos
          have HI3 := Lib.hid hI3
          clear hI3
          gi_wp2
          go_roundw
          case rel => exact ⟨[], K', HI3⟩
          case measure => exact hm3.out
        · have HJ := Lib.hid hJ
          clear hJ
          gi_wp2
          refine bodyPost_ret (results_none rfl _ _ _) rfl ?_
          exact ⟨⟨_, rfl⟩, .inr HJ.out⟩
end Go.Proofs.YthmfjdafmnmgiaaDoor
