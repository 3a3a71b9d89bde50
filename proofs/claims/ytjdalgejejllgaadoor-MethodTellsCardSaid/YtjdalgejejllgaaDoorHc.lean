/-
  Layer 7, package method: what Bytes answers.
-/
import Derived.Test.YtjdalgejejllgaaDoorHb
namespace Go.Proofs.YtjdalgejejllgaaDoor
open Go.RowKit
set_option maxRecDepth 100000
set_option linter.unusedSimpArgs false
set_option linter.unusedVariables false
attribute [local go_sem] Oper.semAt_some

/-- What a list's numbers are put as. -/
def putF (f : (Int × Int × Int) × List Int) : List Int := f.2.flatMap (putL f.1.1)
theorem PT_put {m : Mh} (h : mM m = true) {j : Nat} {f : (Int × Int × Int) × List Int} (hf : (PT m)[j]? = some f) : (∀ n, okN f.1 n = true → ∃ k : Nat, f.1.1 = k ∧ 1 ≤ k ∧ k ≤ 3 ∧ putE k n = 0 ∧ putL k n = digs n k) ∧ f.2.length ≤ 16 ∧ (∀ n ∈ f.2, okN f.1 n = true) := by
  have hm := mM_iff.1 h
  have hall := h
  rw [mM_PT] at hall
  have hok := List.all_eq_true.1 hall f (List.mem_of_getElem? hf)
  have h256 : p256 1 = 256 := by decide
  have h2 : p256 2 = 65536 := by decide
  have h3 : p256 3 = 16777216 := by decide
  have hj := (List.getElem?_eq_some_iff.1 hf).1
  rw [PT_len] at hj
  refine ⟨fun n hn => ?_, ?_, fun n hn => List.all_eq_true.1 hok n hn⟩
  · simp only [okN, Bool.and_eq_true, decide_eq_true_eq] at hn
    have k1 : 0 ≤ n → n < 256 → f.1.1 = 1 → ∃ k : Nat, f.1.1 = k ∧ 1 ≤ k ∧ k ≤ 3 ∧ putE k n = 0 ∧ putL k n = digs n k := fun a b c => ⟨1, c, by omega, by omega, put_yes (k := 1) (by omega) (by omega) a (by omega)⟩
    have k2 : 0 ≤ n → n < 65536 → f.1.1 = 2 → ∃ k : Nat, f.1.1 = k ∧ 1 ≤ k ∧ k ≤ 3 ∧ putE k n = 0 ∧ putL k n = digs n k := fun a b c => ⟨2, c, by omega, by omega, put_yes (k := 2) (by omega) (by omega) a (by omega)⟩
    have k3 : 0 ≤ n → n < 16777216 → f.1.1 = 3 → ∃ k : Nat, f.1.1 = k ∧ 1 ≤ k ∧ k ≤ 3 ∧ putE k n = 0 ∧ putL k n = digs n k := fun a b c => ⟨3, c, by omega, by omega, put_yes (k := 3) (by omega) (by omega) a (by omega)⟩
    match j, hj, hf with
    | 0, _, hf => cases hf; exact k1 (by simpa using hn.1) (by have := hn.2; simp at this; omega) rfl
    | 1, _, hf => cases hf; exact k1 (by have := hn.1; simp at this; omega) (by have := hn.2; simp at this; omega) rfl
    | 2, _, hf => cases hf; exact k1 (by simpa using hn.1) (by have := hn.2; simp at this; omega) rfl
    | 3, _, hf => cases hf; exact k1 (by have := hn.1; simp at this; omega) (by have := hn.2; simp at this; omega) rfl
    | 4, _, hf => cases hf; exact k1 (by have := hn.1; simp at this; omega) (by have := hn.2; simp at this; omega) rfl
    | 5, _, hf => cases hf; exact k1 (by simpa using hn.1) (by have := hn.2; simp at this; omega) rfl
    | 6, _, hf => cases hf; exact k3 (by simpa using hn.1) (by have := hn.2; simp at this; omega) rfl
    | 7, _, hf => cases hf; exact k2 (by simpa using hn.1) (by have := hn.2; simp at this; omega) rfl
    | 8, _, hf => cases hf; exact k2 (by simpa using hn.1) (by have := hn.2; simp at this; omega) rfl
  · match j, hj, hf with
    | 0, _, hf => cases hf; simp
    | 1, _, hf => cases hf; dsimp only; omega
    | 2, _, hf => cases hf; simp
    | 3, _, hf => cases hf; dsimp only; omega
    | 4, _, hf => cases hf; simp
    | 5, _, hf => cases hf; simp
    | 6, _, hf => cases hf; simp
    | 7, _, hf => cases hf; simp
    | 8, _, hf => cases hf; simp
theorem put1_all : ∀ {l : List Int}, kO l = true → l.flatMap (putL 1) = l
  | [], _ => rfl
  | x :: l, h => by
    have hx := kO_at h (List.mem_cons_self)
    have ht : kO l = true := by unfold kO at *; simp only [List.all_cons, Bool.and_eq_true] at h; exact h.2
    have h256 : p256 1 = 256 := by decide
    have e : putL 1 x = [x] := by
      have := (put_yes (k := 1) (n := x) (by omega) (by omega) (by omega) (by omega)).2
      rw [show ((1 : Nat) : Int) = 1 from rfl] at this
      rw [this]
      simp [digs]
      omega
    rw [List.flatMap_cons, e, put1_all ht]
    rfl
theorem put1_one {n : Int} (h0 : 0 ≤ n) (h : n < 256) : putL 1 n = [n] := by
  have h256 : p256 1 = 256 := by decide
  have := (put_yes (k := 1) (n := n) (by omega) (by omega) h0 (by omega)).2
  rw [show ((1 : Nat) : Int) = 1 from rfl] at this
  rw [this]
  simp [digs]
  omega
theorem mL_PT {m : Mh} (h : mM m = true) : mL m = (PT m).flatMap putF := by
  have hm := mM_iff.1 h
  have h2 : p256 2 = 65536 := by decide
  have h3 : p256 3 = 16777216 := by decide
  have hq : 0 ≤ fl m.q ∧ fl m.q < 256 := by cases m.q <;> decide
  have e3 := (put_yes (k := 3) (n := m.f) (by omega) (by omega) (by omega) (by omega)).2
  have e4 := (put_yes (k := 2) (n := m.s) (by omega) (by omega) (by omega) (by omega)).2
  have e5 := (put_yes (k := 2) (n := m.h) (by omega) (by omega) (by omega) (by omega)).2
  rw [show ((3 : Nat) : Int) = 3 from rfl] at e3
  rw [show ((2 : Nat) : Int) = 2 from rfl] at e4 e5
  rw [mL, if_pos h]
  simp only [PT, putF, List.flatMap_cons, List.flatMap_nil, List.append_nil, put1_all hm.2.2.1, put1_all hm.2.2.2.1, put1_one (n := m.a.length) (by omega) (by omega), put1_one (n := m.l.length) (by omega) (by omega), put1_one (n := m.r) (by omega) (by omega), put1_one hq.1 hq.2, e3, e4, e5]
  simp
theorem funI.grown {t : Nat} {w w' : World} {v : Value} {x y z e : Int} (h : funI t w v x y z e) (hg : w.grownBy w' (some t)) : funI t w' v x y z e := by
  obtain ⟨g, h1, h2, h3, h4⟩ := h
  exact ⟨g, h1, Nat.lt_of_lt_of_le h2 hg.size, hg.cell h3 (by simpa using h4), h4⟩
theorem funU.grown {t : Nat} {w w' : World} {v : Value} {x y z : Int} {l : List Int} (h : funU t w v x y z l) (hg : w.grownBy w' (some t)) : funU t w' v x y z l := by
  obtain ⟨A, c, h1, h2, h3⟩ := h
  exact ⟨A, c, h1, h2.grown hg (fun ad h0 hl e => h3 ad h0 hl (by injection e)), h3⟩
theorem PF.grown {t : Nat} {w w' : World} {v : Value} {f : (Int × Int × Int) × List Int} (h : PF t w v f) (hg : w.grownBy w' (some t)) : PF t w' v f := by
  rcases h with ⟨e, h1, h2⟩ | h
  · exact .inl ⟨e, h1, h2.grown hg⟩
  · exact .inr (h.grown hg)
/-- It is no row of bytes. -/
def noRow (o : Obj) : Prop := ∀ cs q, o ≠ .cells cs 5 q
theorem own_noRow {W : World} {base n : Nat} {v : Value} {xs : List Value} (h : W.ownsRow base 5 1 v n xs) {k : Nat} {o : Obj} (hk : W.heap[k]? = some o) (ho : noRow o) : v.ownBlock ≠ some k := by
  rcases h.2 with ⟨rfl, _⟩ | ⟨g, cap, cur, rfl, _, hgb, _⟩
  · simp [Value.ownBlock]
  · intro e
    obtain rfl : g = k := by simpa [Value.ownBlock] using e
    rw [hk] at hgb
    exact ho _ _ (Option.some.inj hgb)
/-- Amid Bytes: what was put so far, in the box at t. -/
def Ry (t : Nat) (w2 : World) (X : List Int) (W : World) : Prop := w2.grownBy W (some t) ∧ Byt X ∧ t < w2.heap.size ∧ ∃ A c, Boxed W t 22 (.slice A X.length c) ∧ W.ownsRow w2.heap.size 5 1 (.slice A X.length c) X.length (cel X)
theorem Ry.call {t : Nat} {w2 W W' : World} {X : List Int} (h : Ry t w2 X W) (hb : Below W.heap.size W W') : Ry t w2 X W' := by
  obtain ⟨h1, h2, h3, A, c, h4, h5⟩ := h
  exact ⟨g7_on h1 hb, h2, h3, A, c, (hb.block _ h4.lt).trans h4, own_below h5 hb (Nat.le_refl _)⟩
theorem Ry.putR {t : Nat} {w2 W : World} {X : List Int} (h : Ry t w2 X W) {r : Nat} {q : Loop} (hr : W.heap[r]? = some (.loop q)) (hr2 : w2.heap.size ≤ r) (o : Obj) : Ry t w2 X (W.putObj r o) := by
  obtain ⟨h1, h2, h3, A, c, h4, h5⟩ := h
  refine ⟨⟨h1.os, h1.tape, h1.output, by rw [World.putObj_size]; exact h1.size, fun i hi hne => (World.putObj_heap_other (by omega)).trans (h1.block i hi hne)⟩, h2, h3, A, c, boxed_put h4 (by omega) _, ownsRow_putObj h5 _ hr rfl⟩
/-- All but the box at t, the record r and rows of bytes lies as it lay. -/
def PinA (t r : Nat) (Wb W : World) : Prop := ∀ k o, Wb.heap[k]? = some o → noRow o → k ≠ t → k ≠ r → W.heap[k]? = some o
/-- Bytes' frame and memory at the head of its loop. -/
def Byt7 (x : Mc) (m : Mh) (w w2 : World) (t B9 : Nat) (a : Act) (W : World) : Prop := ∃ (j : Nat) (u5 u6 u7 u8 u9 u10 u11 u12 u13 u14 u18 u19 u20 u21 u22 u23 u24 u25 u26 u27 u28 u29 u30 u31 u32 u33 u34 u35 : Value) (Ds : List Nat) (X : List Int), j ≤ 9 ∧ a = { tmps := #[mv x m, .pointer (some ⟨w.heap.size, 0, none⟩), .slice none 0 0, .int .i64 0, .pointer (some ⟨t, 0, none⟩), u5, u6, u7, u8, u9, u10, u11, u12, u13, u14, .slice (some ⟨B9, 0, none⟩) 9 9, .int .i64 9, .int .i64 j, u18, u19, u20, u21, u22, u23, u24, u25, u26, u27, u28, u29, u30, u31, u32, u33, u34, u35], defers := mks Ds } ∧ Ry t w2 X W ∧ X = ((PT m).take j).flatMap putF ∧ X.length ≤ 60 * j ∧ (∀ D ∈ Ds, W.heap[D]? = some (.deferred (some [])) ∧ w2.heap.size ≤ D) ∧ Ds.Nodup
theorem take_flat {m : Mh} {j : Nat} {f : (Int × Int × Int) × List Int} (h : (PT m)[j]? = some f) : ((PT m).take (j + 1)).flatMap putF = ((PT m).take j).flatMap putF ++ putF f := by
  rw [List.take_add_one, List.flatMap_append, h]
  simp
theorem cell_cells {w : World} {B : Nat} {cs : Array Value} {t : Nat} (h : w.heap[B]? = some (.cells cs t (0, 0))) (i : Nat) : w.cell? ⟨B, i, none⟩ = cs[i]? := by simp [World.cell?, h]
/-- Bytes' end. -/
theorem bytes_end (w : World) (n : Nat) (A : Option Addr) (c : Nat) (X : List Int) (Ds : List Nat) (tm : Array Value) (W : World) (h2 : tm[2]? = some (.slice A X.length c)) (h3 : tm[3]? = some (.int .i64 0)) (hn2 : w.heap.size ≤ n) (hO : W.ownsRow n 5 1 (.slice A X.length c) X.length (cel X)) (hB : Below w.heap.size w W) (hD : ∀ D ∈ Ds, W.heap[D]? = some (.deferred (some [])) ∧ n ≤ D) (hn : Ds.Nodup) {L : List Int} (hL : X = L) :
    LeavesInM Fence.wide 3 Tryd.prog Tryd.f19 tm (fun e w' => ∃ A c, e = .returned (.tuple #[.slice A L.length c, .int .i64 0]) ∧ w'.ownsRow w.heap.size 5 1 (.slice A L.length c) L.length (cel L) ∧ Below w.heap.size w w') (mks Ds) .returning W := by
  subst hL
  refine leaves_marks (fun Y => Y.ownsRow n 5 1 (.slice A X.length c) X.length (cel X) ∧ Below w.heap.size w Y) Ds W ⟨hO, hB⟩ (fun D hd => (hD D hd).1) hn (fun Y D hd hdd hI => ?_) (fun Y hI => ?_)
  · have hTD := (hD D hd).2
    refine ⟨ownsRow_putObj hI.1 _ hdd rfl, ?_⟩
    have h2 := hI.2
    exact ⟨h2.os, h2.tape, h2.output, by rw [World.putObj_size]; exact h2.size, fun k hk => (World.putObj_heap_other (by omega)).trans (h2.block k hk)⟩
  · have t2 : tm[2]?.getD undef = .slice A X.length c := by rw [h2]; rfl
    have t3 : tm[3]?.getD undef = .int .i64 0 := by rw [h3]; rfl
    simp [LeavesIn, results, Tryd.results19, go_sem, t2, t3]
    exact ⟨A, c, ⟨rfl, rfl⟩, own_base hI.1 hn2, hI.2⟩
set_option maxHeartbeats 8000000 in
theorem mbytes_v (x : Mc) (m : Mh) (w : World) (hx : Hd w x m) (hw : GM w) : Calls Tryd.prog 19 #[mv x m] w fun e w' => ∃ A c, e = .returned (.tuple #[.slice A (mL m).length c, .int .i64 (mE m)]) ∧ w'.ownsRow w.heap.size 5 1 (.slice A (mL m).length c) (mL m).length (cel (mL m)) ∧ Below w.heap.size w w' := by
  have S0 := Lib.hid ((((Sx.start w).add fGM hw).add (fH x m) hx).mkM x m)
  have HLA : Hid ((∀ ad, x.A = some ad → 0 < m.a.length → ad.block < w.heap.size) ∧ (∀ ad, x.B = some ad → 0 < m.l.length → ad.block < w.heap.size)) := ⟨fun ad h0 h1 => rd_lt hx.1 h0 h1, fun ad h0 h1 => rd_lt hx.2.1 h0 h1⟩
  clear hx hw
  obtain ⟨-, ⟨b0, z0, z1, z2, z3, z4, z5, z6, z7⟩, -⟩ := S0.out
  refine (callsIn_wide (n := 3)).1 ?_
  refine callsIn_of_wp_marks Tryd.func19 rfl trivial ?_ rfl
  simp only [Tryd.ntmps19, List.size_toArray, List.length_cons, List.length_nil, Nat.reduceAdd, Nat.reduceSub, Array.replicate_succ, Array.replicate_zero, List.push_toArray, List.append_toArray, List.nil_append, List.cons_append]
  cases hm : mM m with
  | false =>
    have e1 : mL m = [] := by rw [mL, if_neg (by rw [hm]; decide)]
    have e2 : mE m = 70 := by rw [mE, if_neg (by rw [hm]; decide)]
    have KM := Lib.hid (mmay_v x m false _ S0.out.2.2.1 S0.out.2.2.2.1 hm)
    clear hm
    rw [e1, e2]
    clear e1 e2
    gi_wp2_with (refine ⟨trivial, ?_⟩; gi_at_call 11; refine (callsIn_wide.2 KM.out).mono ?_; rintro e w1 ⟨rfl, hb1⟩)
    simp [LeavesInM, LeavesIn, bodyPostM, results, Tryd.results19, go_sem]
    exact ⟨none, 0, ⟨rfl, rfl⟩, World.ownsRow_nil _ _ _ _, below_on S0.out.1 hb1⟩
  | true =>
    have e2 : mE m = 0 := by rw [mE, if_pos hm]
    have KM := Lib.hid (mmay_v x m true _ S0.out.2.2.1 S0.out.2.2.2.1 hm)
    have HM := Lib.hid hm
    rw [e2]
    clear hm e2
    gi_wp2_with (refine ⟨trivial, ?_⟩; gi_at_call 11; refine (callsIn_wide.2 KM.out).mono ?_; rintro e w1 ⟨rfl, hb1⟩; have S1 := Lib.hid ((S0.out.call hb1).mk1 (.cells #[.slice none 0 0] 22)); have hw1 := (S0.out.call hb1).1.size; clear S0 hb1 z0 z1 z2 z3 z4 z5 z6 z7; obtain ⟨-, ⟨-, z0, z1, z2, z3, z4, z5, z6, z7⟩, -⟩ := S1.out)
    have KP := Lib.hid (parts_v w1.heap.size x m _ S1.out.2.2.1 S1.out.2.2.2.1 (by simp) (fun ad h0 h1 => by have := HLA.out.1 ad h0 h1; omega) (fun ad h0 h1 => by have := HLA.out.2 ad h0 h1; omega))
    gi_wp2_with (refine ⟨trivial, ?_⟩; gi_at_call 31; refine (callsIn_wide.2 KP.out).mono ?_; rintro e w2 ⟨B9, rfl, h9, hb2⟩)
    have HB2 : Hid (Below w.heap.size w w2) := Lib.hid (below_on S1.out.1 hb2)
    have hT2 : w1.heap.size < w2.heap.size := by have := hb2.size; simp at this; omega
    have HR2 : Hid (Ry w1.heap.size w2 [] w2) := ⟨World.grownBy.refl w2 _, fun x hx => (by cases hx), hT2, none, 0, (hb2.block _ (by simp)).trans (Boxed.new w1 22 (.slice none 0 0)), World.ownsRow_nil _ _ _ _⟩
    have H9 := Lib.hid h9
    obtain ⟨i0, hi, hz0, hz1, hz2⟩ := info_parts Tryd.info5
    clear h9 hb2 KP S1 z0 z1 z2 z3 z4 z5 z6 z7 KM HLA b0
    generalize w1.heap.size = t at *
    refine wpIn_loop (Byt7 x m w w2 t B9) (fun a _ => 9 - (intOf (a.tmps.getD 17 undef)).toNat) ?_ ?_
    · exact ⟨0, _, _, _, _, _, _, _, _, _, _, _, _, _, _, _, _, _, _, _, _, _, _, _, _, _, _, _, _, [], [], by omega, rfl, HR2.out, rfl, by simp, fun D hD => (by cases hD), List.nodup_nil⟩
    · rintro a W ⟨j, u5, u6, u7, u8, u9, u10, u11, u12, u13, u14, u18, u19, u20, u21, u22, u23, u24, u25, u26, u27, u28, u29, u30, u31, u32, u33, u34, u35, Ds, X, hj, rfl, hA⟩
      have HA := Lib.hid hA
      clear hA HR2
      have hsz2 := HA.out.1.1.size
      by_cases h1 : j < 9
      · obtain ⟨f, hf⟩ : ∃ f, (PT m)[j]? = some f := ⟨_, List.getElem?_eq_getElem (by rw [PT_len]; exact h1)⟩
        obtain ⟨⟨fx, fy, fz⟩, ns⟩ := f
        obtain ⟨fvv, hfc0, hfp0⟩ := H9.out.2.2 j _ hf
        have hfc : W.cell? ⟨B9, j, none⟩ = some fvv := HA.out.1.1.cell hfc0 (by simpa using H9.out.2.1)
        have HFP := Lib.hid hfp0
        have hfp := hfp0.grown HA.out.1.1
        have HPUT := Lib.hid (PT_put HM.out hf)
        have HF := Lib.hid hf
        clear hf hfc0 hfp0
        rcases hfp with ⟨e0, hns, g0, rfl, hg1, hg2, hg3⟩ | ⟨A0, c0, rfl, hrd, hne⟩
        · dsimp only at hns
          subst hns
          have hc2 : w2.cell? ⟨g0, 0, none⟩ = some (.int .i64 e0) ∧ g0 ≠ t := by
            rcases HFP.out with ⟨e9, h9, g9, h10, h11, h12, h13⟩ | ⟨A9, c9, h10, -⟩
            · simp at h9 h10
              obtain rfl := h9
              obtain rfl := h10
              exact ⟨h12, h13⟩
            · simp at h10
          have hne2 := hc2.2
          have hc2 := hc2.1
          gi_wp2
          refine range_m 49 #[.agg #[.int .i64 fx, .int .i64 fy, .int .i64 fz, .slice (some ⟨g0, 0, none⟩) 1 1]] rfl (enters_of Tryd.func49 (by kernel_rfl) rfl) (fun lp q1 q2 q3 q4 q5 q6 => ?_)
          have hY : ∀ Wc n0 Y, Wc.heap[W.heap.size + 1]? = some (.loop lp) → Ry t w2 Y Wc → Y.length ≤ 1000 → okN (fx, fy, fz) n0 = true → YieldAt Fence.wide 1 Tryd.prog (W.heap.size + 1) #[fv fx fy fz, .int .i64 n0] Wc fun e W' =>
              (e = .returned (.bool true) ∧ Ry t w2 (Y ++ putL fx n0) W' ∧ W'.heap[W.heap.size + 1]? = some (.loop lp) ∧ PinA t (W.heap.size + 1) Wc W') ∨ (e = .returned (.bool false) ∧ False) := by
            intro Wc n0 Y hlp hRy hYl hok
            obtain ⟨k, hk, hk1, hk3, hpe, hpl⟩ := HPUT.out.1 n0 hok
            obtain ⟨k, rfl⟩ : ∃ k', k = k' + 1 := ⟨k - 1, by omega⟩
            have hy := run_yield (P := Tryd.prog) (args := #[fv fx fy fz, .int .i64 n0]) hlp (by rw [q4]; rfl)
            rw [q3, q4, q5, q6] at hy
            refine ⟨_, _, _, _, hy, roundIn_of_wpIn trivial ?_⟩
            have hlp1 : (Wc.alloc (.cells #[.int .i64 fx, .int .i64 fy, .int .i64 fz] 59)).heap[W.heap.size + 1]? = some (.loop lp) := (Below.heap_alloc _ _ _ (Array.getElem?_eq_some_iff.1 hlp).1).trans hlp
            have hrun := run_beginRound (P := Tryd.prog) hlp1 q1
            have HLP := Lib.hid hlp
            have HRY := Lib.hid hRy
            have Q1 := Lib.hid q1
            have Q2 := Lib.hid q2
            have HK := Lib.hid (And.intro hk (And.intro hpe hpl))
            clear hy q1 q2 q3 q4 q5 q6 hRy hfc hlp hk hpe hpl HF HPUT HFP H9 HB2 HM
            gi_wp2
            refine ⟨_, hrun, ?_⟩
            clear hrun
            have hrl := (Array.getElem?_eq_some_iff.1 HLP.out).1
            have hP : Hid (T3 ((Wc.alloc (.cells #[.int .i64 fx, .int .i64 fy, .int .i64 fz] 59)).putObj (W.heap.size + 1) (.loop { lp with state := .busy })) Wc.heap.size fx fy fz ∧ Ry t w2 Y ((Wc.alloc (.cells #[.int .i64 fx, .int .i64 fy, .int .i64 fz] 59)).putObj (W.heap.size + 1) (.loop { lp with state := .busy })) ∧
                ((Wc.alloc (.cells #[.int .i64 fx, .int .i64 fy, .int .i64 fz] 59)).putObj (W.heap.size + 1) (.loop { lp with state := .busy })).heap[W.heap.size + 1]? = some (.loop { lp with state := .busy }) ∧
                PinA t (W.heap.size + 1) Wc ((Wc.alloc (.cells #[.int .i64 fx, .int .i64 fy, .int .i64 fz] 59)).putObj (W.heap.size + 1) (.loop { lp with state := .busy }))) := by
              have hbb : Below Wc.heap.size Wc (Wc.alloc (.cells #[.int .i64 fx, .int .i64 fy, .int .i64 fz] 59)) := new1
              exact ⟨(T3.new Wc fx fy fz _).putObj (by omega) _, (HRY.out.call hbb).putR hlp1 (by omega) _, World.putObj_heap_same (by simp; omega), fun k o hk _ _ hr => (World.putObj_heap_other hr).trans ((hbb.block k (Array.getElem?_eq_some_iff.1 hk).1).trans hk)⟩
            clear hlp1
            generalize (Wc.alloc (.cells #[.int .i64 fx, .int .i64 fy, .int .i64 fz] 59)).putObj (W.heap.size + 1) (.loop { lp with state := .busy }) = Wp at hP ⊢
            obtain ⟨t0, t1, t2, t3⟩ := hP.out.1
            have KPut := put_any fx n0 Wp
            rw [HK.out.1, HK.out.2.1, HK.out.2.2, length_digs, ← HK.out.1] at KPut
            have KPut := Lib.hid KPut
            gi_wp2
            refine ⟨trivial, ?_⟩
            refine (CallsIn.inRound _ (callsIn_wide.2 KPut.out)).mono ?_
            rintro e W3 ⟨A3, c3, rfl, ho3, hb3⟩
            obtain ⟨g3, c3', hgc⟩ := own_succ ho3
            simp only [Value.slice.injEq] at hgc
            obtain ⟨rfl, -, rfl⟩ := hgc
            have HO3 := Lib.hid ho3
            have hP3 : Hid (Ry t w2 Y W3 ∧ W3.heap[W.heap.size + 1]? = some (.loop { lp with state := .busy }) ∧ PinA t (W.heap.size + 1) Wc W3) := by
              obtain ⟨-, a1, a2, a3⟩ := hP.out
              exact ⟨a1.call hb3, (hb3.block _ (Array.getElem?_eq_some_iff.1 a2).1).trans a2, fun k o hk hn ht hr => (hb3.block k (Array.getElem?_eq_some_iff.1 (a3 k o hk hn ht hr)).1).trans (a3 k o hk hn ht hr)⟩
            clear hb3 hP t0 t1 t2 t3 ho3 KPut
            obtain ⟨hR1, hR2, hR3, A4, c4, hBx, hOw⟩ := hP3.out.1
            have HBX := Lib.hid hBx
            have HOW := Lib.hid hOw
            have HR1 := Lib.hid hR1
            have HR2 := Lib.hid hR2
            have hcell := hBx.cell
            have hszr := hR1.size
            clear hBx hOw hR1 hR2
            gi_wp2_with (gi_at_builtin; refine wpListIn_append_own _ rfl _ _ 22 rfl w2.heap.size 5 i0 _ 1 1 Tryd.underlying22 hi hz0 hz1 hz2 rfl (by decide) _ Y.length (cel Y) rfl HOW.out ⟨g3, 0, none⟩ (k + 1) c3 (cel (digs n0 (k + 1))) rfl (by simp [length_cel, length_digs]) (fun j u hj => HO3.out.cells (g := g3) rfl j u hj) (cel_one _) (by unfold maxLen; omega) (by omega) hszr ?_; intro v5 w5 ho5 hg5 _; obtain ⟨g5, c5, rfl⟩ := ownsRow_succ ho5; have hb5 : Boxed w5 t 22 (.slice A4 Y.length c4) := HBX.out.kept hg5 (fun e => own_noRow HOW.out HBX.out (fun cs q e => by injection e with _ e2; exact absurd e2 (by decide)) e.symm); have hc5 := hb5.cell; have hf5 := hb5.frozen; have HB5 := Lib.hid hb5; have HG5 := Lib.hid hg5; have HO5 := Lib.hid ho5; clear hb5 hg5 ho5)
            have hlp' : ({ ({ lp with state := .busy } : Loop) with state := if (none : Option Code).isNone = true then .ready else .done, pending := none } : Loop) = lp := lp7_back Q1.out Q2.out
            have hl6 : (w5.setCell ⟨t, 0, none⟩ (.slice (some ⟨g5, 0, none⟩) (Y.length + (k + 1)) c5)).heap[W.heap.size + 1]? = some (.loop { lp with state := .busy }) :=
              (Below.heap_setCell w5 ⟨t, 0, none⟩ _ (W.heap.size + 1) (by show W.heap.size + 1 ≠ t; omega)).trans ((HG5.out.block _ (Array.getElem?_eq_some_iff.1 hP3.out.2.1).1 (fun e => own_noRow HOW.out hP3.out.2.1 (fun cs q e => by cases e) e.symm)).trans hP3.out.2.1)
            have hRy6 : Ry t w2 (Y ++ putL fx n0) (w5.setCell ⟨t, 0, none⟩ (.slice (some ⟨g5, 0, none⟩) (Y.length + (k + 1)) c5)) := by
              have hlen : (Y ++ putL fx n0).length = Y.length + (k + 1) := by rw [HK.out.1, HK.out.2.2, List.length_append, length_digs]
              refine ⟨g7_set (HR1.out.andThen HG5.out (fun j hj => .inl (HOW.out.lt j hj).1)) (.inr rfl) _, fun y hy => ?_, hR3, some ⟨g5, 0, none⟩, c5, ?_, ?_⟩
              · rcases List.mem_append.1 hy with hy | hy
                · exact HR2.out y hy
                · rw [HK.out.1, HK.out.2.2] at hy; exact byt_digs _ _ y hy
              · rw [hlen]; exact HB5.out.set _
              · rw [hlen, cel_append, HK.out.1, HK.out.2.2]; exact ownsRow_setCell_below HO5.out (show (⟨t, 0, none⟩ : Addr).block < _ from hR3) _
            refine ⟨_, _, run_endRound none hl6, .inl ⟨rfl, ?_⟩⟩
            rw [hlp']
            refine ⟨hRy6.putR hl6 (by omega) _, World.putObj_heap_same (Array.getElem?_eq_some_iff.1 hl6).1, fun k o hk hn ht hr => ?_⟩
            have h3 := hP3.out.2.2 k o hk hn ht hr
            exact (World.putObj_heap_other hr).trans ((Below.heap_setCell w5 ⟨t, 0, none⟩ _ k ht).trans ((HG5.out.block _ (Array.getElem?_eq_some_iff.1 h3).1 (fun e => own_noRow HOW.out h3 hn e.symm)).trans h3))
          have hrn : ((W.alloc (.deferred (some []))).alloc (.loop lp)).heap[W.heap.size + 1]? = some (.loop lp) := by have := World.alloc_heap_new (W.alloc (.deferred (some []))) (.loop lp); rwa [size1] at this
          have hdn : ((W.alloc (.deferred (some []))).alloc (.loop lp)).heap[W.heap.size]? = some (.deferred (some [])) := (Below.heap_alloc _ _ _ (by simp)).trans (World.alloc_heap_new W _)
          have hbl : Below W.heap.size W ((W.alloc (.deferred (some []))).alloc (.loop lp)) := new1.alloc (by simp) _
          have hsl : ((W.alloc (.deferred (some []))).alloc (.loop lp)).heap.size = W.heap.size + 1 + 1 := by simp
          generalize (W.alloc (.deferred (some []))).alloc (.loop lp) = Wl at hrn hdn hbl hsl ⊢
          have hbb : Below Wl.heap.size Wl (Wl.alloc (.cells #[.int .i64 fx, .int .i64 fy, .int .i64 fz, .slice (some ⟨g0, 0, none⟩) 1 1] 80)) := new1
          have hbx : (Wl.alloc (.cells #[.int .i64 fx, .int .i64 fy, .int .i64 fz, .slice (some ⟨g0, 0, none⟩) 1 1] 80)).heap[Wl.heap.size]? = some (.cells #[.int .i64 fx, .int .i64 fy, .int .i64 fz, .slice (some ⟨g0, 0, none⟩) 1 1] 80 (0, 0)) := World.alloc_heap_new Wl _
          have hnr : noRow (.cells #[.int .i64 fx, .int .i64 fy, .int .i64 fz, .slice (some ⟨g0, 0, none⟩) 1 1] 80 (0, 0)) := fun cs q e => by injection e with _ e2; exact absurd e2 (by decide)
          have HWW : Hid (Below W.heap.size W (Wl.alloc (.cells #[.int .i64 fx, .int .i64 fy, .int .i64 fz, .slice (some ⟨g0, 0, none⟩) 1 1] 80))) := hbl.trans (hbb.mono (by omega))
          have HRN : Hid ((Wl.alloc (.cells #[.int .i64 fx, .int .i64 fy, .int .i64 fz, .slice (some ⟨g0, 0, none⟩) 1 1] 80)).heap[W.heap.size + 1]? = some (.loop lp) ∧ (Wl.alloc (.cells #[.int .i64 fx, .int .i64 fy, .int .i64 fz, .slice (some ⟨g0, 0, none⟩) 1 1] 80)).heap[W.heap.size]? = some (.deferred (some []))) :=
            ⟨(hbb.block _ (by omega)).trans hrn, (hbb.block _ (by omega)).trans hdn⟩
          have hXl := HA.out.2.2.1
          have hns16 := HPUT.out.2.1
          have hnsok := HPUT.out.2.2
          have htw := HA.out.1.2.2.1
          refine (allI_in 1 (W.heap.size + 1) fx fy fz g0 e0 (fun i W' => Ry t w2 (X ++ if i = 0 then [] else putL fx e0) W' ∧ W'.heap[W.heap.size + 1]? = some (.loop lp) ∧ PinA t (W.heap.size + 1) (Wl.alloc (.cells #[.int .i64 fx, .int .i64 fy, .int .i64 fz, .slice (some ⟨g0, 0, none⟩) 1 1] 80)) W' ∧ True) (fun _ => False) Wl
            (fun i W' h => ⟨by rw [cell_cells (h.2.2.1 _ _ hbx hnr (by omega) (by omega)), cell_cells (h.2.2.1 _ _ hbx hnr (by omega) (by omega)), cell_cells (h.2.2.1 _ _ hbx hnr (by omega) (by omega)), cell_cells (h.2.2.1 _ _ hbx hnr (by omega) (by omega))]; exact ⟨rfl, rfl, rfl, rfl⟩, h.1.1.cell hc2 (by simpa using hne2)⟩)
            (fun W' h => (hY W' e0 X h.2.1 (by have := h.1; rw [if_pos rfl, List.append_nil] at this; exact this) (by omega) (hnsok e0 (by simp))) |> fun ⟨a1, a2, a3, a4, a5, a6⟩ => ⟨a1, a2, a3, a4, a5, a6.mono fun e W'' hh => hh.elim (fun q => .inl ⟨q.1, by rw [if_neg (by decide)]; exact q.2.1, q.2.2.1, fun k o hk hn ht hr => q.2.2.2 k o (h.2.2.1 k o hk hn ht hr) hn ht hr, trivial⟩) (fun q => q.2.elim)⟩)
            ⟨by rw [if_pos rfl, List.append_nil]; exact HA.out.1.call HWW.out, HRN.out.1, fun k o hk _ _ _ => hk, trivial⟩).mono ?_
          rintro e W4 ⟨⟨v4, rfl⟩, hI4 | hJ4⟩
          · obtain ⟨hr4, hl4, hp4, hy4⟩ := hI4
            have hend := run_endLoop (P := Tryd.prog) hl4 (by rw [q1]; simp)
            rw [q2] at hend
            refine ⟨none, _, hend, ?_⟩
            have H7 : Hid (Ry t w2 (X ++ putF ((fx, fy, fz), [e0])) (W4.putObj (W.heap.size + 1) (.loop { lp with state := .exhausted, pending := none })) ∧ X ++ putF ((fx, fy, fz), [e0]) = ((PT m).take (j + 1)).flatMap putF ∧ (X ++ putF ((fx, fy, fz), [e0])).length ≤ 60 * (j + 1) ∧
                (∀ D ∈ W.heap.size :: Ds, (W4.putObj (W.heap.size + 1) (.loop { lp with state := .exhausted, pending := none })).heap[D]? = some (.deferred (some [])) ∧ w2.heap.size ≤ D) ∧ (W.heap.size :: Ds).Nodup) := by
              obtain ⟨a1, a2, a3, a4, a5⟩ := HA.out
              refine ⟨?_, by rw [take_flat HF.out, ← a2], ?_, fun D hD => ?_, List.nodup_cons.2 ⟨fun h => ?_, a5⟩⟩
              · have := hr4.putR hl4 (by omega) (.loop { lp with state := .exhausted, pending := none })
                rw [if_neg (by decide)] at this; simpa [putF] using this
              · obtain ⟨k, hk, hk1, hk3, hpe, hpl⟩ := HPUT.out.1 _ (hnsok e0 (by simp)); (try dsimp only at hk); simp [putF, hk, hpl, length_digs]; omega
              · rcases List.mem_cons.1 hD with rfl | hD
                · exact ⟨(World.putObj_heap_other (by omega)).trans (hp4 _ _ HRN.out.2 (fun cs q e => by cases e) (by omega) (by omega)), hsz2⟩
                · have hlt := (Array.getElem?_eq_some_iff.1 (a4 D hD).1).1
                  have h3 := (a4 D hD).2
                  exact ⟨(World.putObj_heap_other (by omega)).trans (hp4 D _ ((HWW.out.block D hlt).trans (a4 D hD).1) (fun cs q e => by cases e) (by omega) (by omega)), h3⟩
              · have hlt := (Array.getElem?_eq_some_iff.1 (a4 _ h).1).1
                omega
            generalize W4.putObj (W.heap.size + 1) (.loop { lp with state := .exhausted, pending := none }) = W5 at H7 ⊢
            clear hend hl4 hr4 hp4 HRN HWW hbb hbx hY
            dsimp only
            gi_wp2
            exact ⟨⟨j + 1, _, _, _, _, _, _, _, _, _, _, _, _, _, _, _, _, _, _, _, _, _, _, _, _, _, _, _, _, (W.heap.size :: Ds), _, by omega, rfl, H7.out⟩, by simp [intOf]; omega⟩
          · exact hJ4.elim
        · have hrd2 : Rd w2 A0 c0 ns ∧ (∀ ad, A0 = some ad → 0 < ns.length → ad.block ≠ t) := by
            rcases HFP.out with ⟨e9, h9, g9, h10, -⟩ | ⟨A9, c9, h10, h11, h12⟩
            · simp at h10
            · simp at h10
              obtain ⟨rfl, rfl⟩ := h10
              exact ⟨h11, h12⟩
          have hne2 := hrd2.2
          have hrd2 := hrd2.1
          dsimp only at hrd hne
          gi_wp2
          refine range_m 51 #[.agg #[.int .i64 fx, .int .i64 fy, .int .i64 fz, .slice A0 ns.length c0]] rfl (enters_of Tryd.func51 (by kernel_rfl) rfl) (fun lp q1 q2 q3 q4 q5 q6 => ?_)
          have hY : ∀ Wc n0 Y, Wc.heap[W.heap.size + 1]? = some (.loop lp) → Ry t w2 Y Wc → Y.length ≤ 1000 → okN (fx, fy, fz) n0 = true → YieldAt Fence.wide 1 Tryd.prog (W.heap.size + 1) #[fv fx fy fz, .int .i64 n0] Wc fun e W' =>
              (e = .returned (.bool true) ∧ Ry t w2 (Y ++ putL fx n0) W' ∧ W'.heap[W.heap.size + 1]? = some (.loop lp) ∧ PinA t (W.heap.size + 1) Wc W') ∨ (e = .returned (.bool false) ∧ False) := by
            intro Wc n0 Y hlp hRy hYl hok
            obtain ⟨k, hk, hk1, hk3, hpe, hpl⟩ := HPUT.out.1 n0 hok
            obtain ⟨k, rfl⟩ : ∃ k', k = k' + 1 := ⟨k - 1, by omega⟩
            have hy := run_yield (P := Tryd.prog) (args := #[fv fx fy fz, .int .i64 n0]) hlp (by rw [q4]; rfl)
            rw [q3, q4, q5, q6] at hy
            refine ⟨_, _, _, _, hy, roundIn_of_wpIn trivial ?_⟩
            have hlp1 : (Wc.alloc (.cells #[.int .i64 fx, .int .i64 fy, .int .i64 fz] 59)).heap[W.heap.size + 1]? = some (.loop lp) := (Below.heap_alloc _ _ _ (Array.getElem?_eq_some_iff.1 hlp).1).trans hlp
            have hrun := run_beginRound (P := Tryd.prog) hlp1 q1
            have HLP := Lib.hid hlp
            have HRY := Lib.hid hRy
            have Q1 := Lib.hid q1
            have Q2 := Lib.hid q2
            have HK := Lib.hid (And.intro hk (And.intro hpe hpl))
            clear hy q1 q2 q3 q4 q5 q6 hRy hfc hlp hk hpe hpl HF HPUT HFP H9 HB2 HM
            gi_wp2
            refine ⟨_, hrun, ?_⟩
            clear hrun
            have hrl := (Array.getElem?_eq_some_iff.1 HLP.out).1
            have hP : Hid (T3 ((Wc.alloc (.cells #[.int .i64 fx, .int .i64 fy, .int .i64 fz] 59)).putObj (W.heap.size + 1) (.loop { lp with state := .busy })) Wc.heap.size fx fy fz ∧ Ry t w2 Y ((Wc.alloc (.cells #[.int .i64 fx, .int .i64 fy, .int .i64 fz] 59)).putObj (W.heap.size + 1) (.loop { lp with state := .busy })) ∧
                ((Wc.alloc (.cells #[.int .i64 fx, .int .i64 fy, .int .i64 fz] 59)).putObj (W.heap.size + 1) (.loop { lp with state := .busy })).heap[W.heap.size + 1]? = some (.loop { lp with state := .busy }) ∧
                PinA t (W.heap.size + 1) Wc ((Wc.alloc (.cells #[.int .i64 fx, .int .i64 fy, .int .i64 fz] 59)).putObj (W.heap.size + 1) (.loop { lp with state := .busy }))) := by
              have hbb : Below Wc.heap.size Wc (Wc.alloc (.cells #[.int .i64 fx, .int .i64 fy, .int .i64 fz] 59)) := new1
              exact ⟨(T3.new Wc fx fy fz _).putObj (by omega) _, (HRY.out.call hbb).putR hlp1 (by omega) _, World.putObj_heap_same (by simp; omega), fun k o hk _ _ hr => (World.putObj_heap_other hr).trans ((hbb.block k (Array.getElem?_eq_some_iff.1 hk).1).trans hk)⟩
            clear hlp1
            generalize (Wc.alloc (.cells #[.int .i64 fx, .int .i64 fy, .int .i64 fz] 59)).putObj (W.heap.size + 1) (.loop { lp with state := .busy }) = Wp at hP ⊢
            obtain ⟨t0, t1, t2, t3⟩ := hP.out.1
            have KPut := put_any fx n0 Wp
            rw [HK.out.1, HK.out.2.1, HK.out.2.2, length_digs, ← HK.out.1] at KPut
            have KPut := Lib.hid KPut
            gi_wp2
            refine ⟨trivial, ?_⟩
            refine (CallsIn.inRound _ (callsIn_wide.2 KPut.out)).mono ?_
            rintro e W3 ⟨A3, c3, rfl, ho3, hb3⟩
            obtain ⟨g3, c3', hgc⟩ := own_succ ho3
            simp only [Value.slice.injEq] at hgc
            obtain ⟨rfl, -, rfl⟩ := hgc
            have HO3 := Lib.hid ho3
            have hP3 : Hid (Ry t w2 Y W3 ∧ W3.heap[W.heap.size + 1]? = some (.loop { lp with state := .busy }) ∧ PinA t (W.heap.size + 1) Wc W3) := by
              obtain ⟨-, a1, a2, a3⟩ := hP.out
              exact ⟨a1.call hb3, (hb3.block _ (Array.getElem?_eq_some_iff.1 a2).1).trans a2, fun k o hk hn ht hr => (hb3.block k (Array.getElem?_eq_some_iff.1 (a3 k o hk hn ht hr)).1).trans (a3 k o hk hn ht hr)⟩
            clear hb3 hP t0 t1 t2 t3 ho3 KPut
            obtain ⟨hR1, hR2, hR3, A4, c4, hBx, hOw⟩ := hP3.out.1
            have HBX := Lib.hid hBx
            have HOW := Lib.hid hOw
            have HR1 := Lib.hid hR1
            have HR2 := Lib.hid hR2
            have hcell := hBx.cell
            have hszr := hR1.size
            clear hBx hOw hR1 hR2
            gi_wp2_with (gi_at_builtin; refine wpListIn_append_own _ rfl _ _ 22 rfl w2.heap.size 5 i0 _ 1 1 Tryd.underlying22 hi hz0 hz1 hz2 rfl (by decide) _ Y.length (cel Y) rfl HOW.out ⟨g3, 0, none⟩ (k + 1) c3 (cel (digs n0 (k + 1))) rfl (by simp [length_cel, length_digs]) (fun j u hj => HO3.out.cells (g := g3) rfl j u hj) (cel_one _) (by unfold maxLen; omega) (by omega) hszr ?_; intro v5 w5 ho5 hg5 _; obtain ⟨g5, c5, rfl⟩ := ownsRow_succ ho5; have hb5 : Boxed w5 t 22 (.slice A4 Y.length c4) := HBX.out.kept hg5 (fun e => own_noRow HOW.out HBX.out (fun cs q e => by injection e with _ e2; exact absurd e2 (by decide)) e.symm); have hc5 := hb5.cell; have hf5 := hb5.frozen; have HB5 := Lib.hid hb5; have HG5 := Lib.hid hg5; have HO5 := Lib.hid ho5; clear hb5 hg5 ho5)
            have hlp' : ({ ({ lp with state := .busy } : Loop) with state := if (none : Option Code).isNone = true then .ready else .done, pending := none } : Loop) = lp := lp7_back Q1.out Q2.out
            have hl6 : (w5.setCell ⟨t, 0, none⟩ (.slice (some ⟨g5, 0, none⟩) (Y.length + (k + 1)) c5)).heap[W.heap.size + 1]? = some (.loop { lp with state := .busy }) :=
              (Below.heap_setCell w5 ⟨t, 0, none⟩ _ (W.heap.size + 1) (by show W.heap.size + 1 ≠ t; omega)).trans ((HG5.out.block _ (Array.getElem?_eq_some_iff.1 hP3.out.2.1).1 (fun e => own_noRow HOW.out hP3.out.2.1 (fun cs q e => by cases e) e.symm)).trans hP3.out.2.1)
            have hRy6 : Ry t w2 (Y ++ putL fx n0) (w5.setCell ⟨t, 0, none⟩ (.slice (some ⟨g5, 0, none⟩) (Y.length + (k + 1)) c5)) := by
              have hlen : (Y ++ putL fx n0).length = Y.length + (k + 1) := by rw [HK.out.1, HK.out.2.2, List.length_append, length_digs]
              refine ⟨g7_set (HR1.out.andThen HG5.out (fun j hj => .inl (HOW.out.lt j hj).1)) (.inr rfl) _, fun y hy => ?_, hR3, some ⟨g5, 0, none⟩, c5, ?_, ?_⟩
              · rcases List.mem_append.1 hy with hy | hy
                · exact HR2.out y hy
                · rw [HK.out.1, HK.out.2.2] at hy; exact byt_digs _ _ y hy
              · rw [hlen]; exact HB5.out.set _
              · rw [hlen, cel_append, HK.out.1, HK.out.2.2]; exact ownsRow_setCell_below HO5.out (show (⟨t, 0, none⟩ : Addr).block < _ from hR3) _
            refine ⟨_, _, run_endRound none hl6, .inl ⟨rfl, ?_⟩⟩
            rw [hlp']
            refine ⟨hRy6.putR hl6 (by omega) _, World.putObj_heap_same (Array.getElem?_eq_some_iff.1 hl6).1, fun k o hk hn ht hr => ?_⟩
            have h3 := hP3.out.2.2 k o hk hn ht hr
            exact (World.putObj_heap_other hr).trans ((Below.heap_setCell w5 ⟨t, 0, none⟩ _ k ht).trans ((HG5.out.block _ (Array.getElem?_eq_some_iff.1 h3).1 (fun e => own_noRow HOW.out h3 hn e.symm)).trans h3))
          have hrn : ((W.alloc (.deferred (some []))).alloc (.loop lp)).heap[W.heap.size + 1]? = some (.loop lp) := by have := World.alloc_heap_new (W.alloc (.deferred (some []))) (.loop lp); rwa [size1] at this
          have hdn : ((W.alloc (.deferred (some []))).alloc (.loop lp)).heap[W.heap.size]? = some (.deferred (some [])) := (Below.heap_alloc _ _ _ (by simp)).trans (World.alloc_heap_new W _)
          have hbl : Below W.heap.size W ((W.alloc (.deferred (some []))).alloc (.loop lp)) := new1.alloc (by simp) _
          have hsl : ((W.alloc (.deferred (some []))).alloc (.loop lp)).heap.size = W.heap.size + 1 + 1 := by simp
          generalize (W.alloc (.deferred (some []))).alloc (.loop lp) = Wl at hrn hdn hbl hsl ⊢
          have hbb : Below Wl.heap.size Wl (Wl.alloc (.cells #[.int .i64 fx, .int .i64 fy, .int .i64 fz, .slice A0 ns.length c0] 83)) := new1
          have hbx : (Wl.alloc (.cells #[.int .i64 fx, .int .i64 fy, .int .i64 fz, .slice A0 ns.length c0] 83)).heap[Wl.heap.size]? = some (.cells #[.int .i64 fx, .int .i64 fy, .int .i64 fz, .slice A0 ns.length c0] 83 (0, 0)) := World.alloc_heap_new Wl _
          have hnr : noRow (.cells #[.int .i64 fx, .int .i64 fy, .int .i64 fz, .slice A0 ns.length c0] 83 (0, 0)) := fun cs q e => by injection e with _ e2; exact absurd e2 (by decide)
          have HWW : Hid (Below W.heap.size W (Wl.alloc (.cells #[.int .i64 fx, .int .i64 fy, .int .i64 fz, .slice A0 ns.length c0] 83))) := hbl.trans (hbb.mono (by omega))
          have HRN : Hid ((Wl.alloc (.cells #[.int .i64 fx, .int .i64 fy, .int .i64 fz, .slice A0 ns.length c0] 83)).heap[W.heap.size + 1]? = some (.loop lp) ∧ (Wl.alloc (.cells #[.int .i64 fx, .int .i64 fy, .int .i64 fz, .slice A0 ns.length c0] 83)).heap[W.heap.size]? = some (.deferred (some []))) :=
            ⟨(hbb.block _ (by omega)).trans hrn, (hbb.block _ (by omega)).trans hdn⟩
          have hXl := HA.out.2.2.1
          have hns16 := HPUT.out.2.1
          have hnsok := HPUT.out.2.2
          have htw := HA.out.1.2.2.1
          refine (allU_in 1 (W.heap.size + 1) fx fy fz A0 c0 ns hrd.len (fun i W' => Ry t w2 (X ++ (ns.take i).flatMap (putL fx)) W' ∧ W'.heap[W.heap.size + 1]? = some (.loop lp) ∧ PinA t (W.heap.size + 1) (Wl.alloc (.cells #[.int .i64 fx, .int .i64 fy, .int .i64 fz, .slice A0 ns.length c0] 83)) W' ∧ ((ns.take i).flatMap (putL fx)).length ≤ 3 * i) (fun _ => False) Wl
            (fun i W' h => ⟨by rw [cell_cells (h.2.2.1 _ _ hbx hnr (by omega) (by omega)), cell_cells (h.2.2.1 _ _ hbx hnr (by omega) (by omega)), cell_cells (h.2.2.1 _ _ hbx hnr (by omega) (by omega)), cell_cells (h.2.2.1 _ _ hbx hnr (by omega) (by omega))]; exact ⟨rfl, rfl, rfl, rfl⟩, hrd2.grown h.1.1 (fun ad h0 hl e => hne2 ad h0 hl (by injection e))⟩)
            (fun i W' hi h => (hY W' ns[i] _ h.2.1 h.1 (by rw [List.length_append]; have := h.2.2.2; (try dsimp only at hns16); omega) (hnsok _ (List.getElem_mem hi))) |> fun ⟨a1, a2, a3, a4, a5, a6⟩ => ⟨a1, a2, a3, a4, a5, a6.mono fun e W'' hh => hh.elim (fun q => .inl ⟨q.1, by have := q.2.1; rw [List.take_add_one, List.getElem?_eq_getElem hi, List.flatMap_append, ← List.append_assoc]; simpa using this, q.2.2.1, fun k o hk hn ht hr => q.2.2.2 k o (h.2.2.1 k o hk hn ht hr) hn ht hr, by rw [List.take_add_one, List.getElem?_eq_getElem hi, List.flatMap_append, List.length_append]; have h5 := h.2.2.2; obtain ⟨k, hk, hk1, hk3, hpe, hpl⟩ := HPUT.out.1 _ (hnsok _ (List.getElem_mem hi)); have e9 : (((some ns[i]).toList).flatMap (putL fx)).length ≤ 3 := (by (try dsimp only at hk); rw [hk]; simp [hpl, length_digs]; omega); omega⟩) (fun q => q.2.elim)⟩)
            ⟨by simpa using HA.out.1.call HWW.out, HRN.out.1, fun k o hk _ _ _ => hk, by simp⟩).mono ?_
          rintro e W4 ⟨⟨v4, rfl⟩, hI4 | hJ4⟩
          · obtain ⟨hr4, hl4, hp4, hy4⟩ := hI4
            have hend := run_endLoop (P := Tryd.prog) hl4 (by rw [q1]; simp)
            rw [q2] at hend
            refine ⟨none, _, hend, ?_⟩
            have H7 : Hid (Ry t w2 (X ++ putF ((fx, fy, fz), ns)) (W4.putObj (W.heap.size + 1) (.loop { lp with state := .exhausted, pending := none })) ∧ X ++ putF ((fx, fy, fz), ns) = ((PT m).take (j + 1)).flatMap putF ∧ (X ++ putF ((fx, fy, fz), ns)).length ≤ 60 * (j + 1) ∧
                (∀ D ∈ W.heap.size :: Ds, (W4.putObj (W.heap.size + 1) (.loop { lp with state := .exhausted, pending := none })).heap[D]? = some (.deferred (some [])) ∧ w2.heap.size ≤ D) ∧ (W.heap.size :: Ds).Nodup) := by
              obtain ⟨a1, a2, a3, a4, a5⟩ := HA.out
              refine ⟨?_, by rw [take_flat HF.out, ← a2], ?_, fun D hD => ?_, List.nodup_cons.2 ⟨fun h => ?_, a5⟩⟩
              · have := hr4.putR hl4 (by omega) (.loop { lp with state := .exhausted, pending := none })
                rw [List.take_length] at this; exact this
              · rw [List.take_length] at hy4; rw [List.length_append, putF]; (try dsimp only at hns16 ⊢); omega
              · rcases List.mem_cons.1 hD with rfl | hD
                · exact ⟨(World.putObj_heap_other (by omega)).trans (hp4 _ _ HRN.out.2 (fun cs q e => by cases e) (by omega) (by omega)), hsz2⟩
                · have hlt := (Array.getElem?_eq_some_iff.1 (a4 D hD).1).1
                  have h3 := (a4 D hD).2
                  exact ⟨(World.putObj_heap_other (by omega)).trans (hp4 D _ ((HWW.out.block D hlt).trans (a4 D hD).1) (fun cs q e => by cases e) (by omega) (by omega)), h3⟩
              · have hlt := (Array.getElem?_eq_some_iff.1 (a4 _ h).1).1
                omega
            generalize W4.putObj (W.heap.size + 1) (.loop { lp with state := .exhausted, pending := none }) = W5 at H7 ⊢
            clear hend hl4 hr4 hp4 HRN HWW hbb hbx hY
            dsimp only
            gi_wp2
            exact ⟨⟨j + 1, _, _, _, _, _, _, _, _, _, _, _, _, _, _, _, _, _, _, _, _, _, _, _, _, _, _, _, _, (W.heap.size :: Ds), _, by omega, rfl, H7.out⟩, by simp [intOf]; omega⟩
          · exact hJ4.elim
      · obtain rfl : j = 9 := by omega
        obtain ⟨⟨r1, r2, r3, A4, c4, hBx, hOw⟩, hX, hXl, hD, hN⟩ := HA.out
        have hcell := hBx.cell
        have HE : Hid (Below w.heap.size w W ∧ W.ownsRow w2.heap.size 5 1 (.slice A4 X.length c4) X.length (cel X) ∧ X = mL m) := by
          refine ⟨?_, hOw, ?_⟩
          · have hs2 := HB2.out.size
            exact ⟨r1.os.trans HB2.out.os, r1.tape.trans HB2.out.tape, r1.output.trans HB2.out.output, Nat.le_trans hs2 r1.size, fun i hi => (r1.block i (by omega) (fun e => by injection e with e; omega)).trans (HB2.out.block i hi)⟩
          · rw [mL_PT HM.out, hX, List.take_of_length_le (by rw [PT_len]; omega)]
        have HD := Lib.hid (And.intro hD hN)
        clear hOw hX hD hN hBx r1
        gi_wp2
        exact bytes_end w w2.heap.size A4 c4 X Ds _ _ (by rfl) (by rfl) (by have := HB2.out.size; omega) HE.out.2.1 HE.out.1 HD.out.1 HD.out.2 HE.out.2.2
end Go.Proofs.YtjdalgejejllgaaDoor
