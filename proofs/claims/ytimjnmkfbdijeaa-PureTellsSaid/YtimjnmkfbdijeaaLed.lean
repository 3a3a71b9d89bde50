/-
  Ei, Ej: in one text.
-/
import Derived.Test.YtimjnmkfbdijeaaLec
import Derived.Test.YtimjnmkfbdijeaaLq
import Derived.Maps.AppendAt
namespace Go.Proofs.Ytimjnmkfbdijeaa
open Go.RowKit
set_option maxRecDepth 100000
set_option linter.unusedSimpArgs false
set_option linter.unusedVariables false

theorem own_some11 {w : World} {base e n : Nat} {v : Value} {xs : List Value} (h : w.ownsRow base e 1 v n xs) (hn : 0 < n) : ∃ g c, v = .slice (some ⟨g, 0, none⟩) n c := by
  rcases h.2 with ⟨_, h0⟩ | ⟨g, cap, cur, hv, _⟩
  · omega
  · exact ⟨g, cap, hv⟩
theorem own_xr11 {A : Option Addr} {n c j : Nat} (h : some j = (Value.slice A n c).ownBlock) : Xr11 A j := by
  cases A with
  | none => cases h
  | some ad => exact ⟨ad, rfl, by injection h⟩
theorem _root_.Go.Boxed.drew11 {w : World} {B t : Nat} {v : Value} (h : Boxed w B t v) : Boxed w.drew B t v := h
/-- append of one number to a row of the call's own: the run. -/
theorem run_append_n1 (w : World) (S ty : TypeId) (hS : Try.prog.underlying S = some (.slice 3)) (base : Nat) (v : Value) (n : Nat) (K0 : List Int) (hown : w.ownsRow base 3 1 v n (ci9 K0))
    (ad : Addr) (y : Int) (hc : w.cell? (ad.add 0) = some (.int .i64 y)) (hb : n + 1 ≤ 1000000) (hbase : base ≤ w.heap.size) :
    ∃ g' c' w', (Builtin.append_ #[S, S] ty #[v, .slice (some ad) 1 1]).run Try.prog w = .ok (.slice (some ⟨g', 0, none⟩) (n + 1) c') w' ∧ w'.ownsRow base 3 1 (.slice (some ⟨g', 0, none⟩) (n + 1) c') (n + 1) (ci9 (K0 ++ [y])) ∧ w.grownBy w' v.ownBlock ∧ (v.ownBlock = some g' ∨ g' = w.heap.size) := by
  have hinfo := Try.infoN
  rw [Option.map_eq_some_iff] at hinfo
  obtain ⟨i, hi, hz⟩ := hinfo
  simp only [Prod.mk.injEq] at hz
  obtain ⟨hz0, hz1, hz2⟩ := hz
  obtain ⟨v', w', hr', h2, h3, h4, h5⟩ := run_append_own_at (P := Try.prog) w base S ty 3 i _ 1 8 hS hi hz0 hz1 hz2 rfl (by decide) v n (ci9 K0) hown ad 1 1 (ci9 [y]) (by simp [ci9]) (fun j u hj => by
    match j, hj with
    | 0, hj =>
      simp [ci9] at hj
      subst hj
      exact hc) (ci9_oneN [y]) (by unfold maxLen; omega) (by omega) hbase
  obtain ⟨g', c', rfl⟩ := own_some11 h2 (by omega)
  exact ⟨g', c', w', hr', by rw [ci9, List.map_append]; exact h2, h3, by
    rcases h5 with h5 | h5
    · exact .inl h5.symm
    · injection h5 with h5; exact .inr h5⟩
theorem step_append_n1 {w : World} {ops : Array Oper} {o : Oper} {a : Act} {K : Act → World → Prop} {Q : Exit → Act → World → Prop} {E : Prop} (hgd : o.guard = none) (s x : Operand) (S : TypeId) (hS : Try.prog.underlying S = some (.slice 3))
    (ho : o.op = .call { callee := .builtin .append, args := #[s, x], argTypes := #[S, S] })
    (base : Nat) (v : Value) (n : Nat) (K0 : List Int) (hs : a.eval s = v) (hown : w.ownsRow base 3 1 v n (ci9 K0))
    (ad : Addr) (y : Int) (hx : a.eval x = .slice (some ad) 1 1) (hc : w.cell? (ad.add 0) = some (.int .i64 y)) (hb : n + 1 ≤ 1000000) (hbase : base ≤ w.heap.size)
    (h : ∀ g' c' w', w'.ownsRow base 3 1 (.slice (some ⟨g', 0, none⟩) (n + 1) c') (n + 1) (ci9 (K0 ++ [y])) → w.grownBy w' v.ownBlock → (v.ownBlock = some g' ∨ g' = w.heap.size) → K (a.put o.dst (.slice (some ⟨g', 0, none⟩) (n + 1) c')) w') :
    if Region.wanted o (yielded ops a.tmps) = true then Oper.wp Try.prog o a w K Q else E := by
  have hw : Region.wanted o (yielded ops a.tmps) = true := by simp [Region.wanted, hgd]
  rw [if_pos hw]
  obtain ⟨g', c', w', hr, h2, h3, h4⟩ := run_append_n1 w S o.type hS base v n K0 hown ad y hc hb hbase
  unfold Oper.wp
  simp [execOp, ho, resolve, invoke, builtin, hs, hx, hr, Result.andThen]
  exact h g' c' w' h2 h3 h4
theorem wpList_append_n1 {w : World} {ops : Array Oper} {rest : List Oper} {o : Oper} {a : Act} {Q : Exit → Act → World → Prop} (hgd : o.guard = none) (s x : Operand) (S : TypeId) (hS : Try.prog.underlying S = some (.slice 3))
    (ho : o.op = .call { callee := .builtin .append, args := #[s, x], argTypes := #[S, S] })
    (base : Nat) (v : Value) (n : Nat) (K0 : List Int) (hs : a.eval s = v) (hown : w.ownsRow base 3 1 v n (ci9 K0))
    (ad : Addr) (y : Int) (hx : a.eval x = .slice (some ad) 1 1) (hc : w.cell? (ad.add 0) = some (.int .i64 y)) (hb : n + 1 ≤ 1000000) (hbase : base ≤ w.heap.size)
    (h : ∀ g' c' w', w'.ownsRow base 3 1 (.slice (some ⟨g', 0, none⟩) (n + 1) c') (n + 1) (ci9 (K0 ++ [y])) → w.grownBy w' v.ownBlock → (v.ownBlock = some g' ∨ g' = w.heap.size) → wpList Try.prog ops Q rest (a.put o.dst (.slice (some ⟨g', 0, none⟩) (n + 1) c')) w') :
    wpList Try.prog ops Q (o :: rest) a w := by
  obtain ⟨g', c', w', hr, h2, h3, h4⟩ := run_append_n1 w S o.type hS base v n K0 hown ad y hc hb hbase
  refine wpList_plain hgd fun K hK => ?_
  unfold Oper.wp
  simp [execOp, ho, resolve, invoke, builtin, hs, hx, hr, Result.andThen]
  exact hK _ _ (h g' c' w' h2 h3 h4)
theorem own_cut11 {w : World} {base e n m : Nat} {A : Option Addr} {c : Nat} {xs : List Value} (h : w.ownsRow base e 1 (.slice A n c) n xs) (hm : m ≤ n) : w.ownsRow base e 1 (.slice A m c) m (xs.take m) := by
  obtain ⟨h1, h2⟩ := h
  refine ⟨by rw [List.length_take, h1]; omega, ?_⟩
  rcases h2 with ⟨h2, h0⟩ | ⟨g, cap, cur, hv, hg, hh, h3, h4, h5, h6⟩
  · left
    injection h2 with e1 e2 e3
    obtain rfl : m = 0 := by omega
    rw [e1, e3]
    exact ⟨rfl, rfl⟩
  · injection hv with e1 e2 e3
    subst e1 e3
    refine .inr ⟨g, c, cur, rfl, hg, hh, by omega, h4, h5, ?_⟩
    rw [← h6, List.take_take]
    congr 1
    omega
theorem mi11 (x : Int) (w : World) : (Instr.makeInterface 3 (.int .i64 x)).run Try.prog w = .ok (.iface 3 (.int .i64 x)) w := by kernel_rfl
theorem ta11 (x : Int) (w : World) : (Instr.typeAssert (.iface 3 (.int .i64 x)) 20 3 false).run Try.prog w = .ok (.int .i64 x) w := by kernel_rfl
set_option maxHeartbeats 2000000 in
theorem lpush11_v (N B n c : Nat) (A : Option Addr) (l : List Int) (x : Int) (w : World) (h : Hb11 w N B A c l) (hl : l.length = n) (hn : n < 100000) (hN : N ≤ w.heap.size) : Calls Try.prog 109 #[.pointer (some ⟨B, 0, none⟩), .iface 3 (.int .i64 x)] w fun e w' => e = .returned (.tuple #[]) ∧ ∃ g' c', Hb11 w' N B (some ⟨g', 0, none⟩) c' (l ++ [x]) ∧ Fr11 (fun k => k = B ∨ Xr11 A k) w w' ∧ (Xr11 A g' ∨ w.heap.size ≤ g') := by
  have hbx := h.box
  have hox := h.own
  rw [hl] at hbx hox
  have HB := Lib.hid hbx
  have HLN := Lib.hid hl
  have HB0 : Hid (Boxed w.drew B 110 (.slice A n c)) ∧ w.drew.cell? ⟨B, 0, none⟩ = some (.slice A n c) := ⟨Lib.hid hbx.drew11, hbx.drew11.cell⟩
  have HO1 : Hid ((w.drew.alloc (.cells #[.int .i64 x] 3)).ownsRow N 3 1 (.slice A n c) n (ci9 l)) := Lib.hid (hox.drew.alloc _)
  have hc1 : (w.drew.alloc (.cells #[.int .i64 x] 3)).cell? ((⟨w.heap.size, 0, none⟩ : Addr).add 0) = some (.int .i64 x) := by simp [go_sem, Addr.add]
  have HF1 : Hid (Fr11 (fun k => k = B ∨ Xr11 A k) w (w.drew.alloc (.cells #[.int .i64 x] 3))) := Lib.hid (((Fr11.refl _ w).drewN 1).alloc _)
  have HNR := Lib.hid (Boxed.not_row hbx (by decide) hox)
  clear hbx hox h hl
  have hta := ta11 x
  go_enter Try.func109, Try.ntmps109
  refine wp_region_L [11] (S := fun w' => Hid (Boxed w' B 110 (.slice A n c)) ∧ w'.cell? ⟨B, 0, none⟩ = some (.slice A n c)) (by kernel_rfl) (HB0) (fun hHeld => ?_)
  refine wpL_reckon (i := 0) (v := ?_) rfl (by kernel_rfl) (fun _ _ _ h => h) (Or.inl ⟨by rfl, ?_⟩) (Or.inr (by assumption)) ?_
  rotate_left 1
  · intro w _; go_simp; try with_reducible rfl
  try simp only [Act.put, List.getElem_toArray, List.getElem_cons_zero, List.getElem_cons_succ, List.setIfInBounds_toArray, List.set_cons_zero, List.set_cons_succ]
  refine wpL_reckon (i := 1) (v := ?_) rfl (by kernel_rfl) (fun _ _ _ h => h) (Or.inl ⟨by rfl, ?_⟩) (Or.inr (by assumption)) ?_
  rotate_left 1
  · intro w _; go_simp; try with_reducible rfl
  try simp only [Act.put, List.getElem_toArray, List.getElem_cons_zero, List.getElem_cons_succ, List.setIfInBounds_toArray, List.set_cons_zero, List.set_cons_succ]
  refine wpL_reckon (i := 2) (v := ?_) rfl (by kernel_rfl) (fun _ _ _ h => h) (Or.inl ⟨by rfl, ?_⟩) (Or.inr (by assumption)) ?_
  rotate_left 1
  · intro w _; go_simp; try with_reducible rfl
  try simp only [Act.put, List.getElem_toArray, List.getElem_cons_zero, List.getElem_cons_succ, List.setIfInBounds_toArray, List.set_cons_zero, List.set_cons_succ]
  refine wpL_reckon (i := 3) (v := ?_) rfl (by kernel_rfl) (fun _ _ _ h => h) (Or.inl ⟨by rfl, ?_⟩) (Or.inr (by assumption)) ?_
  rotate_left 1
  · intro w _; go_simp; try with_reducible rfl
  try simp only [Act.put, List.getElem_toArray, List.getElem_cons_zero, List.getElem_cons_succ, List.setIfInBounds_toArray, List.set_cons_zero, List.set_cons_succ]
  refine wpL_take (i := 4) (v := ?_) rfl (by kernel_rfl) (fun _ _ _ h => h) (Or.inl ⟨by rfl, ?_⟩) (by assumption) ?_
  rotate_left 1
  · intro w hSw; (try dsimp only at hSw); obtain ⟨-, s0⟩ := hSw; go_simp; try with_reducible rfl
  try simp only [Act.put, List.getElem_toArray, List.getElem_cons_zero, List.getElem_cons_succ, List.setIfInBounds_toArray, List.set_cons_zero, List.set_cons_succ]
  refine wpL_reckon (i := 5) (v := ?_) rfl (by kernel_rfl) (fun _ _ _ h => h) (Or.inl ⟨by rfl, ?_⟩) (Or.inr (by assumption)) ?_
  rotate_left 1
  · intro w _; go_simp; try with_reducible rfl
  try simp only [Act.put, List.getElem_toArray, List.getElem_cons_zero, List.getElem_cons_succ, List.setIfInBounds_toArray, List.set_cons_zero, List.set_cons_succ]
  refine wpL_reckon (i := 6) (v := ?_) rfl (by kernel_rfl) (fun _ _ _ h => h) (Or.inl ⟨by rfl, ?_⟩) (Or.inr (by assumption)) ?_
  rotate_left 1
  · intro w _; go_simp; try with_reducible rfl
  try simp only [Act.put, List.getElem_toArray, List.getElem_cons_zero, List.getElem_cons_succ, List.setIfInBounds_toArray, List.set_cons_zero, List.set_cons_succ]
  refine wpL_ready (rs := [7]) (by kernel_rfl) (by simp) ?_
  refine AllL.cons rfl (fun K hK => ?_) AllL.nil
  go_simp
  go_simp
  go_wp2_with fail
  refine hK.out _ _ (⟨Lib.hid ((HB.out.drew11).alloc _), (HB.out.drew11.alloc _).cell⟩) (fun hHeld => ?_)
  clear hK K
  try simp only [Act.put, List.getElem_toArray, List.getElem_cons_zero, List.getElem_cons_succ, List.setIfInBounds_toArray, List.set_cons_zero, List.set_cons_succ]
  refine wpL_ready (rs := [8]) (by kernel_rfl) (by simp) ?_
  refine AllL.cons rfl (fun K hK => ?_) AllL.nil
  refine step_append_n1 rfl (.tmp 8) (.tmp 11) 108 Try.underlying108 rfl N _ n l rfl HO1.out _ x rfl hc1 (by omega) (by simp; omega) ?_
  intro g' c' w9 ho hg hl
  have HO9 := Lib.hid ho
  have HF9 : Hid (Fr11 (fun k => k = B ∨ Xr11 A k) w w9) := Lib.hid ((HF1.out).trans (Fr11.of_grown (X := Xr11 A) hg (fun j e => own_xr11 e)) fun _ _ h => .inr h)
  have HL9 : Hid (Xr11 A g' ∨ w.heap.size ≤ g') := Lib.hid (by
    rcases hl with hl | hl
    · exact .inl (own_xr11 hl.symm)
    · exact .inr (by rw [hl]; simp))
  have HB9 : Hid (Boxed w9 B 110 (.slice A n c)) := Lib.hid ((HB.out.drew11.alloc _).kept hg HNR.out)
  have hb9 := HB9.out.cell
  have hf9 := HB9.out.frozen
  clear ho hg hl
  refine hK.out _ _ (⟨HB9, hb9⟩) (fun hHeld => ?_)
  clear hK K
  try simp only [Act.put, List.getElem_toArray, List.getElem_cons_zero, List.getElem_cons_succ, List.setIfInBounds_toArray, List.set_cons_zero, List.set_cons_succ]
  refine wpL_reckon (i := 9) (v := ?_) rfl (by kernel_rfl) (fun _ _ _ h => h) (Or.inl ⟨by rfl, ?_⟩) (Or.inr (by assumption)) ?_
  rotate_left 1
  · intro w _; go_simp; try with_reducible rfl
  try simp only [Act.put, List.getElem_toArray, List.getElem_cons_zero, List.getElem_cons_succ, List.setIfInBounds_toArray, List.set_cons_zero, List.set_cons_succ]
  refine wpL_reckon (i := 10) (v := ?_) rfl (by kernel_rfl) (fun _ _ _ h => h) (Or.inl ⟨by rfl, ?_⟩) (Or.inr (by assumption)) ?_
  rotate_left 1
  · intro w _; go_simp; try with_reducible rfl
  try simp only [Act.put, List.getElem_toArray, List.getElem_cons_zero, List.getElem_cons_succ, List.setIfInBounds_toArray, List.set_cons_zero, List.set_cons_succ]
  refine wpL_ready (rs := [11]) (by kernel_rfl) (by simp) ?_
  refine AllL.late rfl (by kernel_rfl) (fun K hK => ?_) AllL.nil
  go_simp
  refine hK.out _ _ ?_
  clear hK K
  try simp only [Act.put, List.getElem_toArray, List.getElem_cons_zero, List.getElem_cons_succ, List.setIfInBounds_toArray, List.set_cons_zero, List.set_cons_succ]
  refine wpL_done (by kernel_rfl) ?_ _
  have HOF := Lib.hid (own_tag HO9.out (k := 1) (B := B) (t := 110) ⟨_, HB9.out, rfl⟩ (by decide) 0 (.slice (some ⟨g', 0, none⟩) (n + 1) c'))
  have HBF := Lib.hid (HB9.out.set (.slice (some ⟨g', 0, none⟩) (n + 1) c'))
  have HFF := Lib.hid (HF9.out.set (p := ⟨B, 0, none⟩) (.inr (.inl rfl)) (.slice (some ⟨g', 0, none⟩) (n + 1) c'))
  have HLL : Hid ((l ++ [x]).length = n + 1) := Lib.hid (by rw [List.length_append, HLN.out]; rfl)
  go_wp2_with fail
  go_end0
  exact ⟨rfl, g', c', ⟨by rw [HLL.out]; exact HBF.out, by rw [HLL.out]; exact HOF.out⟩, HFF.out, HL9.out⟩
set_option maxHeartbeats 2000000 in
theorem lpop11_v (N B g c n : Nat) (l : List Int) (x : Int) (w : World) (h : Hb11 w N B (some ⟨g, 0, none⟩) c (l ++ [x])) (hl : l.length = n) (hn : n < 100000) : Calls Try.prog 108 #[.pointer (some ⟨B, 0, none⟩)] w fun e w' => e = .returned (.iface 3 (.int .i64 x)) ∧ Hb11 w' N B (some ⟨g, 0, none⟩) c l ∧ Fr11 (fun k => k = B) w w' := by
  have hbx := h.box
  have hox := h.own
  have hll : (l ++ [x]).length = n + 1 := by rw [List.length_append, hl]; rfl
  rw [hll] at hbx hox
  have b0 := hbx.cell
  have b1 := hbx.frozen
  have hx : (l ++ [x])[n]? = some x := by rw [← hl]; simp
  obtain ⟨ad, hA, y0⟩ := (Rn.of_own hox).1.at_ hx
  injection hA with hA
  subst hA
  have y0 : w.cell? ⟨g, n, none⟩ = some (.int .i64 x) := by
    by_cases e : n = 0
    · subst e; exact y0
    · rw [← y0, Addr.add, if_neg e, Nat.zero_add]
  have hcap := (Rn.of_own hox).1.1
  rw [hll] at hcap
  have HOF : Hid (((w.setCell ⟨B, 0, none⟩ (.slice (some ⟨g, 0, none⟩) n c))).ownsRow N 3 1 (.slice (some ⟨g, 0, none⟩) n c) n (ci9 l)) := by
    have := own_cut11 (own_tag hox (k := 1) (B := B) (t := 110) ⟨_, hbx, rfl⟩ (by decide) 0 (.slice (some ⟨g, 0, none⟩) n c)) (m := n) (by omega)
    have e : (ci9 (l ++ [x])).take n = ci9 l := by rw [ci9, List.map_append, List.take_left' (by rw [List.length_map, hl])]; rfl
    rwa [e] at this
  have HBF := Lib.hid (hbx.set (.slice (some ⟨g, 0, none⟩) n c))
  have HFF := Lib.hid ((Fr11.refl (fun k => k = B) w).set (p := ⟨B, 0, none⟩) (.inr rfl) (.slice (some ⟨g, 0, none⟩) n c))
  have HLN := Lib.hid hl
  have ew : ((n : Int) + 1 - 1) = (n : Int) := by omega
  have hmi : ∀ w, (Instr.makeInterface 3 (.int .i64 x)).run Try.prog w = .ok (.iface 3 (.int .i64 x)) w := mi11 x
  clear hbx hox hx hl h hll
  go_enter Try.func108, Try.ntmps108
  go_wp2_with fail
  refine (len11_v (some ⟨g, 0, none⟩) (n + 1) c w).mono ?_
  rintro r w1 ⟨rfl, rfl⟩
  go_wp2_with fail
  go_ret
  exact ⟨rfl, ⟨by rw [HLN.out]; exact HBF.out, by rw [HLN.out]; exact HOF.out⟩, HFF.out⟩
end Go.Proofs.Ytimjnmkfbdijeaa
namespace Go.Proofs.Ytimjnmkfbdijeaa
open Go.RowKit
set_option maxRecDepth 100000
set_option linter.unusedSimpArgs false
set_option linter.unusedVariables false

set_option maxHeartbeats 2000000 in
theorem hpush11_v (N B n c : Nat) (A : Option Addr) (l : List Int) (x : Int) (w : World) (h : Hb11 w N B A c l) (hl : l.length = n) (hn : n < 100000) (hN : N ≤ w.heap.size) (hp : Hp11 l n) :
    Calls Try.prog 58 #[.iface 107 (.pointer (some ⟨B, 0, none⟩)), .iface 3 (.int .i64 x)] w fun e w' => e = .returned (.tuple #[]) ∧ ∃ g' c' l', Hb11 w' N B (some ⟨g', 0, none⟩) c' l' ∧ l'.Perm (l ++ [x]) ∧ Hp11 l' (n + 1) ∧ Fr11 (fun k => k = B ∨ Xr11 A k) w w' ∧ (Xr11 A g' ∨ w.heap.size ≤ g') := by
  have HH := Lib.hid h
  have HL := Lib.hid hl
  have HP := Lib.hid hp
  have HPU := Lib.hid (lpush11_v N B n c A l x w h hl hn hN)
  have hmp := fun k => meth_push11 k B w
  clear h hl hp
  go_enter Try.func58, Try.ntmps58
  go_wp2_with fail
  refine HPU.out.mono ?_
  rintro r w1 ⟨rfl, g', c', hb, hf, hg⟩
  have HB := Lib.hid hb
  have HF := Lib.hid hf
  have HG := Lib.hid hg
  have HLX : Hid ((l ++ [x]).length = n + 1) := Lib.hid (by rw [List.length_append, HL.out]; rfl)
  have hml := fun k => meth_len11 k B _ _ _ w1 HB.out.box.cell
  rw [HLX.out] at hml
  have HU : Hid (Up11 (l ++ [x]) (n + 1) n) := Lib.hid (by rw [← HL.out]; exact Up11.start (by rw [HL.out]; exact HP.out))
  have HUP := Lib.hid (up11_v N B g' c' (n + 1) n (l ++ [x]) w1 HB.out HLX.out (by omega) HU.out)
  have ew : ((n : Int) + 1 - 1) = (n : Int) := by omega
  clear hb hf hg hmp HPU
  go_wp2_with fail
  refine (len11_v (some ⟨g', 0, none⟩) (n + 1) c' w1).mono ?_
  rintro r w2 ⟨rfl, rfl⟩
  go_wp2_with fail
  refine HUP.out.mono ?_
  rintro r w3 ⟨rfl, l', hb3, hp3, hh3, hf3⟩
  have HF3 : Hid (Fr11 (fun k => k = B ∨ Xr11 A k) w w3) := Lib.hid (HF.out.trans hf3 fun j hj e => by
    subst e
    rcases HG.out with h | h
    · exact .inr h
    · omega)
  have HE : Hid (Hb11 w3 N B (some ⟨g', 0, none⟩) c' l' ∧ l'.Perm (l ++ [x]) ∧ Hp11 l' (n + 1)) := Lib.hid ⟨hb3, hp3, hh3⟩
  clear hb3 hp3 hh3 hf3
  go_wp2_with fail
  go_end0
  exact ⟨rfl, g', c', l', HE.out.1, HE.out.2.1, HE.out.2.2, HF3.out, HG.out⟩
theorem split_last11 {l : List Int} {n : Nat} (h : l.length = n + 1) : ∃ l' x, l = l' ++ [x] ∧ l'.length = n ∧ x = g11 l n := by
  refine ⟨l.take n, g11 l n, ?_, by rw [List.length_take]; omega, rfl⟩
  have h1 : l.take (n + 1) = l := List.take_of_length_le (by omega)
  rw [List.take_add_one, g11_some (by omega)] at h1
  exact h1.symm
set_option maxHeartbeats 4000000 in
theorem hpop11_v (N B g c n : Nat) (l : List Int) (w : World) (h : Hb11 w N B (some ⟨g, 0, none⟩) c l) (hl : l.length = n + 1) (hn : n < 100000) (hp : Hp11 l (n + 1)) :
    Calls Try.prog 61 #[.iface 107 (.pointer (some ⟨B, 0, none⟩))] w fun e w' => ∃ x l', e = .returned (.iface 3 (.int .i64 x)) ∧ Hb11 w' N B (some ⟨g, 0, none⟩) c l' ∧ (x :: l').Perm l ∧ l'.length = n ∧ Hp11 l' n ∧ (∀ y ∈ l, x ≤ y) ∧ Fr11 (fun k => k = B ∨ k = g) w w' := by
  have HH := Lib.hid h
  have HL := Lib.hid hl
  have HP := Lib.hid hp
  have HO := Lib.hid h.own
  rw [hl] at HO
  have hml := fun k => meth_len11 k B _ _ _ w h.box.cell
  have hms := fun k => meth_swap11 k B _ _ _ w h.box.cell
  rw [hl] at hml hms
  have HSW := Lib.hid (swap11_v N g c (n + 1) 0 n l w HO.out (by omega) (by omega))
  have HD : Hid (Dn11 (sw11 l 0 n) n 0) := Lib.hid (Dn11.start (by rw [hl]; exact hp) hl)
  have HM : Hid (∀ y ∈ l, g11 l 0 ≤ y) := Lib.hid fun y hy => by
    obtain ⟨k, hk⟩ := List.getElem?_of_mem hy
    have h1 := (List.getElem?_eq_some_iff.1 hk).1
    have h2 := hp.least k (by omega)
    rw [g11_some h1] at hk
    injection hk with hk
    omega
  have ew : ((n : Int) + 1 - 1) = (n : Int) := by omega
  clear h hl hp
  go_enter Try.func61, Try.ntmps61
  go_wp2_with fail
  refine (len11_v (some ⟨g, 0, none⟩) (n + 1) c w).mono ?_
  rintro r w2 ⟨rfl, rfl⟩
  go_wp2_with fail
  refine HSW.out.mono ?_
  rintro r w3 ⟨rfl, ho, hf⟩
  have HB3 : Hid (Hb11 w3 N B (some ⟨g, 0, none⟩) c (sw11 l 0 n)) := Lib.hid ⟨by rw [sw11_len]; exact hf.box HH.out.box (fun e => Boxed.not_row HH.out.box (by decide) HH.out.own (by rw [e]; rfl)), by rw [sw11_len, HL.out]; exact ho⟩
  have HF3 := Lib.hid hf
  have HDN := Lib.hid (down11_v N B g c n (n + 1) (sw11 l 0 n) w3 HB3.out (sw11_len.trans HL.out) (by omega) (by omega) HD.out)
  clear ho hf HSW hml hms
  go_wp2_with fail
  refine HDN.out.mono ?_
  rintro r w4 ⟨b, rfl, l', hb4, hp4, hh4, he4, hf4⟩
  obtain ⟨l2, x, rfl, hl2, hx⟩ := split_last11 (l := l') (n := n) (hp4.length_eq.trans (sw11_len.trans HL.out))
  have HX : Hid (x = g11 l 0) := Lib.hid (by rw [hx, he4 n (Nat.le_refl _), g11_sw (by rw [HL.out]; omega) (by rw [HL.out]; omega), if_pos rfl])
  have HPM : Hid ((x :: l2).Perm l) := Lib.hid ((List.perm_append_singleton x l2).symm.trans (hp4.trans (sw11_perm (by rw [HL.out]; omega) (by rw [HL.out]; omega))))
  have HHP : Hid (Hp11 l2 n) := Lib.hid fun i h0 hi => by
    have := hh4 i h0 hi
    rwa [g11, g11, List.getElem?_append_left (by omega), List.getElem?_append_left (by omega)] at this
  have HL2 := Lib.hid hl2
  have HB4 := Lib.hid hb4
  have HF4 : Hid (Fr11 (fun k => k = B ∨ k = g) w w4) := Lib.hid ((HF3.out.mono fun j h => .inr h).trans hf4 fun _ _ h => .inr h)
  have HPO := Lib.hid (lpop11_v N B g c n l2 x w4 hb4 hl2 hn)
  have hmp := fun k => meth_pop11 k B w4
  clear hb4 hp4 hh4 he4 hf4 hl2 hx HDN
  go_wp2_with fail
  refine HPO.out.mono ?_
  rintro r w5 ⟨rfl, hb5, hf5⟩
  have HB5 := Lib.hid hb5
  have HF5 : Hid (Fr11 (fun k => k = B ∨ k = g) w w5) := Lib.hid (HF4.out.trans hf5 fun _ _ h => .inl h)
  clear hb5 hf5 HPO hmp
  go_wp2_with fail
  go_ret
  exact ⟨x, l2, rfl, HB5.out, HPM.out, HL2.out, HHP.out, by rw [HX.out]; exact HM.out, HF5.out⟩
end Go.Proofs.Ytimjnmkfbdijeaa
