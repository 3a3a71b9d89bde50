/-
  Zg, Zh: in one text.
-/
import Derived.Test.YtmgppdjbmhjmbaaGreatLta
import Derived.Test.YtmgppdjbmhjmbaaGreatHd
import Derived.Test.YtmgppdjbmhjmbaaGreatLt
import Derived.Test.YtmgppdjbmhjmbaaGreatLu
import Derived.ArgAppend
import Derived.Laws.Cover3
import Derived.Test.YtmgppdjbmhjmbaaGreatTi
import Derived.Test.YtmgppdjbmhjmbaaGreatLw
import Derived.Laws.CopyOwn
import Derived.Laws.Rows
import Derived.Laws.ResultCell
import Derived.Deep.WholeRow
namespace Go.Proofs.YtmgppdjbmhjmbaaGreat
open Go.RowKit
set_option maxRecDepth 100000
set_option linter.unusedSimpArgs false
set_option linter.unusedVariables false

theorem nilB10 (w : World) (A : Option Addr) (m c : Nat) : (binOp .eql 36 (.slice A m c) (.slice none 0 0)).run Tryz.prog w = .ok (.bool A.isNone) w := by
  simp [binOp, run_equal_slice_nil w 36 5 A m c Tryz.underlying36]
theorem clone10_v (A : Option Addr) (c m : Nat) (L : List Int) (w : World) (hr : Rd w A c L) (hm : L.length = m) (hl : m ≤ 1000000) : Calls Tryz.prog 63 #[.slice A m c] w fun e w' => ∃ A' c', e = .returned (.slice A' m c') ∧ Rd w' A' c' L ∧ Below w.heap.size w w' := by
  have HB5 := Lib.hid hr.1
  cases A with
  | none =>
    obtain rfl : c = 0 := by rcases hr.2.2.2 with ⟨_, h⟩ | ⟨_, h, _⟩; exact h; cases h
    obtain rfl : L = [] := List.eq_nil_of_length_eq_zero (by have := hr.le; omega)
    obtain rfl : m = 0 := hm.symm
    have q := fun w => nilB10 w none 0 0
    go_enter Tryz.func63, Tryz.ntmps63
    go_wp2_with fail
    go_ret
    exact ⟨none, 0, rfl, Rd.none_ _, Below.refl _ _⟩
  | some ad =>
    have HO := Lib.hid (show (w.alloc (.cells #[] 5)).ownsRow w.heap.size 5 1 (.slice (some ⟨w.heap.size, 0, none⟩) 0 0) 0 (cel []) from
      World.ownsRow_lit (base := w.heap.size) (e := 5) (size := 1) w #[] 0 (Nat.le_refl _) (by unfold maxLen; simp) (by simp))
    have HR := Lib.hid (hr.keep (new1 (a := .cells #[] 5)))
    clear hr
    have q := fun w => nilB10 w (some ad) m c
    go_enter Tryz.func63, Tryz.ntmps63
    go_wp2_with (at_builtin; obtain ⟨i0, hi, hz0, hz1, hz2⟩ := info_parts Tryz.info5; refine wpList_append_rd _ rfl (.tmp 5) (.tmp 6) 36 rfl w.heap.size 5 i0 Tryz.underlying36 hi hz0 hz1 hz2 _ 0 [] rfl HO.out (some ad) m c L rfl HR.out hm.symm (by omega) (by simp) ?_)
    intro A' c' w1 ho hg hb _
    have HO1 := Lib.hid ho
    have HB := Lib.hid (new1.trans hb)
    clear ho hg hb
    go_wp2_with fail
    go_ret
    exact ⟨A', c', rfl, own_rd (by simpa using HO1.out) HB5.out, HB.out⟩
theorem Rn.past10 {w : World} {t g : Nat} {Z : List Rx} {A : Option Addr} {c : Nat} {K : List Int} (h : Rn w A c K) (hw : Wr w t g Z) (j : Nat) (v : Value) : Rn (w.setCell ⟨g, j, none⟩ v) A c K := by
  refine ⟨h.1, h.2.1, ?_⟩
  rcases h.2.2 with hn | ⟨ad, ha, hc⟩
  · exact .inl hn
  · refine .inr ⟨ad, ha, fun i x hx => ?_⟩
    have := hc i x hx
    rw [World.cell?_setCell_other _ _ _ _ (fun e => hw.no_int this (by rw [← e]))]
    exact this
/-- What meet leaves: the rows Z', and all that was read. -/
def Mt10 (w w' : World) (t g : Nat) (Z' : List Rx) : Prop := Wr w' t g Z' ∧ Below g w w' ∧ (∀ A c K, Rd w A c K → Rd w' A c K) ∧ ∀ A c K, Rn w A c K → Rn w' A c K
theorem Mt10.call {w w1 w' : World} {t g : Nat} {Z : List Rx} (h : Mt10 w w1 t g Z) (hb : Below w1.heap.size w1 w') : Mt10 w w' t g Z :=
  ⟨h.1.keep hb, h.2.1.trans (hb.mono (by have := h.1.lt; omega)), fun A c K hk => (h.2.2.1 A c K hk).keep hb, fun A c K hk => (h.2.2.2 A c K hk).keep hb⟩
/-- The rows once a place was met with K. -/
def mz10 (Z : List Rz) (i : Nat) (K : List Int) : List Rz := if (Z[i]?.getD z10).1 then Z else Z.set i (true, K)
def mv10 (Z : List Rz) (i : Nat) (K : List Int) : Bool := if (Z[i]?.getD z10).1 then (Z[i]?.getD z10).2 == K else true
set_option maxHeartbeats 4000000 in
theorem meet_v (t g i : Nat) (Z : List Rx) (A : Option Addr) (c m : Nat) (K : List Int) (w : World) (hw : Wr w t g Z) (hi : i < Z.length) (hr : Rd w A c K) (hm : K.length = m) (hl : m ≤ 1000000) :
    Calls Tryz.prog 44 #[.pointer (some ⟨g, i * 2, none⟩), .slice A m c] w fun e w' => e = .returned (.bool (mv10 (Z.map rz) i K)) ∧ ∃ Z', Z'.length = Z.length ∧ Z'.map rz = mz10 (Z.map rz) i K ∧ Mt10 w w' t g Z' := by
  subst hm
  obtain ⟨⟨r, B, b, J⟩, hz⟩ : ∃ z, Z[i]? = some z := ⟨_, List.getElem?_eq_getElem hi⟩
  have hzi : (Z.map rz)[i]?.getD z10 = (r, J) := by rw [List.getElem?_map, hz]; rfl
  have y0 := hw.cell0 hz
  have y1 := hw.cell1 hz
  dsimp only at y0 y1
  have HZ := Lib.hid hz
  have HI := Lib.hid hzi
  have HW := Lib.hid hw
  have HR := Lib.hid hr
  have hJ : Rd w B b J := hw.2 _ (List.mem_of_getElem? hz)
  have HJ := Lib.hid hJ
  clear hz hzi hw hr hJ
  cases r with
  | true =>
    obtain ⟨v, hv⟩ : ∃ v, (J == K) = v := ⟨_, rfl⟩
    have HV : Hid (mv10 (Z.map rz) i K = v) := Lib.hid (by rw [mv10, HI.out, if_pos rfl]; exact hv)
    have HMZ : Hid (mz10 (Z.map rz) i K = Z.map rz) := Lib.hid (by rw [mz10, HI.out, if_pos rfl])
    have HE := Lib.hid (sequal_v B A b c _ _ J K v w HJ.out HR.out rfl rfl hv)
    clear hv
    go_enter Tryz.func44, Tryz.ntmps44
    go_wp2_with fail
    refine HE.out.mono ?_
    rintro e w1 ⟨rfl, hb⟩
    have HB := Lib.hid hb
    clear hb HE y0 y1
    go_wp2_with fail
    go_ret
    exact ⟨by rw [HV.out]; rfl, Z, rfl, HMZ.out.symm, Mt10.call ⟨HW.out, Below.refl _ _, fun _ _ _ h => h, fun _ _ _ h => h⟩ HB.out⟩
  | false =>
    have HV : Hid (mv10 (Z.map rz) i K = true) := Lib.hid (by rw [mv10, HI.out, if_neg (by simp)])
    have HMZ : Hid (mz10 (Z.map rz) i K = (Z.map rz).set i (true, K)) := Lib.hid (by rw [mz10, HI.out, if_neg (by simp)])
    have HC := Lib.hid (clone10_v A c _ K w HR.out rfl hl)
    go_enter Tryz.func44, Tryz.ntmps44
    go_wp2_with fail
    refine HC.out.mono ?_
    rintro e w1 ⟨A2, c2, rfl, hr2, hb⟩
    have HW1 := Lib.hid (HW.out.keep hb)
    have HR1 := Lib.hid (HR.out.keep hb)
    have HR2 := Lib.hid hr2
    have HB1 := Lib.hid hb
    clear hb hr2 HC y0 y1
    have y0 := HW1.out.cell0 HZ.out
    have y1 := HW1.out.cell1 HZ.out
    have f0 := HW1.out.froz (i * 2)
    have f1 := HW1.out.froz (i * 2 + 1)
    dsimp only at y0 y1
    have HW2 := Lib.hid (HW1.out.setr HZ.out true)
    have HZ2 : Hid ((Z.set i ⟨true, B, b, J⟩)[i]? = some ⟨true, B, b, J⟩) := Lib.hid (by rw [List.getElem?_set, if_pos rfl, if_pos hi])
    have HR22 := Lib.hid (HR2.out.past HW1.out (i * 2) (.bool true))
    have HW3 := Lib.hid (HW2.out.setk HZ2.out HR22.out)
    have HR3 := Lib.hid ((HR1.out.past HW1.out (i * 2) (.bool true)).past HW2.out (i * 2 + 1) (.slice A2 K.length c2))
    have HR33 := Lib.hid (HR22.out.past HW2.out (i * 2 + 1) (.slice A2 K.length c2))
    have HM3 : Hid (Mt10 w ((w1.setCell ⟨g, i * 2, none⟩ (.bool true)).setCell ⟨g, i * 2 + 1, none⟩ (.slice A2 K.length c2)) t g ((Z.set i ⟨true, B, b, J⟩).set i ⟨true, A2, c2, K⟩)) := Lib.hid
      ⟨HW3.out, ((HB1.out.mono (Nat.le_of_lt HW.out.lt)).setCell (p := ⟨g, i * 2, none⟩) (Nat.le_refl _) _).setCell (p := ⟨g, i * 2 + 1, none⟩) (Nat.le_refl _) _,
        fun A c K h => ((h.keep HB1.out).past HW1.out _ _).past HW2.out _ _, fun A c K h => ((h.keep HB1.out).past10 HW1.out _ _).past10 HW2.out _ _⟩
    clear HW2
    go_upto_region 3 with (fail)
    clear y0 y1 f0 f1 HR22
    generalize (w1.setCell ⟨g, i * 2, none⟩ (.bool true)).setCell ⟨g, i * 2 + 1, none⟩ (.slice A2 K.length c2) = w3 at HW3 HR3 HR33 HM3 ⊢
    have HZ3 : Hid (((Z.set i ⟨true, B, b, J⟩).set i ⟨true, A2, c2, K⟩)[i]? = some ⟨true, A2, c2, K⟩) := Lib.hid (by rw [List.getElem?_set, if_pos rfl, if_pos (by rw [List.length_set]; exact hi)])
    have y1 := HW3.out.cell1 HZ3.out
    dsimp only at y1
    have HE := Lib.hid (sequal_v A2 A c2 c _ _ K K true w3 HR33.out HR3.out rfl rfl (by simp))
    go_wp2_with fail
    refine HE.out.mono ?_
    rintro e w4 ⟨rfl, hb⟩
    have HB := Lib.hid hb
    clear hb HE y1
    go_wp2_with fail
    go_ret
    exact ⟨by rw [HV.out]; rfl, _, by rw [List.length_set, List.length_set], by rw [HMZ.out, List.set_set, List.map_set], HM3.out.call HB.out⟩
end Go.Proofs.YtmgppdjbmhjmbaaGreat
namespace Go.Proofs.YtmgppdjbmhjmbaaGreat
open Go.RowKit
set_option maxRecDepth 100000
set_option linter.unusedSimpArgs false
set_option linter.unusedVariables false

theorem Tryz.infoW10 : (Tryz.prog.info? 94).map (fun i => (i.zero, i.size)) = some (some (.agg (cer (List.replicate 200 zx10)).toArray), 400) := by kernel_rfl
theorem cerA_size {Z : List Rx} (h : Z.length = 200) : (cer Z).toArray.size = 400 := by rw [List.size_toArray, length_cer, h]
theorem cer_one2 (Z : List Rx) : (cer Z).toArray.all (·.oneCell') = true := by
  rw [Array.all_eq_true_iff_forall_mem]
  intro u hu
  have hu : u ∈ cer Z := by simpa using hu
  simp only [cer, List.mem_flatMap] at hu
  obtain ⟨z, -, hz⟩ := hu
  simp at hz
  rcases hz with rfl | rfl <;> rfl
theorem map_rz10 {Z : List Rx} {i : Nat} {z : Rx} (h : Z[i]? = some z) : (Z.map rz)[i]?.getD z10 = rz z := by rw [List.getElem?_map, h]; rfl
theorem set_same10 {S : List Rz} {v : Nat} {x : Rz} (h : S[v]?.getD z10 = x) (hr : x.1 = true) : S.set v x = S := by
  cases hs : S[v]? with
  | none =>
    rw [hs] at h
    subst h
    cases hr
  | some y =>
    rw [hs] at h
    obtain ⟨h1, h2⟩ := List.getElem?_eq_some_iff.1 hs
    simp only [Option.getD_some] at h
    subst h
    rw [← h2]
    exact List.set_getElem_self h1
theorem sw10_meet {nx : List Int} {v : Nat} {W : List Int} {S : List Rz} : sw10 nx ((v : Int) :: W) S = if mv10 S v nx then sw10 nx W (mz10 S v nx) else none := by
  rw [sw10, Int.toNat_natCast]
  cases hz : S[v]?.getD z10 with
  | mk r K =>
    cases r with
    | false => simp [mv10, mz10, hz]
    | true =>
      by_cases hk : K = nx
      · subst hk
        simp [mv10, mz10, hz, set_same10 hz rfl]
      · simp [mv10, mz10, hz, hk]
theorem mv10_take {S : List Rz} {v m : Nat} {K : List Int} (h : v < m) : mv10 (S.take m) v K = mv10 S v K := by rw [mv10, mv10, List.getElem?_take_of_lt h]
theorem mz10_take {S : List Rz} {v m : Nat} {K : List Int} (h : v < m) : mz10 (S.take m) v K = (mz10 S v K).take m := by
  rw [mz10, mz10, List.getElem?_take_of_lt h]
  split
  · rfl
  · rw [List.take_set]
theorem rs10s_end {d : Md} {h : Mh} {c : List Ins} {p m : Nat} (hpm : p ≤ m) {e : Int} (he : (rs10s d h c p).2 = e) (h0 : e ≠ 0) : (rs10s d h c m).2 = e := by
  rw [← he]
  exact rs10s_stop (by rw [he]; exact h0) m hpm
theorem Ri.keepB {w w' : World} {A : Option Addr} {c : Nat} {L : List Ins} (h : Ri w A c L) (hb : Below w.heap.size w w') : Ri w' A c L := (fT A c L).keep w w' h hb
theorem Wr.keepB {w w' : World} {t g k : Nat} {Z : List Rx} (h : Wr w t g Z) (hb : Below k w w') (hg : g < k) : w'.heap[g]? = some (.cells (cer Z).toArray t (0, 0)) := (hb.block g hg).trans h.1
theorem heap_setRow10 {w : World} {g t : Nat} {old : Array Value} (h : w.heap[g]? = some (.cells old t (0, 0))) (cs : Array Value) : (w.setRow g cs).heap[g]? = some (.cells cs t (0, 0)) := by
  simp only [World.setRow, Array.getElem?_modify, if_pos, h]
  rfl
theorem Rd.past_row {w : World} {t g : Nat} {Z : List Rx} {A : Option Addr} {c : Nat} {K : List Int} (h : Rd w A c K) (hw : w.heap[g]? = some (.cells (cer Z).toArray t (0, 0))) (cs : Array Value) : Rd (w.setRow g cs) A c K := by
  refine ⟨h.1, h.2.1, h.2.2.1, ?_⟩
  rcases h.2.2.2 with hn | ⟨ad, ha, hc⟩
  · exact .inl hn
  · refine .inr ⟨ad, ha, fun i x hx => ?_⟩
    have h1 := hc i x hx
    obtain ⟨p, hp⟩ : ∃ p, ad.add i = p := ⟨_, rfl⟩
    rw [hp] at h1 ⊢
    have hne : ¬ g = p.block := by
      intro e
      obtain ⟨b, o, sp⟩ := p
      subst e
      cases sp with
      | none =>
        rw [cell_of_row w _ _ _ _ (0, 0) hw, List.getElem?_toArray] at h1
        exact cer_no Z _ (List.mem_of_getElem? h1) _ _ rfl
      | some s => simp [World.cell?, hw] at h1
    rw [World.cell?_of_block (w := w)]
    · exact h1
    · simp only [World.setRow, Array.getElem?_modify]
      rw [if_neg hne]
/-- What rows tells: the whole array, the first mm of it if there is no error. -/
def Rs10 (w w' : World) (mm : Nat) (T : List Rz × Int) (e : Ending) : Prop := ∃ Z, e = .returned (.tuple #[.agg (cer Z).toArray, .int .i64 T.2]) ∧ Z.length = 200 ∧ (∀ z ∈ Z, Rd w' z.A z.c z.K) ∧ (T.2 = 0 → (Z.map rz).take mm = T.1) ∧ Below w.heap.size w w'
theorem Rs10.mk {w w' : World} {mm : Nat} {T : List Rz × Int} {Z : List Rx} {e : Int} (h : T.2 = e) (h0 : e = 0 → (Z.map rz).take mm = T.1) (hl : Z.length = 200) (hr : ∀ z ∈ Z, Rd w' z.A z.c z.K) (hb : Below w.heap.size w w') : Rs10 w w' mm T (.returned (.tuple #[.agg (cer Z).toArray, .int .i64 e])) :=
  ⟨Z, by rw [h], hl, hr, fun h2 => h0 (by rw [← h]; exact h2), hb⟩
theorem rows_end10 (tm : Array Value) (w' : World) (r : Nat) (cs : Array Value) (e : Int) (h2 : tm[2]?.getD undef = .pointer (some ⟨r, 0, none⟩)) (h3 : tm[3]?.getD undef = .int .i64 e) (hw : w'.heap[r]? = some (.cells cs 94 (0, 0))) (hs : cs.size = 400) (R : Ending → World → Prop)
    (hR : R (.returned (.tuple #[.agg cs, .int .i64 e])) w') : bodyPost Tryz.prog Tryz.f30 R .ret { tmps := tm, defers := [] } w' := by
  refine bodyPost_ret (v := .tuple #[.agg cs, .int .i64 e]) ?_ rfl hR
  rw [results_cell_tmp Tryz.results30]
  have e2 : tm.getD 2 undef = .pointer (some ⟨r, 0, none⟩) := by simpa using h2
  have e3 : tm.getD 3 undef = .int .i64 e := by simpa using h3
  rw [e2, e3]
  simp only [asAddr, Sem.run_pure, Result.andThen, run_loadVar_row w' r _ 94 cs (0, 0) _ hw Tryz.underlying94 rfl (by rw [hs]; exact (zero_of_info Tryz.infoW10).2)]
end Go.Proofs.YtmgppdjbmhjmbaaGreat
