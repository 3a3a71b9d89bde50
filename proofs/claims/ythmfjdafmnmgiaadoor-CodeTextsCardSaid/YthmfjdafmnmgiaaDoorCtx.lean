/-
  Layer 5, package code: a Builder's writes; what line and Text answer, for every argument.
-/
import Derived.Test.YthmfjdafmnmgiaaDoorCst
namespace Go.Proofs.YthmfjdafmnmgiaaDoor
open Go.RowKit
set_option maxRecDepth 100000
set_option linter.unusedSimpArgs false
set_option linter.unusedVariables false

theorem bld_keep {T e B b : Nat} {bs : List Value} {w w' : World} (h : Lib.IsBuilder T e B b bs w) (hb : Below w.heap.size w w') : Lib.IsBuilder T e B b bs w' := by
  have key : ∀ p, Lib.BuilderAt T e B b p bs w → Lib.BuilderAt T e B b p bs w' := by
    rintro p ⟨hB, v, hc, ho, hne⟩
    have hlt : b < w.heap.size := (Array.getElem?_eq_some_iff.1 hc).1
    exact ⟨hB, v, (hb.block b hlt).trans hc, own_same ho hb, hne⟩
  exact h.elim (fun x => .inl (key _ x)) (fun x => .inr (key _ x))
theorem sizeBld : (Tryd.prog.info? 53).map (·.size) = some 2 := by kernel_rfl
theorem liesBld : liesAt Tryd.prog Tryd.prog.depth 53 (2 / Tryd.prog.cellsOf 53) 0 53 1 = true := by kernel_rfl
theorem bcheck_fresh (b : Nat) (w : World) (h0 : w.cell? ⟨b, 0, none⟩ = some (.pointer none)) (hsh : w.shape? b = some (53, 2)) (hfz : w.frozen? ⟨b, 0, none⟩ = false) :
    Calls Tryd.prog 40 #[.pointer (some ⟨b, 0, none⟩)] w fun e w' => e = .returned (.tuple #[]) ∧ w' = w.setCell ⟨b, 0, none⟩ (.pointer (some ⟨b, 0, none⟩)) := by
  obtain ⟨j, hj, hjs⟩ := Option.map_eq_some_iff.1 sizeBld
  go_enter Tryd.func40, Tryd.ntmps40
  go_wp2
  rw [Lib.run_to_unsafe w ⟨b, 0, none⟩ Tryd.underlying51 Tryd.underlying87 hj (by rw [hjs]; decide) hsh (Nat.zero_lt_succ 1)]
  simp only [Result.andThen]
  rw [Oper.upon_value]
  go_wp2
  rw [run_callFunc_extern Tryd.func56 (by kernel_rfl) (by kernel_rfl) (by kernel_rfl) (e := Extern.AbiNoEscape.same) (by kernel_rfl)]
  rw [Lib.run_noEscape]
  simp only [Result.andThen]
  rw [Oper.upon_value]
  go_wp2
  rw [Lib.run_from_unsafe w ⟨b, 0, none⟩ Tryd.underlying87 Tryd.underlying51 hj hsh liesBld]
  simp only [Result.andThen]
  rw [Oper.upon_value]
  go_wp2
  go_end0
  exact ⟨rfl, rfl⟩
theorem bcheck_used (b : Nat) (w : World) (h0 : w.cell? ⟨b, 0, none⟩ = some (.pointer (some ⟨b, 0, none⟩))) :
    Calls Tryd.prog 40 #[.pointer (some ⟨b, 0, none⟩)] w fun e w' => e = .returned (.tuple #[]) ∧ w' = w := by
  obtain ⟨j, hj, _⟩ := Option.map_eq_some_iff.1 sizeBld
  go_enter Tryd.func40, Tryd.ntmps40
  go_wp2
  rw [Lib.run_neq_ptr_same w _ Tryd.underlying51 hj]
  go_wp2
  go_end0
  exact ⟨rfl, rfl⟩
theorem bcheck (B b : Nat) (bs : List Value) (w : World) (h : Lib.IsBuilder 53 5 B b bs w) :
    Calls Tryd.prog 40 #[.pointer (some ⟨b, 0, none⟩)] w fun e w' => e = .returned (.tuple #[]) ∧ Lib.BuilderAt 53 5 B b (.pointer (some ⟨b, 0, none⟩)) bs w' ∧ Below B w w' := by
  rcases h with h | h
  · refine (bcheck_fresh b w h.cell0 h.shape h.frozen0).mono ?_
    rintro e w' ⟨rfl, rfl⟩
    exact ⟨rfl, h.used _, (Below.refl B w).setCell (p := ⟨b, 0, none⟩) h.1 _⟩
  · refine (bcheck_used b w h.cell0).mono ?_
    rintro e w' ⟨rfl, rfl⟩
    exact ⟨rfl, h, Below.refl B _⟩
set_option maxHeartbeats 2000000 in
theorem bwrite (B b : Nat) (bs : List Value) (s : ByteArray) (w : World) (h : Lib.IsBuilder 53 5 B b bs w) (hlen : bs.length + s.size ≤ 1000000) (hBw : B ≤ w.heap.size) :
    Calls Tryd.prog 23 #[.pointer (some ⟨b, 0, none⟩), .string s] w fun e w' => (∃ v, e = .returned v) ∧ Lib.IsBuilder 53 5 B b (bs ++ Lib.strCells s) w' ∧ Below B w w' := by
  have hinfo := Tryd.info5
  rw [Option.map_eq_some_iff] at hinfo
  obtain ⟨i0, hi, hz⟩ := hinfo
  simp only [Prod.mk.injEq] at hz
  obtain ⟨hz0, hz1, hz2⟩ := hz
  have HH := Lib.hid h
  clear h
  go_enter Tryd.func23, Tryd.ntmps23
  go_wp2_with fail
  refine (bcheck B b bs _ HH.out).mono ?_
  rintro e w1 ⟨rfl, h1, hb1⟩
  obtain ⟨hB, v, hbk, hown, hne⟩ := h1
  have c0 : w1.cell? ⟨b, 0, none⟩ = some (.pointer (some ⟨b, 0, none⟩)) := by rw [Lib.cell_of_heap hbk]; rfl
  have c1 : w1.cell? ⟨b, 1, none⟩ = some v := by rw [Lib.cell_of_heap hbk]; rfl
  have HBK := Lib.hid hbk
  have HOWN := Lib.hid hown
  have HNE := Lib.hid hne
  have HB1 := Lib.hid hb1
  clear hbk hown hne hb1
  go_wp2_with (at_builtin; refine Lib.wpList_append_own_string _ rfl _ _ 24 9 rfl B 5 i0 Tryd.underlying24 Tryd.underlying9 hi hz0 hz1 hz2 _ _ _ rfl HOWN.out s rfl (by unfold maxLen; omega) (by omega) (by have := HB1.out.size; omega) ?_)
  intro v' w2 hown' hgrow _
  have hlt : b < w1.heap.size := (Array.getElem?_eq_some_iff.1 HBK.out).1
  have hb2 : w2.heap[b]? = some (.cells #[.pointer (some ⟨b, 0, none⟩), v] 53 (0, 0)) := by
    rw [hgrow.block b hlt (fun e => HNE.out e.symm)]
    exact HBK.out
  have d0 : w2.cell? ⟨b, 0, none⟩ = some (.pointer (some ⟨b, 0, none⟩)) := by rw [Lib.cell_of_heap hb2]; rfl
  have d1 : w2.cell? ⟨b, 1, none⟩ = some v := by rw [Lib.cell_of_heap hb2]; rfl
  have f1 : w2.frozen? ⟨b, 1, none⟩ = false := Lib.frozen_of_heap hb2 1
  have HB2 := Lib.hid hb2
  obtain ⟨ao, c', rfl⟩ := own_form hown'
  have HOWN2 := Lib.hid hown'
  have HG := Lib.hid hgrow
  clear hb2 hown' hgrow c0 c1
  go_wp2_with fail
  go_ret2
  refine ⟨⟨_, rfl⟩, .inr ?_, ?_⟩
  · exact Lib.BuilderAt.put (T := 53) (e := 5) hB HB2.out (bs' := bs ++ Lib.strCells s) (by have := HOWN2.out; simpa [Lib.strCells_length] using this) (by decide)
  · exact (HB1.out.grown HG.out (by have := HB1.out.size; omega) (fun k hk => (HOWN.out.lt k hk).1)).setCell (p := ⟨b, 1, none⟩) hB _
/-- An instruction's line. -/
theorem cline_v (x : Ins) (hx : inM x = true) (h0 : 0 ≤ x.1) (s : ByteArray) (hs : strOfNums (lnT x) = s) (w : World) (hG : GN w) (hT : T10 w) : Calls Tryd.prog 24 #[.agg #[.int .u8 x.1, .int .i64 x.2.1, .int .i64 x.2.2]] w fun e w' => e = .returned (.string s) ∧ Below w.heap.size w w' := by
  obtain ⟨g1, g2, g3⟩ := opM_bd hx
  obtain ⟨o, a, b⟩ := x
  simp only at h0 g1 g2 g3
  have S0 := Lib.hid ((((Sx.start w).add fN10 ⟨hG, hT⟩).mk1 (.cells #[.int .u8 o, .int .i64 a, .int .i64 b] 47)).add (fI w.heap.size o a b) (In.new w o a b))
  have hsz := opS_size o
  have HS := Lib.hid hs
  clear hG hT hs hx
  go_enter Tryd.func24, Tryd.ntmps24
  go_wp2_with fail
  refine (name_any o _ h0 S0.out.2.2.1.1).mono ?_
  rintro e w1 ⟨rfl, rfl⟩
  obtain ⟨-, ⟨-, z0, z1, z2, -⟩, -⟩ := S0.out
  go_wp2_with fail
  refine (hasop_v _ _ _ rfl).mono ?_
  rintro e w3 ⟨rfl, rfl⟩
  cases hv : wdB o with
  | true =>
    obtain ⟨n, hn⟩ : ∃ n : Nat, a = n := ⟨a.toNat, by omega⟩
    have HN : Hid (s = opS o ++ (⟨#[32]⟩ ++ strOfNums (dgT n)) ++ ⟨#[10]⟩) := by
      rw [Hid, ← HS.out, lnT, hv, if_pos rfl, ← nmI_str, show (⟨#[32]⟩ : ByteArray) = strOfNums [32] from rfl, show (⟨#[10]⟩ : ByteArray) = strOfNums [10] from rfl, str_append, str_append, str_append]
      rw [show (o, a, b).2.1.toNat = n by simp [hn]]
      rfl
    have hk : n ≤ 9999 := by omega
    have hd : (strOfNums (dgT n)).size ≤ 4 := by rw [str_size]; exact (len_dgT _ hk).2
    obtain ⟨dg, hdg⟩ : ∃ dg, strOfNums (dgT n) = dg := ⟨_, rfl⟩
    have HI := fun w hT => Lib.hid (itoa_v n hk dg hdg w hT)
    rw [hdg] at HN hd
    clear hdg
    subst hn
    generalize opS o = nm at *
    go_wp2_with fail
    refine (HI _ S0.out.2.2.1.2).out.mono ?_
    rintro e w4 ⟨rfl, hb4⟩
    have S4 := Lib.hid (S0.out.call hb4)
    clear hb4 S0 z0 z1 z2
    go_wp2_with fail
    go_ret
    exact ⟨by rw [HN.out]; rfl, S4.out.1⟩
  | false =>
    have HN : Hid (s = opS o ++ ⟨#[10]⟩) := by
      rw [Hid, ← HS.out, lnT, hv, if_neg (by decide), ← nmI_str, show (⟨#[10]⟩ : ByteArray) = strOfNums [10] from rfl, str_append, List.append_nil]
    generalize opS o = nm at *
    go_wp2_with fail
    go_ret
    exact ⟨by rw [HN.out]; rfl, S0.out.1⟩
theorem len_lnT {x : Ins} (h : inM x = true) : (lnT x).length ≤ 11 := by
  obtain ⟨g1, g2, g3⟩ := opM_bd h
  have h1 : (nmI x.1).length ≤ 5 := by
    have := opS_size x.1
    rwa [← nmI_str, strOfNums_size] at this
  have h2 := (len_dgT x.2.1.toNat (by omega)).2
  rw [lnT, List.length_append, List.length_append]
  split
  · simp; omega
  · simp; omega
theorem bcells_app (S T : List Int) : Lib.byteCells (u8L S) ++ Lib.strCells (strOfNums T) = Lib.byteCells (u8L (S ++ T)) := by
  rw [u8L_app, Lib.byteCells_append]
  rfl
set_option maxHeartbeats 2000000 in
theorem ctext_t (A : Option Addr) (c m : Nat) (L : List Ins) (w : World) (hw : fN10.p w) (hr : Ri w A c L) (hm : L.length = m) (hc : codM L = true) : Calls Tryd.prog 10 #[.slice A m c] w fun e w' => e = .returned (.tuple #[.string (strOfNums (codT L)), .int .i64 0]) ∧ Below w.heap.size w w' := by
  subst hm
  have hc' := hc
  simp only [codM, Bool.and_eq_true, decide_eq_true_eq] at hc'
  obtain ⟨⟨hl1, hl2⟩, hall⟩ := hc'
  have HALL := Lib.hid (List.all_eq_true.1 hall)
  have HC := Lib.hid hc
  clear hc hall
  go_enter Tryd.func10, Tryd.ntmps10
  go_wp2_with fail
  refine (cmay_any A c _ L _ hr rfl).mono ?_
  rintro e w1 ⟨rfl, hb1⟩
  rw [HC.out]
  have S1 := Lib.hid ((((Sx.start w).add (fT A c L) hr).add fN10 hw).call hb1)
  clear hb1 hr hw
  have HI1 := Lib.hid (Lib.fresh_isBuilder 53 5 w1)
  have HB1 := Lib.hid (new1 (w := w1) (a := .cells #[.pointer none, .slice none 0 0] 53))
  go_wp2_with fail
  go_loopw [12] (fun i wr => ∃ j : Nat, j ≤ L.length ∧ i = .int .i64 j ∧ Hid (Lib.IsBuilder 53 5 w1.heap.size w1.heap.size (Lib.byteCells (u8L (codT (L.take j)))) wr) ∧ Hid ((codT (L.take j)).length ≤ 11 * j) ∧ Hid (Below w1.heap.size w1 wr)) (fun i _ => L.length - (intOf i).toNat)
  case atStart => exact ⟨0, by omega, rfl, HI1, Lib.hid (Nat.le_refl _), HB1⟩
  case round =>
    obtain ⟨j, hj, rfl, HI, HL, HB⟩ := hrel
    clear HI1 HB1
    have S2 := Lib.hid (S1.out.call HB.out)
    by_cases h1 : j < L.length
    · obtain ⟨ad, rfl, x0, x1, x2⟩ := S2.out.2.2.1.at_ h1
      have hok := S2.out.2.2.1.1 _ (List.getElem_mem h1)
      have hin := HALL.out _ (List.getElem_mem h1)
      have hlen := len_lnT hin
      have HT : Hid (codT (L.take (j + 1)) = codT (L.take j) ++ lnT L[j]) := Lib.hid (codT_succ h1)
      obtain ⟨s, hs⟩ : ∃ s, strOfNums (lnT L[j]) = s := ⟨_, rfl⟩
      have hss : s.size = (lnT L[j]).length := by rw [← hs, strOfNums_size]
      have KL := fun w hG hT => Lib.hid (cline_v L[j] hin hok.1.1 s hs w hG hT)
      have HS := Lib.hid hs
      have HLl := HL.out
      have S3 := Lib.hid (S2.out.mk1 (.cells #[.int .u8 L[j].1, .int .i64 L[j].2.1, .int .i64 L[j].2.2] 47))
      have HI3 := Lib.hid (bld_keep HI.out (new1 (a := .cells #[.int .u8 L[j].1, .int .i64 L[j].2.1, .int .i64 L[j].2.2] 47)))
      have HB3 := Lib.hid (HB.out.alloc HB.out.size (.cells #[.int .u8 L[j].1, .int .i64 L[j].2.1, .int .i64 L[j].2.2] 47))
      clear hs hok hin HI S2
      go_wp2_with fail
      refine (KL _ S3.out.2.1.1 S3.out.2.1.2).out.mono ?_
      rintro e w4 ⟨rfl, hb4⟩
      have HI4 := Lib.hid (bld_keep HI3.out hb4)
      have HB4 := Lib.hid (HB3.out.trans (hb4.mono HB3.out.size))
      clear hb4 HI3 HB3 S3 x0 x1 x2
      go_wp2_with fail
      refine (bwrite _ _ _ s _ HI4.out (by rw [Lib.byteCells_length, u8L, List.length_map]; omega) HB4.out.size).mono ?_
      rintro e w5 ⟨⟨v, rfl⟩, hi5, hb5⟩
      have HI5 : Hid (Lib.IsBuilder 53 5 w1.heap.size w1.heap.size (Lib.byteCells (u8L (codT (L.take (j + 1))))) w5) := by
        rw [Hid, HT.out, ← bcells_app, HS.out]
        exact hi5
      have HL5 : Hid ((codT (L.take (j + 1))).length ≤ 11 * (j + 1)) := by rw [Hid, HT.out, List.length_append]; omega
      have HB5 := Lib.hid (HB4.out.trans hb5)
      clear hi5 hb5 HI4 HB4 HLl HT
      go_wp2_with fail
      go_roundw
      case rel => exact ⟨j + 1, by omega, by go_num, HI5, HL5, HB5⟩
      case measure => simp [intOf]; omega
    · obtain rfl : j = L.length := by omega
      have hi6 := HI.out
      rw [List.take_length] at hi6
      have HI6 := Lib.hid hi6
      clear hi6 HI HL
      go_wp2_with fail
      refine (Tryd.Builder_String_any _ _ _ _ HI6.out HB.out.size).mono ?_
      rintro e w6 ⟨rfl, hb6⟩
      have HB6 := Lib.hid (S1.out.1.trans ((HB.out.trans hb6).mono S1.out.1.size))
      clear hb6
      obtain ⟨t, ht⟩ : ∃ t, (⟨(u8L (codT L)).toArray⟩ : ByteArray) = t := ⟨_, rfl⟩
      have HT := Lib.hid ht
      rw [ht]
      clear ht
      go_wp2_with fail
      go_ret2
      exact ⟨by rw [← str_u8L, HT.out]; rfl, HB6.out⟩
theorem ctext_f (A : Option Addr) (c m : Nat) (L : List Ins) (w : World) (hr : Ri w A c L) (hm : L.length = m) (hc : codM L = false) : Calls Tryd.prog 10 #[.slice A m c] w fun e w' => e = .returned (.tuple #[.string ⟨#[]⟩, .int .i64 40]) ∧ Below w.heap.size w w' := by
  subst hm
  have HC := Lib.hid hc
  clear hc
  go_enter Tryd.func10, Tryd.ntmps10
  go_wp2_with fail
  refine (cmay_any A c _ L _ hr rfl).mono ?_
  rintro e w1 ⟨rfl, hb1⟩
  rw [HC.out]
  have HB := Lib.hid hb1
  clear hb1
  go_wp2_with fail
  go_ret2
  exact ⟨rfl, HB.out⟩
theorem ktext : KText fN10 := fun A c m L w hw hr hm _ => by
  cases hc : codM L with
  | true =>
    refine (ctext_t A c m L w hw hr hm hc).mono ?_
    rintro e w1 ⟨rfl, hb⟩
    exact ⟨by rw [txL, cdE, hc]; rfl, hb⟩
  | false =>
    refine (ctext_f A c m L w hr hm hc).mono ?_
    rintro e w1 ⟨rfl, hb⟩
    exact ⟨by rw [txL, cdE, hc]; rfl, hb⟩
theorem ktext_all : KText fAll := fun A c m L w hw hr hm h => ktext A c m L w ⟨hw.1, hw.2.1⟩ hr hm h
end Go.Proofs.YthmfjdafmnmgiaaDoor
