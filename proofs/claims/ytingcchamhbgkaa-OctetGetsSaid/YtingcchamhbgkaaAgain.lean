/-
  The walk of OctetAgain: what is got, put again, is those bytes; for every argument the call returns true; nothing that was there has changed.
-/
import Derived.Test.YtingcchamhbgkaaBack
import Derived.Test.YtingcchamhbgkaaReg
import Derived.Deep.DeepCutAuto
import Derived.Deep.RegionHeld3
import Derived.Deep.RegionWith
namespace Go.Proofs.Ytingcchamhbgkaa
open Go.RowKit

/-- A part cut out, as the walk meets it: its value, and that it reads as the part. -/
theorem slice_run (A : Option Addr) (c : Nat) (l : List Int) (a h : Nat) (h1 : a ≤ h) (h2 : h ≤ l.length) (hlc : l.length ≤ c) :
    ∃ A' c', (∀ wx : World, (Instr.slice 22 (.slice A l.length c) (some (.int .i64 (a : Int))) (some (.int .i64 (h : Int))) none).run Try.prog wx = .ok (.slice A' (h - a) c') wx) ∧
      ∀ w : World, Rd w A c l → Rd w A' c' ((l.drop a).take (h - a)) := by
  refine ⟨if c = a then A else A.map (·.add a), c - a, fun wx => ?_, fun w hr => hr.sub a h h1 h2⟩
  have := run_slice_lh (P := Try.prog) wx 22 A l.length c Try.underlying22 .i64 .i64 (a : Int) (h : Int) (by omega) (by omega) (by omega)
  simp at this
  have hsz : (sizeOf (Try.prog.elem 22)).run Try.prog wx = .ok 1 wx := by kernel_rfl
  rw [this, hsz]
  simp [Result.andThen, sliced]

theorem get_inv {l : List Int} {p W : Int} (hb : Byt l) (h : getE l p W = 0) : ∃ a k : Nat, p = a ∧ W = k ∧ 1 ≤ k ∧ k ≤ 8 ∧ a + k ≤ l.length ∧ getN l p W = a + k ∧ putE W (getV l p W) = 0 ∧ putL W (getV l p W) = (l.drop a).take k := by
  have hW : 1 ≤ W ∧ W ≤ 8 := by
    by_cases hW : W < 1 ∨ 8 < W
    · rw [get_bad hW] at h; simp at h
    · omega
  have hc : cutE l p W = 0 := by
    rw [get_eq hW] at h
    by_cases hc : cutE l p W = 0
    · exact hc
    · rw [if_neg hc] at h; exact absurd h hc
  have hp : 0 ≤ p ∧ p ≤ l.length ∧ W ≤ l.length - p := by
    by_cases h1 : p < 0 ∨ l.length < p
    · rw [(cut_arg h1).1] at hc; simp at hc
    · by_cases h2 : l.length - p < W
      · rw [(cut_short (by omega) (by omega) h2).1] at hc; simp at hc
      · omega
  obtain ⟨a, rfl⟩ : ∃ a : Nat, p = a := ⟨p.toNat, by omega⟩
  obtain ⟨k, rfl⟩ : ∃ k : Nat, W = k := ⟨W.toNat, by omega⟩
  have hL : cutL l a k = (l.drop a).take k := by rw [cutL, if_pos hc, Int.toNat_natCast, Int.toNat_natCast]
  have hlen : (cutL l a k).length = k := by rw [hL]; simp; omega
  have hbc := byt_cut hb a k
  have hV : getV l a k = num (cutL l a k) := by rw [getV, if_pos h]
  have h0 := num_nonneg hbc
  have hlt := num_lt hbc
  rw [hlen] at hlt
  obtain ⟨e1, e2⟩ := put_yes (n := getV l a k) (k := k) (by omega) (by omega) (by rw [hV]; exact h0) (by rw [hV]; exact hlt)
  refine ⟨a, k, rfl, rfl, by omega, by omega, by omega, by rw [getN, if_pos h], e1, ?_⟩
  have := digs_num hbc
  rw [hlen] at this
  rw [e2, hV, this, hL]

theorem cutE_inv {l : List Int} {p W : Int} (h : cutE l p W = 0) : 0 ≤ p ∧ p ≤ l.length ∧ W ≤ l.length - p := by
  by_cases h1 : p < 0 ∨ l.length < p
  · rw [(cut_arg h1).1] at h; simp at h
  · by_cases h2 : l.length - p < W
    · rw [(cut_short (by omega) (by omega) h2).1] at h; simp at h
    · omega
theorem sig_inv {l : List Int} {p : Int} (hb : Byt l) (h : cutE l p 8 = 0) : ∃ a : Nat, p = a ∧ a + 8 ≤ l.length ∧ cutN l p 8 = a + 8 ∧ digs (sigV l p) 8 = (l.drop a).take 8 := by
  have hp := cutE_inv h
  obtain ⟨a, rfl⟩ : ∃ a : Nat, p = a := ⟨p.toNat, by omega⟩
  have hL : cutL l a 8 = (l.drop a).take 8 := by rw [cutL, if_pos h, Int.toNat_natCast]; rfl
  have hlen : (cutL l a 8).length = 8 := by rw [hL]; simp; omega
  refine ⟨a, rfl, by omega, by rw [cutN, if_pos h], ?_⟩
  have hd := digs_num (byt_cut hb a 8)
  rw [hlen] at hd
  rw [← hL, sigV]
  refine Eq.trans (digs_congr ?_) hd
  rw [p256_8]
  unfold wrap64
  omega

theorem row_inv {l : List Int} {p : Int} (hb : Byt l) (h : grE l p = 0) :
    ∃ a m : Nat, p = a ∧ a + (2 + m) ≤ l.length ∧ (grL l p).length = m ∧ m ≤ 65535 ∧ grN l p = a + 2 + m ∧ rowL (grL l p) = (l.drop a).take (2 + m) := by
  have hg : getE l p 2 = 0 := by
    by_cases hg : getE l p 2 = 0
    · exact hg
    · rw [grE, if_neg hg] at h; exact absurd h hg
  have hc : cutE l (p + 2) (getV l p 2) = 0 := by rw [grE, if_pos hg] at h; exact h
  have hv2 := getV_2 hb p
  have hv0 : 0 ≤ getV l p 2 := by rw [getV, if_pos hg]; exact num_nonneg (byt_cut hb _ _)
  obtain ⟨a, k, rfl, hk, _, _, hak, _, _, hPL⟩ := get_inv hb hg
  obtain rfl : k = 2 := by omega
  obtain ⟨m, hm⟩ : ∃ m : Nat, getV l a 2 = m := ⟨(getV l a 2).toNat, by omega⟩
  have hi := cutE_inv hc
  rw [hm] at hi hc hv2
  have hL : grL l a = (l.drop (a + 2)).take m := by
    rw [grL, if_pos h, hm, cutL, if_pos hc, Int.toNat_natCast]
    congr 2
  have hlen : (grL l a).length = m := by rw [hL]; simp; omega
  refine ⟨a, m, rfl, by omega, hlen, by omega, by rw [grN, if_pos h, hm], ?_⟩
  have hd : digs m 2 = (l.drop a).take 2 := by
    have h2 := hPL
    rw [hm, putL, if_pos (by unfold putE; rw [if_neg (by omega)]; rw [show (2 : Int).toNat = 2 from rfl, p256_2, if_neg (by omega)])] at h2
    exact h2
  rw [rowL, if_neg (by omega), hlen, hd, hL, List.take_add, List.drop_drop]

set_option linter.unusedSimpArgs false
set_option maxHeartbeats 2000000 in
set_option maxRecDepth 100000 in
theorem again_walk (A : Option Addr) (c : Nat) (l : List Int) (p W : Int) (w : World) (hr : Rd w A c l) :
    Calls Try.prog 6 #[.slice A l.length c, .int .i64 p, .int .i64 W] w fun e w' => e = .returned (.bool true) ∧ Below w.heap.size w w' := by
  have hlen := hr.len
  have hlc := hr.le
  have hcap := hr.cap
  by_cases hl : 2000 < l.length
  · go_enter Try.func6, Try.ntmps6
    go_wp2_with (go_at_call 22; refine (awake_any _).mono ?_; rintro e w1 ⟨rfl, hb1⟩)
    go_ret
    exact ⟨rfl, by assumption⟩
  go_enter Try.func6, Try.ntmps6
  go_wp2_with fail
  refine (awake_any _).mono ?_
  rintro e w1 ⟨rfl, hb1⟩
  have HB1 := Lib.hid hb1
  clear hb1
  go_wp2_with fail
  refine (get_m A _ c l p W _ (hr.keep HB1.out) rfl).mono ?_
  rintro e w2 ⟨rfl, hb2⟩
  have HB := Lib.hid (HB1.out.trans (hb2.mono HB1.out.size))
  clear hb2 HB1
  go_upto_if 30 with (fail)
  go_cut [6, 7, 8, 9] (fun s6 _ _ _ wx => s6 = .bool false ∧ Hid (Below w.heap.size w wx))
  case first =>
    by_cases hE : getE l p W = 0
    · obtain ⟨a, k, rfl, rfl, hk1, hk8, hak, hN, hPE, hPL⟩ := get_inv hr.byt hE
      obtain ⟨A', c', hsl, hrs⟩ := slice_run A c l a (a + k) (by omega) hak hlc
      have hsub : a + k - a = k := by omega
      rw [hsub] at hsl hrs
      rw [hE, hN]
      have PE := Lib.hid hPE
      have PL := Lib.hid hPL
      have HRS := Lib.hid hrs
      clear hE hN hPE hPL hsub hrs
      go_wp2_with fail
      refine (put_any k _ _).mono ?_
      rintro e w3 ⟨A3, c3, rfl, ho3, hb3⟩
      rw [PE.out, PL.out]
      rw [PL.out] at ho3
      have hr3 := own_rd ho3 (byt_take (byt_drop hr.byt _) _)
      have HB3 := Lib.hid (HB.out.trans (hb3.mono HB.out.size))
      have hlp : ((l.drop a).take k).length = k := by simp; omega
      have hcv1 : ∀ q, (convert 22 9 (.slice A3 ((l.drop a).take k).length c3)).run Try.prog (w3.drewN q) = .ok (.string (strOfNums ((l.drop a).take k))) (w3.drewN q) := fun q => rd_string (P := Try.prog) (Rd.drewN hr3 q) 22 9 5 Try.underlying22 Try.underlying5 Try.underlying9
      have hcv2 : ∀ q, (convert 22 9 (.slice A' ((l.drop a).take k).length c')).run Try.prog (w3.drewN q) = .ok (.string (strOfNums ((l.drop a).take k))) (w3.drewN q) := fun q => rd_string (P := Try.prog) (Rd.drewN (HRS.out _ (hr.keep HB3.out)) q) 22 9 5 Try.underlying22 Try.underlying5 Try.underlying9
      rw [hlp] at hcv1 hcv2
      rw [hlp]
      clear hlp ho3 hb3 hr3 HB
      have d1 : decide (l.length < a) = false := by simp; omega
      have d2 : decide ((l.length : Int) < (a : Int) + (k : Int)) = false := by simp; omega
      have e5 : ((a + k : Nat) : Int) = (a : Int) + (k : Int) := by omega
      rw [e5] at hsl
      clear e5
      go_wp2_with fail
      have s1 : IntKind.i64.wrap ((a : Int) + (k : Int)) = (a : Int) + (k : Int) := IntWalk.i64_in _ (by omega)
      go_quiet (fail)
      clear s1
      go_wp2_with fail
      go_meet
      exact ⟨rfl, below_draws HB3.out _⟩
    · have e2 : getV l p W = 0 := by rw [getV, if_neg hE]
      have e3 : getN l p W = 0 := by rw [getN, if_neg hE]
      rw [e2, e3]
      have h1 : (getE l p W == 0) = false := by simpa using hE
      clear e2 e3 hE
      go_wp2_with fail
      go_meet
      exact ⟨rfl, HB⟩
  case rest =>
    obtain ⟨rfl, HB⟩ := hcut
    go_wp2_with fail
    refine (sig_m A _ c l p _ (hr.keep HB.out) rfl).mono ?_
    rintro e w4 ⟨rfl, hb4⟩
    have HB4 := Lib.hid (HB.out.trans (hb4.mono HB.out.size))
    clear hb4 HB
    go_wp2_with fail
    go_cut [119, 12, 8, 9, 6] (fun s119 _ _ _ s6 wx => s119 = .bool false ∧ s6 = .bool false ∧ Hid (Below w.heap.size w wx))
    case first =>
      by_cases hE : cutE l p 8 = 0
      · obtain ⟨a, rfl, hak, hN, hS⟩ := sig_inv hr.byt hE
        obtain ⟨A', c', hsl, hrs⟩ := slice_run A c l a (a + 8) (by omega) hak hlc
        have hsub : a + 8 - a = 8 := by omega
        rw [hsub] at hsl hrs
        rw [hE, hN]
        have HS := Lib.hid hS
        have d1 : decide (l.length < a) = false := by simp; omega
        have d2 : decide ((l.length : Int) < (a : Int) + 8) = false := by simp; omega
        have e5 : ((a + 8 : Nat) : Int) = (a : Int) + 8 := by omega
        rw [e5] at hsl
        have HRS := Lib.hid hrs
        have hlp : ((l.drop a).take 8).length = 8 := by simp; omega
        have hK : ∀ W : World, Below w.heap.size w W → (convert 22 9 (.slice A' 8 c')).run Try.prog W = .ok (.string (strOfNums ((l.drop a).take 8))) W := by
          intro W hW
          have := rd_string (P := Try.prog) (HRS.out _ (hr.keep hW)) 22 9 5 Try.underlying22 Try.underlying5 Try.underlying9
          rw [hlp] at this
          exact this
        have hF : ∀ (W : World) (A5 : Option Addr) (n5 c5 : Nat) (B5 : Nat), W.ownsRow B5 5 1 (.slice A5 8 c5) 8 (cel (digs (sigV l a) 8)) → (convert 22 9 (.slice A5 8 c5)).run Try.prog W = .ok (.string (strOfNums ((l.drop a).take 8))) W := by
          intro W A5 n5 c5 B5 hW
          have h5 := own_rd hW (byt_digs _ _)
          rw [HS.out] at h5
          have := rd_string (P := Try.prog) h5 22 9 5 Try.underlying22 Try.underlying5 Try.underlying9
          rw [hlp] at this
          exact this
        have HK := Lib.hid hK
        have HF := Lib.hid hF
        clear e5 hrs hE hN hS hsub hK hF hlp
        have s1 : IntKind.i64.wrap ((a : Int) + 8) = (a : Int) + 8 := IntWalk.i64_in _ (by omega)
        refine wp_region_held_drew (S := fun w' => (convert 22 9 (.slice A' 8 c')).run Try.prog w' = .ok (.string (strOfNums ((l.drop a).take 8))) w') (by kernel_rfl) (HK.out _ HB4.out.drew) (fun hHeld => ?_)
        refine wpAnyH_take (i := 0) (v := ?_) rfl (by kernel_rfl) (by kernel_rfl) (by kernel_rfl) (fun _ _ _ h => h) (Or.inl ⟨by rfl, ?_⟩) (by assumption) ?_
        rotate_left 1
        · intro w hSw; (try dsimp only at hSw); (try obtain ⟨hSw, hSx⟩ := hSw); go_simp; try with_reducible rfl
        try simp only [Act.put, List.getElem_toArray, List.getElem_cons_zero, List.getElem_cons_succ, List.setIfInBounds_toArray, List.set_cons_zero, List.set_cons_succ]
        refine wpAnyH_take (i := 1) (v := ?_) rfl (by kernel_rfl) (by kernel_rfl) (by kernel_rfl) (fun _ _ _ h => h) (Or.inl ⟨by rfl, ?_⟩) (by assumption) ?_
        rotate_left 1
        · intro w hSw; (try dsimp only at hSw); (try obtain ⟨hSw, hSx⟩ := hSw); go_simp; try with_reducible rfl
        try simp only [Act.put, List.getElem_toArray, List.getElem_cons_zero, List.getElem_cons_succ, List.setIfInBounds_toArray, List.set_cons_zero, List.set_cons_succ]
        refine wpAnyH_take (i := 2) (v := ?_) rfl (by kernel_rfl) (by kernel_rfl) (by kernel_rfl) (fun _ _ _ h => h) (Or.inl ⟨by rfl, ?_⟩) (by assumption) ?_
        rotate_left 1
        · intro w hSw; (try dsimp only at hSw); (try obtain ⟨hSw, hSx⟩ := hSw); go_simp; try with_reducible rfl
        try simp only [Act.put, List.getElem_toArray, List.getElem_cons_zero, List.getElem_cons_succ, List.setIfInBounds_toArray, List.set_cons_zero, List.set_cons_succ]
        refine wpAnyH_take (i := 3) (v := ?_) rfl (by kernel_rfl) (by kernel_rfl) (by kernel_rfl) (fun _ _ _ h => h) (Or.inl ⟨by rfl, ?_⟩) (by assumption) ?_
        rotate_left 1
        · intro w hSw; (try dsimp only at hSw); (try obtain ⟨hSw, hSx⟩ := hSw); go_simp; try with_reducible rfl
        try simp only [Act.put, List.getElem_toArray, List.getElem_cons_zero, List.getElem_cons_succ, List.setIfInBounds_toArray, List.set_cons_zero, List.set_cons_succ]
        refine wpAnyH_take (i := 4) (v := ?_) rfl (by kernel_rfl) (by kernel_rfl) (by kernel_rfl) (fun _ _ _ h => h) (Or.inl ⟨by rfl, ?_⟩) (by assumption) ?_
        rotate_left 1
        · intro w hSw; (try dsimp only at hSw); (try obtain ⟨hSw, hSx⟩ := hSw); go_simp; try with_reducible rfl
        try simp only [Act.put, List.getElem_toArray, List.getElem_cons_zero, List.getElem_cons_succ, List.setIfInBounds_toArray, List.set_cons_zero, List.set_cons_succ]
        refine wpAnyH_take (i := 5) (v := ?_) rfl (by kernel_rfl) (by kernel_rfl) (by kernel_rfl) (fun _ _ _ h => h) (Or.inl ⟨by rfl, ?_⟩) (by assumption) ?_
        rotate_left 1
        · intro w hSw; (try dsimp only at hSw); (try obtain ⟨hSw, hSx⟩ := hSw); go_simp; try with_reducible rfl
        try simp only [Act.put, List.getElem_toArray, List.getElem_cons_zero, List.getElem_cons_succ, List.setIfInBounds_toArray, List.set_cons_zero, List.set_cons_succ]
        refine wpAnyH_take (i := 6) (v := ?_) rfl (by kernel_rfl) (by kernel_rfl) (by kernel_rfl) (fun _ _ _ h => h) (Or.inl ⟨by rfl, ?_⟩) (by assumption) ?_
        rotate_left 1
        · intro w hSw; (try dsimp only at hSw); (try obtain ⟨hSw, hSx⟩ := hSw); go_simp; try with_reducible rfl
        try simp only [Act.put, List.getElem_toArray, List.getElem_cons_zero, List.getElem_cons_succ, List.setIfInBounds_toArray, List.set_cons_zero, List.set_cons_succ]
        refine wpAnyH_take (i := 7) (v := ?_) rfl (by kernel_rfl) (by kernel_rfl) (by kernel_rfl) (fun _ _ _ h => h) (Or.inl ⟨by rfl, ?_⟩) (by assumption) ?_
        rotate_left 1
        · intro w hSw; (try dsimp only at hSw); (try obtain ⟨hSw, hSx⟩ := hSw); go_simp; try with_reducible rfl
        try simp only [Act.put, List.getElem_toArray, List.getElem_cons_zero, List.getElem_cons_succ, List.setIfInBounds_toArray, List.set_cons_zero, List.set_cons_succ]
        refine wpAnyH_take (i := 8) (v := ?_) rfl (by kernel_rfl) (by kernel_rfl) (by kernel_rfl) (fun _ _ _ h => h) (Or.inl ⟨by rfl, ?_⟩) (by assumption) ?_
        rotate_left 1
        · intro w hSw; (try dsimp only at hSw); (try obtain ⟨hSw, hSx⟩ := hSw); go_simp; try with_reducible rfl
        try simp only [Act.put, List.getElem_toArray, List.getElem_cons_zero, List.getElem_cons_succ, List.setIfInBounds_toArray, List.set_cons_zero, List.set_cons_succ]
        refine wpAnyH_take (i := 9) (v := ?_) rfl (by kernel_rfl) (by kernel_rfl) (by kernel_rfl) (fun _ _ _ h => h) (Or.inl ⟨by rfl, ?_⟩) (by assumption) ?_
        rotate_left 1
        · intro w hSw; (try dsimp only at hSw); (try obtain ⟨hSw, hSx⟩ := hSw); go_simp; try with_reducible rfl
        try simp only [Act.put, List.getElem_toArray, List.getElem_cons_zero, List.getElem_cons_succ, List.setIfInBounds_toArray, List.set_cons_zero, List.set_cons_succ]
        refine wpAnyH_take (i := 10) (v := ?_) rfl (by kernel_rfl) (by kernel_rfl) (by kernel_rfl) (fun _ _ _ h => h) (Or.inl ⟨by rfl, ?_⟩) (by assumption) ?_
        rotate_left 1
        · intro w hSw; (try dsimp only at hSw); (try obtain ⟨hSw, hSx⟩ := hSw); go_simp; try with_reducible rfl
        try simp only [Act.put, List.getElem_toArray, List.getElem_cons_zero, List.getElem_cons_succ, List.setIfInBounds_toArray, List.set_cons_zero, List.set_cons_succ]
        refine wpAnyH_take (i := 11) (v := ?_) rfl (by kernel_rfl) (by kernel_rfl) (by kernel_rfl) (fun _ _ _ h => h) (Or.inl ⟨by rfl, ?_⟩) (by assumption) ?_
        rotate_left 1
        · intro w hSw; (try dsimp only at hSw); (try obtain ⟨hSw, hSx⟩ := hSw); go_simp; try with_reducible rfl
        try simp only [Act.put, List.getElem_toArray, List.getElem_cons_zero, List.getElem_cons_succ, List.setIfInBounds_toArray, List.set_cons_zero, List.set_cons_succ]
        refine wpAnyH_take (i := 12) (v := ?_) rfl (by kernel_rfl) (by kernel_rfl) (by kernel_rfl) (fun _ _ _ h => h) (Or.inl ⟨by rfl, ?_⟩) (by assumption) ?_
        rotate_left 1
        · intro w hSw; (try dsimp only at hSw); (try obtain ⟨hSw, hSx⟩ := hSw); go_simp; try with_reducible rfl
        try simp only [Act.put, List.getElem_toArray, List.getElem_cons_zero, List.getElem_cons_succ, List.setIfInBounds_toArray, List.set_cons_zero, List.set_cons_succ]
        refine wpAnyH_take (i := 13) (v := ?_) rfl (by kernel_rfl) (by kernel_rfl) (by kernel_rfl) (fun _ _ _ h => h) (Or.inl ⟨by rfl, ?_⟩) (by assumption) ?_
        rotate_left 1
        · intro w hSw; (try dsimp only at hSw); (try obtain ⟨hSw, hSx⟩ := hSw); go_simp; try with_reducible rfl
        try simp only [Act.put, List.getElem_toArray, List.getElem_cons_zero, List.getElem_cons_succ, List.setIfInBounds_toArray, List.set_cons_zero, List.set_cons_succ]
        refine wpAnyH_take (i := 14) (v := ?_) rfl (by kernel_rfl) (by kernel_rfl) (by kernel_rfl) (fun _ _ _ h => h) (Or.inl ⟨by rfl, ?_⟩) (by assumption) ?_
        rotate_left 1
        · intro w hSw; (try dsimp only at hSw); (try obtain ⟨hSw, hSx⟩ := hSw); go_simp; try with_reducible rfl
        try simp only [Act.put, List.getElem_toArray, List.getElem_cons_zero, List.getElem_cons_succ, List.setIfInBounds_toArray, List.set_cons_zero, List.set_cons_succ]
        refine wpAnyH_take (i := 15) (v := ?_) rfl (by kernel_rfl) (by kernel_rfl) (by kernel_rfl) (fun _ _ _ h => h) (Or.inl ⟨by rfl, ?_⟩) (by assumption) ?_
        rotate_left 1
        · intro w hSw; (try dsimp only at hSw); (try obtain ⟨hSw, hSx⟩ := hSw); go_simp; try with_reducible rfl
        try simp only [Act.put, List.getElem_toArray, List.getElem_cons_zero, List.getElem_cons_succ, List.setIfInBounds_toArray, List.set_cons_zero, List.set_cons_succ]
        refine wpAnyH_take (i := 16) (v := ?_) rfl (by kernel_rfl) (by kernel_rfl) (by kernel_rfl) (fun _ _ _ h => h) (Or.inl ⟨by rfl, ?_⟩) (by assumption) ?_
        rotate_left 1
        · intro w hSw; (try dsimp only at hSw); (try obtain ⟨hSw, hSx⟩ := hSw); go_simp; try with_reducible rfl
        try simp only [Act.put, List.getElem_toArray, List.getElem_cons_zero, List.getElem_cons_succ, List.setIfInBounds_toArray, List.set_cons_zero, List.set_cons_succ]
        refine wpAnyH_take (i := 17) (v := ?_) rfl (by kernel_rfl) (by kernel_rfl) (by kernel_rfl) (fun _ _ _ h => h) (Or.inl ⟨by rfl, ?_⟩) (by assumption) ?_
        rotate_left 1
        · intro w hSw; (try dsimp only at hSw); (try obtain ⟨hSw, hSx⟩ := hSw); go_simp; try with_reducible rfl
        try simp only [Act.put, List.getElem_toArray, List.getElem_cons_zero, List.getElem_cons_succ, List.setIfInBounds_toArray, List.set_cons_zero, List.set_cons_succ]
        refine wpAnyH_take (i := 18) (v := ?_) rfl (by kernel_rfl) (by kernel_rfl) (by kernel_rfl) (fun _ _ _ h => h) (Or.inl ⟨by rfl, ?_⟩) (by assumption) ?_
        rotate_left 1
        · intro w hSw; (try dsimp only at hSw); (try obtain ⟨hSw, hSx⟩ := hSw); go_simp; try with_reducible rfl
        try simp only [Act.put, List.getElem_toArray, List.getElem_cons_zero, List.getElem_cons_succ, List.setIfInBounds_toArray, List.set_cons_zero, List.set_cons_succ]
        refine wpAnyH_take (i := 19) (v := ?_) rfl (by kernel_rfl) (by kernel_rfl) (by kernel_rfl) (fun _ _ _ h => h) (Or.inl ⟨by rfl, ?_⟩) (by assumption) ?_
        rotate_left 1
        · intro w hSw; (try dsimp only at hSw); (try obtain ⟨hSw, hSx⟩ := hSw); go_simp; try with_reducible rfl
        try simp only [Act.put, List.getElem_toArray, List.getElem_cons_zero, List.getElem_cons_succ, List.setIfInBounds_toArray, List.set_cons_zero, List.set_cons_succ]
        refine wpAnyH_take (i := 20) (v := ?_) rfl (by kernel_rfl) (by kernel_rfl) (by kernel_rfl) (fun _ _ _ h => h) (Or.inl ⟨by rfl, ?_⟩) (by assumption) ?_
        rotate_left 1
        · intro w hSw; (try dsimp only at hSw); (try obtain ⟨hSw, hSx⟩ := hSw); go_simp; try with_reducible rfl
        try simp only [Act.put, List.getElem_toArray, List.getElem_cons_zero, List.getElem_cons_succ, List.setIfInBounds_toArray, List.set_cons_zero, List.set_cons_succ]
        refine wpAnyH_take (i := 21) (v := ?_) rfl (by kernel_rfl) (by kernel_rfl) (by kernel_rfl) (fun _ _ _ h => h) (Or.inl ⟨by rfl, ?_⟩) (by assumption) ?_
        rotate_left 1
        · intro w hSw; (try dsimp only at hSw); (try obtain ⟨hSw, hSx⟩ := hSw); go_simp; try with_reducible rfl
        try simp only [Act.put, List.getElem_toArray, List.getElem_cons_zero, List.getElem_cons_succ, List.setIfInBounds_toArray, List.set_cons_zero, List.set_cons_succ]
        refine wpAnyH_take (i := 22) (v := ?_) rfl (by kernel_rfl) (by kernel_rfl) (by kernel_rfl) (fun _ _ _ h => h) (Or.inl ⟨by rfl, ?_⟩) (by assumption) ?_
        rotate_left 1
        · intro w hSw; (try dsimp only at hSw); (try obtain ⟨hSw, hSx⟩ := hSw); go_simp; try with_reducible rfl
        try simp only [Act.put, List.getElem_toArray, List.getElem_cons_zero, List.getElem_cons_succ, List.setIfInBounds_toArray, List.set_cons_zero, List.set_cons_succ]
        refine wpAnyH_take (i := 23) (v := ?_) rfl (by kernel_rfl) (by kernel_rfl) (by kernel_rfl) (fun _ _ _ h => h) (Or.inl ⟨by rfl, ?_⟩) (by assumption) ?_
        rotate_left 1
        · intro w hSw; (try dsimp only at hSw); (try obtain ⟨hSw, hSx⟩ := hSw); go_simp; try with_reducible rfl
        try simp only [Act.put, List.getElem_toArray, List.getElem_cons_zero, List.getElem_cons_succ, List.setIfInBounds_toArray, List.set_cons_zero, List.set_cons_succ]
        refine wpAnyH_take (i := 24) (v := ?_) rfl (by kernel_rfl) (by kernel_rfl) (by kernel_rfl) (fun _ _ _ h => h) (Or.inl ⟨by rfl, ?_⟩) (by assumption) ?_
        rotate_left 1
        · intro w hSw; (try dsimp only at hSw); (try obtain ⟨hSw, hSx⟩ := hSw); go_simp; try with_reducible rfl
        try simp only [Act.put, List.getElem_toArray, List.getElem_cons_zero, List.getElem_cons_succ, List.setIfInBounds_toArray, List.set_cons_zero, List.set_cons_succ]
        refine wpAnyH_take (i := 27) (v := ?_) rfl (by kernel_rfl) (by kernel_rfl) (by kernel_rfl) (fun _ _ _ h => h) (Or.inl ⟨by rfl, ?_⟩) (by assumption) ?_
        rotate_left 1
        · intro w hSw; (try dsimp only at hSw); (try obtain ⟨hSw, hSx⟩ := hSw); go_simp; try with_reducible rfl
        try simp only [Act.put, List.getElem_toArray, List.getElem_cons_zero, List.getElem_cons_succ, List.setIfInBounds_toArray, List.set_cons_zero, List.set_cons_succ]
        refine wpAnyH_take (i := 28) (v := ?_) rfl (by kernel_rfl) (by kernel_rfl) (by kernel_rfl) (fun _ _ _ h => h) (Or.inl ⟨by rfl, ?_⟩) (by assumption) ?_
        rotate_left 1
        · intro w hSw; (try dsimp only at hSw); (try obtain ⟨hSw, hSx⟩ := hSw); go_simp; try with_reducible rfl
        try simp only [Act.put, List.getElem_toArray, List.getElem_cons_zero, List.getElem_cons_succ, List.setIfInBounds_toArray, List.set_cons_zero, List.set_cons_succ]
        refine wpAnyH_take (i := 29) (v := ?_) rfl (by kernel_rfl) (by kernel_rfl) (by kernel_rfl) (fun _ _ _ h => h) (Or.inl ⟨by rfl, ?_⟩) (by assumption) ?_
        rotate_left 1
        · intro w hSw; (try dsimp only at hSw); (try obtain ⟨hSw, hSx⟩ := hSw); go_simp; try with_reducible rfl
        try simp only [Act.put, List.getElem_toArray, List.getElem_cons_zero, List.getElem_cons_succ, List.setIfInBounds_toArray, List.set_cons_zero, List.set_cons_succ]
        refine wpAnyH_take (i := 30) (v := ?_) rfl (by kernel_rfl) (by kernel_rfl) (by kernel_rfl) (fun _ _ _ h => h) (Or.inl ⟨by rfl, ?_⟩) (by assumption) ?_
        rotate_left 1
        · intro w hSw; (try dsimp only at hSw); (try obtain ⟨hSw, hSx⟩ := hSw); go_simp; try with_reducible rfl
        try simp only [Act.put, List.getElem_toArray, List.getElem_cons_zero, List.getElem_cons_succ, List.setIfInBounds_toArray, List.set_cons_zero, List.set_cons_succ]
        refine wpAnyH_take (i := 31) (v := ?_) rfl (by kernel_rfl) (by kernel_rfl) (by kernel_rfl) (fun _ _ _ h => h) (Or.inl ⟨by rfl, ?_⟩) (by assumption) ?_
        rotate_left 1
        · intro w hSw; (try dsimp only at hSw); (try obtain ⟨hSw, hSx⟩ := hSw); go_simp; try with_reducible rfl
        try simp only [Act.put, List.getElem_toArray, List.getElem_cons_zero, List.getElem_cons_succ, List.setIfInBounds_toArray, List.set_cons_zero, List.set_cons_succ]
        refine wpAnyH_ready (rs := [25]) (by kernel_rfl) (by simp) ?_
        refine AllReadyH.cons rfl (fun K hK => ?_) AllReadyH.nil
        go_simp
        refine (signed_any _ _).mono ?_
        rintro e w5 ⟨rfl, ho5, hb5⟩
        have HB5 := Lib.hid (HB4.out.drew.trans (hb5.mono HB4.out.drew.size))
        have hcv5 : (convert 22 9 (.slice (some ⟨w4.heap.size, 0, none⟩) 8 8)).run Try.prog w5 = .ok (.string (strOfNums ((l.drop a).take 8))) w5 := HF.out _ _ 0 _ _ ho5
        have HC5 := Lib.hid hcv5
        clear ho5 hb5 hcv5
        go_wp2_with fail
        refine hK.out _ _ (HK.out _ HB5.out) (fun hHeld5 => ?_)
        refine wpAnyH_swap (S' := fun w' => (convert 22 9 (.slice A' 8 c')).run Try.prog w' = .ok (.string (strOfNums ((l.drop a).take 8))) w' ∧ (convert 22 9 (.slice (some ⟨w4.heap.size, 0, none⟩) 8 8)).run Try.prog w' = .ok (.string (strOfNums ((l.drop a).take 8))) w') (fun _ h => h.1) _ _ _ _ ?_
        have hS5 : (convert 22 9 (.slice A' 8 c')).run Try.prog w5 = .ok (.string (strOfNums ((l.drop a).take 8))) w5 ∧ (convert 22 9 (.slice (some ⟨w4.heap.size, 0, none⟩) 8 8)).run Try.prog w5 = .ok (.string (strOfNums ((l.drop a).take 8))) w5 := ⟨hHeld5, HC5.out⟩
        refine wpAnyH_take (i := 26) (v := ?_) rfl (by kernel_rfl) (by kernel_rfl) (by kernel_rfl) (fun _ _ _ h => h) (Or.inl ⟨by rfl, ?_⟩) (by assumption) ?_
        rotate_left 1
        · intro w hSw; (try dsimp only at hSw); (try obtain ⟨hSw, hSx⟩ := hSw); go_simp; try with_reducible rfl
        try simp only [Act.put, List.getElem_toArray, List.getElem_cons_zero, List.getElem_cons_succ, List.setIfInBounds_toArray, List.set_cons_zero, List.set_cons_succ]
        refine wpAnyH_take (i := 32) (v := ?_) rfl (by kernel_rfl) (by kernel_rfl) (by kernel_rfl) (fun _ _ _ h => h) (Or.inl ⟨by rfl, ?_⟩) (by assumption) ?_
        rotate_left 1
        · intro w hSw; (try dsimp only at hSw); (try obtain ⟨hSw, hSx⟩ := hSw); go_simp; try with_reducible rfl
        try simp only [Act.put, List.getElem_toArray, List.getElem_cons_zero, List.getElem_cons_succ, List.setIfInBounds_toArray, List.set_cons_zero, List.set_cons_succ]
        refine wpAnyH_take (i := 33) (v := ?_) rfl (by kernel_rfl) (by kernel_rfl) (by kernel_rfl) (fun _ _ _ h => h) (Or.inl ⟨by rfl, ?_⟩) (by assumption) ?_
        rotate_left 1
        · intro w hSw; (try dsimp only at hSw); (try obtain ⟨hSw, hSx⟩ := hSw); go_simp; try with_reducible rfl
        try simp only [Act.put, List.getElem_toArray, List.getElem_cons_zero, List.getElem_cons_succ, List.setIfInBounds_toArray, List.set_cons_zero, List.set_cons_succ]
        refine wpAnyH_take (i := 34) (v := ?_) rfl (by kernel_rfl) (by kernel_rfl) (by kernel_rfl) (fun _ _ _ h => h) (Or.inl ⟨by rfl, ?_⟩) (by assumption) ?_
        rotate_left 1
        · intro w hSw; (try dsimp only at hSw); (try obtain ⟨hSw, hSx⟩ := hSw); go_simp; try with_reducible rfl
        try simp only [Act.put, List.getElem_toArray, List.getElem_cons_zero, List.getElem_cons_succ, List.setIfInBounds_toArray, List.set_cons_zero, List.set_cons_succ]
        refine wpAnyH_done (by kernel_rfl) ?_ _
        clear hS5 hHeld5 hHeld s1
        go_wp2_with fail
        go_meet
        exact ⟨rfl, rfl, HB5⟩
      · have h1 : (cutE l p 8 == 0) = false := by simpa using hE
        clear hE
        go_quiet (fail)
        go_wp2_with fail
        go_meet
        exact ⟨rfl, rfl, below_draws HB4.out _⟩
    case rest =>
      obtain ⟨rfl, rfl, HB⟩ := hcut
      go_wp2_with fail
      refine (getrow_m A _ c l p _ (hr.keep HB.out) rfl).mono ?_
      rintro e w6 ⟨A6, c6, rfl, ho6, hb6⟩
      have HB6 := Lib.hid (HB.out.trans (hb6.mono HB.out.size))
      by_cases hE : grE l p = 0
      · obtain ⟨a, m, rfl, ham, hm, hm2, hN, hL⟩ := row_inv hr.byt hE
        obtain ⟨A', c', hsl, hrs⟩ := slice_run A c l a (a + (2 + m)) (by omega) ham hlc
        have hsub : a + (2 + m) - a = 2 + m := by omega
        rw [hsub] at hsl hrs
        have hbg : Byt (grL l a) := by
          rw [grL, if_pos hE]
          exact byt_cut hr.byt _ _
        have hr6 := own_rd ho6 hbg
        have HR6 := Lib.hid hr6
        have HL := Lib.hid hL
        have HRS := Lib.hid hrs
        have hE2 : rowE (grL l a) = 0 := by simp [rowE]; omega
        have HE2 := Lib.hid hE2
        have hlp : ((l.drop a).take (2 + m)).length = 2 + m := by simp; omega
        have HLP := Lib.hid hlp
        have HM := Lib.hid hm
        rw [hE, hN, hm]
        clear ho6 hb6 hE hN hL hE2 hsub hrs hr6 HB hlp hm hbg
        go_wp2_with fail
        refine (row_m A6 _ c6 _ _ HR6.out HM.out).mono ?_
        rintro e w7 ⟨A7, c7, rfl, ho7, hb7⟩
        rw [HE2.out, HL.out, HLP.out]
        rw [HL.out, HLP.out] at ho7
        have HB7 := Lib.hid (HB6.out.trans (hb7.mono HB6.out.size))
        have hr7 := own_rd ho7 (byt_take (byt_drop hr.byt _) _)
        have hcv1 : ∀ q, (convert 22 9 (.slice A7 (2 + m) c7)).run Try.prog (w7.drewN q) = .ok (.string (strOfNums ((l.drop a).take (2 + m)))) (w7.drewN q) := by
          intro q
          have := rd_string (P := Try.prog) (Rd.drewN hr7 q) 22 9 5 Try.underlying22 Try.underlying5 Try.underlying9
          rw [HLP.out] at this
          exact this
        have hcv2 : ∀ q, (convert 22 9 (.slice A' (2 + m) c')).run Try.prog (w7.drewN q) = .ok (.string (strOfNums ((l.drop a).take (2 + m)))) (w7.drewN q) := by
          intro q
          have := rd_string (P := Try.prog) (Rd.drewN (HRS.out _ (hr.keep HB7.out)) q) 22 9 5 Try.underlying22 Try.underlying5 Try.underlying9
          rw [HLP.out] at this
          exact this
        clear ho7 hb7 hr7 HB6 HR6
        go_wp2_with fail
        have d1 : decide (a ≤ l.length) = true := by simp; omega
        have d2 : decide ((a : Int) + 2 + (m : Int) ≤ (l.length : Int)) = true := by simp; omega
        have e5 : ((a + (2 + m) : Nat) : Int) = (a : Int) + 2 + (m : Int) := by omega
        rw [e5] at hsl
        have e6 : (((2 + m : Nat)) : Int) = 2 + (m : Int) := by omega
        clear e5
        have s1 : IntKind.i64.wrap ((a : Int) + (2 + (m : Int))) = (a : Int) + 2 + (m : Int) := by rw [IntWalk.i64_in _ (by omega)]; omega
        go_quiet (fail)
        clear s1 e6
        go_wp2_with fail
        go_ret
        exact ⟨rfl, below_draws HB7.out _⟩
      · have e1 : grL l p = [] := by rw [grL, if_neg hE]
        have e2 : grN l p = 0 := by rw [grN, if_neg hE]
        have h1 : (grE l p != 0) = true := by simpa using hE
        rw [e1, e2]
        clear hE e1 e2 ho6 hb6
        go_wp2_with fail
        go_ret
        exact ⟨rfl, HB6.out⟩
end Go.Proofs.Ytingcchamhbgkaa
