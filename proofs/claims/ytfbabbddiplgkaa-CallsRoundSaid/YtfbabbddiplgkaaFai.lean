/-
  Layer 11: law CallsRound.
-/
import Derived.Test.YtfbabbddiplgkaaFah
namespace Go.Proofs.Ytfbabbddiplgkaa
open Go.RowKit
set_option maxRecDepth 100000
set_option linter.unusedSimpArgs false
set_option linter.unusedVariables false

set_option maxHeartbeats 16000000 in
theorem round11_walk (many : Int) (A1 : Option Addr) (n1 c1 : Nat) (R : List Int) (a b : Int) (tu : Bool) (w : World) (hr : Ru11 w A1 c1 R) (hn : R.length = n1) :
    Calls Try.prog 5 #[.int .i64 many, .slice A1 n1 c1, .int .i64 a, .int .i64 b, .bool tu] w fun r w' => r = .returned (.bool true) ∧ Below w.heap.size w w' := by
  have HAW := Lib.hid (awake11_v w)
  have HR := Lib.hid hr
  have HN := Lib.hid hn
  have hn9 : n1 ≤ 9223372036854775807 := by have := hr.2.1; have := hr.2.2.1; unfold maxLen at *; omega
  obtain ⟨q, hq, eq⟩ := umod11 many (m := 16) (by omega)
  have eq : (IntKind.u64.wrap many).tmod 16 = (q : Int) := eq
  have eqw : wrap64 (q : Int) = q := by unfold wrap64; omega
  obtain ⟨N, hNq⟩ : ∃ N, q + 1 = N := ⟨_, rfl⟩
  have hN : 0 < N ∧ N ≤ 16 := by omega
  have eN : (1 : Int) + q = (N : Int) := by omega
  obtain ⟨a0, ha0, ea⟩ := umod11 a (m := N) (by omega)
  obtain ⟨b1, hb1N, eb⟩ := umod11 b (m := N) (by omega)
  have eNw : IntKind.u64.wrap (N : Int) = (N : Int) := by rw [IntKind.wrap_u64]; omega
  have eN0 : ¬ N = 0 := by omega
  clear hr hn hNq
  go_enter Try.func5, Try.ntmps5
  go_wp2_with fail
  refine HAW.out.mono ?_
  rintro r w1 ⟨rfl, hb⟩
  have HB0 := Lib.hid hb
  obtain ⟨b0, hb0⟩ : ∃ b0, w1.heap.size = b0 := ⟨_, rfl⟩
  have HBW := Lib.hid hb0
  clear HAW hb hb0
  go_upto_region 4 with (fail)
  have ea2 : IntKind.i64.wrap (a0 : Int) = a0 := by simp [IntKind.wrap, IntKind.bits, IntKind.signed]; omega
  have eb2 : IntKind.i64.wrap (b1 : Int) = b1 := by simp [IntKind.wrap, IntKind.bits, IntKind.signed]; omega
  refine wp_region_held_drew (S := fun _ => True) (by kernel_rfl) (trivial) (fun hHeld => ?_)
  refine wpAnyH_take (i := 0) (v := ?_) rfl (by kernel_rfl) (by kernel_rfl) (by kernel_rfl) (fun _ _ _ h => h) (Or.inl ⟨by rfl, ?_⟩) (by assumption) ?_
  rotate_left 1
  · intro w _; go_simp; try with_reducible rfl
  try simp only [Act.put, List.getElem_toArray, List.getElem_cons_zero, List.getElem_cons_succ, List.setIfInBounds_toArray, List.set_cons_zero, List.set_cons_succ]
  refine wpAnyH_take (i := 1) (v := ?_) rfl (by kernel_rfl) (by kernel_rfl) (by kernel_rfl) (fun _ _ _ h => h) (Or.inl ⟨by rfl, ?_⟩) (by assumption) ?_
  rotate_left 1
  · intro w hSw; (try dsimp only at hSw); obtain ⟨⟩ := hSw; go_simp; try with_reducible rfl
  try simp only [Act.put, List.getElem_toArray, List.getElem_cons_zero, List.getElem_cons_succ, List.setIfInBounds_toArray, List.set_cons_zero, List.set_cons_succ]
  refine wpAnyH_take (i := 2) (v := ?_) rfl (by kernel_rfl) (by kernel_rfl) (by kernel_rfl) (fun _ _ _ h => h) (Or.inl ⟨by rfl, ?_⟩) (by assumption) ?_
  rotate_left 1
  · intro w _; go_simp; try with_reducible rfl
  try simp only [Act.put, List.getElem_toArray, List.getElem_cons_zero, List.getElem_cons_succ, List.setIfInBounds_toArray, List.set_cons_zero, List.set_cons_succ]
  refine wpAnyH_take (i := 3) (v := ?_) rfl (by kernel_rfl) (by kernel_rfl) (by kernel_rfl) (fun _ _ _ h => h) (Or.inl ⟨by rfl, ?_⟩) (by assumption) ?_
  rotate_left 1
  · intro w hSw; (try dsimp only at hSw); obtain ⟨⟩ := hSw; go_simp; try with_reducible rfl
  try simp only [Act.put, List.getElem_toArray, List.getElem_cons_zero, List.getElem_cons_succ, List.setIfInBounds_toArray, List.set_cons_zero, List.set_cons_succ]
  refine wpAnyH_take (i := 4) (v := ?_) rfl (by kernel_rfl) (by kernel_rfl) (by kernel_rfl) (fun _ _ _ h => h) (Or.inl ⟨by rfl, ?_⟩) (by assumption) ?_
  rotate_left 1
  · intro w _; go_simp; try with_reducible rfl
  try simp only [Act.put, List.getElem_toArray, List.getElem_cons_zero, List.getElem_cons_succ, List.setIfInBounds_toArray, List.set_cons_zero, List.set_cons_succ]
  refine wpAnyH_take (i := 5) (v := ?_) rfl (by kernel_rfl) (by kernel_rfl) (by kernel_rfl) (fun _ _ _ h => h) (Or.inl ⟨by rfl, ?_⟩) (by assumption) ?_
  rotate_left 1
  · intro w hSw; (try dsimp only at hSw); obtain ⟨⟩ := hSw; go_simp; try with_reducible rfl
  try simp only [Act.put, List.getElem_toArray, List.getElem_cons_zero, List.getElem_cons_succ, List.setIfInBounds_toArray, List.set_cons_zero, List.set_cons_succ]
  refine wpAnyH_take (i := 6) (v := ?_) rfl (by kernel_rfl) (by kernel_rfl) (by kernel_rfl) (fun _ _ _ h => h) (Or.inl ⟨by rfl, ?_⟩) (by assumption) ?_
  rotate_left 1
  · intro w _; go_simp; try with_reducible rfl
  try simp only [Act.put, List.getElem_toArray, List.getElem_cons_zero, List.getElem_cons_succ, List.setIfInBounds_toArray, List.set_cons_zero, List.set_cons_succ]
  refine wpAnyH_take (i := 7) (v := ?_) rfl (by kernel_rfl) (by kernel_rfl) (by kernel_rfl) (fun _ _ _ h => h) (Or.inl ⟨by rfl, ?_⟩) (by assumption) ?_
  rotate_left 1
  · intro w hSw; (try dsimp only at hSw); obtain ⟨⟩ := hSw; go_simp; try with_reducible rfl
  try simp only [Act.put, List.getElem_toArray, List.getElem_cons_zero, List.getElem_cons_succ, List.setIfInBounds_toArray, List.set_cons_zero, List.set_cons_succ]
  refine wpAnyH_take (i := 8) (v := ?_) rfl (by kernel_rfl) (by kernel_rfl) (by kernel_rfl) (fun _ _ _ h => h) (Or.inl ⟨by rfl, ?_⟩) (by assumption) ?_
  rotate_left 1
  · intro w _; go_simp; try with_reducible rfl
  try simp only [Act.put, List.getElem_toArray, List.getElem_cons_zero, List.getElem_cons_succ, List.setIfInBounds_toArray, List.set_cons_zero, List.set_cons_succ]
  refine wpAnyH_take (i := 9) (v := ?_) rfl (by kernel_rfl) (by kernel_rfl) (by kernel_rfl) (fun _ _ _ h => h) (Or.inl ⟨by rfl, ?_⟩) (by assumption) ?_
  rotate_left 1
  · intro w hSw; (try dsimp only at hSw); obtain ⟨⟩ := hSw; go_simp; try with_reducible rfl
  try simp only [Act.put, List.getElem_toArray, List.getElem_cons_zero, List.getElem_cons_succ, List.setIfInBounds_toArray, List.set_cons_zero, List.set_cons_succ]
  refine wpAnyH_take (i := 10) (v := ?_) rfl (by kernel_rfl) (by kernel_rfl) (by kernel_rfl) (fun _ _ _ h => h) (Or.inl ⟨by rfl, ?_⟩) (by assumption) ?_
  rotate_left 1
  · intro w _; go_simp; try with_reducible rfl
  try simp only [Act.put, List.getElem_toArray, List.getElem_cons_zero, List.getElem_cons_succ, List.setIfInBounds_toArray, List.set_cons_zero, List.set_cons_succ]
  refine wpAnyH_take (i := 11) (v := ?_) rfl (by kernel_rfl) (by kernel_rfl) (by kernel_rfl) (fun _ _ _ h => h) (Or.inl ⟨by rfl, ?_⟩) (by assumption) ?_
  rotate_left 1
  · intro w hSw; (try dsimp only at hSw); obtain ⟨⟩ := hSw; go_simp; try with_reducible rfl
  try simp only [Act.put, List.getElem_toArray, List.getElem_cons_zero, List.getElem_cons_succ, List.setIfInBounds_toArray, List.set_cons_zero, List.set_cons_succ]
  refine wpAnyH_take (i := 12) (v := ?_) rfl (by kernel_rfl) (by kernel_rfl) (by kernel_rfl) (fun _ _ _ h => h) (Or.inl ⟨by rfl, ?_⟩) (by assumption) ?_
  rotate_left 1
  · intro w _; go_simp; try with_reducible rfl
  try simp only [Act.put, List.getElem_toArray, List.getElem_cons_zero, List.getElem_cons_succ, List.setIfInBounds_toArray, List.set_cons_zero, List.set_cons_succ]
  refine wpAnyH_take (i := 13) (v := ?_) rfl (by kernel_rfl) (by kernel_rfl) (by kernel_rfl) (fun _ _ _ h => h) (Or.inl ⟨by rfl, ?_⟩) (by assumption) ?_
  rotate_left 1
  · intro w _; go_simp; try with_reducible rfl
  try simp only [Act.put, List.getElem_toArray, List.getElem_cons_zero, List.getElem_cons_succ, List.setIfInBounds_toArray, List.set_cons_zero, List.set_cons_succ]
  refine wpAnyH_done (by kernel_rfl) ?_ _
  clear hHeld
  go_wp2_with fail
  clear eq eqw eN ea eb eNw eN0 hq ea2 eb2
  go_loopw [11, 12] (fun lv kv wr => ∃ (k : Nat) (Al : Option Addr) (cl : Nat), k ≤ N ∧ kv = .int .i64 k ∧ lv = .slice Al k cl ∧ Hid (wr.ownsRow b0 46 1 (.slice Al k cl) k (cu11 (rl11 R tu N k))) ∧ Hid (Below b0 w1 wr)) (fun _ kv _ => N - (intOf kv).toNat)
  case atStart => exact ⟨0, none, 0, by omega, rfl, rfl, Lib.hid (World.ownsRow_nil _ _ _ _), Lib.hid (below_draws (Below.refl _ _) 1)⟩
  case round =>
    obtain ⟨k, Al, cl, hk, rfl, rfl, HO, HB⟩ := hrel
    rename World => wr
    by_cases h1 : k < N
    · go_wp2_with fail
      go_loopw [13, 14] (fun xv nv wq => ∃ i : Nat, i ≤ N ∧ nv = .int .i64 i ∧ xv = .int .u16 ((xv11 (rb11 R tu k) i : Nat) : Int) ∧ wr = wq) (fun _ nv _ => N - (intOf nv).toNat)
      case atStart => exact ⟨0, by omega, rfl, rfl, rfl⟩
      case round =>
        obtain ⟨i, hi, rfl, rfl, hwq⟩ := hrel
        subst hwq
        by_cases h2 : i < N
        · by_cases h3 : k < n1
          · cases tu with
            | false =>
              by_cases hki : k < i
              · have z0 : decide (k < i) = true := by simp; omega
                have z0' : decide ((k : Int) < i) = true := by simp; omega
                have z1 : ((i : Int) != k) = true := by simp; omega
                obtain ⟨rx, hrx⟩ : ∃ rx, R[k]? = some rx := ⟨_, List.getElem?_eq_getElem (by rw [HN.out]; exact h3)⟩
                obtain ⟨ad, hA, y0⟩ := (HR.out.keep (w' := wr) (HB0.out.trans (HB.out.mono (by have := HBW.out; have := HB0.out.size; omega)))).at_ hrx
                subst hA
                have hx0 := HR.out.1 rx (List.mem_of_getElem? hrx)
                have eb := bt11_at (n := i) hrx hx0.1 hx0.2
                obtain ⟨v, hv⟩ : ∃ v, bt11 R k i = v := ⟨_, rfl⟩
                rw [hv] at eb
                have HV := Lib.hid hv
                clear hrx hx0 hv
                cases v with
                | false =>
                  have HRB : Hid (rb11 R false k i = false) := Lib.hid (by rw [rb11, HV.out]; simp [z0])
                  have HXV : Hid (xv11 (rb11 R false k) (i + 1) = xv11 (rb11 R false k) i) := Lib.hid (xv11_no HRB.out)
                  go_wp2_with fail
                  go_roundw
                  case rel => exact ⟨i + 1, by omega, by go_num, by rw [HXV.out], trivial⟩
                  case measure => simp [intOf]; omega
                | true =>
                  have HRB : Hid (rb11 R false k i = true) := Lib.hid (by rw [rb11, HV.out]; simp [z0]; omega)
                  have HXV : Hid (xv11 (rb11 R false k) (i + 1) = xv11 (rb11 R false k) i ||| 2 ^ i) := Lib.hid (xv11_yes HRB.out)
                  have eo := or2_11 (xv11_16 (rb11 R false k) (i := i) (by omega)) (show i < 16 by omega)
                  have ew := wrap2_11 (show i < 16 by omega)
                  go_wp2_with fail
                  go_roundw
                  case rel => exact ⟨i + 1, by omega, by go_num, by rw [HXV.out], trivial⟩
                  case measure => simp [intOf]; omega
              · have z0 : decide (k < i) = false := by simp; omega
                have z0' : decide ((k : Int) < i) = false := by simp; omega
                have HRB : Hid (rb11 R false k i = false) := Lib.hid (by rw [rb11, z0]; simp)
                have HXV : Hid (xv11 (rb11 R false k) (i + 1) = xv11 (rb11 R false k) i) := Lib.hid (xv11_no HRB.out)
                go_wp2_with fail
                go_roundw
                case rel => exact ⟨i + 1, by omega, by go_num, by rw [HXV.out], trivial⟩
                case measure => simp [intOf]; omega
            | true =>
              by_cases hki : k < i
              · have z0 : decide (k < i) = true := by simp; omega
                have z0' : decide ((k : Int) < i) = true := by simp; omega
                have HRB : Hid (rb11 R true k i = false) := Lib.hid (by rw [rb11, z0]; simp)
                have HXV : Hid (xv11 (rb11 R true k) (i + 1) = xv11 (rb11 R true k) i) := Lib.hid (xv11_no HRB.out)
                go_wp2_with fail
                go_roundw
                case rel => exact ⟨i + 1, by omega, by go_num, by rw [HXV.out], trivial⟩
                case measure => simp [intOf]; omega
              · by_cases hik : i = k
                · have z0 : decide (k < i) = false := by simp; omega
                  have z0' : decide ((k : Int) < i) = false := by simp; omega
                  have z1 : ((i : Int) != k) = false := by simp; omega
                  have HRB : Hid (rb11 R true k i = false) := Lib.hid (by rw [rb11, z0]; simp [hik])
                  have HXV : Hid (xv11 (rb11 R true k) (i + 1) = xv11 (rb11 R true k) i) := Lib.hid (xv11_no HRB.out)
                  go_wp2_with fail
                  go_roundw
                  case rel => exact ⟨i + 1, by omega, by go_num, by rw [HXV.out], trivial⟩
                  case measure => simp [intOf]; omega
                · have z0 : decide (k < i) = false := by simp; omega
                  have z0' : decide ((k : Int) < i) = false := by simp; omega
                  have z1 : ((i : Int) != k) = true := by simp; omega
                  obtain ⟨rx, hrx⟩ : ∃ rx, R[k]? = some rx := ⟨_, List.getElem?_eq_getElem (by rw [HN.out]; exact h3)⟩
                  obtain ⟨ad, hA, y0⟩ := (HR.out.keep (w' := wr) (HB0.out.trans (HB.out.mono (by have := HBW.out; have := HB0.out.size; omega)))).at_ hrx
                  subst hA
                  have hx0 := HR.out.1 rx (List.mem_of_getElem? hrx)
                  have eb := bt11_at (n := i) hrx hx0.1 hx0.2
                  obtain ⟨v, hv⟩ : ∃ v, bt11 R k i = v := ⟨_, rfl⟩
                  rw [hv] at eb
                  have HV := Lib.hid hv
                  clear hrx hx0 hv
                  cases v with
                  | false =>
                    have HRB : Hid (rb11 R true k i = false) := Lib.hid (by rw [rb11, HV.out]; simp [z0])
                    have HXV : Hid (xv11 (rb11 R true k) (i + 1) = xv11 (rb11 R true k) i) := Lib.hid (xv11_no HRB.out)
                    go_wp2_with fail
                    go_roundw
                    case rel => exact ⟨i + 1, by omega, by go_num, by rw [HXV.out], trivial⟩
                    case measure => simp [intOf]; omega
                  | true =>
                    have HRB : Hid (rb11 R true k i = true) := Lib.hid (by rw [rb11, HV.out]; simp [z0]; omega)
                    have HXV : Hid (xv11 (rb11 R true k) (i + 1) = xv11 (rb11 R true k) i ||| 2 ^ i) := Lib.hid (xv11_yes HRB.out)
                    have eo := or2_11 (xv11_16 (rb11 R true k) (i := i) (by omega)) (show i < 16 by omega)
                    have ew := wrap2_11 (show i < 16 by omega)
                    go_wp2_with fail
                    go_roundw
                    case rel => exact ⟨i + 1, by omega, by go_num, by rw [HXV.out], trivial⟩
                    case measure => simp [intOf]; omega
          · have hnb : ∀ n, rb11 R tu k n = false := fun n => by rw [rb11, bt11_none (List.getElem?_eq_none (by rw [HN.out]; omega))]; simp
            rw [show xv11 (rb11 R tu k) i = xv11 (rb11 R tu k) N from by rw [xv11_none hnb, xv11_none hnb]]
            clear hnb
            have HO1 := Lib.hid (HO.out.alloc (.cells #[.int .u16 ((xv11 (rb11 R tu k) N : Nat) : Int)] 46))
            have hc1 : (wr.alloc (.cells #[.int .u16 ((xv11 (rb11 R tu k) N : Nat) : Int)] 46)).cell? ((⟨wr.heap.size, 0, none⟩ : Addr).add 0) = some (.int .u16 ((xv11 (rb11 R tu k) N : Nat) : Int)) := by simp [go_sem, Addr.add]
            have hsz := HB.out.size
            go_wp2_with (at_builtin; refine wpList_append_u16 _ rfl (.tmp 80) (.tmp 82) rfl b0 _ k (rl11 R tu N k) rfl HO1.out _ _ rfl hc1 (by omega) (by rw [size1]; have := HBW.out; omega) ?_; intro g9 c9 w9 ho9 hb9; have HO9 := Lib.hid ho9; have HB9 := Lib.hid hb9; clear ho9 hb9)
            have HO2 : Hid (w9.ownsRow b0 46 1 (.slice (some ⟨g9, 0, none⟩) (k + 1) c9) (k + 1) (cu11 (rl11 R tu N (k + 1)))) := Lib.hid (by rw [rl11_next]; exact HO9.out)
            have HB2 : Hid (Below b0 w1 w9) := Lib.hid ((HB.out.alloc (by have := HBW.out; omega) _).trans HB9.out)
            go_roundw
            case rel => exact ⟨k + 1, _, c9, by omega, by go_num, rfl, HO2, HB2⟩
            case measure => simp [intOf]; omega
        · obtain rfl : N = i := by omega
          have HO1 := Lib.hid (HO.out.alloc (.cells #[.int .u16 ((xv11 (rb11 R tu k) N : Nat) : Int)] 46))
          have hc1 : (wr.alloc (.cells #[.int .u16 ((xv11 (rb11 R tu k) N : Nat) : Int)] 46)).cell? ((⟨wr.heap.size, 0, none⟩ : Addr).add 0) = some (.int .u16 ((xv11 (rb11 R tu k) N : Nat) : Int)) := by simp [go_sem, Addr.add]
          have hsz := HB.out.size
          go_wp2_with (at_builtin; refine wpList_append_u16 _ rfl (.tmp 80) (.tmp 82) rfl b0 _ k (rl11 R tu N k) rfl HO1.out _ _ rfl hc1 (by omega) (by rw [size1]; have := HBW.out; omega) ?_; intro g9 c9 w9 ho9 hb9; have HO9 := Lib.hid ho9; have HB9 := Lib.hid hb9; clear ho9 hb9)
          have HO2 : Hid (w9.ownsRow b0 46 1 (.slice (some ⟨g9, 0, none⟩) (k + 1) c9) (k + 1) (cu11 (rl11 R tu N (k + 1)))) := Lib.hid (by rw [rl11_next]; exact HO9.out)
          have HB2 : Hid (Below b0 w1 w9) := Lib.hid ((HB.out.alloc (by have := HBW.out; omega) _).trans HB9.out)
          go_roundw
          case rel => exact ⟨k + 1, _, c9, by omega, by go_num, rfl, HO2, HB2⟩
          case measure => simp [intOf]; omega
    · obtain rfl : N = k := by omega
      have HRU := Lib.hid (Ru11.of_own HO.out (rl11_ok hN.2)).1
      have hbw : w.heap.size ≤ b0 := by have := HBW.out; have := HB0.out.size; omega
      have HBA : Hid (Below w.heap.size w wr) := Lib.hid (HB0.out.trans (HB.out.mono hbw))
      have HMD := Lib.hid (made11_v N Al cl N (rl11 R tu N N) wr HRU.out (rl11_len _ _ _ _) (by omega))
      clear HRU
      go_wp2_with fail
      refine HMD.out.mono ?_
      rintro r w3 ⟨y, rfl, hq, hb⟩
      obtain ⟨d, hd⟩ : ∃ d, md11 N (rl11 R tu N N) = d := ⟨_, rfl⟩
      have hdl : d.s.length = N := by rw [← hd, md11_len]
      have hbl : ∀ z ∈ d.s, z.2.length ≤ 1000 := by rw [← hd]; exact md11_bl _ _
      have HZ : Hid ((ro11 d).2 = 0) := Lib.hid (by rw [← hd]; exact rl11_zero hN.2)
      have HD := Lib.hid hd
      have HDL := Lib.hid hdl
      have HBL := Lib.hid hbl
      rw [hd] at hq ⊢
      have S3 := Lib.hid ((((Sx.start w).call HBA.out).call hb).add (fQm y d) hq)
      have HO3 := Lib.hid (own_below HO.out hb (Nat.le_refl _))
      have HB3 : Hid (Below b0 w1 w3) := Lib.hid (HB.out.trans (hb.mono (by have := HB.out.size; have := HBW.out; omega)))
      clear HMD hb hq HO HB hd hdl hbl HBA
      have S4 := Lib.hid (S3.out.mkD y d)
      have HO4 := Lib.hid (HO3.out.alloc (dcel y d))
      have HB4 : Hid (Below b0 w1 (w3.alloc (dcel y d))) := Lib.hid (HB3.out.alloc (by have := HB3.out.size; have := HBW.out; omega) _)
      obtain ⟨B, hB⟩ : ∃ B, w3.heap.size = B := ⟨_, rfl⟩
      rw [hB] at S4
      go_upto_region 17 with (fail)
      have hw2 : w3.alloc (.cells #[.slice y.G d.g.length y.gc, .slice y.P d.p.length y.pc, .slice y.A d.s.length y.c, .int .i64 d.i] 25) = w3.alloc (dcel y d) := rfl
      rw [hw2]
      try rw [hB]
      generalize w3.alloc (dcel y d) = w4 at S4 HO4 HB4 ⊢
      clear hw2 hB S3 HO3 HB3
      have HCK := Lib.hid (check11_v y d w4 S4.out.2.2.1 (by rw [HDL.out]; omega) HBL.out)
      rw [HZ.out] at HCK
      obtain ⟨-, ⟨d0, d1, d2, d3, d4⟩, -⟩ := S4.out
      go_wp2_with fail
      refine HCK.out.mono ?_
      rintro r w5 ⟨rfl, hb⟩
      have S5 := Lib.hid (S4.out.call hb)
      have HO5 := Lib.hid (own_below HO4.out hb (Nat.le_refl _))
      have HB5 : Hid (Below b0 w1 w5) := Lib.hid (HB4.out.trans (hb.mono (by have := HB4.out.size; have := HBW.out; omega)))
      clear HCK hb S4 HO4 HB4 d0 d1 d2 d3 d4
      have HLE := Lib.hid (leadsT_v y d a0 w5 S5.out.2.2.1 (by rw [HDL.out]; omega) HBL.out)
      rw [le11_lk HZ.out (by rw [HDL.out]; exact ha0)] at HLE
      obtain ⟨L, hL⟩ : ∃ L, lk11 d a0 = L := ⟨_, rfl⟩
      have HLL := Lib.hid hL
      rw [hL] at HLE
      obtain ⟨ln, hln⟩ : ∃ ln, (ns11 L).length = ln := ⟨_, rfl⟩
      have HLN := Lib.hid hln
      have hln9 : ln ≤ 16 := by have := lk11_len d a0; rw [hL, HDL.out] at this; rw [← hln, ns11, List.length_map]; omega
      obtain ⟨-, ⟨d0, d1, d2, d3, d4⟩, -⟩ := S5.out
      clear hL hln
      go_wp2_with fail
      refine HLE.out.mono ?_
      rintro r w6 ⟨A6, c6, rfl, ho, hb⟩
      have S6 := Lib.hid ((S5.out.call hb).add (fRn A6 c6 (ns11 L)) (Rn.of_own ho).1)
      have HO6 := Lib.hid (own_below HO5.out hb (Nat.le_refl _))
      have HB6 : Hid (Below b0 w1 w6) := Lib.hid (HB5.out.trans (hb.mono (by have := HB5.out.size; have := HBW.out; omega)))
      dsimp only
      rw [HLN.out]
      clear HLE hb ho S5 HO5 HB5 d0 d1 d2 d3 d4
      obtain ⟨v0, hv0⟩ : ∃ v0, ((a0 : Int) == b1) = v0 := ⟨_, rfl⟩
      have HV0 : Hid (v0 = decide (a0 = b1)) := Lib.hid (by rw [← hv0, Bool.eq_iff_iff, decide_eq_true_iff, beq_iff_eq]; exact ⟨fun h => by omega, fun h => by omega⟩)
      go_wp2_with fail
      go_loopw [18, 19] (fun rv iv wq => ∃ (i : Nat) (v : Bool), i ≤ ln ∧ iv = .int .i64 i ∧ rv = .bool v ∧ w6 = wq ∧ Hid (v = (v0 || (L.take i).contains b1))) (fun _ iv _ => ln - (intOf iv).toNat)
      case atStart => exact ⟨0, v0, by omega, rfl, rfl, rfl, Lib.hid (by simp)⟩
      case round =>
        obtain ⟨i, v, hi, rfl, rfl, hwq, HV⟩ := hrel
        subst hwq
        by_cases h1 : i < ln
        · obtain ⟨t, ht⟩ : ∃ t, L[i]? = some t := ⟨_, List.getElem?_eq_getElem (by rw [← HLN.out, ns11, List.length_map] at h1; exact h1)⟩
          obtain ⟨ad6, hA6, y0⟩ := S6.out.2.1.at_ (ns11_at ht)
          subst hA6
          obtain ⟨u, hu⟩ : ∃ u, ((t : Int) == b1) = u := ⟨_, rfl⟩
          have HU : Hid ((v || u) = (v0 || (L.take (i + 1)).contains b1)) := Lib.hid (by
            have h1 : (L.take (i + 1)).contains b1 = ((L.take i).contains b1 || u) := by
              rw [← hu, Bool.eq_iff_iff, Bool.or_eq_true, List.contains_iff_mem, List.contains_iff_mem, take_mem11 ht, beq_iff_eq]
              exact ⟨fun h => h.imp id fun h => by omega, fun h => h.imp id fun h => by omega⟩
            rw [HV.out, h1, Bool.or_assoc])
          clear ht
          cases v with
          | true =>
            go_wp2_with fail
            go_roundw
            case rel => exact ⟨i + 1, true, by omega, by go_num, rfl, trivial, Lib.hid (by have h := HU.out; rw [Bool.true_or] at h; exact h)⟩
            case measure => simp [intOf]; omega
          | false =>
            go_wp2_with fail
            go_roundw
            case rel => exact ⟨i + 1, u, by omega, by go_num, rfl, trivial, Lib.hid (by have h := HU.out; rw [Bool.false_or] at h; exact h)⟩
            case measure => simp [intOf]; omega
        · obtain rfl : i = ln := by omega
          have HVE : Hid (v = (decide (a0 = b1) || decide (b1 ∈ L))) := Lib.hid (by
            rw [HV.out, HV0.out, List.take_of_length_le (by rw [← HLN.out, ns11, List.length_map]; exact Nat.le_refl _)]
            congr 1
            rw [Bool.eq_iff_iff, List.contains_iff_mem, decide_eq_true_iff])
          have HBT := Lib.hid S6.out.1
          obtain ⟨gl, hgl⟩ : ∃ gl, Al = some ⟨gl, 0, none⟩ := by
            obtain ⟨g, c, e⟩ := own_some11 HO6.out hN.1
            injection e with e1 e2 e3
            exact ⟨g, e1⟩
          subst hgl
          have c0 := HO6.out.cellAt b1 (by omega)
          have f0 := HO6.out.frozenAt b1
          have e0 : (cu11 (rl11 R tu N N))[b1]? = some (.int .u16 ((xv11 (rb11 R tu b1) N : Nat) : Int)) := by rw [cu11, List.getElem?_map, rl11_at hb1N]; rfl
          rw [e0] at c0
          have hst := (HO6.out.stored b1 (.int .u16 ((xv11 (rb11 R tu b1) N ||| 2 ^ a0 : Nat) : Int))).1
          rw [show (cu11 (rl11 R tu N N)).set b1 (.int .u16 ((xv11 (rb11 R tu b1) N ||| 2 ^ a0 : Nat) : Int)) = cu11 (rm11 R tu N a0 b1) from by rw [rm11, cu11, cu11, List.map_set]] at hst
          have HST := Lib.hid hst
          have eo := or2_11 (xv11_16 (rb11 R tu b1) hN.2) (show a0 < 16 by omega)
          have ew := wrap2_11 (show a0 < 16 by omega)
          have HGB : Hid (b0 ≤ gl) := Lib.hid (HO6.out.2.elim (fun h => by cases h.1) fun ⟨g, cap, cur, hv, hg, _⟩ => by injection hv with e1 e2 e3; injection e1 with e1; injection e1 with e1 e2 e3; omega)
          clear hst e0 S6 HV HV0 hv0 HO6
          have HRM : Hid ((ro11 (md11 N (rm11 R tu N a0 b1))).2 = if v = true then 110 else 0) := Lib.hid (by rw [rm11_ro hN.2 ha0 hb1N, HD.out, HLL.out, ← HVE.out])
          have HRK := Lib.hid (rm11_ok (R := R) (tu := tu) (b := b1) hN.2 (show a0 < 16 by omega))
          have hRL : (rm11 R tu N a0 b1).length = N := by rw [rm11, List.length_set, rl11_len]
          have HB7 := Lib.hid (HBT.out.setCell (p := ⟨gl, b1, none⟩) (show w.heap.size ≤ gl by have := HGB.out; omega) (.int .u16 ((xv11 (rb11 R tu b1) N ||| 2 ^ a0 : Nat) : Int)))
          generalize xv11 (rb11 R tu b1) N = X at c0 eo HST HB7
          generalize rm11 R tu N a0 b1 = RM at HST HRM HRK hRL
          go_wp2_with fail
          go_region
          generalize w6.setCell ⟨gl, b1, none⟩ (.int .u16 ((X ||| 2 ^ a0 : Nat) : Int)) = w7 at HST HB7 ⊢
          have HMD := Lib.hid (made11_v N (some ⟨gl, 0, none⟩) cl N RM w7.drew (Ru11.of_own HST.out.drew HRK.out).1 hRL (by omega))
          obtain ⟨d2, hd2⟩ : ∃ d2, md11 N RM = d2 := ⟨_, rfl⟩
          have h2l : d2.s.length = N := by rw [← hd2, md11_len]
          have h2b : ∀ z ∈ d2.s, z.2.length ≤ 1000 := by rw [← hd2]; exact md11_bl _ _
          have H2L := Lib.hid h2l
          have H2B := Lib.hid h2b
          rw [hd2] at HMD HRM
          clear hd2 h2l h2b c0 f0 eo ew HST hRL
          cases v with
          | true =>
            go_wp2_with fail
            refine HMD.out.mono ?_
            rintro r w8 ⟨y2, rfl, hq2, hb2⟩
            have HC2 := Lib.hid (check11_v y2 d2 w8 hq2 (by rw [H2L.out]; omega) H2B.out)
            rw [HRM.out, if_pos (by trivial)] at HC2
            have HB8 := Lib.hid ((below_draws HB7.out 1).trans (hb2.mono (show w.heap.size ≤ w7.heap.size from HB7.out.size)))
            clear HMD hq2 hb2
            go_wp2_with fail
            refine HC2.out.mono ?_
            rintro r w9 ⟨rfl, hb3⟩
            have HB9 := Lib.hid (HB8.out.trans (hb3.mono HB8.out.size))
            clear hb3 HC2
            go_wp2_with fail
            go_ret
            exact ⟨rfl, HB9.out⟩
          | false =>
            go_wp2_with fail
            refine HMD.out.mono ?_
            rintro r w8 ⟨y2, rfl, hq2, hb2⟩
            have HC2 := Lib.hid (check11_v y2 d2 w8 hq2 (by rw [H2L.out]; omega) H2B.out)
            rw [HRM.out, if_neg (by simp)] at HC2
            have HB8 := Lib.hid ((below_draws HB7.out 1).trans (hb2.mono (show w.heap.size ≤ w7.heap.size from HB7.out.size)))
            clear HMD hq2 hb2
            go_wp2_with fail
            refine HC2.out.mono ?_
            rintro r w9 ⟨rfl, hb3⟩
            have HB9 := Lib.hid (HB8.out.trans (hb3.mono HB8.out.size))
            clear hb3 HC2
            go_wp2_with fail
            go_ret
            exact ⟨rfl, HB9.out⟩
end Go.Proofs.Ytfbabbddiplgkaa
