/-
  More on slices of bytes over this translation: a literal one, one made into a string, one cut, one that came in; a region that draws its order. No function of the program is named here.
-/
import Derived.Test.YthmfjdafmnmgiaaDoorMem
import Derived.Test.YthmfjdafmnmgiaaDoorChecked
import Derived.Deep.QuietTactic
import Derived.BigQuiet
import Derived.Deep.DeepCutAuto
import Derived.Deep.RegionHeld3
import Derived.WalkSpells
namespace Go.Proofs.YthmfjdafmnmgiaaDoor
open Go.RowKit

theorem Tryd.info5 : (Tryd.prog.info? 5).map (fun i => (i.zero, i.size, i.bytes)) = some (some (.int .u8 0), 1, 1) := by kernel_rfl
/-- 'string(b)', b a slice that reads as l. -/
theorem rd_string {P : Program} {w : World} {A : Option Addr} {c : Nat} {l : List Int} (h : Rd w A c l) (src dst e : TypeId) (hs : P.underlying src = some (.slice e)) (he : P.underlying e = some (.int .u8)) (hd : P.underlying dst = some .string) :
    (convert src dst (.slice A l.length c)).run P w = .ok (.string (strOfNums l)) w := by
  rcases h.2.2.2 with ⟨rfl, rfl⟩ | ⟨ad, rfl, hcell⟩
  · obtain rfl : l = [] := List.eq_nil_of_length_eq_zero (by have := h.le; omega)
    exact run_convert_bytes_nil w src e hs he 0 0 dst hd
  · have hl : (loadCells ad l.length).run P w = .ok (l.map (Value.int .u8)).toArray w := by
      have := run_loadCells_list (P := P) w ad (l.map (Value.int .u8)) (fun j v hj => by
        simp only [List.getElem?_map, Option.map_eq_some_iff] at hj
        obtain ⟨y, hy, rfl⟩ := hj
        exact hcell j y hy)
      simpa using this
    rw [run_convert_bytes_string w src dst e _ l.length c hs he hd, run_bytesToString w _ l.length c l hl, foldl_push_bytes]
    simp [strOfNums, ByteArray.empty, ByteArray.emptyWithCapacity]
    rfl
theorem rd_lit (w : World) (l : List Int) (hb : Byt l) (hl : l.length ≤ maxLen) : Rd (w.alloc (.cells (cel l).toArray 5)) (some ⟨w.heap.size, 0, none⟩) l.length l := by
  have h := World.ownsRow_lit (base := w.heap.size) (e := 5) (size := 1) w (cel l).toArray l.length (Nat.le_refl _) hl (by simp [length_cel])
  exact (Rd.of_own (by simpa using h) hb).1
theorem byt_of {l : List Int} (h : (l.all fun x => decide (0 ≤ x) && decide (x < 256)) = true) : Byt l := by
  intro x hx
  have := List.all_eq_true.1 h x hx
  simpa using this
/-- An answer's bytes, from what is owned. -/
theorem own_rd {w : World} {A : Option Addr} {base n c e : Nat} {l : List Int} (h : w.ownsRow base e 1 (.slice A n c) n (cel l)) (hb : Byt l) : Rd w A c l := (Rd.of_own h hb).1
theorem Rd.drewN {w : World} {A : Option Addr} {c : Nat} {l : List Int} (h : Rd w A c l) (q : Nat) : Rd (w.drewN q) A c l := h
theorem below_draws {B : Nat} {a w : World} (h : Below B a w) (q : Nat) : Below B a (w.drewN q) := ⟨h.os, h.tape, h.output, h.size, h.block⟩
/-- Numbers that came in as a slice of bytes read as a list. -/
theorem rd_of_row {w : World} {a : Option Addr} {len cap : Nat} {zs : List Int}
    (h : (a = none ∧ len = 0 ∧ cap = 0 ∧ zs = []) ∨ ∃ x : Addr, a = some x ∧ len ≤ cap ∧ cap ≤ maxLen ∧ zs.length = cap ∧ (∀ i, i < zs.length → w.cell? (x.add i) = some (.int .u8 (zs.getD i 0))) ∧ ∀ n ∈ zs, (Lit.int .u8 n).wf = true) :
    ∃ l : List Int, l.length = len ∧ Rd w a cap l := by
  rcases h with ⟨rfl, rfl, rfl, rfl⟩ | ⟨x, rfl, h1, h2, h3, h4, h5⟩
  · exact ⟨[], rfl, Rd.none_ w⟩
  · refine ⟨zs.take len, by simp; omega, fun n hn => ?_, by simp; omega, h2, .inr ⟨x, rfl, fun i y hy => ?_⟩⟩
    · have := bounds_u8 (h5 n (List.mem_of_mem_take hn)); omega
    · rw [List.getElem?_take] at hy
      split at hy
      · have hlt := (List.getElem?_eq_some_iff.1 hy).1
        rw [h4 i hlt, List.getD_eq_getElem?_getD, hy]
        rfl
      · cases hy
theorem Rd.pre {w : World} {A : Option Addr} {c : Nat} {l : List Int} (h : Rd w A c l) (n : Nat) : Rd w A c (l.take n) := by
  refine ⟨byt_take h.1 _, by have := h.2.1; simp; omega, h.2.2.1, ?_⟩
  rcases h.2.2.2 with hn | ⟨ad, ha, hc⟩
  · exact .inl hn
  · refine .inr ⟨ad, ha, fun i x hx => ?_⟩
    rw [List.getElem?_take] at hx
    split at hx
    · exact hc i x hx
    · cases hx
set_option maxRecDepth 100000 in
/-- A part cut out, as the walk meets it: its value, and that it reads as the part. -/
theorem slice_run (A : Option Addr) (c : Nat) (l : List Int) (a h : Nat) (h1 : a ≤ h) (h2 : h ≤ l.length) (hlc : l.length ≤ c) :
    ∃ A' c', (∀ wx : World, (Instr.slice 24 (.slice A l.length c) (some (.int .i64 (a : Int))) (some (.int .i64 (h : Int))) none).run Tryd.prog wx = .ok (.slice A' (h - a) c') wx) ∧
      ∀ w : World, Rd w A c l → Rd w A' c' ((l.drop a).take (h - a)) := by
  refine ⟨if c = a then A else A.map (·.add a), c - a, fun wx => ?_, fun w hr => hr.sub a h h1 h2⟩
  have := run_slice_lh (P := Tryd.prog) wx 24 A l.length c Tryd.underlying24 .i64 .i64 (a : Int) (h : Int) (by omega) (by omega) (by omega)
  simp at this
  have hsz : (sizeOf (Tryd.prog.elem 24)).run Tryd.prog wx = .ok 1 wx := by kernel_rfl
  rw [this, hsz]
  simp [Result.andThen, sliced]
theorem own_some {w : World} {base e n c : Nat} {A : Option Addr} {xs : List Value} (h : w.ownsRow base e 1 (.slice A n c) n xs) (hn : 0 < n) : ∃ g, A = some ⟨g, 0, none⟩ ∧ base ≤ g := by
  rcases h.2 with ⟨_, h0⟩ | ⟨g, cap, cur, hv, hg, _⟩
  · omega
  · injection hv with e1 e2 e3
    exact ⟨g, e1, hg⟩
theorem cel_set (l : List Int) (j : Nat) (x : Int) : (cel l).set j (.int .u8 x) = cel (l.set j x) := by simp [cel, List.map_set]
theorem byt_set {l : List Int} (h : Byt l) (j : Nat) {x : Int} (hx : 0 ≤ x ∧ x < 256) : Byt (l.set j x) := by
  intro y hy
  rcases List.mem_or_eq_of_mem_set hy with h1 | rfl
  · exact h y h1
  · exact hx
theorem add_succ (ad : Addr) (m : Nat) : ad.add (m + 1) = ⟨ad.block, ad.off + (m + 1), none⟩ := by unfold Addr.add; rw [if_neg (by omega)]
theorem rd_one (w : World) (x : Int) (h : 0 ≤ x ∧ x < 256) : Rd (w.alloc (.cells #[.int .u8 x] 5)) (some ⟨w.heap.size, 0, none⟩) 1 [x] :=
  rd_lit w [x] (fun y hy => by simp at hy; subst hy; exact h) (by unfold maxLen; simp)
theorem wpAnyH_swap {P : Program} {md : Region.Mode} {ops : Array Oper} {Q : Exit → Act → World → Prop} {S S' : World → Prop} (h : ∀ w, S' w → S w) :
    ∀ (fuel : Nat) (listed : Array Bool) (a : Act) (w : World), wpAnyH P md ops Q S' fuel listed a w → wpAnyH P md ops Q S fuel listed a w
  | 0, _, _, _, hh => hh
  | fuel + 1, _, _, _, hh => ⟨hh.1, fun i hi => wpOp_mono (fun _ _ h2 => ⟨h _ h2.1, wpAnyH_swap h fuel _ _ _ h2.2⟩) (hh.2 i hi)⟩
end Go.Proofs.YthmfjdafmnmgiaaDoor
