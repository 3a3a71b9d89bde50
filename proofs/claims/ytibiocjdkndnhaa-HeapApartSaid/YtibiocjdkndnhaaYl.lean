/-
  Law HeapApart of layer 15, the stage's theorem.
-/
import Derived.Test.YtibiocjdkndnhaaYk
import Derived.BigQuiet
namespace Go.Proofs.Ytibiocjdkndnhaa
open Go.RowKit
set_option maxRecDepth 100000
set_option linter.unusedSimpArgs false
set_option linter.unusedVariables false

/-- A piece of a function's code, by its path. -/
def cut15 : List Nat → Code → Code
  | 0 :: p, .seq a _ => cut15 p a
  | 1 :: p, .seq _ b => cut15 p b
  | 0 :: p, .cond _ a _ => cut15 p a
  | 1 :: p, .cond _ _ b => cut15 p b
  | 2 :: p, .block _ c => cut15 p c
  | 2 :: p, .loop c => cut15 p c
  | 2 :: p, .scope c => cut15 p c
  | _, c => c
theorem umod15 (x : Int) {m : Nat} (h : 1 ≤ m) : ∃ q : Nat, q < m ∧ (IntKind.u64.wrap x).tmod (m : Int) = (q : Int) := by
  have h0 : 0 ≤ IntKind.u64.wrap x := by rw [IntKind.wrap_u64]; omega
  rw [Int.tmod_eq_emod_of_nonneg h0]
  have h1 := Int.emod_nonneg (IntKind.u64.wrap x) (show (m : Int) ≠ 0 by omega)
  have h2 := Int.emod_lt_of_pos (IntKind.u64.wrap x) (show (0 : Int) < m by omega)
  exact ⟨((IntKind.u64.wrap x) % (m : Int)).toNat, by omega, by omega⟩
section
variable {V : List (List Int)} {k : Nat}
theorem row15_cons : row15 ([] :: V) ((k : Int) + 1) = row15 V k := by
  rw [row15, row15, if_pos (by omega), if_pos (by omega), show ((k : Int) + 1).toNat = k + 1 from by omega, Int.toNat_natCast, List.getElem?_cons_succ]
theorem pl15_cons (j : Int) : pl15 ([] :: V) ((k : Int) + 1) j = pl15 V k j := by rw [pl15, pl15, row15_cons]
theorem is15_cons : is15 ([] :: V) ((k : Int) + 1) = is15 V k := by
  rw [is15, is15, List.length_cons]
  by_cases h : k < V.length
  · rw [decide_eq_true (by omega), decide_eq_true (by omega), decide_eq_true (by omega), decide_eq_true (by omega)]
  · rw [decide_eq_true (by omega), decide_eq_false (by omega), decide_eq_true (by omega), decide_eq_false (by omega)]
theorem at15_cons (j : Int) : at15 ([] :: V) ((k : Int) + 1) j = at15 V k j := by rw [at15, at15, pl15_cons, row15_cons]
theorem put15_cons (j v : Int) : put15 ([] :: V) ((k : Int) + 1) j v = [] :: put15 V k j v := by
  rw [put15, put15, pl15_cons, row15_cons]
  split
  · rw [show ((k : Int) + 1).toNat = k + 1 from by omega, Int.toNat_natCast]
    rfl
  · rfl
theorem is15_k (h : k < V.length) : is15 V k = true := by rw [is15, decide_eq_true (by omega), decide_eq_true (by omega)]; rfl
theorem pl15_k {j : Nat} (h : j < (row15 V k).length) : pl15 V k j = true := by rw [pl15, decide_eq_true (by omega), decide_eq_true (by omega)]; rfl
theorem pl15_n {j : Nat} (h : (row15 V k).length ≤ j) : pl15 V k j = false := by rw [pl15, decide_eq_true (by omega), decide_eq_false (by omega)]; rfl
theorem row15_us {R : Nat} (h : us15 ([] :: V) ≤ R) : (row15 V k).length ≤ R := by
  by_cases hk : k < V.length
  · have h1 := off15_le (row15_at (is15_k hk))
    have h2 : us15 ([] :: V) = us15 V := by simp [us15]
    omega
  · rw [row15_no (by rw [is15, decide_eq_true (by omega), decide_eq_false (by omega)]; rfl)]
    exact Nat.zero_le _
end
set_option maxHeartbeats 8000000 in
/-- What is held at each round's end. -/
theorem chk15 {v0 v1 v2 v3 v4 v6 v8 v9 v10 v11 v12 v13 v14 v15 v16 v17 v18 v19 v20 v21 v22 v23 v24 v25 v26 v27 v28 v29 v30 v31 v32 v33 v34 v35 v36 v37 v38 v39 v40 v41 v42 v43 v44 v45 v46 v47 v48 v49 v50 v51 v52 v53 v54 v55 v56 v57 v58 v59 v60 v61 v62 v63 v64 v65 v66 v67 v68 v69 v70 v71 v72 v73 v74 v75 v76 v77 v78 v79 v80 v81 v82 v83 v84 v85 v86 v87 v88 v89 v90 v91 v92 v93 v94 v95 v96 v97 v98 v99 v100 v101 v102 v103 v104 v105 v106 v107 v108 v109 v110 v111 v112 v113 v114 v115 v116 v117 v118 v119 v120 v121 v122 v123 v124 v125 v126 v127 v128 v129 v130 v131 v132 v133 v134 v135 v136 v137 v138 v139 v140 v141 v142 v143 v144 v145 v146 v147 v148 v149 v150 v151 v152 v153 v154 v155 v156 v157 v158 v159 v160 v161 v162 v163 v164 v165 v166 v167 v168 v169 v170 v171 v172 v173 v174 v175 v176 v177 v178 v179 v180 v181 v182 v183 v184 v185 v186 v187 v188 v189 v190 v191 : Value} {w0 w : World} {X Y : Nat → Prop} {B R c vn : Nat} {A : Option Addr} {V : List (List Int)} (hT : Two15 w0 w (tH15 X B R ([] :: V)) (tW15 Y A c V)) (hv : V.length = vn) (hn : vn ≤ 60) {Q0 : Exit → Act → World → Prop}
    (hQ : ∀ (y4 y15 y16 y17 y18 y19 y20 y21 y22 y123 y124 y125 y126 y127 y128 y129 y130 y131 y132 y133 y134 y135 y136 y137 y138 y139 y140 y141 y142 y143 y144 y145 y146 y147 y148 y149 y150 y151 y152 y153 y154 y155 y156 y157 y158 y159 y160 y161 y162 y163 y164 y165 y166 y167 y168 y169 y170 y171 y172 y173 y174 y175 y176 y177 y178 y179 y180 y181 y182 y183 y184 y185 y186 y187 y188 y189 y190 y191 : Value), Q0 .normal ⟨#[v0, v1, v2, v3, y4, .pointer (some ⟨B, 0, none⟩), v6, .slice A vn c, v8, v9, v10, v11, v12, v13, v14, y15, y16, y17, y18, y19, y20, y21, y22, v23, v24, v25, v26, v27, v28, v29, v30, v31, v32, v33, v34, v35, v36, v37, v38, v39, v40, v41, v42, v43, v44, v45, v46, v47, v48, v49, v50, v51, v52, v53, v54, v55, v56, v57, v58, v59, v60, v61, v62, v63, v64, v65, v66, v67, v68, v69, v70, v71, v72, v73, v74, v75, v76, v77, v78, v79, v80, v81, v82, v83, v84, v85, v86, v87, v88, v89, v90, v91, v92, v93, v94, v95, v96, v97, v98, v99, v100, v101, v102, v103, v104, v105, v106, v107, v108, v109, v110, v111, v112, v113, v114, v115, v116, v117, v118, v119, v120, v121, v122, y123, y124, y125, y126, y127, y128, y129, y130, y131, y132, y133, y134, y135, y136, y137, y138, y139, y140, y141, y142, y143, y144, y145, y146, y147, y148, y149, y150, y151, y152, y153, y154, y155, y156, y157, y158, y159, y160, y161, y162, y163, y164, y165, y166, y167, y168, y169, y170, y171, y172, y173, y174, y175, y176, y177, y178, y179, y180, y181, y182, y183, y184, y185, y186, y187, y188, y189, y190, y191], []⟩ w) :
    Code.wp Try.prog (cut15 [1, 1, 1, 1, 1, 1, 0, 1, 2, 2, 1, 0, 2, 1, 1] (Try.f5.body.getD .skip)) Q0 ⟨#[v0, v1, v2, v3, v4, .pointer (some ⟨B, 0, none⟩), v6, .slice A vn c, v8, v9, v10, v11, v12, v13, v14, v15, v16, v17, v18, v19, v20, v21, v22, v23, v24, v25, v26, v27, v28, v29, v30, v31, v32, v33, v34, v35, v36, v37, v38, v39, v40, v41, v42, v43, v44, v45, v46, v47, v48, v49, v50, v51, v52, v53, v54, v55, v56, v57, v58, v59, v60, v61, v62, v63, v64, v65, v66, v67, v68, v69, v70, v71, v72, v73, v74, v75, v76, v77, v78, v79, v80, v81, v82, v83, v84, v85, v86, v87, v88, v89, v90, v91, v92, v93, v94, v95, v96, v97, v98, v99, v100, v101, v102, v103, v104, v105, v106, v107, v108, v109, v110, v111, v112, v113, v114, v115, v116, v117, v118, v119, v120, v121, v122, v123, v124, v125, v126, v127, v128, v129, v130, v131, v132, v133, v134, v135, v136, v137, v138, v139, v140, v141, v142, v143, v144, v145, v146, v147, v148, v149, v150, v151, v152, v153, v154, v155, v156, v157, v158, v159, v160, v161, v162, v163, v164, v165, v166, v167, v168, v169, v170, v171, v172, v173, v174, v175, v176, v177, v178, v179, v180, v181, v182, v183, v184, v185, v186, v187, v188, v189, v190, v191], []⟩ w := by
  have HT := Lib.hid hT
  have HV := Lib.hid hv
  have HQ := Lib.hid hQ
  have hus := (hT.s : Hp15 X w B R ([] :: V)).us
  have hR := hus.2
  have HUS := Lib.hid hus.1
  clear hT hv hQ hus
  conv => arg 2; whnf
  go_wp2_with fail
  go_loopw [15] (fun kv wr => ∃ k : Nat, k ≤ vn ∧ kv = .int .i64 k ∧ wr = w) (fun kv _ => vn - (intOf kv).toNat)
  case atStart => exact ⟨0, by omega, rfl, rfl⟩
  case round =>
    obtain ⟨k, hk, rfl, rfl⟩ := hrel
    by_cases h1 : k < vn
    · have hi := is15_k (V := V) (k := k) (by rw [HV.out]; exact h1)
      obtain ⟨ra, g, hA, ca, hw⟩ := (HT.out.t : Wt15 Y wr A c V).at_ hi
      subst hA
      rw [Int.toNat_natCast] at ca
      have HW := Lib.hid hw
      have hm1 := row15_us (k := k) HUS.out
      have HL := Lib.hid (len15_v X B R ([] :: V) ((k : Int) + 1) wr HT.out.s (by rw [List.length_cons, HV.out]; omega))
      rw [row15_cons, is15_cons, hi] at HL
      have HAT : Hid (∀ j : Int, Calls Try.prog 13 #[.pointer (some ⟨B, 0, none⟩), .int .i64 ((k : Int) + 1), .int .i64 j] wr fun e w' => e = .returned (.tuple #[.int .i64 (at15 V k j), .bool (pl15 V k j)]) ∧ w' = wr) := Lib.hid (fun j => by
        have h := at15_v X B R ([] :: V) ((k : Int) + 1) j wr HT.out.s (by rw [List.length_cons, HV.out]; omega)
        rw [at15_cons, pl15_cons] at h
        exact h)
      obtain ⟨m, hm⟩ : ∃ m, (row15 V k).length = m := ⟨_, rfl⟩
      rw [hm] at ca HL hm1
      have HM := Lib.hid hm
      clear hi hw hm
      go_wp2_with fail
      go_loopw [16] (fun jv wq => ∃ j : Nat, j ≤ m ∧ jv = .int .i64 j ∧ wq = wr) (fun jv _ => m - (intOf jv).toNat)
      case atStart => exact ⟨0, by omega, rfl, rfl⟩
      case round =>
        obtain ⟨j, hj, rfl, rfl⟩ := hrel
        by_cases h2 : j < m
        · have hp := pl15_k (V := V) (k := k) (j := j) (by rw [HM.out]; exact h2)
          have hx : (row15 V k)[j]? = some (at15 V k j) := by rw [at15, if_pos hp, Int.toNat_natCast, List.getElem?_eq_getElem (by rw [HM.out]; exact h2)]; rfl
          have cb := HW.out.cell hx
          have H := Lib.hid (HAT.out j)
          rw [hp] at H
          obtain ⟨x, hx2⟩ : ∃ x, at15 V k j = x := ⟨_, rfl⟩
          rw [hx2] at cb H
          clear hp hx hx2
          go_wp2_with fail
          refine H.out.mono ?_
          rintro e w5 ⟨rfl, rfl⟩
          go_wp2_with fail
          go_roundw
          case rel => exact ⟨j + 1, by omega, by go_num, trivial⟩
          case measure => simp [intOf]; omega
        · obtain rfl : j = m := by omega
          have hp := pl15_n (V := V) (k := k) (j := j) (by rw [HM.out]; exact Nat.le_refl _)
          have H := Lib.hid (HAT.out j)
          rw [hp] at H
          generalize at15 V k j = x at H
          clear hp
          go_wp2_with fail
          refine H.out.mono ?_
          rintro e w5 ⟨rfl, rfl⟩
          go_wp2_with fail
          refine HL.out.mono ?_
          rintro e w5 ⟨rfl, rfl⟩
          go_wp2_with fail
          go_roundw
          case rel => exact ⟨k + 1, by omega, by go_num, trivial⟩
          case measure => simp [intOf]; omega
    · obtain rfl : k = vn := by omega
      go_wp2_with fail
      exact HQ.out _ _ _ _ _ _ _ _ _ _ _ _ _ _ _ _ _ _ _ _ _ _ _ _ _ _ _ _ _ _ _ _ _ _ _ _ _ _ _ _ _ _ _ _ _ _ _ _ _ _ _ _ _ _ _ _ _ _ _ _ _ _ _ _ _ _ _ _ _ _ _ _ _ _ _ _ _ _
theorem wt15_nil (w : World) : Wt15 (fun _ => False) w none 0 [] := ⟨[], ⟨rfl, World.ownsRow_nil _ _ _ _, fun k g z h => by simp at h, by simp⟩, fun g hg => (by cases hg), fun a ha => (by cases ha), fun j => False.elim⟩
/-- Behind an append of a new array. -/
theorem wt15_app {Y : Nat → Prop} {w w9 : World} {A A' : Option Addr} {c c' g vn : Nat} {V : List (List Int)} {z : List Int} (hv : V.length = vn) {G : List Nat} (h : Rw15 w A c V G) (h1 : ∀ g ∈ G, Y g) (h2 : ∀ a, A = some a → Y a.block) (h3 : ∀ j, Y j → j < w.heap.size)
    (hf : Fr11 (fun j => some j = (Value.slice A V.length c).ownBlock) w w9) (hw : Wd15 w9 g z) (hg : w.heap.size ≤ g) (ho : w9.ownsRow 0 43 1 (.slice A' (V.length + 1) c') (V.length + 1) (cr15 G V ++ [Value.slice (some ⟨g, 0, none⟩) z.length z.length]))
    (hb : (Value.slice A' (V.length + 1) c').ownBlock = (Value.slice A V.length c).ownBlock ∨ ∃ q, w.heap.size ≤ q ∧ (Value.slice A' (V.length + 1) c').ownBlock = some q) :
    ∃ Y', Wt15 Y' w9 A' c' (V ++ [z]) ∧ Fr11 Y w w9 ∧ ∀ j, Y' j → Y j ∨ w.heap.size ≤ j := by
  have hR9 := h.app hf hw hg ho
  have hA9 : ∀ a, A' = some a → Y a.block ∨ w.heap.size ≤ a.block := fun a ha => by
    subst ha
    rcases hb with hb | ⟨q, hq, hb⟩
    · cases A with
      | none => simp [Value.ownBlock] at hb
      | some a0 =>
        have e : a.block = a0.block := by simpa [Value.ownBlock] using hb
        rw [e]
        exact .inl (h2 _ rfl)
    · have e : a.block = q := by simpa [Value.ownBlock] using hb
      exact .inr (by omega)
  have hlt9 : ∀ q ∈ G ++ [g], q < w9.heap.size := fun q hq => by
    obtain ⟨k, hk⟩ := List.getElem?_of_mem hq
    have h1 := (List.getElem?_eq_some_iff.1 hk).1
    exact (hR9.each _ _ _ hk (List.getElem?_eq_getElem (by rw [← hR9.len]; exact h1))).lt
  refine ⟨fun j => Y j ∨ (w.heap.size ≤ j ∧ j < w9.heap.size), ⟨G ++ [g], hR9, fun q hq => ?_, fun a ha => ?_, fun j hj => ?_⟩, ?_, fun j hj => hj.imp id And.left⟩
  · have := hlt9 q hq
    rcases List.mem_append.1 hq with hq | hq
    · exact .inl (h1 q hq)
    · rw [List.mem_singleton] at hq
      subst hq
      exact .inr ⟨hg, this⟩
  · obtain ⟨cur, hc⟩ := hR9.ty ha
    exact (hA9 a ha).imp id fun h => ⟨h, (Array.getElem?_eq_some_iff.1 hc).1⟩
  · rcases hj with hj | hj
    · exact Nat.lt_of_lt_of_le (h3 j hj) hf.size
    · exact hj.2
  · refine hf.mono fun j hj => ?_
    cases A with
    | none => simp [Value.ownBlock] at hj
    | some a =>
      have e : j = a.block := by simpa [Value.ownBlock] using hj
      subst e
      exact h2 _ rfl
set_option maxHeartbeats 16000000 in
theorem apart15_walk (x : Int) (A : Option Addr) (n c : Nat) (L : List A15) (w : World) (hr : Ra15 w A c L) (hn : L.length = n) :
    Calls Try.prog 5 #[.int .i64 x, .slice A n c] w fun e w' => e = .returned (.bool true) ∧ Below w.heap.size w w' := by
  have HN := Lib.hid hn
  have HR := Lib.hid hr
  have HAW := Lib.hid (awake15_v w)
  clear hn hr
  by_cases hx : (x < 0 ∨ 60 < x) ∨ 60 < n
  · by_cases h1 : x < 0
    · clear hx
      go_enter Try.func5, Try.ntmps5
      go_wp2_with fail
      refine HAW.out.mono ?_
      rintro e w1 ⟨rfl, hb⟩
      have HB := Lib.hid hb
      clear hb
      go_wp2_with fail
      go_ret
      exact ⟨rfl, HB.out⟩
    · by_cases h2 : 60 < x
      · clear hx
        go_enter Try.func5, Try.ntmps5
        go_wp2_with fail
        refine HAW.out.mono ?_
        rintro e w1 ⟨rfl, hb⟩
        have HB := Lib.hid hb
        clear hb
        go_wp2_with fail
        go_ret
        exact ⟨rfl, HB.out⟩
      · have h3 : 60 < n := by omega
        clear hx
        go_enter Try.func5, Try.ntmps5
        go_wp2_with fail
        refine HAW.out.mono ?_
        rintro e w1 ⟨rfl, hb⟩
        have HB := Lib.hid hb
        clear hb
        go_wp2_with fail
        go_ret
        exact ⟨rfl, HB.out⟩
  · obtain ⟨R, rfl⟩ : ∃ R : Nat, x = (R : Int) := ⟨x.toNat, by omega⟩
    have hR : R ≤ 60 := by omega
    have hn6 : n ≤ 60 := by omega
    clear hx
    go_enter Try.func5, Try.ntmps5
    go_wp2_with fail
    refine HAW.out.mono ?_
    rintro e w1 ⟨rfl, hb0⟩
    have HB0 := Lib.hid hb0
    have N1 := Lib.hid (new15_v R w1 (by omega))
    clear hb0 HAW
    go_wp2_with fail
    refine N1.out.mono ?_
    rintro e w2 ⟨B, X0, rfl, hp, hb, hx⟩
    have T1 : Hid (Two15 w w2 (tH15 X0 B R [[]]) (tW15 (fun _ => False) none 0 [])) := Lib.hid ⟨HB0.out.trans (hb.mono HB0.out.size), hp, wt15_nil _, fun j hj => Nat.le_trans HB0.out.size (hx j hj), fun _ => False.elim, fun _ _ => id⟩
    clear hp hb hx N1
    go_wp2_with fail
    go_loopw [7, 8] (fun sv iv wr => ∃ (i vn : Nat) (X Y : Nat → Prop) (V : List (List Int)) (A' : Option Addr) (c' : Nat), i ≤ n ∧ iv = .int .i64 i ∧ sv = .slice A' vn c' ∧ Hid (V.length = vn) ∧ vn ≤ i ∧ Hid (Two15 w wr (tH15 X B R ([] :: V)) (tW15 Y A' c' V))) (fun _ iv _ => n - (intOf iv).toNat)
    case atStart => exact ⟨0, 0, X0, fun _ => False, [], none, 0, by omega, rfl, rfl, Lib.hid rfl, by omega, T1⟩
    case round =>
      clear T1
      obtain ⟨i, vn, X, Y, V, A', c', hi, rfl, rfl, HV, hvi, HT⟩ := hrel
      rename World => wr
      by_cases h1 : i < n
      · obtain ⟨y, hy⟩ : ∃ y, L[i]? = some y := ⟨_, List.getElem?_eq_getElem (by rw [HN.out]; exact h1)⟩
        obtain ⟨ad, hA, hat, hok⟩ := (HR.out.keep HT.out.be).at_ hy
        subst hA
        obtain ⟨k, r, j, v⟩ := y
        obtain ⟨a0, a1, a2, a3⟩ := hat
        dsimp only at a0 a1 a2 a3
        have hk0 : 0 ≤ k := hok.1.1
        have hk1 : k < 256 := hok.1.2
        clear hy hok
        go_upto_region 13 with (fail)
        have T2 := Lib.hid (HT.out.keep ((Below.refl _ wr).alloc (Nat.le_refl _) (.cells (ac15 (k, r, j, v)) 31)))
        have HB2 := Lib.hid (World.alloc_heap_new wr (.cells (ac15 (k, r, j, v)) 31))
        have HPX : Hid (¬ X wr.heap.size) := Lib.hid (fun h => Nat.lt_irrefl _ ((tH15 X B R ([] :: V)).lt _ HT.out.s _ h))
        have HPY : Hid (¬ Y wr.heap.size) := Lib.hid (fun h => Nat.lt_irrefl _ ((tW15 Y A' c' V).lt _ HT.out.t _ h))
        change Code.wp _ _ _ _ (wr.alloc (.cells (ac15 (k, r, j, v)) 31))
        generalize (wr.alloc (.cells (ac15 (k, r, j, v)) 31)) = w2 at T2 HB2 ⊢
        generalize (wr.heap.size : Nat) = Pb at HB2 HPX HPY ⊢
        clear a0 a1 a2 a3 HT
        obtain ⟨b0, b1, b2, b3⟩ := abx15 HB2.out
        have hq2 : 0 ≤ k.tmod 2 ∧ k.tmod 2 < 2 := by rw [Int.tmod_eq_emod_of_nonneg hk0]; omega
        rename_i K hK Kc hKc
        have HK := Lib.hid hK
        clear hK
        by_cases q0 : k.tmod 2 = 0
        · clear hq2
          obtain ⟨q, hq8, hqm⟩ := umod15 v (m := 8) (by omega)
          have hwq : IntKind.i64.wrap (q : Int) = q := by rw [IntKind.wrap_i64]; omega
          have hqm : (IntKind.u64.wrap v).tmod 8 = q := hqm
          have HZL : Hid (([] :: V : List (List Int)).length = vn + 1) := Lib.hid (by rw [List.length_cons, HV.out])
          have M1 := Lib.hid (make15_v X B R ([] :: V) (q : Int) _ T2.out.s (by rw [HZL.out]; omega))
          by_cases h5 : R < us15 ([] :: V) + q
          · have e1 : mkE15 R ([] :: V) (q : Int) = 4 := mk15_full (by omega) (by omega)
            have e2 : mkZ15 R ([] :: V) (q : Int) = [] :: V := by rw [mkZ15, e1, if_neg (by decide)]
            have e3 : mkN15 R ([] :: V) (q : Int) = 0 := by rw [mkN15, e1, if_neg (by decide)]
            rw [e1, e2, e3] at M1
            clear e1 e2 e3 h5
            go_wp2_with fail
            refine M1.out.mono ?_
            rintro e w3 ⟨rfl, X1, hp, hf, hx⟩
            have T3 := Lib.hid (T2.out.left (S' := tH15 X1 B R ([] :: V)) hp hf hx)
            clear hp hf hx M1 b0 b1 b2 b3
            go_wp2_with fail
            refine HK.out _ _ (chk15 T3.out HV.out (by omega) ?_)
            intro y4 y15 y16 y17 y18 y19 y20 y21 y22 y123 y124 y125 y126 y127 y128 y129 y130 y131 y132 y133 y134 y135 y136 y137 y138 y139 y140 y141 y142 y143 y144 y145 y146 y147 y148 y149 y150 y151 y152 y153 y154 y155 y156 y157 y158 y159 y160 y161 y162 y163 y164 y165 y166 y167 y168 y169 y170 y171 y172 y173 y174 y175 y176 y177 y178 y179 y180 y181 y182 y183 y184 y185 y186 y187 y188 y189 y190 y191
            dsimp only [Exit.then, Exit.inBlock]
            go_wp2_with fail
            go_roundw
            case rel => exact ⟨i + 1, vn, X1, Y, V, A', c', by omega, by go_num, rfl, HV, by omega, T3⟩
            case measure => simp [intOf]; omega
          · have e1 : mkE15 R ([] :: V) (q : Int) = 0 := mk15_ok (by omega) (by omega)
            have e2 : mkZ15 R ([] :: V) (q : Int) = [] :: (V ++ [List.replicate q 0]) := by rw [mkZ15, e1, if_pos rfl]; rfl
            have e3 : mkN15 R ([] :: V) (q : Int) = ((vn + 1 : Nat) : Int) := by rw [mkN15, e1, if_pos rfl, HZL.out]
            rw [e1, e2, e3] at M1
            clear e1 e2 e3 h5
            have hmk := make15 q (by omega)
            go_wp2_with fail
            refine M1.out.mono ?_
            rintro e w3 ⟨rfl, X1, hp, hf, hx⟩
            have T3 := Lib.hid (T2.out.left (S' := tH15 X1 B R ([] :: (V ++ [List.replicate q 0]))) hp hf hx)
            clear hp hf hx M1 b0 b1 b2 b3
            obtain ⟨G, hG, hG1, hG2, hG3⟩ := (T3.out.t : Wt15 Y w3 A' c' V)
            have HGR := Lib.hid hG
            have HG1 := Lib.hid hG1
            have HG2 := Lib.hid hG2
            have HG3 := Lib.hid hG3
            have HF2 : Hid (Fr11 (fun _ => False) w3 ((w3.alloc (.cells (Array.replicate q (.int .i64 0)) 2)).alloc (.cells #[.slice (some ⟨w3.heap.size, 0, none⟩) q q] 43))) := Lib.hid (((Fr11.refl _ _).alloc _).alloc _)
            have HW2 : Hid (Wd15 ((w3.alloc (.cells (Array.replicate q (.int .i64 0)) 2)).alloc (.cells #[.slice (some ⟨w3.heap.size, 0, none⟩) q q] 43)) w3.heap.size (List.replicate q 0)) := Lib.hid ((wd15_new w3 q).fr ((Fr11.refl (fun _ => False) _).alloc _) id)
            have HC2 : Hid (((w3.alloc (.cells (Array.replicate q (.int .i64 0)) 2)).alloc (.cells #[.slice (some ⟨w3.heap.size, 0, none⟩) q q] 43)).cell? ⟨w3.heap.size + 1, 0, none⟩ = some (.slice (some ⟨w3.heap.size, 0, none⟩) q q)) := Lib.hid (by simp [go_sem])
            have HO2 := Lib.hid ((hG.fr HF2.out (fun _ _ => id) (fun _ _ => id)).row)
            rw [HV.out] at HO2
            clear hG hG1 hG2 hG3
            go_wp2_with (refine wpList_app15 _ rfl (.tmp 70) (.tmp 73) rfl (.slice A' vn c') vn (cr15 G V) rfl HO2.out ⟨w3.heap.size + 1, 0, none⟩ _ rfl rfl HC2.out (by omega) ?_; intro A9 c9 w9 ho9 hg9 hb9; have HO9 := Lib.hid ho9; have HG9 := Lib.hid hg9; have HB9 := Lib.hid hb9; clear ho9 hg9 hb9)
            have HEN : Hid (∃ Y', Wt15 Y' w9 A9 c9 (V ++ [List.replicate q 0]) ∧ Fr11 Y w3 w9 ∧ ∀ j, Y' j → Y j ∨ w3.heap.size ≤ j) := Lib.hid (by
              have ho9 := HO9.out
              have hg9 := HG9.out
              have hb9 := HB9.out
              rw [← HV.out] at ho9 hg9 hb9
              have hown : ∀ j, some j = (Value.slice A' V.length c').ownBlock → j < w3.heap.size := fun j hj => by
                cases A' with
                | none => simp [Value.ownBlock] at hj
                | some a =>
                  have e : j = a.block := by simpa [Value.ownBlock] using hj
                  subst e
                  exact HG3.out _ (HG2.out a rfl)
              have hf9 : Fr11 (fun j => some j = (Value.slice A' V.length c').ownBlock) w3 w9 := (HF2.out.mono fun _ => False.elim).trans (Fr11.of_grown hg9 fun j hj => hj) fun _ _ => id
              have hw9 : Wd15 w9 w3.heap.size (List.replicate q 0) := HW2.out.fr (Fr11.of_grown (X := fun j => some j = (Value.slice A' V.length c').ownBlock) hg9 fun j hj => hj) (fun e => Nat.lt_irrefl _ (hown _ e))
              exact wt15_app HV.out HGR.out HG1.out HG2.out HG3.out hf9 hw9 (Nat.le_refl _) (by rw [List.length_replicate]; exact ho9) (hb9.imp id fun h => ⟨_, by rw [sz15, sz15]; omega, h⟩))
            obtain ⟨Y9, hp, hf, hx⟩ := HEN.out
            have T5 := Lib.hid (T3.out.right (T' := tW15 Y9 A9 c9 (V ++ [List.replicate q 0])) hp hf hx)
            have HV9 : Hid ((V ++ [List.replicate q 0]).length = vn + 1) := Lib.hid (by rw [List.length_append, HV.out]; rfl)
            clear hp hf hx HEN HO9 HG9 HB9 HO2 HC2 HW2 HF2 HG1 HG2 HG3 HGR T3
            refine HK.out _ _ (chk15 T5.out HV9.out (by omega) ?_)
            intro y4 y15 y16 y17 y18 y19 y20 y21 y22 y123 y124 y125 y126 y127 y128 y129 y130 y131 y132 y133 y134 y135 y136 y137 y138 y139 y140 y141 y142 y143 y144 y145 y146 y147 y148 y149 y150 y151 y152 y153 y154 y155 y156 y157 y158 y159 y160 y161 y162 y163 y164 y165 y166 y167 y168 y169 y170 y171 y172 y173 y174 y175 y176 y177 y178 y179 y180 y181 y182 y183 y184 y185 y186 y187 y188 y189 y190 y191
            dsimp only [Exit.then, Exit.inBlock]
            go_wp2_with fail
            go_roundw
            case rel => exact ⟨i + 1, vn + 1, X1, Y9, V ++ [List.replicate q 0], A9, c9, by omega, by go_num, rfl, HV9, by omega, T5⟩
            case measure => simp [intOf]; omega
        · have q1 : k.tmod 2 = 1 := by omega
          clear hq2 q0
          by_cases hv0 : vn = 0
          · subst hv0
            clear b0 b1 b2 b3
            have b0 := (abx15 HB2.out).1
            go_wp2_with fail
            refine HK.out _ _ (chk15 T2.out HV.out (by omega) ?_)
            intro y4 y15 y16 y17 y18 y19 y20 y21 y22 y123 y124 y125 y126 y127 y128 y129 y130 y131 y132 y133 y134 y135 y136 y137 y138 y139 y140 y141 y142 y143 y144 y145 y146 y147 y148 y149 y150 y151 y152 y153 y154 y155 y156 y157 y158 y159 y160 y161 y162 y163 y164 y165 y166 y167 y168 y169 y170 y171 y172 y173 y174 y175 y176 y177 y178 y179 y180 y181 y182 y183 y184 y185 y186 y187 y188 y189 y190 y191
            dsimp only [Exit.then, Exit.inBlock]
            go_wp2_with fail
            go_roundw
            case rel => exact ⟨i + 1, 0, X, Y, V, A', c', by omega, by go_num, rfl, HV, by omega, T2⟩
            case measure => simp [intOf]; omega
          · obtain ⟨k1, hk2, hkm⟩ := umod15 r (m := vn) (by omega)
            have hvw : IntKind.u64.wrap (vn : Int) = vn := by rw [IntKind.wrap_u64]; omega
            have hkw : IntKind.i64.wrap (k1 : Int) = k1 := by rw [IntKind.wrap_i64]; omega
            have hvz : ¬ (vn : Int) = 0 := by omega
            have hi1 := is15_k (V := V) (k := k1) (by rw [HV.out]; exact hk2)
            have hm1 := row15_us (k := k1) (T2.out.s : Hp15 X w2 B R ([] :: V)).us.1
            obtain ⟨ra, g, hA, ca, hw⟩ := (T2.out.t : Wt15 Y w2 A' c' V).at_ hi1
            subst hA
            rw [Int.toNat_natCast] at ca
            obtain ⟨m, hm⟩ : ∃ m, (row15 V k1).length = m := ⟨_, rfl⟩
            rw [hm] at ca hm1
            have HM := Lib.hid hm
            clear hi1 hw hm
            by_cases hm0 : m = 0
            · subst hm0
              go_wp2_with fail
              go_roundw
              case rel => exact ⟨i + 1, vn, X, Y, V, _, c', by omega, by go_num, rfl, HV, by omega, T2⟩
              case measure => simp [intOf]; omega
            · obtain ⟨j1, hj2, hjm⟩ := umod15 j (m := m) (by omega)
              have hmw : IntKind.u64.wrap (m : Int) = m := by rw [IntKind.wrap_u64]; omega
              have hjw : IntKind.i64.wrap (j1 : Int) = j1 := by rw [IntKind.wrap_i64]; omega
              have hmz : ¬ (m : Int) = 0 := by omega
              have HPL : Hid (pl15 V k1 j1 = true) := Lib.hid (pl15_k (by rw [HM.out]; exact hj2))
              go_upto_region 23 with (fail)
              clear b0 b1 b2 b3
              have TD := Lib.hid (T2.out.keep (below_draws (Below.refl w2.heap.size w2) 1))
              have HBD : Hid (w2.drew.heap[Pb]? = some (.cells (ac15 (k, r, j, v)) 31 (0, 0))) := HB2
              change Hid (Two15 w w2.drew _ _) at TD
              refine wp_region_held_drew (S := fun w' => w'.heap[Pb]? = some (.cells (ac15 (k, r, j, v)) 31 (0, 0)) ∧ w'.cell? ⟨ra, k1, none⟩ = some (.slice (some ⟨g, 0, none⟩) m m)) (by kernel_rfl) (⟨HB2.out, ca⟩) (fun hHeld => ?_)
              refine wpAnyH_take (i := 0) (v := ?_) rfl (by kernel_rfl) (by kernel_rfl) (by kernel_rfl) (fun _ _ _ h => h) (Or.inl ⟨by rfl, ?_⟩) (by assumption) ?_
              rotate_left 1
              · intro w _; go_simp; try with_reducible rfl
              try simp only [Act.put, List.getElem_toArray, List.getElem_cons_zero, List.getElem_cons_succ, List.setIfInBounds_toArray, List.set_cons_zero, List.set_cons_succ]
              refine wpAnyH_take (i := 1) (v := ?_) rfl (by kernel_rfl) (by kernel_rfl) (by kernel_rfl) (fun _ _ _ h => h) (Or.inl ⟨by rfl, ?_⟩) (by assumption) ?_
              rotate_left 1
              · intro w hSw; (try dsimp only at hSw); obtain ⟨⟨-, s1, s2, s3⟩, s4⟩ := (⟨abx15 hSw.1, hSw.2⟩ : _ ∧ _); go_simp; try with_reducible rfl
              try simp only [Act.put, List.getElem_toArray, List.getElem_cons_zero, List.getElem_cons_succ, List.setIfInBounds_toArray, List.set_cons_zero, List.set_cons_succ]
              refine wpAnyH_take (i := 2) (v := ?_) rfl (by kernel_rfl) (by kernel_rfl) (by kernel_rfl) (fun _ _ _ h => h) (Or.inl ⟨by rfl, ?_⟩) (by assumption) ?_
              rotate_left 1
              · intro w hSw; (try dsimp only at hSw); obtain ⟨⟨-, s1, s2, s3⟩, s4⟩ := (⟨abx15 hSw.1, hSw.2⟩ : _ ∧ _); go_simp; try with_reducible rfl
              try simp only [Act.put, List.getElem_toArray, List.getElem_cons_zero, List.getElem_cons_succ, List.setIfInBounds_toArray, List.set_cons_zero, List.set_cons_succ]
              refine wpAnyH_take (i := 3) (v := ?_) rfl (by kernel_rfl) (by kernel_rfl) (by kernel_rfl) (fun _ _ _ h => h) (Or.inl ⟨by rfl, ?_⟩) (by assumption) ?_
              rotate_left 1
              · intro w _; go_simp; try with_reducible rfl
              try simp only [Act.put, List.getElem_toArray, List.getElem_cons_zero, List.getElem_cons_succ, List.setIfInBounds_toArray, List.set_cons_zero, List.set_cons_succ]
              refine wpAnyH_take (i := 4) (v := ?_) rfl (by kernel_rfl) (by kernel_rfl) (by kernel_rfl) (fun _ _ _ h => h) (Or.inl ⟨by rfl, ?_⟩) (by assumption) ?_
              rotate_left 1
              · intro w _; go_simp; try with_reducible rfl
              try simp only [Act.put, List.getElem_toArray, List.getElem_cons_zero, List.getElem_cons_succ, List.setIfInBounds_toArray, List.set_cons_zero, List.set_cons_succ]
              refine wpAnyH_take (i := 5) (v := ?_) rfl (by kernel_rfl) (by kernel_rfl) (by kernel_rfl) (fun _ _ _ h => h) (Or.inl ⟨by rfl, ?_⟩) (by assumption) ?_
              rotate_left 1
              · intro w _; go_simp; try with_reducible rfl
              try simp only [Act.put, List.getElem_toArray, List.getElem_cons_zero, List.getElem_cons_succ, List.setIfInBounds_toArray, List.set_cons_zero, List.set_cons_succ]
              refine wpAnyH_take (i := 6) (v := ?_) rfl (by kernel_rfl) (by kernel_rfl) (by kernel_rfl) (fun _ _ _ h => h) (Or.inl ⟨by rfl, ?_⟩) (by assumption) ?_
              rotate_left 1
              · intro w hSw; (try dsimp only at hSw); obtain ⟨⟨-, s1, s2, s3⟩, s4⟩ := (⟨abx15 hSw.1, hSw.2⟩ : _ ∧ _); go_simp; try with_reducible rfl
              try simp only [Act.put, List.getElem_toArray, List.getElem_cons_zero, List.getElem_cons_succ, List.setIfInBounds_toArray, List.set_cons_zero, List.set_cons_succ]
              refine wpAnyH_take (i := 7) (v := ?_) rfl (by kernel_rfl) (by kernel_rfl) (by kernel_rfl) (fun _ _ _ h => h) (Or.inl ⟨by rfl, ?_⟩) (by assumption) ?_
              rotate_left 1
              · intro w _; go_simp; try with_reducible rfl
              try simp only [Act.put, List.getElem_toArray, List.getElem_cons_zero, List.getElem_cons_succ, List.setIfInBounds_toArray, List.set_cons_zero, List.set_cons_succ]
              refine wpAnyH_take (i := 8) (v := ?_) rfl (by kernel_rfl) (by kernel_rfl) (by kernel_rfl) (fun _ _ _ h => h) (Or.inl ⟨by rfl, ?_⟩) (by assumption) ?_
              rotate_left 1
              · intro w hSw; (try dsimp only at hSw); obtain ⟨⟨-, s1, s2, s3⟩, s4⟩ := (⟨abx15 hSw.1, hSw.2⟩ : _ ∧ _); go_simp; try with_reducible rfl
              try simp only [Act.put, List.getElem_toArray, List.getElem_cons_zero, List.getElem_cons_succ, List.setIfInBounds_toArray, List.set_cons_zero, List.set_cons_succ]
              refine wpAnyH_take (i := 9) (v := ?_) rfl (by kernel_rfl) (by kernel_rfl) (by kernel_rfl) (fun _ _ _ h => h) (Or.inl ⟨by rfl, ?_⟩) (by assumption) ?_
              rotate_left 1
              · intro w _; go_simp; try with_reducible rfl
              try simp only [Act.put, List.getElem_toArray, List.getElem_cons_zero, List.getElem_cons_succ, List.setIfInBounds_toArray, List.set_cons_zero, List.set_cons_succ]
              refine wpAnyH_take (i := 10) (v := ?_) rfl (by kernel_rfl) (by kernel_rfl) (by kernel_rfl) (fun _ _ _ h => h) (Or.inl ⟨by rfl, ?_⟩) (by assumption) ?_
              rotate_left 1
              · intro w hSw; (try dsimp only at hSw); obtain ⟨⟨-, s1, s2, s3⟩, s4⟩ := (⟨abx15 hSw.1, hSw.2⟩ : _ ∧ _); go_simp; try with_reducible rfl
              try simp only [Act.put, List.getElem_toArray, List.getElem_cons_zero, List.getElem_cons_succ, List.setIfInBounds_toArray, List.set_cons_zero, List.set_cons_succ]
              refine wpAnyH_take (i := 11) (v := ?_) rfl (by kernel_rfl) (by kernel_rfl) (by kernel_rfl) (fun _ _ _ h => h) (Or.inl ⟨by rfl, ?_⟩) (by assumption) ?_
              rotate_left 1
              · intro w _; go_simp; try with_reducible rfl
              try simp only [Act.put, List.getElem_toArray, List.getElem_cons_zero, List.getElem_cons_succ, List.setIfInBounds_toArray, List.set_cons_zero, List.set_cons_succ]
              refine wpAnyH_done (by kernel_rfl) ?_ _
              clear hHeld
              obtain ⟨b0, b1, b2, b3⟩ := abx15 HBD.out
              have P1 := Lib.hid (put15_v X B R ([] :: V) ((k1 : Int) + 1) j1 v _ TD.out.s (by rw [List.length_cons, HV.out]; omega))
              rw [pl15_cons, put15_cons, HPL.out] at P1
              go_wp2_with fail
              refine P1.out.mono ?_
              rintro e w3 ⟨rfl, hp, hf⟩
              have T3 := Lib.hid (TD.out.left (S' := tH15 X B R ([] :: put15 V k1 j1 v)) hp hf fun _ => .inl)
              have HB4 := Lib.hid ((hf.block Pb (Array.getElem?_eq_some_iff.1 HBD.out).1 HPX.out).trans HBD.out)
              clear hp hf P1 b0 b1 b2 b3 TD HBD ca
              obtain ⟨ra2, g, hA, ca4, hw, hYg, hset⟩ := (T3.out.t : Wt15 Y w3 (some ⟨ra, 0, none⟩) c' V).put HPL.out
              injection hA with hA
              injection hA with hA
              subst hA
              rw [Int.toNat_natCast, HM.out] at ca4
              rw [Int.toNat_natCast] at hset
              obtain ⟨x0, hx0⟩ : ∃ x, (row15 V k1)[j1]? = some x := ⟨_, List.getElem?_eq_getElem (by rw [HM.out]; exact hj2)⟩
              have cb := hw.cell hx0
              have hfz := hw.froz j1
              clear hx0
              have HSET := Lib.hid (T3.out.right (T' := tW15 Y (some ⟨ra, 0, none⟩) c' (put15 V k1 j1 v)) (hset v) ((Fr11.refl Y w3).set (p := ⟨g, j1, none⟩) (.inr hYg) (.int .i64 v)) fun _ => .inl)
              clear hw hYg hset
              go_upto_region 26 with (fail)
              refine wp_region_L [8] (S := fun w' => w'.heap[Pb]? = some (.cells (ac15 (k, r, j, v)) 31 (0, 0)) ∧ w'.cell? ⟨ra, k1, none⟩ = some (.slice (some ⟨g, 0, none⟩) m m)) (by kernel_rfl) (⟨HB4.out, ca4⟩) (fun hHeld => ?_)
              refine wpL_reckon (i := 0) (v := ?_) rfl (by kernel_rfl) (fun _ _ _ h => h) (Or.inl ⟨by rfl, ?_⟩) (Or.inr (by assumption)) ?_
              rotate_left 1
              · intro w _; go_simp; try with_reducible rfl
              try simp only [Act.put, List.getElem_toArray, List.getElem_cons_zero, List.getElem_cons_succ, List.setIfInBounds_toArray, List.set_cons_zero, List.set_cons_succ]
              refine wpL_reckon (i := 1) (v := ?_) rfl (by kernel_rfl) (fun _ _ _ h => h) (Or.inl ⟨by rfl, ?_⟩) (Or.inr (by assumption)) ?_
              rotate_left 1
              · intro w _; go_simp; try with_reducible rfl
              try simp only [Act.put, List.getElem_toArray, List.getElem_cons_zero, List.getElem_cons_succ, List.setIfInBounds_toArray, List.set_cons_zero, List.set_cons_succ]
              refine wpL_reckon (i := 2) (v := ?_) rfl (by kernel_rfl) (fun _ _ _ h => h) (Or.inl ⟨by rfl, ?_⟩) (Or.inr (by assumption)) ?_
              rotate_left 1
              · intro w _; go_simp; try with_reducible rfl
              try simp only [Act.put, List.getElem_toArray, List.getElem_cons_zero, List.getElem_cons_succ, List.setIfInBounds_toArray, List.set_cons_zero, List.set_cons_succ]
              refine wpL_take (i := 3) (v := ?_) rfl (by kernel_rfl) (fun _ _ _ h => h) (Or.inl ⟨by rfl, ?_⟩) (by assumption) ?_
              rotate_left 1
              · intro w hSw; (try dsimp only at hSw); obtain ⟨⟨-, s1, s2, s3⟩, s4⟩ := (⟨abx15 hSw.1, hSw.2⟩ : _ ∧ _); go_simp; try with_reducible rfl
              try simp only [Act.put, List.getElem_toArray, List.getElem_cons_zero, List.getElem_cons_succ, List.setIfInBounds_toArray, List.set_cons_zero, List.set_cons_succ]
              refine wpL_reckon (i := 4) (v := ?_) rfl (by kernel_rfl) (fun _ _ _ h => h) (Or.inl ⟨by rfl, ?_⟩) (Or.inr (by assumption)) ?_
              rotate_left 1
              · intro w _; go_simp; try with_reducible rfl
              try simp only [Act.put, List.getElem_toArray, List.getElem_cons_zero, List.getElem_cons_succ, List.setIfInBounds_toArray, List.set_cons_zero, List.set_cons_succ]
              refine wpL_reckon (i := 5) (v := ?_) rfl (by kernel_rfl) (fun _ _ _ h => h) (Or.inl ⟨by rfl, ?_⟩) (Or.inr (by assumption)) ?_
              rotate_left 1
              · intro w _; go_simp; try with_reducible rfl
              try simp only [Act.put, List.getElem_toArray, List.getElem_cons_zero, List.getElem_cons_succ, List.setIfInBounds_toArray, List.set_cons_zero, List.set_cons_succ]
              refine wpL_take (i := 6) (v := ?_) rfl (by kernel_rfl) (fun _ _ _ h => h) (Or.inl ⟨by rfl, ?_⟩) (by assumption) ?_
              rotate_left 1
              · intro w hSw; (try dsimp only at hSw); obtain ⟨⟨-, s1, s2, s3⟩, s4⟩ := (⟨abx15 hSw.1, hSw.2⟩ : _ ∧ _); go_simp; try with_reducible rfl
              try simp only [Act.put, List.getElem_toArray, List.getElem_cons_zero, List.getElem_cons_succ, List.setIfInBounds_toArray, List.set_cons_zero, List.set_cons_succ]
              refine wpL_reckon (i := 7) (v := ?_) rfl (by kernel_rfl) (fun _ _ _ h => h) (Or.inl ⟨by rfl, ?_⟩) (Or.inr (by assumption)) ?_
              rotate_left 1
              · intro w _; go_simp; try with_reducible rfl
              try simp only [Act.put, List.getElem_toArray, List.getElem_cons_zero, List.getElem_cons_succ, List.setIfInBounds_toArray, List.set_cons_zero, List.set_cons_succ]
              refine wpL_ready (rs := [8]) (by kernel_rfl) (by simp) ?_
              refine AllL.late rfl (by kernel_rfl) (fun K hK => ?_) AllL.nil
              go_simp
              refine hK.out _ _ ?_
              clear hK K
              try simp only [Act.put, List.getElem_toArray, List.getElem_cons_zero, List.getElem_cons_succ, List.setIfInBounds_toArray, List.set_cons_zero, List.set_cons_succ]
              refine wpL_done (by kernel_rfl) ?_ _
              have T6 := Lib.hid (HSET.out.keep (below_draws (Below.refl (w3.setCell ⟨g, j1, none⟩ (.int .i64 v)).heap.size (w3.setCell ⟨g, j1, none⟩ (.int .i64 v))) 1))
              change Hid (Two15 w (w3.setCell ⟨g, j1, none⟩ (.int .i64 v)).drew _ _) at T6
              have HV6 : Hid ((put15 V k1 j1 v).length = vn) := Lib.hid (by rw [len15_put, HV.out])
              clear hHeld HSET cb hfz ca4 HB4 T3
              dsimp only [Exit.then]
              refine HK.out _ _ (chk15 T6.out HV6.out (by omega) ?_)
              intro y4 y15 y16 y17 y18 y19 y20 y21 y22 y123 y124 y125 y126 y127 y128 y129 y130 y131 y132 y133 y134 y135 y136 y137 y138 y139 y140 y141 y142 y143 y144 y145 y146 y147 y148 y149 y150 y151 y152 y153 y154 y155 y156 y157 y158 y159 y160 y161 y162 y163 y164 y165 y166 y167 y168 y169 y170 y171 y172 y173 y174 y175 y176 y177 y178 y179 y180 y181 y182 y183 y184 y185 y186 y187 y188 y189 y190 y191
              dsimp only [Exit.then, Exit.inBlock]
              go_wp2_with fail
              go_roundw
              case rel => exact ⟨i + 1, vn, X, Y, put15 V k1 j1 v, _, c', by omega, by go_num, rfl, HV6, by omega, T6⟩
              case measure => simp [intOf]; omega
      · obtain rfl : i = n := by omega
        go_wp2_with fail
        go_ret
        exact ⟨rfl, HT.out.be⟩
end Go.Proofs.Ytibiocjdkndnhaa
