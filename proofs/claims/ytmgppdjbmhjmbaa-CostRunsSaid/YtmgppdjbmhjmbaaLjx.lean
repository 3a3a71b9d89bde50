/-
  Jx, Jy, Jz, Jza: in one text.
-/
import Derived.Test.YtmgppdjbmhjmbaaLjd
namespace Go.Proofs.Ytmgppdjbmhjmbaa
open Go.RowKit
set_option maxRecDepth 100000
set_option linter.unusedSimpArgs false
set_option linter.unusedVariables false
set_option maxHeartbeats 16000000 in
/-- A trap. -/
theorem trap12_v (v0 v1 v2 v4 v6 v7 v8 v9 v18 v19 v20 v21 v22 v23 v24 v25 v26 v27 v28 v29 v30 v31 v32 v33 v34 v35 v36 v37 v38 v39 v40 v41 v42 v43 v44 v45 v46 v47 v48 v49 v50 v51 v52 v53 v54 v55 v56 v57 v58 v59 v60 v61 v62 v63 v64 v65 v66 v67 v68 v69 v70 v71 v72 v73 v74 v75 v76 v77 v78 v79 v80 v81 v82 v83 v84 v85 v86 v87 v88 v89 v90 v91 v92 v93 v94 v95 v96 v97 v98 v99 v100 v101 v102 v103 v104 v105 v106 v107 v108 v109 v110 v111 v112 v113 v114 v115 v116 v117 v118 v119 v120 v121 v122 v123 v124 v125 v126 v127 v128 v129 v130 v131 v132 v133 v134 v135 v136 v137 v138 v139 v140 v141 v142 v143 v144 v145 v146 v147 v148 v149 v150 v151 v152 v153 v154 v155 v156 v157 v158 v159 v160 v161 v162 v163 v164 v165 v166 v167 v168 v169 v170 v171 v172 v173 v174 v175 v176 v177 v178 v179 v180 v181 v182 v183 v184 v185 v186 v187 v188 v189 v190 v191 v192 v193 v194 v195 v196 v197 v198 v199 v200 v201 v202 v203 v204 v205 v206 v207 v208 v209 v210 v211 v212 v213 v214 v215 v216 v217 v218 v219 v220 v221 v222 v223 v224 v225 v226 v227 v228 v229 v230 v231 v232 v233 v234 v235 v236 v237 v238 v239 v240 v241 v242 v243 v244 v245 v246 v247 v248 v249 v250 v251 v252 v253 v254 v255 v256 v257 v258 v259 v260 v261 v262 v263 v264 v265 v266 v267 v268 v269 v270 v271 v272 v273 v274 v275 v276 v277 v278 v279 v280 v281 v282 v283 v284 v285 v286 v287 v288 v289 v290 v291 v292 v293 v294 v295 v296 v297 v298 v299 v300 v301 : Value) (y : Ma) (d : Md) (ad8 : Addr) (gR c : Nat) (R : List Rr12) (w1 wd : World) (WA : Option Addr) (wn wc B Gb t fc sn ln k0 k p lg f v aq I : Nat) (xp : Prop) (came lf : Nat → Nat) (st : Bool) (Q : List Ff12) (s hi o a bz : Int)
    (hM : Md12 w1 y d ad8 gR c R) (hD : Db w1 B y d) (hz1 : w1.heap.size = B + 1) (H : Ok12 d) (hX : Xs12 d k0 xp) (hwn : wn ≤ 9223372036854775807) (hW : Bw12 w1 WA wn) (hsn : d.s.length = sn) (hs40 : sn ≤ 40) (ht : Q.length = t) (ht5 : t ≤ 5000) (hln : (co11 d k).length = ln) (hln3 : ln ≤ 300)
    (hmi : Mi12 B w1 wd d Gb (t + 1) fc (Q.reverse ++ [⟨⟨k, p, came, lf, st⟩, lg⟩]) ((f : Int) + 1) s v) (hru : Ru12 d k0 xp ⟨k, p, came, lf, st⟩ (Q.map (·.z)) f v) (hid : Ix12 wd I o a bz) (hIB : B + 2 < I) (ho : iO9 (co11 d k) p = o) (ha : iA9 (co11 d k) p = a) (haq : aq ≤ f) (hf5 : f ≤ 5000) (hv5 : v ≤ 1000000)
    (hs0 : 0 ≤ s) (hs1 : s ≤ (ce12 d k0).2.1) (hbd : ∀ z, z ∈ d.s → z.1.a.length ≤ 100 ∧ z.1.l.length ≤ 100 ∧ z.2.length ≤ 300) (Q0 : Exit → Act → World → Prop) (hP : ∀ c (a : Act) (o : Option Tmp) (v : Value) w, Q0 (.panic c) (a.put o v) w → Q0 (.panic c) a w) (hO : o = 32)
    (hR : ∀ (y20 y186 y187 y188 y189 y190 y191 y192 y193 y194 y195 y196 y197 y198 y199 y200 y201 y202 y203 y204 y205 y206 y207 y208 y209 y210 y211 y212 y213 y214 y215 y216 y217 y218 y219 y220 y221 y222 y223 y224 y225 y226 y227 y228 y229 y230 y231 y232 y233 y234 y235 y236 y237 y238 y239 y240 y241 y242 y243 y244 y245 y246 y247 y248 y249 y250 y251 y252 y253 y254 y255 y256 y257 y258 y259 y260 y261 y262 y263 y264 y265 y266 y267 y268 y269 y270 y271 y272 y273 y274 y275 y276 y277 y278 y279 y280 y281 y282 y283 y284 y285 y286 y287 y288 y289 y290 y291 y292 y293 y294 y295 y296 y297 y298 y299 y300 fv qv : Value) (w' : World), On12 B w1 w' d k0 xp → Q0 .ret ⟨#[v0, v1, v2, .slice WA wn wc, v4, .pointer (some ⟨B, 0, none⟩), v6, v7, v8, v9, .pointer (some ⟨B + 1, 0, none⟩), .pointer (some ⟨B + 2, 0, none⟩), fv, qv, .int .i64 t, .pointer (some ⟨Gb, t * 3, none⟩), .pointer (some ⟨I, 0, none⟩), .int .i64 hi, v18, v19, y20, v21, v22, v23, v24, v25, v26, v27, v28, v29, v30, v31, v32, v33, v34, v35, v36, v37, v38, v39, v40, v41, v42, v43, v44, v45, v46, v47, v48, v49, v50, v51, v52, v53, v54, v55, v56, v57, v58, v59, v60, v61, v62, v63, v64, v65, v66, v67, v68, v69, v70, v71, v72, v73, v74, v75, v76, v77, v78, v79, v80, v81, v82, v83, v84, v85, v86, v87, v88, v89, v90, v91, v92, v93, v94, v95, v96, v97, v98, v99, v100, v101, v102, v103, v104, v105, v106, v107, v108, v109, v110, v111, v112, v113, v114, v115, v116, v117, v118, v119, v120, v121, v122, v123, v124, v125, v126, v127, v128, v129, v130, v131, v132, v133, v134, v135, v136, v137, v138, v139, v140, v141, v142, v143, v144, v145, v146, v147, v148, v149, v150, v151, v152, v153, v154, v155, v156, v157, v158, v159, v160, v161, v162, v163, v164, v165, v166, v167, v168, v169, v170, v171, v172, v173, v174, v175, v176, v177, v178, v179, v180, v181, v182, v183, v184, v185, y186, y187, y188, y189, y190, y191, y192, y193, y194, y195, y196, y197, y198, y199, y200, y201, y202, y203, y204, y205, y206, y207, y208, y209, y210, y211, y212, y213, y214, y215, y216, y217, y218, y219, y220, y221, y222, y223, y224, y225, y226, y227, y228, y229, y230, y231, y232, y233, y234, y235, y236, y237, y238, y239, y240, y241, y242, y243, y244, y245, y246, y247, y248, y249, y250, y251, y252, y253, y254, y255, y256, y257, y258, y259, y260, y261, y262, y263, y264, y265, y266, y267, y268, y269, y270, y271, y272, y273, y274, y275, y276, y277, y278, y279, y280, y281, y282, y283, y284, y285, y286, y287, y288, y289, y290, y291, y292, y293, y294, y295, y296, y297, y298, y299, y300, v301], []⟩ w') :
    Code.wp Try.prog (cut12 [1, 1, 1, 1, 0, 2, 2, 1, 2, 1, 1, 1, 1, 1, 1, 1, 1, 1] (Try.f10.body.getD .skip)) Q0 ⟨#[v0, v1, v2, .slice WA wn wc, v4, .pointer (some ⟨B, 0, none⟩), v6, v7, v8, v9, .pointer (some ⟨B + 1, 0, none⟩), .pointer (some ⟨B + 2, 0, none⟩), .slice (some ⟨Gb, 0, none⟩) (t + 1) fc, .int .i64 aq, .int .i64 t, .pointer (some ⟨Gb, t * 3, none⟩), .pointer (some ⟨I, 0, none⟩), .int .i64 hi, v18, v19, v20, v21, v22, v23, v24, v25, v26, v27, v28, v29, v30, v31, v32, v33, v34, v35, v36, v37, v38, v39, v40, v41, v42, v43, v44, v45, v46, v47, v48, v49, v50, v51, v52, v53, v54, v55, v56, v57, v58, v59, v60, v61, v62, v63, v64, v65, v66, v67, v68, v69, v70, v71, v72, v73, v74, v75, v76, v77, v78, v79, v80, v81, v82, v83, v84, v85, v86, v87, v88, v89, v90, v91, v92, v93, v94, v95, v96, v97, v98, v99, v100, v101, v102, v103, v104, v105, v106, v107, v108, v109, v110, v111, v112, v113, v114, v115, v116, v117, v118, v119, v120, v121, v122, v123, v124, v125, v126, v127, v128, v129, v130, v131, v132, v133, v134, v135, v136, v137, v138, v139, v140, v141, v142, v143, v144, v145, v146, v147, v148, v149, v150, v151, v152, v153, v154, v155, v156, v157, v158, v159, v160, v161, v162, v163, v164, v165, v166, v167, v168, v169, v170, v171, v172, v173, v174, v175, v176, v177, v178, v179, v180, v181, v182, v183, v184, v185, v186, v187, v188, v189, v190, v191, v192, v193, v194, v195, v196, v197, v198, v199, v200, v201, v202, v203, v204, v205, v206, v207, v208, v209, v210, v211, v212, v213, v214, v215, v216, v217, v218, v219, v220, v221, v222, v223, v224, v225, v226, v227, v228, v229, v230, v231, v232, v233, v234, v235, v236, v237, v238, v239, v240, v241, v242, v243, v244, v245, v246, v247, v248, v249, v250, v251, v252, v253, v254, v255, v256, v257, v258, v259, v260, v261, v262, v263, v264, v265, v266, v267, v268, v269, v270, v271, v272, v273, v274, v275, v276, v277, v278, v279, v280, v281, v282, v283, v284, v285, v286, v287, v288, v289, v290, v291, v292, v293, v294, v295, v296, v297, v298, v299, v300, v301], []⟩ wd := by
  obtain ⟨yG, yg, yP, yp, AA, cc, ZZ⟩ := y
  obtain rfl : AA = some ad8 := hM.a
  have HM1 := Lib.hid hM
  have HD1 := Lib.hid hD
  have HZ1 := Lib.hid hz1
  have HH := Lib.hid H
  have HX := Lib.hid hX
  have HW1 := Lib.hid hW
  have HSN := Lib.hid hsn
  have HTQ := Lib.hid ht
  have HLN := Lib.hid hln
  have HMD := Lib.hid hmi
  have HRU := Lib.hid hru
  have HID := Lib.hid hid
  have HO := Lib.hid ho
  have HA := Lib.hid ha
  have HS0 := Lib.hid hs0
  have HS1 := Lib.hid hs1
  have HBD := Lib.hid hbd
  have HP := Lib.hid hP
  have hpp : p < ln := by rw [← hln]; exact hru.1.on.lt
  have hx0 : (Q.reverse ++ [(⟨⟨k, p, came, lf, st⟩, lg⟩ : Ff12)])[t]? = some ⟨⟨k, p, came, lf, st⟩, lg⟩ := by rw [← ht, ← List.length_reverse]; exact at_last _ _
  have HX0 := Lib.hid hx0
  obtain ⟨x0, x1, x2⟩ := hmi.sf.at_ hx0
  dsimp only at x0 x1 x2
  rw [show fo12 d ⟨k, p, came, lf, st⟩ = co11 d k from rfl, hln] at x2
  have hgB := hmi.sf.gB
  have HFC : Hid (t + 1 ≤ fc) := Lib.hid (by
    rcases hmi.sf.own.2 with ⟨h, -⟩ | ⟨g, cap, cur, h, -, -, h2, -⟩
    · cases h
    · injection h with e1 e2 e3
      subst e3
      exact h2)
  have hlB := (hmi.sf.lf _ (List.mem_append_right _ (List.mem_singleton.2 rfl))).1
  dsimp only at hlB
  obtain ⟨t0, t1, t2, t3⟩ := hmi.tk.cells
  have tf := hmi.tk.froz
  have xf := hmi.sf.froz
  obtain ⟨i0, i1, i2⟩ := hid.cells
  have e1 : IntKind.i64.wrap ((p : Int) + 1) = (p : Int) + 1 := wrap_small (by omega)
  clear hM hD hz1 H hX hW hsn ht hln hmi hru hid ho ha hbd hP hx0
  have HR0 := Lib.hid hR
  clear hR
  conv => arg 2; whnf
  subst hO
  have HNT := Lib.hid (HRU.out.notx HH.out HX.out (.inr (.inr HO.out)))
  obtain ⟨b1, b2, b3⟩ := HRU.out.bound HH.out
  have HB1 := Lib.hid b1
  have HB2 := Lib.hid b2
  have HDN := Lib.hid HMD.out.done
  have r := HMD.out.rs.froz
  obtain ⟨r0, r1, r2, r3⟩ := HMD.out.rs.cells
  go_wp2_with fail
  exact HR0.out _ _ _ _ _ _ _ _ _ _ _ _ _ _ _ _ _ _ _ _ _ _ _ _ _ _ _ _ _ _ _ _ _ _ _ _ _ _ _ _ _ _ _ _ _ _ _ _ _ _ _ _ _ _ _ _ _ _ _ _ _ _ _ _ _ _ _ _ _ _ _ _ _ _ _ _ _ _ _ _ _ _ _ _ _ _ _ _ _ _ _ _ _ _ _ _ _ _ _ _ _ _ _ _ _ _ _ _ _ _ _ _ _ _ _ _ _ _ _ ⟨_, _, _, HDN.out.1, HB1.out, HS1.out, HB2.out, fun hx => absurd hx HNT.out, HDN.out.2⟩
set_option maxHeartbeats 16000000 in
/-- Any other operation. -/
theorem else12_v (v0 v1 v2 v4 v6 v7 v8 v9 v18 v19 v20 v21 v22 v23 v24 v25 v26 v27 v28 v29 v30 v31 v32 v33 v34 v35 v36 v37 v38 v39 v40 v41 v42 v43 v44 v45 v46 v47 v48 v49 v50 v51 v52 v53 v54 v55 v56 v57 v58 v59 v60 v61 v62 v63 v64 v65 v66 v67 v68 v69 v70 v71 v72 v73 v74 v75 v76 v77 v78 v79 v80 v81 v82 v83 v84 v85 v86 v87 v88 v89 v90 v91 v92 v93 v94 v95 v96 v97 v98 v99 v100 v101 v102 v103 v104 v105 v106 v107 v108 v109 v110 v111 v112 v113 v114 v115 v116 v117 v118 v119 v120 v121 v122 v123 v124 v125 v126 v127 v128 v129 v130 v131 v132 v133 v134 v135 v136 v137 v138 v139 v140 v141 v142 v143 v144 v145 v146 v147 v148 v149 v150 v151 v152 v153 v154 v155 v156 v157 v158 v159 v160 v161 v162 v163 v164 v165 v166 v167 v168 v169 v170 v171 v172 v173 v174 v175 v176 v177 v178 v179 v180 v181 v182 v183 v184 v185 v186 v187 v188 v189 v190 v191 v192 v193 v194 v195 v196 v197 v198 v199 v200 v201 v202 v203 v204 v205 v206 v207 v208 v209 v210 v211 v212 v213 v214 v215 v216 v217 v218 v219 v220 v221 v222 v223 v224 v225 v226 v227 v228 v229 v230 v231 v232 v233 v234 v235 v236 v237 v238 v239 v240 v241 v242 v243 v244 v245 v246 v247 v248 v249 v250 v251 v252 v253 v254 v255 v256 v257 v258 v259 v260 v261 v262 v263 v264 v265 v266 v267 v268 v269 v270 v271 v272 v273 v274 v275 v276 v277 v278 v279 v280 v281 v282 v283 v284 v285 v286 v287 v288 v289 v290 v291 v292 v293 v294 v295 v296 v297 v298 v299 v300 v301 : Value) (y : Ma) (d : Md) (ad8 : Addr) (gR c : Nat) (R : List Rr12) (w1 wd : World) (WA : Option Addr) (wn wc B Gb t fc sn ln k0 k p lg f v aq I : Nat) (xp : Prop) (came lf : Nat → Nat) (st : Bool) (Q : List Ff12) (s hi o a bz : Int)
    (hM : Md12 w1 y d ad8 gR c R) (hD : Db w1 B y d) (hz1 : w1.heap.size = B + 1) (H : Ok12 d) (hX : Xs12 d k0 xp) (hwn : wn ≤ 9223372036854775807) (hW : Bw12 w1 WA wn) (hsn : d.s.length = sn) (hs40 : sn ≤ 40) (ht : Q.length = t) (ht5 : t ≤ 5000) (hln : (co11 d k).length = ln) (hln3 : ln ≤ 300)
    (hmi : Mi12 B w1 wd d Gb (t + 1) fc (Q.reverse ++ [⟨⟨k, p, came, lf, st⟩, lg⟩]) ((f : Int) + 1) s v) (hru : Ru12 d k0 xp ⟨k, p, came, lf, st⟩ (Q.map (·.z)) f v) (hid : Ix12 wd I o a bz) (hIB : B + 2 < I) (ho : iO9 (co11 d k) p = o) (ha : iA9 (co11 d k) p = a) (haq : aq ≤ f) (hf5 : f ≤ 5000) (hv5 : v ≤ 1000000)
    (hs0 : 0 ≤ s) (hs1 : s ≤ (ce12 d k0).2.1) (hbd : ∀ z, z ∈ d.s → z.1.a.length ≤ 100 ∧ z.1.l.length ≤ 100 ∧ z.2.length ≤ 300) (Q0 : Exit → Act → World → Prop) (hP : ∀ c (a : Act) (o : Option Tmp) (v : Value) w, Q0 (.panic c) (a.put o v) w → Q0 (.panic c) a w) (h32 : o ≠ 32) (h31 : o ≠ 31) (h30 : o ≠ 30) (h22 : o ≠ 22) (h28 : o ≠ 28) (h29 : o ≠ 29) (h26 : o ≠ 26) (h27 : o ≠ 27)
    (hN : ∀ (y20 y186 y187 y188 y189 y190 y191 y192 y193 y194 y195 y196 y197 y198 y199 y200 y201 y202 y203 y204 y205 y206 y207 y208 y209 y210 y211 y212 y213 y214 y215 y216 y217 y218 y219 y220 y221 y222 y223 y224 y225 y226 y227 y228 y229 y230 y231 y232 y233 y234 y235 y236 y237 y238 y239 y240 y241 y242 y243 y244 y245 y246 y247 y248 y249 y250 y251 y252 y253 y254 y255 y256 y257 y258 y259 y260 y261 y262 y263 y264 y265 y266 y267 y268 y269 y270 y271 y272 y273 y274 y275 y276 y277 y278 y279 y280 y281 y282 y283 y284 y285 y286 y287 y288 y289 y290 y291 y292 y293 y294 y295 y296 y297 y298 y299 y300 fv qv : Value) (w' : World), Nx12 B w1 w' d k0 xp (f + 1) fv qv → Q0 .normal ⟨#[v0, v1, v2, .slice WA wn wc, v4, .pointer (some ⟨B, 0, none⟩), v6, v7, v8, v9, .pointer (some ⟨B + 1, 0, none⟩), .pointer (some ⟨B + 2, 0, none⟩), fv, qv, .int .i64 t, .pointer (some ⟨Gb, t * 3, none⟩), .pointer (some ⟨I, 0, none⟩), .int .i64 hi, v18, v19, y20, v21, v22, v23, v24, v25, v26, v27, v28, v29, v30, v31, v32, v33, v34, v35, v36, v37, v38, v39, v40, v41, v42, v43, v44, v45, v46, v47, v48, v49, v50, v51, v52, v53, v54, v55, v56, v57, v58, v59, v60, v61, v62, v63, v64, v65, v66, v67, v68, v69, v70, v71, v72, v73, v74, v75, v76, v77, v78, v79, v80, v81, v82, v83, v84, v85, v86, v87, v88, v89, v90, v91, v92, v93, v94, v95, v96, v97, v98, v99, v100, v101, v102, v103, v104, v105, v106, v107, v108, v109, v110, v111, v112, v113, v114, v115, v116, v117, v118, v119, v120, v121, v122, v123, v124, v125, v126, v127, v128, v129, v130, v131, v132, v133, v134, v135, v136, v137, v138, v139, v140, v141, v142, v143, v144, v145, v146, v147, v148, v149, v150, v151, v152, v153, v154, v155, v156, v157, v158, v159, v160, v161, v162, v163, v164, v165, v166, v167, v168, v169, v170, v171, v172, v173, v174, v175, v176, v177, v178, v179, v180, v181, v182, v183, v184, v185, y186, y187, y188, y189, y190, y191, y192, y193, y194, y195, y196, y197, y198, y199, y200, y201, y202, y203, y204, y205, y206, y207, y208, y209, y210, y211, y212, y213, y214, y215, y216, y217, y218, y219, y220, y221, y222, y223, y224, y225, y226, y227, y228, y229, y230, y231, y232, y233, y234, y235, y236, y237, y238, y239, y240, y241, y242, y243, y244, y245, y246, y247, y248, y249, y250, y251, y252, y253, y254, y255, y256, y257, y258, y259, y260, y261, y262, y263, y264, y265, y266, y267, y268, y269, y270, y271, y272, y273, y274, y275, y276, y277, y278, y279, y280, y281, y282, y283, y284, y285, y286, y287, y288, y289, y290, y291, y292, y293, y294, y295, y296, y297, y298, y299, y300, v301], []⟩ w') :
    Code.wp Try.prog (cut12 [1, 1, 1, 1, 0, 2, 2, 1, 2, 1, 1, 1, 1, 1, 1, 1, 1, 1] (Try.f10.body.getD .skip)) Q0 ⟨#[v0, v1, v2, .slice WA wn wc, v4, .pointer (some ⟨B, 0, none⟩), v6, v7, v8, v9, .pointer (some ⟨B + 1, 0, none⟩), .pointer (some ⟨B + 2, 0, none⟩), .slice (some ⟨Gb, 0, none⟩) (t + 1) fc, .int .i64 aq, .int .i64 t, .pointer (some ⟨Gb, t * 3, none⟩), .pointer (some ⟨I, 0, none⟩), .int .i64 hi, v18, v19, v20, v21, v22, v23, v24, v25, v26, v27, v28, v29, v30, v31, v32, v33, v34, v35, v36, v37, v38, v39, v40, v41, v42, v43, v44, v45, v46, v47, v48, v49, v50, v51, v52, v53, v54, v55, v56, v57, v58, v59, v60, v61, v62, v63, v64, v65, v66, v67, v68, v69, v70, v71, v72, v73, v74, v75, v76, v77, v78, v79, v80, v81, v82, v83, v84, v85, v86, v87, v88, v89, v90, v91, v92, v93, v94, v95, v96, v97, v98, v99, v100, v101, v102, v103, v104, v105, v106, v107, v108, v109, v110, v111, v112, v113, v114, v115, v116, v117, v118, v119, v120, v121, v122, v123, v124, v125, v126, v127, v128, v129, v130, v131, v132, v133, v134, v135, v136, v137, v138, v139, v140, v141, v142, v143, v144, v145, v146, v147, v148, v149, v150, v151, v152, v153, v154, v155, v156, v157, v158, v159, v160, v161, v162, v163, v164, v165, v166, v167, v168, v169, v170, v171, v172, v173, v174, v175, v176, v177, v178, v179, v180, v181, v182, v183, v184, v185, v186, v187, v188, v189, v190, v191, v192, v193, v194, v195, v196, v197, v198, v199, v200, v201, v202, v203, v204, v205, v206, v207, v208, v209, v210, v211, v212, v213, v214, v215, v216, v217, v218, v219, v220, v221, v222, v223, v224, v225, v226, v227, v228, v229, v230, v231, v232, v233, v234, v235, v236, v237, v238, v239, v240, v241, v242, v243, v244, v245, v246, v247, v248, v249, v250, v251, v252, v253, v254, v255, v256, v257, v258, v259, v260, v261, v262, v263, v264, v265, v266, v267, v268, v269, v270, v271, v272, v273, v274, v275, v276, v277, v278, v279, v280, v281, v282, v283, v284, v285, v286, v287, v288, v289, v290, v291, v292, v293, v294, v295, v296, v297, v298, v299, v300, v301], []⟩ wd := by
  obtain ⟨yG, yg, yP, yp, AA, cc, ZZ⟩ := y
  obtain rfl : AA = some ad8 := hM.a
  have HM1 := Lib.hid hM
  have HD1 := Lib.hid hD
  have HZ1 := Lib.hid hz1
  have HH := Lib.hid H
  have HX := Lib.hid hX
  have HW1 := Lib.hid hW
  have HSN := Lib.hid hsn
  have HTQ := Lib.hid ht
  have HLN := Lib.hid hln
  have HMD := Lib.hid hmi
  have HRU := Lib.hid hru
  have HID := Lib.hid hid
  have HO := Lib.hid ho
  have HA := Lib.hid ha
  have HS0 := Lib.hid hs0
  have HS1 := Lib.hid hs1
  have HBD := Lib.hid hbd
  have HP := Lib.hid hP
  have hpp : p < ln := by rw [← hln]; exact hru.1.on.lt
  have hx0 : (Q.reverse ++ [(⟨⟨k, p, came, lf, st⟩, lg⟩ : Ff12)])[t]? = some ⟨⟨k, p, came, lf, st⟩, lg⟩ := by rw [← ht, ← List.length_reverse]; exact at_last _ _
  have HX0 := Lib.hid hx0
  obtain ⟨x0, x1, x2⟩ := hmi.sf.at_ hx0
  dsimp only at x0 x1 x2
  rw [show fo12 d ⟨k, p, came, lf, st⟩ = co11 d k from rfl, hln] at x2
  have hgB := hmi.sf.gB
  have HFC : Hid (t + 1 ≤ fc) := Lib.hid (by
    rcases hmi.sf.own.2 with ⟨h, -⟩ | ⟨g, cap, cur, h, -, -, h2, -⟩
    · cases h
    · injection h with e1 e2 e3
      subst e3
      exact h2)
  have hlB := (hmi.sf.lf _ (List.mem_append_right _ (List.mem_singleton.2 rfl))).1
  dsimp only at hlB
  obtain ⟨t0, t1, t2, t3⟩ := hmi.tk.cells
  have tf := hmi.tk.froz
  have xf := hmi.sf.froz
  obtain ⟨i0, i1, i2⟩ := hid.cells
  have e1 : IntKind.i64.wrap ((p : Int) + 1) = (p : Int) + 1 := wrap_small (by omega)
  clear hM hD hz1 H hX hW hsn ht hln hmi hru hid ho ha hbd hP hx0
  have HN0 := Lib.hid hN
  clear hN
  conv => arg 2; whnf
  have hn26 := Lib.hid h26
  have g32 : (o == 32) = false := by simpa using h32
  have g31 : (o == 31) = false := by simpa using h31
  have g30 : (o == 30) = false := by simpa using h30
  have g22 : (o == 22) = false := by simpa using h22
  have g28 : (o == 28) = false := by simpa using h28
  have g29 : (o == 29) = false := by simpa using h29
  have g26 : (o == 26) = false := by simpa using h26
  have g27 : (o == 27) = false := by simpa using h27
  have HOO := HO.out
  have hnx := HRU.out.next HH.out (w := 0) (by show iO9 (co11 d k) p ≠ 26; omega) (by show iO9 (co11 d k) p ≠ 27; omega) (by show iO9 (co11 d k) p ≠ 28; omega) (by show iO9 (co11 d k) p ≠ 29; omega) (by show iO9 (co11 d k) p ≠ 30; omega) (by show iO9 (co11 d k) p ≠ 31; omega) (by show iO9 (co11 d k) p ≠ 32; omega) (by rw [if_neg (by show iO9 (co11 d k) p ≠ 22; omega)])
  have HNX := Lib.hid (Nx12.on HTQ.out (z := (⟨k, p, came, lf, st⟩ : Fz).to (p + 1) lf st) HMD.out HS0.out HS1.out (Nat.le_succ_of_le haq) hnx.2 rfl rfl)
  clear hnx HOO h26 h27 h28 h29 h30 h31 h32 h22
  go_wp2_with fail
  exact HN0.out _ _ _ _ _ _ _ _ _ _ _ _ _ _ _ _ _ _ _ _ _ _ _ _ _ _ _ _ _ _ _ _ _ _ _ _ _ _ _ _ _ _ _ _ _ _ _ _ _ _ _ _ _ _ _ _ _ _ _ _ _ _ _ _ _ _ _ _ _ _ _ _ _ _ _ _ _ _ _ _ _ _ _ _ _ _ _ _ _ _ _ _ _ _ _ _ _ _ _ _ _ _ _ _ _ _ _ _ _ _ _ _ _ _ _ _ _ _ _ HNX.out
set_option maxHeartbeats 16000000 in
/-- The end of all. -/
theorem over12_v (v0 v1 v2 v4 v6 v7 v8 v9 v18 v19 v20 v21 v22 v23 v24 v25 v26 v27 v28 v29 v30 v31 v32 v33 v34 v35 v36 v37 v38 v39 v40 v41 v42 v43 v44 v45 v46 v47 v48 v49 v50 v51 v52 v53 v54 v55 v56 v57 v58 v59 v60 v61 v62 v63 v64 v65 v66 v67 v68 v69 v70 v71 v72 v73 v74 v75 v76 v77 v78 v79 v80 v81 v82 v83 v84 v85 v86 v87 v88 v89 v90 v91 v92 v93 v94 v95 v96 v97 v98 v99 v100 v101 v102 v103 v104 v105 v106 v107 v108 v109 v110 v111 v112 v113 v114 v115 v116 v117 v118 v119 v120 v121 v122 v123 v124 v125 v126 v127 v128 v129 v130 v131 v132 v133 v134 v135 v136 v137 v138 v139 v140 v141 v142 v143 v144 v145 v146 v147 v148 v149 v150 v151 v152 v153 v154 v155 v156 v157 v158 v159 v160 v161 v162 v163 v164 v165 v166 v167 v168 v169 v170 v171 v172 v173 v174 v175 v176 v177 v178 v179 v180 v181 v182 v183 v184 v185 v186 v187 v188 v189 v190 v191 v192 v193 v194 v195 v196 v197 v198 v199 v200 v201 v202 v203 v204 v205 v206 v207 v208 v209 v210 v211 v212 v213 v214 v215 v216 v217 v218 v219 v220 v221 v222 v223 v224 v225 v226 v227 v228 v229 v230 v231 v232 v233 v234 v235 v236 v237 v238 v239 v240 v241 v242 v243 v244 v245 v246 v247 v248 v249 v250 v251 v252 v253 v254 v255 v256 v257 v258 v259 v260 v261 v262 v263 v264 v265 v266 v267 v268 v269 v270 v271 v272 v273 v274 v275 v276 v277 v278 v279 v280 v281 v282 v283 v284 v285 v286 v287 v288 v289 v290 v291 v292 v293 v294 v295 v296 v297 v298 v299 v300 v301 : Value) (y : Ma) (d : Md) (ad8 : Addr) (gR c : Nat) (R : List Rr12) (w1 wd : World) (WA : Option Addr) (wn wc B Gb t fc sn ln k0 k p lg f v aq I : Nat) (xp : Prop) (came lf : Nat → Nat) (st : Bool) (Q : List Ff12) (s hi o a bz : Int)
    (hM : Md12 w1 y d ad8 gR c R) (hD : Db w1 B y d) (hz1 : w1.heap.size = B + 1) (H : Ok12 d) (hX : Xs12 d k0 xp) (hwn : wn ≤ 9223372036854775807) (hW : Bw12 w1 WA wn) (hsn : d.s.length = sn) (hs40 : sn ≤ 40) (ht : Q.length = t) (ht5 : t ≤ 5000) (hln : (co11 d k).length = ln) (hln3 : ln ≤ 300)
    (hmi : Mi12 B w1 wd d Gb (t + 1) fc (Q.reverse ++ [⟨⟨k, p, came, lf, st⟩, lg⟩]) ((f : Int) + 1) s v) (hru : Ru12 d k0 xp ⟨k, p, came, lf, st⟩ (Q.map (·.z)) f v) (hid : Ix12 wd I o a bz) (hIB : B + 2 < I) (ho : iO9 (co11 d k) p = o) (ha : iA9 (co11 d k) p = a) (haq : aq ≤ f) (hf5 : f ≤ 5000) (hv5 : v ≤ 1000000)
    (hs0 : 0 ≤ s) (hs1 : s ≤ (ce12 d k0).2.1) (hbd : ∀ z, z ∈ d.s → z.1.a.length ≤ 100 ∧ z.1.l.length ≤ 100 ∧ z.2.length ≤ 300) (Q0 : Exit → Act → World → Prop) (hP : ∀ c (a : Act) (o : Option Tmp) (v : Value) w, Q0 (.panic c) (a.put o v) w → Q0 (.panic c) a w) (hO : o = 31) (ht0 : t = 0)
    (hR : ∀ (y20 y186 y187 y188 y189 y190 y191 y192 y193 y194 y195 y196 y197 y198 y199 y200 y201 y202 y203 y204 y205 y206 y207 y208 y209 y210 y211 y212 y213 y214 y215 y216 y217 y218 y219 y220 y221 y222 y223 y224 y225 y226 y227 y228 y229 y230 y231 y232 y233 y234 y235 y236 y237 y238 y239 y240 y241 y242 y243 y244 y245 y246 y247 y248 y249 y250 y251 y252 y253 y254 y255 y256 y257 y258 y259 y260 y261 y262 y263 y264 y265 y266 y267 y268 y269 y270 y271 y272 y273 y274 y275 y276 y277 y278 y279 y280 y281 y282 y283 y284 y285 y286 y287 y288 y289 y290 y291 y292 y293 y294 y295 y296 y297 y298 y299 y300 fv qv : Value) (w' : World), On12 B w1 w' d k0 xp → Q0 .ret ⟨#[v0, v1, v2, .slice WA wn wc, v4, .pointer (some ⟨B, 0, none⟩), v6, v7, v8, v9, .pointer (some ⟨B + 1, 0, none⟩), .pointer (some ⟨B + 2, 0, none⟩), fv, qv, .int .i64 t, .pointer (some ⟨Gb, t * 3, none⟩), .pointer (some ⟨I, 0, none⟩), .int .i64 hi, v18, v19, y20, v21, v22, v23, v24, v25, v26, v27, v28, v29, v30, v31, v32, v33, v34, v35, v36, v37, v38, v39, v40, v41, v42, v43, v44, v45, v46, v47, v48, v49, v50, v51, v52, v53, v54, v55, v56, v57, v58, v59, v60, v61, v62, v63, v64, v65, v66, v67, v68, v69, v70, v71, v72, v73, v74, v75, v76, v77, v78, v79, v80, v81, v82, v83, v84, v85, v86, v87, v88, v89, v90, v91, v92, v93, v94, v95, v96, v97, v98, v99, v100, v101, v102, v103, v104, v105, v106, v107, v108, v109, v110, v111, v112, v113, v114, v115, v116, v117, v118, v119, v120, v121, v122, v123, v124, v125, v126, v127, v128, v129, v130, v131, v132, v133, v134, v135, v136, v137, v138, v139, v140, v141, v142, v143, v144, v145, v146, v147, v148, v149, v150, v151, v152, v153, v154, v155, v156, v157, v158, v159, v160, v161, v162, v163, v164, v165, v166, v167, v168, v169, v170, v171, v172, v173, v174, v175, v176, v177, v178, v179, v180, v181, v182, v183, v184, v185, y186, y187, y188, y189, y190, y191, y192, y193, y194, y195, y196, y197, y198, y199, y200, y201, y202, y203, y204, y205, y206, y207, y208, y209, y210, y211, y212, y213, y214, y215, y216, y217, y218, y219, y220, y221, y222, y223, y224, y225, y226, y227, y228, y229, y230, y231, y232, y233, y234, y235, y236, y237, y238, y239, y240, y241, y242, y243, y244, y245, y246, y247, y248, y249, y250, y251, y252, y253, y254, y255, y256, y257, y258, y259, y260, y261, y262, y263, y264, y265, y266, y267, y268, y269, y270, y271, y272, y273, y274, y275, y276, y277, y278, y279, y280, y281, y282, y283, y284, y285, y286, y287, y288, y289, y290, y291, y292, y293, y294, y295, y296, y297, y298, y299, y300, v301], []⟩ w') :
    Code.wp Try.prog (cut12 [1, 1, 1, 1, 0, 2, 2, 1, 2, 1, 1, 1, 1, 1, 1, 1, 1, 1] (Try.f10.body.getD .skip)) Q0 ⟨#[v0, v1, v2, .slice WA wn wc, v4, .pointer (some ⟨B, 0, none⟩), v6, v7, v8, v9, .pointer (some ⟨B + 1, 0, none⟩), .pointer (some ⟨B + 2, 0, none⟩), .slice (some ⟨Gb, 0, none⟩) (t + 1) fc, .int .i64 aq, .int .i64 t, .pointer (some ⟨Gb, t * 3, none⟩), .pointer (some ⟨I, 0, none⟩), .int .i64 hi, v18, v19, v20, v21, v22, v23, v24, v25, v26, v27, v28, v29, v30, v31, v32, v33, v34, v35, v36, v37, v38, v39, v40, v41, v42, v43, v44, v45, v46, v47, v48, v49, v50, v51, v52, v53, v54, v55, v56, v57, v58, v59, v60, v61, v62, v63, v64, v65, v66, v67, v68, v69, v70, v71, v72, v73, v74, v75, v76, v77, v78, v79, v80, v81, v82, v83, v84, v85, v86, v87, v88, v89, v90, v91, v92, v93, v94, v95, v96, v97, v98, v99, v100, v101, v102, v103, v104, v105, v106, v107, v108, v109, v110, v111, v112, v113, v114, v115, v116, v117, v118, v119, v120, v121, v122, v123, v124, v125, v126, v127, v128, v129, v130, v131, v132, v133, v134, v135, v136, v137, v138, v139, v140, v141, v142, v143, v144, v145, v146, v147, v148, v149, v150, v151, v152, v153, v154, v155, v156, v157, v158, v159, v160, v161, v162, v163, v164, v165, v166, v167, v168, v169, v170, v171, v172, v173, v174, v175, v176, v177, v178, v179, v180, v181, v182, v183, v184, v185, v186, v187, v188, v189, v190, v191, v192, v193, v194, v195, v196, v197, v198, v199, v200, v201, v202, v203, v204, v205, v206, v207, v208, v209, v210, v211, v212, v213, v214, v215, v216, v217, v218, v219, v220, v221, v222, v223, v224, v225, v226, v227, v228, v229, v230, v231, v232, v233, v234, v235, v236, v237, v238, v239, v240, v241, v242, v243, v244, v245, v246, v247, v248, v249, v250, v251, v252, v253, v254, v255, v256, v257, v258, v259, v260, v261, v262, v263, v264, v265, v266, v267, v268, v269, v270, v271, v272, v273, v274, v275, v276, v277, v278, v279, v280, v281, v282, v283, v284, v285, v286, v287, v288, v289, v290, v291, v292, v293, v294, v295, v296, v297, v298, v299, v300, v301], []⟩ wd := by
  obtain ⟨yG, yg, yP, yp, AA, cc, ZZ⟩ := y
  obtain rfl : AA = some ad8 := hM.a
  have HM1 := Lib.hid hM
  have HD1 := Lib.hid hD
  have HZ1 := Lib.hid hz1
  have HH := Lib.hid H
  have HX := Lib.hid hX
  have HW1 := Lib.hid hW
  have HSN := Lib.hid hsn
  have HTQ := Lib.hid ht
  have HLN := Lib.hid hln
  have HMD := Lib.hid hmi
  have HRU := Lib.hid hru
  have HID := Lib.hid hid
  have HO := Lib.hid ho
  have HA := Lib.hid ha
  have HS0 := Lib.hid hs0
  have HS1 := Lib.hid hs1
  have HBD := Lib.hid hbd
  have HP := Lib.hid hP
  have hpp : p < ln := by rw [← hln]; exact hru.1.on.lt
  have hx0 : (Q.reverse ++ [(⟨⟨k, p, came, lf, st⟩, lg⟩ : Ff12)])[t]? = some ⟨⟨k, p, came, lf, st⟩, lg⟩ := by rw [← ht, ← List.length_reverse]; exact at_last _ _
  have HX0 := Lib.hid hx0
  obtain ⟨x0, x1, x2⟩ := hmi.sf.at_ hx0
  dsimp only at x0 x1 x2
  rw [show fo12 d ⟨k, p, came, lf, st⟩ = co11 d k from rfl, hln] at x2
  have hgB := hmi.sf.gB
  have HFC : Hid (t + 1 ≤ fc) := Lib.hid (by
    rcases hmi.sf.own.2 with ⟨h, -⟩ | ⟨g, cap, cur, h, -, -, h2, -⟩
    · cases h
    · injection h with e1 e2 e3
      subst e3
      exact h2)
  have hlB := (hmi.sf.lf _ (List.mem_append_right _ (List.mem_singleton.2 rfl))).1
  dsimp only at hlB
  obtain ⟨t0, t1, t2, t3⟩ := hmi.tk.cells
  have tf := hmi.tk.froz
  have xf := hmi.sf.froz
  obtain ⟨i0, i1, i2⟩ := hid.cells
  have e1 : IntKind.i64.wrap ((p : Int) + 1) = (p : Int) + 1 := wrap_small (by omega)
  clear hM hD hz1 H hX hW hsn ht hln hmi hru hid ho ha hbd hP hx0
  have HR0 := Lib.hid hR
  clear hR
  conv => arg 2; whnf
  subst hO
  have HTZ := Lib.hid ht0
  have HQN : Hid (Q = []) := Lib.hid (List.length_eq_zero_iff.1 (by rw [HTQ.out]; exact ht0))
  obtain ⟨b1, b2, b3⟩ := HRU.out.bound HH.out
  have HB1 := Lib.hid b1
  have HB2 := Lib.hid b2
  have HOV := Lib.hid (HRU.out.over HH.out HX.out (by rw [HQN.out]; rfl) HO.out)
  have HDN := Lib.hid HMD.out.done
  have r := HMD.out.rs.froz
  obtain ⟨r0, r1, r2, r3⟩ := HMD.out.rs.cells
  have c1 := HFC.out
  have c2 : (t : Int) ≤ fc := by omega
  have e2 : ((t : Int) == 0) = true := by simp; omega
  clear ht0
  go_wp2_with fail
  exact HR0.out _ _ _ _ _ _ _ _ _ _ _ _ _ _ _ _ _ _ _ _ _ _ _ _ _ _ _ _ _ _ _ _ _ _ _ _ _ _ _ _ _ _ _ _ _ _ _ _ _ _ _ _ _ _ _ _ _ _ _ _ _ _ _ _ _ _ _ _ _ _ _ _ _ _ _ _ _ _ _ _ _ _ _ _ _ _ _ _ _ _ _ _ _ _ _ _ _ _ _ _ _ _ _ _ _ _ _ _ _ _ _ _ _ _ _ _ _ _ _ ⟨_, _, _, HDN.out.1, HB1.out, HS1.out, HB2.out, HOV.out, HDN.out.2⟩
set_option maxHeartbeats 16000000 in
/-- The end of one that was called. -/
theorem back12_v (v0 v1 v2 v4 v6 v7 v8 v9 v18 v19 v20 v21 v22 v23 v24 v25 v26 v27 v28 v29 v30 v31 v32 v33 v34 v35 v36 v37 v38 v39 v40 v41 v42 v43 v44 v45 v46 v47 v48 v49 v50 v51 v52 v53 v54 v55 v56 v57 v58 v59 v60 v61 v62 v63 v64 v65 v66 v67 v68 v69 v70 v71 v72 v73 v74 v75 v76 v77 v78 v79 v80 v81 v82 v83 v84 v85 v86 v87 v88 v89 v90 v91 v92 v93 v94 v95 v96 v97 v98 v99 v100 v101 v102 v103 v104 v105 v106 v107 v108 v109 v110 v111 v112 v113 v114 v115 v116 v117 v118 v119 v120 v121 v122 v123 v124 v125 v126 v127 v128 v129 v130 v131 v132 v133 v134 v135 v136 v137 v138 v139 v140 v141 v142 v143 v144 v145 v146 v147 v148 v149 v150 v151 v152 v153 v154 v155 v156 v157 v158 v159 v160 v161 v162 v163 v164 v165 v166 v167 v168 v169 v170 v171 v172 v173 v174 v175 v176 v177 v178 v179 v180 v181 v182 v183 v184 v185 v186 v187 v188 v189 v190 v191 v192 v193 v194 v195 v196 v197 v198 v199 v200 v201 v202 v203 v204 v205 v206 v207 v208 v209 v210 v211 v212 v213 v214 v215 v216 v217 v218 v219 v220 v221 v222 v223 v224 v225 v226 v227 v228 v229 v230 v231 v232 v233 v234 v235 v236 v237 v238 v239 v240 v241 v242 v243 v244 v245 v246 v247 v248 v249 v250 v251 v252 v253 v254 v255 v256 v257 v258 v259 v260 v261 v262 v263 v264 v265 v266 v267 v268 v269 v270 v271 v272 v273 v274 v275 v276 v277 v278 v279 v280 v281 v282 v283 v284 v285 v286 v287 v288 v289 v290 v291 v292 v293 v294 v295 v296 v297 v298 v299 v300 v301 : Value) (y : Ma) (d : Md) (ad8 : Addr) (gR c : Nat) (R : List Rr12) (w1 wd : World) (WA : Option Addr) (wn wc B Gb t fc sn ln k0 k p lg f v aq I : Nat) (xp : Prop) (came lf : Nat → Nat) (st : Bool) (Q : List Ff12) (s hi o a bz : Int)
    (hM : Md12 w1 y d ad8 gR c R) (hD : Db w1 B y d) (hz1 : w1.heap.size = B + 1) (H : Ok12 d) (hX : Xs12 d k0 xp) (hwn : wn ≤ 9223372036854775807) (hW : Bw12 w1 WA wn) (hsn : d.s.length = sn) (hs40 : sn ≤ 40) (ht : Q.length = t) (ht5 : t ≤ 5000) (hln : (co11 d k).length = ln) (hln3 : ln ≤ 300)
    (hmi : Mi12 B w1 wd d Gb (t + 1) fc (Q.reverse ++ [⟨⟨k, p, came, lf, st⟩, lg⟩]) ((f : Int) + 1) s v) (hru : Ru12 d k0 xp ⟨k, p, came, lf, st⟩ (Q.map (·.z)) f v) (hid : Ix12 wd I o a bz) (hIB : B + 2 < I) (ho : iO9 (co11 d k) p = o) (ha : iA9 (co11 d k) p = a) (haq : aq ≤ f) (hf5 : f ≤ 5000) (hv5 : v ≤ 1000000)
    (hs0 : 0 ≤ s) (hs1 : s ≤ (ce12 d k0).2.1) (hbd : ∀ z, z ∈ d.s → z.1.a.length ≤ 100 ∧ z.1.l.length ≤ 100 ∧ z.2.length ≤ 300) (Q0 : Exit → Act → World → Prop) (hP : ∀ c (a : Act) (o : Option Tmp) (v : Value) w, Q0 (.panic c) (a.put o v) w → Q0 (.panic c) a w) (hO : o = 31) (ht0 : t ≠ 0)
    (hE : ∀ (y20 y186 y187 y188 y189 y190 y191 y192 y193 y194 y195 y196 y197 y198 y199 y200 y201 y202 y203 y204 y205 y206 y207 y208 y209 y210 y211 y212 y213 y214 y215 y216 y217 y218 y219 y220 y221 y222 y223 y224 y225 y226 y227 y228 y229 y230 y231 y232 y233 y234 y235 y236 y237 y238 y239 y240 y241 y242 y243 y244 y245 y246 y247 y248 y249 y250 y251 y252 y253 y254 y255 y256 y257 y258 y259 y260 y261 y262 y263 y264 y265 y266 y267 y268 y269 y270 y271 y272 y273 y274 y275 y276 y277 y278 y279 y280 y281 y282 y283 y284 y285 y286 y287 y288 y289 y290 y291 y292 y293 y294 y295 y296 y297 y298 y299 y300 fv qv : Value) (w' : World), Nx12 B w1 w' d k0 xp (f + 1) fv qv → Q0 (.exit 1) ⟨#[v0, v1, v2, .slice WA wn wc, v4, .pointer (some ⟨B, 0, none⟩), v6, v7, v8, v9, .pointer (some ⟨B + 1, 0, none⟩), .pointer (some ⟨B + 2, 0, none⟩), fv, qv, .int .i64 t, .pointer (some ⟨Gb, t * 3, none⟩), .pointer (some ⟨I, 0, none⟩), .int .i64 hi, v18, v19, y20, v21, v22, v23, v24, v25, v26, v27, v28, v29, v30, v31, v32, v33, v34, v35, v36, v37, v38, v39, v40, v41, v42, v43, v44, v45, v46, v47, v48, v49, v50, v51, v52, v53, v54, v55, v56, v57, v58, v59, v60, v61, v62, v63, v64, v65, v66, v67, v68, v69, v70, v71, v72, v73, v74, v75, v76, v77, v78, v79, v80, v81, v82, v83, v84, v85, v86, v87, v88, v89, v90, v91, v92, v93, v94, v95, v96, v97, v98, v99, v100, v101, v102, v103, v104, v105, v106, v107, v108, v109, v110, v111, v112, v113, v114, v115, v116, v117, v118, v119, v120, v121, v122, v123, v124, v125, v126, v127, v128, v129, v130, v131, v132, v133, v134, v135, v136, v137, v138, v139, v140, v141, v142, v143, v144, v145, v146, v147, v148, v149, v150, v151, v152, v153, v154, v155, v156, v157, v158, v159, v160, v161, v162, v163, v164, v165, v166, v167, v168, v169, v170, v171, v172, v173, v174, v175, v176, v177, v178, v179, v180, v181, v182, v183, v184, v185, y186, y187, y188, y189, y190, y191, y192, y193, y194, y195, y196, y197, y198, y199, y200, y201, y202, y203, y204, y205, y206, y207, y208, y209, y210, y211, y212, y213, y214, y215, y216, y217, y218, y219, y220, y221, y222, y223, y224, y225, y226, y227, y228, y229, y230, y231, y232, y233, y234, y235, y236, y237, y238, y239, y240, y241, y242, y243, y244, y245, y246, y247, y248, y249, y250, y251, y252, y253, y254, y255, y256, y257, y258, y259, y260, y261, y262, y263, y264, y265, y266, y267, y268, y269, y270, y271, y272, y273, y274, y275, y276, y277, y278, y279, y280, y281, y282, y283, y284, y285, y286, y287, y288, y289, y290, y291, y292, y293, y294, y295, y296, y297, y298, y299, y300, v301], []⟩ w') :
    Code.wp Try.prog (cut12 [1, 1, 1, 1, 0, 2, 2, 1, 2, 1, 1, 1, 1, 1, 1, 1, 1, 1] (Try.f10.body.getD .skip)) Q0 ⟨#[v0, v1, v2, .slice WA wn wc, v4, .pointer (some ⟨B, 0, none⟩), v6, v7, v8, v9, .pointer (some ⟨B + 1, 0, none⟩), .pointer (some ⟨B + 2, 0, none⟩), .slice (some ⟨Gb, 0, none⟩) (t + 1) fc, .int .i64 aq, .int .i64 t, .pointer (some ⟨Gb, t * 3, none⟩), .pointer (some ⟨I, 0, none⟩), .int .i64 hi, v18, v19, v20, v21, v22, v23, v24, v25, v26, v27, v28, v29, v30, v31, v32, v33, v34, v35, v36, v37, v38, v39, v40, v41, v42, v43, v44, v45, v46, v47, v48, v49, v50, v51, v52, v53, v54, v55, v56, v57, v58, v59, v60, v61, v62, v63, v64, v65, v66, v67, v68, v69, v70, v71, v72, v73, v74, v75, v76, v77, v78, v79, v80, v81, v82, v83, v84, v85, v86, v87, v88, v89, v90, v91, v92, v93, v94, v95, v96, v97, v98, v99, v100, v101, v102, v103, v104, v105, v106, v107, v108, v109, v110, v111, v112, v113, v114, v115, v116, v117, v118, v119, v120, v121, v122, v123, v124, v125, v126, v127, v128, v129, v130, v131, v132, v133, v134, v135, v136, v137, v138, v139, v140, v141, v142, v143, v144, v145, v146, v147, v148, v149, v150, v151, v152, v153, v154, v155, v156, v157, v158, v159, v160, v161, v162, v163, v164, v165, v166, v167, v168, v169, v170, v171, v172, v173, v174, v175, v176, v177, v178, v179, v180, v181, v182, v183, v184, v185, v186, v187, v188, v189, v190, v191, v192, v193, v194, v195, v196, v197, v198, v199, v200, v201, v202, v203, v204, v205, v206, v207, v208, v209, v210, v211, v212, v213, v214, v215, v216, v217, v218, v219, v220, v221, v222, v223, v224, v225, v226, v227, v228, v229, v230, v231, v232, v233, v234, v235, v236, v237, v238, v239, v240, v241, v242, v243, v244, v245, v246, v247, v248, v249, v250, v251, v252, v253, v254, v255, v256, v257, v258, v259, v260, v261, v262, v263, v264, v265, v266, v267, v268, v269, v270, v271, v272, v273, v274, v275, v276, v277, v278, v279, v280, v281, v282, v283, v284, v285, v286, v287, v288, v289, v290, v291, v292, v293, v294, v295, v296, v297, v298, v299, v300, v301], []⟩ wd := by
  obtain ⟨yG, yg, yP, yp, AA, cc, ZZ⟩ := y
  obtain rfl : AA = some ad8 := hM.a
  have HM1 := Lib.hid hM
  have HD1 := Lib.hid hD
  have HZ1 := Lib.hid hz1
  have HH := Lib.hid H
  have HX := Lib.hid hX
  have HW1 := Lib.hid hW
  have HSN := Lib.hid hsn
  have HTQ := Lib.hid ht
  have HLN := Lib.hid hln
  have HMD := Lib.hid hmi
  have HRU := Lib.hid hru
  have HID := Lib.hid hid
  have HO := Lib.hid ho
  have HA := Lib.hid ha
  have HS0 := Lib.hid hs0
  have HS1 := Lib.hid hs1
  have HBD := Lib.hid hbd
  have HP := Lib.hid hP
  have hpp : p < ln := by rw [← hln]; exact hru.1.on.lt
  have hx0 : (Q.reverse ++ [(⟨⟨k, p, came, lf, st⟩, lg⟩ : Ff12)])[t]? = some ⟨⟨k, p, came, lf, st⟩, lg⟩ := by rw [← ht, ← List.length_reverse]; exact at_last _ _
  have HX0 := Lib.hid hx0
  obtain ⟨x0, x1, x2⟩ := hmi.sf.at_ hx0
  dsimp only at x0 x1 x2
  rw [show fo12 d ⟨k, p, came, lf, st⟩ = co11 d k from rfl, hln] at x2
  have hgB := hmi.sf.gB
  have HFC : Hid (t + 1 ≤ fc) := Lib.hid (by
    rcases hmi.sf.own.2 with ⟨h, -⟩ | ⟨g, cap, cur, h, -, -, h2, -⟩
    · cases h
    · injection h with e1 e2 e3
      subst e3
      exact h2)
  have hlB := (hmi.sf.lf _ (List.mem_append_right _ (List.mem_singleton.2 rfl))).1
  dsimp only at hlB
  obtain ⟨t0, t1, t2, t3⟩ := hmi.tk.cells
  have tf := hmi.tk.froz
  have xf := hmi.sf.froz
  obtain ⟨i0, i1, i2⟩ := hid.cells
  have e1 : IntKind.i64.wrap ((p : Int) + 1) = (p : Int) + 1 := wrap_small (by omega)
  clear hM hD hz1 H hX hW hsn ht hln hmi hru hid ho ha hbd hP hx0
  have HE0 := Lib.hid hE
  clear hE
  conv => arg 2; whnf
  subst hO
  obtain ⟨u, rfl⟩ : ∃ u, t = u + 1 := ⟨t - 1, by omega⟩
  match Q, HTQ, HX0, HMD, HRU, x0, x1, x2 with
  | [], HTQ, _, _, _, _, _, _ => exact absurd HTQ.out (by simp)
  | ⟨⟨k', p', cm', lf', st'⟩, lg'⟩ :: Q', HTQ, HX0, HMD, HRU, x0, x1, x2 =>
  have hu : Q'.length = u := by have := HTQ.out; simpa using this
  have HU := Lib.hid hu
  obtain ⟨-, hbk⟩ := HRU.out.back HH.out HX.out HO.out
  have HNX := Lib.hid (Nx12.back hu HMD.out HS0.out HS1.out (Nat.le_succ_of_le haq) hbk rfl rfl)
  have hy0 : (((⟨⟨k', p', cm', lf', st'⟩, lg'⟩ : Ff12) :: Q').reverse ++ [(⟨⟨k, p, came, lf, st⟩, lg⟩ : Ff12)])[u]? = some ⟨⟨k', p', cm', lf', st'⟩, lg'⟩ := by
    rw [List.reverse_cons, List.append_assoc, List.getElem?_append_right (by rw [List.length_reverse, hu]; exact Nat.le_refl _), List.length_reverse, hu, Nat.sub_self]
    rfl
  obtain ⟨y0, y1, y2⟩ := HMD.out.sf.at_ hy0
  dsimp only at y0 y1 y2
  have hpl : p' < 1000 := by
    have h1 := (HRU.out.all HH.out).2 _ (List.mem_map.2 ⟨_, List.mem_cons_self, rfl⟩)
    have h2 := h1.1.on.lt
    have h3 := HBD.out _ (List.getElem_mem h1.1.lt)
    rw [me_at12 h1.1.lt] at h3
    have h4 : p' < (co11 d k').length := h2
    have h5 : (co11 d k').length ≤ 300 := h3.2.2
    omega
  have c1 := HFC.out
  have c2 : ((u : Int) + 1) ≤ fc := by omega
  have e2 : ((u : Int) + 1 == 0) = false := by simp; omega
  have e3 : IntKind.i64.wrap ((u : Int) + 1 - 1) = u := by rw [wrap_small (by omega)]; omega
  have e4 : IntKind.i64.wrap ((p' : Int) + 1) = (p' : Int) + 1 := wrap_small (by omega)
  clear hu hbk hy0 ht0 y0 y2 x0 x2
  go_wp2_with fail
  exact HE0.out _ _ _ _ _ _ _ _ _ _ _ _ _ _ _ _ _ _ _ _ _ _ _ _ _ _ _ _ _ _ _ _ _ _ _ _ _ _ _ _ _ _ _ _ _ _ _ _ _ _ _ _ _ _ _ _ _ _ _ _ _ _ _ _ _ _ _ _ _ _ _ _ _ _ _ _ _ _ _ _ _ _ _ _ _ _ _ _ _ _ _ _ _ _ _ _ _ _ _ _ _ _ _ _ _ _ _ _ _ _ _ _ _ _ _ _ _ _ _ HNX.out
set_option maxHeartbeats 16000000 in
/-- An array. -/
theorem new12_v (v0 v1 v2 v4 v6 v7 v8 v9 v18 v19 v20 v21 v22 v23 v24 v25 v26 v27 v28 v29 v30 v31 v32 v33 v34 v35 v36 v37 v38 v39 v40 v41 v42 v43 v44 v45 v46 v47 v48 v49 v50 v51 v52 v53 v54 v55 v56 v57 v58 v59 v60 v61 v62 v63 v64 v65 v66 v67 v68 v69 v70 v71 v72 v73 v74 v75 v76 v77 v78 v79 v80 v81 v82 v83 v84 v85 v86 v87 v88 v89 v90 v91 v92 v93 v94 v95 v96 v97 v98 v99 v100 v101 v102 v103 v104 v105 v106 v107 v108 v109 v110 v111 v112 v113 v114 v115 v116 v117 v118 v119 v120 v121 v122 v123 v124 v125 v126 v127 v128 v129 v130 v131 v132 v133 v134 v135 v136 v137 v138 v139 v140 v141 v142 v143 v144 v145 v146 v147 v148 v149 v150 v151 v152 v153 v154 v155 v156 v157 v158 v159 v160 v161 v162 v163 v164 v165 v166 v167 v168 v169 v170 v171 v172 v173 v174 v175 v176 v177 v178 v179 v180 v181 v182 v183 v184 v185 v186 v187 v188 v189 v190 v191 v192 v193 v194 v195 v196 v197 v198 v199 v200 v201 v202 v203 v204 v205 v206 v207 v208 v209 v210 v211 v212 v213 v214 v215 v216 v217 v218 v219 v220 v221 v222 v223 v224 v225 v226 v227 v228 v229 v230 v231 v232 v233 v234 v235 v236 v237 v238 v239 v240 v241 v242 v243 v244 v245 v246 v247 v248 v249 v250 v251 v252 v253 v254 v255 v256 v257 v258 v259 v260 v261 v262 v263 v264 v265 v266 v267 v268 v269 v270 v271 v272 v273 v274 v275 v276 v277 v278 v279 v280 v281 v282 v283 v284 v285 v286 v287 v288 v289 v290 v291 v292 v293 v294 v295 v296 v297 v298 v299 v300 v301 : Value) (y : Ma) (d : Md) (ad8 : Addr) (gR c : Nat) (R : List Rr12) (w1 wd : World) (WA : Option Addr) (wn wc B Gb t fc sn ln k0 k p lg f v aq I : Nat) (xp : Prop) (came lf : Nat → Nat) (st : Bool) (Q : List Ff12) (s hi o a bz : Int)
    (hM : Md12 w1 y d ad8 gR c R) (hD : Db w1 B y d) (hz1 : w1.heap.size = B + 1) (H : Ok12 d) (hX : Xs12 d k0 xp) (hwn : wn ≤ 9223372036854775807) (hW : Bw12 w1 WA wn) (hsn : d.s.length = sn) (hs40 : sn ≤ 40) (ht : Q.length = t) (ht5 : t ≤ 5000) (hln : (co11 d k).length = ln) (hln3 : ln ≤ 300)
    (hmi : Mi12 B w1 wd d Gb (t + 1) fc (Q.reverse ++ [⟨⟨k, p, came, lf, st⟩, lg⟩]) ((f : Int) + 1) s v) (hru : Ru12 d k0 xp ⟨k, p, came, lf, st⟩ (Q.map (·.z)) f v) (hid : Ix12 wd I o a bz) (hIB : B + 2 < I) (ho : iO9 (co11 d k) p = o) (ha : iA9 (co11 d k) p = a) (haq : aq ≤ f) (hf5 : f ≤ 5000) (hv5 : v ≤ 1000000)
    (hs0 : 0 ≤ s) (hs1 : s ≤ (ce12 d k0).2.1) (hbd : ∀ z, z ∈ d.s → z.1.a.length ≤ 100 ∧ z.1.l.length ≤ 100 ∧ z.2.length ≤ 300) (Q0 : Exit → Act → World → Prop) (hP : ∀ c (a : Act) (o : Option Tmp) (v : Value) w, Q0 (.panic c) (a.put o v) w → Q0 (.panic c) a w) (hO : o = 22) (hv0 : (ce12 d k0).2.2 ≤ 1024)
    (hN : ∀ (y20 y186 y187 y188 y189 y190 y191 y192 y193 y194 y195 y196 y197 y198 y199 y200 y201 y202 y203 y204 y205 y206 y207 y208 y209 y210 y211 y212 y213 y214 y215 y216 y217 y218 y219 y220 y221 y222 y223 y224 y225 y226 y227 y228 y229 y230 y231 y232 y233 y234 y235 y236 y237 y238 y239 y240 y241 y242 y243 y244 y245 y246 y247 y248 y249 y250 y251 y252 y253 y254 y255 y256 y257 y258 y259 y260 y261 y262 y263 y264 y265 y266 y267 y268 y269 y270 y271 y272 y273 y274 y275 y276 y277 y278 y279 y280 y281 y282 y283 y284 y285 y286 y287 y288 y289 y290 y291 y292 y293 y294 y295 y296 y297 y298 y299 y300 fv qv : Value) (w' : World), Nx12 B w1 w' d k0 xp (f + 1) fv qv → Q0 .normal ⟨#[v0, v1, v2, .slice WA wn wc, v4, .pointer (some ⟨B, 0, none⟩), v6, v7, v8, v9, .pointer (some ⟨B + 1, 0, none⟩), .pointer (some ⟨B + 2, 0, none⟩), fv, qv, .int .i64 t, .pointer (some ⟨Gb, t * 3, none⟩), .pointer (some ⟨I, 0, none⟩), .int .i64 hi, v18, v19, y20, v21, v22, v23, v24, v25, v26, v27, v28, v29, v30, v31, v32, v33, v34, v35, v36, v37, v38, v39, v40, v41, v42, v43, v44, v45, v46, v47, v48, v49, v50, v51, v52, v53, v54, v55, v56, v57, v58, v59, v60, v61, v62, v63, v64, v65, v66, v67, v68, v69, v70, v71, v72, v73, v74, v75, v76, v77, v78, v79, v80, v81, v82, v83, v84, v85, v86, v87, v88, v89, v90, v91, v92, v93, v94, v95, v96, v97, v98, v99, v100, v101, v102, v103, v104, v105, v106, v107, v108, v109, v110, v111, v112, v113, v114, v115, v116, v117, v118, v119, v120, v121, v122, v123, v124, v125, v126, v127, v128, v129, v130, v131, v132, v133, v134, v135, v136, v137, v138, v139, v140, v141, v142, v143, v144, v145, v146, v147, v148, v149, v150, v151, v152, v153, v154, v155, v156, v157, v158, v159, v160, v161, v162, v163, v164, v165, v166, v167, v168, v169, v170, v171, v172, v173, v174, v175, v176, v177, v178, v179, v180, v181, v182, v183, v184, v185, y186, y187, y188, y189, y190, y191, y192, y193, y194, y195, y196, y197, y198, y199, y200, y201, y202, y203, y204, y205, y206, y207, y208, y209, y210, y211, y212, y213, y214, y215, y216, y217, y218, y219, y220, y221, y222, y223, y224, y225, y226, y227, y228, y229, y230, y231, y232, y233, y234, y235, y236, y237, y238, y239, y240, y241, y242, y243, y244, y245, y246, y247, y248, y249, y250, y251, y252, y253, y254, y255, y256, y257, y258, y259, y260, y261, y262, y263, y264, y265, y266, y267, y268, y269, y270, y271, y272, y273, y274, y275, y276, y277, y278, y279, y280, y281, y282, y283, y284, y285, y286, y287, y288, y289, y290, y291, y292, y293, y294, y295, y296, y297, y298, y299, y300, v301], []⟩ w') :
    Code.wp Try.prog (cut12 [1, 1, 1, 1, 0, 2, 2, 1, 2, 1, 1, 1, 1, 1, 1, 1, 1, 1] (Try.f10.body.getD .skip)) Q0 ⟨#[v0, v1, v2, .slice WA wn wc, v4, .pointer (some ⟨B, 0, none⟩), v6, v7, v8, v9, .pointer (some ⟨B + 1, 0, none⟩), .pointer (some ⟨B + 2, 0, none⟩), .slice (some ⟨Gb, 0, none⟩) (t + 1) fc, .int .i64 aq, .int .i64 t, .pointer (some ⟨Gb, t * 3, none⟩), .pointer (some ⟨I, 0, none⟩), .int .i64 hi, v18, v19, v20, v21, v22, v23, v24, v25, v26, v27, v28, v29, v30, v31, v32, v33, v34, v35, v36, v37, v38, v39, v40, v41, v42, v43, v44, v45, v46, v47, v48, v49, v50, v51, v52, v53, v54, v55, v56, v57, v58, v59, v60, v61, v62, v63, v64, v65, v66, v67, v68, v69, v70, v71, v72, v73, v74, v75, v76, v77, v78, v79, v80, v81, v82, v83, v84, v85, v86, v87, v88, v89, v90, v91, v92, v93, v94, v95, v96, v97, v98, v99, v100, v101, v102, v103, v104, v105, v106, v107, v108, v109, v110, v111, v112, v113, v114, v115, v116, v117, v118, v119, v120, v121, v122, v123, v124, v125, v126, v127, v128, v129, v130, v131, v132, v133, v134, v135, v136, v137, v138, v139, v140, v141, v142, v143, v144, v145, v146, v147, v148, v149, v150, v151, v152, v153, v154, v155, v156, v157, v158, v159, v160, v161, v162, v163, v164, v165, v166, v167, v168, v169, v170, v171, v172, v173, v174, v175, v176, v177, v178, v179, v180, v181, v182, v183, v184, v185, v186, v187, v188, v189, v190, v191, v192, v193, v194, v195, v196, v197, v198, v199, v200, v201, v202, v203, v204, v205, v206, v207, v208, v209, v210, v211, v212, v213, v214, v215, v216, v217, v218, v219, v220, v221, v222, v223, v224, v225, v226, v227, v228, v229, v230, v231, v232, v233, v234, v235, v236, v237, v238, v239, v240, v241, v242, v243, v244, v245, v246, v247, v248, v249, v250, v251, v252, v253, v254, v255, v256, v257, v258, v259, v260, v261, v262, v263, v264, v265, v266, v267, v268, v269, v270, v271, v272, v273, v274, v275, v276, v277, v278, v279, v280, v281, v282, v283, v284, v285, v286, v287, v288, v289, v290, v291, v292, v293, v294, v295, v296, v297, v298, v299, v300, v301], []⟩ wd := by
  obtain ⟨yG, yg, yP, yp, AA, cc, ZZ⟩ := y
  obtain rfl : AA = some ad8 := hM.a
  have HM1 := Lib.hid hM
  have HD1 := Lib.hid hD
  have HZ1 := Lib.hid hz1
  have HH := Lib.hid H
  have HX := Lib.hid hX
  have HW1 := Lib.hid hW
  have HSN := Lib.hid hsn
  have HTQ := Lib.hid ht
  have HLN := Lib.hid hln
  have HMD := Lib.hid hmi
  have HRU := Lib.hid hru
  have HID := Lib.hid hid
  have HO := Lib.hid ho
  have HA := Lib.hid ha
  have HS0 := Lib.hid hs0
  have HS1 := Lib.hid hs1
  have HBD := Lib.hid hbd
  have HP := Lib.hid hP
  have hpp : p < ln := by rw [← hln]; exact hru.1.on.lt
  have hx0 : (Q.reverse ++ [(⟨⟨k, p, came, lf, st⟩, lg⟩ : Ff12)])[t]? = some ⟨⟨k, p, came, lf, st⟩, lg⟩ := by rw [← ht, ← List.length_reverse]; exact at_last _ _
  have HX0 := Lib.hid hx0
  obtain ⟨x0, x1, x2⟩ := hmi.sf.at_ hx0
  dsimp only at x0 x1 x2
  rw [show fo12 d ⟨k, p, came, lf, st⟩ = co11 d k from rfl, hln] at x2
  have hgB := hmi.sf.gB
  have HFC : Hid (t + 1 ≤ fc) := Lib.hid (by
    rcases hmi.sf.own.2 with ⟨h, -⟩ | ⟨g, cap, cur, h, -, -, h2, -⟩
    · cases h
    · injection h with e1 e2 e3
      subst e3
      exact h2)
  have hlB := (hmi.sf.lf _ (List.mem_append_right _ (List.mem_singleton.2 rfl))).1
  dsimp only at hlB
  obtain ⟨t0, t1, t2, t3⟩ := hmi.tk.cells
  have tf := hmi.tk.froz
  have xf := hmi.sf.froz
  obtain ⟨i0, i1, i2⟩ := hid.cells
  have e1 : IntKind.i64.wrap ((p : Int) + 1) = (p : Int) + 1 := wrap_small (by omega)
  clear hM hD hz1 H hX hW hsn ht hln hmi hru hid ho ha hbd hP hx0
  have HN0 := Lib.hid hN
  clear hN
  conv => arg 2; whnf
  subst hO
  have HAA := HA.out
  have hnx := HRU.out.next HH.out (w := a.toNat) (by show iO9 (co11 d k) p ≠ 26; rw [HO.out]; omega) (by show iO9 (co11 d k) p ≠ 27; rw [HO.out]; omega) (by show iO9 (co11 d k) p ≠ 28; rw [HO.out]; omega) (by show iO9 (co11 d k) p ≠ 29; rw [HO.out]; omega) (by show iO9 (co11 d k) p ≠ 30; rw [HO.out]; omega) (by show iO9 (co11 d k) p ≠ 31; rw [HO.out]; omega) (by show iO9 (co11 d k) p ≠ 32; rw [HO.out]; omega) (by rw [if_pos HO.out]; show a.toNat = (iA9 (co11 d k) p).toNat; rw [HAA])
  have hna : 0 ≤ a := by rw [← HAA]; exact HH.out.new HRU.out.1.lt (by show p < (co11 d k).length; rw [HLN.out]; exact hpp)
  obtain ⟨an, han⟩ : ∃ an : Nat, a = an := ⟨a.toNat, by omega⟩
  subst han
  have h2 := HMD.out.set2 (((v + an : Nat) : Int))
  rw [Int.toNat_natCast] at hnx
  have HNX := Lib.hid (Nx12.on HTQ.out (z := (⟨k, p, came, lf, st⟩ : Fz).to (p + 1) lf st) h2 HS0.out HS1.out (Nat.le_succ_of_le haq) hnx.2 rfl rfl)
  have hva := (hnx.2.bound HH.out).2.1
  have e2 : IntKind.i64.wrap ((v : Int) + an) = ((v + an : Nat) : Int) := by rw [wrap_small (by omega)]; omega
  have gT : Gb ≠ B + 2 := by omega
  clear hnx HAA h2 hna hva
  go_wp2_with fail
  exact HN0.out _ _ _ _ _ _ _ _ _ _ _ _ _ _ _ _ _ _ _ _ _ _ _ _ _ _ _ _ _ _ _ _ _ _ _ _ _ _ _ _ _ _ _ _ _ _ _ _ _ _ _ _ _ _ _ _ _ _ _ _ _ _ _ _ _ _ _ _ _ _ _ _ _ _ _ _ _ _ _ _ _ _ _ _ _ _ _ _ _ _ _ _ _ _ _ _ _ _ _ _ _ _ _ _ _ _ _ _ _ _ _ _ _ _ _ _ _ _ _ HNX.out
end Go.Proofs.Ytmgppdjbmhjmbaa
namespace Go.Proofs.Ytmgppdjbmhjmbaa
open Go.RowKit
set_option maxRecDepth 100000
set_option linter.unusedSimpArgs false
set_option linter.unusedVariables false
set_option maxHeartbeats 16000000 in
/-- A jump. -/
theorem jump12_v (v0 v1 v2 v4 v6 v7 v8 v9 v18 v19 v20 v21 v22 v23 v24 v25 v26 v27 v28 v29 v30 v31 v32 v33 v34 v35 v36 v37 v38 v39 v40 v41 v42 v43 v44 v45 v46 v47 v48 v49 v50 v51 v52 v53 v54 v55 v56 v57 v58 v59 v60 v61 v62 v63 v64 v65 v66 v67 v68 v69 v70 v71 v72 v73 v74 v75 v76 v77 v78 v79 v80 v81 v82 v83 v84 v85 v86 v87 v88 v89 v90 v91 v92 v93 v94 v95 v96 v97 v98 v99 v100 v101 v102 v103 v104 v105 v106 v107 v108 v109 v110 v111 v112 v113 v114 v115 v116 v117 v118 v119 v120 v121 v122 v123 v124 v125 v126 v127 v128 v129 v130 v131 v132 v133 v134 v135 v136 v137 v138 v139 v140 v141 v142 v143 v144 v145 v146 v147 v148 v149 v150 v151 v152 v153 v154 v155 v156 v157 v158 v159 v160 v161 v162 v163 v164 v165 v166 v167 v168 v169 v170 v171 v172 v173 v174 v175 v176 v177 v178 v179 v180 v181 v182 v183 v184 v185 v186 v187 v188 v189 v190 v191 v192 v193 v194 v195 v196 v197 v198 v199 v200 v201 v202 v203 v204 v205 v206 v207 v208 v209 v210 v211 v212 v213 v214 v215 v216 v217 v218 v219 v220 v221 v222 v223 v224 v225 v226 v227 v228 v229 v230 v231 v232 v233 v234 v235 v236 v237 v238 v239 v240 v241 v242 v243 v244 v245 v246 v247 v248 v249 v250 v251 v252 v253 v254 v255 v256 v257 v258 v259 v260 v261 v262 v263 v264 v265 v266 v267 v268 v269 v270 v271 v272 v273 v274 v275 v276 v277 v278 v279 v280 v281 v282 v283 v284 v285 v286 v287 v288 v289 v290 v291 v292 v293 v294 v295 v296 v297 v298 v299 v300 v301 : Value) (y : Ma) (d : Md) (ad8 : Addr) (gR c : Nat) (R : List Rr12) (w1 wd : World) (WA : Option Addr) (wn wc B Gb t fc sn ln k0 k p lg f v aq I : Nat) (xp : Prop) (came lf : Nat → Nat) (st : Bool) (Q : List Ff12) (s hi o a bz : Int)
    (hM : Md12 w1 y d ad8 gR c R) (hD : Db w1 B y d) (hz1 : w1.heap.size = B + 1) (H : Ok12 d) (hX : Xs12 d k0 xp) (hwn : wn ≤ 9223372036854775807) (hW : Bw12 w1 WA wn) (hsn : d.s.length = sn) (hs40 : sn ≤ 40) (ht : Q.length = t) (ht5 : t ≤ 5000) (hln : (co11 d k).length = ln) (hln3 : ln ≤ 300)
    (hmi : Mi12 B w1 wd d Gb (t + 1) fc (Q.reverse ++ [⟨⟨k, p, came, lf, st⟩, lg⟩]) ((f : Int) + 1) s v) (hru : Ru12 d k0 xp ⟨k, p, came, lf, st⟩ (Q.map (·.z)) f v) (hid : Ix12 wd I o a bz) (hIB : B + 2 < I) (ho : iO9 (co11 d k) p = o) (ha : iA9 (co11 d k) p = a) (haq : aq ≤ f) (hf5 : f ≤ 5000) (hv5 : v ≤ 1000000)
    (hs0 : 0 ≤ s) (hs1 : s ≤ (ce12 d k0).2.1) (hbd : ∀ z, z ∈ d.s → z.1.a.length ≤ 100 ∧ z.1.l.length ≤ 100 ∧ z.2.length ≤ 300) (Q0 : Exit → Act → World → Prop) (hP : ∀ c (a : Act) (o : Option Tmp) (v : Value) w, Q0 (.panic c) (a.put o v) w → Q0 (.panic c) a w) (hO : o = 26)
    (hN : ∀ (y20 y186 y187 y188 y189 y190 y191 y192 y193 y194 y195 y196 y197 y198 y199 y200 y201 y202 y203 y204 y205 y206 y207 y208 y209 y210 y211 y212 y213 y214 y215 y216 y217 y218 y219 y220 y221 y222 y223 y224 y225 y226 y227 y228 y229 y230 y231 y232 y233 y234 y235 y236 y237 y238 y239 y240 y241 y242 y243 y244 y245 y246 y247 y248 y249 y250 y251 y252 y253 y254 y255 y256 y257 y258 y259 y260 y261 y262 y263 y264 y265 y266 y267 y268 y269 y270 y271 y272 y273 y274 y275 y276 y277 y278 y279 y280 y281 y282 y283 y284 y285 y286 y287 y288 y289 y290 y291 y292 y293 y294 y295 y296 y297 y298 y299 y300 fv qv : Value) (w' : World), Nx12 B w1 w' d k0 xp (f + 1) fv qv → Q0 .normal ⟨#[v0, v1, v2, .slice WA wn wc, v4, .pointer (some ⟨B, 0, none⟩), v6, v7, v8, v9, .pointer (some ⟨B + 1, 0, none⟩), .pointer (some ⟨B + 2, 0, none⟩), fv, qv, .int .i64 t, .pointer (some ⟨Gb, t * 3, none⟩), .pointer (some ⟨I, 0, none⟩), .int .i64 hi, v18, v19, y20, v21, v22, v23, v24, v25, v26, v27, v28, v29, v30, v31, v32, v33, v34, v35, v36, v37, v38, v39, v40, v41, v42, v43, v44, v45, v46, v47, v48, v49, v50, v51, v52, v53, v54, v55, v56, v57, v58, v59, v60, v61, v62, v63, v64, v65, v66, v67, v68, v69, v70, v71, v72, v73, v74, v75, v76, v77, v78, v79, v80, v81, v82, v83, v84, v85, v86, v87, v88, v89, v90, v91, v92, v93, v94, v95, v96, v97, v98, v99, v100, v101, v102, v103, v104, v105, v106, v107, v108, v109, v110, v111, v112, v113, v114, v115, v116, v117, v118, v119, v120, v121, v122, v123, v124, v125, v126, v127, v128, v129, v130, v131, v132, v133, v134, v135, v136, v137, v138, v139, v140, v141, v142, v143, v144, v145, v146, v147, v148, v149, v150, v151, v152, v153, v154, v155, v156, v157, v158, v159, v160, v161, v162, v163, v164, v165, v166, v167, v168, v169, v170, v171, v172, v173, v174, v175, v176, v177, v178, v179, v180, v181, v182, v183, v184, v185, y186, y187, y188, y189, y190, y191, y192, y193, y194, y195, y196, y197, y198, y199, y200, y201, y202, y203, y204, y205, y206, y207, y208, y209, y210, y211, y212, y213, y214, y215, y216, y217, y218, y219, y220, y221, y222, y223, y224, y225, y226, y227, y228, y229, y230, y231, y232, y233, y234, y235, y236, y237, y238, y239, y240, y241, y242, y243, y244, y245, y246, y247, y248, y249, y250, y251, y252, y253, y254, y255, y256, y257, y258, y259, y260, y261, y262, y263, y264, y265, y266, y267, y268, y269, y270, y271, y272, y273, y274, y275, y276, y277, y278, y279, y280, y281, y282, y283, y284, y285, y286, y287, y288, y289, y290, y291, y292, y293, y294, y295, y296, y297, y298, y299, y300, v301], []⟩ w') :
    Code.wp Try.prog (cut12 [1, 1, 1, 1, 0, 2, 2, 1, 2, 1, 1, 1, 1, 1, 1, 1, 1, 1] (Try.f10.body.getD .skip)) Q0 ⟨#[v0, v1, v2, .slice WA wn wc, v4, .pointer (some ⟨B, 0, none⟩), v6, v7, v8, v9, .pointer (some ⟨B + 1, 0, none⟩), .pointer (some ⟨B + 2, 0, none⟩), .slice (some ⟨Gb, 0, none⟩) (t + 1) fc, .int .i64 aq, .int .i64 t, .pointer (some ⟨Gb, t * 3, none⟩), .pointer (some ⟨I, 0, none⟩), .int .i64 hi, v18, v19, v20, v21, v22, v23, v24, v25, v26, v27, v28, v29, v30, v31, v32, v33, v34, v35, v36, v37, v38, v39, v40, v41, v42, v43, v44, v45, v46, v47, v48, v49, v50, v51, v52, v53, v54, v55, v56, v57, v58, v59, v60, v61, v62, v63, v64, v65, v66, v67, v68, v69, v70, v71, v72, v73, v74, v75, v76, v77, v78, v79, v80, v81, v82, v83, v84, v85, v86, v87, v88, v89, v90, v91, v92, v93, v94, v95, v96, v97, v98, v99, v100, v101, v102, v103, v104, v105, v106, v107, v108, v109, v110, v111, v112, v113, v114, v115, v116, v117, v118, v119, v120, v121, v122, v123, v124, v125, v126, v127, v128, v129, v130, v131, v132, v133, v134, v135, v136, v137, v138, v139, v140, v141, v142, v143, v144, v145, v146, v147, v148, v149, v150, v151, v152, v153, v154, v155, v156, v157, v158, v159, v160, v161, v162, v163, v164, v165, v166, v167, v168, v169, v170, v171, v172, v173, v174, v175, v176, v177, v178, v179, v180, v181, v182, v183, v184, v185, v186, v187, v188, v189, v190, v191, v192, v193, v194, v195, v196, v197, v198, v199, v200, v201, v202, v203, v204, v205, v206, v207, v208, v209, v210, v211, v212, v213, v214, v215, v216, v217, v218, v219, v220, v221, v222, v223, v224, v225, v226, v227, v228, v229, v230, v231, v232, v233, v234, v235, v236, v237, v238, v239, v240, v241, v242, v243, v244, v245, v246, v247, v248, v249, v250, v251, v252, v253, v254, v255, v256, v257, v258, v259, v260, v261, v262, v263, v264, v265, v266, v267, v268, v269, v270, v271, v272, v273, v274, v275, v276, v277, v278, v279, v280, v281, v282, v283, v284, v285, v286, v287, v288, v289, v290, v291, v292, v293, v294, v295, v296, v297, v298, v299, v300, v301], []⟩ wd := by
  obtain ⟨yG, yg, yP, yp, AA, cc, ZZ⟩ := y
  obtain rfl : AA = some ad8 := hM.a
  have HM1 := Lib.hid hM
  have HD1 := Lib.hid hD
  have HZ1 := Lib.hid hz1
  have HH := Lib.hid H
  have HX := Lib.hid hX
  have HW1 := Lib.hid hW
  have HSN := Lib.hid hsn
  have HTQ := Lib.hid ht
  have HLN := Lib.hid hln
  have HMD := Lib.hid hmi
  have HRU := Lib.hid hru
  have HID := Lib.hid hid
  have HO := Lib.hid ho
  have HA := Lib.hid ha
  have HS0 := Lib.hid hs0
  have HS1 := Lib.hid hs1
  have HBD := Lib.hid hbd
  have HP := Lib.hid hP
  have hpp : p < ln := by rw [← hln]; exact hru.1.on.lt
  have hx0 : (Q.reverse ++ [(⟨⟨k, p, came, lf, st⟩, lg⟩ : Ff12)])[t]? = some ⟨⟨k, p, came, lf, st⟩, lg⟩ := by rw [← ht, ← List.length_reverse]; exact at_last _ _
  have HX0 := Lib.hid hx0
  obtain ⟨x0, x1, x2⟩ := hmi.sf.at_ hx0
  dsimp only at x0 x1 x2
  rw [show fo12 d ⟨k, p, came, lf, st⟩ = co11 d k from rfl, hln] at x2
  have hgB := hmi.sf.gB
  have HFC : Hid (t + 1 ≤ fc) := Lib.hid (by
    rcases hmi.sf.own.2 with ⟨h, -⟩ | ⟨g, cap, cur, h, -, -, h2, -⟩
    · cases h
    · injection h with e1 e2 e3
      subst e3
      exact h2)
  have hlB := (hmi.sf.lf _ (List.mem_append_right _ (List.mem_singleton.2 rfl))).1
  dsimp only at hlB
  obtain ⟨t0, t1, t2, t3⟩ := hmi.tk.cells
  have tf := hmi.tk.froz
  have xf := hmi.sf.froz
  obtain ⟨i0, i1, i2⟩ := hid.cells
  have e1 : IntKind.i64.wrap ((p : Int) + 1) = (p : Int) + 1 := wrap_small (by omega)
  clear hM hD hz1 H hX hW hsn ht hln hmi hru hid ho ha hbd hP hx0
  have HN0 := Lib.hid hN
  clear hN
  conv => arg 2; whnf
  subst hO
  have HAA := HA.out
  obtain ⟨an, h1, h2, h3⟩ := HRU.out.jump HH.out HX.out (.inl HO.out)
  have h1 : a = an := by rw [← HAA]; exact h1
  subst h1
  have HNX := Lib.hid (Nx12.on HTQ.out (z := (⟨k, p, came, lf, st⟩ : Fz).to an lf false) HMD.out HS0.out HS1.out (Nat.le_succ_of_le haq) h3 rfl rfl)
  clear HAA h2 h3
  go_wp2_with fail
  exact HN0.out _ _ _ _ _ _ _ _ _ _ _ _ _ _ _ _ _ _ _ _ _ _ _ _ _ _ _ _ _ _ _ _ _ _ _ _ _ _ _ _ _ _ _ _ _ _ _ _ _ _ _ _ _ _ _ _ _ _ _ _ _ _ _ _ _ _ _ _ _ _ _ _ _ _ _ _ _ _ _ _ _ _ _ _ _ _ _ _ _ _ _ _ _ _ _ _ _ _ _ _ _ _ _ _ _ _ _ _ _ _ _ _ _ _ _ _ _ _ _ HNX.out
set_option maxHeartbeats 16000000 in
/-- A jump where there is a zero. -/
theorem zero12_v (v0 v1 v2 v4 v6 v7 v8 v9 v18 v19 v20 v21 v22 v23 v24 v25 v26 v27 v28 v29 v30 v31 v32 v33 v34 v35 v36 v37 v38 v39 v40 v41 v42 v43 v44 v45 v46 v47 v48 v49 v50 v51 v52 v53 v54 v55 v56 v57 v58 v59 v60 v61 v62 v63 v64 v65 v66 v67 v68 v69 v70 v71 v72 v73 v74 v75 v76 v77 v78 v79 v80 v81 v82 v83 v84 v85 v86 v87 v88 v89 v90 v91 v92 v93 v94 v95 v96 v97 v98 v99 v100 v101 v102 v103 v104 v105 v106 v107 v108 v109 v110 v111 v112 v113 v114 v115 v116 v117 v118 v119 v120 v121 v122 v123 v124 v125 v126 v127 v128 v129 v130 v131 v132 v133 v134 v135 v136 v137 v138 v139 v140 v141 v142 v143 v144 v145 v146 v147 v148 v149 v150 v151 v152 v153 v154 v155 v156 v157 v158 v159 v160 v161 v162 v163 v164 v165 v166 v167 v168 v169 v170 v171 v172 v173 v174 v175 v176 v177 v178 v179 v180 v181 v182 v183 v184 v185 v186 v187 v188 v189 v190 v191 v192 v193 v194 v195 v196 v197 v198 v199 v200 v201 v202 v203 v204 v205 v206 v207 v208 v209 v210 v211 v212 v213 v214 v215 v216 v217 v218 v219 v220 v221 v222 v223 v224 v225 v226 v227 v228 v229 v230 v231 v232 v233 v234 v235 v236 v237 v238 v239 v240 v241 v242 v243 v244 v245 v246 v247 v248 v249 v250 v251 v252 v253 v254 v255 v256 v257 v258 v259 v260 v261 v262 v263 v264 v265 v266 v267 v268 v269 v270 v271 v272 v273 v274 v275 v276 v277 v278 v279 v280 v281 v282 v283 v284 v285 v286 v287 v288 v289 v290 v291 v292 v293 v294 v295 v296 v297 v298 v299 v300 v301 : Value) (y : Ma) (d : Md) (ad8 : Addr) (gR c : Nat) (R : List Rr12) (w1 wd : World) (WA : Option Addr) (wn wc B Gb t fc sn ln k0 k p lg f v aq I : Nat) (xp : Prop) (came lf : Nat → Nat) (st : Bool) (Q : List Ff12) (s hi o a bz : Int)
    (hM : Md12 w1 y d ad8 gR c R) (hD : Db w1 B y d) (hz1 : w1.heap.size = B + 1) (H : Ok12 d) (hX : Xs12 d k0 xp) (hwn : wn ≤ 9223372036854775807) (hW : Bw12 w1 WA wn) (hsn : d.s.length = sn) (hs40 : sn ≤ 40) (ht : Q.length = t) (ht5 : t ≤ 5000) (hln : (co11 d k).length = ln) (hln3 : ln ≤ 300)
    (hmi : Mi12 B w1 wd d Gb (t + 1) fc (Q.reverse ++ [⟨⟨k, p, came, lf, st⟩, lg⟩]) ((f : Int) + 1) s v) (hru : Ru12 d k0 xp ⟨k, p, came, lf, st⟩ (Q.map (·.z)) f v) (hid : Ix12 wd I o a bz) (hIB : B + 2 < I) (ho : iO9 (co11 d k) p = o) (ha : iA9 (co11 d k) p = a) (haq : aq ≤ f) (hf5 : f ≤ 5000) (hv5 : v ≤ 1000000)
    (hs0 : 0 ≤ s) (hs1 : s ≤ (ce12 d k0).2.1) (hbd : ∀ z, z ∈ d.s → z.1.a.length ≤ 100 ∧ z.1.l.length ≤ 100 ∧ z.2.length ≤ 300) (Q0 : Exit → Act → World → Prop) (hP : ∀ c (a : Act) (o : Option Tmp) (v : Value) w, Q0 (.panic c) (a.put o v) w → Q0 (.panic c) a w) (hO : o = 27)
    (hN : ∀ (y20 y186 y187 y188 y189 y190 y191 y192 y193 y194 y195 y196 y197 y198 y199 y200 y201 y202 y203 y204 y205 y206 y207 y208 y209 y210 y211 y212 y213 y214 y215 y216 y217 y218 y219 y220 y221 y222 y223 y224 y225 y226 y227 y228 y229 y230 y231 y232 y233 y234 y235 y236 y237 y238 y239 y240 y241 y242 y243 y244 y245 y246 y247 y248 y249 y250 y251 y252 y253 y254 y255 y256 y257 y258 y259 y260 y261 y262 y263 y264 y265 y266 y267 y268 y269 y270 y271 y272 y273 y274 y275 y276 y277 y278 y279 y280 y281 y282 y283 y284 y285 y286 y287 y288 y289 y290 y291 y292 y293 y294 y295 y296 y297 y298 y299 y300 fv qv : Value) (w' : World), Nx12 B w1 w' d k0 xp (f + 1) fv qv → Q0 .normal ⟨#[v0, v1, v2, .slice WA wn wc, v4, .pointer (some ⟨B, 0, none⟩), v6, v7, v8, v9, .pointer (some ⟨B + 1, 0, none⟩), .pointer (some ⟨B + 2, 0, none⟩), fv, qv, .int .i64 t, .pointer (some ⟨Gb, t * 3, none⟩), .pointer (some ⟨I, 0, none⟩), .int .i64 hi, v18, v19, y20, v21, v22, v23, v24, v25, v26, v27, v28, v29, v30, v31, v32, v33, v34, v35, v36, v37, v38, v39, v40, v41, v42, v43, v44, v45, v46, v47, v48, v49, v50, v51, v52, v53, v54, v55, v56, v57, v58, v59, v60, v61, v62, v63, v64, v65, v66, v67, v68, v69, v70, v71, v72, v73, v74, v75, v76, v77, v78, v79, v80, v81, v82, v83, v84, v85, v86, v87, v88, v89, v90, v91, v92, v93, v94, v95, v96, v97, v98, v99, v100, v101, v102, v103, v104, v105, v106, v107, v108, v109, v110, v111, v112, v113, v114, v115, v116, v117, v118, v119, v120, v121, v122, v123, v124, v125, v126, v127, v128, v129, v130, v131, v132, v133, v134, v135, v136, v137, v138, v139, v140, v141, v142, v143, v144, v145, v146, v147, v148, v149, v150, v151, v152, v153, v154, v155, v156, v157, v158, v159, v160, v161, v162, v163, v164, v165, v166, v167, v168, v169, v170, v171, v172, v173, v174, v175, v176, v177, v178, v179, v180, v181, v182, v183, v184, v185, y186, y187, y188, y189, y190, y191, y192, y193, y194, y195, y196, y197, y198, y199, y200, y201, y202, y203, y204, y205, y206, y207, y208, y209, y210, y211, y212, y213, y214, y215, y216, y217, y218, y219, y220, y221, y222, y223, y224, y225, y226, y227, y228, y229, y230, y231, y232, y233, y234, y235, y236, y237, y238, y239, y240, y241, y242, y243, y244, y245, y246, y247, y248, y249, y250, y251, y252, y253, y254, y255, y256, y257, y258, y259, y260, y261, y262, y263, y264, y265, y266, y267, y268, y269, y270, y271, y272, y273, y274, y275, y276, y277, y278, y279, y280, y281, y282, y283, y284, y285, y286, y287, y288, y289, y290, y291, y292, y293, y294, y295, y296, y297, y298, y299, y300, v301], []⟩ w') :
    Code.wp Try.prog (cut12 [1, 1, 1, 1, 0, 2, 2, 1, 2, 1, 1, 1, 1, 1, 1, 1, 1, 1] (Try.f10.body.getD .skip)) Q0 ⟨#[v0, v1, v2, .slice WA wn wc, v4, .pointer (some ⟨B, 0, none⟩), v6, v7, v8, v9, .pointer (some ⟨B + 1, 0, none⟩), .pointer (some ⟨B + 2, 0, none⟩), .slice (some ⟨Gb, 0, none⟩) (t + 1) fc, .int .i64 aq, .int .i64 t, .pointer (some ⟨Gb, t * 3, none⟩), .pointer (some ⟨I, 0, none⟩), .int .i64 hi, v18, v19, v20, v21, v22, v23, v24, v25, v26, v27, v28, v29, v30, v31, v32, v33, v34, v35, v36, v37, v38, v39, v40, v41, v42, v43, v44, v45, v46, v47, v48, v49, v50, v51, v52, v53, v54, v55, v56, v57, v58, v59, v60, v61, v62, v63, v64, v65, v66, v67, v68, v69, v70, v71, v72, v73, v74, v75, v76, v77, v78, v79, v80, v81, v82, v83, v84, v85, v86, v87, v88, v89, v90, v91, v92, v93, v94, v95, v96, v97, v98, v99, v100, v101, v102, v103, v104, v105, v106, v107, v108, v109, v110, v111, v112, v113, v114, v115, v116, v117, v118, v119, v120, v121, v122, v123, v124, v125, v126, v127, v128, v129, v130, v131, v132, v133, v134, v135, v136, v137, v138, v139, v140, v141, v142, v143, v144, v145, v146, v147, v148, v149, v150, v151, v152, v153, v154, v155, v156, v157, v158, v159, v160, v161, v162, v163, v164, v165, v166, v167, v168, v169, v170, v171, v172, v173, v174, v175, v176, v177, v178, v179, v180, v181, v182, v183, v184, v185, v186, v187, v188, v189, v190, v191, v192, v193, v194, v195, v196, v197, v198, v199, v200, v201, v202, v203, v204, v205, v206, v207, v208, v209, v210, v211, v212, v213, v214, v215, v216, v217, v218, v219, v220, v221, v222, v223, v224, v225, v226, v227, v228, v229, v230, v231, v232, v233, v234, v235, v236, v237, v238, v239, v240, v241, v242, v243, v244, v245, v246, v247, v248, v249, v250, v251, v252, v253, v254, v255, v256, v257, v258, v259, v260, v261, v262, v263, v264, v265, v266, v267, v268, v269, v270, v271, v272, v273, v274, v275, v276, v277, v278, v279, v280, v281, v282, v283, v284, v285, v286, v287, v288, v289, v290, v291, v292, v293, v294, v295, v296, v297, v298, v299, v300, v301], []⟩ wd := by
  obtain ⟨yG, yg, yP, yp, AA, cc, ZZ⟩ := y
  obtain rfl : AA = some ad8 := hM.a
  have HM1 := Lib.hid hM
  have HD1 := Lib.hid hD
  have HZ1 := Lib.hid hz1
  have HH := Lib.hid H
  have HX := Lib.hid hX
  have HW1 := Lib.hid hW
  have HSN := Lib.hid hsn
  have HTQ := Lib.hid ht
  have HLN := Lib.hid hln
  have HMD := Lib.hid hmi
  have HRU := Lib.hid hru
  have HID := Lib.hid hid
  have HO := Lib.hid ho
  have HA := Lib.hid ha
  have HS0 := Lib.hid hs0
  have HS1 := Lib.hid hs1
  have HBD := Lib.hid hbd
  have HP := Lib.hid hP
  have hpp : p < ln := by rw [← hln]; exact hru.1.on.lt
  have hx0 : (Q.reverse ++ [(⟨⟨k, p, came, lf, st⟩, lg⟩ : Ff12)])[t]? = some ⟨⟨k, p, came, lf, st⟩, lg⟩ := by rw [← ht, ← List.length_reverse]; exact at_last _ _
  have HX0 := Lib.hid hx0
  obtain ⟨x0, x1, x2⟩ := hmi.sf.at_ hx0
  dsimp only at x0 x1 x2
  rw [show fo12 d ⟨k, p, came, lf, st⟩ = co11 d k from rfl, hln] at x2
  have hgB := hmi.sf.gB
  have HFC : Hid (t + 1 ≤ fc) := Lib.hid (by
    rcases hmi.sf.own.2 with ⟨h, -⟩ | ⟨g, cap, cur, h, -, -, h2, -⟩
    · cases h
    · injection h with e1 e2 e3
      subst e3
      exact h2)
  have hlB := (hmi.sf.lf _ (List.mem_append_right _ (List.mem_singleton.2 rfl))).1
  dsimp only at hlB
  obtain ⟨t0, t1, t2, t3⟩ := hmi.tk.cells
  have tf := hmi.tk.froz
  have xf := hmi.sf.froz
  obtain ⟨i0, i1, i2⟩ := hid.cells
  have e1 : IntKind.i64.wrap ((p : Int) + 1) = (p : Int) + 1 := wrap_small (by omega)
  clear hM hD hz1 H hX hW hsn ht hln hmi hru hid ho ha hbd hP hx0
  have HN0 := Lib.hid hN
  clear hN
  conv => arg 2; whnf
  subst hO
  have HAA := HA.out
  have e2 : IntKind.i64.wrap ((aq : Int) + 1) = ((aq + 1 : Nat) : Int) := by rw [wrap_small (by omega)]; omega
  have HWD : Hid (Bw12 wd WA wn) := Lib.hid (HW1.out.keep (by rw [HZ1.out]; exact HMD.out.bl))
  by_cases hqw : aq < wn
  case pos =>
    have e3 : decide ((aq : Int) < wn) = true := by simp; omega
    obtain ⟨adw, bw, hA, hcw⟩ := HWD.out aq hqw
    subst hA
    have c1 : (aq : Int) < wn := by omega
    cases bw with
    | true =>
      obtain ⟨an, h1, h2, h3⟩ := HRU.out.jump HH.out HX.out (.inr HO.out)
      have h1 : a = an := by rw [← HAA]; exact h1
      subst h1
      have HNX := Lib.hid (Nx12.on HTQ.out (aq := aq + 1) (z := (⟨k, p, came, lf, st⟩ : Fz).to an lf false) HMD.out HS0.out HS1.out (Nat.succ_le_succ haq) h3 rfl rfl)
      clear HAA h2 h3
      go_wp2_with fail
      exact HN0.out _ _ _ _ _ _ _ _ _ _ _ _ _ _ _ _ _ _ _ _ _ _ _ _ _ _ _ _ _ _ _ _ _ _ _ _ _ _ _ _ _ _ _ _ _ _ _ _ _ _ _ _ _ _ _ _ _ _ _ _ _ _ _ _ _ _ _ _ _ _ _ _ _ _ _ _ _ _ _ _ _ _ _ _ _ _ _ _ _ _ _ _ _ _ _ _ _ _ _ _ _ _ _ _ _ _ _ _ _ _ _ _ _ _ _ _ _ _ _ HNX.out
    | false =>
      have h3 := (HRU.out.past HH.out HX.out HO.out).2
      have HNX := Lib.hid (Nx12.on HTQ.out (aq := aq + 1) (z := (⟨k, p, came, lf, st⟩ : Fz).to (p + 1) lf false) HMD.out HS0.out HS1.out (Nat.succ_le_succ haq) h3 rfl rfl)
      clear HAA h3
      go_wp2_with fail
      exact HN0.out _ _ _ _ _ _ _ _ _ _ _ _ _ _ _ _ _ _ _ _ _ _ _ _ _ _ _ _ _ _ _ _ _ _ _ _ _ _ _ _ _ _ _ _ _ _ _ _ _ _ _ _ _ _ _ _ _ _ _ _ _ _ _ _ _ _ _ _ _ _ _ _ _ _ _ _ _ _ _ _ _ _ _ _ _ _ _ _ _ _ _ _ _ _ _ _ _ _ _ _ _ _ _ _ _ _ _ _ _ _ _ _ _ _ _ _ _ _ _ HNX.out
  case neg =>
    have e3 : decide ((aq : Int) < wn) = false := by simp; omega
    have h3 := (HRU.out.past HH.out HX.out HO.out).2
    have HNX := Lib.hid (Nx12.on HTQ.out (aq := aq + 1) (z := (⟨k, p, came, lf, st⟩ : Fz).to (p + 1) lf false) HMD.out HS0.out HS1.out (Nat.succ_le_succ haq) h3 rfl rfl)
    clear HAA h3
    go_wp2_with fail
    exact HN0.out _ _ _ _ _ _ _ _ _ _ _ _ _ _ _ _ _ _ _ _ _ _ _ _ _ _ _ _ _ _ _ _ _ _ _ _ _ _ _ _ _ _ _ _ _ _ _ _ _ _ _ _ _ _ _ _ _ _ _ _ _ _ _ _ _ _ _ _ _ _ _ _ _ _ _ _ _ _ _ _ _ _ _ _ _ _ _ _ _ _ _ _ _ _ _ _ _ _ _ _ _ _ _ _ _ _ _ _ _ _ _ _ _ _ _ _ _ _ _ HNX.out
set_option maxHeartbeats 16000000 in
/-- A loop begins. -/
theorem loop12_v (v0 v1 v2 v4 v6 v7 v8 v9 v18 v19 v20 v21 v22 v23 v24 v25 v26 v27 v28 v29 v30 v31 v32 v33 v34 v35 v36 v37 v38 v39 v40 v41 v42 v43 v44 v45 v46 v47 v48 v49 v50 v51 v52 v53 v54 v55 v56 v57 v58 v59 v60 v61 v62 v63 v64 v65 v66 v67 v68 v69 v70 v71 v72 v73 v74 v75 v76 v77 v78 v79 v80 v81 v82 v83 v84 v85 v86 v87 v88 v89 v90 v91 v92 v93 v94 v95 v96 v97 v98 v99 v100 v101 v102 v103 v104 v105 v106 v107 v108 v109 v110 v111 v112 v113 v114 v115 v116 v117 v118 v119 v120 v121 v122 v123 v124 v125 v126 v127 v128 v129 v130 v131 v132 v133 v134 v135 v136 v137 v138 v139 v140 v141 v142 v143 v144 v145 v146 v147 v148 v149 v150 v151 v152 v153 v154 v155 v156 v157 v158 v159 v160 v161 v162 v163 v164 v165 v166 v167 v168 v169 v170 v171 v172 v173 v174 v175 v176 v177 v178 v179 v180 v181 v182 v183 v184 v185 v186 v187 v188 v189 v190 v191 v192 v193 v194 v195 v196 v197 v198 v199 v200 v201 v202 v203 v204 v205 v206 v207 v208 v209 v210 v211 v212 v213 v214 v215 v216 v217 v218 v219 v220 v221 v222 v223 v224 v225 v226 v227 v228 v229 v230 v231 v232 v233 v234 v235 v236 v237 v238 v239 v240 v241 v242 v243 v244 v245 v246 v247 v248 v249 v250 v251 v252 v253 v254 v255 v256 v257 v258 v259 v260 v261 v262 v263 v264 v265 v266 v267 v268 v269 v270 v271 v272 v273 v274 v275 v276 v277 v278 v279 v280 v281 v282 v283 v284 v285 v286 v287 v288 v289 v290 v291 v292 v293 v294 v295 v296 v297 v298 v299 v300 v301 : Value) (y : Ma) (d : Md) (ad8 : Addr) (gR c : Nat) (R : List Rr12) (w1 wd : World) (WA : Option Addr) (wn wc B Gb t fc sn ln k0 k p lg f v aq I : Nat) (xp : Prop) (came lf : Nat → Nat) (st : Bool) (Q : List Ff12) (s hi o a bz : Int)
    (hM : Md12 w1 y d ad8 gR c R) (hD : Db w1 B y d) (hz1 : w1.heap.size = B + 1) (H : Ok12 d) (hX : Xs12 d k0 xp) (hwn : wn ≤ 9223372036854775807) (hW : Bw12 w1 WA wn) (hsn : d.s.length = sn) (hs40 : sn ≤ 40) (ht : Q.length = t) (ht5 : t ≤ 5000) (hln : (co11 d k).length = ln) (hln3 : ln ≤ 300)
    (hmi : Mi12 B w1 wd d Gb (t + 1) fc (Q.reverse ++ [⟨⟨k, p, came, lf, st⟩, lg⟩]) ((f : Int) + 1) s v) (hru : Ru12 d k0 xp ⟨k, p, came, lf, st⟩ (Q.map (·.z)) f v) (hid : Ix12 wd I o a bz) (hIB : B + 2 < I) (ho : iO9 (co11 d k) p = o) (ha : iA9 (co11 d k) p = a) (haq : aq ≤ f) (hf5 : f ≤ 5000) (hv5 : v ≤ 1000000)
    (hs0 : 0 ≤ s) (hs1 : s ≤ (ce12 d k0).2.1) (hbd : ∀ z, z ∈ d.s → z.1.a.length ≤ 100 ∧ z.1.l.length ≤ 100 ∧ z.2.length ≤ 300) (Q0 : Exit → Act → World → Prop) (hP : ∀ c (a : Act) (o : Option Tmp) (v : Value) w, Q0 (.panic c) (a.put o v) w → Q0 (.panic c) a w) (hO : o = 28)
    (hN : ∀ (y20 y186 y187 y188 y189 y190 y191 y192 y193 y194 y195 y196 y197 y198 y199 y200 y201 y202 y203 y204 y205 y206 y207 y208 y209 y210 y211 y212 y213 y214 y215 y216 y217 y218 y219 y220 y221 y222 y223 y224 y225 y226 y227 y228 y229 y230 y231 y232 y233 y234 y235 y236 y237 y238 y239 y240 y241 y242 y243 y244 y245 y246 y247 y248 y249 y250 y251 y252 y253 y254 y255 y256 y257 y258 y259 y260 y261 y262 y263 y264 y265 y266 y267 y268 y269 y270 y271 y272 y273 y274 y275 y276 y277 y278 y279 y280 y281 y282 y283 y284 y285 y286 y287 y288 y289 y290 y291 y292 y293 y294 y295 y296 y297 y298 y299 y300 fv qv : Value) (w' : World), Nx12 B w1 w' d k0 xp (f + 1) fv qv → Q0 .normal ⟨#[v0, v1, v2, .slice WA wn wc, v4, .pointer (some ⟨B, 0, none⟩), v6, v7, v8, v9, .pointer (some ⟨B + 1, 0, none⟩), .pointer (some ⟨B + 2, 0, none⟩), fv, qv, .int .i64 t, .pointer (some ⟨Gb, t * 3, none⟩), .pointer (some ⟨I, 0, none⟩), .int .i64 hi, v18, v19, y20, v21, v22, v23, v24, v25, v26, v27, v28, v29, v30, v31, v32, v33, v34, v35, v36, v37, v38, v39, v40, v41, v42, v43, v44, v45, v46, v47, v48, v49, v50, v51, v52, v53, v54, v55, v56, v57, v58, v59, v60, v61, v62, v63, v64, v65, v66, v67, v68, v69, v70, v71, v72, v73, v74, v75, v76, v77, v78, v79, v80, v81, v82, v83, v84, v85, v86, v87, v88, v89, v90, v91, v92, v93, v94, v95, v96, v97, v98, v99, v100, v101, v102, v103, v104, v105, v106, v107, v108, v109, v110, v111, v112, v113, v114, v115, v116, v117, v118, v119, v120, v121, v122, v123, v124, v125, v126, v127, v128, v129, v130, v131, v132, v133, v134, v135, v136, v137, v138, v139, v140, v141, v142, v143, v144, v145, v146, v147, v148, v149, v150, v151, v152, v153, v154, v155, v156, v157, v158, v159, v160, v161, v162, v163, v164, v165, v166, v167, v168, v169, v170, v171, v172, v173, v174, v175, v176, v177, v178, v179, v180, v181, v182, v183, v184, v185, y186, y187, y188, y189, y190, y191, y192, y193, y194, y195, y196, y197, y198, y199, y200, y201, y202, y203, y204, y205, y206, y207, y208, y209, y210, y211, y212, y213, y214, y215, y216, y217, y218, y219, y220, y221, y222, y223, y224, y225, y226, y227, y228, y229, y230, y231, y232, y233, y234, y235, y236, y237, y238, y239, y240, y241, y242, y243, y244, y245, y246, y247, y248, y249, y250, y251, y252, y253, y254, y255, y256, y257, y258, y259, y260, y261, y262, y263, y264, y265, y266, y267, y268, y269, y270, y271, y272, y273, y274, y275, y276, y277, y278, y279, y280, y281, y282, y283, y284, y285, y286, y287, y288, y289, y290, y291, y292, y293, y294, y295, y296, y297, y298, y299, y300, v301], []⟩ w') :
    Code.wp Try.prog (cut12 [1, 1, 1, 1, 0, 2, 2, 1, 2, 1, 1, 1, 1, 1, 1, 1, 1, 1] (Try.f10.body.getD .skip)) Q0 ⟨#[v0, v1, v2, .slice WA wn wc, v4, .pointer (some ⟨B, 0, none⟩), v6, v7, v8, v9, .pointer (some ⟨B + 1, 0, none⟩), .pointer (some ⟨B + 2, 0, none⟩), .slice (some ⟨Gb, 0, none⟩) (t + 1) fc, .int .i64 aq, .int .i64 t, .pointer (some ⟨Gb, t * 3, none⟩), .pointer (some ⟨I, 0, none⟩), .int .i64 hi, v18, v19, v20, v21, v22, v23, v24, v25, v26, v27, v28, v29, v30, v31, v32, v33, v34, v35, v36, v37, v38, v39, v40, v41, v42, v43, v44, v45, v46, v47, v48, v49, v50, v51, v52, v53, v54, v55, v56, v57, v58, v59, v60, v61, v62, v63, v64, v65, v66, v67, v68, v69, v70, v71, v72, v73, v74, v75, v76, v77, v78, v79, v80, v81, v82, v83, v84, v85, v86, v87, v88, v89, v90, v91, v92, v93, v94, v95, v96, v97, v98, v99, v100, v101, v102, v103, v104, v105, v106, v107, v108, v109, v110, v111, v112, v113, v114, v115, v116, v117, v118, v119, v120, v121, v122, v123, v124, v125, v126, v127, v128, v129, v130, v131, v132, v133, v134, v135, v136, v137, v138, v139, v140, v141, v142, v143, v144, v145, v146, v147, v148, v149, v150, v151, v152, v153, v154, v155, v156, v157, v158, v159, v160, v161, v162, v163, v164, v165, v166, v167, v168, v169, v170, v171, v172, v173, v174, v175, v176, v177, v178, v179, v180, v181, v182, v183, v184, v185, v186, v187, v188, v189, v190, v191, v192, v193, v194, v195, v196, v197, v198, v199, v200, v201, v202, v203, v204, v205, v206, v207, v208, v209, v210, v211, v212, v213, v214, v215, v216, v217, v218, v219, v220, v221, v222, v223, v224, v225, v226, v227, v228, v229, v230, v231, v232, v233, v234, v235, v236, v237, v238, v239, v240, v241, v242, v243, v244, v245, v246, v247, v248, v249, v250, v251, v252, v253, v254, v255, v256, v257, v258, v259, v260, v261, v262, v263, v264, v265, v266, v267, v268, v269, v270, v271, v272, v273, v274, v275, v276, v277, v278, v279, v280, v281, v282, v283, v284, v285, v286, v287, v288, v289, v290, v291, v292, v293, v294, v295, v296, v297, v298, v299, v300, v301], []⟩ wd := by
  obtain ⟨yG, yg, yP, yp, AA, cc, ZZ⟩ := y
  obtain rfl : AA = some ad8 := hM.a
  have HM1 := Lib.hid hM
  have HD1 := Lib.hid hD
  have HZ1 := Lib.hid hz1
  have HH := Lib.hid H
  have HX := Lib.hid hX
  have HW1 := Lib.hid hW
  have HSN := Lib.hid hsn
  have HTQ := Lib.hid ht
  have HLN := Lib.hid hln
  have HMD := Lib.hid hmi
  have HRU := Lib.hid hru
  have HID := Lib.hid hid
  have HO := Lib.hid ho
  have HA := Lib.hid ha
  have HS0 := Lib.hid hs0
  have HS1 := Lib.hid hs1
  have HBD := Lib.hid hbd
  have HP := Lib.hid hP
  have hpp : p < ln := by rw [← hln]; exact hru.1.on.lt
  have hx0 : (Q.reverse ++ [(⟨⟨k, p, came, lf, st⟩, lg⟩ : Ff12)])[t]? = some ⟨⟨k, p, came, lf, st⟩, lg⟩ := by rw [← ht, ← List.length_reverse]; exact at_last _ _
  have HX0 := Lib.hid hx0
  obtain ⟨x0, x1, x2⟩ := hmi.sf.at_ hx0
  dsimp only at x0 x1 x2
  rw [show fo12 d ⟨k, p, came, lf, st⟩ = co11 d k from rfl, hln] at x2
  have hgB := hmi.sf.gB
  have HFC : Hid (t + 1 ≤ fc) := Lib.hid (by
    rcases hmi.sf.own.2 with ⟨h, -⟩ | ⟨g, cap, cur, h, -, -, h2, -⟩
    · cases h
    · injection h with e1 e2 e3
      subst e3
      exact h2)
  have hlB := (hmi.sf.lf _ (List.mem_append_right _ (List.mem_singleton.2 rfl))).1
  dsimp only at hlB
  obtain ⟨t0, t1, t2, t3⟩ := hmi.tk.cells
  have tf := hmi.tk.froz
  have xf := hmi.sf.froz
  obtain ⟨i0, i1, i2⟩ := hid.cells
  have e1 : IntKind.i64.wrap ((p : Int) + 1) = (p : Int) + 1 := wrap_small (by omega)
  clear hM hD hz1 H hX hW hsn ht hln hmi hru hid ho ha hbd hP hx0
  have HN0 := Lib.hid hN
  clear hN
  conv => arg 2; whnf
  subst hO
  have HAA := HA.out
  obtain ⟨-, h1, h2, h3⟩ := HRU.out.loop HH.out HO.out
  have h1 : 1 ≤ a := by rw [← HAA]; exact h1
  have h2 : a ≤ 100 := by rw [← HAA]; exact h2
  obtain ⟨an, han⟩ : ∃ an : Nat, a = an := ⟨a.toNat, by omega⟩
  subst han
  have h3 : Ru12 d k0 xp ((⟨k, p, came, lf, st⟩ : Fz).to (p + 1) (put9 lf p an) st) (Q.map (·.z)) (f + 1) v := by
    have h4 : (iA9 (co11 d k) p).toNat = an := by rw [HAA, Int.toNat_natCast]
    rw [← h4]
    exact h3
  have hf := (HMD.out.sf.left HX0.out).froz
  dsimp only at hf
  have hcl := (HMD.out.sf.left HX0.out).cell (q := p) (by show p < (co11 d k).length; rw [HLN.out]; exact hpp)
  dsimp only at hcl
  have h5 := HMD.out.setLt HTQ.out p an
  dsimp only at h5
  have HNX := Lib.hid (Nx12.on HTQ.out (z := (⟨k, p, came, lf, st⟩ : Fz).to (p + 1) (put9 lf p an) st) (h5.keep (below_draws (Below.refl _ _) 1)) HS0.out HS1.out (Nat.le_succ_of_le haq) h3 rfl rfl)
  have H5 := Lib.hid (h5.keep (below_draws (Below.refl _ _) 1))
  have c1 : (p : Int) < ln := by omega
  clear HAA h1 h2 h3 h5
  go_upto_region 39 with (fail)
  refine wp_region_L [11] (S := fun w' => w'.cell? (⟨Gb, t * 3 + 2, none⟩) = some (.slice (some ⟨lg, 0, none⟩) ln ln) ∧ w'.cell? (⟨Gb, t * 3 + 1, none⟩) = some (.int .i64 p) ∧ w'.cell? (⟨I, 1, none⟩) = some (.int .i64 an)) (by kernel_rfl) (⟨x2, x1, i1⟩) (fun hHeld => ?_)
  refine wpL_reckon (i := 0) (v := ?_) rfl (by kernel_rfl) (fun _ _ _ h => HP.out _ _ _ _ _ h) (Or.inl ⟨by rfl, ?_⟩) (Or.inr (by assumption)) ?_
  rotate_left 1
  · intro w _; go_simp; try with_reducible rfl
  try simp only [Act.put, List.getElem_toArray, List.getElem_cons_zero, List.getElem_cons_succ, List.setIfInBounds_toArray, List.set_cons_zero, List.set_cons_succ]
  refine wpL_reckon (i := 1) (v := ?_) rfl (by kernel_rfl) (fun _ _ _ h => HP.out _ _ _ _ _ h) (Or.inl ⟨by rfl, ?_⟩) (Or.inr (by assumption)) ?_
  rotate_left 1
  · intro w _; go_simp; try with_reducible rfl
  try simp only [Act.put, List.getElem_toArray, List.getElem_cons_zero, List.getElem_cons_succ, List.setIfInBounds_toArray, List.set_cons_zero, List.set_cons_succ]
  refine wpL_reckon (i := 2) (v := ?_) rfl (by kernel_rfl) (fun _ _ _ h => HP.out _ _ _ _ _ h) (Or.inl ⟨by rfl, ?_⟩) (Or.inr (by assumption)) ?_
  rotate_left 1
  · intro w _; go_simp; try with_reducible rfl
  try simp only [Act.put, List.getElem_toArray, List.getElem_cons_zero, List.getElem_cons_succ, List.setIfInBounds_toArray, List.set_cons_zero, List.set_cons_succ]
  refine wpL_take (i := 3) (v := ?_) rfl (by kernel_rfl) (fun _ _ _ h => HP.out _ _ _ _ _ h) (Or.inl ⟨by rfl, ?_⟩) (by assumption) ?_
  rotate_left 1
  · intro w hSw; (try dsimp only at hSw); obtain ⟨s0, s1, s2⟩ := hSw; go_simp; try with_reducible rfl
  try simp only [Act.put, List.getElem_toArray, List.getElem_cons_zero, List.getElem_cons_succ, List.setIfInBounds_toArray, List.set_cons_zero, List.set_cons_succ]
  refine wpL_reckon (i := 4) (v := ?_) rfl (by kernel_rfl) (fun _ _ _ h => HP.out _ _ _ _ _ h) (Or.inl ⟨by rfl, ?_⟩) (Or.inr (by assumption)) ?_
  rotate_left 1
  · intro w _; go_simp; try with_reducible rfl
  try simp only [Act.put, List.getElem_toArray, List.getElem_cons_zero, List.getElem_cons_succ, List.setIfInBounds_toArray, List.set_cons_zero, List.set_cons_succ]
  refine wpL_reckon (i := 5) (v := ?_) rfl (by kernel_rfl) (fun _ _ _ h => HP.out _ _ _ _ _ h) (Or.inl ⟨by rfl, ?_⟩) (Or.inr (by assumption)) ?_
  rotate_left 1
  · intro w _; go_simp; try with_reducible rfl
  try simp only [Act.put, List.getElem_toArray, List.getElem_cons_zero, List.getElem_cons_succ, List.setIfInBounds_toArray, List.set_cons_zero, List.set_cons_succ]
  refine wpL_reckon (i := 6) (v := ?_) rfl (by kernel_rfl) (fun _ _ _ h => HP.out _ _ _ _ _ h) (Or.inl ⟨by rfl, ?_⟩) (Or.inr (by assumption)) ?_
  rotate_left 1
  · intro w _; go_simp; try with_reducible rfl
  try simp only [Act.put, List.getElem_toArray, List.getElem_cons_zero, List.getElem_cons_succ, List.setIfInBounds_toArray, List.set_cons_zero, List.set_cons_succ]
  refine wpL_take (i := 7) (v := ?_) rfl (by kernel_rfl) (fun _ _ _ h => HP.out _ _ _ _ _ h) (Or.inl ⟨by rfl, ?_⟩) (by assumption) ?_
  rotate_left 1
  · intro w hSw; (try dsimp only at hSw); obtain ⟨s0, s1, s2⟩ := hSw; go_simp; try with_reducible rfl
  try simp only [Act.put, List.getElem_toArray, List.getElem_cons_zero, List.getElem_cons_succ, List.setIfInBounds_toArray, List.set_cons_zero, List.set_cons_succ]
  refine wpL_reckon (i := 8) (v := ?_) rfl (by kernel_rfl) (fun _ _ _ h => HP.out _ _ _ _ _ h) (Or.inl ⟨by rfl, ?_⟩) (Or.inr (by assumption)) ?_
  rotate_left 1
  · intro w _; go_simp; try with_reducible rfl
  try simp only [Act.put, List.getElem_toArray, List.getElem_cons_zero, List.getElem_cons_succ, List.setIfInBounds_toArray, List.set_cons_zero, List.set_cons_succ]
  refine wpL_take (i := 9) (v := ?_) rfl (by kernel_rfl) (fun _ _ _ h => HP.out _ _ _ _ _ h) (Or.inl ⟨by rfl, ?_⟩) (by assumption) ?_
  rotate_left 1
  · intro w hSw; (try dsimp only at hSw); obtain ⟨s0, s1, s2⟩ := hSw; go_simp; try with_reducible rfl
  try simp only [Act.put, List.getElem_toArray, List.getElem_cons_zero, List.getElem_cons_succ, List.setIfInBounds_toArray, List.set_cons_zero, List.set_cons_succ]
  refine wpL_reckon (i := 10) (v := ?_) rfl (by kernel_rfl) (fun _ _ _ h => HP.out _ _ _ _ _ h) (Or.inl ⟨by rfl, ?_⟩) (Or.inr (by assumption)) ?_
  rotate_left 1
  · intro w _; go_simp; try with_reducible rfl
  try simp only [Act.put, List.getElem_toArray, List.getElem_cons_zero, List.getElem_cons_succ, List.setIfInBounds_toArray, List.set_cons_zero, List.set_cons_succ]
  refine wpL_ready (rs := [11]) (by kernel_rfl) (by simp) ?_
  refine AllL.late rfl (by kernel_rfl) (fun K hK => ?_) AllL.nil
  go_simp
  refine hK.out _ _ ?_
  clear hK K
  try simp only [Act.put, List.getElem_toArray, List.getElem_cons_zero, List.getElem_cons_succ, List.setIfInBounds_toArray, List.set_cons_zero, List.set_cons_succ]
  refine wpL_done (by kernel_rfl) ?_ _
  have hx0' := H5.out.sf.froz
  obtain ⟨y0, y1, y2⟩ := H5.out.sf.at_ (i := t) (x := ⟨⟨k, p, came, put9 lf p an, st⟩, lg⟩) (by rw [← HTQ.out, ← List.length_reverse]; exact at_last _ _)
  dsimp only at y0 y1 y2
  change (wd.setCell ⟨lg, p, none⟩ (.int .i64 (an : Int))).cell? _ = _ at y0 y1 y2
  go_wp2_with fail
  exact HN0.out _ _ _ _ _ _ _ _ _ _ _ _ _ _ _ _ _ _ _ _ _ _ _ _ _ _ _ _ _ _ _ _ _ _ _ _ _ _ _ _ _ _ _ _ _ _ _ _ _ _ _ _ _ _ _ _ _ _ _ _ _ _ _ _ _ _ _ _ _ _ _ _ _ _ _ _ _ _ _ _ _ _ _ _ _ _ _ _ _ _ _ _ _ _ _ _ _ _ _ _ _ _ _ _ _ _ _ _ _ _ _ _ _ _ _ _ _ _ _ HNX.out
end Go.Proofs.Ytmgppdjbmhjmbaa
namespace Go.Proofs.Ytmgppdjbmhjmbaa
open Go.RowKit
set_option maxRecDepth 100000
set_option linter.unusedSimpArgs false
set_option linter.unusedVariables false
set_option maxHeartbeats 16000000 in
/-- A loop goes on, or not. -/
theorem again12_v (v0 v1 v2 v4 v6 v7 v8 v9 v18 v19 v20 v21 v22 v23 v24 v25 v26 v27 v28 v29 v30 v31 v32 v33 v34 v35 v36 v37 v38 v39 v40 v41 v42 v43 v44 v45 v46 v47 v48 v49 v50 v51 v52 v53 v54 v55 v56 v57 v58 v59 v60 v61 v62 v63 v64 v65 v66 v67 v68 v69 v70 v71 v72 v73 v74 v75 v76 v77 v78 v79 v80 v81 v82 v83 v84 v85 v86 v87 v88 v89 v90 v91 v92 v93 v94 v95 v96 v97 v98 v99 v100 v101 v102 v103 v104 v105 v106 v107 v108 v109 v110 v111 v112 v113 v114 v115 v116 v117 v118 v119 v120 v121 v122 v123 v124 v125 v126 v127 v128 v129 v130 v131 v132 v133 v134 v135 v136 v137 v138 v139 v140 v141 v142 v143 v144 v145 v146 v147 v148 v149 v150 v151 v152 v153 v154 v155 v156 v157 v158 v159 v160 v161 v162 v163 v164 v165 v166 v167 v168 v169 v170 v171 v172 v173 v174 v175 v176 v177 v178 v179 v180 v181 v182 v183 v184 v185 v186 v187 v188 v189 v190 v191 v192 v193 v194 v195 v196 v197 v198 v199 v200 v201 v202 v203 v204 v205 v206 v207 v208 v209 v210 v211 v212 v213 v214 v215 v216 v217 v218 v219 v220 v221 v222 v223 v224 v225 v226 v227 v228 v229 v230 v231 v232 v233 v234 v235 v236 v237 v238 v239 v240 v241 v242 v243 v244 v245 v246 v247 v248 v249 v250 v251 v252 v253 v254 v255 v256 v257 v258 v259 v260 v261 v262 v263 v264 v265 v266 v267 v268 v269 v270 v271 v272 v273 v274 v275 v276 v277 v278 v279 v280 v281 v282 v283 v284 v285 v286 v287 v288 v289 v290 v291 v292 v293 v294 v295 v296 v297 v298 v299 v300 v301 : Value) (y : Ma) (d : Md) (ad8 : Addr) (gR c : Nat) (R : List Rr12) (w1 wd : World) (WA : Option Addr) (wn wc B Gb t fc sn ln k0 k p lg f v aq I : Nat) (xp : Prop) (came lf : Nat → Nat) (st : Bool) (Q : List Ff12) (s hi o a bz : Int)
    (hM : Md12 w1 y d ad8 gR c R) (hD : Db w1 B y d) (hz1 : w1.heap.size = B + 1) (H : Ok12 d) (hX : Xs12 d k0 xp) (hwn : wn ≤ 9223372036854775807) (hW : Bw12 w1 WA wn) (hsn : d.s.length = sn) (hs40 : sn ≤ 40) (ht : Q.length = t) (ht5 : t ≤ 5000) (hln : (co11 d k).length = ln) (hln3 : ln ≤ 300)
    (hmi : Mi12 B w1 wd d Gb (t + 1) fc (Q.reverse ++ [⟨⟨k, p, came, lf, st⟩, lg⟩]) ((f : Int) + 1) s v) (hru : Ru12 d k0 xp ⟨k, p, came, lf, st⟩ (Q.map (·.z)) f v) (hid : Ix12 wd I o a bz) (hIB : B + 2 < I) (ho : iO9 (co11 d k) p = o) (ha : iA9 (co11 d k) p = a) (haq : aq ≤ f) (hf5 : f ≤ 5000) (hv5 : v ≤ 1000000)
    (hs0 : 0 ≤ s) (hs1 : s ≤ (ce12 d k0).2.1) (hbd : ∀ z, z ∈ d.s → z.1.a.length ≤ 100 ∧ z.1.l.length ≤ 100 ∧ z.2.length ≤ 300) (Q0 : Exit → Act → World → Prop) (hP : ∀ c (a : Act) (o : Option Tmp) (v : Value) w, Q0 (.panic c) (a.put o v) w → Q0 (.panic c) a w) (hO : o = 29)
    (hN : ∀ (y20 y186 y187 y188 y189 y190 y191 y192 y193 y194 y195 y196 y197 y198 y199 y200 y201 y202 y203 y204 y205 y206 y207 y208 y209 y210 y211 y212 y213 y214 y215 y216 y217 y218 y219 y220 y221 y222 y223 y224 y225 y226 y227 y228 y229 y230 y231 y232 y233 y234 y235 y236 y237 y238 y239 y240 y241 y242 y243 y244 y245 y246 y247 y248 y249 y250 y251 y252 y253 y254 y255 y256 y257 y258 y259 y260 y261 y262 y263 y264 y265 y266 y267 y268 y269 y270 y271 y272 y273 y274 y275 y276 y277 y278 y279 y280 y281 y282 y283 y284 y285 y286 y287 y288 y289 y290 y291 y292 y293 y294 y295 y296 y297 y298 y299 y300 fv qv : Value) (w' : World), Nx12 B w1 w' d k0 xp (f + 1) fv qv → Q0 .normal ⟨#[v0, v1, v2, .slice WA wn wc, v4, .pointer (some ⟨B, 0, none⟩), v6, v7, v8, v9, .pointer (some ⟨B + 1, 0, none⟩), .pointer (some ⟨B + 2, 0, none⟩), fv, qv, .int .i64 t, .pointer (some ⟨Gb, t * 3, none⟩), .pointer (some ⟨I, 0, none⟩), .int .i64 hi, v18, v19, y20, v21, v22, v23, v24, v25, v26, v27, v28, v29, v30, v31, v32, v33, v34, v35, v36, v37, v38, v39, v40, v41, v42, v43, v44, v45, v46, v47, v48, v49, v50, v51, v52, v53, v54, v55, v56, v57, v58, v59, v60, v61, v62, v63, v64, v65, v66, v67, v68, v69, v70, v71, v72, v73, v74, v75, v76, v77, v78, v79, v80, v81, v82, v83, v84, v85, v86, v87, v88, v89, v90, v91, v92, v93, v94, v95, v96, v97, v98, v99, v100, v101, v102, v103, v104, v105, v106, v107, v108, v109, v110, v111, v112, v113, v114, v115, v116, v117, v118, v119, v120, v121, v122, v123, v124, v125, v126, v127, v128, v129, v130, v131, v132, v133, v134, v135, v136, v137, v138, v139, v140, v141, v142, v143, v144, v145, v146, v147, v148, v149, v150, v151, v152, v153, v154, v155, v156, v157, v158, v159, v160, v161, v162, v163, v164, v165, v166, v167, v168, v169, v170, v171, v172, v173, v174, v175, v176, v177, v178, v179, v180, v181, v182, v183, v184, v185, y186, y187, y188, y189, y190, y191, y192, y193, y194, y195, y196, y197, y198, y199, y200, y201, y202, y203, y204, y205, y206, y207, y208, y209, y210, y211, y212, y213, y214, y215, y216, y217, y218, y219, y220, y221, y222, y223, y224, y225, y226, y227, y228, y229, y230, y231, y232, y233, y234, y235, y236, y237, y238, y239, y240, y241, y242, y243, y244, y245, y246, y247, y248, y249, y250, y251, y252, y253, y254, y255, y256, y257, y258, y259, y260, y261, y262, y263, y264, y265, y266, y267, y268, y269, y270, y271, y272, y273, y274, y275, y276, y277, y278, y279, y280, y281, y282, y283, y284, y285, y286, y287, y288, y289, y290, y291, y292, y293, y294, y295, y296, y297, y298, y299, y300, v301], []⟩ w') :
    Code.wp Try.prog (cut12 [1, 1, 1, 1, 0, 2, 2, 1, 2, 1, 1, 1, 1, 1, 1, 1, 1, 1] (Try.f10.body.getD .skip)) Q0 ⟨#[v0, v1, v2, .slice WA wn wc, v4, .pointer (some ⟨B, 0, none⟩), v6, v7, v8, v9, .pointer (some ⟨B + 1, 0, none⟩), .pointer (some ⟨B + 2, 0, none⟩), .slice (some ⟨Gb, 0, none⟩) (t + 1) fc, .int .i64 aq, .int .i64 t, .pointer (some ⟨Gb, t * 3, none⟩), .pointer (some ⟨I, 0, none⟩), .int .i64 hi, v18, v19, v20, v21, v22, v23, v24, v25, v26, v27, v28, v29, v30, v31, v32, v33, v34, v35, v36, v37, v38, v39, v40, v41, v42, v43, v44, v45, v46, v47, v48, v49, v50, v51, v52, v53, v54, v55, v56, v57, v58, v59, v60, v61, v62, v63, v64, v65, v66, v67, v68, v69, v70, v71, v72, v73, v74, v75, v76, v77, v78, v79, v80, v81, v82, v83, v84, v85, v86, v87, v88, v89, v90, v91, v92, v93, v94, v95, v96, v97, v98, v99, v100, v101, v102, v103, v104, v105, v106, v107, v108, v109, v110, v111, v112, v113, v114, v115, v116, v117, v118, v119, v120, v121, v122, v123, v124, v125, v126, v127, v128, v129, v130, v131, v132, v133, v134, v135, v136, v137, v138, v139, v140, v141, v142, v143, v144, v145, v146, v147, v148, v149, v150, v151, v152, v153, v154, v155, v156, v157, v158, v159, v160, v161, v162, v163, v164, v165, v166, v167, v168, v169, v170, v171, v172, v173, v174, v175, v176, v177, v178, v179, v180, v181, v182, v183, v184, v185, v186, v187, v188, v189, v190, v191, v192, v193, v194, v195, v196, v197, v198, v199, v200, v201, v202, v203, v204, v205, v206, v207, v208, v209, v210, v211, v212, v213, v214, v215, v216, v217, v218, v219, v220, v221, v222, v223, v224, v225, v226, v227, v228, v229, v230, v231, v232, v233, v234, v235, v236, v237, v238, v239, v240, v241, v242, v243, v244, v245, v246, v247, v248, v249, v250, v251, v252, v253, v254, v255, v256, v257, v258, v259, v260, v261, v262, v263, v264, v265, v266, v267, v268, v269, v270, v271, v272, v273, v274, v275, v276, v277, v278, v279, v280, v281, v282, v283, v284, v285, v286, v287, v288, v289, v290, v291, v292, v293, v294, v295, v296, v297, v298, v299, v300, v301], []⟩ wd := by
  obtain ⟨yG, yg, yP, yp, AA, cc, ZZ⟩ := y
  obtain rfl : AA = some ad8 := hM.a
  have HM1 := Lib.hid hM
  have HD1 := Lib.hid hD
  have HZ1 := Lib.hid hz1
  have HH := Lib.hid H
  have HX := Lib.hid hX
  have HW1 := Lib.hid hW
  have HSN := Lib.hid hsn
  have HTQ := Lib.hid ht
  have HLN := Lib.hid hln
  have HMD := Lib.hid hmi
  have HRU := Lib.hid hru
  have HID := Lib.hid hid
  have HO := Lib.hid ho
  have HA := Lib.hid ha
  have HS0 := Lib.hid hs0
  have HS1 := Lib.hid hs1
  have HBD := Lib.hid hbd
  have HP := Lib.hid hP
  have hpp : p < ln := by rw [← hln]; exact hru.1.on.lt
  have hx0 : (Q.reverse ++ [(⟨⟨k, p, came, lf, st⟩, lg⟩ : Ff12)])[t]? = some ⟨⟨k, p, came, lf, st⟩, lg⟩ := by rw [← ht, ← List.length_reverse]; exact at_last _ _
  have HX0 := Lib.hid hx0
  obtain ⟨x0, x1, x2⟩ := hmi.sf.at_ hx0
  dsimp only at x0 x1 x2
  rw [show fo12 d ⟨k, p, came, lf, st⟩ = co11 d k from rfl, hln] at x2
  have hgB := hmi.sf.gB
  have HFC : Hid (t + 1 ≤ fc) := Lib.hid (by
    rcases hmi.sf.own.2 with ⟨h, -⟩ | ⟨g, cap, cur, h, -, -, h2, -⟩
    · cases h
    · injection h with e1 e2 e3
      subst e3
      exact h2)
  have hlB := (hmi.sf.lf _ (List.mem_append_right _ (List.mem_singleton.2 rfl))).1
  dsimp only at hlB
  obtain ⟨t0, t1, t2, t3⟩ := hmi.tk.cells
  have tf := hmi.tk.froz
  have xf := hmi.sf.froz
  obtain ⟨i0, i1, i2⟩ := hid.cells
  have e1 : IntKind.i64.wrap ((p : Int) + 1) = (p : Int) + 1 := wrap_small (by omega)
  clear hM hD hz1 H hX hW hsn ht hln hmi hru hid ho ha hbd hP hx0
  have HN0 := Lib.hid hN
  clear hN
  conv => arg 2; whnf
  subst hO
  have HAA := HA.out
  obtain ⟨g, h1, h2, h3, h4, h5, h6⟩ := HRU.out.again HH.out HO.out
  have h1 : a = g := by rw [← HAA]; exact h1
  subst h1
  have h2 : g < p := h2
  have h3 : 1 ≤ lf g := h3
  have h4 : lf g ≤ 100 := h4
  have h5 : 2 ≤ lf g → Ru12 d k0 xp ((⟨k, p, came, lf, st⟩ : Fz).to (g + 1) (put9 lf g (lf g - 1)) st) (Q.map (·.z)) (f + 1) v := h5
  have h6 : lf g = 1 → p + 1 < (fo12 d (⟨k, p, came, lf, st⟩ : Fz)).length ∧ Ru12 d k0 xp ((⟨k, p, came, lf, st⟩ : Fz).to (p + 1) (put9 lf g (lf g - 1)) st) (Q.map (·.z)) (f + 1) v := h6
  have hf := (HMD.out.sf.left HX0.out).froz
  dsimp only at hf
  have hcl := (HMD.out.sf.left HX0.out).cell (q := g) (by show g < (co11 d k).length; rw [HLN.out]; omega)
  dsimp only at hcl
  have h7 := HMD.out.setLt HTQ.out g (lf g - 1)
  dsimp only at h7
  obtain ⟨lv, hlv⟩ : ∃ lv, lf g = lv := ⟨_, rfl⟩
  have HLV := Lib.hid hlv
  rw [hlv] at hcl h3 h4 h5 h6 h7
  have HH5 := Lib.hid h5
  have HH6 := Lib.hid h6
  have H7 := Lib.hid (h7.keep (w' := (wd.setCell ⟨lg, g, none⟩ (.int .i64 ((lv - 1 : Nat) : Int))).drew) (below_draws (Below.refl _ _) 1))
  have c1 : (g : Int) < ln := by omega
  have e2 : IntKind.i64.wrap ((lv : Int) - 1) = ((lv - 1 : Nat) : Int) := by rw [wrap_small (by omega)]; omega
  have HI7 : Hid (Ix12 (wd.setCell ⟨lg, g, none⟩ (.int .i64 ((lv - 1 : Nat) : Int))).drew I 29 g bz) := Lib.hid (by
    have hne : lg ≠ I := fun e => by
      have h1 := (HMD.out.sf.left HX0.out)
      have h2 := HID.out
      dsimp only at h1
      unfold Lq12 at h1
      unfold Ix12 at h2
      rw [e, h2] at h1
      injection h1 with h1
      injection h1 with _ h3 _
      exact absurd h3 (by decide)
    exact (Below.heap_setCell wd _ _ I (fun e => hne e.symm)).trans HID.out)
  clear HAA h5 h6 h7 hlv
  go_upto_region 41 with (fail)
  refine wp_region_L [10] (S := fun w' => w'.cell? (⟨Gb, t * 3 + 2, none⟩) = some (.slice (some ⟨lg, 0, none⟩) ln ln) ∧ w'.cell? (⟨I, 1, none⟩) = some (.int .i64 g) ∧ w'.cell? (⟨lg, g, none⟩) = some (.int .i64 lv)) (by kernel_rfl) (⟨x2, i1, hcl⟩) (fun hHeld => ?_)
  refine wpL_reckon (i := 0) (v := ?_) rfl (by kernel_rfl) (fun _ _ _ h => HP.out _ _ _ _ _ h) (Or.inl ⟨by rfl, ?_⟩) (Or.inr (by assumption)) ?_
  rotate_left 1
  · intro w _; go_simp; try with_reducible rfl
  try simp only [Act.put, List.getElem_toArray, List.getElem_cons_zero, List.getElem_cons_succ, List.setIfInBounds_toArray, List.set_cons_zero, List.set_cons_succ]
  refine wpL_reckon (i := 1) (v := ?_) rfl (by kernel_rfl) (fun _ _ _ h => HP.out _ _ _ _ _ h) (Or.inl ⟨by rfl, ?_⟩) (Or.inr (by assumption)) ?_
  rotate_left 1
  · intro w _; go_simp; try with_reducible rfl
  try simp only [Act.put, List.getElem_toArray, List.getElem_cons_zero, List.getElem_cons_succ, List.setIfInBounds_toArray, List.set_cons_zero, List.set_cons_succ]
  refine wpL_reckon (i := 2) (v := ?_) rfl (by kernel_rfl) (fun _ _ _ h => HP.out _ _ _ _ _ h) (Or.inl ⟨by rfl, ?_⟩) (Or.inr (by assumption)) ?_
  rotate_left 1
  · intro w _; go_simp; try with_reducible rfl
  try simp only [Act.put, List.getElem_toArray, List.getElem_cons_zero, List.getElem_cons_succ, List.setIfInBounds_toArray, List.set_cons_zero, List.set_cons_succ]
  refine wpL_take (i := 3) (v := ?_) rfl (by kernel_rfl) (fun _ _ _ h => HP.out _ _ _ _ _ h) (Or.inl ⟨by rfl, ?_⟩) (by assumption) ?_
  rotate_left 1
  · intro w hSw; (try dsimp only at hSw); obtain ⟨s0, s1, s2⟩ := hSw; go_simp; try with_reducible rfl
  try simp only [Act.put, List.getElem_toArray, List.getElem_cons_zero, List.getElem_cons_succ, List.setIfInBounds_toArray, List.set_cons_zero, List.set_cons_succ]
  refine wpL_reckon (i := 4) (v := ?_) rfl (by kernel_rfl) (fun _ _ _ h => HP.out _ _ _ _ _ h) (Or.inl ⟨by rfl, ?_⟩) (Or.inr (by assumption)) ?_
  rotate_left 1
  · intro w _; go_simp; try with_reducible rfl
  try simp only [Act.put, List.getElem_toArray, List.getElem_cons_zero, List.getElem_cons_succ, List.setIfInBounds_toArray, List.set_cons_zero, List.set_cons_succ]
  refine wpL_take (i := 5) (v := ?_) rfl (by kernel_rfl) (fun _ _ _ h => HP.out _ _ _ _ _ h) (Or.inl ⟨by rfl, ?_⟩) (by assumption) ?_
  rotate_left 1
  · intro w hSw; (try dsimp only at hSw); obtain ⟨s0, s1, s2⟩ := hSw; go_simp; try with_reducible rfl
  try simp only [Act.put, List.getElem_toArray, List.getElem_cons_zero, List.getElem_cons_succ, List.setIfInBounds_toArray, List.set_cons_zero, List.set_cons_succ]
  refine wpL_reckon (i := 6) (v := ?_) rfl (by kernel_rfl) (fun _ _ _ h => HP.out _ _ _ _ _ h) (Or.inl ⟨by rfl, ?_⟩) (Or.inr (by assumption)) ?_
  rotate_left 1
  · intro w _; go_simp; try with_reducible rfl
  try simp only [Act.put, List.getElem_toArray, List.getElem_cons_zero, List.getElem_cons_succ, List.setIfInBounds_toArray, List.set_cons_zero, List.set_cons_succ]
  refine wpL_take (i := 7) (v := ?_) rfl (by kernel_rfl) (fun _ _ _ h => HP.out _ _ _ _ _ h) (Or.inl ⟨by rfl, ?_⟩) (by assumption) ?_
  rotate_left 1
  · intro w hSw; (try dsimp only at hSw); obtain ⟨s0, s1, s2⟩ := hSw; go_simp; try with_reducible rfl
  try simp only [Act.put, List.getElem_toArray, List.getElem_cons_zero, List.getElem_cons_succ, List.setIfInBounds_toArray, List.set_cons_zero, List.set_cons_succ]
  refine wpL_reckon (i := 8) (v := ?_) rfl (by kernel_rfl) (fun _ _ _ h => HP.out _ _ _ _ _ h) (Or.inl ⟨by rfl, ?_⟩) (Or.inr (by assumption)) ?_
  rotate_left 1
  · intro w _; go_simp; try with_reducible rfl
  try simp only [Act.put, List.getElem_toArray, List.getElem_cons_zero, List.getElem_cons_succ, List.setIfInBounds_toArray, List.set_cons_zero, List.set_cons_succ]
  refine wpL_reckon (i := 9) (v := ?_) rfl (by kernel_rfl) (fun _ _ _ h => HP.out _ _ _ _ _ h) (Or.inl ⟨by rfl, ?_⟩) (Or.inr (by assumption)) ?_
  rotate_left 1
  · intro w _; go_simp; try with_reducible rfl
  try simp only [Act.put, List.getElem_toArray, List.getElem_cons_zero, List.getElem_cons_succ, List.setIfInBounds_toArray, List.set_cons_zero, List.set_cons_succ]
  refine wpL_ready (rs := [10]) (by kernel_rfl) (by simp) ?_
  refine AllL.late rfl (by kernel_rfl) (fun K hK => ?_) AllL.nil
  go_simp
  refine hK.out _ _ ?_
  clear hK K
  try simp only [Act.put, List.getElem_toArray, List.getElem_cons_zero, List.getElem_cons_succ, List.setIfInBounds_toArray, List.set_cons_zero, List.set_cons_succ]
  refine wpL_done (by kernel_rfl) ?_ _
  obtain ⟨y0, y1, y2⟩ := H7.out.sf.at_ (i := t) (x := ⟨⟨k, p, came, put9 lf g (lv - 1), st⟩, lg⟩) (by rw [← HTQ.out, ← List.length_reverse]; exact at_last _ _)
  have hc2 := (H7.out.sf.left (i := t) (x := ⟨⟨k, p, came, put9 lf g (lv - 1), st⟩, lg⟩) (by rw [← HTQ.out, ← List.length_reverse]; exact at_last _ _)).cell (q := g) (by show g < (co11 d k).length; rw [HLN.out]; omega)
  dsimp only at y0 y1 y2 hc2
  rw [show fo12 d (⟨k, p, came, put9 lf g (lv - 1), st⟩ : Fz) = co11 d k from rfl, HLN.out] at y2
  rw [show put9 lf g (lv - 1) g = lv - 1 by simp [put9]] at hc2
  obtain ⟨k0', k1, k2⟩ := HI7.out.cells
  have yf := H7.out.sf.froz
  change Exit.then _ _ _ _ (wd.setCell ⟨lg, g, none⟩ (.int .i64 ((lv - 1 : Nat) : Int))).drew
  generalize (wd.setCell ⟨lg, g, none⟩ (.int .i64 ((lv - 1 : Nat) : Int))).drew = we at *
  clear x0 x1 x2 xf t0 t1 t2 t3 tf i0 i1 i2 hf hcl
  by_cases hl2 : 2 ≤ lv
  case pos =>
    have hnx := HH5.out hl2
    have e3 : decide ((0 : Int) < ((lv - 1 : Nat) : Int)) = true := by simp; omega
    have e4 : IntKind.i64.wrap ((g : Int) + 1) = (g : Int) + 1 := wrap_small (by omega)
    have HNX := Lib.hid (Nx12.on HTQ.out (z := (⟨k, p, came, lf, st⟩ : Fz).to (g + 1) (put9 lf g (lv - 1)) st) (H7.out.keep (w' := we.drew) (below_draws (Below.refl _ _) 1)) HS0.out HS1.out (Nat.le_succ_of_le haq) hnx rfl rfl)
    clear hnx
    obtain ⟨lw, hlw⟩ : ∃ lw, lv - 1 = lw := ⟨_, rfl⟩
    rw [hlw] at hc2 e3
    have hw0 : 0 < lw := by omega
    clear hlw
    go_upto_region 42 with (fail)
    refine wp_region_held_drew (S := fun w' => w'.cell? (⟨Gb, t * 3 + 2, none⟩) = some (.slice (some ⟨lg, 0, none⟩) ln ln) ∧ w'.cell? (⟨I, 1, none⟩) = some (.int .i64 g) ∧ w'.cell? (⟨lg, g, none⟩) = some (.int .i64 lw)) (by kernel_rfl) (⟨y2, k1, hc2⟩) (fun hHeld => ?_)
    refine wpAnyH_take (i := 0) (v := ?_) rfl (by kernel_rfl) (by kernel_rfl) (by kernel_rfl) (fun _ _ _ h => HP.out _ _ _ _ _ h) (Or.inl ⟨by rfl, ?_⟩) (by assumption) ?_
    rotate_left 1
    · intro w _; go_simp; try with_reducible rfl
    try simp only [Act.put, List.getElem_toArray, List.getElem_cons_zero, List.getElem_cons_succ, List.setIfInBounds_toArray, List.set_cons_zero, List.set_cons_succ]
    refine wpAnyH_take (i := 1) (v := ?_) rfl (by kernel_rfl) (by kernel_rfl) (by kernel_rfl) (fun _ _ _ h => HP.out _ _ _ _ _ h) (Or.inl ⟨by rfl, ?_⟩) (by assumption) ?_
    rotate_left 1
    · intro w _; go_simp; try with_reducible rfl
    try simp only [Act.put, List.getElem_toArray, List.getElem_cons_zero, List.getElem_cons_succ, List.setIfInBounds_toArray, List.set_cons_zero, List.set_cons_succ]
    refine wpAnyH_take (i := 2) (v := ?_) rfl (by kernel_rfl) (by kernel_rfl) (by kernel_rfl) (fun _ _ _ h => HP.out _ _ _ _ _ h) (Or.inl ⟨by rfl, ?_⟩) (by assumption) ?_
    rotate_left 1
    · intro w _; go_simp; try with_reducible rfl
    try simp only [Act.put, List.getElem_toArray, List.getElem_cons_zero, List.getElem_cons_succ, List.setIfInBounds_toArray, List.set_cons_zero, List.set_cons_succ]
    refine wpAnyH_take (i := 3) (v := ?_) rfl (by kernel_rfl) (by kernel_rfl) (by kernel_rfl) (fun _ _ _ h => HP.out _ _ _ _ _ h) (Or.inl ⟨by rfl, ?_⟩) (by assumption) ?_
    rotate_left 1
    · intro w hSw; (try dsimp only at hSw); obtain ⟨s0, s1, s2⟩ := hSw; go_simp; try with_reducible rfl
    try simp only [Act.put, List.getElem_toArray, List.getElem_cons_zero, List.getElem_cons_succ, List.setIfInBounds_toArray, List.set_cons_zero, List.set_cons_succ]
    refine wpAnyH_take (i := 4) (v := ?_) rfl (by kernel_rfl) (by kernel_rfl) (by kernel_rfl) (fun _ _ _ h => HP.out _ _ _ _ _ h) (Or.inl ⟨by rfl, ?_⟩) (by assumption) ?_
    rotate_left 1
    · intro w _; go_simp; try with_reducible rfl
    try simp only [Act.put, List.getElem_toArray, List.getElem_cons_zero, List.getElem_cons_succ, List.setIfInBounds_toArray, List.set_cons_zero, List.set_cons_succ]
    refine wpAnyH_take (i := 5) (v := ?_) rfl (by kernel_rfl) (by kernel_rfl) (by kernel_rfl) (fun _ _ _ h => HP.out _ _ _ _ _ h) (Or.inl ⟨by rfl, ?_⟩) (by assumption) ?_
    rotate_left 1
    · intro w hSw; (try dsimp only at hSw); obtain ⟨s0, s1, s2⟩ := hSw; go_simp; try with_reducible rfl
    try simp only [Act.put, List.getElem_toArray, List.getElem_cons_zero, List.getElem_cons_succ, List.setIfInBounds_toArray, List.set_cons_zero, List.set_cons_succ]
    refine wpAnyH_take (i := 6) (v := ?_) rfl (by kernel_rfl) (by kernel_rfl) (by kernel_rfl) (fun _ _ _ h => HP.out _ _ _ _ _ h) (Or.inl ⟨by rfl, ?_⟩) (by assumption) ?_
    rotate_left 1
    · intro w _; go_simp; try with_reducible rfl
    try simp only [Act.put, List.getElem_toArray, List.getElem_cons_zero, List.getElem_cons_succ, List.setIfInBounds_toArray, List.set_cons_zero, List.set_cons_succ]
    refine wpAnyH_take (i := 7) (v := ?_) rfl (by kernel_rfl) (by kernel_rfl) (by kernel_rfl) (fun _ _ _ h => HP.out _ _ _ _ _ h) (Or.inl ⟨by rfl, ?_⟩) (by assumption) ?_
    rotate_left 1
    · intro w hSw; (try dsimp only at hSw); obtain ⟨s0, s1, s2⟩ := hSw; go_simp; try with_reducible rfl
    try simp only [Act.put, List.getElem_toArray, List.getElem_cons_zero, List.getElem_cons_succ, List.setIfInBounds_toArray, List.set_cons_zero, List.set_cons_succ]
    refine wpAnyH_take (i := 8) (v := ?_) rfl (by kernel_rfl) (by kernel_rfl) (by kernel_rfl) (fun _ _ _ h => HP.out _ _ _ _ _ h) (Or.inl ⟨by rfl, ?_⟩) (by assumption) ?_
    rotate_left 1
    · intro w _; go_simp; try with_reducible rfl
    try simp only [Act.put, List.getElem_toArray, List.getElem_cons_zero, List.getElem_cons_succ, List.setIfInBounds_toArray, List.set_cons_zero, List.set_cons_succ]
    refine wpAnyH_done (by kernel_rfl) ?_ _
    clear hHeld
    go_wp2_with fail
    exact HN0.out _ _ _ _ _ _ _ _ _ _ _ _ _ _ _ _ _ _ _ _ _ _ _ _ _ _ _ _ _ _ _ _ _ _ _ _ _ _ _ _ _ _ _ _ _ _ _ _ _ _ _ _ _ _ _ _ _ _ _ _ _ _ _ _ _ _ _ _ _ _ _ _ _ _ _ _ _ _ _ _ _ _ _ _ _ _ _ _ _ _ _ _ _ _ _ _ _ _ _ _ _ _ _ _ _ _ _ _ _ _ _ _ _ _ _ _ _ _ _ HNX.out
  case neg =>
    have hl3 : lv = 1 := by omega
    have hnx := (HH6.out hl3).2
    subst hl3
    have HNX := Lib.hid (Nx12.on HTQ.out (z := (⟨k, p, came, lf, st⟩ : Fz).to (p + 1) (put9 lf g (1 - 1)) st) (H7.out.keep (w' := we.drew) (below_draws (Below.refl _ _) 1)) HS0.out HS1.out (Nat.le_succ_of_le haq) hnx rfl rfl)
    clear hnx
    go_upto_region 42 with (fail)
    refine wp_region_held_drew (S := fun w' => w'.cell? (⟨Gb, t * 3 + 2, none⟩) = some (.slice (some ⟨lg, 0, none⟩) ln ln) ∧ w'.cell? (⟨I, 1, none⟩) = some (.int .i64 g) ∧ w'.cell? (⟨lg, g, none⟩) = some (.int .i64 0)) (by kernel_rfl) (⟨y2, k1, hc2⟩) (fun hHeld => ?_)
    refine wpAnyH_take (i := 0) (v := ?_) rfl (by kernel_rfl) (by kernel_rfl) (by kernel_rfl) (fun _ _ _ h => HP.out _ _ _ _ _ h) (Or.inl ⟨by rfl, ?_⟩) (by assumption) ?_
    rotate_left 1
    · intro w _; go_simp; try with_reducible rfl
    try simp only [Act.put, List.getElem_toArray, List.getElem_cons_zero, List.getElem_cons_succ, List.setIfInBounds_toArray, List.set_cons_zero, List.set_cons_succ]
    refine wpAnyH_take (i := 1) (v := ?_) rfl (by kernel_rfl) (by kernel_rfl) (by kernel_rfl) (fun _ _ _ h => HP.out _ _ _ _ _ h) (Or.inl ⟨by rfl, ?_⟩) (by assumption) ?_
    rotate_left 1
    · intro w _; go_simp; try with_reducible rfl
    try simp only [Act.put, List.getElem_toArray, List.getElem_cons_zero, List.getElem_cons_succ, List.setIfInBounds_toArray, List.set_cons_zero, List.set_cons_succ]
    refine wpAnyH_take (i := 2) (v := ?_) rfl (by kernel_rfl) (by kernel_rfl) (by kernel_rfl) (fun _ _ _ h => HP.out _ _ _ _ _ h) (Or.inl ⟨by rfl, ?_⟩) (by assumption) ?_
    rotate_left 1
    · intro w _; go_simp; try with_reducible rfl
    try simp only [Act.put, List.getElem_toArray, List.getElem_cons_zero, List.getElem_cons_succ, List.setIfInBounds_toArray, List.set_cons_zero, List.set_cons_succ]
    refine wpAnyH_take (i := 3) (v := ?_) rfl (by kernel_rfl) (by kernel_rfl) (by kernel_rfl) (fun _ _ _ h => HP.out _ _ _ _ _ h) (Or.inl ⟨by rfl, ?_⟩) (by assumption) ?_
    rotate_left 1
    · intro w hSw; (try dsimp only at hSw); obtain ⟨s0, s1, s2⟩ := hSw; go_simp; try with_reducible rfl
    try simp only [Act.put, List.getElem_toArray, List.getElem_cons_zero, List.getElem_cons_succ, List.setIfInBounds_toArray, List.set_cons_zero, List.set_cons_succ]
    refine wpAnyH_take (i := 4) (v := ?_) rfl (by kernel_rfl) (by kernel_rfl) (by kernel_rfl) (fun _ _ _ h => HP.out _ _ _ _ _ h) (Or.inl ⟨by rfl, ?_⟩) (by assumption) ?_
    rotate_left 1
    · intro w _; go_simp; try with_reducible rfl
    try simp only [Act.put, List.getElem_toArray, List.getElem_cons_zero, List.getElem_cons_succ, List.setIfInBounds_toArray, List.set_cons_zero, List.set_cons_succ]
    refine wpAnyH_take (i := 5) (v := ?_) rfl (by kernel_rfl) (by kernel_rfl) (by kernel_rfl) (fun _ _ _ h => HP.out _ _ _ _ _ h) (Or.inl ⟨by rfl, ?_⟩) (by assumption) ?_
    rotate_left 1
    · intro w hSw; (try dsimp only at hSw); obtain ⟨s0, s1, s2⟩ := hSw; go_simp; try with_reducible rfl
    try simp only [Act.put, List.getElem_toArray, List.getElem_cons_zero, List.getElem_cons_succ, List.setIfInBounds_toArray, List.set_cons_zero, List.set_cons_succ]
    refine wpAnyH_take (i := 6) (v := ?_) rfl (by kernel_rfl) (by kernel_rfl) (by kernel_rfl) (fun _ _ _ h => HP.out _ _ _ _ _ h) (Or.inl ⟨by rfl, ?_⟩) (by assumption) ?_
    rotate_left 1
    · intro w _; go_simp; try with_reducible rfl
    try simp only [Act.put, List.getElem_toArray, List.getElem_cons_zero, List.getElem_cons_succ, List.setIfInBounds_toArray, List.set_cons_zero, List.set_cons_succ]
    refine wpAnyH_take (i := 7) (v := ?_) rfl (by kernel_rfl) (by kernel_rfl) (by kernel_rfl) (fun _ _ _ h => HP.out _ _ _ _ _ h) (Or.inl ⟨by rfl, ?_⟩) (by assumption) ?_
    rotate_left 1
    · intro w hSw; (try dsimp only at hSw); obtain ⟨s0, s1, s2⟩ := hSw; go_simp; try with_reducible rfl
    try simp only [Act.put, List.getElem_toArray, List.getElem_cons_zero, List.getElem_cons_succ, List.setIfInBounds_toArray, List.set_cons_zero, List.set_cons_succ]
    refine wpAnyH_take (i := 8) (v := ?_) rfl (by kernel_rfl) (by kernel_rfl) (by kernel_rfl) (fun _ _ _ h => HP.out _ _ _ _ _ h) (Or.inl ⟨by rfl, ?_⟩) (by assumption) ?_
    rotate_left 1
    · intro w _; go_simp; try with_reducible rfl
    try simp only [Act.put, List.getElem_toArray, List.getElem_cons_zero, List.getElem_cons_succ, List.setIfInBounds_toArray, List.set_cons_zero, List.set_cons_succ]
    refine wpAnyH_done (by kernel_rfl) ?_ _
    clear hHeld
    go_wp2_with fail
    exact HN0.out _ _ _ _ _ _ _ _ _ _ _ _ _ _ _ _ _ _ _ _ _ _ _ _ _ _ _ _ _ _ _ _ _ _ _ _ _ _ _ _ _ _ _ _ _ _ _ _ _ _ _ _ _ _ _ _ _ _ _ _ _ _ _ _ _ _ _ _ _ _ _ _ _ _ _ _ _ _ _ _ _ _ _ _ _ _ _ _ _ _ _ _ _ _ _ _ _ _ _ _ _ _ _ _ _ _ _ _ _ _ _ _ _ _ _ _ _ _ _ HNX.out
end Go.Proofs.Ytmgppdjbmhjmbaa
namespace Go.Proofs.Ytmgppdjbmhjmbaa
open Go.RowKit
set_option maxRecDepth 100000
set_option linter.unusedSimpArgs false
set_option linter.unusedVariables false
set_option maxHeartbeats 16000000 in
/-- A call. -/
theorem call12_v (v0 v1 v2 v4 v6 v7 v8 v9 v18 v19 v20 v21 v22 v23 v24 v25 v26 v27 v28 v29 v30 v31 v32 v33 v34 v35 v36 v37 v38 v39 v40 v41 v42 v43 v44 v45 v46 v47 v48 v49 v50 v51 v52 v53 v54 v55 v56 v57 v58 v59 v60 v61 v62 v63 v64 v65 v66 v67 v68 v69 v70 v71 v72 v73 v74 v75 v76 v77 v78 v79 v80 v81 v82 v83 v84 v85 v86 v87 v88 v89 v90 v91 v92 v93 v94 v95 v96 v97 v98 v99 v100 v101 v102 v103 v104 v105 v106 v107 v108 v109 v110 v111 v112 v113 v114 v115 v116 v117 v118 v119 v120 v121 v122 v123 v124 v125 v126 v127 v128 v129 v130 v131 v132 v133 v134 v135 v136 v137 v138 v139 v140 v141 v142 v143 v144 v145 v146 v147 v148 v149 v150 v151 v152 v153 v154 v155 v156 v157 v158 v159 v160 v161 v162 v163 v164 v165 v166 v167 v168 v169 v170 v171 v172 v173 v174 v175 v176 v177 v178 v179 v180 v181 v182 v183 v184 v185 v186 v187 v188 v189 v190 v191 v192 v193 v194 v195 v196 v197 v198 v199 v200 v201 v202 v203 v204 v205 v206 v207 v208 v209 v210 v211 v212 v213 v214 v215 v216 v217 v218 v219 v220 v221 v222 v223 v224 v225 v226 v227 v228 v229 v230 v231 v232 v233 v234 v235 v236 v237 v238 v239 v240 v241 v242 v243 v244 v245 v246 v247 v248 v249 v250 v251 v252 v253 v254 v255 v256 v257 v258 v259 v260 v261 v262 v263 v264 v265 v266 v267 v268 v269 v270 v271 v272 v273 v274 v275 v276 v277 v278 v279 v280 v281 v282 v283 v284 v285 v286 v287 v288 v289 v290 v291 v292 v293 v294 v295 v296 v297 v298 v299 v300 v301 : Value) (y : Ma) (d : Md) (ad8 : Addr) (gR c : Nat) (R : List Rr12) (w1 wd : World) (WA : Option Addr) (wn wc B Gb t fc sn ln k0 k p lg f v aq I : Nat) (xp : Prop) (came lf : Nat → Nat) (st : Bool) (Q : List Ff12) (s hi o a bz : Int)
    (hM : Md12 w1 y d ad8 gR c R) (hD : Db w1 B y d) (hz1 : w1.heap.size = B + 1) (H : Ok12 d) (hX : Xs12 d k0 xp) (hwn : wn ≤ 9223372036854775807) (hW : Bw12 w1 WA wn) (hsn : d.s.length = sn) (hs40 : sn ≤ 40) (ht : Q.length = t) (ht5 : t ≤ 5000) (hln : (co11 d k).length = ln) (hln3 : ln ≤ 300)
    (hmi : Mi12 B w1 wd d Gb (t + 1) fc (Q.reverse ++ [⟨⟨k, p, came, lf, st⟩, lg⟩]) ((f : Int) + 1) s v) (hru : Ru12 d k0 xp ⟨k, p, came, lf, st⟩ (Q.map (·.z)) f v) (hid : Ix12 wd I o a bz) (hIB : B + 2 < I) (ho : iO9 (co11 d k) p = o) (ha : iA9 (co11 d k) p = a) (haq : aq ≤ f) (hf5 : f ≤ 5000) (hv5 : v ≤ 1000000)
    (hs0 : 0 ≤ s) (hs1 : s ≤ (ce12 d k0).2.1) (hbd : ∀ z, z ∈ d.s → z.1.a.length ≤ 100 ∧ z.1.l.length ≤ 100 ∧ z.2.length ≤ 300) (Q0 : Exit → Act → World → Prop) (hP : ∀ c (a : Act) (o : Option Tmp) (v : Value) w, Q0 (.panic c) (a.put o v) w → Q0 (.panic c) a w) (hO : o = 30)
    (hE : ∀ (y20 y186 y187 y188 y189 y190 y191 y192 y193 y194 y195 y196 y197 y198 y199 y200 y201 y202 y203 y204 y205 y206 y207 y208 y209 y210 y211 y212 y213 y214 y215 y216 y217 y218 y219 y220 y221 y222 y223 y224 y225 y226 y227 y228 y229 y230 y231 y232 y233 y234 y235 y236 y237 y238 y239 y240 y241 y242 y243 y244 y245 y246 y247 y248 y249 y250 y251 y252 y253 y254 y255 y256 y257 y258 y259 y260 y261 y262 y263 y264 y265 y266 y267 y268 y269 y270 y271 y272 y273 y274 y275 y276 y277 y278 y279 y280 y281 y282 y283 y284 y285 y286 y287 y288 y289 y290 y291 y292 y293 y294 y295 y296 y297 y298 y299 y300 fv qv : Value) (w' : World), Nx12 B w1 w' d k0 xp (f + 1) fv qv → Q0 (.exit 1) ⟨#[v0, v1, v2, .slice WA wn wc, v4, .pointer (some ⟨B, 0, none⟩), v6, v7, v8, v9, .pointer (some ⟨B + 1, 0, none⟩), .pointer (some ⟨B + 2, 0, none⟩), fv, qv, .int .i64 t, .pointer (some ⟨Gb, t * 3, none⟩), .pointer (some ⟨I, 0, none⟩), .int .i64 hi, v18, v19, y20, v21, v22, v23, v24, v25, v26, v27, v28, v29, v30, v31, v32, v33, v34, v35, v36, v37, v38, v39, v40, v41, v42, v43, v44, v45, v46, v47, v48, v49, v50, v51, v52, v53, v54, v55, v56, v57, v58, v59, v60, v61, v62, v63, v64, v65, v66, v67, v68, v69, v70, v71, v72, v73, v74, v75, v76, v77, v78, v79, v80, v81, v82, v83, v84, v85, v86, v87, v88, v89, v90, v91, v92, v93, v94, v95, v96, v97, v98, v99, v100, v101, v102, v103, v104, v105, v106, v107, v108, v109, v110, v111, v112, v113, v114, v115, v116, v117, v118, v119, v120, v121, v122, v123, v124, v125, v126, v127, v128, v129, v130, v131, v132, v133, v134, v135, v136, v137, v138, v139, v140, v141, v142, v143, v144, v145, v146, v147, v148, v149, v150, v151, v152, v153, v154, v155, v156, v157, v158, v159, v160, v161, v162, v163, v164, v165, v166, v167, v168, v169, v170, v171, v172, v173, v174, v175, v176, v177, v178, v179, v180, v181, v182, v183, v184, v185, y186, y187, y188, y189, y190, y191, y192, y193, y194, y195, y196, y197, y198, y199, y200, y201, y202, y203, y204, y205, y206, y207, y208, y209, y210, y211, y212, y213, y214, y215, y216, y217, y218, y219, y220, y221, y222, y223, y224, y225, y226, y227, y228, y229, y230, y231, y232, y233, y234, y235, y236, y237, y238, y239, y240, y241, y242, y243, y244, y245, y246, y247, y248, y249, y250, y251, y252, y253, y254, y255, y256, y257, y258, y259, y260, y261, y262, y263, y264, y265, y266, y267, y268, y269, y270, y271, y272, y273, y274, y275, y276, y277, y278, y279, y280, y281, y282, y283, y284, y285, y286, y287, y288, y289, y290, y291, y292, y293, y294, y295, y296, y297, y298, y299, y300, v301], []⟩ w') :
    Code.wp Try.prog (cut12 [1, 1, 1, 1, 0, 2, 2, 1, 2, 1, 1, 1, 1, 1, 1, 1, 1, 1] (Try.f10.body.getD .skip)) Q0 ⟨#[v0, v1, v2, .slice WA wn wc, v4, .pointer (some ⟨B, 0, none⟩), v6, v7, v8, v9, .pointer (some ⟨B + 1, 0, none⟩), .pointer (some ⟨B + 2, 0, none⟩), .slice (some ⟨Gb, 0, none⟩) (t + 1) fc, .int .i64 aq, .int .i64 t, .pointer (some ⟨Gb, t * 3, none⟩), .pointer (some ⟨I, 0, none⟩), .int .i64 hi, v18, v19, v20, v21, v22, v23, v24, v25, v26, v27, v28, v29, v30, v31, v32, v33, v34, v35, v36, v37, v38, v39, v40, v41, v42, v43, v44, v45, v46, v47, v48, v49, v50, v51, v52, v53, v54, v55, v56, v57, v58, v59, v60, v61, v62, v63, v64, v65, v66, v67, v68, v69, v70, v71, v72, v73, v74, v75, v76, v77, v78, v79, v80, v81, v82, v83, v84, v85, v86, v87, v88, v89, v90, v91, v92, v93, v94, v95, v96, v97, v98, v99, v100, v101, v102, v103, v104, v105, v106, v107, v108, v109, v110, v111, v112, v113, v114, v115, v116, v117, v118, v119, v120, v121, v122, v123, v124, v125, v126, v127, v128, v129, v130, v131, v132, v133, v134, v135, v136, v137, v138, v139, v140, v141, v142, v143, v144, v145, v146, v147, v148, v149, v150, v151, v152, v153, v154, v155, v156, v157, v158, v159, v160, v161, v162, v163, v164, v165, v166, v167, v168, v169, v170, v171, v172, v173, v174, v175, v176, v177, v178, v179, v180, v181, v182, v183, v184, v185, v186, v187, v188, v189, v190, v191, v192, v193, v194, v195, v196, v197, v198, v199, v200, v201, v202, v203, v204, v205, v206, v207, v208, v209, v210, v211, v212, v213, v214, v215, v216, v217, v218, v219, v220, v221, v222, v223, v224, v225, v226, v227, v228, v229, v230, v231, v232, v233, v234, v235, v236, v237, v238, v239, v240, v241, v242, v243, v244, v245, v246, v247, v248, v249, v250, v251, v252, v253, v254, v255, v256, v257, v258, v259, v260, v261, v262, v263, v264, v265, v266, v267, v268, v269, v270, v271, v272, v273, v274, v275, v276, v277, v278, v279, v280, v281, v282, v283, v284, v285, v286, v287, v288, v289, v290, v291, v292, v293, v294, v295, v296, v297, v298, v299, v300, v301], []⟩ wd := by
  obtain ⟨yG, yg, yP, yp, AA, cc, ZZ⟩ := y
  obtain rfl : AA = some ad8 := hM.a
  have HM1 := Lib.hid hM
  have HD1 := Lib.hid hD
  have HZ1 := Lib.hid hz1
  have HH := Lib.hid H
  have HX := Lib.hid hX
  have HW1 := Lib.hid hW
  have HSN := Lib.hid hsn
  have HTQ := Lib.hid ht
  have HLN := Lib.hid hln
  have HMD := Lib.hid hmi
  have HRU := Lib.hid hru
  have HID := Lib.hid hid
  have HO := Lib.hid ho
  have HA := Lib.hid ha
  have HS0 := Lib.hid hs0
  have HS1 := Lib.hid hs1
  have HBD := Lib.hid hbd
  have HP := Lib.hid hP
  have hpp : p < ln := by rw [← hln]; exact hru.1.on.lt
  have hx0 : (Q.reverse ++ [(⟨⟨k, p, came, lf, st⟩, lg⟩ : Ff12)])[t]? = some ⟨⟨k, p, came, lf, st⟩, lg⟩ := by rw [← ht, ← List.length_reverse]; exact at_last _ _
  have HX0 := Lib.hid hx0
  obtain ⟨x0, x1, x2⟩ := hmi.sf.at_ hx0
  dsimp only at x0 x1 x2
  rw [show fo12 d ⟨k, p, came, lf, st⟩ = co11 d k from rfl, hln] at x2
  have hgB := hmi.sf.gB
  have HFC : Hid (t + 1 ≤ fc) := Lib.hid (by
    rcases hmi.sf.own.2 with ⟨h, -⟩ | ⟨g, cap, cur, h, -, -, h2, -⟩
    · cases h
    · injection h with e1 e2 e3
      subst e3
      exact h2)
  have hlB := (hmi.sf.lf _ (List.mem_append_right _ (List.mem_singleton.2 rfl))).1
  dsimp only at hlB
  obtain ⟨t0, t1, t2, t3⟩ := hmi.tk.cells
  have tf := hmi.tk.froz
  have xf := hmi.sf.froz
  obtain ⟨i0, i1, i2⟩ := hid.cells
  have e1 : IntKind.i64.wrap ((p : Int) + 1) = (p : Int) + 1 := wrap_small (by omega)
  clear hM hD hz1 H hX hW hsn ht hln hmi hru hid ho ha hbd hP hx0
  have HE0 := Lib.hid hE
  clear hE
  conv => arg 2; whnf
  subst hO
  have HAA := HA.out
  obtain ⟨j, h1, h2, h3⟩ := HRU.out.call HH.out HO.out
  have h1 : a = j := by rw [← HAA]; exact h1
  subst h1
  have HR3 := Lib.hid h3
  obtain ⟨xj, hq8, hqk⟩ := HM1.out.meth h2
  have HB1 : Hid (Below w1.heap.size w1 wd) := Lib.hid (by rw [HZ1.out]; exact HMD.out.bl)
  have hqz := HM1.out.q
  have q7 := (hq8.keep HB1.out).2.2.2.2.2.2.2
  obtain ⟨qA, qc, qB, qd, qD, qk, qe⟩ := xj
  dsimp only at q7 hqk
  subst hqk
  have q71 := hq8.2.2.2.2.2.2.2
  dsimp only at q71
  have hbj := (HBD.out _ (List.getElem_mem h2)).2.2
  rw [me_at12 h2] at hbj
  dsimp only at hbj
  obtain ⟨lj, hlj⟩ : ∃ lj, (co11 d j).length = lj := ⟨_, rfl⟩
  have HLJ := Lib.hid hlj
  rw [hlj] at q7 hbj q71
  have HQ71 := Lib.hid q71
  rw [HSN.out] at h2
  have d31 := HD1.out.2.2.2.1
  dsimp only at d31
  rw [HSN.out] at d31
  have HD31 := Lib.hid d31
  obtain ⟨d0, d1, d2, d3, d4⟩ := HD1.out.keep HB1.out
  dsimp only at d1 d2 d3
  rw [HSN.out] at d3
  have c1 : (j : Int) < sn := by omega
  have hmk := madeN11 lj (by omega)
  have HB3 : Hid (B + 3 ≤ wd.heap.size) := Lib.hid (by have := HMD.out.sf.gB; omega)
  have HOA : Hid (((wd.alloc (.cells (Array.replicate lj (.int .i64 0)) 3)).alloc (.cells #[.int .i64 j, .int .i64 0, .slice (some ⟨wd.heap.size, 0, none⟩) lj lj] 57)).drew.ownsRow (B + 3) 57 3 (.slice (some ⟨Gb, 0, none⟩) (t + 1) fc) (t + 1) (clr (f312 d) (Q.reverse ++ [⟨⟨k, p, came, lf, st⟩, lg⟩]))) := Lib.hid ((HMD.out.sf.own.alloc _).alloc _)
  have HCE : Hid (∀ q u, (f312 d ⟨Fz.new j, wd.heap.size⟩)[q]? = some u → ((wd.alloc (.cells (Array.replicate lj (.int .i64 0)) 3)).alloc (.cells #[.int .i64 j, .int .i64 0, .slice (some ⟨wd.heap.size, 0, none⟩) lj lj] 57)).drew.cell? ((⟨wd.heap.size + 1, 0, none⟩ : Addr).add q) = some u) := Lib.hid (fun q u hq => by
    show ((wd.alloc (.cells (Array.replicate lj (.int .i64 0)) 3)).alloc (.cells #[.int .i64 j, .int .i64 0, .slice (some ⟨wd.heap.size, 0, none⟩) lj lj] 57)).cell? _ = _
    have e : (wd.alloc (.cells (Array.replicate lj (.int .i64 0)) 3)).heap.size = wd.heap.size + 1 := size1 _ _
    have hl : (fo12 d (Fz.new j)).length = lj := HLJ.out
    simp only [f312, hl] at hq
    match q, hq with
    | 0, hq => simp [Fz.new] at hq; subst hq; rw [← e]; simp [go_sem, Addr.add]
    | 1, hq => simp [Fz.new] at hq; subst hq; rw [← e]; simp [go_sem, Addr.add]
    | 2, hq => simp [Fz.new] at hq; subst hq; rw [← e]; simp [go_sem, Addr.add]
    | q + 3, hq => simp at hq)
  have hnn9 : t + 1 + 1 ≤ 1000000 := by omega
  have HWA : Hid (B + 3 ≤ ((wd.alloc (.cells (Array.replicate lj (.int .i64 0)) 3)).alloc (.cells #[.int .i64 j, .int .i64 0, .slice (some ⟨wd.heap.size, 0, none⟩) lj lj] 57)).drew.heap.size) := Lib.hid (by show B + 3 ≤ ((wd.alloc (.cells (Array.replicate lj (.int .i64 0)) 3)).alloc (.cells #[.int .i64 j, .int .i64 0, .slice (some ⟨wd.heap.size, 0, none⟩) lj lj] 57)).heap.size; rw [size1, size1]; have := HB3.out; omega)
  clear HAA h1 h3 hq8 hlj hqz q71 d31 d0 d1 d2 d4 x0 x2 xf t0 t1 t2 t3 tf i2
  go_upto_region 35 with (fail)
  refine wp_region_held_drew (S := fun w' => w'.cell? (⟨I, 1, none⟩) = some (.int .i64 j) ∧ w'.cell? (⟨B, 2, none⟩) = some (.slice (some ad8) sn cc) ∧ w'.cell? (⟨(ad8.add (j * 8)).block, (ad8.add (j * 8)).off + 7, none⟩) = some (.slice qD lj qe)) (by kernel_rfl) (⟨i1, d3, q7⟩) (fun hHeld => ?_)
  refine wpAnyH_take (i := 0) (v := ?_) rfl (by kernel_rfl) (by kernel_rfl) (by kernel_rfl) (fun _ _ _ h => HP.out _ _ _ _ _ h) (Or.inl ⟨by rfl, ?_⟩) (by assumption) ?_
  rotate_left 1
  · intro w _; go_simp; try with_reducible rfl
  try simp only [Act.put, List.getElem_toArray, List.getElem_cons_zero, List.getElem_cons_succ, List.setIfInBounds_toArray, List.set_cons_zero, List.set_cons_succ]
  refine wpAnyH_take (i := 1) (v := ?_) rfl (by kernel_rfl) (by kernel_rfl) (by kernel_rfl) (fun _ _ _ h => HP.out _ _ _ _ _ h) (Or.inl ⟨by rfl, ?_⟩) (by assumption) ?_
  rotate_left 1
  · intro w _; go_simp; try with_reducible rfl
  try simp only [Act.put, List.getElem_toArray, List.getElem_cons_zero, List.getElem_cons_succ, List.setIfInBounds_toArray, List.set_cons_zero, List.set_cons_succ]
  refine wpAnyH_take (i := 2) (v := ?_) rfl (by kernel_rfl) (by kernel_rfl) (by kernel_rfl) (fun _ _ _ h => HP.out _ _ _ _ _ h) (Or.inl ⟨by rfl, ?_⟩) (by assumption) ?_
  rotate_left 1
  · intro w hSw; (try dsimp only at hSw); obtain ⟨s0, s1, s2⟩ := hSw; go_simp; try with_reducible rfl
  try simp only [Act.put, List.getElem_toArray, List.getElem_cons_zero, List.getElem_cons_succ, List.setIfInBounds_toArray, List.set_cons_zero, List.set_cons_succ]
  refine wpAnyH_take (i := 3) (v := ?_) rfl (by kernel_rfl) (by kernel_rfl) (by kernel_rfl) (fun _ _ _ h => HP.out _ _ _ _ _ h) (Or.inl ⟨by rfl, ?_⟩) (by assumption) ?_
  rotate_left 1
  · intro w _; go_simp; try with_reducible rfl
  try simp only [Act.put, List.getElem_toArray, List.getElem_cons_zero, List.getElem_cons_succ, List.setIfInBounds_toArray, List.set_cons_zero, List.set_cons_succ]
  refine wpAnyH_take (i := 4) (v := ?_) rfl (by kernel_rfl) (by kernel_rfl) (by kernel_rfl) (fun _ _ _ h => HP.out _ _ _ _ _ h) (Or.inl ⟨by rfl, ?_⟩) (by assumption) ?_
  rotate_left 1
  · intro w hSw; (try dsimp only at hSw); obtain ⟨s0, s1, s2⟩ := hSw; go_simp; try with_reducible rfl
  try simp only [Act.put, List.getElem_toArray, List.getElem_cons_zero, List.getElem_cons_succ, List.setIfInBounds_toArray, List.set_cons_zero, List.set_cons_succ]
  refine wpAnyH_take (i := 5) (v := ?_) rfl (by kernel_rfl) (by kernel_rfl) (by kernel_rfl) (fun _ _ _ h => HP.out _ _ _ _ _ h) (Or.inl ⟨by rfl, ?_⟩) (by assumption) ?_
  rotate_left 1
  · intro w _; go_simp; try with_reducible rfl
  try simp only [Act.put, List.getElem_toArray, List.getElem_cons_zero, List.getElem_cons_succ, List.setIfInBounds_toArray, List.set_cons_zero, List.set_cons_succ]
  refine wpAnyH_take (i := 6) (v := ?_) rfl (by kernel_rfl) (by kernel_rfl) (by kernel_rfl) (fun _ _ _ h => HP.out _ _ _ _ _ h) (Or.inl ⟨by rfl, ?_⟩) (by assumption) ?_
  rotate_left 1
  · intro w hSw; (try dsimp only at hSw); obtain ⟨s0, s1, s2⟩ := hSw; go_simp; try with_reducible rfl
  try simp only [Act.put, List.getElem_toArray, List.getElem_cons_zero, List.getElem_cons_succ, List.setIfInBounds_toArray, List.set_cons_zero, List.set_cons_succ]
  refine wpAnyH_take (i := 7) (v := ?_) rfl (by kernel_rfl) (by kernel_rfl) (by kernel_rfl) (fun _ _ _ h => HP.out _ _ _ _ _ h) (Or.inl ⟨by rfl, ?_⟩) (by assumption) ?_
  rotate_left 1
  · intro w _; go_simp; try with_reducible rfl
  try simp only [Act.put, List.getElem_toArray, List.getElem_cons_zero, List.getElem_cons_succ, List.setIfInBounds_toArray, List.set_cons_zero, List.set_cons_succ]
  refine wpAnyH_take (i := 8) (v := ?_) rfl (by kernel_rfl) (by kernel_rfl) (by kernel_rfl) (fun _ _ _ h => HP.out _ _ _ _ _ h) (Or.inl ⟨by rfl, ?_⟩) (by assumption) ?_
  rotate_left 1
  · intro w _; go_simp; try with_reducible rfl
  try simp only [Act.put, List.getElem_toArray, List.getElem_cons_zero, List.getElem_cons_succ, List.setIfInBounds_toArray, List.set_cons_zero, List.set_cons_succ]
  refine wpAnyH_take (i := 9) (v := ?_) rfl (by kernel_rfl) (by kernel_rfl) (by kernel_rfl) (fun _ _ _ h => HP.out _ _ _ _ _ h) (Or.inl ⟨by rfl, ?_⟩) (by assumption) ?_
  rotate_left 1
  · intro w hSw; (try dsimp only at hSw); obtain ⟨s0, s1, s2⟩ := hSw; go_simp; try with_reducible rfl
  try simp only [Act.put, List.getElem_toArray, List.getElem_cons_zero, List.getElem_cons_succ, List.setIfInBounds_toArray, List.set_cons_zero, List.set_cons_succ]
  refine wpAnyH_take (i := 10) (v := ?_) rfl (by kernel_rfl) (by kernel_rfl) (by kernel_rfl) (fun _ _ _ h => HP.out _ _ _ _ _ h) (Or.inl ⟨by rfl, ?_⟩) (by assumption) ?_
  rotate_left 1
  · intro w _; go_simp; try with_reducible rfl
  try simp only [Act.put, List.getElem_toArray, List.getElem_cons_zero, List.getElem_cons_succ, List.setIfInBounds_toArray, List.set_cons_zero, List.set_cons_succ]
  refine wpAnyH_ready (rs := [11]) (by kernel_rfl) (by simp) ?_
  refine AllReadyH.cons rfl (fun K hK => ?_) AllReadyH.nil
  go_simp
  refine hK.out _ _ (⟨(new1.cell (cell_lt i1)).trans i1, (new1.cell (cell_lt d3)).trans d3, (new1.cell (cell_lt q7)).trans q7⟩) (fun hHeld => ?_)
  clear hK K
  try simp only [Act.put, List.getElem_toArray, List.getElem_cons_zero, List.getElem_cons_succ, List.setIfInBounds_toArray, List.set_cons_zero, List.set_cons_succ]
  refine wpAnyH_take (i := 12) (v := ?_) rfl (by kernel_rfl) (by kernel_rfl) (by kernel_rfl) (fun _ _ _ h => HP.out _ _ _ _ _ h) (Or.inl ⟨by rfl, ?_⟩) (by assumption) ?_
  rotate_left 1
  · intro w _; go_simp; try with_reducible rfl
  try simp only [Act.put, List.getElem_toArray, List.getElem_cons_zero, List.getElem_cons_succ, List.setIfInBounds_toArray, List.set_cons_zero, List.set_cons_succ]
  refine wpAnyH_ready (rs := [13]) (by kernel_rfl) (by simp) ?_
  refine AllReadyH.cons rfl (fun K hK => ?_) AllReadyH.nil
  go_simp
  refine hK.out _ _ (⟨(new1.cell (cell_lt ((new1.cell (cell_lt i1)).trans i1))).trans ((new1.cell (cell_lt i1)).trans i1), (new1.cell (cell_lt ((new1.cell (cell_lt d3)).trans d3))).trans ((new1.cell (cell_lt d3)).trans d3), (new1.cell (cell_lt ((new1.cell (cell_lt q7)).trans q7))).trans ((new1.cell (cell_lt q7)).trans q7)⟩) (fun hHeld => ?_)
  clear hK K
  try simp only [Act.put, List.getElem_toArray, List.getElem_cons_zero, List.getElem_cons_succ, List.setIfInBounds_toArray, List.set_cons_zero, List.set_cons_succ]
  refine wpAnyH_ready (rs := [14]) (by kernel_rfl) (by simp) ?_
  refine AllReadyH.cons rfl (fun K hK => ?_) AllReadyH.nil
  refine step_append_one12 (f312_len d) (f312_one d) _ _ 40 _ Try.underlying58 Try.infoFr rfl (by decide) (by decide) rfl (.tmp 217) (.tmp 230) rfl (B + 3) (.slice (some ⟨Gb, 0, none⟩) (t + 1) fc) (t + 1) (Q.reverse ++ [⟨⟨k, p, came, lf, st⟩, lg⟩]) rfl HOA.out _ ⟨Fz.new j, wd.heap.size⟩ rfl HCE.out hnn9 HWA.out ?_
  intro A3 c3 w6 ho6 hg6 hb6 hXX
  clear hXX
  obtain ⟨g6, hA3⟩ : ∃ g6, A3 = some ⟨g6, 0, none⟩ := by
    obtain ⟨g, cp, e⟩ := own_succ ho6
    injection e with e1 e2 e3
    exact ⟨g, e1⟩
  subst hA3
  have HB6 : Hid (Below (B + 3) ((wd.alloc (.cells (Array.replicate lj (.int .i64 0)) 3)).alloc (.cells #[.int .i64 j, .int .i64 0, .slice (some ⟨wd.heap.size, 0, none⟩) lj lj] 57)) w6) := Lib.hid ⟨hb6.os, hb6.tape, hb6.output, hb6.size, hb6.block⟩
  have HG6 : Hid (((wd.alloc (.cells (Array.replicate lj (.int .i64 0)) 3)).alloc (.cells #[.int .i64 j, .int .i64 0, .slice (some ⟨wd.heap.size, 0, none⟩) lj lj] 57)).grownBy w6 (some Gb)) := Lib.hid ⟨hg6.os, hg6.tape, hg6.output, hg6.size, hg6.block⟩
  have hB6 : Below w1.heap.size w1 w6 := by
    rw [HZ1.out]
    have hx : Below (B + 3) wd ((wd.alloc (.cells (Array.replicate lj (.int .i64 0)) 3)).alloc (.cells #[.int .i64 j, .int .i64 0, .slice (some ⟨wd.heap.size, 0, none⟩) lj lj] 57)) := (new1.mono HB3.out).trans (new1.mono (by rw [size1]; have := HB3.out; omega))
    exact HMD.out.bl.trans ((hx.mono (by omega)).trans (show Below (B + 1) ((wd.alloc (.cells (Array.replicate lj (.int .i64 0)) 3)).alloc (.cells #[.int .i64 j, .int .i64 0, .slice (some ⟨wd.heap.size, 0, none⟩) lj lj] 57)) w6 from (show Below (B + 3) ((wd.alloc (.cells (Array.replicate lj (.int .i64 0)) 3)).alloc (.cells #[.int .i64 j, .int .i64 0, .slice (some ⟨wd.heap.size, 0, none⟩) lj lj] 57)) w6 from HB6.out).mono (show B + 1 ≤ B + 3 by omega)))
  have K14 : Hid (w6.cell? ⟨I, 1, none⟩ = some (.int .i64 j) ∧ w6.cell? ⟨B, 2, none⟩ = some (.slice (some ad8) sn cc) ∧ w6.cell? ⟨(ad8.add (j * 8)).block, (ad8.add (j * 8)).off + 7, none⟩ = some (.slice qD lj qe)) := Lib.hid ⟨(Ix12.cells (w := w6) (I := I) (o := 30) (a := j) (z := bz) (blk_grown12 ((HID.out.keep new1).keep new1) ((HMD.out.sf.own.alloc _).alloc _) (by decide) HG6.out)).2.1, (hB6.cell (cell_lt HD31.out)).trans HD31.out, (hB6.cell (cell_lt HQ71.out)).trans HQ71.out⟩
  have HNX := Lib.hid (Nx12.call (aq := aq) HTQ.out HMD.out HS0.out HS1.out (Nat.le_succ_of_le haq) HR3.out rfl HLJ.out (.cells #[.int .i64 j, .int .i64 0, .slice (some ⟨wd.heap.size, 0, none⟩) lj lj] 57) ho6 HG6.out HB6.out)
  clear ho6 hg6 hb6 hB6
  refine hK.out _ _ (K14.out) (fun hHeld => ?_)
  clear hK K
  try simp only [Act.put, List.getElem_toArray, List.getElem_cons_zero, List.getElem_cons_succ, List.setIfInBounds_toArray, List.set_cons_zero, List.set_cons_succ]
  refine wpAnyH_take (i := 15) (v := ?_) rfl (by kernel_rfl) (by kernel_rfl) (by kernel_rfl) (fun _ _ _ h => HP.out _ _ _ _ _ h) (Or.inl ⟨by rfl, ?_⟩) (by assumption) ?_
  rotate_left 1
  · intro w _; go_simp; try with_reducible rfl
  try simp only [Act.put, List.getElem_toArray, List.getElem_cons_zero, List.getElem_cons_succ, List.setIfInBounds_toArray, List.set_cons_zero, List.set_cons_succ]
  refine wpAnyH_done (by kernel_rfl) ?_ _
  clear hHeld
  go_wp2_with fail
  exact HE0.out _ _ _ _ _ _ _ _ _ _ _ _ _ _ _ _ _ _ _ _ _ _ _ _ _ _ _ _ _ _ _ _ _ _ _ _ _ _ _ _ _ _ _ _ _ _ _ _ _ _ _ _ _ _ _ _ _ _ _ _ _ _ _ _ _ _ _ _ _ _ _ _ _ _ _ _ _ _ _ _ _ _ _ _ _ _ _ _ _ _ _ _ _ _ _ _ _ _ _ _ _ _ _ _ _ _ _ _ _ _ _ _ _ _ _ _ _ _ _ HNX.out
end Go.Proofs.Ytmgppdjbmhjmbaa
