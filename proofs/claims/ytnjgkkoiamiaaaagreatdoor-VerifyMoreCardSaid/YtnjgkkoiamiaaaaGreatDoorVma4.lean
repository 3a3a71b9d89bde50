import Derived.Test.YtnjgkkoiamiaaaaGreatDoorVma3
import Derived.OwnWalk
import Derived.Laws.OwnMore
import Derived.Test.YtnjgkkoiamiaaaaGreatDoorVma1
import Derived.ProofKit
import Derived.LaidMore
import Derived.OpenShut
import Derived.Stop.Joined
import Derived.Lib.SmallJoins
import Derived.Test.YtnjgkkoiamiaaaaGreatDoorVma2
import Derived.Lib.Bytes
set_option maxRecDepth 100000
set_option maxHeartbeats 16000000
set_option linter.unusedSimpArgs false
set_option linter.unusedVariables false
namespace Go.Proofs.YtnjgkkoiamiaaaaGreatDoor
open Go.RowKit
def GM (w:World):Prop:=T3 w 0 1 1 3∧T3 w 1 1 1 2∧T3 w 2 1 0 1∧T3 w 3 3 0 1048576∧T3 w 4 2 0 256∧T3 w 5 2 0 1024
theorem GM.keep {w w':World} (h:GM w) (hb:Below w.heap.size w w'):GM w':=⟨h.1.keep hb,h.2.1.keep hb,h.2.2.1.keep hb,h.2.2.2.1.keep hb,h.2.2.2.2.1.keep hb,h.2.2.2.2.2.keep hb⟩
abbrev fGM:Fct:=⟨GM,fun _ _ h hb=>h.keep hb⟩
theorem T3.grown {w w':World} {B R:Nat} {x y z:Int} (h:T3 w B x y z) (hg:w.grownBy w' (some R)) (hne:B≠R):T3 w' B x y z:=
 ⟨Nat.lt_of_lt_of_le h.1 hg.size,hg.cell h.2.1 (by simpa using hne),hg.cell h.2.2.1 (by simpa using hne),hg.cell h.2.2.2 (by simpa using hne)⟩
def gN (R:Nat):Prop:=0≠R∧1≠R∧2≠R∧3≠R∧4≠R∧5≠R
theorem GM.grown {w w':World} {R:Nat} (h:GM w) (hg:w.grownBy w' (some R)) (hn:gN R):GM w':=
 ⟨h.1.grown hg hn.1,h.2.1.grown hg hn.2.1,h.2.2.1.grown hg hn.2.2.1,h.2.2.2.1.grown hg hn.2.2.2.1,h.2.2.2.2.1.grown hg hn.2.2.2.2.1,h.2.2.2.2.2.grown hg hn.2.2.2.2.2⟩
theorem GM.lt {w:World} {R:Nat} (h:GM w) (hR:w.heap.size≤R):gN R:=by
 have h1:=h.1.1;have h2:=h.2.1.1;have h3:=h.2.2.1.1;have h4:=h.2.2.2.1.1;have h5:=h.2.2.2.2.1.1;have h6:=h.2.2.2.2.2.1;refine ⟨?_,?_,?_,?_,?_,?_⟩<;>omega
theorem T3.other {w:World} {B:Nat} {x y z:Int} (h:T3 w B x y z) {p:Addr} (hp:B≠p.block) (v:Value):T3 (w.setCell p v) B x y z:=by
 obtain ⟨h0,h1,h2,h3⟩:=h;have ne:∀i,p≠(⟨B,i,none⟩:Addr):=fun i e=>hp (by rw [e]);refine ⟨by simpa using h0,?_,?_,?_⟩<;>(rw [World.cell?_setCell_other _ _ _ _ (ne _)];assumption)
theorem GM.set {w:World} (h:GM w) {p:Addr} (hn:gN p.block) (v:Value):GM (w.setCell p v):=
 ⟨h.1.other hn.1 v,h.2.1.other hn.2.1 v,h.2.2.1.other hn.2.2.1 v,h.2.2.2.1.other hn.2.2.2.1 v,h.2.2.2.2.1.other hn.2.2.2.2.1 v,h.2.2.2.2.2.other hn.2.2.2.2.2 v⟩
theorem rd_lt {w:World} {A:Option Addr} {c:Nat} {l:List Int} (hr:Rd w A c l) {ad:Addr} (ha:A=some ad) (h0:0<l.length):ad.block<w.heap.size:=by
 obtain ⟨ad',e',hc⟩:=hr.at_ (i:=0) h0;obtain rfl:ad=ad':=by rw [ha] at e';simpa using e'
 have:=cell_lt hc;have hb:(ad.add 0).block=ad.block:=by unfold Addr.add;split<;>rfl
 omega
theorem rN_bd {l:List Int} {W lo hi:Int} {s:Int×Int} (h0:0≤lo):0≤(rN l W lo hi s).1∧((rN l W lo hi s).1≤hi∨(rN l W lo hi s).1=0):=by
 unfold rN;split
 ·split
  ·rename_i h;unfold nE at h;split at h
   ·split at h
    ·rename_i hx;exact ⟨by dsimp only;omega,.inl hx.2⟩
    ·exact absurd h (by decide)
   ·rename_i h1;exact absurd h h1
  ·exact ⟨by simp,.inr rfl⟩
 ·exact ⟨by simp,.inr rfl⟩
theorem cel_put {xs:List Value} {K:List Int} {j:Nat} (hj:K.length=j) (hx:xs.take j=cel K) (hl:j<xs.length) (y:Int):(xs.set j (.int .u8 y)).take (j+1)=cel (K++[y]):=by
 rw [List.take_set,List.take_add_one,zg7 hl,hx,cel_append];have h3:(cel K).length=j:=by rw [length_cel,hj]
 rw [List.set_append_right _ _ (by omega),h3,Nat.sub_self];rfl
theorem kinds7_v (B:Nat) (A:Option Addr) (c n:Nat) (l:List Int) (hi p e:Int) (K0:List Int) (p' e':Int) (w:World) (hr:Rd w A c l) (hn:l.length=n) (h:R3 w B A c n p e) (hw:GM w) (hB:gN B) (hA:∀ad,A=some ad→0<l.length→some ad.block≠some B) (hhi:hi≤100)
  (hR:rK l hi (p,e)=(K0,p',e')):Calls Tryz.prog 223 #[.pointer (some ⟨B,0,none⟩),fv 1 0 hi] w fun x w'=>∃A' c',x=.returned (.slice A' K0.length c')∧w'.ownsRow w.heap.size 5 1 (.slice A' K0.length c') K0.length (cel K0)∧Byt K0∧w.grownBy w' (some B)∧R3 w' B A c n p' e':=by
 have hbl:=h.1
 have H0:=zhy (And.intro (hr.alloc (.cells #[.int .i64 1,.int .i64 0,.int .i64 hi] 159)) (And.intro (h.keep (new1 (a:=.cells #[.int .i64 1,.int .i64 0,.int .i64 hi] 159))) (hw.keep (new1 (a:=.cells #[.int .i64 1,.int .i64 0,.int .i64 hi] 159)))))
 have HGB:=zhy hB
 have HG2:Hid (∀g,w.heap.size≤g→gN g):=fun g hg=>hw.lt hg
 have HA2:Hid (∀ad,A=some ad→0<l.length→ad.block<w.heap.size):=fun ad h0 h1=>rd_lt hr h0 h1
 have HA:=zhy hA
 obtain ⟨n1,p1,e1,hn1⟩:∃n1 p1 e1,rN l 1 0 hi (p,e)=(n1,p1,e1):=⟨_,_,_,rfl⟩
 have hb1:=rN_bd (l:=l) (W:=1) (lo:=0) (hi:=hi) (s:=(p,e)) (by decide)
 rw [hn1] at hb1
 rw [rK,hn1] at hR
 dsimp only at hR hb1
 obtain ⟨M,rfl⟩:∃M:Nat,n1=M:=⟨n1.toNat,by omega⟩
 have HM:=zhy hR
 have HP:=fun w hr h=>zhy (num7_v B A c n l 1 0 hi p e M p1 e1 w hr hn h hn1)
 have HK:=fun p e v p' e' w hr h hx=>zhy (num7_v B A c n l 1 1 3 p e v p' e' w hr hn h hx)
 obtain ⟨i0,hi',hz0,hz1,hz2⟩:=info_parts Tryz.info5
 clear hr h hw hR hn1 hA hB
 go_enter Tryz.func223,Tryz.ntmps223
 go_wp2_with fail
 refine (HP _ H0.out.1 H0.out.2.1).out.mono ?_
 rintro x w1 ⟨rfl,hg1,hq1⟩
 have S1:Hid (w.grownBy w1 (some B)∧Rd w1 A c l∧R3 w1 B A c n p1 e1∧GM w1):=zhy ⟨(g7_of new1 _).trans hg1,H0.out.1.grown hg1 HA.out,hq1,H0.out.2.2.grown hg1 HGB.out⟩
 clear hg1 hq1 H0 HP
 have hsz1:=S1.out.1.size
 go_wp2_with (at_make;refine wpList_make_full _ rfl _ _ 40 rfl w.heap.size 5 i0 (.int .u8 0) 1 Tryz.underlying40 hi' hz0 hz1 .i64 .i64 M M M rfl rfl rfl rfl (by rw [hz2];omega) (by unfold maxLen;omega) hsz1 ?_)
 intro w2 ho2 hg2
 obtain ⟨xs0,hx0⟩:∃xs0,(madeCells #[.int .u8 0] M).toList=xs0:=⟨_,rfl⟩
 rw [hx0] at ho2
 have HO2:=zhy ho2
 have hb2:Below w1.heap.size w1 w2:=⟨hg2.os,hg2.tape,hg2.output,hg2.size,fun i hi=>hg2.block i hi (by simp)⟩
 have S2:Hid (w.grownBy w2 (some B)∧Rd w2 A c l∧R3 w2 B A c n p1 e1∧GM w2):=zhy ⟨g7_on S1.out.1 hb2,S1.out.2.1.keep hb2,S1.out.2.2.1.keep hb2,S1.out.2.2.2.keep hb2⟩
 clear ho2 hg2 hb2 hx0 hi' hz0 hz1 hz2 i0 S1
 generalize hg:w1.heap.size=g at *
 have hwg:w.heap.size≤g:=by omega
 clear hg hsz1
 go_wp2_with fail
 go_loopw [13] (fun i wr=>∃(j:Nat) (K:List Int) (q x:Int) (xs:List Value),j≤M∧i=.int .i64 j∧Hid (rKs l j (p1,e1)=(K,q,x)∧Byt K)∧Hid (wr.ownsRow w.heap.size 5 1 (.slice (some ⟨g,0,none⟩) M M) M xs∧xs.take j=cel K)∧Hid (w.grownBy wr (some B)∧Rd wr A c l∧R3 wr B A c n q x∧GM wr)) (fun i _=>M-(intOf i).toNat)
 case atStart=>exact ⟨0,[],p1,e1,xs0,by omega,rfl,zhy ⟨rfl,fun x hx=>(by cases hx)⟩,zhy ⟨HO2.out,by simp [cel]⟩,S2⟩
 case round =>
  obtain ⟨j,K,q,x,xs,hj,rfl,HX,HO,S3⟩:=hrel
  clear HO2 S2
  by_cases h1:j<M
  ·obtain ⟨v,q',x',hv⟩:∃v q' x',rN l 1 1 3 (q,x)=(v,q',x'):=⟨_,_,_,rfl⟩
   have hvb:=rN_bd (l:=l) (W:=1) (lo:=1) (hi:=3) (s:=(q,x)) (by decide)
   rw [hv] at hvb
   dsimp only at hvb
   have HN:Hid (rKs l (j+1) (p1,e1)=(K++[v],q',x')):=by
    rw [Hid,rKs_snoc,HX.out.1];dsimp only;rw [hv]
   have HKL:Hid (K.length=j):=by have:=rKs_len l j (p1,e1);rw [HX.out.1] at this;exact this
   have HBK:Hid (Byt (K++[v])):=fun y hy=>by
    rcases List.mem_append.1 hy with hy | hy
    ·exact HX.out.2 y hy
    ·rw [List.mem_singleton.1 hy];omega
   have P3:=HK q x v q' x' wr S3.out.2.1 S3.out.2.2.1 hv
   have hmod:v % 256=v:=by omega
   obtain ⟨-,⟨-,k0,k1,k2⟩⟩:=And.intro trivial S3.out.2.2.2.1
   clear hv HX
   go_wp2_with fail
   refine P3.out.mono ?_
   rintro y w3 ⟨rfl,hg3,hq3⟩
   have HO3:=zhy (HO.out.1.kept hg3 (.inr (fun e=>by injection e with e;have e:g=B:=e;omega)))
   have HT:=zhy HO.out.2
   have S4:Hid (w.grownBy w3 (some B)∧Rd w3 A c l∧R3 w3 B A c n q' x'∧GM w3):=zhy ⟨S3.out.1.trans hg3,S3.out.2.1.grown hg3 HA.out,hq3,S3.out.2.2.2.grown hg3 HGB.out⟩
   clear hg3 hq3 S3 HO P3 k0 k1 k2
   have hxl:xs.length=M:=by simpa using HO3.out.1
   have c0:=HO3.out.cellAt j (by omega)
   have f0:=HO3.out.frozenAt j
   rw [zg7 (by omega)] at c0
   have HO5:=zhy (HO3.out.stored j (.int .u8 v)).1
   have HT5:=zhy (cel_put HKL.out HT.out (by omega) v)
   have hne:g≠B:=by omega
   have S5:Hid (w.grownBy (w3.setCell ⟨g,j,none⟩ (.int .u8 v)) (some B)∧Rd (w3.setCell ⟨g,j,none⟩ (.int .u8 v)) A c l∧R3 (w3.setCell ⟨g,j,none⟩ (.int .u8 v)) B A c n q' x'∧GM (w3.setCell ⟨g,j,none⟩ (.int .u8 v))):=by
    obtain ⟨a1,a2,a3,a4⟩:=S4.out;exact ⟨g7_set a1 (.inl hwg) _,a2.setc (fun ad h0 h1=>by have:=HA2.out ad h0 h1;show ad.block≠g;omega) _,a3.other hne _,a4.set (HG2.out g hwg) _⟩
   clear S4 HO3 HT HKL
   go_wp2_with fail
   go_roundw
   case rel=>exact ⟨j+1,K++[v],q',x',_,by omega,by go_num,zhy ⟨HN.out,HBK.out⟩,zhy ⟨HO5.out,HT5.out⟩,S5⟩
   case measure=>simp [intOf];omega
  ·obtain rfl:j=M:=by omega
   have hxl:xs.length=j:=by simpa using HO.out.1.1
   have hxs:xs=cel K:=by rw [←HO.out.2,List.take_of_length_le (by omega)]
   have HKL:Hid (K.length=j):=by have:=rKs_len l j (p1,e1);rw [HX.out.1] at this;exact this
   have HE:Hid (K=K0∧q=p'∧x=e'):=by
    have:=HM.out;rw [Int.toNat_natCast,HX.out.1] at this;simp at this;exact this
   have HOf:=zhy (show wr.ownsRow w.heap.size 5 1 (.slice (some ⟨g,0,none⟩) j j) j (cel K) by rw [←hxs];exact HO.out.1)
   have HBK:=zhy HX.out.2
   clear HX HO hxl hxs
   go_wp2_with fail
   go_ret
   obtain ⟨rfl,rfl,rfl⟩:=HE.out
   exact ⟨some ⟨g,0,none⟩,j,by rw [HKL.out];rfl,by rw [HKL.out];exact HOf.out,HBK.out,S3.out.1,S3.out.2.2.1⟩
section
open Go.ChangeShapes Go.WideShapes Go.ChangeAt Go.RowKit
theorem fldF:((Tryz.prog.fieldsOf 159).map fun f=>(f.offset,f.type))=#[(0,3),(1,3),(2,3)]:=by kernel_rfl
theorem fldF_at {j:Nat} {o t:Nat} (h:(#[(0,3),(1,3),(2,3)]:Array (Nat×TypeId))[j]?=some (o,t)):∃f,(Tryz.prog.fieldsOf 159)[j]?=some f∧f.offset=o∧f.type=t:=by
 rw [←fldF,Array.getElem?_map,Option.map_eq_some_iff] at h;obtain ⟨f,h1,h2⟩:=h;simp only [Prod.mk.injEq] at h2;exact ⟨f,h1,h2.1,h2.2⟩
theorem one_fld {H:Type} {enc:TypeId×Value→H} {w:World} {base:Nat} {sp:Nat→Bool} {held:Bool} {fuel:Nat} {cs:List Value} {ds:List (DataW H)} {p:List MemPlace} (h:DataW.trod enc Tryz.prog w base sp held fuel 159 cs=some (.agg ds,p)) {x y z:Int} (hd:ds=[.lit (.int .i64 x),.lit (.int .i64 y),.lit (.int .i64 z)]) :
  cs=[.int .i64 x,.int .i64 y,.int .i64 z]:=by
 have hS:Tryz.prog.underlying 159=some (.struct (Tryz.prog.fieldsOf 159)):=by kernel_rfl
 have hC:Tryz.prog.cellsOf 159=3:=by kernel_rfl
 have c1:Tryz.prog.cellsOf 3=1:=by kernel_rfl
 obtain ⟨xs,n,_,he,hlen,hxs,hg⟩:=DataW.trod_struct hS h
 rw [hC] at hlen
 simp only [Prod.mk.injEq,DataW.agg.injEq] at he
 match cs,hlen with
 | [v0,v1,v2],_ =>
  have hn:xs.length=3:=by rw [hxs];kernel_rfl
  match xs,hn with
  | [a,b,c],_ =>
   obtain ⟨f0,a0,o0,t0⟩:=fldF_at (j:=0) rfl
   obtain ⟨f1,a1,o1,t1⟩:=fldF_at (j:=1) rfl
   obtain ⟨f2,a2,o2,t2⟩:=fldF_at (j:=2) rfl
   have g0:=hg 0 f0 a0
   have g1:=hg 1 f1 a1
   have g2:=hg 2 f2 a2
   rw [o0,t0,c1] at g0
   rw [o1,t1,c1] at g1
   rw [o2,t2,c1] at g2
   obtain ⟨k,e0,r0,_⟩:=DataW.trod_int Tryz.underlying3 g0
   obtain ⟨m,e1,r1,_⟩:=DataW.trod_int Tryz.underlying3 g1
   obtain ⟨q,e2,r2,_⟩:=DataW.trod_int Tryz.underlying3 g2
   simp at e0 e1 e2
   subst e0 e1 e2
   have h1:=he.1
   rw [hd] at h1
   simp [r0,r1,r2] at h1
   obtain ⟨rfl,rfl,rfl⟩:=h1
   rfl
theorem of_T3 (laid:List (String×DataW Unit)) (k:Nat) (g:Nat) (x y z:Int) (hpl:(laid.all fun x=>x.2.handleName?.isNone)=true) (hk:(laid[k]?).map (·.2)=some (.agg [.lit (.int .i64 x),.lit (.int .i64 y),.lit (.int .i64 z)])) (hn:((laid[k]?).bind fun x=>Tryz.prog.globalNamed x.1)=some g)
  (ht:(Tryz.prog.globals[g]?).map (·.type)=some 159) {W:World} (h:laidMetH Tryz.prog laid W):T3 W g x y z:=by
 rw [MakeChecks.laidMetH_plain _ _ _ hpl] at h
 obtain ⟨ps,hl,_,_⟩:=h
 cases hx:laid[k]? with
 | none=>rw [hx] at hk;cases hk
 | some v =>
  obtain ⟨n,d⟩:=v
  rw [hx] at hk hn
  simp only [Option.map_some,Option.some.injEq] at hk
  simp only [Option.bind_some] at hn
  subst hk
  obtain ⟨g0,t0,cs0,f0,p0,hg0,ht0,hv0,hd0⟩:=laid_limb hl k n _ hx
  obtain rfl:=Option.some.inj (hn.symm.trans hg0)
  obtain rfl:=Option.some.inj (ht.symm.trans ht0)
  have hcs:=one_fld hd0 rfl
  have hcell:∀i v,cs0.toList[i]?=some v→W.cell? ⟨g,i,none⟩=some v:=fun i v hi=>by
   have:=World.var?_cell hg0 hv0 i;rw [this];simpa using hi
  have c0:=hcell 0 _ (by rw [hcs];rfl)
  exact ⟨cell_lt c0,c0,hcell 1 _ (by rw [hcs];rfl),hcell 2 _ (by rw [hcs];rfl)⟩
end
def opK (n:Int):Bool:=decide (n<33)
def opL (n:Int):Bool:=n==26||n==27||n==29
def opG (n:Int):Bool:=opK n&&n != 26&&n != 31&&n != 32
def opLo (n:Int):Int:=if n=28 then 1 else 0
def opHi (n:Int):Int:=
 if n=1 then 31 else if n=2∨n=3∨n=30 then 15 else if n=4∨n=5 then 3 else if n=22 then 1024 else if n=26∨n=27∨n=29 then 199 else if n=28 then 100 else if n=32 then 255 else if n<33 then 0 else -1
def opM (n a b:Int):Bool:=decide (opLo n≤a)&&decide (a≤opHi n)&&b==0
theorem known_any (n:Int) (w:World):Calls Tryz.prog 207 #[.int .u8 n] w fun e w'=>e=.returned (.bool (opK n))∧w=w':=by
 go_enter Tryz.func207,Tryz.ntmps207;go_wp2_with fail;go_ret;exact ⟨rfl,rfl⟩
theorem leads_any (n:Int) (w:World):Calls Tryz.prog 196 #[.int .u8 n] w fun e w'=>e=.returned (.bool (opL n))∧w=w':=by
 go_enter Tryz.func196,Tryz.ntmps196;go_wp2_with fail;all_goals go_ret
 all_goals (refine ⟨?_,rfl⟩;simp [opL,go_sem, *])
theorem goes_any (n:Int) (w:World):Calls Tryz.prog 198 #[.int .u8 n] w fun e w'=>e=.returned (.bool (opG n))∧w=w':=by
 go_enter Tryz.func198,Tryz.ntmps198;go_wp2_with fail;refine (known_any _ _).mono ?_;rintro e w1 ⟨rfl,rfl⟩;cases hk:opK n;all_goals go_wp2_with fail
 all_goals go_ret
 all_goals (refine ⟨?_,rfl⟩;simp [opG,go_sem, *])
theorem bounds_any (n:Int) (w:World):Calls Tryz.prog 171 #[.int .u8 n] w fun e w'=>e=.returned (.tuple #[.int .i64 (opLo n),.int .i64 (opHi n)])∧w=w':=by
 go_enter Tryz.func171,Tryz.ntmps171;go_wp2_with (first | (go_at_call 207;refine (known_any _ _).mono ?_;rintro e w1 ⟨rfl,rfl⟩;cases hk:opK n) | fail);all_goals (try go_wp2_with fail)
 all_goals go_ret2
 all_goals (refine ⟨?_,rfl⟩;simp_all [opLo,opHi,opK,go_sem])
def In (w:World) (B:Nat) (k a b:Int):Prop:=B<w.heap.size∧w.cell? ⟨B,0,none⟩=some (.int .u8 k)∧w.cell? ⟨B,1,none⟩=some (.int .i64 a)∧w.cell? ⟨B,2,none⟩=some (.int .i64 b) ∧
 w.frozen? ⟨B,0,none⟩=false∧w.frozen? ⟨B,1,none⟩=false∧w.frozen? ⟨B,2,none⟩=false
theorem In.keep {w w':World} {B:Nat} {k a b:Int} (h:In w B k a b) (hb:Below w.heap.size w w'):In w' B k a b:=by
 obtain ⟨h1,h2,h3,h4,h5,h6,h7⟩:=h;obtain ⟨hc,hf⟩:=bcell hb;exact ⟨Nat.lt_of_lt_of_le h1 hb.size,(hc _ _ h1).trans h2,(hc _ _ h1).trans h3,(hc _ _ h1).trans h4,(hf _ _ h1).trans h5,(hf _ _ h1).trans h6,(hf _ _ h1).trans h7⟩
theorem In.new (w:World) (k a b:Int):In (w.alloc (.cells #[.int .u8 k,.int .i64 a,.int .i64 b] 57)) w.heap.size k a b:=by
 refine ⟨by simp,?_,?_,?_,?_,?_,?_⟩<;>simp [go_sem]
theorem In.set1 {w:World} {B:Nat} {k a b:Int} (h:In w B k a b) (a':Int):In (w.setCell ⟨B,1,none⟩ (.int .i64 a')) B k a' b:=by
 obtain ⟨h1,h2,h3,h4,h5,h6,h7⟩:=h;refine ⟨by simpa using h1,?_,?_,?_,?_,?_,?_⟩<;>simp [go_sem,h2,h3,h4,h5,h6,h7]
theorem In.set2 {w:World} {B:Nat} {k a b:Int} (h:In w B k a b) (b':Int):In (w.setCell ⟨B,2,none⟩ (.int .i64 b')) B k a b':=by
 obtain ⟨h1,h2,h3,h4,h5,h6,h7⟩:=h;refine ⟨by simpa using h1,?_,?_,?_,?_,?_,?_⟩<;>simp [go_sem,h2,h3,h4,h5,h6,h7]
theorem omay_v (k a b:Int) (v:Bool) (w:World) (h:opM k a b=v):Calls Tryz.prog 155 #[.agg #[.int .u8 k,.int .i64 a,.int .i64 b]] w fun e w'=>e=.returned (.bool v)∧Below w.heap.size w w':=by
 subst h;have hB:=zhy (bounds_any k (w.alloc (.cells #[.int .u8 k,.int .i64 a,.int .i64 b] 57)));obtain ⟨p,hp⟩:∃p,opLo k=p:=⟨_,rfl⟩;obtain ⟨q,hq⟩:∃q,opHi k=q:=⟨_,rfl⟩;rw [opM,hp,hq];rw [hp,hq] at hB;clear hp hq;go_enter Tryz.func155,Tryz.ntmps155;go_wp2_with fail;refine hB.out.mono ?_;rintro e w1 ⟨rfl,rfl⟩;clear hB;go_wp2_with fail;all_goals go_ret
 all_goals (refine ⟨?_,new1⟩;simp_all [go_sem]<;>omega)
abbrev Ins:=Int×Int×Int
def InOk (x:Ins):Prop:=(0≤x.1∧x.1<256)∧(-9223372036854775808≤x.2.1∧x.2.1≤9223372036854775807)∧(-9223372036854775808≤x.2.2∧x.2.2≤9223372036854775807)
def Ri (w:World) (A:Option Addr) (c:Nat) (L:List Ins):Prop:=
 (∀x∈L,InOk x)∧L.length≤c∧c≤maxLen∧((A=none∧c=0)∨∃ad:Addr,A=some ad∧∀i x,L[i]?=some x→w.cell? (ad.add (i*3))=some (.int .u8 x.1)∧w.cell? ⟨(ad.add (i*3)).block,(ad.add (i*3)).off+1,none⟩=some (.int .i64 x.2.1)∧w.cell? ⟨(ad.add (i*3)).block,(ad.add (i*3)).off+2,none⟩=some (.int .i64 x.2.2))
def cei (L:List Ins):List Value:=L.flatMap fun x=>[.int .u8 x.1,.int .i64 x.2.1,.int .i64 x.2.2]
section
variable {w w' : World} {A : Option Addr} {c : Nat} {L : List Ins}
theorem Ri.le (h:Ri w A c L):L.length≤c:=h.2.1
theorem Ri.len (h:Ri w A c L):L.length≤9223372036854775807:=Nat.le_trans h.le h.2.2.1
theorem Ri.at_ (h:Ri w A c L) {i:Nat} (hi:i<L.length):∃ad:Addr,A=some ad∧w.cell? (ad.add (i*3))=some (.int .u8 (L[i]).1)∧w.cell? ⟨(ad.add (i*3)).block,(ad.add (i*3)).off+1,none⟩=some (.int .i64 (L[i]).2.1)∧w.cell? ⟨(ad.add (i*3)).block,(ad.add (i*3)).off+2,none⟩=some (.int .i64 (L[i]).2.2):=by
 rcases h.2.2.2 with ⟨_,hc⟩ | ⟨ad,ha,hc⟩
 ·have:=h.le;omega
 ·exact ⟨ad,ha,hc i _ (zg7 hi)⟩
theorem Ri.none_ (w:World):Ri w none 0 []:=⟨fun x hx=>(by cases hx),Nat.le_refl _,Nat.zero_le _,.inl ⟨rfl,rfl⟩⟩
theorem Ri.keep (h:Ri w A c L) (hb:Below w.heap.size w w'):Ri w' A c L:=by
 refine ⟨h.1,h.2.1,h.2.2.1,?_⟩;rcases h.2.2.2 with hn | ⟨ad,ha,hc⟩
 ·exact .inl hn
 ·refine .inr ⟨ad,ha,fun i x hx=>?_⟩;obtain ⟨h1,h2,h3⟩:=hc i x hx;exact ⟨(hb.cell (cell_lt h1)).trans h1,(hb.cell (cell_lt h2)).trans h2,(hb.cell (cell_lt h3)).trans h3⟩
theorem Ri.drewN (h:Ri w A c L) (q:Nat):Ri (w.drewN q) A c L:=h
end
abbrev fT (A:Option Addr) (c:Nat) (L:List Ins):Fct:=⟨fun w=>Ri w A c L,fun _ _ h hb=>h.keep hb⟩
def inM (x:Ins):Bool:=opM x.1 x.2.1 x.2.2
def codM (L:List Ins):Bool:=decide (1≤L.length)&&decide (L.length≤200)&&L.all inM
def wdB (n:Int):Bool:=decide (0<opHi n)
theorem length_cei (L:List Ins):(cei L).length=L.length*3:=by
 induction L with
 | nil=>rfl
 | cons x L ih=>rw [cei,List.flatMap_cons,List.length_append,←cei,ih];simp;omega
theorem cei_append (L M:List Ins):cei (L++M)=cei L++cei M:=by simp [cei]
theorem cei_cons (x:Ins) (L:List Ins):cei (x::L)=.int .u8 x.1::.int .i64 x.2.1::.int .i64 x.2.2::cei L:=by simp [cei]
theorem cei_one (L:List Ins):∀u∈cei L,u.oneCell'=true:=by
 intro u hu;simp only [cei,List.mem_flatMap] at hu;obtain ⟨x,_,hx⟩:=hu;simp at hx;rcases hx with rfl | rfl | rfl<;>rfl
theorem cei_at {L:List Ins} {i:Nat} {x:Ins} (h:L[i]?=some x):(cei L)[i*3]?=some (.int .u8 x.1)∧(cei L)[i*3+1]?=some (.int .i64 x.2.1)∧(cei L)[i*3+2]?=some (.int .i64 x.2.2):=by
 induction L generalizing i with
 | nil=>simp at h
 | cons y L ih =>
  cases i with
  | zero =>
   simp at h;subst h;rw [cei_cons];exact ⟨rfl,rfl,rfl⟩
  | succ i =>
   obtain ⟨h1,h2,h3⟩:=ih (i:=i) (by simpa using h);rw [cei_cons,show (i+1)*3=i*3+1+1+1 by omega,show i*3+1+1+1+1=(i*3+1)+1+1+1 by omega,show i*3+1+1+1+2=(i*3+2)+1+1+1 by omega];simp only [List.getElem?_cons_succ];exact ⟨h1,h2,h3⟩
theorem cei_inv {L:List Ins} {j:Nat} {u:Value} (h:(cei L)[j]?=some u):∃i x,L[i]?=some x∧((j=i*3∧u=.int .u8 x.1)∨(j=i*3+1∧u=.int .i64 x.2.1)∨(j=i*3+2∧u=.int .i64 x.2.2)):=by
 have hj:=(zg8.1 h).1;rw [length_cei] at hj;have hi:j / 3<L.length:=by omega
 have hx:L[j / 3]?=some L[j / 3]:=zg7 hi;obtain ⟨h1,h2,h3⟩:=cei_at hx;refine ⟨j / 3,_,hx,?_⟩;have h3':j % 3=0∨j % 3=1∨j % 3=2:=by omega
 rcases h3' with e | e | e
 ·have e':j=j / 3*3:=by omega
  rw [←e',h] at h1;exact .inl ⟨e',Option.some.inj h1⟩
 ·have e':j=j / 3*3+1:=by omega
  rw [←e',h] at h2;exact .inr (.inl ⟨e',Option.some.inj h2⟩)
 ·have e':j=j / 3*3+2:=by omega
  rw [←e',h] at h3;exact .inr (.inr ⟨e',Option.some.inj h3⟩)
theorem add_1 (ad:Addr) (k:Nat):ad.add (k+1)=⟨(ad.add k).block,(ad.add k).off+1,none⟩:=by
 unfold Addr.add;rw [if_neg (by omega)];split
 ·subst_vars;rfl
 ·rfl
theorem add_2 (ad:Addr) (k:Nat):ad.add (k+2)=⟨(ad.add k).block,(ad.add k).off+2,none⟩:=by
 unfold Addr.add;rw [if_neg (by omega)];split
 ·subst_vars;rfl
 ·rfl
theorem Ri.of_own {w:World} {A:Option Addr} {c base e:Nat} {n:Nat} {L:List Ins} (h:w.ownsRow base e 3 (.slice A n c) n (cei L)) (hb:∀x∈L,InOk x):Ri w A c L∧n=L.length:=by
 have hn:n=L.length:=by have:=h.1;rw [length_cei] at this;omega
 refine ⟨⟨hb,?_⟩,hn⟩;have hcell:=fun g=>h.cells (g:=g);rcases h.2 with ⟨hv,h0⟩ | ⟨g,cap,cur,hv,_,_,hcap,hm,_⟩
 ·injection hv with e1 e2 e3;exact ⟨by omega,by omega,.inl ⟨e1,e3⟩⟩
 ·injection hv with e1 e2 e3;subst e1 e3;refine ⟨by omega,hm,.inr ⟨_,rfl,fun i x hx=>?_⟩⟩;obtain ⟨h1,h2,h3⟩:=cei_at hx;rw [←add_1,←add_2];exact ⟨hcell g rfl _ _ h1,hcell g rfl _ _ h2,hcell g rfl _ _ h3⟩
theorem ri_cells {w:World} {ad:Addr} {c:Nat} {L:List Ins} (h:Ri w (some ad) c L) (hc:0<c):∀j u,(cei L)[j]?=some u→w.cell? (ad.add j)=some u:=by
 intro j u hj;obtain ⟨i,x,hx,hu⟩:=cei_inv hj;rcases h.2.2.2 with ⟨ha,_⟩ | ⟨ad',ha,hcell⟩
 ·cases ha
 ·injection ha with ha;subst ha;obtain ⟨h1,h2,h3⟩:=hcell i x hx;rw [←add_1] at h2;rw [←add_2] at h3;rcases hu with ⟨rfl,rfl⟩ | ⟨rfl,rfl⟩ | ⟨rfl,rfl⟩
  ·exact h1
  ·exact h2
  ·exact h3
theorem Tryz.infoI:(Tryz.prog.info? 57).map (fun i=>(i.zero,i.size,i.bytes))=some (some (.agg #[.int .u8 0,.int .i64 0,.int .i64 0]),3,24):=by kernel_rfl
theorem wpList_append_ri (w:World) {ops:Array Oper} {rest:List Oper} {o:Oper} {a:Act} {Q:Exit→Act→World→Prop} (hgd:o.guard=none) (s x:Operand)
  (ho:o.op=.call { callee:=.builtin .append,args:=#[s,x],argTypes:=#[48,48]})
  (base:Nat) (v:Value) (n:Nat) (K:List Ins) (hs:a.eval s=v) (hown:w.ownsRow base 57 3 v n (cei K))
  (A:Option Addr) (m c:Nat) (L:List Ins) (hx:a.eval x=.slice A m c) (hr:Ri w A c L) (hm:m=L.length) (hbytes:n+m≤1000000) (hbase:base≤w.heap.size)
  (h:∀A' c' w',w'.ownsRow base 57 3 (.slice A' (n+m) c') (n+m) (cei (K++L))→Below base w w'→wpList Tryz.prog ops Q rest (a.put o.dst (.slice A' (n+m) c')) w'):wpList Tryz.prog ops Q (o::rest) a w:=by
 have hinfo:=Tryz.infoI
 rw [Option.map_eq_some_iff] at hinfo
 obtain ⟨i,hi,hz⟩:=hinfo
 simp only [Prod.mk.injEq] at hz
 obtain ⟨hz0,hz1,hz2⟩:=hz
 have hbel:∀{w'},w.grownBy w' v.ownBlock→Below base w w':=fun hg=>(Below.refl _ _).grown hg hbase fun g hg'=>(hown.lt g hg').1
 rcases hr.2.2.2 with ⟨rfl,rfl⟩ | ⟨ad,rfl,hcell⟩
 ·have h0:L=[]:=List.eq_nil_of_length_eq_zero (by have:=hr.le;omega)
  subst h0
  obtain rfl:m=0:=hm
  refine wpList_append_own_none hgd s x 48 ho base 57 i 3 Tryz.underlying48 hi v n (cei K) hs hown hx ?_
  obtain ⟨A',c',rfl⟩:=own_form hown
  have:=h A' c' w (by simpa using hown) (hbel (World.grownBy.refl w _))
  simpa using this
 ·by_cases hc:c=0
  ·subst hc
   have h0:L=[]:=List.eq_nil_of_length_eq_zero (by have:=hr.le;omega)
   subst h0
   obtain rfl:m=0:=hm
   refine wpList_append_own_at w hgd s x 48 ho base 57 i _ 3 24 Tryz.underlying48 hi hz0 hz1 hz2 rfl (by decide) v n (cei K) hs hown ad 0 0 [] hx rfl (fun j u hj=>by cases hj) (fun u hu=>by cases hu) (by unfold maxLen;omega) (by omega) hbase ?_
   intro v' w' hown' hg _ _
   obtain ⟨A',c',rfl⟩:=own_form hown'
   exact h A' c' w' (by simpa using hown') (hbel hg)
  ·refine wpList_append_own_at w hgd s x 48 ho base 57 i _ 3 24 Tryz.underlying48 hi hz0 hz1 hz2 rfl (by decide) v n (cei K) hs hown ad m c (cei L) hx (by rw [length_cei,hm])
    (ri_cells hr (by omega)) (cei_one L) (by unfold maxLen;omega) (by omega) hbase ?_
   intro v' w' hown' hg _ _
   obtain ⟨A',c',rfl⟩:=own_form hown'
   exact h A' c' w' (by rw [cei_append];exact hown') (hbel hg)
theorem Ri.grown {w w':World} {A:Option Addr} {c:Nat} {L:List Ins} (h:Ri w A c L) {row:Option Nat} (hg:w.grownBy w' row) (hr:∀ad,A=some ad→some ad.block≠row):Ri w' A c L:=by
 refine ⟨h.1,h.2.1,h.2.2.1,?_⟩;rcases h.2.2.2 with hn | ⟨ad,ha,hc⟩
 ·exact .inl hn
 ·refine .inr ⟨ad,ha,fun i x hx=>?_⟩;have hb:∀k,(ad.add k).block=ad.block:=fun k=>by unfold Addr.add;split<;>rfl
  obtain ⟨h1,h2,h3⟩:=hc i x hx;refine ⟨hg.cell h1 (by rw [hb];exact hr ad ha),hg.cell h2 (by simp only [hb];exact hr ad ha),hg.cell h3 (by simp only [hb];exact hr ad ha)⟩
theorem rcopy_any (A:Option Addr) (c m:Nat) (L:List Ins) (w:World) (hr:Ri w A c L) (hm:L.length=m) (hl:m≤1000000):Calls Tryz.prog 33 #[.slice A m c] w fun e w'=>∃A' c',e=.returned (.slice A' m c')∧w'.ownsRow w.heap.size 57 3 (.slice A' m c') m (cei L)∧Below w.heap.size w w':=by
 go_enter Tryz.func33,Tryz.ntmps33;go_wp2_with (at_builtin;refine wpList_append_ri _ rfl _ _ rfl w.heap.size _ 0 [] rfl (World.ownsRow_nil _ _ _ _) A m c L rfl hr hm.symm (by omega) (Nat.le_refl _) ?_);intro A' c' w1 ho hb;have HO:=zhy ho;have HB:=zhy hb;clear ho hb;go_wp2_with fail;go_ret;exact ⟨A',c',rfl,HO.out,HB.out⟩
def opr (x:Ins):List Int:=x.1::(if wdB x.1 then [x.2.1 % 256,x.2.1 / 256] else [])
def codB (L:List Ins):List Int:=(L.length:Int)::L.flatMap opr
theorem opM_bd {x : Ins} (h : inM x = true) : 0 ≤ x.2.1 ∧ x.2.1 ≤ 1024 ∧ x.1 < 33 := by
  have h' : opM x.1 x.2.1 x.2.2 = true := h
  simp only [opM, Bool.and_eq_true, decide_eq_true_eq] at h'
  obtain ⟨⟨h1, h2⟩, _⟩ := h'
  have a1 : 0 ≤ opLo x.1 := by unfold opLo; split <;> omega
  have a2 : opHi x.1 ≤ 1024 ∧ (¬ x.1 < 33 → opHi x.1 = -1) := by unfold opHi; repeat' split
                                                                 all_goals omega
  by_cases h3 : x.1 < 33
  · omega
  · have := a2.2 h3; omega
def rd1 (l:List Int) (p:Nat):Int×Ins×Nat:=
 if l.length≤p then (10,(0,0,0),0) else
 let n:=l[p]?.getD 0
 if ¬n<33 then (40,(0,0,0),0) else
 if wdB n=true then
  if l.length<p+3 then (10,(0,0,0),0) else
  let a:=l[p+1]?.getD 0+256*l[p+2]?.getD 0
  if opM n a 0=true then (0,(n,a,0),p+3) else (40,(0,0,0),0)
 else if opM n 0 0=true then (0,(n,0,0),p+1) else (40,(0,0,0),0)
def apC (K:List Ins) (r:Int×List Ins×Nat):Int×List Ins×Nat:=if r.1=0 then (0,K++r.2.1,r.2.2) else (r.1,[],0)
def rdS (l:List Int):Nat→Nat→Int×List Ins×Nat
 | 0,p=>(0,[],p)
 | k+1,p=>if (rd1 l p).1=0 then apC [(rd1 l p).2.1] (rdS l k (rd1 l p).2.2) else ((rd1 l p).1,[],0)
def rdC (l:List Int) (p:Int):Int×List Ins×Nat:=
 if p<0∨l.length<p then (2,[],0) else
 if p=l.length then (10,[],0) else
 let m:=l[p.toNat]?.getD 0
 if m<1∨200<m then (40,[],0) else rdS l m.toNat (p.toNat+1)
theorem apC_apC (K M:List Ins) (r:Int×List Ins×Nat):apC K (apC M r)=apC (K++M) r:=by
 unfold apC;by_cases h:r.1=0
 ·simp [h]
 ·simp [h]
theorem apC_nil {r:Int×List Ins×Nat} (h:r.1≠0→r.2.1=[]∧r.2.2=0):apC [] r=r:=by
 obtain ⟨e,L,q⟩:=r;unfold apC;by_cases h0:e=0
 ·subst h0;rfl
 ·obtain ⟨h1,h2⟩:=h h0;simp at h1 h2;subst h1 h2;simp [h0]
theorem rdS_err (l:List Int) (k p:Nat):(rdS l k p).1≠0→(rdS l k p).2.1=[]∧(rdS l k p).2.2=0:=by
 cases k with
 | zero=>intro h;exact absurd rfl h
 | succ k =>
  intro h;rw [rdS] at h ⊢;split at h
  ·rename_i h1;rw [if_pos h1];unfold apC at h ⊢;split at h
   ·exact absurd rfl h
   ·rename_i h2;rw [if_neg h2];exact ⟨rfl,rfl⟩
  ·rename_i h1;rw [if_neg h1];exact ⟨rfl,rfl⟩
theorem rdS_yes {l:List Int} {k p:Nat} {x:Ins} {q:Nat} (h:rd1 l p=(0,x,q)):rdS l (k+1) p=apC [x] (rdS l k q):=by rw [rdS,h,if_pos rfl]
theorem rdS_no {l:List Int} {k p:Nat} {e:Int} (h:(rd1 l p).1=e) (he:e≠0):rdS l (k+1) p=(e,[],0):=by rw [rdS,if_neg (by rw [h];exact he),h]
theorem rd1_short {l:List Int} {p:Nat} (h:l.length≤p):rd1 l p=(10,(0,0,0),0):=by rw [rd1,if_pos h]
theorem rd1_op {l:List Int} {p:Nat} (h:p<l.length) (h1:¬l[p]?.getD 0<33):rd1 l p=(40,(0,0,0),0):=by rw [rd1,if_neg (by omega)];simp only;rw [if_pos h1]
theorem rd1_few {l:List Int} {p:Nat} (h:p<l.length) (h1:l[p]?.getD 0<33) (hw:wdB (l[p]?.getD 0)=true) (h2:l.length<p+3):rd1 l p=(10,(0,0,0),0):=by
 rw [rd1,if_neg (by omega)];simp only;rw [if_neg (by omega),if_pos hw,if_pos h2]
theorem rd1_wide {l:List Int} {p:Nat} {v:Bool} (h1:l[p]?.getD 0<33) (hw:wdB (l[p]?.getD 0)=true) (h2:p+3≤l.length) (hv:opM (l[p]?.getD 0) (l[p+1]?.getD 0+256*l[p+2]?.getD 0) 0=v) :
  rd1 l p=if v=true then (0,(l[p]?.getD 0,l[p+1]?.getD 0+256*l[p+2]?.getD 0,0),p+3) else (40,(0,0,0),0):=by
 rw [rd1,if_neg (by omega)];simp only;rw [if_neg (by omega),if_pos hw,if_neg (by omega),hv]
theorem rd1_slim {l:List Int} {p:Nat} {v:Bool} (h:p<l.length) (h1:l[p]?.getD 0<33) (hw:wdB (l[p]?.getD 0)=false) (hv:opM (l[p]?.getD 0) 0 0=v) :
  rd1 l p=if v=true then (0,(l[p]?.getD 0,0,0),p+1) else (40,(0,0,0),0):=by
 rw [rd1,if_neg (by omega)];simp only;rw [if_neg (by omega),if_neg (by rw [hw];decide),hv]
theorem rdC_neg {l:List Int} {p:Int} (h:p<0∨l.length<p):rdC l p=(2,[],0):=by rw [rdC,if_pos h]
theorem rdC_end {l:List Int} {p:Int} (h:p=l.length):rdC l p=(10,[],0):=by rw [rdC,if_neg (by omega),if_pos h]
theorem rdC_many {l:List Int} {p:Nat} (h:p<l.length) (h1:l[p]?.getD 0<1∨200<l[p]?.getD 0):rdC l p=(40,[],0):=by
 rw [rdC,if_neg (by omega),if_neg (by omega)];simp only [Int.toNat_natCast];rw [if_pos h1]
theorem rdC_yes {l:List Int} {p m:Nat} (h:p<l.length) (hm:l[p]?.getD 0=m) (h1:1≤m∧m≤200):rdC l p=rdS l m (p+1):=by
 rw [rdC,if_neg (by omega),if_neg (by omega)];simp only [Int.toNat_natCast];rw [if_neg (by omega),hm,Int.toNat_natCast]
theorem In.other {w:World} {B:Nat} {k a b:Int} (h:In w B k a b) {p:Addr} (hp:p.block≠B) (v:Value):In (w.setCell p v) B k a b:=by
 obtain ⟨h1,h2,h3,h4,h5,h6,h7⟩:=h;have ne:∀i,p≠(⟨B,i,none⟩:Addr):=fun i e=>hp (by rw [e]);refine ⟨by simpa using h1,?_,?_,?_,?_,?_,?_⟩
 ·rw [World.cell?_setCell_other _ _ _ _ (ne 0)];exact h2
 ·rw [World.cell?_setCell_other _ _ _ _ (ne 1)];exact h3
 ·rw [World.cell?_setCell_other _ _ _ _ (ne 2)];exact h4
 ·simpa using h5
 ·simpa using h6
 ·simpa using h7
def cdE (L:List Ins):Int:=if codM L=true then 0 else 40
def byL (L:List Ins):List Int:=if codM L=true then codB L else []
def fNo:Fct:=⟨fun _=>True,fun _ _ _ _=>trivial⟩
def KBytes (F:Fct):Prop:=∀(A:Option Addr) (c m:Nat) (L:List Ins) (w:World),F.p w→Ri w A c L→L.length=m→m≤2000→Calls Tryz.prog 67 #[.slice A m c] w fun e w'=>∃A' c',e=.returned (.tuple #[.slice A' (byL L).length c',.int .i64 (cdE L)]) ∧
 w'.ownsRow w.heap.size 5 1 (.slice A' (byL L).length c') (byL L).length (cel (byL L))∧Below w.heap.size w w'
theorem opLo_nonneg (n:Int):0≤opLo n∧opLo n≤1:=by unfold opLo;split<;>omega
theorem inM_parts {x:Ins} (h:inM x=true):opLo x.1≤x.2.1∧x.2.1≤opHi x.1∧x.2.2=0:=by
 have h':opM x.1 x.2.1 x.2.2=true:=h;simp only [opM,Bool.and_eq_true,decide_eq_true_eq,beq_iff_eq] at h';exact ⟨h'.1.1,h'.1.2,h'.2⟩
theorem codM_parts {L:List Ins} (h:codM L=true):1≤L.length∧L.length≤200∧∀x∈L,inM x=true:=by
 simp only [codM,Bool.and_eq_true,decide_eq_true_eq] at h;exact ⟨h.1.1,h.1.2,List.all_eq_true.1 h.2⟩
theorem rd1_inv {l:List Int} (hb:Byt l) {p q:Nat} {x:Ins} (h:rd1 l p=(0,x,q)):inM x=true∧InOk x∧q=p+(opr x).length∧q≤l.length∧l.drop p=opr x++l.drop q:=by
 have hbyte:∀i:Nat,(0:Int)≤l[i]?.getD 0∧(l[i]?.getD 0:Int)<256:=fun i=>by
  by_cases hi:i<l.length
  ·rw [zg7 hi];exact hb _ (List.getElem_mem hi)
  ·rw [List.getElem?_eq_none (by omega)];exact ⟨by decide,by decide⟩
 have hcons:∀i:Nat,i<l.length→l.drop i=(l[i]?.getD 0:Int)::l.drop (i+1):=fun i hi=>by
  rw [List.drop_eq_getElem_cons hi,zg7 hi];rfl
 have b0:=hbyte p;have b1:=hbyte (p+1);have b2:=hbyte (p+2);unfold rd1 at h;by_cases h1:l.length≤p
 ·rw [if_pos h1] at h;simp at h
 ·rw [if_neg h1] at h;simp only at h;have c0:=hcons p (by omega);generalize l[p]?.getD 0=n at *;by_cases h2:n<33
  ·rw [if_neg (by omega)] at h;cases hw:wdB n with
   | true =>
    rw [if_pos hw] at h;by_cases h3:l.length<p+3
    ·rw [if_pos h3] at h;simp at h
    ·rw [if_neg h3] at h;have c1:=hcons (p+1) (by omega);have c2:=hcons (p+2) (by omega);generalize l[p+1]?.getD 0=y at *;generalize l[p+2]?.getD 0=z at *;by_cases h4:opM n (y+256*z) 0=true
     ·rw [if_pos h4] at h;simp only [Prod.mk.injEq,true_and] at h;obtain ⟨rfl,rfl⟩:=h;have e1:(y+256*z) % 256=y:=by omega
      have e2:(y+256*z) / 256=z:=by omega
      have ho:opr (n,y+256*z,0)=[n,y,z]:=by simp [opr,hw,e1,e2]
      refine ⟨h4,?_,by rw [ho];rfl,by omega,?_⟩
      ·unfold InOk;simp only;omega
      ·rw [ho,c0,c1,c2];rfl
     ·rw [if_neg h4] at h;simp at h
   | false =>
    rw [if_neg (by rw [hw];decide)] at h;by_cases h4:opM n 0 0=true
    ·rw [if_pos h4] at h;simp only [Prod.mk.injEq,true_and] at h;obtain ⟨rfl,rfl⟩:=h;have ho:opr (n,0,0)=[n]:=by simp [opr,hw]
     refine ⟨h4,?_,by rw [ho];rfl,by omega,?_⟩
     ·unfold InOk;simp only;omega
     ·rw [ho,c0];rfl
    ·rw [if_neg h4] at h;simp at h
  ·rw [if_pos (by omega)] at h;simp at h
theorem rdS_inv {l:List Int} (hb:Byt l):∀{k p q:Nat} {L:List Ins},p≤l.length→rdS l k p=(0,L,q)→L.length=k∧(∀x∈L,inM x=true)∧(∀x∈L,InOk x)∧q=p+(L.flatMap opr).length∧q≤l.length∧l.drop p=L.flatMap opr++l.drop q:=by
 intro k;induction k with
 | zero =>
  intro p q L hp h;simp only [rdS,Prod.mk.injEq,true_and] at h;obtain ⟨rfl,rfl⟩:=h;exact ⟨rfl,fun x hx=>(by cases hx),fun x hx=>(by cases hx),rfl,hp,rfl⟩
 | succ k ih =>
  intro p q L hp h;rw [rdS] at h;by_cases h1:(rd1 l p).1=0
  ·rw [if_pos h1] at h;obtain ⟨x,q1,hr⟩:∃x q1,rd1 l p=(0,x,q1):=⟨(rd1 l p).2.1,(rd1 l p).2.2,by rw [←h1]⟩;rw [hr] at h;obtain ⟨m1,m2,m3,m4,m5⟩:=rd1_inv hb hr;simp only at h;unfold apC at h;by_cases h2:(rdS l k q1).1=0
   ·rw [if_pos h2] at h;obtain ⟨M,q2,hs⟩:∃M q2,rdS l k q1=(0,M,q2):=⟨(rdS l k q1).2.1,(rdS l k q1).2.2,by rw [←h2]⟩;rw [hs] at h;simp only [Prod.mk.injEq,true_and] at h;obtain ⟨rfl,rfl⟩:=h;obtain ⟨n1,n2,n3,n4,n5,n6⟩:=ih m4 hs;refine ⟨by rw [List.length_append,n1];simp;omega,?_,?_,?_,n5,?_⟩
    ·intro y hy;rcases List.mem_append.1 hy with hy | hy
     ·rw [List.mem_singleton.1 hy];exact m1
     ·exact n2 y hy
    ·intro y hy;rcases List.mem_append.1 hy with hy | hy
     ·rw [List.mem_singleton.1 hy];exact m2
     ·exact n3 y hy
    ·rw [n4,m3,List.flatMap_append,List.length_append];simp;omega
    ·rw [m5,n6,List.flatMap_append,List.append_assoc];simp
   ·rw [if_neg h2] at h;exact absurd (congrArg Prod.fst h) h2
  ·rw [if_neg h1] at h;exact absurd (congrArg Prod.fst h) h1
theorem codM_mk {L:List Ins} (h1:1≤L.length) (h2:L.length≤200) (h3:∀x∈L,inM x=true):codM L=true:=by
 rw [codM,decide_eq_true h1,decide_eq_true h2,List.all_eq_true.2 h3];rfl
theorem rdC_inv {l:List Int} (hb:Byt l) {p:Int} {L:List Ins} {q:Nat} (h:rdC l p=(0,L,q)):codM L=true∧(∀x∈L,InOk x)∧0≤p∧p≤l.length∧q≤l.length∧q=p.toNat+(codB L).length∧l.drop p.toNat=codB L++l.drop q:=by
 unfold rdC at h;by_cases h1:p<0∨l.length<p
 ·rw [if_pos h1] at h;simp at h
 ·rw [if_neg h1] at h;by_cases h2:p=l.length
  ·rw [if_pos h2] at h;simp at h
  ·rw [if_neg h2] at h;simp only at h;have hlt:p.toNat<l.length:=by omega
   have c0:l.drop p.toNat=l[p.toNat]?.getD 0::l.drop (p.toNat+1):=by rw [List.drop_eq_getElem_cons hlt,zg7 hlt];rfl
   generalize l[p.toNat]?.getD 0=m at *;by_cases h3:m<1∨200<m
   ·rw [if_pos h3] at h;simp at h
   ·rw [if_neg h3] at h;obtain ⟨n1,n2,n3,n4,n5,n6⟩:=rdS_inv hb (by omega) h;have hm:(L.length:Int)=m:=by omega
    refine ⟨codM_mk (by omega) (by omega) n2,n3,by omega,by omega,n5,by rw [n4,codB,List.length_cons];omega,?_⟩;rw [c0,n6,codB,hm];rfl
def vM (x:Vlu):Bool:=mayB x.1 x.2.1 x.2.2
def poM (L:List Vlu):Bool:=decide (L.length≤32)&&L.all vM
def vB (x:Vlu):List Int:=valB x.1 x.2.1 x.2.2
def poB (L:List Vlu):List Int:=(L.length:Int)::L.flatMap vB
def poE (L:List Vlu):Int:=if poM L=true then 0 else 60
def poL (L:List Vlu):List Int:=if poM L=true then poB L else []
theorem vB_len (x:Vlu):(vB x).length≤9:=by
 rw [vB,valB];split<;>simp [length_digs]
theorem vB_byt (x:Vlu):Byt (vB x):=byt_valB _ _ _
theorem vBs_len:∀L:List Vlu,(L.flatMap vB).length≤9*L.length
 | []=>by simp
 | x::L=>by
  have h1:=vB_len x;have h2:=vBs_len L;rw [List.flatMap_cons,List.length_append,List.length_cons];omega
theorem vBs_byt (L:List Vlu):Byt (L.flatMap vB):=by
 intro y hy;obtain ⟨x,_,hy⟩:=List.mem_flatMap.1 hy;exact vB_byt x y hy
theorem poB_byt {L:List Vlu} (h:L.length≤32):Byt (poB L):=by
 intro y hy;rcases List.mem_cons.1 hy with rfl | hy
 ·omega
 ·exact vBs_byt L y hy
theorem poM_le {L:List Vlu} (h:poM L=true):L.length≤32:=by simp only [poM,Bool.and_eq_true,decide_eq_true_eq] at h;exact h.1
theorem poM_at {L:List Vlu} (h:poM L=true):∀x∈L,vM x=true:=by simp only [poM,Bool.and_eq_true] at h;exact List.all_eq_true.1 h.2
theorem poL_byt (L:List Vlu):Byt (poL L):=by
 unfold poL;split
 ·rename_i h;exact poB_byt (poM_le h)
 ·exact fun y hy=>(by cases hy)
theorem poL_len (L:List Vlu):(poL L).length≤289:=by
 unfold poL;split
 ·rename_i h;have h1:=poM_le h;have h2:=vBs_len L;rw [poB,List.length_cons];omega
 ·simp
theorem bytE_of {x:Vlu} (h:vM x=true):bytE x.1 x.2.1 x.2.2=0:=if_pos h
theorem bytL_of {x:Vlu} (h:vM x=true):bytL x.1 x.2.1 x.2.2=vB x:=if_pos h
def apV (K:List Vlu) (r:List Vlu×Int×Int):List Vlu×Int×Int:=if r.2.2=0 then (K++r.1,r.2.1,0) else ([],0,r.2.2)
def rpS (l:List Int):Nat→Int→List Vlu×Int×Int
 | 0,q=>([],q,0)
 | k+1,q=>match rdT l q with
  | (x,a,b,n,e)=>if e=0 then apV [(x,a,b)] (rpS l k n) else ([],0,e)
def rdP (l:List Int) (p:Int):List Vlu×Int×Int:=
 if getE l p 1=0 then (if 32<getV l p 1 then ([],0,60) else rpS l (getV l p 1).toNat (getN l p 1)) else ([],0,getE l p 1)
theorem apV_apV (K M:List Vlu) (r:List Vlu×Int×Int):apV K (apV M r)=apV (K++M) r:=by
 unfold apV;by_cases h:r.2.2=0
 ·simp [h]
 ·simp [h]
theorem rpS_form (l:List Int) (k:Nat) (q:Int):apV [] (rpS l k q)=rpS l k q:=by
 cases k with
 | zero=>rfl
 | succ k =>
  rw [rpS];obtain ⟨x,a,b,n,e⟩:=rdT l q;simp only;by_cases h:e=0
  ·rw [if_pos h,apV_apV,List.nil_append]
  ·rw [if_neg h];simp [apV,h]
theorem rpS_yes {l:List Int} {k:Nat} {q x a b n:Int} (h:rdT l q=(x,a,b,n,0)):rpS l (k+1) q=apV [(x,a,b)] (rpS l k n):=by rw [rpS,h];simp
theorem rpS_no {l:List Int} {k:Nat} {q x a b n e:Int} (h:rdT l q=(x,a,b,n,e)) (he:e≠0):rpS l (k+1) q=([],0,e):=by rw [rpS,h];simp [he]
theorem apV_no (K:List Vlu) {e:Int} (he:e≠0):apV K ([],0,e)=([],0,e):=by simp [apV,he]
theorem wrap64_bd (n:Int):-9223372036854775808≤wrap64 n∧wrap64 n≤9223372036854775807:=by
 unfold wrap64;omega
theorem rdT_vok {l:List Int} (hb:Byt l) {q x a b n e:Int} (h:rdT l q=(x,a,b,n,e)):VlOk (x,a,b):=by
 have z:VlOk (0,0,0):=by unfold VlOk;simp only;omega
 have b1:=x3_bd hb (q.toNat+1);have b2:=x3_bd hb (q.toNat+4);have b4:=wrap64_bd (num ((l.drop (q.toNat+1)).take 8));unfold rdT at h;repeat' split at h
 all_goals (obtain ⟨rfl,rfl,rfl,rfl,rfl⟩:=by simpa using h)
 all_goals (unfold VlOk;simp only;omega)
theorem get_1 {l:List Int} (hb:Byt l) {p:Nat} (h:p<l.length):getE l p 1=0∧getV l p 1=l[p]?.getD 0∧getN l p 1=((p+1:Nat):Int):=by
 obtain ⟨h1,h2,h3⟩:=get1 hb h;exact ⟨h3,h1,by rw [h2];omega⟩
theorem rdT_inv {l:List Int} (hb:Byt l) {p:Nat} {k a b n:Int} (h:rdT l p=(k,a,b,n,0)):vM (k,a,b)=true∧VlOk (k,a,b)∧∃q:Nat,n=(q:Int)∧q=p+(vB (k,a,b)).length∧q≤l.length∧l.drop p=vB (k,a,b)++l.drop q:=by
 obtain ⟨q,m,hq,hn,hm,hB,hl,hle⟩:=rdT_ok hb h;obtain rfl:p=q:=by omega
 have hv:vM (k,a,b)=true:=hm;have e:bytL k a b=vB (k,a,b):=bytL_of hv;rw [e] at hB hl;refine ⟨hv,rdT_vok hb h,p+m,by omega,by omega,hle,?_⟩;rw [hB,←List.drop_drop,List.take_append_drop]
theorem rpS_inv {l:List Int} (hb:Byt l):∀{k p:Nat} {L:List Vlu} {n:Int},p≤l.length→rpS l k p=(L,n,0)→L.length=k∧(∀x∈L,vM x=true)∧(∀x∈L,VlOk x)∧∃q:Nat,n=(q:Int)∧q=p+(L.flatMap vB).length∧q≤l.length∧l.drop p=L.flatMap vB++l.drop q:=by
 intro k;induction k with
 | zero =>
  intro p L n hp h;simp only [rpS,Prod.mk.injEq,and_true] at h;obtain ⟨rfl,rfl⟩:=h;exact ⟨rfl,fun x hx=>(by cases hx),fun x hx=>(by cases hx),p,rfl,rfl,hp,rfl⟩
 | succ k ih =>
  intro p L n hp h;obtain ⟨x,a,b,n1,e,hr⟩:∃x a b n1 e,rdT l p=(x,a,b,n1,e):=⟨_,_,_,_,_,rfl⟩;by_cases he:e=0
  ·subst he;rw [rpS_yes hr] at h;obtain ⟨m1,m2,q1,rfl,m3,m4,m5⟩:=rdT_inv hb hr;unfold apV at h;by_cases h2:(rpS l k (q1:Int)).2.2=0
   ·rw [if_pos h2] at h;obtain ⟨M,n2,hs⟩:∃M n2,rpS l k (q1:Int)=(M,n2,0):=⟨_,_,by rw [←h2]⟩;rw [hs] at h;simp only [Prod.mk.injEq,and_true] at h;obtain ⟨rfl,rfl⟩:=h;obtain ⟨n1,n2,n3,q,rfl,n4,n5,n6⟩:=ih m4 hs;refine ⟨by rw [List.length_append,n1];simp;omega,?_,?_,q,rfl,?_,n5,?_⟩
    ·intro y hy;rcases List.mem_append.1 hy with hy | hy
     ·rw [List.mem_singleton.1 hy];exact m1
     ·exact n2 y hy
    ·intro y hy;rcases List.mem_append.1 hy with hy | hy
     ·rw [List.mem_singleton.1 hy];exact m2
     ·exact n3 y hy
    ·rw [n4,m3,List.flatMap_append,List.length_append];simp;omega
    ·rw [m5,n6,List.flatMap_append,List.append_assoc];simp
   ·rw [if_neg h2] at h;exact absurd (congrArg (fun r=>r.2.2) h) h2
  ·rw [rpS_no hr he] at h;exact absurd (congrArg (fun r=>r.2.2) h) he
theorem poM_mk {L:List Vlu} (h2:L.length≤32) (h3:∀x∈L,vM x=true):poM L=true:=by
 rw [poM,decide_eq_true h2,List.all_eq_true.2 h3];rfl
theorem getE_1 {l : List Int} {p : Int} (h : getE l p 1 = 0) : 0 ≤ p ∧ p.toNat < l.length := by
  by_cases h1 : p < 0 ∨ (l.length : Int) < p + 1
  · exfalso
    have hc : cutE l p 1 ≠ 0 := by unfold cutE; repeat' split
                                   all_goals omega
    rw [getE, if_neg (by omega), if_neg hc] at h
    exact hc h
  · omega
theorem rdP_inv {l:List Int} (hb:Byt l) {p:Int} {L:List Vlu} {n:Int} (h:rdP l p=(L,n,0)):poM L=true∧(∀x∈L,VlOk x)∧∃i q:Nat,p=(i:Int)∧n=(q:Int)∧q≤l.length∧q=i+(poB L).length∧l.drop i=poB L++l.drop q:=by
 unfold rdP at h;by_cases h1:getE l p 1=0
 ·obtain ⟨hp0,hlt⟩:=getE_1 h1;obtain ⟨i,rfl⟩:∃i:Nat,p=i:=⟨p.toNat,by omega⟩;rw [Int.toNat_natCast] at hlt;obtain ⟨e1,e2,e3⟩:=get_1 hb hlt;rw [if_pos h1,e2,e3] at h;have c0:l.drop i=l[i]?.getD 0::l.drop (i+1):=by rw [List.drop_eq_getElem_cons hlt,zg7 hlt];rfl
  have hby:0≤l[i]?.getD 0:=by rw [zg7 hlt];exact (hb _ (List.getElem_mem hlt)).1
  generalize l[i]?.getD 0=m at *;by_cases h3:32<m
  ·rw [if_pos h3] at h;simp at h
  ·rw [if_neg h3] at h;obtain ⟨n1,n2,n3,q,rfl,n4,n5,n6⟩:=rpS_inv hb (by omega) h;have hm:(L.length:Int)=m:=by omega
   refine ⟨poM_mk (by omega) n2,n3,i,q,rfl,rfl,n5,by rw [n4,poB,List.length_cons];omega,?_⟩;rw [c0,n6,poB,hm];rfl
 ·rw [if_neg h1] at h;exact absurd (congrArg (fun r=>r.2.2) h) h1
def KPBytes (F:Fct):Prop:=∀(A:Option Addr) (c m:Nat) (L:List Vlu) (w:World),F.p w→Rv w A c L→L.length=m→m≤2000→Calls Tryz.prog 64 #[.slice A m c] w fun e w'=>∃A' c',e=.returned (.tuple #[.slice A' (poL L).length c',.int .i64 (poE L)]) ∧
 w'.ownsRow w.heap.size 5 1 (.slice A' (poL L).length c') (poL L).length (cel (poL L))∧Below w.heap.size w w'
end Go.Proofs.YtnjgkkoiamiaaaaGreatDoor
