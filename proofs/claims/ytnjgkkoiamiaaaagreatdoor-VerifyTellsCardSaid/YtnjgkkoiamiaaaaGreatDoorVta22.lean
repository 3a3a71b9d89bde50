import Derived.Test.YtnjgkkoiamiaaaaGreatDoorVta1
import Derived.Test.YtnjgkkoiamiaaaaGreatDoorVta19
import Derived.Test.YtnjgkkoiamiaaaaGreatDoorVta21
import Derived.Test.YtnjgkkoiamiaaaaGreatDoorVta11
import Derived.Lib.Bytes
import Derived.Test.YtnjgkkoiamiaaaaGreatDoorVta8
import Derived.Test.YtnjgkkoiamiaaaaGreatDoorVta6
import Derived.Test.YtnjgkkoiamiaaaaGreatDoorVta5
set_option maxRecDepth 100000
set_option maxHeartbeats 16000000
set_option linter.unusedSimpArgs false
set_option linter.unusedVariables false
namespace Go.Proofs.YtnjgkkoiamiaaaaGreatDoor
open Go.RowKit
theorem zj7 (C:Nat→Ce):∀(l:List zkd) (a s b:Int),zdn C l (a,s,b)=(a+(zdn C l (0,s,0)).1,(zdn C l (0,s,0)).2.1,b+(zdn C l (0,s,0)).2.2)
 | [],a,s,b=>by simp [zdn]
 | x::l,a,s,b=>by
  have h1:=zj7 C l;unfold zdn at h1 ⊢;rw [List.foldl_cons,List.foldl_cons];simp only [zvr];rw [h1 (a+_),h1 (0+_)];dsimp only;rw [Int.zero_add,Int.zero_add,Int.add_assoc,Int.add_assoc]
def zii (d:Md) (C:Nat→Ce) (k n:Nat):Ce:=zdn C (zf4 d (ji d k) (zl d k) (ql d k).1 n) (0,zgm (ji d k)+zc8 (ql d k).1,0)
def za1 (d:Md) (C:Nat→Ce) (k n:Nat):Ce:=(zic (zl d k) n+(zii d C k n).1,(zii d C k n).2.1,zid (zl d k) n+(zii d C k n).2.2)
section
variable {d : Md} {C : Nat → Ce} {k n : Nat}
theorem zpq:za1 d C k 0=(0,zgm (ji d k)+zc8 (ql d k).1,0):=by simp [za1,zii,zic,zid,zf4,zdn]
theorem zjl (h:iO9 (zl d k) n=30):zii d C k (n+1)=zvr C (zii d C k n) (zqg d (ji d k) (zl d k) (ql d k).1 n):=by
 unfold zii;rw [zb4,if_pos h];unfold zdn;rw [List.foldl_append];rfl
theorem zfe (h:iO9 (zl d k) n≠30):zii d C k (n+1)=zii d C k n:=by
 unfold zii;rw [zb4,if_neg h,List.append_nil]
theorem zoq (h:iO9 (zl d k) n=30) {j:Nat} (hj:iA9 (zl d k) n=j):za1 d C k (n+1)=((za1 d C k n).1+zec (zl d k) n+zec (zl d k) n*(C j).1,
  if (zle (ql d k).1 n).1=true then max (za1 d C k n).2.1 (zgm (ji d k)+(zle (ql d k).1 n).2.length-zra d (zl d k) n+(C j).2.1) else (za1 d C k n).2.1,
  (za1 d C k n).2.2+zec (zl d k) n*(C j).2.2):=by
 unfold za1;rw [zjl h,zb3,zbz,zny,if_neg (by omega)];simp only [zvr,zqg,hj,Int.toNat_natCast];rw [Int.mul_comm (C j).1,Int.mul_comm (C j).2.2];refine Prod.ext ?_ (Prod.ext rfl ?_)
 ·dsimp only;omega
 ·dsimp only;omega
theorem ztn (h:iO9 (zl d k) n=22):za1 d C k (n+1)=((za1 d C k n).1+zec (zl d k) n,(za1 d C k n).2.1,(za1 d C k n).2.2+zec (zl d k) n*iA9 (zl d k) n):=by
 unfold za1;rw [zfe (by omega),zb3,zbz,zny,if_pos h,Int.mul_comm (iA9 _ _)];refine Prod.ext ?_ (Prod.ext rfl ?_)
 ·dsimp only;omega
 ·dsimp only;omega
theorem zpg (h:iO9 (zl d k) n≠30) (h2:iO9 (zl d k) n≠22):za1 d C k (n+1)=((za1 d C k n).1+zec (zl d k) n,(za1 d C k n).2.1,(za1 d C k n).2.2):=by
 unfold za1;rw [zfe h,zb3,zbz,zny,if_neg h2];refine Prod.ext ?_ (Prod.ext rfl ?_)
 ·dsimp only;omega
 ·dsimp only;omega
theorem zub:za1 d C k (zl d k).length=zsq d C k:=by
 rw [zsq,zkc,qc6,ziy,zj7];rfl
theorem zri {N m:Nat} (hl:∀p,p<N→iO9 (zl d k) p=30→qai C m (zqg d (ji d k) (zl d k) (ql d k).1 p)) (hs:-1000000≤zgm (ji d k)+zc8 (ql d k).1∧zgm (ji d k)+zc8 (ql d k).1≤2000000):∀n,n≤N →
  0≤(zii d C k n).1∧(zii d C k n).1≤104857600000000*n∧-1000000≤(zii d C k n).2.1∧(zii d C k n).2.1≤2000000∧0≤(zii d C k n).2.2∧(zii d C k n).2.2≤102400000000*n
 | 0,_=>by
  have e:zii d C k 0=(0,zgm (ji d k)+zc8 (ql d k).1,0):=rfl;rw [e];dsimp only;omega
 | n+1,hn=>by
  obtain ⟨a1,a2,a3,a4,a5,a6⟩:=zri hl hs n (by omega);by_cases h:iO9 (zl d k) n=30
  ·rw [zjl h];have hb:=hl n (by omega) h;generalize zqg d (ji d k) (zl d k) (ql d k).1 n=x at hb ⊢;obtain ⟨b1,b2,b3,b4,b5,b6,c1,c2,c3,c4,c5,c6⟩:=hb;have d1:0≤(C x.1.toNat).1*x.2.1:=Int.mul_nonneg c1 b3;have d2:(C x.1.toNat).1*x.2.1≤1048576*100000000:=Int.mul_le_mul c2 b4 b3 (by omega);have d3:0≤(C x.1.toNat).2.2*x.2.1:=Int.mul_nonneg c5 b3;have d4:(C x.1.toNat).2.2*x.2.1≤1024*100000000:=Int.mul_le_mul c6 b4 b3 (by omega);generalize zii d C k n=u at *;simp only [zvr];refine ⟨by omega,by omega,?_,?_,by omega,by omega⟩
   ·split<;>omega
   ·split<;>omega
  ·rw [zfe h];omega
theorem zx9 {m:Nat} (hf:jc (zl d k)=0) (hc:(zl d k).length≤300) (hl:∀x∈ziy d k,qai C m x) (hs:-1000000≤zgm (ji d k)+zc8 (ql d k).1∧zgm (ji d k)+zc8 (ql d k).1≤2000000) (hn:n≤(zl d k).length) :
  0≤(za1 d C k n).1∧(za1 d C k n).1≤100000000000000000∧-1000000≤(za1 d C k n).2.1∧(za1 d C k n).2.1≤2000000∧0≤(za1 d C k n).2.2∧(za1 d C k n).2.2≤100000000000000000:=by
 obtain ⟨f1,f2⟩:=zh4 hf n hn;obtain ⟨g1,g2⟩:=zgx hf n hn;obtain ⟨a1,a2,a3,a4,a5,a6⟩:=zri (C:=C) (m:=m) (N:=(zl d k).length) (fun p hp h=>hl _ (List.mem_map.2 ⟨p,List.mem_filter.2 ⟨List.mem_range.2 hp,by simp [h]⟩,rfl⟩)) hs n hn;unfold za1;dsimp only;omega
end
def ltK (c:Int):Int:=if c=110 then 1 else if c=112 then 2 else if c=114 then 3 else 0
theorem zhh (c : Int) : 0 ≤ ltK c ∧ ltK c < 256 := by unfold ltK; repeat' split
                                                      all_goals omega
theorem zoh (c:Int) (w:World):Calls Tryz.prog 221 #[.int .u8 c] w fun e w'=>e=.returned (.int .u8 (ltK c))∧w=w':=by
 go_enter Tryz.func221,Tryz.ntmps221;go_wp2_with fail;all_goals go_ret
 all_goals (refine ⟨?_,rfl⟩;simp_all [ltK,go_sem])
theorem qbh {L:List Int} (hb:Byt L) {s:ByteArray} (hs:strOfNums L=s) (j:Nat) (h:j<s.size) (h':j<L.length):((s[j]'h).toNat:Int)=L[j]:=by
 subst hs;have hx:=hb L[j] (List.getElem_mem h')
 have e:(strOfNums L)[j]'h=UInt8.ofNat (L[j]).toNat:=by
  have h1:(strOfNums L)[j]'h=(strOfNums L).data[j]'h:=rfl;rw [h1];simp [strOfNums]
 rw [e,UInt8.toNat_ofNat'];omega
theorem zjc (L:List Int) (hb:Byt L) (hl:L.length≤1000) (w:World):Calls Tryz.prog 184 #[.string (strOfNums L)] w fun e w'=>∃A c,e=.returned (.slice A L.length c)∧w'.ownsRow w.heap.size 5 1 (.slice A L.length c) L.length (cel (L.map ltK))∧Below w.heap.size w w':=by
 have hinfo:=Tryz.info5;rw [Option.map_eq_some_iff] at hinfo;obtain ⟨i0,hi,hz⟩:=hinfo;simp only [Prod.mk.injEq] at hz;obtain ⟨hz0,hz1,hz2⟩:=hz;obtain ⟨s,hs⟩:∃s,strOfNums L=s:=⟨_,rfl⟩;have hsz:s.size=L.length:=by rw [←hs];simp [strOfNums,ByteArray.size]
 have HS:=zhy hs;rw [hs];clear hs;go_enter Tryz.func184,Tryz.ntmps184;go_wp2_with fail;go_loopw [3,4] (fun o i wr=>∃(j:Nat) (A:Option Addr) (c:Nat),j≤L.length∧i=.int .i64 j∧o=.slice A j c∧wr.ownsRow w.heap.size 5 1 (.slice A j c) j (cel ((L.map ltK).take j))∧Below w.heap.size w wr) (fun _ i _=>L.length-(intOf i).toNat)
 case atStart=>exact ⟨0,none,0,by omega,rfl,rfl,qz _ _,Below.refl _ _⟩
 case round =>
  obtain ⟨j,A,c,hj,rfl,rfl,hown,hb⟩:=hrel;have HO:=zhy hown;have HB:=zhy hb;clear hown hb;by_cases h1:j<L.length
  ·go_wp2_with fail;refine (zoh _ _).mono ?_;rintro e w1 ⟨rfl,rfl⟩;rw [qbh hb HS.o j (by omega) h1];have hk:=zhh L[j];have HN:=zhy (show (L.map ltK).take j++[ltK L[j]]=(L.map ltK).take (j+1) by rw [List.take_add_one];simp [h1]);generalize ltK L[j]=x at *;have HR:=zhy (qo wr x hk);have HO1:=zhy (qb HO.o (qh (a:=.cells #[.int .u8 x] 5)) (Nat.le_refl _));have HB1:=zhy (HB.o.alloc HB.o.size (.cells #[.int .u8 x] 5));clear HO HB;go_wp2_with (at_builtin;refine qa _ rfl _ _ 40 rfl w.heap.size 5 i0 Tryz.underlying40 hi hz0 hz1 hz2 _ j ((L.map ltK).take j) rfl HO1.o _ 1 1 [x] rfl HR.o rfl (by omega) HB1.o.size ?_);intro A' c' w2 hown2 _ hb2 _;rw [HN.o] at hown2;have HB2:=zhy (HB1.o.trans hb2);have HO2:=zhy hown2;clear hb2 hown2;go_wp2_with fail;go_roundw
   case rel=>exact ⟨j+1,A',c',by omega,by go_num,rfl,HO2.o,HB2.o⟩
   case measure=>simp [intOf];omega
  ·obtain rfl:j=L.length:=by omega
   have HT:=zhy (show (L.map ltK).take L.length=L.map ltK by rw [List.take_of_length_le (by simp)]);go_wp2_with fail;go_ret;have ho:=HO.o;rw [HT.o] at ho;exact ⟨A,c,rfl,ho,HB.o⟩
def shT (n:Int):List Int:=
 if n=0∨n=26∨n=28∨n=29∨n=32 then [] else if (9≤n∧n≤15)∨n=16 then [110,110] else if n=17∨n=18∨n=21 then [112] else if n=19∨n=20 then [112,112] else if n=22∨n=27 then [110] else if n=23 then [114,110] else if n=24 then [114,110,110] else if n=25 then [114] else if n=6 then [46] else [63]
def shV (n:Int):List Int:=
 if n=0∨n=26∨n=28∨n=29∨n=32∨n=24∨n=27∨n=6 then [] else if (9≤n∧n≤15)∨n=17∨n=18∨n=23∨n=25 then [110] else if n=16∨n=19∨n=20∨n=21 then [112] else if n=22 then [114] else [63]
theorem zrw (n : Int) (w : World) : Calls Tryz.prog 183 #[.int .u8 n] w fun e w' => e = .returned (.tuple #[.string (strOfNums (shT n)), .string (strOfNums (shV n))]) ∧ w = w' := by
  go_enter Tryz.func183, Tryz.ntmps183
  go_wp2_with fail
  all_goals go_ret2
  all_goals first
    | (rename_i h; obtain rfl := eq_of_beq h; exact ⟨rfl, rfl⟩)
    | (simp only [beq_eq_false_iff_ne, ne_eq] at *
       have e1 : shT n = [63] := by rw [shT]; repeat' rw [if_neg (by omega)]
       have e2 : shV n = [63] := by rw [shV]; repeat' rw [if_neg (by omega)]
       rw [e1, e2]
       exact ⟨rfl, trivial⟩)
set_option maxRecDepth 100000 in
theorem qa6:∀n∈([0,6,9,10,11,12,13,14,15,16,17,18,19,20,21,22,23,24,25,26,27,28,29,32]:List Int),(Lib.bytesOf (shT n)==[63])=false∧(∀x∈shT n,0≤x∧x<256)∧(∀x∈shV n,0≤x∧x<256)∧(shT n).length≤3∧(shV n).length≤1∧(shT n).map ltK=tkL n∧(shV n).map ltK=gvL n:=by decide
theorem qdc (n:Int) (w:World) (h:fxB n=true):Calls Tryz.prog 128 #[.int .u8 n] w fun e w'=>∃A c A' c',e=.returned (.tuple #[.slice A (tkL n).length c,.slice A' (gvL n).length c',.bool true])∧Rd w' A c (tkL n)∧Rd w' A' c' (gvL n)∧Below w.heap.size w w':=by
 have h':n=0∨n=6∨(9≤n∧n≤29)∨n=32:=by simpa [fxB] using h
 have hm:n∈([0,6,9,10,11,12,13,14,15,16,17,18,19,20,21,22,23,24,25,26,27,28,29,32]:List Int):=by simp;omega
 obtain ⟨h1,h2,h3,h4,h5,h6,h7⟩:=qa6 n hm;have HS:=fun w=>zhy (zrw n w);have hq:((strOfNums (shT n)).toList==[63])=false:=by rw [Lib.strOfNums_toList];exact h1
 have kT:=fun w=>zhy (zjc (shT n) h2 (by omega) w);have kV:=fun w=>zhy (zjc (shV n) h3 (by omega) w);have bT:Byt (tkL n):=by rw [←h6];intro x hx;obtain ⟨y,_,rfl⟩:=List.mem_map.1 hx;exact zhh y
 have bV:Byt (gvL n):=by rw [←h7];intro x hx;obtain ⟨y,_,rfl⟩:=List.mem_map.1 hx;exact zhh y
 have lT:(tkL n).length=(shT n).length:=by rw [←h6,List.length_map]
 have lV:(gvL n).length=(shV n).length:=by rw [←h7,List.length_map]
 simp only [h6,←lT] at kT;simp only [h7,←lV] at kV;have HBT:=zhy bT;have HBV:=zhy bV;obtain ⟨s,hs⟩:∃s,strOfNums (shT n)=s:=⟨_,rfl⟩;obtain ⟨t,ht⟩:∃t,strOfNums (shV n)=t:=⟨_,rfl⟩;simp only [hs,ht] at HS hq kT kV;clear h1 h2 h3 h4 h5 h6 h7 lT lV hs ht bT bV h' hm h;generalize tkL n=T at *;generalize gvL n=V at *;go_enter Tryz.func128,Tryz.ntmps128;go_wp2_with fail;refine (HS _).o.mono ?_;rintro e w1 ⟨rfl,rfl⟩;go_wp2_with fail;refine (kT _).o.mono ?_;rintro e w2 ⟨A,c,rfl,ho2,hb2⟩;have R2:=zhy (qt ho2 HBT.o);have B2:=zhy hb2;clear ho2 hb2;go_wp2_with fail;refine (kV _).o.mono ?_;rintro e w3 ⟨A',c',rfl,ho3,hb3⟩;have R3:=zhy (qt ho3 HBV.o);have R2':=zhy (R2.o.keep hb3);have B3:=zhy (qc B2.o hb3);clear ho3 hb3 R2;go_wp2_with fail;go_ret3;exact ⟨A,c,A',c',rfl,R2'.o,R3.o,B3.o⟩
def zh2 (w w':World) (T:List Int×Int) (e:Ending):Prop:=∃A' c',e=.returned (.tuple #[.slice A' T.1.length c',.int .i64 T.2])∧Rd w' A' c' T.1∧Below w.heap.size w w'
theorem zh2.own {w w':World} {base n c':Nat} {A':Option Addr} {R:List Int} {k:Int} {T:List Int×Int} (hT:T=(R++[k],0)) (hn:R.length=n) (hby:Byt (R++[k])) (ho:w'.ownsRow base 5 1 (.slice A' (n+1) c') (n+1) (cel (R++[k]))) (hb:Below w.heap.size w w') :
  zh2 w w' T (.returned (.tuple #[.slice A' (n+1) c',.int .i64 0])):=by
 subst hT;exact ⟨A',c',by rw [List.length_append,hn];rfl,qt ho hby,hb⟩
theorem zar {R:List Int} {k:Int} (h:Byt R) (hk:0≤k∧k<256):Byt (R++[k]):=fun x hx=>by
 rw [List.mem_append,List.mem_singleton] at hx;rcases hx with hx | rfl
 ·exact h x hx
 ·exact hk
theorem zai {w:World} {x:Mc} {h:Mh} (hx:Hd w x h):∀k∈zaz h,0≤k∧k<256:=fun k hk=>by
 rw [zaz,List.mem_append] at hk;rcases hk with hk | hk
 ·exact hx.1.byt k hk
 ·exact hx.2.1.byt k hk
theorem zrs:∀(K R:List Int),(zfq R K).1.length≤R.length
 | [],R=>Nat.le_refl _
 | k::K,R=>by
  rw [zfq];split
  ·exact Nat.le_trans (zrs K _) zkp
  ·simp
theorem zki {R K:List Int}:(zba R K).1.length≤R.length:=by
 unfold zba;split
 ·simp
 ·exact zrs _ _
theorem zwc (o:Int):(gvL o).length≤3:=by
 unfold gvL;repeat' split
 all_goals simp
theorem zf0 (G P AA XA XB XD:Option Addr) (gc pc cc xc xd xk xe:Nat) (Z:List Me) (d:Md) (h:Mh) (o:Int) (b:Nat) (z:Int) (A:Option Addr) (c:Nat) (R:List Int) (w:World) (hq:Hq w ⟨G,gc,P,pc,AA,cc,Z⟩ d) (hx:Hd w ⟨XA,xc,XB,xd,XD,xk,xe⟩ h) (hr:Rd w A c R) :
  Sx w (((w.alloc (.cells #[.slice G d.g.length gc,.slice P d.p.length pc,.slice AA d.s.length cc,.int .i64 d.i] 25)).alloc (.cells #[.slice XA h.a.length xc,.slice XB h.l.length xd,.int .u8 h.r,.bool h.q,.int .i64 h.f,.int .i64 h.s,.int .i64 h.h,.slice XD xk xe] 50)).alloc (.cells #[.int .u8 o,.int .i64 (b:Int),.int .i64 z] 57)) [fI (w.heap.size+2) o (b:Int) z,fM (w.heap.size+1) ⟨XA,xc,XB,xd,XD,xk,xe⟩ h,fD w.heap.size ⟨G,gc,P,pc,AA,cc,Z⟩ d,fR A c R,fH ⟨XA,xc,XB,xd,XD,xk,xe⟩ h,fQm ⟨G,gc,P,pc,AA,cc,Z⟩ d]:=by
 have S:=((((((Sx.start w).add (fQm ⟨G,gc,P,pc,AA,cc,Z⟩ d) hq).add (fH ⟨XA,xc,XB,xd,XD,xk,xe⟩ h) hx).add (fR A c R) hr).mkD ⟨G,gc,P,pc,AA,cc,Z⟩ d).mkM ⟨XA,xc,XB,xd,XD,xk,xe⟩ h);rw [qn] at S;have hI:=In.new ((w.alloc (zn ⟨G,gc,P,pc,AA,cc,Z⟩ d)).alloc (zbk ⟨XA,xc,XB,xd,XD,xk,xe⟩ h)) o (b:Int) z;rw [qn,qn] at hI;exact (S.mk1 (.cells #[.int .u8 o,.int .i64 (b:Int),.int .i64 z] 57)).add (fI (w.heap.size+2) o b z) hI
theorem zr1 (G P AA XA XB XD:Option Addr) (gc pc cc xc xd xk xe:Nat) (Z:List Me) (d:Md) (h:Mh) (b:Nat) (z:Int) (A:Option Addr) (c n:Nat) (R:List Int) (w:World) (hq:Hq w ⟨G,gc,P,pc,AA,cc,Z⟩ d) (hx:Hd w ⟨XA,xc,XB,xd,XD,xk,xe⟩ h) (hr:Rd w A c R) (hn:R.length=n) (hnb:n≤900000) (b1:h.a.length≤1000) (b2:h.l.length≤1000) (hth:b<d.p.length) :
  Calls Tryz.prog 74 #[.agg #[.slice G d.g.length gc,.slice P d.p.length pc,.slice AA d.s.length cc,.int .i64 d.i],.agg #[.slice XA h.a.length xc,.slice XB h.l.length xd,.int .u8 h.r,.bool h.q,.int .i64 h.f,.int .i64 h.s,.int .i64 h.h,.slice XD xk xe],.agg #[.int .u8 1,.int .i64 b,.int .i64 z],.slice A n c] w fun e w'=>zh2 w w' (zaj d h (1,(b:Int),z) R) e:=by
 have S0:=zhy (zf0 G P AA XA XB XD gc pc cc xc xd xk xe Z d h 1 b z A c R w hq hx hr);have HN:=zhy hn;have HBY:=zhy hr.byt;have hn9:n≤c:=by have:=hr.le;omega
 have HKB:Hid (∀x∈zaz h,0≤x∧x<256):=zhy (zai hx);have hrb:=hx.2.2.1;clear hq hx hr hn;go_enter Tryz.func74,Tryz.ntmps74;go_upto_region 1 with (fail);generalize ((w.alloc (.cells #[.slice G d.g.length gc,.slice P d.p.length pc,.slice AA d.s.length cc,.int .i64 d.i] 25)).alloc (.cells #[.slice XA h.a.length xc,.slice XB h.l.length xd,.int .u8 h.r,.bool h.q,.int .i64 h.f,.int .i64 h.s,.int .i64 h.h,.slice XD xk xe] 50)).alloc (.cells #[.int .u8 1,.int .i64 b,.int .i64 z] 57)=w3 at S0 ⊢;obtain ⟨B,hB⟩:∃B,w.heap.size=B:=⟨_,rfl⟩;have HBB:=zhy hB;rw [hB] at S0 ⊢;have S0:=zhy S0.o;clear hB;obtain ⟨-,⟨i0,i1,i2,i3,-⟩,⟨m0,m1,m2,m3,m4,m5,m6,m7,m8⟩,⟨d0,d1,d2,d3,d4⟩,-⟩:=S0.o;dsimp only at m1 m2 m8 d1 d2 d3;clear m0 m1 m2 m3 m4 m5 m6 m7 m8;have hbl:b<d.p.length:=hth;obtain ⟨ad,hA,q0,-,-⟩:=S0.o.2.2.2.2.2.2.1.2.1.at_ hbl;have hvk:=(S0.o.2.2.2.2.2.2.1.2.1.1 _ (List.getElem_mem hbl)).1;have hpk:zej d.p b=(d.p[b]'hbl).1:=by simp [zej,hbl]
 dsimp only at hA;subst hA;generalize (d.p[b]'hbl).1=k at q0 hvk hpk;have HE:Hid (zaj d h (1,(b:Int),z) R=(R++[k],0)):=zhy (by simp [zaj,hpk]);clear hpk;go_wp2_with fail;refine (za4 A c n R k w3 S0.o.2.2.2.2.1 HN.o (by omega) hvk).mono ?_;rintro e w4 ⟨A',c',rfl,ho,hb⟩;have HA:=zhy (zh2.own HE.o HN.o (zar HBY.o hvk) ho (qc S0.o.1 hb));clear ho hb;go_wp2_with fail;go_ret2;exact HA.o
theorem zo5 (G P AA XA XB XD:Option Addr) (gc pc cc xc xd xk xe:Nat) (Z:List Me) (d:Md) (h:Mh) (b:Nat) (z:Int) (A:Option Addr) (c n:Nat) (R:List Int) (w:World) (hq:Hq w ⟨G,gc,P,pc,AA,cc,Z⟩ d) (hx:Hd w ⟨XA,xc,XB,xd,XD,xk,xe⟩ h) (hr:Rd w A c R) (hn:R.length=n) (hnb:n≤900000) (b1:h.a.length≤1000) (b2:h.l.length≤1000) (hth:b<d.g.length) :
  Calls Tryz.prog 74 #[.agg #[.slice G d.g.length gc,.slice P d.p.length pc,.slice AA d.s.length cc,.int .i64 d.i],.agg #[.slice XA h.a.length xc,.slice XB h.l.length xd,.int .u8 h.r,.bool h.q,.int .i64 h.f,.int .i64 h.s,.int .i64 h.h,.slice XD xk xe],.agg #[.int .u8 4,.int .i64 b,.int .i64 z],.slice A n c] w fun e w'=>zh2 w w' (zaj d h (4,(b:Int),z) R) e:=by
 have S0:=zhy (zf0 G P AA XA XB XD gc pc cc xc xd xk xe Z d h 4 b z A c R w hq hx hr);have HN:=zhy hn;have HBY:=zhy hr.byt;have hn9:n≤c:=by have:=hr.le;omega
 have HKB:Hid (∀x∈zaz h,0≤x∧x<256):=zhy (zai hx);have hrb:=hx.2.2.1;clear hq hx hr hn;go_enter Tryz.func74,Tryz.ntmps74;go_upto_region 1 with (fail);generalize ((w.alloc (.cells #[.slice G d.g.length gc,.slice P d.p.length pc,.slice AA d.s.length cc,.int .i64 d.i] 25)).alloc (.cells #[.slice XA h.a.length xc,.slice XB h.l.length xd,.int .u8 h.r,.bool h.q,.int .i64 h.f,.int .i64 h.s,.int .i64 h.h,.slice XD xk xe] 50)).alloc (.cells #[.int .u8 4,.int .i64 b,.int .i64 z] 57)=w3 at S0 ⊢;obtain ⟨B,hB⟩:∃B,w.heap.size=B:=⟨_,rfl⟩;have HBB:=zhy hB;rw [hB] at S0 ⊢;have S0:=zhy S0.o;clear hB;obtain ⟨-,⟨i0,i1,i2,i3,-⟩,⟨m0,m1,m2,m3,m4,m5,m6,m7,m8⟩,⟨d0,d1,d2,d3,d4⟩,-⟩:=S0.o;dsimp only at m1 m2 m8 d1 d2 d3;clear m0 m1 m2 m3 m4 m5 m6 m7 m8;have hbl:b<d.g.length:=hth;obtain ⟨ad,hA,q0,-,-⟩:=S0.o.2.2.2.2.2.2.1.1.at_ hbl;have hvk:=(S0.o.2.2.2.2.2.2.1.1.1 _ (List.getElem_mem hbl)).1;have hpk:zej d.g b=(d.g[b]'hbl).1:=by simp [zej,hbl]
 dsimp only at hA;subst hA;generalize (d.g[b]'hbl).1=k at q0 hvk hpk;have HE:Hid (zaj d h (4,(b:Int),z) R=(R++[k],0)):=zhy (by simp [zaj,hpk]);clear hpk;go_wp2_with fail;refine (za4 A c n R k w3 S0.o.2.2.2.2.1 HN.o (by omega) hvk).mono ?_;rintro e w4 ⟨A',c',rfl,ho,hb⟩;have HA:=zhy (zh2.own HE.o HN.o (zar HBY.o hvk) ho (qc S0.o.1 hb));clear ho hb;go_wp2_with fail;go_ret2;exact HA.o
theorem zqr (G P AA XA XB XD:Option Addr) (gc pc cc xc xd xk xe:Nat) (Z:List Me) (d:Md) (h:Mh) (b:Nat) (z:Int) (A:Option Addr) (c n:Nat) (R:List Int) (w:World) (hq:Hq w ⟨G,gc,P,pc,AA,cc,Z⟩ d) (hx:Hd w ⟨XA,xc,XB,xd,XD,xk,xe⟩ h) (hr:Rd w A c R) (hn:R.length=n) (hnb:n≤900000) (b1:h.a.length≤1000) (b2:h.l.length≤1000) (hth:b<d.g.length) :
  Calls Tryz.prog 74 #[.agg #[.slice G d.g.length gc,.slice P d.p.length pc,.slice AA d.s.length cc,.int .i64 d.i],.agg #[.slice XA h.a.length xc,.slice XB h.l.length xd,.int .u8 h.r,.bool h.q,.int .i64 h.f,.int .i64 h.s,.int .i64 h.h,.slice XD xk xe],.agg #[.int .u8 5,.int .i64 b,.int .i64 z],.slice A n c] w fun e w'=>zh2 w w' (zaj d h (5,(b:Int),z) R) e:=by
 have S0:=zhy (zf0 G P AA XA XB XD gc pc cc xc xd xk xe Z d h 5 b z A c R w hq hx hr);have HN:=zhy hn;have HBY:=zhy hr.byt;have hn9:n≤c:=by have:=hr.le;omega
 have HKB:Hid (∀x∈zaz h,0≤x∧x<256):=zhy (zai hx);have hrb:=hx.2.2.1;clear hq hx hr hn;go_enter Tryz.func74,Tryz.ntmps74;go_upto_region 1 with (fail);generalize ((w.alloc (.cells #[.slice G d.g.length gc,.slice P d.p.length pc,.slice AA d.s.length cc,.int .i64 d.i] 25)).alloc (.cells #[.slice XA h.a.length xc,.slice XB h.l.length xd,.int .u8 h.r,.bool h.q,.int .i64 h.f,.int .i64 h.s,.int .i64 h.h,.slice XD xk xe] 50)).alloc (.cells #[.int .u8 5,.int .i64 b,.int .i64 z] 57)=w3 at S0 ⊢;obtain ⟨B,hB⟩:∃B,w.heap.size=B:=⟨_,rfl⟩;have HBB:=zhy hB;rw [hB] at S0 ⊢;have S0:=zhy S0.o;clear hB;obtain ⟨-,⟨i0,i1,i2,i3,-⟩,⟨m0,m1,m2,m3,m4,m5,m6,m7,m8⟩,⟨d0,d1,d2,d3,d4⟩,-⟩:=S0.o;dsimp only at m1 m2 m8 d1 d2 d3;clear m0 m1 m2 m3 m4 m5 m6 m7 m8;have hbl:b<d.g.length:=hth;obtain ⟨ad,hA,q0,-,-⟩:=S0.o.2.2.2.2.2.2.1.1.at_ hbl;have hvk:=(S0.o.2.2.2.2.2.2.1.1.1 _ (List.getElem_mem hbl)).1;have hpk:zej d.g b=(d.g[b]'hbl).1:=by simp [zej,hbl]
 dsimp only at hA;subst hA;generalize (d.g[b]'hbl).1=k at q0 hvk hpk;have HE:Hid (zaj d h (5,(b:Int),z) R=zbq R k):=zhy (by simp [zaj,hpk]);clear hpk;obtain ⟨T,hT⟩:∃T,zbq R k=T:=⟨_,rfl⟩;have HE2:=zhy (HE.o.trans hT);have HTK:=zhy (zc7 A c n R k w3 S0.o.2.2.2.2.1 HN.o);rw [hT] at HTK;clear hT;go_wp2_with fail;refine HTK.o.mono ?_;rintro e w4 ⟨A',c',rfl,hr4,rfl⟩;have HA:=zhy hr4;clear hr4 HTK;go_wp2_with fail;go_ret2;exact ⟨A',c',by rw [HE2.o];rfl,by rw [HE2.o];exact HA.o,S0.o.1⟩
theorem zrm (G P AA XA XB XD:Option Addr) (gc pc cc xc xd xk xe:Nat) (Z:List Me) (d:Md) (h:Mh) (b:Nat) (z:Int) (A:Option Addr) (c n:Nat) (R:List Int) (w:World) (hq:Hq w ⟨G,gc,P,pc,AA,cc,Z⟩ d) (hx:Hd w ⟨XA,xc,XB,xd,XD,xk,xe⟩ h) (hr:Rd w A c R) (hn:R.length=n) (hnb:n≤900000) (b1:h.a.length≤1000) (b2:h.l.length≤1000) (hth:b<h.a.length+h.l.length) :
  Calls Tryz.prog 74 #[.agg #[.slice G d.g.length gc,.slice P d.p.length pc,.slice AA d.s.length cc,.int .i64 d.i],.agg #[.slice XA h.a.length xc,.slice XB h.l.length xd,.int .u8 h.r,.bool h.q,.int .i64 h.f,.int .i64 h.s,.int .i64 h.h,.slice XD xk xe],.agg #[.int .u8 2,.int .i64 b,.int .i64 z],.slice A n c] w fun e w'=>zh2 w w' (zaj d h (2,(b:Int),z) R) e:=by
 have S0:=zhy (zf0 G P AA XA XB XD gc pc cc xc xd xk xe Z d h 2 b z A c R w hq hx hr);have HN:=zhy hn;have HBY:=zhy hr.byt;have hn9:n≤c:=by have:=hr.le;omega
 have HKB:Hid (∀x∈zaz h,0≤x∧x<256):=zhy (zai hx);have hrb:=hx.2.2.1;clear hq hx hr hn;go_enter Tryz.func74,Tryz.ntmps74;go_upto_region 1 with (fail);generalize ((w.alloc (.cells #[.slice G d.g.length gc,.slice P d.p.length pc,.slice AA d.s.length cc,.int .i64 d.i] 25)).alloc (.cells #[.slice XA h.a.length xc,.slice XB h.l.length xd,.int .u8 h.r,.bool h.q,.int .i64 h.f,.int .i64 h.s,.int .i64 h.h,.slice XD xk xe] 50)).alloc (.cells #[.int .u8 2,.int .i64 b,.int .i64 z] 57)=w3 at S0 ⊢;obtain ⟨B,hB⟩:∃B,w.heap.size=B:=⟨_,rfl⟩;have HBB:=zhy hB;rw [hB] at S0 ⊢;have S0:=zhy S0.o;clear hB;obtain ⟨-,⟨i0,i1,i2,i3,-⟩,⟨m0,m1,m2,m3,m4,m5,m6,m7,m8⟩,⟨d0,d1,d2,d3,d4⟩,-⟩:=S0.o;dsimp only at m1 m2 m8 d1 d2 d3
 have HKI:Hid (0≤(zaz h)[b]?.getD 0∧(zaz h)[b]?.getD 0<256):=zhy (by
  rw [zg7 (by simp [zaz];omega)];exact HKB.o _ (List.getElem_mem _))
 have HLO:=zhy (ziu ⟨XA,xc,XB,xd,XD,xk,xe⟩ h b w3 S0.o.2.2.2.2.2.1 b1 b2 hth);obtain ⟨k,hk⟩:∃k,(zaz h)[b]?.getD 0=k:=⟨_,rfl⟩;rw [hk] at HLO HKI;have HE:Hid (zaj d h (2,(b:Int),z) R=(R++[k],0)):=zhy (by simp [zaj,hk]);clear hk;go_wp2_with fail;refine HLO.o.mono ?_;rintro e w5 ⟨rfl,hb5⟩;have HB5:=zhy (qc S0.o.1 hb5);have HR5:=zhy (S0.o.2.2.2.2.1.keep hb5);clear hb5 HLO i0 i1 i2 i3 m0 m1 m2 m3 m4 m5 m6 m7 m8 d0 d1 d2 d3 d4;go_wp2_with fail;refine (za4 A c n R k w5 HR5.o HN.o (by omega) HKI.o).mono ?_;rintro e w4 ⟨A',c',rfl,ho,hb⟩;have HA:=zhy (zh2.own HE.o HN.o (zar HBY.o HKI.o) ho (qc HB5.o hb));clear ho hb;go_wp2_with fail;go_ret2;exact HA.o
theorem zqi (G P AA XA XB XD:Option Addr) (gc pc cc xc xd xk xe:Nat) (Z:List Me) (d:Md) (h:Mh) (b:Nat) (z:Int) (A:Option Addr) (c n:Nat) (R:List Int) (w:World) (hq:Hq w ⟨G,gc,P,pc,AA,cc,Z⟩ d) (hx:Hd w ⟨XA,xc,XB,xd,XD,xk,xe⟩ h) (hr:Rd w A c R) (hn:R.length=n) (hnb:n≤900000) (b1:h.a.length≤1000) (b2:h.l.length≤1000) (hth:b<h.a.length+h.l.length) :
  Calls Tryz.prog 74 #[.agg #[.slice G d.g.length gc,.slice P d.p.length pc,.slice AA d.s.length cc,.int .i64 d.i],.agg #[.slice XA h.a.length xc,.slice XB h.l.length xd,.int .u8 h.r,.bool h.q,.int .i64 h.f,.int .i64 h.s,.int .i64 h.h,.slice XD xk xe],.agg #[.int .u8 3,.int .i64 b,.int .i64 z],.slice A n c] w fun e w'=>zh2 w w' (zaj d h (3,(b:Int),z) R) e:=by
 have S0:=zhy (zf0 G P AA XA XB XD gc pc cc xc xd xk xe Z d h 3 b z A c R w hq hx hr);have HN:=zhy hn;have HBY:=zhy hr.byt;have hn9:n≤c:=by have:=hr.le;omega
 have HKB:Hid (∀x∈zaz h,0≤x∧x<256):=zhy (zai hx);have hrb:=hx.2.2.1;clear hq hx hr hn;go_enter Tryz.func74,Tryz.ntmps74;go_upto_region 1 with (fail);generalize ((w.alloc (.cells #[.slice G d.g.length gc,.slice P d.p.length pc,.slice AA d.s.length cc,.int .i64 d.i] 25)).alloc (.cells #[.slice XA h.a.length xc,.slice XB h.l.length xd,.int .u8 h.r,.bool h.q,.int .i64 h.f,.int .i64 h.s,.int .i64 h.h,.slice XD xk xe] 50)).alloc (.cells #[.int .u8 3,.int .i64 b,.int .i64 z] 57)=w3 at S0 ⊢;obtain ⟨B,hB⟩:∃B,w.heap.size=B:=⟨_,rfl⟩;have HBB:=zhy hB;rw [hB] at S0 ⊢;have S0:=zhy S0.o;clear hB;obtain ⟨-,⟨i0,i1,i2,i3,-⟩,⟨m0,m1,m2,m3,m4,m5,m6,m7,m8⟩,⟨d0,d1,d2,d3,d4⟩,-⟩:=S0.o;dsimp only at m1 m2 m8 d1 d2 d3
 have HKI:Hid (0≤(zaz h)[b]?.getD 0∧(zaz h)[b]?.getD 0<256):=zhy (by
  rw [zg7 (by simp [zaz];omega)];exact HKB.o _ (List.getElem_mem _))
 have HLO:=zhy (ziu ⟨XA,xc,XB,xd,XD,xk,xe⟩ h b w3 S0.o.2.2.2.2.2.1 b1 b2 hth);obtain ⟨k,hk⟩:∃k,(zaz h)[b]?.getD 0=k:=⟨_,rfl⟩;rw [hk] at HLO HKI;have HE:Hid (zaj d h (3,(b:Int),z) R=zbq R k):=zhy (by simp [zaj,hk]);clear hk;go_wp2_with fail;refine HLO.o.mono ?_;rintro e w5 ⟨rfl,hb5⟩;have HB5:=zhy (qc S0.o.1 hb5);have HR5:=zhy (S0.o.2.2.2.2.1.keep hb5);clear hb5 HLO i0 i1 i2 i3 m0 m1 m2 m3 m4 m5 m6 m7 m8 d0 d1 d2 d3 d4;obtain ⟨T,hT⟩:∃T,zbq R k=T:=⟨_,rfl⟩;have HE2:=zhy (HE.o.trans hT);have HTK:=zhy (zc7 A c n R k w5 HR5.o HN.o);rw [hT] at HTK;clear hT;go_wp2_with fail;refine HTK.o.mono ?_;rintro e w4 ⟨A',c',rfl,hr4,rfl⟩;have HA:=zhy hr4;clear hr4 HTK;go_wp2_with fail;go_ret2;exact ⟨A',c',by rw [HE2.o];rfl,by rw [HE2.o];exact HA.o,HB5.o⟩
theorem zoa (G P AA XA XB XD:Option Addr) (gc pc cc xc xd xk xe:Nat) (Z:List Me) (d:Md) (h:Mh) (b:Nat) (z:Int) (A:Option Addr) (c n:Nat) (R:List Int) (w:World) (hq:Hq w ⟨G,gc,P,pc,AA,cc,Z⟩ d) (hx:Hd w ⟨XA,xc,XB,xd,XD,xk,xe⟩ h) (hr:Rd w A c R) (hn:R.length=n) (hnb:n≤900000) (b1:h.a.length≤1000) (b2:h.l.length≤1000) :
  Calls Tryz.prog 74 #[.agg #[.slice G d.g.length gc,.slice P d.p.length pc,.slice AA d.s.length cc,.int .i64 d.i],.agg #[.slice XA h.a.length xc,.slice XB h.l.length xd,.int .u8 h.r,.bool h.q,.int .i64 h.f,.int .i64 h.s,.int .i64 h.h,.slice XD xk xe],.agg #[.int .u8 31,.int .i64 b,.int .i64 z],.slice A n c] w fun e w'=>zh2 w w' (zaj d h (31,(b:Int),z) R) e:=by
 have S0:=zhy (zf0 G P AA XA XB XD gc pc cc xc xd xk xe Z d h 31 b z A c R w hq hx hr);have HN:=zhy hn;have HBY:=zhy hr.byt;have hn9:n≤c:=by have:=hr.le;omega
 have HKB:Hid (∀x∈zaz h,0≤x∧x<256):=zhy (zai hx);have hrb:=hx.2.2.1;clear hq hx hr hn;go_enter Tryz.func74,Tryz.ntmps74;go_upto_region 1 with (fail);generalize ((w.alloc (.cells #[.slice G d.g.length gc,.slice P d.p.length pc,.slice AA d.s.length cc,.int .i64 d.i] 25)).alloc (.cells #[.slice XA h.a.length xc,.slice XB h.l.length xd,.int .u8 h.r,.bool h.q,.int .i64 h.f,.int .i64 h.s,.int .i64 h.h,.slice XD xk xe] 50)).alloc (.cells #[.int .u8 31,.int .i64 b,.int .i64 z] 57)=w3 at S0 ⊢;obtain ⟨B,hB⟩:∃B,w.heap.size=B:=⟨_,rfl⟩;have HBB:=zhy hB;rw [hB] at S0 ⊢;have S0:=zhy S0.o;clear hB;obtain ⟨-,⟨i0,i1,i2,i3,-⟩,⟨m0,m1,m2,m3,m4,m5,m6,m7,m8⟩,⟨d0,d1,d2,d3,d4⟩,-⟩:=S0.o;dsimp only at m1 m2 m8 d1 d2 d3;have HE:Hid (zaj d h (31,(b:Int),z) R=zbq R h.r):=zhy (by simp [zaj]);obtain ⟨T,hT⟩:∃T,zbq R h.r=T:=⟨_,rfl⟩;have HE2:=zhy (HE.o.trans hT);have HTK:=zhy (zc7 A c n R h.r w3 S0.o.2.2.2.2.1 HN.o);rw [hT] at HTK;clear hT;go_wp2_with fail;refine HTK.o.mono ?_;rintro e w4 ⟨A',c',rfl,hr4,rfl⟩;have HA:=zhy hr4;clear hr4 HTK;go_wp2_with fail;go_ret2;exact ⟨A',c',by rw [HE2.o];rfl,by rw [HE2.o];exact HA.o,S0.o.1⟩
theorem zp9 (G P AA XA XB XD:Option Addr) (gc pc cc xc xd xk xe:Nat) (Z:List Me) (d:Md) (h:Mh) (b:Nat) (z:Int) (A:Option Addr) (c n:Nat) (R:List Int) (w:World) (hq:Hq w ⟨G,gc,P,pc,AA,cc,Z⟩ d) (hx:Hd w ⟨XA,xc,XB,xd,XD,xk,xe⟩ h) (hr:Rd w A c R) (hn:R.length=n) (hnb:n≤900000) (b1:h.a.length≤1000) (b2:h.l.length≤1000) :
  Calls Tryz.prog 74 #[.agg #[.slice G d.g.length gc,.slice P d.p.length pc,.slice AA d.s.length cc,.int .i64 d.i],.agg #[.slice XA h.a.length xc,.slice XB h.l.length xd,.int .u8 h.r,.bool h.q,.int .i64 h.f,.int .i64 h.s,.int .i64 h.h,.slice XD xk xe],.agg #[.int .u8 7,.int .i64 b,.int .i64 z],.slice A n c] w fun e w'=>zh2 w w' (zaj d h (7,(b:Int),z) R) e:=by
 have S0:=zhy (zf0 G P AA XA XB XD gc pc cc xc xd xk xe Z d h 7 b z A c R w hq hx hr);have HN:=zhy hn;have HBY:=zhy hr.byt;have hn9:n≤c:=by have:=hr.le;omega
 have HKB:Hid (∀x∈zaz h,0≤x∧x<256):=zhy (zai hx);have hrb:=hx.2.2.1;clear hq hx hr hn;go_enter Tryz.func74,Tryz.ntmps74;go_upto_region 1 with (fail);generalize ((w.alloc (.cells #[.slice G d.g.length gc,.slice P d.p.length pc,.slice AA d.s.length cc,.int .i64 d.i] 25)).alloc (.cells #[.slice XA h.a.length xc,.slice XB h.l.length xd,.int .u8 h.r,.bool h.q,.int .i64 h.f,.int .i64 h.s,.int .i64 h.h,.slice XD xk xe] 50)).alloc (.cells #[.int .u8 7,.int .i64 b,.int .i64 z] 57)=w3 at S0 ⊢;obtain ⟨B,hB⟩:∃B,w.heap.size=B:=⟨_,rfl⟩;have HBB:=zhy hB;rw [hB] at S0 ⊢;have S0:=zhy S0.o;clear hB;obtain ⟨-,⟨i0,i1,i2,i3,-⟩,⟨m0,m1,m2,m3,m4,m5,m6,m7,m8⟩,⟨d0,d1,d2,d3,d4⟩,-⟩:=S0.o;dsimp only at m1 m2 m8 d1 d2 d3;clear m0 m1 m2 m3 m4 m5 m6 m7 m8;by_cases hlt:n<1
 ·have HE:Hid (zaj d h (7,(b:Int),z) R=([],101)):=zhy (by simp [zaj,HN.o,hlt]);go_wp2_with fail;go_ret2;exact ⟨none,0,by rw [HE.o];rfl,by rw [HE.o];exact Rd.none_ _,S0.o.1⟩
 ·skip;obtain ⟨j,hj⟩:∃j:Nat,(n:Int)-1=j:=⟨n-1,by omega⟩;have hjn:j<n:=by omega
  obtain ⟨ad,hA,q0⟩:=S0.o.2.2.2.2.1.at_ (i:=j) (by rw [HN.o];omega);subst hA;have q0b:=S0.o.2.2.2.2.1.byte j;obtain ⟨k,hk⟩:∃x,R[j]?.getD 0=x:=⟨_,rfl⟩;rw [hk] at q0 q0b
  have HE:Hid (zaj d h (7,(b:Int),z) R=(R++[k],0)):=zhy (by
   have e:R.length-1=j:=by have:=HN.o;omega
   simp only [zaj];rw [e,hk,HN.o];simp;omega)
  clear hk;go_wp2_with fail;refine (za4 (some ad) c n R k w3 S0.o.2.2.2.2.1 HN.o (by omega) q0b).mono ?_;rintro e w4 ⟨A',c',rfl,ho,hb⟩;have HA:=zhy (zh2.own HE.o HN.o (zar HBY.o q0b) ho (qc S0.o.1 hb));clear ho hb;go_wp2_with fail;go_ret2;exact HA.o
theorem zqw (G P AA XA XB XD:Option Addr) (gc pc cc xc xd xk xe:Nat) (Z:List Me) (d:Md) (h:Mh) (b:Nat) (z:Int) (A:Option Addr) (c n:Nat) (R:List Int) (w:World) (hq:Hq w ⟨G,gc,P,pc,AA,cc,Z⟩ d) (hx:Hd w ⟨XA,xc,XB,xd,XD,xk,xe⟩ h) (hr:Rd w A c R) (hn:R.length=n) (hnb:n≤900000) (b1:h.a.length≤1000) (b2:h.l.length≤1000) :
  Calls Tryz.prog 74 #[.agg #[.slice G d.g.length gc,.slice P d.p.length pc,.slice AA d.s.length cc,.int .i64 d.i],.agg #[.slice XA h.a.length xc,.slice XB h.l.length xd,.int .u8 h.r,.bool h.q,.int .i64 h.f,.int .i64 h.s,.int .i64 h.h,.slice XD xk xe],.agg #[.int .u8 8,.int .i64 b,.int .i64 z],.slice A n c] w fun e w'=>zh2 w w' (zaj d h (8,(b:Int),z) R) e:=by
 have S0:=zhy (zf0 G P AA XA XB XD gc pc cc xc xd xk xe Z d h 8 b z A c R w hq hx hr);have HN:=zhy hn;have HBY:=zhy hr.byt;have hn9:n≤c:=by have:=hr.le;omega
 have HKB:Hid (∀x∈zaz h,0≤x∧x<256):=zhy (zai hx);have hrb:=hx.2.2.1;clear hq hx hr hn;go_enter Tryz.func74,Tryz.ntmps74;go_upto_region 1 with (fail);generalize ((w.alloc (.cells #[.slice G d.g.length gc,.slice P d.p.length pc,.slice AA d.s.length cc,.int .i64 d.i] 25)).alloc (.cells #[.slice XA h.a.length xc,.slice XB h.l.length xd,.int .u8 h.r,.bool h.q,.int .i64 h.f,.int .i64 h.s,.int .i64 h.h,.slice XD xk xe] 50)).alloc (.cells #[.int .u8 8,.int .i64 b,.int .i64 z] 57)=w3 at S0 ⊢;obtain ⟨B,hB⟩:∃B,w.heap.size=B:=⟨_,rfl⟩;have HBB:=zhy hB;rw [hB] at S0 ⊢;have S0:=zhy S0.o;clear hB;obtain ⟨-,⟨i0,i1,i2,i3,-⟩,⟨m0,m1,m2,m3,m4,m5,m6,m7,m8⟩,⟨d0,d1,d2,d3,d4⟩,-⟩:=S0.o;dsimp only at m1 m2 m8 d1 d2 d3;clear m0 m1 m2 m3 m4 m5 m6 m7 m8;by_cases hlt:n<2
 ·have HE:Hid (zaj d h (8,(b:Int),z) R=([],101)):=zhy (by simp [zaj,HN.o,hlt]);go_wp2_with fail;go_ret2;exact ⟨none,0,by rw [HE.o];rfl,by rw [HE.o];exact Rd.none_ _,S0.o.1⟩
 ·skip;obtain ⟨j1,hj1⟩:∃j:Nat,(n:Int)-1=j:=⟨n-1,by omega⟩;have hj1n:j1<n:=by omega
  obtain ⟨ad,hA,q1⟩:=S0.o.2.2.2.2.1.at_ (i:=j1) (by rw [HN.o];omega);subst hA;have q1b:=S0.o.2.2.2.2.1.byte j1;obtain ⟨k1,hk1⟩:∃x,R[j1]?.getD 0=x:=⟨_,rfl⟩;rw [hk1] at q1 q1b;obtain ⟨j2,hj2⟩:∃j:Nat,(n:Int)-2=j:=⟨n-2,by omega⟩;have hj2n:j2<n:=by omega
  obtain ⟨ad,hA,q2⟩:=S0.o.2.2.2.2.1.at_ (i:=j2) (by rw [HN.o];omega);injection hA with hA;subst hA;have q2b:=S0.o.2.2.2.2.1.byte j2;obtain ⟨k2,hk2⟩:∃x,R[j2]?.getD 0=x:=⟨_,rfl⟩;rw [hk2] at q2 q2b
  have HE:Hid (zaj d h (8,(b:Int),z) R=((R.take j2++[k1])++[k2],0)):=zhy (by
   have e1:R.length-1=j1:=by have:=HN.o;omega
   have e2:R.length-2=j2:=by have:=HN.o;omega
   simp only [zaj];rw [e1,e2,hk1,hk2,HN.o];simp;omega)
  have HRT:=zhy (S0.o.2.2.2.2.1.pre10 j2);have HTL:Hid ((R.take j2).length=j2):=zhy (by rw [List.length_take,HN.o];omega);have hj2c:j2≤c:=by omega
  have hw1:IntKind.i64.wrap (j1:Int)=(j1:Int):=by
   simp [IntKind.wrap,IntKind.signed,IntKind.bits,go_sem];omega
  have hw2:IntKind.i64.wrap (j2:Int)=(j2:Int):=by
   simp [IntKind.wrap,IntKind.signed,IntKind.bits,go_sem];omega
  clear hk1 hk2;have SR:Hid (Below w3.heap.size w3 w3.drew∧w3.drew.cell? (ad.add j1)=some (.int .u8 k1)∧w3.drew.cell? (ad.add j2)=some (.int .u8 k2)):=zhy ⟨qf (Below.refl _ _) 1,q1,q2⟩;go_upto_region 20 with (fail);refine wp_region_held_drew (S:=fun w'=>Hid (Below w3.heap.size w3 w'∧w'.cell? (ad.add j1)=some (.int .u8 k1)∧w'.cell? (ad.add j2)=some (.int .u8 k2))) (by kernel_rfl) (SR) (fun hHeld=>?_);refine zq 0 (h:=?_);refine zq 1 (h:=?_);refine zq 2 (h:=?_);refine zq 3 (h:=?_);refine zq 4 (h:=?_);refine zq 5 (h:=?_);refine zq 6 (h:=?_);refine zq 7 (h:=?_);refine zq 8 (hy:=fun w hSw=>by (try dsimp only at hSw);obtain ⟨-,s0,s1⟩:=hSw.o;go_simp;try with_reducible rfl) (h:=?_);refine zq 10 (h:=?_);refine zq 11 (h:=?_);refine zq 12 (h:=?_);refine zq 13 (h:=?_);refine zq 14 (hy:=fun w hSw=>by (try dsimp only at hSw);obtain ⟨-,s0,s1⟩:=hSw.o;go_simp;try with_reducible rfl) (h:=?_);refine wpAnyH_ready (rs:=[9]) (by kernel_rfl) (by simp) ?_;refine AllReadyH.cons rfl (fun K hK=>?_) AllReadyH.nil;go_simp;refine (za4 (some ad) c j2 (R.take j2) k1 _ (HRT.o.keep hHeld.o.1) HTL.o (by omega) q1b).mono ?_;rintro e w4 ⟨A4,c4,rfl,ho4,hb⟩;have HR4:=zhy (qt ho4 (zar (fun x hx=>HBY.o x (List.mem_of_mem_take hx)) q1b));clear ho4;go_wp2_with fail;refine hK.out _ _ (zhy ⟨qc hHeld.o.1 hb,(hb.cell (qi hHeld.o.2.1)).trans hHeld.o.2.1,(hb.cell (qi hHeld.o.2.2)).trans hHeld.o.2.2⟩) (fun hHeld=>?_);clear hK K;(try simp only [Act.put,zg1,zg2,zg3,zg4,zg5,zg6]);refine wpAnyH_ready (rs:=[15]) (by kernel_rfl) (by simp) ?_;refine AllReadyH.cons rfl (fun K hK=>?_) AllReadyH.nil;go_simp;refine (za4 A4 c4 (j2+1) (R.take j2++[k1]) k2 _ HR4.o (by rw [List.length_append,HTL.o];rfl) (by omega) q2b).mono ?_;rintro e w5 ⟨A5,c5,rfl,ho5,hb⟩;have HO5:=zhy ho5;clear ho5;go_wp2_with fail;refine hK.out _ _ (zhy ⟨qc hHeld.o.1 hb,(hb.cell (qi hHeld.o.2.1)).trans hHeld.o.2.1,(hb.cell (qi hHeld.o.2.2)).trans hHeld.o.2.2⟩) (fun hHeld=>?_);clear hK K;(try simp only [Act.put,zg1,zg2,zg3,zg4,zg5,zg6]);refine zq 16 (h:=?_);refine zq 17 (h:=?_);refine wpAnyH_done (by kernel_rfl) ?_ _;have HBE:=zhy (qc S0.o.1 hHeld.o.1);clear hHeld;have HA:=zhy (zh2.own HE.o (by rw [List.length_append,HTL.o];rfl) (zar (zar (fun x hx=>HBY.o x (List.mem_of_mem_take hx)) q1b) q2b) HO5.o HBE.o);go_wp2_with fail;go_ret2;exact HA.o
theorem znn (G P AA XA XB XD:Option Addr) (gc pc cc xc xd xk xe:Nat) (Z:List Me) (d:Md) (h:Mh) (b:Nat) (z:Int) (A:Option Addr) (c n:Nat) (R:List Int) (w:World) (hq:Hq w ⟨G,gc,P,pc,AA,cc,Z⟩ d) (hx:Hd w ⟨XA,xc,XB,xd,XD,xk,xe⟩ h) (hr:Rd w A c R) (hn:R.length=n) (hnb:n≤900000) (b1:h.a.length≤1000) (b2:h.l.length≤1000) (hth:b<d.s.length) :
  Calls Tryz.prog 74 #[.agg #[.slice G d.g.length gc,.slice P d.p.length pc,.slice AA d.s.length cc,.int .i64 d.i],.agg #[.slice XA h.a.length xc,.slice XB h.l.length xd,.int .u8 h.r,.bool h.q,.int .i64 h.f,.int .i64 h.s,.int .i64 h.h,.slice XD xk xe],.agg #[.int .u8 30,.int .i64 b,.int .i64 z],.slice A n c] w fun e w'=>zh2 w w' (zaj d h (30,(b:Int),z) R) e:=by
 have S0:=zhy (zf0 G P AA XA XB XD gc pc cc xc xd xk xe Z d h 30 b z A c R w hq hx hr);have HN:=zhy hn;have HBY:=zhy hr.byt;have hn9:n≤c:=by have:=hr.le;omega
 have HKB:Hid (∀x∈zaz h,0≤x∧x<256):=zhy (zai hx);have hrb:=hx.2.2.1;clear hq hx hr hn;go_enter Tryz.func74,Tryz.ntmps74;go_upto_region 1 with (fail);generalize ((w.alloc (.cells #[.slice G d.g.length gc,.slice P d.p.length pc,.slice AA d.s.length cc,.int .i64 d.i] 25)).alloc (.cells #[.slice XA h.a.length xc,.slice XB h.l.length xd,.int .u8 h.r,.bool h.q,.int .i64 h.f,.int .i64 h.s,.int .i64 h.h,.slice XD xk xe] 50)).alloc (.cells #[.int .u8 30,.int .i64 b,.int .i64 z] 57)=w3 at S0 ⊢;obtain ⟨B,hB⟩:∃B,w.heap.size=B:=⟨_,rfl⟩;have HBB:=zhy hB;rw [hB] at S0 ⊢;have S0:=zhy S0.o;clear hB;obtain ⟨-,⟨i0,i1,i2,i3,-⟩,⟨m0,m1,m2,m3,m4,m5,m6,m7,m8⟩,⟨d0,d1,d2,d3,d4⟩,-⟩:=S0.o;dsimp only at m1 m2 m8 d1 d2 d3;clear m0 m1 m2 m3 m4 m5 m6 m7 m8;have hzl:=S0.o.2.2.2.2.2.2.1.zlen;dsimp only at hzl;obtain ⟨ad,hA,hat,hok⟩:=S0.o.2.2.2.2.2.2.1.2.2.1.at_ (i:=b) (by rw [hzl];exact hth);have hme:=S0.o.2.2.2.2.2.2.1.zat (i:=b) (by rw [hzl];exact hth) hth;dsimp only at hA hat hok hme;obtain ⟨zz,hzz⟩:∃zz,Z[b]'(by rw [hzl];exact hth)=zz:=⟨_,rfl⟩;rw [hzz] at hat hok hme;obtain ⟨⟨mA,mc,mB,md,mD,mk,mE⟩,mm,kk⟩:=zz;subst hA;have hm10:ji d b=mm:=by simp [ji,hth,hme]
 obtain ⟨g0,-,g2,-⟩:=hat;dsimp only at g0 g2;have hmr:=hok.1.2.2.1;have hma:=hok.1.1;dsimp only at hmr hma;obtain ⟨K,hK⟩:∃K,mm.a=K:=⟨_,rfl⟩;obtain ⟨r,hr9⟩:∃r,mm.r=r:=⟨_,rfl⟩;rw [hK] at g0 hma;rw [hr9] at g2 hmr;obtain ⟨R1,e1,ht⟩:∃R1 e1,zba R K=(R1,e1):=⟨_,_,rfl⟩;have HT:=zhy ht;have HME:Hid (zaj d h (30,(b:Int),z) R=if e1=0 then (R1++[r],0) else ([],e1)):=zhy (by simp [zaj,hm10,hK,hr9,ht])
 have hb1:R1.length≤n:=by
  have h:=zki (R:=R) (K:=K);rw [ht,HN.o] at h;exact h
 have HTK:=zhy (zi9 A mA c n mc K.length R K w3 S0.o.2.2.2.2.1 HN.o hma rfl);rw [ht] at HTK;dsimp only at HTK;have HKN:Hid True:=trivial;have HGX:Hid (∀w',w3=w'→w'.cell? ⟨(ad.add (b*8)).block,(ad.add (b*8)).off+2,none⟩=some (.int .u8 r)):=zhy fun w' e=>by rw [←e];exact g2
 clear hzz hme hm10 hK hr9 ht hok hma hzl;go_wp2_with fail;refine HTK.o.mono ?_;rintro e w4 ⟨A',c',rfl,hr4,rfl⟩;have HR4:=zhy hr4;clear hr4 HTK;by_cases he:e1=0
 ·subst he;have HE:Hid (zaj d h (30,(b:Int),z) R=(R1++[r],0)):=zhy (by rw [HME.o,if_pos rfl]);obtain ⟨n1,hn1⟩:∃n1,R1.length=n1:=⟨_,rfl⟩;rw [hn1] at hb1 ⊢;have HN1:=zhy hn1;clear hn1;go_wp2_with fail;refine (za4 A' c' n1 R1 r w3 HR4.o HN1.o (by omega) hmr).mono ?_;rintro e w5 ⟨A5,c5,rfl,ho,hb⟩;have HA:=zhy (zh2.own HE.o HN1.o (zar HR4.o.byt hmr) ho (qc S0.o.1 hb));clear ho hb;go_wp2_with fail;go_ret2;exact HA.o
 ·have he2:(e1 != 0)=true:=by simpa using he
  have HE:Hid (zaj d h (30,(b:Int),z) R=([],e1)):=zhy (by rw [HME.o,if_neg he]);go_wp2_with fail;go_ret2;exact ⟨none,0,by rw [HE.o];rfl,by rw [HE.o];exact Rd.none_ _,S0.o.1⟩
theorem zpt (G P AA XA XB XD:Option Addr) (gc pc cc xc xd xk xe:Nat) (Z:List Me) (d:Md) (h:Mh) (o:Int) (b:Nat) (z:Int) (A:Option Addr) (c n:Nat) (R:List Int) (w:World) (hq:Hq w ⟨G,gc,P,pc,AA,cc,Z⟩ d) (hx:Hd w ⟨XA,xc,XB,xd,XD,xk,xe⟩ h) (hr:Rd w A c R) (hn:R.length=n) (hnb:n≤900000) (b1:h.a.length≤1000) (b2:h.l.length≤1000) (hf:fxB o=true) (n1:o≠1) (n2:o≠2) (n3:o≠3) (n4:o≠4) (n5:o≠5) (n7:o≠7) (n8:o≠8) (n30:o≠30) (n31:o≠31) :
  Calls Tryz.prog 74 #[.agg #[.slice G d.g.length gc,.slice P d.p.length pc,.slice AA d.s.length cc,.int .i64 d.i],.agg #[.slice XA h.a.length xc,.slice XB h.l.length xd,.int .u8 h.r,.bool h.q,.int .i64 h.f,.int .i64 h.s,.int .i64 h.h,.slice XD xk xe],.agg #[.int .u8 o,.int .i64 b,.int .i64 z],.slice A n c] w fun e w'=>zh2 w w' (zaj d h (o,(b:Int),z) R) e:=by
 have S0:=zhy (zf0 G P AA XA XB XD gc pc cc xc xd xk xe Z d h o b z A c R w hq hx hr);have HN:=zhy hn;have HBY:=zhy hr.byt;have hn9:n≤c:=by have:=hr.le;omega
 have HKB:Hid (∀x∈zaz h,0≤x∧x<256):=zhy (zai hx);have hrb:=hx.2.2.1;clear hq hx hr hn;go_enter Tryz.func74,Tryz.ntmps74;go_upto_region 1 with (fail);generalize ((w.alloc (.cells #[.slice G d.g.length gc,.slice P d.p.length pc,.slice AA d.s.length cc,.int .i64 d.i] 25)).alloc (.cells #[.slice XA h.a.length xc,.slice XB h.l.length xd,.int .u8 h.r,.bool h.q,.int .i64 h.f,.int .i64 h.s,.int .i64 h.h,.slice XD xk xe] 50)).alloc (.cells #[.int .u8 o,.int .i64 b,.int .i64 z] 57)=w3 at S0 ⊢;obtain ⟨B,hB⟩:∃B,w.heap.size=B:=⟨_,rfl⟩;have HBB:=zhy hB;rw [hB] at S0 ⊢;have S0:=zhy S0.o;clear hB;obtain ⟨-,⟨i0,i1,i2,i3,-⟩,⟨m0,m1,m2,m3,m4,m5,m6,m7,m8⟩,⟨d0,d1,d2,d3,d4⟩,-⟩:=S0.o;dsimp only at m1 m2 m8 d1 d2 d3;clear m0 m1 m2 m3 m4 m5 m6 m7 m8;obtain ⟨V,hV⟩:∃V,gvL o=V:=⟨_,rfl⟩;obtain ⟨K,hK⟩:∃K,tkL o=K:=⟨_,rfl⟩;obtain ⟨R1,e1,ht⟩:∃R1 e1,zba R K=(R1,e1):=⟨_,_,rfl⟩;have hgl:=zwc o;rw [hV] at hgl;have HME:Hid (zaj d h (o,(b:Int),z) R=if e1=0 then (R1++V,0) else ([],e1)):=zhy (by simp [zaj,n1,n2,n3,n4,n5,n7,n8,n30,n31,hV,hK,ht])
 have hb1:R1.length≤n:=by
  have h:=zki (R:=R) (K:=K);rw [ht,HN.o] at h;exact h
 have HOF:=zhy (qdc o w3 hf);rw [hV,hK] at HOF;have HT:=zhy ht;have e01:(o==1)=false:=by simpa using n1
 have e02:(o==2)=false:=by simpa using n2
 have e03:(o==3)=false:=by simpa using n3
 have e04:(o==4)=false:=by simpa using n4
 have e05:(o==5)=false:=by simpa using n5
 have e07:(o==7)=false:=by simpa using n7
 have e08:(o==8)=false:=by simpa using n8
 have e30:(o==30)=false:=by simpa using n30
 have e31:(o==31)=false:=by simpa using n31
 clear hV hK ht hf n1 n2 n3 n4 n5 n7 n8 n30 n31;go_wp2_with fail;refine HOF.o.mono ?_;rintro e w4 ⟨A1,c1,A2,c2,rfl,hk4,hv4,hb⟩;have HK4:=zhy hk4;have HV4:=zhy hv4;have HR4:Hid (Rd w4 A c R):=zhy (S0.o.2.2.2.2.1.keep hb);have HB4:=zhy (qc S0.o.1 hb);have HTK:=zhy (zi9 A A1 c n c1 K.length R K w4 HR4.o HN.o hk4 rfl);rw [HT.o] at HTK;dsimp only at HTK;clear hk4 hv4 hb HOF i0 i1 i2 i3 d0 d1 d2 d3 d4 e01 e02 e03 e04 e05 e07 e08 e30 e31;go_wp2_with fail;refine HTK.o.mono ?_;rintro e w5 ⟨A',c',rfl,hr5,rfl⟩;have HR5:=zhy hr5;clear hr5 HTK;by_cases he:e1=0
 ·subst he;have HE:Hid (zaj d h (o,(b:Int),z) R=(R1++V,0)):=zhy (by rw [HME.o,if_pos rfl]);obtain ⟨m1,hm1⟩:∃m1,R1.length=m1:=⟨_,rfl⟩;obtain ⟨v1,hv1⟩:∃v1,V.length=v1:=⟨_,rfl⟩;rw [hm1] at hb1 ⊢;rw [hv1] at hgl ⊢;have HM1:=zhy hm1;have HV1:=zhy hv1;clear hm1 hv1;go_wp2_with fail;go_loopw [16,18] (fun rv iv wq=>∃(i n' c':Nat) (A':Option Addr),i≤v1∧n'=m1+i∧iv=.int .i64 i∧rv=.slice A' n' c'∧Hid (Rd wq A' c' (R1++V.take i))∧Hid (Below w4.heap.size w4 wq)) (fun _ iv _=>v1-(intOf iv).toNat)
  case atStart=>exact ⟨0,m1,c',A',by omega,rfl,rfl,rfl,zhy (by simpa using HR5.o),zhy (Below.refl _ _)⟩
  case round =>
   obtain ⟨i,n',c',A',hi,hn',rfl,rfl,HR,HB⟩:=hrel;by_cases h1:i<v1
   ·obtain ⟨ad,hA,y0⟩:=(HV4.o.keep HB.o).at_ (i:=i) (by rw [HV1.o];exact h1);have yb:=HV4.o.byte i;obtain ⟨k,hk⟩:∃k,V[i]?.getD 0=k:=⟨_,rfl⟩;rw [hk] at y0 yb;subst hA
    have HTK:Hid (R1++V.take (i+1)=(R1++V.take i)++[k]):=zhy (by
     rw [List.take_add_one,zg7 (by rw [HV1.o];exact h1),←hk,zg7 (by rw [HV1.o];exact h1),List.append_assoc];rfl)
    have HLN:Hid ((R1++V.take i).length=n'):=zhy (by rw [List.length_append,List.length_take,HM1.o,HV1.o];omega);have hn'b:n'≤1000000:=by omega
    have hn'2:n'+1=m1+(i+1):=by omega
    have HN2:=zhy hn'2;clear hk hn' hn'2;go_wp2_with fail;refine (za4 A' c' n' (R1++V.take i) k wr HR.o HLN.o hn'b yb).mono ?_;rintro e w6 ⟨A6,c6,rfl,ho,hb⟩;have HR6:Hid (Rd w6 A6 c6 (R1++V.take (i+1))):=zhy (by rw [HTK.o];exact qt ho (zar HR.o.byt yb));have HB6:=zhy (qc HB.o hb);clear ho hb y0;go_wp2_with fail;go_roundw
    case rel=>exact ⟨i+1,n'+1,c6,A6,by omega,HN2.o,by go_num,rfl,HR6,HB6⟩
    case measure=>simp [intOf];omega
   ·obtain rfl:i=v1:=by omega
    have HRF:Hid (Rd wr A' c' (R1++V)):=zhy (by
     have h:=HR.o;rwa [List.take_of_length_le (by rw [HV1.o];exact Nat.le_refl _)] at h)
    have HLF:Hid ((R1++V).length=n'):=zhy (by rw [List.length_append,HM1.o,HV1.o,hn']);go_wp2_with fail;go_ret2;exact ⟨A',c',by rw [HE.o,←HLF.o];rfl,by rw [HE.o];exact HRF.o,qc HB4.o HB.o⟩
 ·have he2:(e1 != 0)=true:=by simpa using he
  have HE:Hid (zaj d h (o,(b:Int),z) R=([],e1)):=zhy (by rw [HME.o,if_neg he]);go_wp2_with fail;go_ret2;exact ⟨none,0,by rw [HE.o];rfl,by rw [HE.o];exact Rd.none_ _,HB4.o⟩
theorem zou (y:Ma) (d:Md) (x:Mc) (h:Mh) (o a z:Int) (A:Option Addr) (c n:Nat) (R:List Int) (w:World) (hq:Hq w y d) (hx:Hd w x h) (hr:Rd w A c R) (hn:R.length=n) (hnb:n≤900000) (b1:h.a.length≤1000) (b2:h.l.length≤1000)
  (ho:0≤o∧o<33) (ha:0≤a) (hth:zab d h (o,a,z)=true) :
  Calls Tryz.prog 74 #[dv y d,mv x h,.agg #[.int .u8 o,.int .i64 a,.int .i64 z],.slice A n c] w fun e w'=>zh2 w w' (zaj d h (o,a,z) R) e:=by
 obtain ⟨G,gc,P,pc,AA,cc,Z⟩:=y;obtain ⟨XA,xc,XB,xd,XD,xk,xe⟩:=x;obtain ⟨b,rfl⟩:∃b:Nat,a=b:=⟨a.toNat,by omega⟩;by_cases h1:o=1
 ·subst h1;exact zr1 G P AA XA XB XD gc pc cc xc xd xk xe Z d h b z A c n R w hq hx hr hn hnb b1 b2 (by simpa [zab] using hth)
 by_cases h2:o=2
 ·subst h2;exact zrm G P AA XA XB XD gc pc cc xc xd xk xe Z d h b z A c n R w hq hx hr hn hnb b1 b2 (by have:=hth;simp [zab] at this;omega)
 by_cases h3:o=3
 ·subst h3;exact zqi G P AA XA XB XD gc pc cc xc xd xk xe Z d h b z A c n R w hq hx hr hn hnb b1 b2 (by have:=hth;simp [zab] at this;omega)
 by_cases h4:o=4
 ·subst h4;exact zo5 G P AA XA XB XD gc pc cc xc xd xk xe Z d h b z A c n R w hq hx hr hn hnb b1 b2 (by simpa [zab] using hth)
 by_cases h5:o=5
 ·subst h5;exact zqr G P AA XA XB XD gc pc cc xc xd xk xe Z d h b z A c n R w hq hx hr hn hnb b1 b2 (by simpa [zab] using hth)
 by_cases h7:o=7
 ·subst h7;exact zp9 G P AA XA XB XD gc pc cc xc xd xk xe Z d h b z A c n R w hq hx hr hn hnb b1 b2
 by_cases h8:o=8
 ·subst h8;exact zqw G P AA XA XB XD gc pc cc xc xd xk xe Z d h b z A c n R w hq hx hr hn hnb b1 b2
 by_cases h30:o=30
 ·subst h30;exact znn G P AA XA XB XD gc pc cc xc xd xk xe Z d h b z A c n R w hq hx hr hn hnb b1 b2 (by simpa [zab] using hth)
 by_cases h31:o=31
 ·subst h31;exact zoa G P AA XA XB XD gc pc cc xc xd xk xe Z d h b z A c n R w hq hx hr hn hnb b1 b2
 exact zpt G P AA XA XB XD gc pc cc xc xd xk xe Z d h o b z A c n R w hq hx hr hn hnb b1 b2 (by simp [fxB];omega) h1 h2 h3 h4 h5 h7 h8 h30 h31
theorem Tryz.infoR10:(Tryz.prog.info? 125).map (fun i=>(i.zero,i.size,i.bytes))=some (some (.agg #[.bool false,.slice none 0 0]),2,32):=by kernel_rfl
theorem ze3 (l:List Ins) (f j:Nat):zag l f (j+1)=zag l f j++(if zmu l f j=true then [j] else []):=by
 simp [zag,List.range_succ,List.filter_append,List.filter_cons]
theorem zjo (l:List Ins) (f j:Nat):zfr l f (j+1)=zfr l f j++(if zmu l f j=true then [(f,j,iA9 l f)] else []):=by
 rw [zfr,ze3,zfr,List.map_append];split<;>simp
theorem ztq (l:List Ins) (f j:Nat):(zfr l f j).length=(zag l f j).length:=by simp [zfr]
theorem zzd (l:List Ins) (f j:Nat):(zag l f j).length≤j:=by
 have:=List.length_filter_le (zmu l f) (List.range j);simpa [zag] using this
theorem zl5 {l:List Ins} {f:Nat} (hf:f<l.length) (h:zkk l f=false):ze2 l=false:=by
 cases hb:ze2 l with
 | false=>rfl
 | true =>
  rw [ze2,Bool.and_eq_true,List.all_eq_true,List.all_eq_true] at hb;rw [hb.2 f (List.mem_range.2 hf)] at h;cases h
theorem zsa {l:List Ins} {f:Nat} (hf:f<l.length) (h:zkg l f=false):ze2 l=false:=by
 cases hb:ze2 l with
 | false=>rfl
 | true =>
  rw [ze2,Bool.and_eq_true,List.all_eq_true,List.all_eq_true] at hb;rw [hb.1 f (List.mem_range.2 hf)] at h;cases h
theorem qak (A:Option Addr) (c m:Nat) (L:List Ins) (w:World) (hr:Ri w A c L) (hm:L.length=m) (hl:m≤200) (hnn:∀x∈L,0≤x.2.1) :
  Calls Tryz.prog 121 #[.slice A m c] w fun r w'=>∃A' c' n',r=.returned (.tuple #[.slice A' n' c',.bool (ze2 L)])∧(ze2 L=true→n'=(qy L m).length∧w'.ownsRow w.heap.size 205 3 (.slice A' n' c') n' (cej (qy L m)))∧Below w.heap.size w w':=by
 have HLm:=zhy hm;have HR:=zhy hr;have HN:=zhy hnn;clear hr hm hnn;obtain ⟨OK,hOK⟩:∃b,ze2 L=b:=⟨_,rfl⟩;have HOK:=zhy hOK;rw [hOK];clear hOK;go_enter Tryz.func121,Tryz.ntmps121;go_wp2_with fail;go_loopw [4,5] (fun sv kv wr=>∃(k n:Nat) (A1:Option Addr) (c1:Nat),k≤m∧n≤k∧kv=.int .i64 k∧sv=.slice A1 n c1∧Hid ((List.range k).all (zkg L)=true)∧Hid (n=(qy L k).length∧wr.ownsRow w.heap.size 205 3 (.slice A1 n c1) n (cej (qy L k)))∧Hid (Below w.heap.size w wr)) (fun _ kv _=>m-(intOf kv).toNat)
 case atStart=>exact ⟨0,0,none,0,by omega,by omega,rfl,rfl,zhy rfl,zhy ⟨rfl,World.ownsRow_nil _ _ _ _⟩,zhy (Below.refl _ _)⟩
 case round =>
  obtain ⟨k,n,A1,c1,hk,hn,rfl,rfl,HF,HO,HB⟩:=hrel;by_cases h1:k<m
  ·obtain ⟨⟨o,a,z⟩,hx⟩:∃x,L[k]?=some x:=⟨_,zg7 (by rw [HLm.o];exact h1)⟩;have HXO:Hid (iO9 L k=o∧iA9 L k=a):=zhy ⟨by simp [iO9,hx],by simp [iA9,hx]⟩;obtain ⟨ad,hA,k1,k2,k3⟩:=(HR.o.keep HB.o).at_ (i:=k) (by rw [HLm.o];exact h1)
   have hxe:L[k]'(by rw [HLm.o];exact h1)=(o,a,z):=by
    have h:=zg7 (l:=L) (i:=k) (by rw [HLm.o];exact h1);rw [hx] at h;injection h with h;exact h.symm
   rw [hxe] at k1 k2 k3;subst hA;have hx0:Hid (L[k]?=some (o,a,z)):=zhy hx;clear hxe hx;by_cases h28:o=28
   ·subst h28;have k4:Hid (L[k]?=some (28,a,z)):=hx0;go_wp2_with fail;clear k1 k2 k3;go_loopw [4,6,7] (fun sv mv jv wq=>∃(j d n2:Nat) (A2:Option Addr) (c2:Nat),j≤m∧d≤j∧n2=n+d∧jv=.int .i64 j∧mv=.int .i64 d∧sv=.slice A2 n2 c2∧Hid (d=(zag L k j).length)∧Hid (wq.ownsRow w.heap.size 205 3 (.slice A2 n2 c2) n2 (cej (qy L k++zfr L k j)))∧Hid (Below w.heap.size w wq)) (fun _ _ jv _=>m-(intOf jv).toNat)
    case atStart=>exact ⟨0,0,n,A1,c1,by omega,by omega,by omega,rfl,rfl,rfl,zhy rfl,zhy (by have:=HO.o.2;simpa [zfr,zag] using this),HB⟩
    case round =>
     obtain ⟨j,d,n2,A2,c2,hj,hd,rfl,rfl,rfl,rfl,HD,HO2,HB2⟩:=hrel;by_cases hjm:j<m
     ·obtain ⟨⟨o,b,z2⟩,hx2⟩:∃x,L[j]?=some x:=⟨_,zg7 (by rw [HLm.o];exact hjm)⟩;have HXJ:Hid (iO9 L j=o∧iA9 L j=b):=zhy ⟨by simp [iO9,hx2],by simp [iA9,hx2]⟩;obtain ⟨ad',hA',q1,q2,q3⟩:=(HR.o.keep HB2.o).at_ (i:=j) (by rw [HLm.o];exact hjm)
      have hxe2:L[j]'(by rw [HLm.o];exact hjm)=(o,b,z2):=by
       have h:=zg7 (l:=L) (i:=j) (by rw [HLm.o];exact hjm);rw [hx2] at h;injection h with h;exact h.symm
      rw [hxe2] at q1 q2 q3;injection hA' with hA';subst hA';obtain ⟨ad'',hA'',r1,r2,r3⟩:=(HR.o.keep HB2.o).at_ (i:=k) (by rw [HLm.o];exact h1)
      have hxe3:L[k]'(by rw [HLm.o];exact h1)=(28,a,z):=by
       have h:=zg7 (l:=L) (i:=k) (by rw [HLm.o];exact h1);rw [k4.o] at h;injection h with h;exact h.symm
      rw [hxe3] at r1 r2 r3;injection hA'' with hA'';subst hA'';clear hxe2 hxe3 hx2;by_cases hi:zmu L k j=true
      ·have hob:o=29∧b=(k:Int):=by rw [zmu,Bool.and_eq_true,beq_iff_eq,beq_iff_eq,HXJ.o.1,HXJ.o.2] at hi;exact hi
       obtain ⟨rfl,rfl⟩:=hob;have HD2:Hid (d+1=(zag L k (j+1)).length):=zhy (by rw [ze3,if_pos hi,List.length_append,HD.o];rfl);have HK2:Hid (qy L k++(zfr L k j++[(k,j,a)])=qy L k++zfr L k (j+1)):=zhy (by rw [zjo,if_pos hi,HXO.o.2]);have RN:=zhy (qcw wr ((k,j,a):Lp) trivial);have ON:=zhy (qb HO2.o (qh (a:=.cells #[.int .i64 k,.int .i64 j,.int .i64 a] 205)) (Nat.le_refl _));have BN:=zhy (HB2.o.trans ((qh (a:=.cells #[.int .i64 k,.int .i64 j,.int .i64 a] 205)).mono HB2.o.size));go_wp2_with (at_builtin;refine zd9 _ rfl (.tmp 42) (.tmp 51) rfl w.heap.size _ (n+d) (qy L k++zfr L k j) rfl ON.o _ 1 1 [(k,j,a)] rfl RN.o rfl (by omega) BN.o.size ?_);intro A9 c9 w9 ho hg;have O9:=zhy ho;have B9:=zhy (BN.o.trans (hg.mono (Nat.le_refl _)));clear ho hg;go_wp2_with fail;go_roundw
       case rel=>exact ⟨j+1,d+1,n+d+1,A9,c9,by omega,by omega,by omega,by go_num,by go_num,rfl,HD2,zhy (by have:=O9.o;rwa [HK2.o] at this),B9⟩
       case measure=>simp [intOf];omega
      ·have HD2:Hid (d=(zag L k (j+1)).length):=zhy (by rw [ze3,if_neg hi,List.append_nil,HD.o]);have HK2:Hid (zfr L k (j+1)=zfr L k j):=zhy (by rw [zjo,if_neg hi,List.append_nil]);have HR2:Hid (∃A2' c2',A2'=A2∧c2'=c2):=zhy ⟨_,_,rfl,rfl⟩;by_cases ho:o=29
       ·subst ho;have hbk:¬b=(k:Int):=fun h=>hi (by rw [zmu,HXJ.o.1,HXJ.o.2,h];simp);have ebk:(b==(k:Int))=false:=by simpa using hbk
        go_wp2_with fail;go_roundw
        case rel=>exact ⟨j+1,d,n+d,A2,c2,by omega,by omega,by omega,by go_num,rfl,rfl,HD2,zhy (by rw [HK2.o];exact HO2.o),HB2⟩
        case measure=>simp [intOf];omega
       ·have eo:(o==29)=false:=by simpa using ho
        go_wp2_with fail;go_roundw
        case rel=>exact ⟨j+1,d,n+d,A2,c2,by omega,by omega,by omega,by go_num,rfl,rfl,HD2,zhy (by rw [HK2.o];exact HO2.o),HB2⟩
        case measure=>simp [intOf];omega
     ·obtain rfl:j=m:=by omega
      have HD3:=zhy (HD.o);by_cases hd1:d=1
      ·subst hd1;obtain ⟨q,hq⟩:∃q,zag L k j=[q]:=List.length_eq_one_iff.1 HD.o.symm;have HQ:=zhy hq;have RJ:=zhy (Rj.of_own HO2.o (fun _ _=>trivial));obtain ⟨ae,hAe,t1,t2,t3⟩:=RJ.o.1.at_ (i:=n) (by rw [←RJ.o.2];omega)
       have hle:(qy L k++zfr L k j)[n]'(by rw [←RJ.o.2];omega)=(k,q,a):=by
        have e1:qy L k++zfr L k j=qy L k++[(k,q,a)]:=by rw [zfr,hq,HXO.o.2];rfl
        have e2:(qy L k++zfr L k j)[n]?=some (k,q,a):=by rw [e1,HO.o.1];simp
        rw [zg7 (by rw [←RJ.o.2];omega)] at e2;injection e2
       rw [hle] at t1 t2 t3;subst hAe;clear hle hq;by_cases hqk:q<k
       ·have HNO:Hid (OK=false):=zhy (by
         rw [←HOK.o];refine zsa (by rw [HLm.o];exact h1) ?_;rw [zkg,if_pos HXO.o.1,HLm.o,HQ.o];simp;omega)
        go_wp2_with fail;go_ret2;exact ⟨none,0,0,by rw [HNO.o];rfl,(fun h=>by rw [HNO.o] at h;cases h),HB2.o⟩
       ·have HF2:Hid ((List.range (k+1)).all (zkg L)=true):=zhy (by
         rw [List.range_succ,List.all_append,HF.o];simp only [List.all_cons,List.all_nil,Bool.and_true,Bool.true_and];rw [zkg,if_pos HXO.o.1,HLm.o,HQ.o];simp;omega)
        have HU2:Hid (qy L (k+1)=qy L k++zfr L k j):=zhy (by rw [zdm,ztv,if_pos HXO.o.1,HLm.o]);have HL2:Hid (n+1=(qy L (k+1)).length):=zhy (by rw [HU2.o];exact RJ.o.2);go_wp2_with fail;go_roundw
        case rel=>exact ⟨k+1,n+1,some ae,c2,by omega,by omega,by go_num,rfl,HF2,zhy ⟨HL2.o,by rw [HU2.o];exact HO2.o⟩,HB2⟩
        case measure=>simp [intOf];omega
      ·have HNO:Hid (OK=false):=zhy (by
        rw [←HOK.o];refine zsa (by rw [HLm.o];exact h1) ?_;rw [zkg,if_pos HXO.o.1,HLm.o,←HD3.o];have:(d==1)=false:=by simpa using hd1
        rw [this];rfl)
       have hd2:((d:Int) != 1)=true:=by simp;omega
       go_wp2_with fail;go_ret2;exact ⟨none,0,0,by rw [HNO.o];rfl,(fun h=>by rw [HNO.o] at h;cases h),HB2.o⟩
   ·have e28:(o != 28)=true:=by simpa using h28
    have HF2:Hid ((List.range (k+1)).all (zkg L)=true):=zhy (by rw [List.range_succ,List.all_append,HF.o];simp [zkg,HXO.o.1,h28]);have HO2:Hid (qy L (k+1)=qy L k):=zhy (by rw [zdm,ztv,if_neg (by rw [HXO.o.1];exact h28),List.append_nil]);go_wp2_with fail;go_roundw
    case rel=>exact ⟨k+1,n,A1,c1,by omega,by omega,by go_num,rfl,HF2,zhy (by rw [HO2.o];exact HO.o),HB⟩
    case measure=>simp [intOf];omega
  ·obtain rfl:k=m:=by omega
   go_wp2_with fail;go_loopw [8] (fun pv wq=>∃p:Nat,p≤k∧pv=.int .i64 p∧wq=wr∧Hid ((List.range p).all (zkk L)=true)) (fun pv _=>k-(intOf pv).toNat)
   case atStart=>exact ⟨0,by omega,rfl,rfl,zhy rfl⟩
   case round =>
    obtain ⟨p,hp,rfl,rfl,HA⟩:=hrel;by_cases hpk:p<k
    ·obtain ⟨⟨o,b,z⟩,hx⟩:∃x,L[p]?=some x:=⟨_,zg7 (by rw [HLm.o];exact hpk)⟩;have HXO:Hid (iO9 L p=o∧iA9 L p=b):=zhy ⟨by simp [iO9,hx],by simp [iA9,hx]⟩;have hb0:0≤b:=HN.o _ (List.mem_of_getElem? hx);obtain ⟨ad,hA,k1,k2,k3⟩:=(HR.o.keep HB.o).at_ (i:=p) (by rw [HLm.o];exact hpk)
     have hxe:L[p]'(by rw [HLm.o];exact hpk)=(o,b,z):=by
      have h:=zg7 (l:=L) (i:=p) (by rw [HLm.o];exact hpk);rw [hx] at h;injection h with h;exact h.symm
     rw [hxe] at k1 k2 k3;subst hA;clear hxe hx;by_cases ho:o=29
     ·subst ho;obtain ⟨q,rfl⟩:∃q:Nat,b=q:=⟨b.toNat,by omega⟩;by_cases hq:q<k
      ·obtain ⟨⟨o2,b2,z2⟩,hx2⟩:∃x,L[q]?=some x:=⟨_,zg7 (by rw [HLm.o];exact hq)⟩;have HXQ:Hid (iO9 L q=o2):=zhy (by simp [iO9,hx2]);obtain ⟨ad',hA',q1,q2,q3⟩:=(HR.o.keep HB.o).at_ (i:=q) (by rw [HLm.o];exact hq)
       have hxe2:L[q]'(by rw [HLm.o];exact hq)=(o2,b2,z2):=by
        have h:=zg7 (l:=L) (i:=q) (by rw [HLm.o];exact hq);rw [hx2] at h;injection h with h;exact h.symm
       rw [hxe2] at q1 q2 q3;injection hA' with hA';subst hA';clear hxe2 hx2 q2 q3
       have HOA:Hid (zkk L p=(o2==28)):=zhy (by
        rw [zkk,if_pos HXO.o.1,HXO.o.2,Int.toNat_natCast,HXQ.o,HLm.o];simp [hq])
       by_cases h28:o2=28
       ·subst h28;have HA2:Hid ((List.range (p+1)).all (zkk L)=true):=zhy (by rw [List.range_succ,List.all_append,HA.o];simp [HOA.o]);go_wp2_with fail;go_roundw
        case rel=>exact ⟨p+1,by omega,by go_num,trivial,HA2⟩
        case measure=>simp [intOf];omega
       ·have e28:(o2 != 28)=true:=by simpa using h28
        have HNO:Hid (OK=false):=zhy (by
         rw [←HOK.o];refine zl5 (by rw [HLm.o];exact hpk) ?_;rw [HOA.o];simpa using h28)
        go_wp2_with fail;go_ret2;exact ⟨none,0,0,by rw [HNO.o];rfl,(fun h=>by rw [HNO.o] at h;cases h),HB.o⟩
      ·have HNO:Hid (OK=false):=zhy (by
        rw [←HOK.o];refine zl5 (by rw [HLm.o];exact hpk) ?_;rw [zkk,if_pos HXO.o.1,HXO.o.2,HLm.o];simp;omega)
       have hkq:k≤q:=by omega
       go_wp2_with fail;go_ret2;exact ⟨none,0,0,by rw [HNO.o];rfl,(fun h=>by rw [HNO.o] at h;cases h),HB.o⟩
     ·have e29:(o==29)=false:=by simpa using ho
      have HA2:Hid ((List.range (p+1)).all (zkk L)=true):=zhy (by rw [List.range_succ,List.all_append,HA.o];simp [zkk,HXO.o.1,ho]);go_wp2_with fail;go_roundw
      case rel=>exact ⟨p+1,by omega,by go_num,trivial,HA2⟩
      case measure=>simp [intOf];omega
    ·obtain rfl:p=k:=by omega
     have HYE:Hid (OK=true):=zhy (by rw [←HOK.o,ze2,HLm.o,HF.o,HA.o];rfl);go_wp2_with fail;go_ret2;exact ⟨A1,c1,n,by rw [HYE.o];rfl,fun _=>HO.o,HB.o⟩
end Go.Proofs.YtnjgkkoiamiaaaaGreatDoor
