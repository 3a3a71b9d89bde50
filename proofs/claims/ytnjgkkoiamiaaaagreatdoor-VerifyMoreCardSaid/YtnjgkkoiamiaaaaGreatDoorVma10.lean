import Derived.Test.YtnjgkkoiamiaaaaGreatDoorVma9
import Derived.Test.YtnjgkkoiamiaaaaGreatDoorVma3
import Derived.Test.YtnjgkkoiamiaaaaGreatDoorVma2
import Derived.OwnWalk
import Derived.Laws.OwnMore
import Derived.Test.YtnjgkkoiamiaaaaGreatDoorVma1
import Derived.Test.YtnjgkkoiamiaaaaGreatDoorVma4
import Derived.Test.YtnjgkkoiamiaaaaGreatDoorVma5
import Derived.Test.YtnjgkkoiamiaaaaGreatDoorVma8
import Derived.Test.YtnjgkkoiamiaaaaGreatDoorVma7
import Derived.ArgAppend
set_option maxRecDepth 100000
set_option maxHeartbeats 16000000
set_option linter.unusedSimpArgs false
set_option linter.unusedVariables false
namespace Go.Proofs.YtnjgkkoiamiaaaaGreatDoor
open Go.RowKit
theorem u8idx_v (A:Option Addr) (c n:Nat) (l:List Int) (k:Int) (v:Bool) (w:World) (hr:Rd w A c l) (hn:l.length=n) (hv:l.contains k=v) :
  Calls Tryz.prog 90 #[.slice A n c,.int .u8 k] w fun e w'=>∃z:Int,e=.returned (.int .i64 z)∧decide (0≤z)=v∧Below w.heap.size w w':=by
 subst hn
 have hlen:=hr.len
 have HR:=zhy hr
 have HV:=zhy hv
 clear hr hv
 go_enter Tryz.func90,Tryz.ntmps90
 go_wp2_with fail
 go_loopw [5,8] (fun u i wr=>∃j:Nat,j≤l.length∧i=.int .i64 j∧Hid (k∉l.take j)∧Hid (Below w.heap.size w wr)) (fun _ i _=>l.length-(intOf i).toNat)
 case atStart=>exact ⟨0,by omega,rfl,by simp [Hid],Below.refl _ _⟩
 case round =>
  obtain ⟨j,hj,rfl,HT,HB⟩:=hrel
  by_cases h1:j<l.length
  ·obtain ⟨ad,rfl,hc⟩:=(HR.out.keep HB.out).at_ h1
   rw [zg7 h1] at hc
   simp only [Option.getD_some] at hc
   by_cases hx:k=l[j]
   ·have HN:Hid (v=true):=by
     rw [Hid,←HV.out,List.contains_iff_mem,hx];exact List.getElem_mem h1
    clear HT
    generalize l[j]=x at *
    subst hx
    go_wp2_with fail
    go_ret
    exact ⟨_,rfl,by rw [HN.out];simp,HB.out⟩
   ·have HN:Hid (k∉l.take (j+1)):=by
     rw [Hid,List.take_add_one,zg7 h1];simp only [Option.toList_some,List.mem_append,List.mem_singleton,not_or];exact ⟨HT.out,hx⟩
    have E:(k==l[j])=false:=by simpa using hx
    clear HT hx
    generalize l[j]=x at *
    go_wp2_with fail
    go_roundw
    case rel=>exact ⟨j+1,by omega,by go_num,HN,HB⟩
    case measure=>simp [intOf];omega
  ·obtain rfl:j=l.length:=by omega
   have HN:Hid (v=false):=by
    have:=HT.out;rw [List.take_length] at this;rw [Hid,←HV.out];simpa using this
   clear HT
   go_wp2_with fail
   go_ret
   exact ⟨_,rfl,by rw [HN.out];rfl,HB.out⟩
theorem u8has_v (A:Option Addr) (c n:Nat) (l:List Int) (k:Int) (v:Bool) (w:World) (hr:Rd w A c l) (hn:l.length=n) (hv:l.contains k=v) :
  Calls Tryz.prog 48 #[.slice A n c,.int .u8 k] w fun e w'=>e=.returned (.bool v)∧Below w.heap.size w w':=by
 have P1:=zhy (u8idx_v A c n l k v w hr hn hv)
 clear hr hn hv
 go_enter Tryz.func48,Tryz.ntmps48
 go_wp2_with fail
 refine P1.out.mono ?_
 rintro e w1 ⟨z,rfl,hz,hb⟩
 have HB:=zhy hb
 clear P1 hb
 go_wp2_with fail
 go_ret
 exact ⟨by rw [←hz];rfl,HB.out⟩
theorem digs_one {n:Int} (h0:0≤n) (h:n<256):digs n 1=[n]:=by
 simp [digs];omega
theorem mL_len {m:Mh} (h:mM m=true):(mL m).length=m.a.length+m.l.length+11:=by
 rw [mL,if_pos h];simp [length_digs];omega
theorem Mb.grown {w w':World} {B R:Nat} {x:Mc} {m:Mh} (h:Mb w B x m) (hg:w.grownBy w' (some R)) (hne:B≠R):Mb w' B x m:=by
 obtain ⟨h0,h1,h2,h3,h4,h5,h6,h7,h8⟩:=h;have k:∀{a:Addr} {v:Value},w.cell? a=some v→a.block≠R→w'.cell? a=some v:=fun hv hn=>hg.cell hv (by simpa using hn);exact ⟨Nat.lt_of_lt_of_le h0 hg.size,k h1 hne,k h2 hne,k h3 hne,k h4 hne,k h5 hne,k h6 hne,k h7 hne,k h8 hne⟩
theorem Mf.grown {w w':World} {B R:Nat} (h:Mf w B) (hg:w.grownBy w' (some R)) (hne:B≠R):Mf w' B:=
 ⟨Nat.lt_of_lt_of_le h.1 hg.size,fun i=>by have:=h.2 i;simp only [World.frozen?] at this ⊢;rw [hg.block B h.1 (by simpa using hne)];exact this⟩
def Q7 (w:World) (A:Option Addr) (c n:Nat) (l:List Int) (x:Mc) (m:Mh) (q e:Int) (w':World):Prop:=
 Below w.heap.size w w'∧Mf w' w.heap.size∧Mb w' w.heap.size x m∧R3 w' (w.heap.size+1) A c n q e∧Rd w' A c l∧GM w'∧((fO (w.heap.size+2) x.A x.c m.a).p w'∧(fO (w.heap.size+2) x.B x.d m.l).p w')∧w.heap.size+2≤w'.heap.size
section
variable {w w1 w2 : World} {A : Option Addr} {c n : Nat} {l : List Int} {x : Mc} {m : Mh} {q e : Int}
theorem Q7.num (h:Q7 w A c n l x m q e w1) (hA:∀ad,A=some ad→0<l.length→ad.block<w.heap.size) (hG:gN (w.heap.size+1)) {q' e':Int} (hg:w1.grownBy w2 (some (w.heap.size+1))) (hr:R3 w2 (w.heap.size+1) A c n q' e'):Q7 w A c n l x m q' e' w2:=by
 obtain ⟨h1,h2,h3,h4,h5,h6,h7,h8⟩:=h;refine ⟨h1.grown hg (by omega) (fun j hj=>by injection hj with hj;omega),h2.grown hg (by omega),h3.grown hg (by omega),hr,h5.grown hg (fun ad h0 hl e=>by injection e with e;have:=hA ad h0 hl;omega),h6.grown hg hG,⟨⟨h7.1.1.kept hg (.inr fun e=>?_),h7.1.2⟩,⟨h7.2.1.kept hg (.inr fun e=>?_),h7.2.2⟩⟩,Nat.le_trans h8 hg.size⟩
 ·have:=(h7.1.1.lt _ e).1;omega
 ·have:=(h7.2.1.lt _ e).1;omega
theorem Q7.call (h:Q7 w A c n l x m q e w1) (hb:Below w1.heap.size w1 w2):Q7 w A c n l x m q e w2:=by
 obtain ⟨h1,h2,h3,h4,h5,h6,h7,h8⟩:=h;exact ⟨below_on h1 hb,h2.keep hb,h3.keep hb,h4.keep hb,h5.keep hb,h6.keep hb,⟨⟨own_below h7.1.1 hb (Nat.le_refl _),h7.1.2⟩,⟨own_below h7.2.1 hb (Nat.le_refl _),h7.2.2⟩⟩,Nat.le_trans h8 hb.size⟩
theorem Q7.set (h:Q7 w A c n l x m q e w1) (hA:∀ad,A=some ad→0<l.length→ad.block<w.heap.size) (hG:gN w.heap.size) {x':Mc} {m':Mh} (i:Nat) (v:Value) (hm:Mb (w1.setCell ⟨w.heap.size,i,none⟩ v) w.heap.size x' m') (ho:(fO (w.heap.size+2) x'.A x'.c m'.a).p w1∧(fO (w.heap.size+2) x'.B x'.d m'.l).p w1):Q7 w A c n l x' m' q e (w1.setCell ⟨w.heap.size,i,none⟩ v):=by
 obtain ⟨h1,h2,h3,h4,h5,h6,h7,h8⟩:=h;exact ⟨h1.setCell (Nat.le_refl _) _,h2.set _ _,hm,h4.other (by simp) _,h5.setc (fun ad h0 hl=>by have:=hA ad h0 hl;show ad.block≠w.heap.size;omega) _,h6.set hG _,⟨⟨ownsRow_setCell_below ho.1.1 (by show w.heap.size<_;omega) _,ho.1.2⟩,⟨ownsRow_setCell_below ho.2.1 (by show w.heap.size<_;omega) _,ho.2.2⟩⟩,by simpa using h8⟩
end
theorem rdQ_all {l:List Int} {p:Int} {K1 K2:List Int} {q1 e1 q2 e2 v3 q3 e3 v4 q4 e4 v5 q5 e5 v6 q6 e6 v7 q7 e7:Int} (h1:rK l 4 (p,0)=(K1,q1,e1)) (h2:rK l (16-K1.length) (q1,e1)=(K2,q2,e2)) (h3:rN l 1 1 2 (q2,e2)=(v3,q3,e3)) (h4:rN l 1 0 1 (q3,e3)=(v4,q4,e4))
  (h5:rN l 3 0 1048576 (q4,e4)=(v5,q5,e5)) (h6:rN l 2 0 256 (q5,e5)=(v6,q6,e6)) (h7:rN l 2 0 1024 (q6,e6)=(v7,q7,e7)):rdQ l p=if e7=0 then (⟨K1,K2,v3,v4==1,v5,v6,v7⟩,q7,0) else (Mh.zero,0,e7):=by
 simp only [rdQ,h1,h2,fs7,rF,h3,h4,h5,h6,h7,mk7]
 rfl
theorem q7_end (tm:Array Value) (w':World) (T:Nat) (x:Mc) (m:Mh) (n e:Int) (hT:tm[4]?.getD undef=.pointer (some ⟨T,0,none⟩)) (h5:tm[5]?.getD undef=.int .i64 n) (h6:tm[6]?.getD undef=.int .i64 e) (hM:Mb w' T x m) (R:Ending→World→Prop)
  (hR:R (.returned (.tuple #[mv x m,.int .i64 n,.int .i64 e])) w'):bodyPost Tryz.prog Tryz.f189 R .ret { tmps:=tm,defers:=[]} w':=by
 obtain ⟨h0,c1,c2,c3,c4,c5,c6,c7,c8⟩:=hM
 exact bodyPost_ret (v:=.tuple #[mv x m,.int .i64 n,.int .i64 e]) (by simp [results,Tryz.results189,go_sem,hT,h5,h6,c1,c2,c3,c4,c5,c6,c7,c8]) rfl hR
theorem mreadw_v (A:Option Addr) (c n:Nat) (l:List Int) (p:Int) (R:Mh×Int×Int) (w:World) (hr:Rd w A c l) (hn:l.length=n) (hw:GM w) (hR:rdQ l p=R) :
  Calls Tryz.prog 189 #[.slice A n c,.int .i64 p] w fun e w'=>∃x,e=.returned (.tuple #[mv x R.1,.int .i64 R.2.1,.int .i64 R.2.2])∧(x.k=0∧x.D=none∧x.e=0)∧(w'.ownsRow w.heap.size 5 1 (.slice x.A R.1.a.length x.c) R.1.a.length (cel R.1.a)∧w'.ownsRow w.heap.size 5 1 (.slice x.B R.1.l.length x.d) R.1.l.length (cel R.1.l))∧Hd w' x R.1∧Below w.heap.size w w':=by
 have HA:Hid (∀ad,A=some ad→0<l.length→ad.block<w.heap.size):=fun ad h0 h1=>rd_lt hr h0 h1
 have HAN:Hid (∀ad,A=some ad→0<l.length→some ad.block≠some (w.heap.size+1)):=fun ad h0 h1 e=>by
  injection e with e;have:=HA.out ad h0 h1;omega
 have HG0:=zhy (hw.lt (Nat.le_refl w.heap.size))
 have HG1:=zhy (hw.lt (show w.heap.size≤w.heap.size+1 by omega))
 have HRR:=zhy hR
 have hb00:Below w.heap.size w ((w.alloc (hcel Mc.zero Mh.zero)).alloc (.cells #[.slice A n c,.int .i64 p,.int .i64 0] 317)):=new1.alloc (by simp) _
 have Q0:Hid (Q7 w A c n l Mc.zero Mh.zero p 0 ((w.alloc (hcel Mc.zero Mh.zero)).alloc (.cells #[.slice A n c,.int .i64 p,.int .i64 0] 317))):=by
  have h3:=R3.new (w.alloc (hcel Mc.zero Mh.zero)) A c n p 0 317;rw [size1] at h3;exact ⟨hb00,(Mf.new w _ _).keep new1,(Mb.new w _ _).keep new1,h3,hr.keep hb00,hw.keep hb00,⟨⟨World.ownsRow_nil _ _ _ _,fun x hx=>(by cases hx)⟩,⟨World.ownsRow_nil _ _ _ _,fun x hx=>(by cases hx)⟩⟩,by simp⟩
 obtain ⟨K1,q1,e1,h1⟩:∃K q e,rK l 4 (p,0)=(K,q,e):=⟨_,_,_,rfl⟩
 obtain ⟨K2,q2,e2,h2⟩:∃K q e,rK l (16-K1.length) (q1,e1)=(K,q,e):=⟨_,_,_,rfl⟩
 obtain ⟨v3,q3,e3,h3⟩:∃v q e,rN l 1 1 2 (q2,e2)=(v,q,e):=⟨_,_,_,rfl⟩
 obtain ⟨v4,q4,e4,h4⟩:∃v q e,rN l 1 0 1 (q3,e3)=(v,q,e):=⟨_,_,_,rfl⟩
 obtain ⟨v5,q5,e5,h5⟩:∃v q e,rN l 3 0 1048576 (q4,e4)=(v,q,e):=⟨_,_,_,rfl⟩
 obtain ⟨v6,q6,e6,h6⟩:∃v q e,rN l 2 0 256 (q5,e5)=(v,q,e):=⟨_,_,_,rfl⟩
 obtain ⟨v7,q7,e7,h7⟩:∃v q e,rN l 2 0 1024 (q6,e6)=(v,q,e):=⟨_,_,_,rfl⟩
 have HF:=zhy (rdQ_all h1 h2 h3 h4 h5 h6 h7)
 have bd3:=rN_bd (l:=l) (W:=1) (lo:=1) (hi:=2) (s:=(q2,e2)) (by decide)
 have bd5:=rN_bd (l:=l) (W:=3) (lo:=0) (hi:=1048576) (s:=(q4,e4)) (by decide)
 have bd6:=rN_bd (l:=l) (W:=2) (lo:=0) (hi:=256) (s:=(q5,e5)) (by decide)
 have bd7:=rN_bd (l:=l) (W:=2) (lo:=0) (hi:=1024) (s:=(q6,e6)) (by decide)
 rw [h3] at bd3
 rw [h5] at bd5
 rw [h6] at bd6
 rw [h7] at bd7
 dsimp only at bd3 bd5 bd6 bd7
 have hK1:K1.length≤4:=by
  have b:=rN_bd (l:=l) (W:=1) (lo:=0) (hi:=4) (s:=(p,0)) (by decide);have b2:=rKs_len l (rN l 1 0 4 (p,0)).1.toNat (rN l 1 0 4 (p,0)).2;rw [rK] at h1;rw [h1] at b2;dsimp only at b2;omega
 have P1:=fun w1 (Q:Hid (Q7 w A c n l Mc.zero Mh.zero p 0 w1))=>zhy (kinds7_v (w.heap.size+1) A c n l 4 p 0 K1 q1 e1 w1 Q.out.2.2.2.2.1 hn Q.out.2.2.2.1 Q.out.2.2.2.2.2.1 HG1.out HAN.out (by decide) h1)
 have P2:=fun x m w1 (Q:Hid (Q7 w A c n l x m q1 e1 w1))=>zhy (kinds7_v (w.heap.size+1) A c n l (16-K1.length) q1 e1 K2 q2 e2 w1 Q.out.2.2.2.2.1 hn Q.out.2.2.2.1 Q.out.2.2.2.2.2.1 HG1.out HAN.out (by omega) h2)
 have P3:=fun x m w1 (Q:Hid (Q7 w A c n l x m q2 e2 w1))=>zhy (num7_v (w.heap.size+1) A c n l 1 1 2 q2 e2 v3 q3 e3 w1 Q.out.2.2.2.2.1 hn Q.out.2.2.2.1 h3)
 have P4:=fun x m w1 (Q:Hid (Q7 w A c n l x m q3 e3 w1))=>zhy (num7_v (w.heap.size+1) A c n l 1 0 1 q3 e3 v4 q4 e4 w1 Q.out.2.2.2.2.1 hn Q.out.2.2.2.1 h4)
 have P5:=fun x m w1 (Q:Hid (Q7 w A c n l x m q4 e4 w1))=>zhy (num7_v (w.heap.size+1) A c n l 3 0 1048576 q4 e4 v5 q5 e5 w1 Q.out.2.2.2.2.1 hn Q.out.2.2.2.1 h5)
 have P6:=fun x m w1 (Q:Hid (Q7 w A c n l x m q5 e5 w1))=>zhy (num7_v (w.heap.size+1) A c n l 2 0 256 q5 e5 v6 q6 e6 w1 Q.out.2.2.2.2.1 hn Q.out.2.2.2.1 h6)
 have P7:=fun x m w1 (Q:Hid (Q7 w A c n l x m q6 e6 w1))=>zhy (num7_v (w.heap.size+1) A c n l 2 0 1024 q6 e6 v7 q7 e7 w1 Q.out.2.2.2.2.1 hn Q.out.2.2.2.1 h7)
 clear hb00 hr hw hR h1 h2 h3 h4 h5 h6 h7
 go_enter Tryz.func189,Tryz.ntmps189
 go_wp2_with fail
 refine (count_v 4 _).mono ?_
 rintro e w1 ⟨rfl,hb1⟩
 have Q1:=zhy (Q0.out.call hb1)
 clear hb1 Q0
 go_wp2_with fail
 refine (P1 _ Q1).out.mono ?_
 rintro e w2 ⟨A1,c1,rfl,ho2,hy2,hg2,hr2⟩
 have Q2:=zhy (Q1.out.num HA.out HG1.out hg2 hr2)
 have Q3:=zhy (Q2.out.set HA.out HG0.out 0 (.slice A1 K1.length c1) (Q2.out.2.2.1.setA A1 c1 K1 _ rfl) ⟨⟨own_base ho2 Q1.out.2.2.2.2.2.2.2,hy2⟩,Q2.out.2.2.2.2.2.2.1.2⟩)
 obtain ⟨f0,f1,f2,f3,f4,f5,f6,f7⟩:=Q2.out.2.1.keepM
 obtain ⟨y0,y1,y2,y3,y4,y5,y6,y7,y8⟩:=Q2.out.2.2.1
 clear ho2 hy2 hg2 hr2 Q1 P1
 go_wp2_with fail
 refine (other_v K1.length _ (by omega) (by omega)).mono ?_
 rintro e w3 ⟨rfl,hb3⟩
 have Q4:=zhy (Q3.out.call hb3)
 clear hb3 Q3 Q2 f0 f1 f2 f3 f4 f5 f6 f7 y0 y1 y2 y3 y4 y5 y6 y7 y8
 go_wp2_with fail
 refine (P2 _ _ _ Q4).out.mono ?_
 rintro e w4 ⟨A2,c2,rfl,ho2,hy2,hg2,hr2⟩
 have Q5:=zhy (Q4.out.num HA.out HG1.out hg2 hr2)
 have Q6:=zhy (Q5.out.set HA.out HG0.out 1 (.slice A2 K2.length c2) (Q5.out.2.2.1.setB A2 c2 K2 _ rfl) ⟨Q5.out.2.2.2.2.2.2.1.1,⟨own_base ho2 Q4.out.2.2.2.2.2.2.2,hy2⟩⟩)
 obtain ⟨f0,f1,f2,f3,f4,f5,f6,f7⟩:=Q5.out.2.1.keepM
 obtain ⟨y0,y1,y2,y3,y4,y5,y6,y7,y8⟩:=Q5.out.2.2.1
 clear ho2 hy2 hg2 hr2 Q4 P2
 go_upto_region 4 with (fail)
 clear f0 f1 f2 f3 f4 f5 f6 f7 y0 y1 y2 y3 y4 y5 y6 y7 y8 Q5
 generalize w4.setCell ⟨w.heap.size,1,none⟩ (.slice A2 K2.length c2)=w4' at Q6 ⊢
 obtain ⟨-,k0,k1,k2⟩:=Q6.out.2.2.2.2.2.1.2.1
 go_wp2_with fail
 refine (P3 _ _ _ Q6).out.mono ?_
 rintro e w5 ⟨rfl,hg2,hr2⟩
 have Q7_:=zhy (Q6.out.num HA.out HG1.out hg2 hr2)
 have Q8_:=zhy (Q7_.out.set HA.out HG0.out 2 (.int .u8 v3) (Q7_.out.2.2.1.setR v3) Q7_.out.2.2.2.2.2.2.1)
 obtain ⟨f0,f1,f2,f3,f4,f5,f6,f7⟩:=Q7_.out.2.1.keepM
 obtain ⟨y0,y1,y2,y3,y4,y5,y6,y7,y8⟩:=Q7_.out.2.2.1
 clear hg2 hr2 Q6 P3 k0 k1 k2
 have hmod:v3 % 256=v3:=by omega
 go_upto_region 5 with (fail)
 clear f0 f1 f2 f3 f4 f5 f6 f7 y0 y1 y2 y3 y4 y5 y6 y7 y8 Q7_
 generalize w5.setCell ⟨w.heap.size,2,none⟩ (.int .u8 v3)=w5' at Q8_ ⊢
 obtain ⟨-,k0,k1,k2⟩:=Q8_.out.2.2.2.2.2.1.2.2.1
 go_wp2_with fail
 refine (P4 _ _ _ Q8_).out.mono ?_
 rintro e w6 ⟨rfl,hg2,hr2⟩
 have Q9_:=zhy (Q8_.out.num HA.out HG1.out hg2 hr2)
 have Q10_:=zhy (Q9_.out.set HA.out HG0.out 3 (.bool (v4==1)) (Q9_.out.2.2.1.setQ (v4==1)) Q9_.out.2.2.2.2.2.2.1)
 obtain ⟨f0,f1,f2,f3,f4,f5,f6,f7⟩:=Q9_.out.2.1.keepM
 obtain ⟨y0,y1,y2,y3,y4,y5,y6,y7,y8⟩:=Q9_.out.2.2.1
 clear hg2 hr2 Q8_ P4 k0 k1 k2
 go_wp2_with fail
 refine (flag_v true _).mono ?_
 rintro e w6b ⟨rfl,rfl⟩
 rw [show fl true=1 from rfl]
 go_upto_region 6 with (fail)
 clear f0 f1 f2 f3 f4 f5 f6 f7 y0 y1 y2 y3 y4 y5 y6 y7 y8 Q9_
 generalize w6.setCell ⟨w.heap.size,3,none⟩ (.bool (v4==1))=w6' at Q10_ ⊢
 obtain ⟨-,k0,k1,k2⟩:=Q10_.out.2.2.2.2.2.1.2.2.2.1
 go_wp2_with fail
 refine (P5 _ _ _ Q10_).out.mono ?_
 rintro e w7 ⟨rfl,hg2,hr2⟩
 have Q11_:=zhy (Q10_.out.num HA.out HG1.out hg2 hr2)
 have Q12_:=zhy (Q11_.out.set HA.out HG0.out 4 (.int .i64 v5) (Q11_.out.2.2.1.setF v5) Q11_.out.2.2.2.2.2.2.1)
 obtain ⟨f0,f1,f2,f3,f4,f5,f6,f7⟩:=Q11_.out.2.1.keepM
 obtain ⟨y0,y1,y2,y3,y4,y5,y6,y7,y8⟩:=Q11_.out.2.2.1
 clear hg2 hr2 Q10_ P5 k0 k1 k2
 go_upto_region 7 with (fail)
 clear f0 f1 f2 f3 f4 f5 f6 f7 y0 y1 y2 y3 y4 y5 y6 y7 y8 Q11_
 generalize w7.setCell ⟨w.heap.size,4,none⟩ (.int .i64 v5)=w7' at Q12_ ⊢
 obtain ⟨-,k0,k1,k2⟩:=Q12_.out.2.2.2.2.2.1.2.2.2.2.1
 go_wp2_with fail
 refine (P6 _ _ _ Q12_).out.mono ?_
 rintro e w8 ⟨rfl,hg2,hr2⟩
 have Q13_:=zhy (Q12_.out.num HA.out HG1.out hg2 hr2)
 have Q14_:=zhy (Q13_.out.set HA.out HG0.out 5 (.int .i64 v6) (Q13_.out.2.2.1.setS v6) Q13_.out.2.2.2.2.2.2.1)
 obtain ⟨f0,f1,f2,f3,f4,f5,f6,f7⟩:=Q13_.out.2.1.keepM
 obtain ⟨y0,y1,y2,y3,y4,y5,y6,y7,y8⟩:=Q13_.out.2.2.1
 clear hg2 hr2 Q12_ P6 k0 k1 k2
 go_upto_region 8 with (fail)
 clear f0 f1 f2 f3 f4 f5 f6 f7 y0 y1 y2 y3 y4 y5 y6 y7 y8 Q13_
 generalize w8.setCell ⟨w.heap.size,5,none⟩ (.int .i64 v6)=w8' at Q14_ ⊢
 obtain ⟨-,k0,k1,k2⟩:=Q14_.out.2.2.2.2.2.1.2.2.2.2.2
 go_wp2_with fail
 refine (P7 _ _ _ Q14_).out.mono ?_
 rintro e w9 ⟨rfl,hg2,hr2⟩
 have Q15_:=zhy (Q14_.out.num HA.out HG1.out hg2 hr2)
 have Q16_:=zhy (Q15_.out.set HA.out HG0.out 6 (.int .i64 v7) (Q15_.out.2.2.1.setH v7) Q15_.out.2.2.2.2.2.2.1)
 obtain ⟨f0,f1,f2,f3,f4,f5,f6,f7⟩:=Q15_.out.2.1.keepM
 obtain ⟨y0,y1,y2,y3,y4,y5,y6,y7,y8⟩:=Q15_.out.2.2.1
 clear hg2 hr2 Q14_ P7 k0 k1 k2
 go_upto_region 9 with (fail)
 clear f0 f1 f2 f3 f4 f5 f6 f7 y0 y1 y2 y3 y4 y5 y6 y7 y8 Q15_
 generalize w9.setCell ⟨w.heap.size,6,none⟩ (.int .i64 v7)=wz at Q16_ ⊢
 have QZ:=Q16_.out
 obtain ⟨f0,f1,f2,f3,f4,f5,f6,f7⟩:=QZ.2.1.keepM
 obtain ⟨y0,y1,y2,y3,y4,y5,y6,y7,y8⟩:=QZ.2.2.1
 obtain ⟨s00,s0,s1,s2,z0,z1,z2⟩:=QZ.2.2.2.1
 clear QZ
 by_cases he:e7=0
 ·subst he
  rw [if_pos rfl] at HF
  go_wp2_with fail
  go_region
  go_wp2_with fail
  obtain ⟨a1,a2,a3,-,-,-,⟨a6,a7⟩,-⟩:=Q16_.out
  have E1:=(put8_mb a3 ⟨A1,c1,A2,c2,none,0,0⟩ ⟨K1,K2,v3,v4==1,v5,v6,v7⟩).drew
  have E2:=(put8_below a1 (Nat.le_refl _) ⟨A1,c1,A2,c2,none,0,0⟩ ⟨K1,K2,v3,v4==1,v5,v6,v7⟩).drew
  have E3:=(put8_own (B:=w.heap.size) a6.1 (by omega) ⟨A1,c1,A2,c2,none,0,0⟩ ⟨K1,K2,v3,v4==1,v5,v6,v7⟩).drew
  have E4:=(put8_own (B:=w.heap.size) a7.1 (by omega) ⟨A1,c1,A2,c2,none,0,0⟩ ⟨K1,K2,v3,v4==1,v5,v6,v7⟩).drew
  rw [←HRR.out,HF.out]
  exact q7_end _ _ w.heap.size ⟨A1,c1,A2,c2,none,0,0⟩ ⟨K1,K2,v3,v4==1,v5,v6,v7⟩ q7 0 rfl rfl rfl E1 _ ⟨⟨A1,c1,A2,c2,none,0,0⟩,rfl,⟨rfl,rfl,rfl⟩,⟨own_base E3 (by omega),own_base E4 (by omega)⟩,⟨own_rd E3 a6.2,own_rd E4 a7.2,by unfold Mh.nums;dsimp only;omega⟩,E2⟩
 ·have hne:(e7 != 0)=true:=by simpa using he
  rw [if_neg he] at HF
  go_wp2_with fail
  go_region
  go_wp2_with fail
  obtain ⟨a1,a2,a3,-⟩:=Q16_.out
  have E1:=(put8_mb a3 Mc.zero Mh.zero).drew
  have E2:=(put8_below a1 (Nat.le_refl _) Mc.zero Mh.zero).drew
  rw [←HRR.out,HF.out]
  exact q7_end _ _ w.heap.size Mc.zero Mh.zero 0 e7 rfl rfl rfl E1 _ ⟨Mc.zero,rfl,⟨rfl,rfl,rfl⟩,⟨World.ownsRow_nil _ _ _ _,World.ownsRow_nil _ _ _ _⟩,Hd.zero _,E2⟩
theorem rN_e {l:List Int} {W lo hi q e:Int} (h:(rN l W lo hi (q,e)).2.2=0):e=0:=by
 by_cases he:e=0
 ·exact he
 ·rw [rN_err he] at h;exact h
theorem rK_e {l:List Int} {hi q e:Int} (h:(rK l hi (q,e)).2.2=0):e=0:=by
 by_cases he:e=0
 ·exact he
 ·rw [rK_err he] at h;exact h
theorem rN_inv {l:List Int} (hb:Byt l) {q W:Nat} {lo hi:Int} (h1:1≤W) (h7:W≤7) (hq:q≤l.length) (h:(rN l (W:Int) lo hi ((q:Int),0)).2.2=0) :
  ∃n,rN l (W:Int) lo hi ((q:Int),0)=(n,((q+W:Nat):Int),0)∧q+W≤l.length∧(lo≤n∧n≤hi)∧digs n W=(l.drop q).take W:=by
 by_cases hl:q+W≤l.length
 ·obtain ⟨g1,g2,g3⟩:=getB_long hb (q:=(q:Int)) (W:=(W:Int)) (by omega) (by omega) (by omega) (by omega)
  by_cases hx:lo≤getV l q W∧getV l q W≤hi
  ·have e:nE l q W lo hi=0:=by rw [nE,if_pos g1,if_pos hx]
   refine ⟨getV l q W,by rw [rN_yes e,g3];rfl,hl,hx,?_⟩
   rw [g2,Int.toNat_natCast,Int.toNat_natCast]
   have hlen:((l.drop q).take W).length=W:=by simp;omega
   have:=digs_num (byt_take (byt_drop hb q) W)
   rwa [hlen] at this
  ·have e:nE l q W lo hi=70:=by rw [nE,if_pos g1,if_neg hx]
   rw [rN_no (by rw [e];decide),e] at h
   simp at h
 ·have g:=getB_short hb (q:=(q:Int)) (W:=(W:Int)) (by omega) (by omega) (by omega) (by omega) (by omega)
  have e:nE l q W lo hi=10:=by rw [nE,if_neg (by rw [g];decide),g]
  rw [rN_no (by rw [e];decide),e] at h
  simp at h
theorem rK_inv {l:List Int} (hb:Byt l) {q:Nat} {hi:Int} (hq:q≤l.length) (h:(rK l hi ((q:Int),0)).2.2=0) :
  ∃K,rK l hi ((q:Int),0)=(K,((q+(1+K.length):Nat):Int),0)∧q+(1+K.length)≤l.length∧(K.length:Int)≤hi∧(K.length:Int)::K=(l.drop q).take (1+K.length)∧kO K=true:=by
 obtain ⟨K,n,e,hk⟩:∃K n e,rK l hi ((q:Int),0)=(K,n,e):=⟨_,_,_,rfl⟩
 rw [hk] at h
 obtain rfl:e=0:=h
 obtain ⟨h1,h2,h3,h4,h5⟩:=rK_ok hb hq hk
 subst h1
 exact ⟨K,hk,h2,h3,h4,h5⟩
theorem take_app {l X Y:List Int} {q a b:Nat} (h1:X=(l.drop q).take a) (h2:Y=(l.drop (q+a)).take b):X++Y=(l.drop q).take (a+b):=by
 rw [h1,h2,List.take_add,List.drop_drop]
theorem rdQ_ok {l:List Int} (hb:Byt l) {p:Int} {m:Mh} {n:Int} (h:rdQ l p=(m,n,0)):∃q:Nat,p=q∧n=((q+(mL m).length:Nat):Int)∧q+(mL m).length≤l.length∧mM m=true∧mL m=(l.drop q).take (mL m).length:=by
 by_cases hp:p<0∨(l.length:Int)<p
 ·rw [rdQ_arg hp] at h;simp at h
 ·obtain ⟨q,rfl⟩:∃q:Nat,p=q:=⟨p.toNat,by omega⟩;obtain ⟨K1,q1,e1,h1⟩:∃K q' e,rK l 4 ((q:Int),0)=(K,q',e):=⟨_,_,_,rfl⟩;obtain ⟨K2,q2,e2,h2⟩:∃K q' e,rK l (16-K1.length) (q1,e1)=(K,q',e):=⟨_,_,_,rfl⟩;obtain ⟨v3,q3,e3,h3⟩:∃v q' e,rN l 1 1 2 (q2,e2)=(v,q',e):=⟨_,_,_,rfl⟩;obtain ⟨v4,q4,e4,h4⟩:∃v q' e,rN l 1 0 1 (q3,e3)=(v,q',e):=⟨_,_,_,rfl⟩;obtain ⟨v5,q5,e5,h5⟩:∃v q' e,rN l 3 0 1048576 (q4,e4)=(v,q',e):=⟨_,_,_,rfl⟩;obtain ⟨v6,q6,e6,h6⟩:∃v q' e,rN l 2 0 256 (q5,e5)=(v,q',e):=⟨_,_,_,rfl⟩;obtain ⟨v7,q7,e7,h7⟩:∃v q' e,rN l 2 0 1024 (q6,e6)=(v,q',e):=⟨_,_,_,rfl⟩
  have hr:rdQ l q=if e7=0 then (⟨K1,K2,v3,v4==1,v5,v6,v7⟩,q7,0) else (Mh.zero,0,e7):=by
   simp only [rdQ,h1,h2,fs7,rF,h3,h4,h5,h6,h7,mk7];rfl
  rw [hr] at h
  have he7:e7=0:=by
   by_cases he:e7=0
   ·exact he
   ·rw [if_neg he] at h;simp only [Prod.mk.injEq] at h;exact h.2.2
  rw [if_pos he7] at h;simp only [Prod.mk.injEq] at h;obtain ⟨hm,hn,-⟩:=h;obtain rfl:e6=0:=rN_e (by rw [h7];exact he7);obtain rfl:e5=0:=rN_e (by rw [h6]);obtain rfl:e4=0:=rN_e (by rw [h5]);obtain rfl:e3=0:=rN_e (by rw [h4]);obtain rfl:e2=0:=rN_e (by rw [h3]);obtain rfl:e1=0:=rK_e (by rw [h2]);obtain ⟨L1,g1,l1,b1,t1,k1⟩:=rK_inv hb (q:=q) (by omega) (by rw [h1]);rw [h1] at g1;obtain ⟨rfl,rfl,-⟩:=by simpa only [Prod.mk.injEq] using g1
  obtain ⟨L2,g2,l2,b2,t2,k2⟩:=rK_inv hb l1 (by rw [h2]);rw [h2] at g2;obtain ⟨rfl,rfl,-⟩:=by simpa only [Prod.mk.injEq] using g2
  obtain ⟨n3,g3,l3,b3,t3⟩:=rN_inv hb (W:=1) (lo:=1) (hi:=2) (by omega) (by omega) l2 (by rw [show ((1:Nat):Int)=1 from rfl,h3]);rw [show ((1:Nat):Int)=1 from rfl,h3] at g3;obtain ⟨rfl,rfl,-⟩:=by simpa only [Prod.mk.injEq] using g3
  obtain ⟨n4,g4,l4,b4,t4⟩:=rN_inv hb (W:=1) (lo:=0) (hi:=1) (by omega) (by omega) l3 (by rw [show ((1:Nat):Int)=1 from rfl,h4]);rw [show ((1:Nat):Int)=1 from rfl,h4] at g4;obtain ⟨rfl,rfl,-⟩:=by simpa only [Prod.mk.injEq] using g4
  obtain ⟨n5,g5,l5,b5,t5⟩:=rN_inv hb (W:=3) (lo:=0) (hi:=1048576) (by omega) (by omega) l4 (by rw [show ((3:Nat):Int)=3 from rfl,h5]);rw [show ((3:Nat):Int)=3 from rfl,h5] at g5;obtain ⟨rfl,rfl,-⟩:=by simpa only [Prod.mk.injEq] using g5
  obtain ⟨n6,g6,l6,b6,t6⟩:=rN_inv hb (W:=2) (lo:=0) (hi:=256) (by omega) (by omega) l5 (by rw [show ((2:Nat):Int)=2 from rfl,h6]);rw [show ((2:Nat):Int)=2 from rfl,h6] at g6;obtain ⟨rfl,rfl,-⟩:=by simpa only [Prod.mk.injEq] using g6
  obtain ⟨n7,g7,l7,b7,t7⟩:=rN_inv hb (W:=2) (lo:=0) (hi:=1024) (by omega) (by omega) l6 (by rw [show ((2:Nat):Int)=2 from rfl,h7,he7]);rw [show ((2:Nat):Int)=2 from rfl,h7] at g7;obtain ⟨rfl,rfl,-⟩:=by simpa only [Prod.mk.injEq] using g7
  have hM:mM m=true:=by
   rw [←hm,mM_iff];dsimp only;exact ⟨by omega,by omega,k1,k2,b3,b5,b6,b7⟩
  have hfl:fl (v4==1)=v4:=by
   have:v4=0∨v4=1:=by omega
   rcases this with rfl | rfl<;>rfl
  have hLen:=mL_len hM
  have hL:mL m=(l.drop q).take (mL m).length:=by
   have hmL:mL m=((K1.length:Int)::K1)++(((K2.length:Int)::K2)++(digs v3 1++(digs v4 1++(digs v5 3++(digs v6 2++digs v7 2))))):=by
    rw [mL,if_pos hM,←hm];dsimp only;rw [hfl,digs_one (by omega) (by omega),digs_one (by omega) (by omega)];simp
   rw [hLen,hmL,←hm];dsimp only;have a7:=t7;have a6:=take_app t6 a7;have a5:=take_app t5 a6;have a4:=take_app t4 a5;have a3:=take_app t3 a4;have a2:=take_app t2 a3;have a1:=take_app t1 a2;rw [a1];congr 1;omega
  refine ⟨q,rfl,?_,?_,hM,hL⟩
  ·rw [←hn,hLen,←hm];dsimp only;congr 1;omega
  ·rw [hLen,←hm];dsimp only;omega
theorem mL_byt (m:Mh):Byt (mL m):=by
 by_cases h:mM m=true
 ·have hm:=mM_iff.1 h;have hq:0≤fl m.q∧fl m.q<256:=by cases m.q<;>decide
  rw [mL,if_pos h];intro z hz;simp only [List.mem_append,List.mem_cons,List.not_mem_nil,or_false] at hz;rcases hz with (rfl | hz) | (rfl | hz) | (rfl | rfl) | hz | hz | hz
  ·omega
  ·have:=kO_at hm.2.2.1 hz;omega
  ·omega
  ·have:=kO_at hm.2.2.2.1 hz;omega
  ·omega
  ·exact hq
  ·exact byt_digs _ _ z hz
  ·exact byt_digs _ _ z hz
  ·exact byt_digs _ _ z hz
 ·rw [mL,if_neg h];intro z hz;cases hz
theorem mL_le {m:Mh} (h:mM m=true):(mL m).length≤27:=by
 have hm:=mM_iff.1 h;rw [mL,if_pos h];simp [length_digs];omega
theorem oB_byt {x:Ins} (h:inM x=true) (h0:InOk x):Byt (opr x):=by
 obtain ⟨h1,h2,h3⟩:=inM_parts h;have hw:=opLo_nonneg x.1;have hb:=h0.1;have hh:opHi x.1≤1024:=by unfold opHi;split<;>omega
 intro y hy;rw [opr] at hy;rcases List.mem_cons.1 hy with rfl | hy
 ·exact hb
 ·split at hy
  ·simp at hy;rcases hy with rfl | rfl<;>omega
  ·cases hy
theorem cB_byt {L:List Ins} (h:codM L=true) (h0:∀x∈L,InOk x):Byt (codB L):=by
 obtain ⟨h1,h2,h3⟩:=codM_parts h;intro y hy;rw [codB] at hy;rcases List.mem_cons.1 hy with rfl | hy
 ·omega
 ·obtain ⟨x,hx,hy⟩:=List.mem_flatMap.1 hy;exact oB_byt (h3 x hx) (h0 x hx) y hy
theorem oB_len (x:Ins):1≤(opr x).length∧(opr x).length≤3:=by
 rw [opr];split<;>simp
theorem oBs_len (L:List Ins):L.length≤(L.flatMap opr).length∧(L.flatMap opr).length≤3*L.length:=by
 induction L with
 | nil=>simp
 | cons x L ih =>
  have:=oB_len x;rw [List.flatMap_cons,List.length_append,List.length_cons];omega
theorem cB_le {L:List Ins} (h:codM L=true):(codB L).length≤601:=by
 have h1:=oBs_len L;have h2:=codM_parts h;rw [codB,List.length_cons];omega
abbrev Mz:=Mh×List Ins
def apM (K:List Mz) (r:List Mz×Int×Int):List Mz×Int×Int:=if r.2.2=0 then (K++r.1,r.2.1,0) else ([],0,r.2.2)
theorem apM_apM (K M:List Mz) (r:List Mz×Int×Int):apM K (apM M r)=apM (K++M) r:=by
 unfold apM;by_cases h:r.2.2=0
 ·simp [h]
 ·simp [h]
theorem apM_nil (r:List Mz×Int×Int) (h:r.2.2≠0→r=([],0,r.2.2)):apM [] r=r:=by
 unfold apM;by_cases h0:r.2.2=0
 ·obtain ⟨a,b,c⟩:=r;simp at h0;subst h0;simp
 ·rw [if_neg h0];exact (h h0).symm
def qms (l:List Int):Nat→Int→List Mz×Int×Int
 | 0,q=>([],q,0)
 | k+1,q=>match rdQ l q with
  | (m,n,e)=>if e=0 then (match rdC l n with
   | (f,K,t)=>if f=0 then apM [(m,K)] (qms l k t) else ([],0,f)) else ([],0,e)
theorem qms_err (l:List Int):∀(k:Nat) (q:Int),(qms l k q).2.2≠0→qms l k q=([],0,(qms l k q).2.2)
 | 0,q=>fun h=>absurd rfl h
 | k+1,q=>fun h=>by
  obtain ⟨m,n,e,hQ⟩:∃m n e,rdQ l q=(m,n,e):=⟨_,_,_,rfl⟩;obtain ⟨f,K,t,hC⟩:∃f K t,rdC l n=(f,K,t):=⟨_,_,_,rfl⟩;simp only [qms,hQ,hC] at h ⊢;by_cases he:e=0
  ·rw [if_pos he] at h ⊢;by_cases hf:f=0
   ·rw [if_pos hf] at h ⊢;unfold apM at h ⊢;by_cases hr:(qms l k t).2.2=0
    ·rw [if_pos hr] at h;exact absurd rfl h
    ·rw [if_neg hr]
   ·rw [if_neg hf]
  ·rw [if_neg he]
def qPz (l:List Int) (g p:List Vlu) (many:Int) (s:List Mz) (q:Int):Md×Int:=
 if getE l q 1=0 then (if (many≤getV l q 1∧getV l q 1≠255)∨getN l q 1<l.length then (Md.zero,80) else (⟨g,p,s,if getV l q 1=255 then -1 else getV l q 1⟩,0)) else (Md.zero,getE l q 1)
def qPs (l:List Int) (g p:List Vlu) (many:Int) (r:List Mz×Int×Int):Md×Int:=if r.2.2=0 then qPz l g p many r.1 r.2.1 else (Md.zero,r.2.2)
def qPm (l:List Int) (g:List Vlu) (r:List Vlu×Int×Int):Md×Int:=
 if r.2.2=0 then (if getE l r.2.1 1=0 then (if 16<getV l r.2.1 1 then (Md.zero,80) else qPs l g r.1 (getV l r.2.1 1) (qms l (getV l r.2.1 1).toNat (getN l r.2.1 1))) else (Md.zero,getE l r.2.1 1)) else (Md.zero,r.2.2)
def qPg (l:List Int) (r:List Vlu×Int×Int):Md×Int:=if r.2.2=0 then (if 4<r.1.length then (Md.zero,80) else qPm l r.1 (rdP l r.2.1)) else (Md.zero,r.2.2)
def qP (l:List Int):Md×Int:=if 2000<l.length then (Md.zero,3) else qPg l (rdP l 0)
def qOk (d:Md):Prop:=(∀x∈d.g,VlOk x)∧(∀x∈d.p,VlOk x)∧∀z∈d.s,∀x∈z.2,InOk x
theorem qmE_all:∀{s:List Mz},qmE s=0→∀z∈s,mM z.1=true∧codM z.2=true
 | [],_=>fun z hz=>(by cases hz)
 | y::s,h=>fun z hz=>by
  rw [qmE] at h;by_cases h1:mM y.1=true
  ·rw [if_pos h1] at h;by_cases h2:codM y.2=true
   ·rw [if_pos h2] at h;rcases List.mem_cons.1 hz with rfl | hz
    ·exact ⟨h1,h2⟩
    ·exact qmE_all h z hz
   ·rw [if_neg h2] at h;cases h
  ·rw [if_neg h1] at h;cases h
theorem qmE_mk:∀{s:List Mz},(∀z∈s,mM z.1=true∧codM z.2=true)→qmE s=0
 | [],_=>rfl
 | y::s,h=>by
  rw [qmE,if_pos (h y (List.mem_cons_self ..)).1,if_pos (h y (List.mem_cons_self ..)).2];exact qmE_mk fun z hz=>h z (List.mem_cons_of_mem _ hz)
theorem qms_inv {l:List Int} (hb:Byt l):∀{k p:Nat} {s:List Mz} {n:Int},p≤l.length→qms l k p=(s,n,0)→s.length=k∧(∀z∈s,mM z.1=true∧codM z.2=true)∧(∀z∈s,∀x∈z.2,InOk x)∧∃q:Nat,n=(q:Int)∧q=p+(qmB s).length∧q≤l.length∧l.drop p=qmB s++l.drop q
 | 0,p,s,n,hp,h=>by
  simp only [qms,Prod.mk.injEq] at h;obtain ⟨rfl,rfl,_⟩:=h;exact ⟨rfl,fun z hz=>(by cases hz),fun z hz=>(by cases hz),p,rfl,by simp [qmB],hp,by simp [qmB]⟩
 | k+1,p,s,n,hp,h=>by
  obtain ⟨m,t,e,hQ⟩:∃m n e,rdQ l p=(m,n,e):=⟨_,_,_,rfl⟩;simp only [qms,hQ] at h;by_cases he:e=0
  ·subst he;rw [if_pos rfl] at h;obtain ⟨q,hq,ht,hle,hm,hL⟩:=rdQ_ok hb hQ;obtain rfl:p=q:=by omega
   obtain ⟨f,K,u,hC⟩:∃f K u,rdC l t=(f,K,u):=⟨_,_,_,rfl⟩;rw [hC] at h;dsimp only at h;by_cases hf:f=0
   ·subst hf;rw [if_pos rfl] at h;obtain ⟨hk,hik,h0,h1,hu,hu2,hd⟩:=rdC_inv hb hC;obtain ⟨s',n',e',hr⟩:∃s' n' e',qms l k u=(s',n',e'):=⟨_,_,_,rfl⟩;rw [hr,apM] at h;dsimp only at h;by_cases he':e'=0
    ·subst he';rw [if_pos rfl] at h;simp only [Prod.mk.injEq] at h;obtain ⟨rfl,rfl,_⟩:=h;obtain ⟨i1,i2,i3,q',i4,i5,i6,i7⟩:=qms_inv hb hu hr;have htn:t.toNat=p+(mL m).length:=by rw [ht];omega
     rw [htn] at hu2 hd;have e1:qmB ([(m,K)]++s')=mL m++(codB K++qmB s'):=by simp [qmB]
     have hd0:l.drop p=mL m++l.drop (p+(mL m).length):=by
      conv=>lhs;rw [←List.take_append_drop (mL m).length (l.drop p)]
      rw [List.drop_drop,←hL]
     refine ⟨by simp [i1],fun z hz=>?_,fun z hz=>?_,q',i4,?_,i6,?_⟩
     ·rcases List.mem_append.1 hz with hz | hz
      ·rw [List.mem_singleton.1 hz];exact ⟨hm,hk⟩
      ·exact i2 z hz
     ·rcases List.mem_append.1 hz with hz | hz
      ·rw [List.mem_singleton.1 hz];exact hik
      ·exact i3 z hz
     ·rw [e1,i5,hu2];simp only [List.length_append];omega
     ·rw [e1,hd0,hd,i7];simp only [List.append_assoc]
    ·rw [if_neg he'] at h;simp only [Prod.mk.injEq] at h;exact absurd h.2.2 he'
   ·rw [if_neg hf] at h;simp only [Prod.mk.injEq] at h;exact absurd h.2.2 hf
  ·rw [if_neg he] at h;simp only [Prod.mk.injEq] at h;exact absurd h.2.2 he
theorem qE_parts {d:Md} (h:qE d=0):d.g.length≤4∧d.s.length≤16∧-1≤d.i∧d.i<d.s.length∧poM d.g=true∧poM d.p=true∧qmE d.s=0∧(qX d).length≤2000:=by
 unfold qE at h;by_cases h1:4<d.g.length∨16<d.s.length∨d.i < -1∨(d.s.length:Int)≤d.i
 ·rw [if_pos h1] at h;cases h
 ·rw [if_neg h1] at h;by_cases h2:poM d.g=true
  ·rw [if_pos h2] at h;by_cases h3:poM d.p=true
   ·rw [if_pos h3] at h;by_cases h4:qmE d.s=0
    ·rw [if_pos h4] at h;by_cases h5:2000<(qX d).length
     ·rw [if_pos h5] at h;cases h
     ·exact ⟨by omega,by omega,by omega,by omega,h2,h3,h4,by omega⟩
    ·rw [if_neg h4] at h;exact absurd h h4
   ·rw [if_neg h3] at h;cases h
  ·rw [if_neg h2] at h;cases h
theorem qE_mk {d:Md} (h1:d.g.length≤4) (h2:d.s.length≤16) (h3:-1≤d.i) (h4:d.i<d.s.length) (h5:poM d.g=true) (h6:poM d.p=true) (h7:qmE d.s=0) (h8:(qX d).length≤2000):qE d=0:=by
 unfold qE;rw [if_neg (by omega),if_pos h5,if_pos h6,if_pos h7,if_neg (by omega)]
def qH (d:Md):List Int:=poB d.g++(poB d.p++((d.s.length:Int)::qmB d.s))
theorem qX_H (d:Md):qX d=qH d++[if d.i<0 then 255 else d.i]:=by simp [qX,qH]
theorem at_len {a:List Int} {x:Int} {b:List Int}:(a++x::b)[a.length]?.getD 0=x:=by
 rw [List.getElem?_append_right (Nat.le_refl _)];simp
theorem qP_inv {l:List Int} (hb:Byt l) {d:Md} (h:qP l=(d,0)):qE d=0∧qX d=l∧qOk d:=by
 unfold qP at h;by_cases hl:2000<l.length
 ·rw [if_pos hl] at h;simp at h
 ·rw [if_neg hl] at h;obtain ⟨g,a,e,h1⟩:∃g a e,rdP l 0=(g,a,e):=⟨_,_,_,rfl⟩;rw [h1,qPg] at h;dsimp only at h;by_cases he:e=0
  ·subst he;rw [if_pos rfl] at h;by_cases hg:4<g.length
   ·rw [if_pos hg] at h;simp at h
   ·rw [if_neg hg] at h;obtain ⟨p1,p2,i,q,hi,hq,hql,hqi,hd⟩:=rdP_inv hb h1;obtain rfl:i=0:=by omega
    obtain ⟨p,a2,e2,h2⟩:∃g b e,rdP l a=(g,b,e):=⟨_,_,_,rfl⟩;rw [h2,qPm] at h;dsimp only at h;by_cases he2:e2=0
    ·subst he2;rw [if_pos rfl] at h;obtain ⟨p3,p4,i2,q2,hi2,hq2,hql2,hqi2,hd2⟩:=rdP_inv hb h2;obtain rfl:i2=q:=by omega
     by_cases hg1:getE l a2 1=0
     ·rw [if_pos hg1] at h;obtain ⟨b1,b2⟩:=getE_1 hg1;rw [hq2] at b1 b2 hg1 h;have b3:q2<l.length:=by omega
      obtain ⟨-,v1,n1⟩:=get_1 hb b3;rw [v1,n1] at h;obtain ⟨x,hx⟩:∃x,l[q2]?.getD 0=x:=⟨_,rfl⟩
      have hxb:0≤x∧x<256:=by
       rw [zg7 b3] at hx;rw [←hx];exact hb _ (List.getElem_mem b3)
      rw [hx] at h;by_cases hx16:16<x
      ·rw [if_pos hx16] at h;simp at h
      ·rw [if_neg hx16] at h;obtain ⟨s,a3,e3,h3⟩:∃s a e,qms l x.toNat ((q2+1:Nat):Int)=(s,a,e):=⟨_,_,_,rfl⟩;rw [h3,qPs] at h;dsimp only at h;by_cases he3:e3=0
       ·subst he3;rw [if_pos rfl,qPz] at h;obtain ⟨m1,m2,m3,q3,hq3,hqe,hql3,hd3⟩:=qms_inv hb (by omega) h3;by_cases hg2:getE l a3 1=0
        ·rw [if_pos hg2] at h;obtain ⟨b4,b5⟩:=getE_1 hg2;rw [hq3] at b4 b5 hg2 h;have b6:q3<l.length:=by omega
         obtain ⟨-,v2,n2⟩:=get_1 hb b6;rw [v2,n2] at h;obtain ⟨y,hy⟩:∃y,l[q3]?.getD 0=y:=⟨_,rfl⟩
         have hyb:0≤y∧y<256:=by
          rw [zg7 b6] at hy;rw [←hy];exact hb _ (List.getElem_mem b6)
         rw [hy] at h;by_cases hlast:(x≤y∧y≠255)∨((q3+1:Nat):Int)<l.length
         ·rw [if_pos hlast] at h;simp at h
         ·rw [if_neg hlast] at h;simp only [Prod.mk.injEq,and_true] at h;have hsx:(s.length:Int)=x:=by omega
          have hend:l.length=q3+1:=by omega
          have hd4:l.drop q3=[y]:=by
           rw [List.drop_eq_getElem_cons b6,List.drop_of_length_le (by omega)];rw [zg7 b6] at hy;rw [show l[q3]=y from hy]
          have hd5:l.drop q2=x::l.drop (q2+1):=by
           rw [List.drop_eq_getElem_cons b3];rw [zg7 b3] at hx;rw [show l[q2]=x from hx]
          have hdi:(if d.i<0 then 255 else d.i)=y:=by
           rw [←h];dsimp only;by_cases h255:y=255
           ·rw [if_pos h255,if_pos (by omega)];omega
           ·rw [if_neg h255,if_neg (by omega)]
          have hXl:qX d=l:=by
           rw [qX_H,hdi,←h,qH];dsimp only;rw [hsx];have:=hd;rw [List.drop_zero,hd2,hd5,hd3,hd4] at this;rw [this];simp
          have hdi2:-1≤d.i∧d.i<d.s.length:=by
           rw [←h];dsimp only;rw [hsx];by_cases h255:y=255
           ·rw [if_pos h255];omega
           ·rw [if_neg h255];omega
          refine ⟨qE_mk ?_ ?_ hdi2.1 hdi2.2 ?_ ?_ ?_ (by rw [hXl];omega),hXl,?_⟩
          ·rw [←h];dsimp only;omega
          ·rw [←h];dsimp only;omega
          ·rw [←h];exact p1
          ·rw [←h];exact p3
          ·rw [←h];exact qmE_mk m2
          ·rw [←h];exact ⟨p2,p4,m3⟩
        ·rw [if_neg hg2] at h;simp only [Prod.mk.injEq] at h;exact absurd h.2 hg2
       ·rw [if_neg he3] at h;simp only [Prod.mk.injEq] at h;exact absurd h.2 he3
     ·rw [if_neg hg1] at h;simp only [Prod.mk.injEq] at h;exact absurd h.2 hg1
    ·rw [if_neg he2] at h;simp only [Prod.mk.injEq] at h;exact absurd h.2 he2
  ·rw [if_neg he] at h;simp only [Prod.mk.injEq] at h;exact absurd h.2 he
def KMBytes (F:Fct):Prop:=∀(y:Ma) (d:Md) (w:World),F.p w→Hq w y d→qG d=false→Calls Tryz.prog 29 #[dv y d] w fun r w'=>∃A c,r=.returned (.tuple #[.slice A (qB d).length c,.int .i64 (qE d)]) ∧
  w'.ownsRow w.heap.size 5 1 (.slice A (qB d).length c) (qB d).length (cel (qB d))∧Below w.heap.size w w'
def KMMay (F:Fct):Prop:=∀(y:Ma) (d:Md) (w:World),F.p w→Hq w y d→qG d=false→Calls Tryz.prog 21 #[dv y d] w fun r w'=>r=.returned (.int .i64 (qE d))∧Below w.heap.size w w'
theorem qE_qG {d:Md} (h:qE d=0):qG d=false:=by
 obtain ⟨h1,h2,h3,h4,h5,h6,h7,h8⟩:=qE_parts h
 have hs:d.s.any qgE=false:=by
  rw [List.any_eq_false];intro z hz;have hz2:=qmE_all h7 z hz;have hm:=mM_iff.1 hz2.1;have hk:=codM_parts hz2.2;simp [qgE,gB];omega
 have:=poM_le h6;simp [qG,hs];omega
def mi14 (d:Md):Bool:=!(d.i==-1)&&(me10 d d.i.toNat).a.contains 3
def bl14 (d:Md):Nat→Int
 | 0=>-1
 | k+1=>if bl14 d k=-1 then (if (rw10s d k).2=0 then -1 else k) else bl14 d k
def ve14 (d:Md):Int×Int×List Ce:=
 if qE d=0 then
  (if mi14 d=true then (70,-1,[]) else
   if er12 d d.s.length=0 then
    (if (ro11 d).2=0 then (if (co12 d).2=0 then (if ch13 d=0 then (0,-1,cs12 d) else (ch13 d,-1,[])) else ((co12 d).2,-1,[])) else ((ro11 d).2,-1,[]))
   else (er12 d d.s.length,bl14 d d.s.length,[]))
 else (qE d,-1,[])
theorem er12_all {d:Md}:∀{n:Nat},(∀k,k<n→(rw10s d k).2=0)→er12 d n=0
 | 0,_=>rfl
 | n+1,h=>by rw [er12,if_pos (er12_all fun k hk=>h k (by omega))];exact h n (by omega)
theorem bl14_at {d:Md}:∀{n:Nat},er12 d n≠0→∃k:Nat,bl14 d n=k∧k<n∧(rw10s d k).2=er12 d n∧∀j,j<k→(rw10s d j).2=0
 | 0,h=>absurd rfl h
 | n+1,h=>by
  by_cases h0:er12 d n=0
  ·have hb:bl14 d n=-1:=by
    clear h;induction n with
    | zero=>rfl
    | succ n ih =>
     have h1:er12 d n=0:=Classical.byContradiction fun hn=>by rw [er12,if_neg hn] at h0;exact hn h0
     rw [er12,if_pos h1] at h0;rw [bl14,if_pos (ih h1),if_pos h0]
   rw [er12,if_pos h0] at h ⊢;rw [bl14,if_pos hb,if_neg h];exact ⟨n,rfl,by omega,rfl,fun j hj=>er12_at h0 j hj⟩
  ·obtain ⟨k,h1,h2,h3,h4⟩:=bl14_at h0;rw [er12,if_neg h0,bl14,if_neg (by omega)];exact ⟨k,h1,by omega,h3,h4⟩
theorem ve14_zero {d:Md}:(ve14 d).1=0↔qE d=0∧mi14 d=false∧er12 d d.s.length=0∧(ro11 d).2=0∧(co12 d).2=0∧ch13 d=0:=by
 unfold ve14;by_cases h1:qE d=0
 case neg=>rw [if_neg h1];exact ⟨fun h=>absurd h h1,fun h=>absurd h.1 h1⟩
 rw [if_pos h1];by_cases h2:mi14 d=true
 ·rw [if_pos h2];refine ⟨fun h=>?_,fun h=>?_⟩
  ·cases h
  ·rw [h2] at h;cases h.2.1
 rw [if_neg h2];have h2:mi14 d=false:=by simpa using h2
 by_cases h3:er12 d d.s.length=0
 case neg=>rw [if_neg h3];exact ⟨fun h=>absurd h h3,fun h=>absurd h.2.2.1 h3⟩
 rw [if_pos h3];by_cases h4:(ro11 d).2=0
 case neg=>rw [if_neg h4];exact ⟨fun h=>absurd h h4,fun h=>absurd h.2.2.2.1 h4⟩
 rw [if_pos h4];by_cases h5:(co12 d).2=0
 case neg=>rw [if_neg h5];exact ⟨fun h=>absurd h h5,fun h=>absurd h.2.2.2.2.1 h5⟩
 rw [if_pos h5];by_cases h6:ch13 d=0
 case neg=>rw [if_neg h6];exact ⟨fun h=>absurd h h6,fun h=>absurd h.2.2.2.2.2 h6⟩
 rw [if_pos h6];exact ⟨fun _=>⟨h1,h2,h3,h4,h5,h6⟩,fun _=>rfl⟩
theorem ve14_ok {d:Md} (h:(ve14 d).1=0):ve14 d=(0,-1,cs12 d):=by
 obtain ⟨h1,h2,h3,h4,h5,h6⟩:=ve14_zero.1 h;rw [ve14,if_pos h1,if_neg (by rw [h2];decide),if_pos h3,if_pos h4,if_pos h5,if_pos h6]
theorem ve14_no {d:Md} (h:(ve14 d).1≠0):(ve14 d).2.2=[]:=by
 unfold ve14 at h ⊢;split
 ·split
  ·rfl
  ·split
   ·split
    ·split
     ·split
      ·rename_i h1 h2 h3 h4 h5 h6;rw [if_pos h1,if_neg h2,if_pos h3,if_pos h4,if_pos h5,if_pos h6] at h;exact absurd rfl h
      ·rfl
     ·rfl
    ·rfl
   ·rfl
 ·rfl
theorem mi14_none {d:Md} (h:qE d=0) (hi:¬0≤d.i):mi14 d=false:=by
 obtain ⟨-,-,h3,-⟩:=qE_parts h;have:d.i=-1:=by omega
 rw [mi14,this];rfl
theorem af10s_cong {d d':Md} {h:Mh} {x:Ins} (h1:x.1=1→pk10 d'.p x.2.1.toNat=pk10 d.p x.2.1.toNat) (h2:x.1=4∨x.1=5→pk10 d'.g x.2.1.toNat=pk10 d.g x.2.1.toNat) (h3:x.1=30→me10 d' x.2.1.toNat=me10 d x.2.1.toNat) (R:List Int):af10s d' h x R=af10s d h x R:=by
 have f1:K10 d' h x=K10 d h x:=by
  unfold K10;by_cases c3:x.1=3
  ·rw [if_pos c3,if_pos c3]
  rw [if_neg c3,if_neg c3];by_cases c5:x.1=5
  ·rw [if_pos c5,if_pos c5,h2 (.inr c5)]
  rw [if_neg c5,if_neg c5];by_cases c7:x.1=7
  ·rw [if_pos c7,if_pos c7]
  rw [if_neg c7,if_neg c7];by_cases c8:x.1=8
  ·rw [if_pos c8,if_pos c8]
  rw [if_neg c8,if_neg c8];by_cases c30:x.1=30
  ·rw [if_pos c30,if_pos c30,h3 c30]
  rw [if_neg c30,if_neg c30]
 have f2:∀T,lv10 d' h x T=lv10 d h x T:=fun T=>by
  unfold lv10;by_cases c1:x.1=1
  ·rw [if_pos c1,if_pos c1,h1 c1]
  rw [if_neg c1,if_neg c1];by_cases c2:x.1=2
  ·rw [if_pos c2,if_pos c2]
  rw [if_neg c2,if_neg c2];by_cases c4:x.1=4
  ·rw [if_pos c4,if_pos c4,h2 (.inl c4)]
  rw [if_neg c4,if_neg c4];by_cases c7:x.1=7
  ·rw [if_pos c7,if_pos c7]
  rw [if_neg c7,if_neg c7];by_cases c8:x.1=8
  ·rw [if_pos c8,if_pos c8]
  rw [if_neg c8,if_neg c8];by_cases c30:x.1=30
  ·rw [if_pos c30,if_pos c30,h3 c30]
  rw [if_neg c30,if_neg c30]
 have f3:sk10 d' h x R=sk10 d h x R:=by rw [sk10,f1,←sk10]
 rw [af10s,f3,f2,←af10s]
theorem rs10s_cong {d d':Md} {h:Mh} {c:List Ins} (H:∀x∈c,∀R,af10s d' h x R=af10s d h x R):∀p,p≤c.length→rs10s d' h c p=rs10s d h c p
 | 0,_=>rfl
 | p+1,hp=>by
  have ih:=rs10s_cong H p (by omega)
  have hx:ix10 c p∈c:=by
   rw [ix10,zg7 (show p<c.length by omega)];exact List.getElem_mem _
  simp only [rs10s,ih,H _ hx]
theorem rm10s_cong {d d':Md} {h:Mh} {c:List Ins} (H:∀x∈c,∀R,af10s d' h x R=af10s d h x R) (H2:c.all (th10 d' h)=c.all (th10 d h)):rm10s d' h c=rm10s d h c:=by
 unfold rm10s;rw [rs10s_cong H _ (Nat.le_refl _),H2]
def ad14 (d:Md) (z:Mh×List Ins):Md:={ d with s:=d.s++[z]}
section
variable {d : Md} {z : Mh × List Ins}
theorem ad14_len:(ad14 d z).s.length=d.s.length+1:=by simp [ad14]
theorem ad14_at {k:Nat} (hk:k<d.s.length):(ad14 d z).s[k]?=d.s[k]?:=List.getElem?_append_left hk
theorem ad14_last:(ad14 d z).s[d.s.length]?=some z:=by simp [ad14]
theorem ad14_co {k:Nat} (hk:k<d.s.length):co11 (ad14 d z) k=co11 d k:=by rw [co11,ad14_at hk,←co11]
theorem ad14_me {k:Nat} (hk:k<d.s.length):me10 (ad14 d z) k=me10 d k:=by rw [me10,ad14_at hk,←me10]
theorem ad14_col:co11 (ad14 d z) d.s.length=z.2:=by rw [co11,ad14_last];rfl
theorem ad14_mel:me10 (ad14 d z) d.s.length=z.1:=by rw [me10,ad14_last];rfl
end
structure Nw14 (z:Mh×List Ins) (S:List Rz) (want:Ce):Prop where
 mm:mM z.1=true
 cm:codM z.2=true
 ops:∀x∈z.2,x.1≠1∧x.1≠4∧x.1≠5∧x.1≠30
 rows:rm10s Md.zero z.1 z.2=(S,0)
 own:ow12 z.1 z.2 S=want
 fit:fi12 want z.1=true
section
variable {d : Md} {z : Mh × List Ins} {S : List Rz} {want : Ce}
theorem Nw14.rm (N:Nw14 z S want) (d':Md):rm10s d' z.1 z.2=(S,0):=by
 have h1:∀x∈z.2,∀R,af10s d' z.1 x R=af10s Md.zero z.1 x R:=fun x hx R=>by
  obtain ⟨a,b,c,e⟩:=N.ops x hx;exact af10s_cong (d:=Md.zero) (d':=d') (fun h=>absurd h a) (fun h=>h.elim (fun h=>absurd h b) fun h=>absurd h c) (fun h=>absurd h e) R
 rw [rm10s_cong (d:=Md.zero) h1 ?_,N.rows]
 ·rw [Bool.eq_iff_iff,List.all_eq_true,List.all_eq_true]
  have key:∀x∈z.2,th10 d' z.1 x=th10 Md.zero z.1 x:=fun x hx=>by
   obtain ⟨a,b,c,e⟩:=N.ops x hx;unfold th10;rw [if_neg a,if_neg (by omega:¬(x.1=4∨x.1=5)),if_neg e,if_neg a,if_neg (by omega:¬(x.1=4∨x.1=5)),if_neg e]
  exact ⟨fun h x hx=>by rw [←key x hx];exact h x hx,fun h x hx=>by rw [key x hx];exact h x hx⟩
theorem Nw14.row (N:Nw14 z S want):rw10s (ad14 d z) d.s.length=(S,0):=by
 rw [rw10s,if_neg (by rw [ad14_len];omega),Int.toNat_natCast,ad14_last];exact N.rm _
theorem ad14_row {k:Nat} (hk:k<d.s.length) (h:(rw10s d k).2=0):rw10s (ad14 d z) k=rw10s d k:=by
 have hl:=ad14_len (d:=d) (z:=z);have e0:rw10s d k=rm10s d (me10 d k) (co11 d k):=by rw [rw10s,if_neg (by omega)];rfl
 have e1:rw10s (ad14 d z) k=rm10s (ad14 d z) (me10 d k) (co11 d k):=by
  rw [rw10s,if_neg (by omega),←ad14_me (z:=z) hk,←ad14_co (z:=z) hk];rfl
 rw [e0] at h;rw [e0,e1];obtain ⟨hf,ha,-⟩:=rm10s_ok h;rw [List.all_eq_true] at ha;have hin:=(codM_all (flE9_zero hf).1).2.2;refine rm10s_cong (fun x hx R=>af10s_cong (d:=d) (d':=ad14 d z) (fun _=>rfl) (fun _=>rfl) (fun h30=>?_) R) ?_
 ·have h1:=ha x hx;unfold th10 at h1;rw [if_neg (by omega),if_neg (by omega),if_neg (by omega),if_pos h30,decide_eq_true_eq] at h1;have:=inM_nn (hin x hx);exact ad14_me (by omega)
 ·rw [List.all_eq_true.2 ha,List.all_eq_true];intro x hx;have h1:=ha x hx;unfold th10 at h1 ⊢;by_cases c1:x.1=1
  ·rw [if_pos c1] at h1 ⊢;exact h1
  rw [if_neg c1] at h1 ⊢;by_cases c2:x.1=2∨x.1=3
  ·rw [if_pos c2] at h1 ⊢;exact h1
  rw [if_neg c2] at h1 ⊢;by_cases c4:x.1=4∨x.1=5
  ·rw [if_pos c4] at h1 ⊢;exact h1
  rw [if_neg c4] at h1 ⊢;by_cases c30:x.1=30
  ·rw [if_pos c30,decide_eq_true_eq] at h1 ⊢;omega
  rw [if_neg c30]
theorem Nw14.nocl (N:Nw14 z S want) (n:Int):cl11 z.2 n=false:=by
 unfold cl11;rw [List.any_eq_false];intro x hx;have:=(N.ops x hx).2.2.2;simp [this]
theorem ad14_e (N:Nw14 z S want) (hb:ba11 d=false) {k j:Nat} (hk:k<d.s.length+1) (hj:j<d.s.length+1):e11 (ad14 d z) k j=true↔k<d.s.length∧j<d.s.length∧e11 d k j=true:=by
 unfold e11;by_cases h1:k<d.s.length
 ·rw [ad14_co h1];by_cases h2:j<d.s.length
  ·simp only [h1,h2,true_and]
  ·refine ⟨fun h=>?_,fun h=>absurd h.2.1 h2⟩;exfalso;have h3:=ba11_at hb h1;unfold bd11 at h3;unfold cl11 at h;rw [List.any_eq_false] at h3;rw [List.any_eq_true] at h;obtain ⟨x,hx,h4⟩:=h;have:=h3 x hx;simp at h4 this;have:=this h4.1;omega
 ·have:k=d.s.length:=by omega
  subst this;rw [ad14_col,N.nocl];exact ⟨fun h=>(by cases h),fun h=>absurd h.1 h1⟩
theorem ad14_ba (N:Nw14 z S want) (hb:ba11 d=false):ba11 (ad14 d z)=false:=by
 refine ba11_of fun k hk=>?_;rw [ad14_len] at hk ⊢;by_cases h1:k<d.s.length
 ·rw [ad14_co h1];have h3:=ba11_at hb h1;unfold bd11 at h3 ⊢;rw [List.any_eq_false] at h3 ⊢;intro x hx;have:=h3 x hx;simp at this ⊢;intro h4;have:=this h4;omega
 ·have:k=d.s.length:=by omega
  subst this;rw [ad14_col,bd11,List.any_eq_false];intro x hx;have:=(N.ops x hx).2.2.2;simp [this]
theorem ad14_ro (N:Nw14 z S want) (h:(ro11 d).2=0):(ro11 (ad14 d z)).2=0:=by
 obtain ⟨r,hr,-⟩:=ro11_rk h;obtain ⟨hb,-⟩:=ro11_ok h
 have hr2:Rk11 (e11 (ad14 d z)) (d.s.length+1) r:=fun k j hk hj he=>by
  obtain ⟨h1,h2,h3⟩:=(ad14_e N hb hk hj).1 he;exact hr k j h1 h2 h3
 obtain ⟨o,ho⟩:=or11_rk hr2;rw [ro11,if_neg (by rw [ad14_ba N hb];decide),ad14_len,ho]
theorem ad14_er (N:Nw14 z S want) (h:er12 d d.s.length=0):er12 (ad14 d z) (ad14 d z).s.length=0:=by
 refine er12_all fun k hk=>?_;rw [ad14_len] at hk;by_cases h1:k<d.s.length
 ·rw [ad14_row h1 (er12_at h k h1)];exact er12_at h k h1
 ·have:k=d.s.length:=by omega
  subst this;rw [N.row]
theorem ad14_of (hb:ba11 d=false) {k:Nat} (hk:k<d.s.length) (h:(rw10s d k).2=0) (C:Nat→Ce):of12 (ad14 d z) C k=of12 d C k:=by
 have e1:aw12 (ad14 d z) k=aw12 d k:=by unfold aw12;rw [ad14_me hk,ad14_co hk,ad14_row hk h]
 have e2:al12 (ad14 d z) k=al12 d k:=by
  unfold al12 ca12;rw [ad14_co hk,ad14_row hk h];refine List.map_congr_left fun p hp=>?_;obtain ⟨hp1,hp2⟩:=List.mem_filter.1 hp;obtain ⟨j,h1,h2,-⟩:=call12 hb hk (List.mem_range.1 hp1) (by simpa using hp2);unfold mk12 ar12;rw [ad14_me hk,h1,Int.toNat_natCast,ad14_me h2]
 rw [of12,e1,e2,←of12]
theorem ad14_ce (N:Nw14 z S want) (h:(ro11 d).2=0) (he:er12 d d.s.length=0) {k:Nat} (hk:k<d.s.length):ce12 (ad14 d z) k=ce12 d k:=by
 obtain ⟨r,hr,-⟩:=ro11_rk h;have hb:=(ro11_ok h).1;have h':=ad14_ro N h
 have key:∀n k,k<d.s.length→r k≤n→ce12 (ad14 d z) k=ce12 d k:=by
  intro n;induction n with
  | zero =>
   intro k hk hn;rw [ce12_fix h' (by rw [ad14_len];omega),ad14_of hb hk (er12_at he k hk),ce12_fix h hk];refine to12_congr fun x hx=>?_;obtain ⟨h1,h2⟩:=al12_mem hb hk hx;have:=hr k _ hk h1 h2;omega
  | succ n ih =>
   intro k hk hn;rw [ce12_fix h' (by rw [ad14_len];omega),ad14_of hb hk (er12_at he k hk),ce12_fix h hk];refine to12_congr fun x hx=>?_;obtain ⟨h1,h2⟩:=al12_mem hb hk hx;have:=hr k _ hk h1 h2;exact ih _ h1 (by omega)
 exact key (r k) k hk (Nat.le_refl _)
theorem ad14_new (N:Nw14 z S want) (h:(ro11 d).2=0):ce12 (ad14 d z) d.s.length=want:=by
 have e2:al12 (ad14 d z) d.s.length=[]:=by
  unfold al12 ca12;rw [ad14_col,List.map_eq_nil_iff,List.filter_eq_nil_iff];intro p hp;obtain ⟨hm,e1,-⟩:=iO9_mem (List.mem_range.1 hp);have:=(N.ops _ hm).2.2.2;rw [e1];simpa using this
 rw [ce12_fix (ad14_ro N h) (by rw [ad14_len];omega),of12,e2,aw12,ad14_mel,ad14_col,N.row];exact N.own
theorem ad14_sd (N:Nw14 z S want) (hb:ba11 d=false) (h:sd13 d=true):sd13 (ad14 d z)=true:=by
 rw [sd13_iff] at h ⊢;intro k hk hr;rw [ad14_len] at hk ⊢;by_cases h1:k<d.s.length
 ·have er:re13 (ad14 d z) k=re13 d k:=by rw [re13,hd13,ad14_at h1,←hd13,←re13]
  have es:so13 (ad14 d z) k=so13 d k:=by rw [so13,ad14_co h1,←so13]
  rw [er] at hr;obtain ⟨a,b⟩:=h k h1 hr;refine ⟨by rw [es];exact a,fun i hi he=>?_⟩;obtain ⟨-,h2,h3⟩:=(ad14_e N hb hk hi).1 he;rw [re13,hd13,ad14_at h2,←hd13,←re13];exact b i h2 h3
 ·have:k=d.s.length:=by omega
  subst this;refine ⟨?_,fun i hi he=>absurd ((ad14_e N hb hk hi).1 he).1 h1⟩;rw [so13,ad14_col,st13,List.any_eq_false];intro x hx;have:=(N.ops x hx).2.2.1;simp [this]
theorem more14 (N:Nw14 z S want) (h:(ve14 d).1=0) (hn:d.s.length<16):(ve14 (ad14 d z)).1=qE (ad14 d z)∧(qE (ad14 d z)=3∨ve14 (ad14 d z)=(0,-1,cs12 d++[want])):=by
 obtain ⟨h1,h2,h3,h4,h5,h6⟩:=ve14_zero.1 h;have hl:=ad14_len (d:=d) (z:=z);have hb:=(ro11_ok h4).1
 have hq:qE (ad14 d z)=if 2000<(qX (ad14 d z)).length then 3 else 0:=by
  obtain ⟨a1,a2,a3,a4,a5,a6,a7,a8⟩:=qE_parts h1
  have e7:qmE (ad14 d z).s=0:=qmE_mk fun y hy=>by
   rcases List.mem_append.1 hy with hy | hy
   ·exact qmE_all a7 y hy
   ·rw [List.mem_singleton.1 hy];exact ⟨N.mm,N.cm⟩
  have eg:(ad14 d z).g=d.g:=rfl;have ep:(ad14 d z).p=d.p:=rfl;have ei:(ad14 d z).i=d.i:=rfl;rw [qE,hl,eg,ep,ei,if_neg (by omega),if_pos a5,if_pos a6,if_pos e7]
 by_cases hlen:2000<(qX (ad14 d z)).length
 ·rw [if_pos hlen] at hq;have:ve14 (ad14 d z)=(qE (ad14 d z),-1,[]):=by rw [ve14,if_neg (by rw [hq];decide)]
  rw [this];exact ⟨rfl,.inl hq⟩
 rw [if_neg hlen] at hq
 have hm:mi14 (ad14 d z)=false:=by
  obtain ⟨-,-,a3,a4,-⟩:=qE_parts h1;by_cases hi:0≤d.i
  ·have e:mi14 (ad14 d z)=mi14 d:=by
    have hk:d.i.toNat<d.s.length:=by omega
    unfold mi14;rw [show (ad14 d z).i=d.i from rfl,ad14_me hk]
   rw [e];exact h2
  ·exact mi14_none hq hi
 have hro:=ad14_ro N h4;have her:=ad14_er N h3;have hce:∀k,k<d.s.length→ce12 (ad14 d z) k=ce12 d k:=fun k hk=>ad14_ce N h4 h3 hk;obtain ⟨c1,c2,c3,c4⟩:=co12_ok h5
 have hok:ok12 (ad14 d z) (ad14 d z).s.length=true:=by
  refine ok12_of hro fun k hk=>?_;rw [hl] at hk;by_cases hk2:k<d.s.length
  ·rw [hce k hk2,ad14_me hk2];exact ok12_at h4 c3 hk2
  ·have:k=d.s.length:=by omega
   subst this;rw [ad14_new N h4,ad14_mel];exact N.fit
 have hcs:cs12 (ad14 d z)=cs12 d++[want]:=by
  unfold cs12;rw [hl,List.range_succ,List.map_append,List.map_singleton,ad14_new N h4];congr 1;exact List.map_congr_left fun k hk=>hce k (List.mem_range.1 hk)
 have hco:(co12 (ad14 d z)).2=0:=by rw [co12,if_pos hro,if_pos her,if_pos hok]
 have hch:ch13 (ad14 d z)=0:=by
  have hs:sd13 d=true:=Classical.byContradiction fun hn=>by rw [ch13,if_neg (by rw [hb];decide),if_neg hn] at h6;cases h6
  rw [ch13,if_neg (by rw [ad14_ba N hb];decide),if_pos (ad14_sd N hb hs)]
 have:=ve14_ok (ve14_zero.2 ⟨hq,hm,her,hro,hco,hch⟩);rw [hcs] at this;rw [this];exact ⟨hq.symm,.inr rfl⟩
end
def za14:Mh×List Ins:=(⟨[1],[],1,true,2,2,0⟩,[(2,0,0),(31,0,0)])
def zb14:Mh×List Ins:=(⟨[1,1],[],1,false,4,4,0⟩,[(2,0,0),(2,1,0),(9,0,0),(31,0,0)])
def zc14:Mh×List Ins:=(⟨[],[],2,false,1,0,0⟩,[(32,0,0)])
theorem nwa14:Nw14 za14 [(true,[]),(true,[1])] (2,2,0):=⟨by decide +kernel,by decide +kernel,by decide +kernel,by decide +kernel,by decide +kernel,by decide +kernel⟩
theorem nwb14:Nw14 zb14 [(true,[]),(true,[1]),(true,[1,1]),(true,[1])] (4,4,0):=⟨by decide +kernel,by decide +kernel,by decide +kernel,by decide +kernel,by decide +kernel,by decide +kernel⟩
theorem nwc14:Nw14 zc14 [(true,[])] (1,0,0):=⟨by decide +kernel,by decide +kernel,by decide +kernel,by decide +kernel,by decide +kernel,by decide +kernel⟩
structure Sp (lo hi:Nat) (w w':World):Prop where
 os:w'.os=w.os
 tape:w'.tape=w.tape
 output:w'.output=w.output
 size:w.heap.size≤w'.heap.size
 block:∀k,k<w.heap.size→(k<lo∨hi≤k)→w'.heap[k]?=w.heap[k]?
section
variable {lo hi : Nat} {w w1 w2 : World}
theorem Sp.refl (lo hi:Nat) (w:World):Sp lo hi w w:=⟨rfl,rfl,rfl,Nat.le_refl _,fun _ _ _=>rfl⟩
theorem Sp.trans (h:Sp lo hi w w1) (k:Sp lo hi w1 w2):Sp lo hi w w2:=
 ⟨k.os.trans h.os,k.tape.trans h.tape,k.output.trans h.output,Nat.le_trans h.size k.size,fun i hi hr=>(k.block i (Nat.lt_of_lt_of_le hi h.size) hr).trans (h.block i hi hr)⟩
theorem Sp.of_below (h:Below w.heap.size w w1):Sp lo hi w w1:=⟨h.os,h.tape,h.output,h.size,fun k hk _=>h.block k hk⟩
theorem Sp.call (h:Sp lo hi w w1) (k:Below w1.heap.size w1 w2):Sp lo hi w w2:=h.trans (Sp.of_below k)
theorem Sp.set (h:Sp lo hi w w1) {g:Nat} (h1:lo≤g) (h2:g<hi) (j:Nat) (v:Value):Sp lo hi w (w1.setCell ⟨g,j,none⟩ v):=
 h.trans ⟨rfl,rfl,rfl,by simp [World.setCell],fun k _ hr=>Below.heap_setCell _ _ _ _ (show k≠g by omega)⟩
theorem Sp.toBelow (h:Sp lo hi w w1) (hl:lo≤w.heap.size):Below lo w w1:=⟨h.os,h.tape,h.output,h.size,fun k hk=>h.block k (by omega) (.inl hk)⟩
end
def Owz (w:World) (lo hi:Nat) (z:Me):Prop:=Rs w lo hi 5 1 z.x.A z.m.a.length∧Rs w lo hi 5 1 z.x.B z.m.l.length∧Rs w lo hi 57 3 z.x.D z.x.k
def Ow (w:World) (lo hi:Nat) (y:Ma) (d:Md):Prop:=
 Rs w lo hi 139 3 y.G d.g.length∧Rs w lo hi 139 3 y.P d.p.length∧Rs w lo hi 50 8 y.A d.s.length∧∀z∈y.Z,Owz w lo hi z
section
variable {w w' : World} {lo hi lo2 hi2 : Nat} {y : Ma} {d : Md} {z : Me}
theorem Owz.keep (h:Owz w lo hi z) (hb:Below w.heap.size w w'):Owz w' lo hi z:=⟨h.1.keep hb,h.2.1.keep hb,h.2.2.keep hb⟩
theorem Ow.keep (h:Ow w lo hi y d) (hb:Below w.heap.size w w'):Ow w' lo hi y d:=⟨h.1.keep hb,h.2.1.keep hb,h.2.2.1.keep hb,fun z hz=>(h.2.2.2 z hz).keep hb⟩
theorem Ow.zero (w:World) (lo hi:Nat):Ow w lo hi Ma.zero Md.zero:=⟨.inl rfl,.inl rfl,.inl rfl,fun z hz=>by cases hz⟩
theorem Rs.blk {e size n:Nat} {A:Option Addr} (h:Rs w lo hi e size A n) (hn:0<n):∃g,A=some ⟨g,0,none⟩∧lo≤g∧g<hi∧g<w.heap.size:=by
 rcases h with h | ⟨g,cur,a1,a2,a3,a4,a5⟩
 ·omega
 ·exact ⟨g,a1,a2,a3,(zg9.1 a4).1⟩
theorem add_block (a:Addr) (i:Nat):(a.add i).block=a.block:=by unfold Addr.add;split<;>rfl
theorem Sp.at_ {p:Addr} (h:Sp lo hi w w') (h1:p.block<w.heap.size) (h2:p.block<lo∨hi≤p.block):w'.cell? p=w.cell? p:=World.cell?_of_block (w:=w) (h.block p.block h1 h2)
theorem Rd.apart {A:Option Addr} {c e:Nat} {l:List Int} (h:Rd w A c l) (hs:Rs w lo2 hi2 e 1 A l.length) (hp:Sp lo hi w w') (ha:hi2≤lo∨hi≤lo2):Rd w' A c l:=by
 refine ⟨h.1,h.2.1,h.2.2.1,?_⟩;rcases h.2.2.2 with hn | ⟨ad,rfl,hc⟩
 ·exact .inl hn
 ·refine .inr ⟨ad,rfl,fun i x hx=>?_⟩;obtain ⟨g,e1,g1,g2,g3⟩:=hs.blk (by have:=(zg8.1 hx).1;omega);obtain rfl:=Option.some.inj e1;exact (hp.at_ (by rw [add_block];exact g3) (by rw [add_block];show g<lo∨hi≤g;omega)).trans (hc i x hx)
theorem Rv.apart {A:Option Addr} {c e:Nat} {l:List Vlu} (h:Rv w A c l) (hs:Rs w lo2 hi2 e 3 A l.length) (hp:Sp lo hi w w') (ha:hi2≤lo∨hi≤lo2):Rv w' A c l:=by
 refine ⟨h.1,h.2.1,h.2.2.1,?_⟩;rcases h.2.2.2 with hn | ⟨ad,rfl,hc⟩
 ·exact .inl hn
 ·refine .inr ⟨ad,rfl,fun i x hx=>?_⟩;obtain ⟨g,e1,g1,g2,g3⟩:=hs.blk (by have:=(zg8.1 hx).1;omega);obtain rfl:=Option.some.inj e1;obtain ⟨c1,c2,c3⟩:=hc i x hx;have k:∀j,w'.cell? ⟨((⟨g,0,none⟩:Addr).add (i*3)).block,j,none⟩=w.cell? ⟨((⟨g,0,none⟩:Addr).add (i*3)).block,j,none⟩:=fun j=>hp.at_ (by show ((⟨g,0,none⟩:Addr).add (i*3)).block<_;rw [add_block];exact g3) (by show ((⟨g,0,none⟩:Addr).add (i*3)).block<lo∨hi≤((⟨g,0,none⟩:Addr).add (i*3)).block;rw [add_block];show g<lo∨hi≤g;omega);exact ⟨(hp.at_ (by rw [add_block];exact g3) (by rw [add_block];show g<lo∨hi≤g;omega)).trans c1,(k _).trans c2,(k _).trans c3⟩
theorem Ri.apart {A:Option Addr} {c e:Nat} {l:List Ins} (h:Ri w A c l) (hs:Rs w lo2 hi2 e 3 A l.length) (hp:Sp lo hi w w') (ha:hi2≤lo∨hi≤lo2):Ri w' A c l:=by
 refine ⟨h.1,h.2.1,h.2.2.1,?_⟩;rcases h.2.2.2 with hn | ⟨ad,rfl,hc⟩
 ·exact .inl hn
 ·refine .inr ⟨ad,rfl,fun i x hx=>?_⟩;obtain ⟨g,e1,g1,g2,g3⟩:=hs.blk (by have:=(zg8.1 hx).1;omega);obtain rfl:=Option.some.inj e1;obtain ⟨c1,c2,c3⟩:=hc i x hx;have k:∀j,w'.cell? ⟨((⟨g,0,none⟩:Addr).add (i*3)).block,j,none⟩=w.cell? ⟨((⟨g,0,none⟩:Addr).add (i*3)).block,j,none⟩:=fun j=>hp.at_ (by show ((⟨g,0,none⟩:Addr).add (i*3)).block<_;rw [add_block];exact g3) (by show ((⟨g,0,none⟩:Addr).add (i*3)).block<lo∨hi≤((⟨g,0,none⟩:Addr).add (i*3)).block;rw [add_block];show g<lo∨hi≤g;omega);exact ⟨(hp.at_ (by rw [add_block];exact g3) (by rw [add_block];show g<lo∨hi≤g;omega)).trans c1,(k _).trans c2,(k _).trans c3⟩
theorem At8.apart {p:Addr} (h:At8 w p z) (hp:Sp lo hi w w') (ha:p.block<lo∨hi≤p.block):At8 w' p z:=by
 obtain ⟨h1,h2,h3,h4,h5,h6,h7,h8⟩:=h;have k:∀{a:Addr} {v:Value},a.block=p.block→w.cell? a=some v→w'.cell? a=some v:=fun e hv=>(hp.at_ (cell_lt hv) (by rw [e];exact ha)).trans hv;exact ⟨k rfl h1,k rfl h2,k rfl h3,k rfl h4,k rfl h5,k rfl h6,k rfl h7,k rfl h8⟩
theorem Hq.apart (h:Hq w y d) (ho:Ow w lo2 hi2 y d) (hp:Sp lo hi w w') (ha:hi2≤lo∨hi≤lo2):Hq w' y d:=by
 refine ⟨h.1.apart ho.1 hp ha,h.2.1.apart ho.2.1 hp ha,⟨fun z hz=>?_,h.2.2.1.2.1,h.2.2.1.2.2.1,?_⟩,h.2.2.2⟩
 ·obtain ⟨⟨k1,k2,k3⟩,k4,k5⟩:=h.2.2.1.1 z hz;obtain ⟨o1,o2,o3⟩:=ho.2.2.2 z hz;exact ⟨⟨k1.apart o1 hp ha,k2.apart o2 hp ha,k3⟩,k4.apart (by rw [k5];exact o3) hp ha,k5⟩
 ·rcases h.2.2.1.2.2.2 with hn | ⟨ad,e0,hc⟩
  ·exact .inl hn
  ·refine .inr ⟨ad,e0,fun i z hz=>?_⟩;obtain ⟨g,e1,g1,g2,g3⟩:=ho.2.2.1.blk (by have:=(zg8.1 hz).1;rw [h.zlen] at this;omega);rw [e0] at e1;obtain rfl:=Option.some.inj e1;exact (hc i z hz).apart hp (by rw [add_block];show g<lo∨hi≤g;omega)
end
theorem qG_bd {w:World} {y:Ma} {d:Md} (hq:Hq w y d) (h:qG d=false):d.g.length≤100∧d.p.length≤100∧d.s.length≤40∧∀z∈y.Z,z.m.a.length≤100∧z.m.l.length≤100∧z.x.k≤300:=by
 rw [qG,Bool.or_eq_false_iff,Bool.or_eq_false_iff,Bool.or_eq_false_iff,decide_eq_false_iff_not,decide_eq_false_iff_not,decide_eq_false_iff_not,List.any_eq_false] at h;obtain ⟨h1,h2,h3,h4⟩:=h;refine ⟨by omega,by omega,by omega,fun z hz=>?_⟩;have h5:=h4 (z.m,z.k) (by rw [←hq.2.2.2.1];exact List.mem_map.2 ⟨z,hz,rfl⟩);have h6:=(hq.2.2.1.1 z hz).2.2;rw [qgE,Bool.not_eq_true,Bool.or_eq_false_iff,decide_eq_false_iff_not] at h5;have h7:=gB_no h5.1;have h8:=h5.2;dsimp only at h7 h8;omega
theorem ci9_oneN (L:List Int):∀u∈ci9 L,u.oneCell'=true:=by
 intro u hu;simp only [ci9,List.mem_map] at hu;obtain ⟨x,-,rfl⟩:=hu;rfl
end Go.Proofs.YtnjgkkoiamiaaaaGreatDoor
