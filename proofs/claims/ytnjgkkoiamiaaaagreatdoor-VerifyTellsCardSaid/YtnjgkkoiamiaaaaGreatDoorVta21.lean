import Derived.Test.YtnjgkkoiamiaaaaGreatDoorVta1
import Derived.Test.YtnjgkkoiamiaaaaGreatDoorVta20
import Derived.Test.YtnjgkkoiamiaaaaGreatDoorVta2
import Derived.OwnWalk
import Derived.Laws.OwnMore
import Derived.Test.YtnjgkkoiamiaaaaGreatDoorVta3
import Derived.Test.YtnjgkkoiamiaaaaGreatDoorVta4
import Derived.Test.YtnjgkkoiamiaaaaGreatDoorVta6
import Derived.Test.YtnjgkkoiamiaaaaGreatDoorVta19
set_option maxRecDepth 100000
set_option maxHeartbeats 16000000
set_option linter.unusedSimpArgs false
set_option linter.unusedVariables false
namespace Go.Proofs.YtnjgkkoiamiaaaaGreatDoor
open Go.RowKit
theorem zyx (A:Option Addr) (c n:Nat) (l:List Int) (k:Int) (v:Bool) (w:World) (hr:Rd w A c l) (hn:l.length=n) (hv:l.contains k=v) :
  Calls Tryz.prog 90 #[.slice A n c,.int .u8 k] w fun e w'=>∃z:Int,e=.returned (.int .i64 z)∧decide (0≤z)=v∧Below w.heap.size w w':=by
 subst hn;have hlen:=hr.len;have HR:=zhy hr;have HV:=zhy hv;clear hr hv;go_enter Tryz.func90,Tryz.ntmps90;go_wp2_with fail;go_loopw [5,8] (fun u i wr=>∃j:Nat,j≤l.length∧i=.int .i64 j∧Hid (k∉l.take j)∧Hid (Below w.heap.size w wr)) (fun _ i _=>l.length-(intOf i).toNat)
 case atStart=>exact ⟨0,by omega,rfl,by simp [Hid],Below.refl _ _⟩
 case round =>
  obtain ⟨j,hj,rfl,HT,HB⟩:=hrel;by_cases h1:j<l.length
  ·obtain ⟨ad,rfl,hc⟩:=(HR.o.keep HB.o).at_ h1;rw [zg7 h1] at hc;simp only [Option.getD_some] at hc;by_cases hx:k=l[j]
   ·have HN:Hid (v=true):=by
     rw [Hid,←HV.o,List.contains_iff_mem,hx];exact List.getElem_mem h1
    clear HT;generalize l[j]=x at *;subst hx;go_wp2_with fail;go_ret;exact ⟨_,rfl,by rw [HN.o];simp,HB.o⟩
   ·have HN:Hid (k∉l.take (j+1)):=by
     rw [Hid,List.take_add_one,zg7 h1];simp only [Option.toList_some,List.mem_append,List.mem_singleton,not_or];exact ⟨HT.o,hx⟩
    have E:(k==l[j])=false:=by simpa using hx
    clear HT hx;generalize l[j]=x at *;go_wp2_with fail;go_roundw
    case rel=>exact ⟨j+1,by omega,by go_num,HN,HB⟩
    case measure=>simp [intOf];omega
  ·obtain rfl:j=l.length:=by omega
   have HN:Hid (v=false):=by
    have:=HT.o;rw [List.take_length] at this;rw [Hid,←HV.o];simpa using this
   clear HT;go_wp2_with fail;go_ret;exact ⟨_,rfl,by rw [HN.o];rfl,HB.o⟩
theorem zz5 (A:Option Addr) (c n:Nat) (l:List Int) (k:Int) (v:Bool) (w:World) (hr:Rd w A c l) (hn:l.length=n) (hv:l.contains k=v) :
  Calls Tryz.prog 48 #[.slice A n c,.int .u8 k] w fun e w'=>e=.returned (.bool v)∧Below w.heap.size w w':=by
 have P1:=zhy (zyx A c n l k v w hr hn hv);clear hr hn hv;go_enter Tryz.func48,Tryz.ntmps48;go_wp2_with fail;refine P1.o.mono ?_;rintro e w1 ⟨z,rfl,hz,hb⟩;have HB:=zhy hb;clear P1 hb;go_wp2_with fail;go_ret;exact ⟨by rw [←hz];rfl,HB.o⟩
theorem zxv (x:Mc) (m:Mh) (v:Bool) (w:World) (hx:Hd w x m) (hv:mG m=v):Calls Tryz.prog 35 #[mv x m] w fun e w'=>e=.returned (.bool v)∧Below w.heap.size w w':=by
 obtain ⟨XA,xc,XB,xd,XD,xk,xe⟩:=x;have hla:=hx.la;have HV:=zhy hv;have S0:=zhy (((Sx.start w).add (fH ⟨XA,xc,XB,xd,XD,xk,xe⟩ m) hx).mkM ⟨XA,xc,XB,xd,XD,xk,xe⟩ m);clear hx hv;go_enter Tryz.func35,Tryz.ntmps35;go_upto_region 1 with (fail);have S1:Hid (Sx w (w.alloc (.cells #[.slice XA m.a.length xc,.slice XB m.l.length xd,.int .u8 m.r,.bool m.q,.int .i64 m.f,.int .i64 m.s,.int .i64 m.h,.slice XD xk xe] 50)) [fM w.heap.size ⟨XA,xc,XB,xd,XD,xk,xe⟩ m,fH ⟨XA,xc,XB,xd,XD,xk,xe⟩ m]):=S0;clear S0;generalize w.alloc (.cells #[.slice XA m.a.length xc,.slice XB m.l.length xd,.int .u8 m.r,.bool m.q,.int .i64 m.f,.int .i64 m.s,.int .i64 m.h,.slice XD xk xe] 50)=w0 at S1 ⊢;obtain ⟨z0,z1,z2,z3,z4,z5,z6,z7,z8⟩:=S1.o.2.1;dsimp only at z1 z2 z8;go_wp2_with fail;go_loopw [3] (fun i wr=>∃j:Nat,j≤m.a.length∧i=.int .i64 j∧Hid (3∉m.a.take j)∧wr=w0) (fun i _=>m.a.length-(intOf i).toNat)
 case atStart=>exact ⟨0,by omega,rfl,by simp [Hid],rfl⟩
 case round =>
  obtain ⟨j,hj,rfl,HT,hwr⟩:=hrel;subst wr;by_cases h1:j<m.a.length
  ·have hR:Rd w0 XA xc m.a:=S1.o.2.2.1.1;obtain ⟨ad,rfl,hc⟩:=hR.at_ h1;rw [zg7 h1] at hc;simp only [Option.getD_some] at hc;clear hR;by_cases hx:m.a[j]=3
   ·have HN:Hid (v=false):=by
     rw [Hid,←HV.o,mG,show m.a.contains 3=true by rw [List.contains_iff_mem,←hx];exact List.getElem_mem h1];simp
    have E:(m.a[j]==3)=true:=by simpa using hx
    clear HT hx;generalize m.a[j]=k at *;go_wp2_with fail;go_ret;exact ⟨by rw [HN.o];rfl,S1.o.1⟩
   ·have HN:Hid (3∉m.a.take (j+1)):=by
     rw [Hid,List.take_add_one,zg7 h1];simp only [Option.toList_some,List.mem_append,List.mem_singleton,not_or];exact ⟨HT.o,fun e=>hx e.symm⟩
    have E:(m.a[j]==3)=false:=by simpa using hx
    clear HT hx;generalize m.a[j]=k at *;go_wp2_with fail;go_roundw
    case rel=>exact ⟨j+1,by omega,by go_num,HN,trivial⟩
    case measure=>simp [intOf];omega
  ·obtain rfl:j=m.a.length:=by omega
   have HN:Hid (mM m=v):=by
    have:=HT.o;rw [List.take_length] at this;rw [Hid,←HV.o,mG,show m.a.contains 3=false by simpa using this];simp
   clear HT;go_wp2_with fail;refine (zko ⟨XA,xc,XB,xd,XD,xk,xe⟩ m v _ S1.o.2.2.1 HN.o).mono ?_;rintro e w1 ⟨rfl,hb1⟩;have S2:=zhy (S1.o.call hb1);clear hb1 S1 z0 z1 z2 z3 z4 z5 z6 z7 z8;go_wp2_with fail;go_ret;exact ⟨rfl,S2.o.1⟩
theorem zp5 (x:Mc) (m:Mh) (w:World) (hx:Hd w x m) (hv:mM m=false):Calls Tryz.prog 117 #[mv x m] w fun e w'=>e=.returned (.tuple #[.slice none 0 0,.int .i64 70])∧Below w.heap.size w w':=by
 have S0:=zhy (((Sx.start w).add (fH x m) hx).mkM x m);clear hx;obtain ⟨z0,z1,z2,z3,z4,z5,z6,z7,z8⟩:=S0.o.2.1;have P1:=zhy (zko x m false _ S0.o.2.2.1 hv);clear hv;go_enter Tryz.func117,Tryz.ntmps117;go_wp2_with fail;refine P1.o.mono ?_;rintro e w1 ⟨rfl,hb1⟩;have S1:=zhy (S0.o.call hb1);clear hb1 P1 S0 z0 z1 z2 z3 z4 z5 z6 z7 z8;go_wp2_with fail;go_ret2;exact ⟨rfl,S1.o.1⟩
theorem zp0 (x:Mc) (m:Mh) (w:World) (hx:Hd w x m) (hv:mM m=true):Calls Tryz.prog 117 #[mv x m] w fun e w'=>∃A c,e=.returned (.tuple #[.slice A (mL m).length c,.int .i64 0]) ∧
  w'.ownsRow w.heap.size 5 1 (.slice A (mL m).length c) (mL m).length (cel (mL m))∧Below w.heap.size w w':=by
 obtain ⟨i0,hi,hz0,hz1,hz2⟩:=info_parts Tryz.info5;have hmm:=zbu.1 hv;obtain ⟨hm1,hm2,-,-,⟨hr1,hr2⟩,⟨hf1,hf2⟩,⟨hs1,hs2⟩,hh1,hh2⟩:=hmm;have HL:Hid (mL m=((m.a.length:Int)::m.a)++(((m.l.length:Int)::m.l)++([m.r,fl m.q]++(qu m.f 3++(qu m.s 2++qu m.h 2))))):=by rw [Hid,mL,if_pos hv]
 have PF:Hid (zcn 3 m.f=0∧zan 3 m.f=qu m.f 3):=zy (k:=3) (by omega) (by omega) (by omega) (by rw [show zbb 3=16777216 by decide];omega);have PS:Hid (zcn 2 m.s=0∧zan 2 m.s=qu m.s 2):=zy (k:=2) (by omega) (by omega) (by omega) (by rw [show zbb 2=65536 by decide];omega);have PH:Hid (zcn 2 m.h=0∧zan 2 m.h=qu m.h 2):=zy (k:=2) (by omega) (by omega) (by omega) (by rw [show zbb 2=65536 by decide];omega);have S0:=zhy (((Sx.start w).add (fH x m) hx).mkM x m);clear hx;obtain ⟨z0,z1,z2,z3,z4,z5,z6,z7,z8⟩:=S0.o.2.1;have P1:=zhy (zko x m true _ S0.o.2.2.1 hv);clear hv;have hma:(m.a.length:Int) % 256=m.a.length:=by omega
 have hml:(m.l.length:Int) % 256=m.l.length:=by omega
 go_enter Tryz.func117,Tryz.ntmps117;go_wp2_with fail;refine P1.o.mono ?_;rintro e w1 ⟨rfl,hb1⟩;have S1:=zhy (S0.o.call hb1);clear hb1 P1 S0 z0 z1 z2 z3 z4 z5 z6 z7 z8;obtain ⟨z0,z1,z2,z3,z4,z5,z6,z7,z8⟩:=S1.o.2.1;have HO1:Hid ((w1.alloc (.cells #[.int .u8 m.a.length] 5)).ownsRow w1.heap.size 5 1 (.slice (some ⟨w1.heap.size,0,none⟩) 1 1) 1 (cel [(m.a.length:Int)])):=World.ownsRow_lit (base:=w1.heap.size) (e:=5) (size:=1) w1 #[.int .u8 m.a.length] 1 (Nat.le_refl _) (by unfold maxLen;simp) (by simp);have HB1:Hid (Below w1.heap.size w1 (w1.alloc (.cells #[.int .u8 m.a.length] 5))):=qh;go_upto_region 4 with (fail);clear z0 z1 z2 z3 z4 z5 z6 z7 z8;generalize w1.alloc (.cells #[.int .u8 m.a.length] 5)=W1 at HO1 HB1 ⊢;obtain ⟨z0,z1,z2,z3,z4,z5,z6,z7,z8⟩:=(S1.o.call HB1.o).2.1;go_wp2_with (at_builtin;refine qa _ rfl _ _ 40 rfl w1.heap.size 5 i0 Tryz.underlying40 hi hz0 hz1 hz2 _ 1 [(m.a.length:Int)] rfl HO1.o x.A m.a.length x.c m.a rfl ((S1.o.call HB1.o).2.2.1.1) rfl (by omega) HB1.o.size ?_);intro A2 c2 W2 ho hg hb hor;obtain ⟨X2,hX2⟩:∃X,(m.a.length:Int)::m.a=X:=⟨_,rfl⟩;obtain ⟨n2,hn2⟩:∃n,1+m.a.length=n:=⟨_,rfl⟩;rw [hX2,hn2] at ho;rw [hn2] at hor;rw [hn2];have HX2:Hid (X2=(m.a.length:Int)::m.a∧n2=1+m.a.length):=⟨hX2.symm,hn2.symm⟩;have bn2:n2≤1000+2*20:=by omega
 have HO2:=zhy ho;have HB2:=zhy (HB1.o.trans hb);clear ho hg hb hor HO1 HB1 hX2 hn2;clear z0 z1 z2 z3 z4 z5 z6 z7 z8;go_upto_region 5 with (fail);obtain ⟨z0,z1,z2,z3,z4,z5,z6,z7,z8⟩:=(S1.o.call HB2.o).2.1;have HOx:=zhy (qb (B:=w1.heap.size) HO2.o (qh (a:=.cells #[.int .u8 ((m.l.length:Int))] 5)) (Nat.le_refl _));have HRx:=zhy (qo W2 ((m.l.length:Int)) (by omega));have HBx:Hid (Below w1.heap.size w1 (W2.alloc (.cells #[.int .u8 ((m.l.length:Int))] 5))):=HB2.o.alloc HB2.o.size _;clear HO2 HB2;go_wp2_with (at_builtin;refine qa _ rfl _ _ 40 rfl w1.heap.size 5 i0 Tryz.underlying40 hi hz0 hz1 hz2 _ n2 X2 rfl HOx.o _ 1 1 [(m.l.length:Int)] rfl HRx.o rfl (by omega) HBx.o.size ?_);intro A3 c3 W3 ho hg hb _;obtain ⟨X3,hX3⟩:∃X,X2++[(m.l.length:Int)]=X:=⟨_,rfl⟩;obtain ⟨n3,hn3⟩:∃n,n2+1=n:=⟨_,rfl⟩;rw [hX3,hn3] at ho;rw [hn3];have HX3:Hid (X3=X2++[(m.l.length:Int)]∧n3=n2+1):=⟨hX3.symm,hn3.symm⟩;have bn3:n3≤1000+3*20:=by omega
 have HO3:=zhy ho;have HB3:=zhy (HBx.o.trans hb);clear ho hg hb HOx HRx HBx hX3 hn3;clear z0 z1 z2 z3 z4 z5 z6 z7 z8;go_upto_region 6 with (fail);obtain ⟨z0,z1,z2,z3,z4,z5,z6,z7,z8⟩:=(S1.o.call HB3.o).2.1;go_wp2_with (at_builtin;refine qa _ rfl _ _ 40 rfl w1.heap.size 5 i0 Tryz.underlying40 hi hz0 hz1 hz2 _ n3 X3 rfl HO3.o x.B m.l.length x.d m.l rfl ((S1.o.call HB3.o).2.2.1.2.1) rfl (by omega) HB3.o.size ?_);intro A4 c4 W4 ho hg hb hor;obtain ⟨X4,hX4⟩:∃X,X3++m.l=X:=⟨_,rfl⟩;obtain ⟨n4,hn4⟩:∃n,n3+m.l.length=n:=⟨_,rfl⟩;rw [hX4,hn4] at ho;rw [hn4] at hor;rw [hn4];have HX4:Hid (X4=X3++m.l∧n4=n3+m.l.length):=⟨hX4.symm,hn4.symm⟩;have bn4:n4≤1000+4*20:=by omega
 have HO4:=zhy ho;have HB4:=zhy (HB3.o.trans hb);clear ho hg hb hor HO3 HB3 hX4 hn4;clear z0 z1 z2 z3 z4 z5 z6 z7 z8;go_upto_region 7 with (fail);obtain ⟨z0,z1,z2,z3,z4,z5,z6,z7,z8⟩:=(S1.o.call HB4.o).2.1;have HOx:=zhy (qb (B:=w1.heap.size) HO4.o (qh (a:=.cells #[.int .u8 (m.r)] 5)) (Nat.le_refl _));have HRx:=zhy (qo W4 (m.r) (by omega));have HBx:Hid (Below w1.heap.size w1 (W4.alloc (.cells #[.int .u8 (m.r)] 5))):=HB4.o.alloc HB4.o.size _;clear HO4 HB4;go_wp2_with (at_builtin;refine qa _ rfl _ _ 40 rfl w1.heap.size 5 i0 Tryz.underlying40 hi hz0 hz1 hz2 _ n4 X4 rfl HOx.o _ 1 1 [m.r] rfl HRx.o rfl (by omega) HBx.o.size ?_);intro A5 c5 W5 ho hg hb _;obtain ⟨X5,hX5⟩:∃X,X4++[m.r]=X:=⟨_,rfl⟩;obtain ⟨n5,hn5⟩:∃n,n4+1=n:=⟨_,rfl⟩;rw [hX5,hn5] at ho;rw [hn5];have HX5:Hid (X5=X4++[m.r]∧n5=n4+1):=⟨hX5.symm,hn5.symm⟩;have bn5:n5≤1000+5*20:=by omega
 have HO5:=zhy ho;have HB5:=zhy (HBx.o.trans hb);clear ho hg hb HOx HRx HBx hX5 hn5;clear z0 z1 z2 z3 z4 z5 z6 z7 z8;go_upto_region 8 with (fail);cases hq:m.q with
 | true =>
  have HQ:Hid (fl m.q=1):=by rw [Hid,hq];rfl
  obtain ⟨z0,z1,z2,z3,z4,z5,z6,z7,z8⟩:=(S1.o.call HB5.o).2.1;rw [hq] at z4;have HOx:=zhy (qb (B:=w1.heap.size) HO5.o (qh (a:=.cells #[.int .u8 (1)] 5)) (Nat.le_refl _));have HRx:=zhy (qo W5 (1) (by omega));have HBx:Hid (Below w1.heap.size w1 (W5.alloc (.cells #[.int .u8 (1)] 5))):=HB5.o.alloc HB5.o.size _;clear HO5 HB5;go_wp2_with (at_builtin;refine qa _ rfl _ _ 40 rfl w1.heap.size 5 i0 Tryz.underlying40 hi hz0 hz1 hz2 _ n5 X5 rfl HOx.o _ 1 1 [1] rfl HRx.o rfl (by omega) HBx.o.size ?_);intro A6 c6 W6 ho hg hb _;obtain ⟨X6,hX6⟩:∃X,X5++[1]=X:=⟨_,rfl⟩;obtain ⟨n6,hn6⟩:∃n,n5+1=n:=⟨_,rfl⟩;rw [hX6,hn6] at ho;rw [hn6];have HX6:Hid (X6=X5++[1]∧n6=n5+1):=⟨hX6.symm,hn6.symm⟩;have bn6:n6≤1000+6*20:=by omega
  have HO6:=zhy ho;have HB6:=zhy (HBx.o.trans hb);clear ho hg hb HOx HRx HBx hX6 hn6;clear z0 z1 z2 z3 z4 z5 z6 z7 z8;go_upto_region 11 with (fail);obtain ⟨lo,hlo⟩:∃lo,W6.heap.size=lo:=⟨_,rfl⟩;have HloW6:lo≤W6.heap.size:=by omega
  have OBl:Hid (∀b,(Value.slice A6 n6 c6).ownBlock=some b→b<lo):=fun b h=>by have:=(HO6.o.lt b h).2;omega
  clear hlo hq;obtain ⟨z0,z1,z2,z3,z4,z5,z6,z7,z8⟩:=(S1.o.call HB6.o).2.1;go_wp2_with fail;refine (za6 3 m.f _ (by omega)).mono ?_;rintro e W7 ⟨AF,cF,rfl,ho,hb⟩;rw [PF.o.1,PF.o.2,qe];rw [PF.o.2,qe] at ho
  have HRF:Hid (Rd W7 AF cF (qu m.f 3)∧∀ad,AF=some ad→lo≤ad.block):=by
   refine ⟨qt ho (qr _ _),fun ad h=>?_⟩;obtain ⟨g,hg1,hg2⟩:=zah ho (by decide);rw [hg1] at h;obtain rfl:=Option.some.inj h;have:=HloW6;show lo≤g;omega
  have HloW7:lo≤W7.heap.size:=Nat.le_trans HloW6 hb.size;have HOn:=zhy (qb HO6.o hb (Nat.le_refl _));have HBn:=zhy (qc HB6.o hb);clear ho hb HO6 HB6;clear z0 z1 z2 z3 z4 z5 z6 z7 z8;have HO6:=HOn;have HB6:=HBn;clear HOn HBn;go_upto_region 12 with (fail);obtain ⟨z0,z1,z2,z3,z4,z5,z6,z7,z8⟩:=(S1.o.call HB6.o).2.1;go_wp2_with fail;refine (za6 2 m.s _ (by omega)).mono ?_;rintro e W8 ⟨AS,cS,rfl,ho,hb⟩;rw [PS.o.1,PS.o.2,qe];rw [PS.o.2,qe] at ho
  have HRS:Hid (Rd W8 AS cS (qu m.s 2)∧∀ad,AS=some ad→lo≤ad.block):=by
   refine ⟨qt ho (qr _ _),fun ad h=>?_⟩;obtain ⟨g,hg1,hg2⟩:=zah ho (by decide);rw [hg1] at h;obtain rfl:=Option.some.inj h;have:=HloW7;show lo≤g;omega
  have HloW8:lo≤W8.heap.size:=Nat.le_trans HloW7 hb.size;have HOn:=zhy (qb HO6.o hb (Nat.le_refl _));have HBn:=zhy (qc HB6.o hb);have HRFn:Hid (Rd W8 AF cF (qu m.f 3)∧∀ad,AF=some ad→lo≤ad.block):=⟨HRF.o.1.keep hb,HRF.o.2⟩;clear ho hb HO6 HB6 HRF;clear z0 z1 z2 z3 z4 z5 z6 z7 z8;have HO6:=HOn;have HB6:=HBn;clear HOn HBn;have HRF:=HRFn;clear HRFn;go_upto_region 13 with (fail);obtain ⟨z0,z1,z2,z3,z4,z5,z6,z7,z8⟩:=(S1.o.call HB6.o).2.1;go_wp2_with fail;refine (za6 2 m.h _ (by omega)).mono ?_;rintro e W9 ⟨AH,cH,rfl,ho,hb⟩;rw [PH.o.1,PH.o.2,qe];rw [PH.o.2,qe] at ho
  have HRH:Hid (Rd W9 AH cH (qu m.h 2)∧∀ad,AH=some ad→lo≤ad.block):=by
   refine ⟨qt ho (qr _ _),fun ad h=>?_⟩;obtain ⟨g,hg1,hg2⟩:=zah ho (by decide);rw [hg1] at h;obtain rfl:=Option.some.inj h;have:=HloW8;show lo≤g;omega
  have HloW9:lo≤W9.heap.size:=Nat.le_trans HloW8 hb.size;have HOn:=zhy (qb HO6.o hb (Nat.le_refl _));have HBn:=zhy (qc HB6.o hb);have HRFn:Hid (Rd W9 AF cF (qu m.f 3)∧∀ad,AF=some ad→lo≤ad.block):=⟨HRF.o.1.keep hb,HRF.o.2⟩;have HRSn:Hid (Rd W9 AS cS (qu m.s 2)∧∀ad,AS=some ad→lo≤ad.block):=⟨HRS.o.1.keep hb,HRS.o.2⟩;clear ho hb HO6 HB6 HRF HRS;clear z0 z1 z2 z3 z4 z5 z6 z7 z8;have HO6:=HOn;have HB6:=HBn;clear HOn HBn;have HRF:=HRFn;clear HRFn;have HRS:=HRSn;clear HRSn;go_upto_region 14 with (fail);go_wp2_with (at_builtin;refine qa _ rfl _ _ 40 rfl w1.heap.size 5 i0 Tryz.underlying40 hi hz0 hz1 hz2 _ n6 X6 rfl HO6.o AF 3 cF (qu m.f 3) rfl (HRF.o.1) (qe _ _).symm (by omega) HB6.o.size ?_);intro A7 c7 W10 ho hg hb hor;obtain ⟨X7,hX7⟩:∃X,X6++(qu m.f 3)=X:=⟨_,rfl⟩;obtain ⟨n7,hn7⟩:∃n,n6+3=n:=⟨_,rfl⟩;rw [hX7,hn7] at ho;rw [hn7] at hor;rw [hn7];have HX7:Hid (X7=X6++(qu m.f 3)∧n7=n6+3):=⟨hX7.symm,hn7.symm⟩;have bn7:n7≤1000+7*20:=by omega
  have HO7:=zhy ho;have HB7:=zhy (HB6.o.trans hb);have HS2:Hid (Rd W10 AS cS (qu m.s 2)∧∀ad,AS=some ad→lo≤ad.block):=⟨HRS.o.1.grown hg (fun ad h0 _ e=>by have:=OBl.o _ e.symm;have:=HRS.o.2 ad h0;omega),HRS.o.2⟩;have HH2:Hid (Rd W10 AH cH (qu m.h 2)∧∀ad,AH=some ad→lo≤ad.block):=⟨HRH.o.1.grown hg (fun ad h0 _ e=>by have:=OBl.o _ e.symm;have:=HRH.o.2 ad h0;omega),HRH.o.2⟩;have HH3:Hid (∀ad,AH=some ad→ad.block<W9.heap.size):=fun ad h0=>zni HRH.o.1 h0 (by rw [qe];decide)
  have OB2:Hid (∀b,(Value.slice A7 n7 c7).ownBlock=some b→b<lo∨W9.heap.size≤b):=fun b h=>by
   rcases hor with e | e
   ·rw [e] at h;exact .inl (OBl.o b h)
   ·rw [e] at h;injection h with h;exact .inr (by omega)
  clear HRF HRS HRH;clear ho hg hb hor HO6 HB6 hX7 hn7;go_upto_region 15 with (fail);go_wp2_with (at_builtin;refine qa _ rfl _ _ 40 rfl w1.heap.size 5 i0 Tryz.underlying40 hi hz0 hz1 hz2 _ n7 X7 rfl HO7.o AS 2 cS (qu m.s 2) rfl (HS2.o.1) (qe _ _).symm (by omega) HB7.o.size ?_);intro A8 c8 W11 ho hg hb hor;obtain ⟨X8,hX8⟩:∃X,X7++(qu m.s 2)=X:=⟨_,rfl⟩;obtain ⟨n8,hn8⟩:∃n,n7+2=n:=⟨_,rfl⟩;rw [hX8,hn8] at ho;rw [hn8] at hor;rw [hn8];have HX8:Hid (X8=X7++(qu m.s 2)∧n8=n7+2):=⟨hX8.symm,hn8.symm⟩;have bn8:n8≤1000+8*20:=by omega
  have HO8:=zhy ho;have HB8:=zhy (HB7.o.trans hb)
  have HH4:Hid (Rd W11 AH cH (qu m.h 2)):=HH2.o.1.grown hg (fun ad h0 _ e=>by
   have:=OB2.o _ e.symm;have:=HH2.o.2 ad h0;have:=HH3.o ad h0;omega)
  clear HS2 HH2 HH3 OB2 OBl;clear ho hg hb hor HO7 HB7 hX8 hn8;go_upto_region 16 with (fail);go_wp2_with (at_builtin;refine qa _ rfl _ _ 40 rfl w1.heap.size 5 i0 Tryz.underlying40 hi hz0 hz1 hz2 _ n8 X8 rfl HO8.o AH 2 cH (qu m.h 2) rfl (HH4.o) (qe _ _).symm (by omega) HB8.o.size ?_);intro A9 c9 W12 ho hg hb hor;obtain ⟨X9,hX9⟩:∃X,X8++(qu m.h 2)=X:=⟨_,rfl⟩;obtain ⟨n9,hn9⟩:∃n,n8+2=n:=⟨_,rfl⟩;rw [hX9,hn9] at ho;rw [hn9] at hor;rw [hn9];have HX9:Hid (X9=X8++(qu m.h 2)∧n9=n8+2):=⟨hX9.symm,hn9.symm⟩;have bn9:n9≤1000+9*20:=by omega
  have HO9:=zhy ho;have HB9:=zhy (HB8.o.trans hb);clear HH4;clear ho hg hb hor HO8 HB8 hX9 hn9;go_wp2_with fail;go_ret2
  have hXL:X9=mL m:=by
   rw [HX9.o.1,HX8.o.1,HX7.o.1,HX6.o.1,HX5.o.1,HX4.o.1,HX3.o.1,HX2.o.1,HL.o,HQ.o];simp
  have hnL:n9=(mL m).length:=by
   have:=HO9.o.1;rw [zo,hXL] at this;omega
  subst hXL hnL;exact ⟨A9,c9,rfl,qg HO9.o S1.o.1.size,qc S1.o.1 HB9.o⟩
 | false =>
  have HQ:Hid (fl m.q=0):=by rw [Hid,hq];rfl
  obtain ⟨z0,z1,z2,z3,z4,z5,z6,z7,z8⟩:=(S1.o.call HB5.o).2.1;rw [hq] at z4;have HOx:=zhy (qb (B:=w1.heap.size) HO5.o (qh (a:=.cells #[.int .u8 (0)] 5)) (Nat.le_refl _));have HRx:=zhy (qo W5 (0) (by omega));have HBx:Hid (Below w1.heap.size w1 (W5.alloc (.cells #[.int .u8 (0)] 5))):=HB5.o.alloc HB5.o.size _;clear HO5 HB5;go_wp2_with (at_builtin;refine qa _ rfl _ _ 40 rfl w1.heap.size 5 i0 Tryz.underlying40 hi hz0 hz1 hz2 _ n5 X5 rfl HOx.o _ 1 1 [0] rfl HRx.o rfl (by omega) HBx.o.size ?_);intro A6 c6 W6 ho hg hb _;obtain ⟨X6,hX6⟩:∃X,X5++[0]=X:=⟨_,rfl⟩;obtain ⟨n6,hn6⟩:∃n,n5+1=n:=⟨_,rfl⟩;rw [hX6,hn6] at ho;rw [hn6];have HX6:Hid (X6=X5++[0]∧n6=n5+1):=⟨hX6.symm,hn6.symm⟩;have bn6:n6≤1000+6*20:=by omega
  have HO6:=zhy ho;have HB6:=zhy (HBx.o.trans hb);clear ho hg hb HOx HRx HBx hX6 hn6;clear z0 z1 z2 z3 z4 z5 z6 z7 z8;go_upto_region 11 with (fail);obtain ⟨lo,hlo⟩:∃lo,W6.heap.size=lo:=⟨_,rfl⟩;have HloW6:lo≤W6.heap.size:=by omega
  have OBl:Hid (∀b,(Value.slice A6 n6 c6).ownBlock=some b→b<lo):=fun b h=>by have:=(HO6.o.lt b h).2;omega
  clear hlo hq;obtain ⟨z0,z1,z2,z3,z4,z5,z6,z7,z8⟩:=(S1.o.call HB6.o).2.1;go_wp2_with fail;refine (za6 3 m.f _ (by omega)).mono ?_;rintro e W7 ⟨AF,cF,rfl,ho,hb⟩;rw [PF.o.1,PF.o.2,qe];rw [PF.o.2,qe] at ho
  have HRF:Hid (Rd W7 AF cF (qu m.f 3)∧∀ad,AF=some ad→lo≤ad.block):=by
   refine ⟨qt ho (qr _ _),fun ad h=>?_⟩;obtain ⟨g,hg1,hg2⟩:=zah ho (by decide);rw [hg1] at h;obtain rfl:=Option.some.inj h;have:=HloW6;show lo≤g;omega
  have HloW7:lo≤W7.heap.size:=Nat.le_trans HloW6 hb.size;have HOn:=zhy (qb HO6.o hb (Nat.le_refl _));have HBn:=zhy (qc HB6.o hb);clear ho hb HO6 HB6;clear z0 z1 z2 z3 z4 z5 z6 z7 z8;have HO6:=HOn;have HB6:=HBn;clear HOn HBn;go_upto_region 12 with (fail);obtain ⟨z0,z1,z2,z3,z4,z5,z6,z7,z8⟩:=(S1.o.call HB6.o).2.1;go_wp2_with fail;refine (za6 2 m.s _ (by omega)).mono ?_;rintro e W8 ⟨AS,cS,rfl,ho,hb⟩;rw [PS.o.1,PS.o.2,qe];rw [PS.o.2,qe] at ho
  have HRS:Hid (Rd W8 AS cS (qu m.s 2)∧∀ad,AS=some ad→lo≤ad.block):=by
   refine ⟨qt ho (qr _ _),fun ad h=>?_⟩;obtain ⟨g,hg1,hg2⟩:=zah ho (by decide);rw [hg1] at h;obtain rfl:=Option.some.inj h;have:=HloW7;show lo≤g;omega
  have HloW8:lo≤W8.heap.size:=Nat.le_trans HloW7 hb.size;have HOn:=zhy (qb HO6.o hb (Nat.le_refl _));have HBn:=zhy (qc HB6.o hb);have HRFn:Hid (Rd W8 AF cF (qu m.f 3)∧∀ad,AF=some ad→lo≤ad.block):=⟨HRF.o.1.keep hb,HRF.o.2⟩;clear ho hb HO6 HB6 HRF;clear z0 z1 z2 z3 z4 z5 z6 z7 z8;have HO6:=HOn;have HB6:=HBn;clear HOn HBn;have HRF:=HRFn;clear HRFn;go_upto_region 13 with (fail);obtain ⟨z0,z1,z2,z3,z4,z5,z6,z7,z8⟩:=(S1.o.call HB6.o).2.1;go_wp2_with fail;refine (za6 2 m.h _ (by omega)).mono ?_;rintro e W9 ⟨AH,cH,rfl,ho,hb⟩;rw [PH.o.1,PH.o.2,qe];rw [PH.o.2,qe] at ho
  have HRH:Hid (Rd W9 AH cH (qu m.h 2)∧∀ad,AH=some ad→lo≤ad.block):=by
   refine ⟨qt ho (qr _ _),fun ad h=>?_⟩;obtain ⟨g,hg1,hg2⟩:=zah ho (by decide);rw [hg1] at h;obtain rfl:=Option.some.inj h;have:=HloW8;show lo≤g;omega
  have HloW9:lo≤W9.heap.size:=Nat.le_trans HloW8 hb.size;have HOn:=zhy (qb HO6.o hb (Nat.le_refl _));have HBn:=zhy (qc HB6.o hb);have HRFn:Hid (Rd W9 AF cF (qu m.f 3)∧∀ad,AF=some ad→lo≤ad.block):=⟨HRF.o.1.keep hb,HRF.o.2⟩;have HRSn:Hid (Rd W9 AS cS (qu m.s 2)∧∀ad,AS=some ad→lo≤ad.block):=⟨HRS.o.1.keep hb,HRS.o.2⟩;clear ho hb HO6 HB6 HRF HRS;clear z0 z1 z2 z3 z4 z5 z6 z7 z8;have HO6:=HOn;have HB6:=HBn;clear HOn HBn;have HRF:=HRFn;clear HRFn;have HRS:=HRSn;clear HRSn;go_upto_region 14 with (fail);go_wp2_with (at_builtin;refine qa _ rfl _ _ 40 rfl w1.heap.size 5 i0 Tryz.underlying40 hi hz0 hz1 hz2 _ n6 X6 rfl HO6.o AF 3 cF (qu m.f 3) rfl (HRF.o.1) (qe _ _).symm (by omega) HB6.o.size ?_);intro A7 c7 W10 ho hg hb hor;obtain ⟨X7,hX7⟩:∃X,X6++(qu m.f 3)=X:=⟨_,rfl⟩;obtain ⟨n7,hn7⟩:∃n,n6+3=n:=⟨_,rfl⟩;rw [hX7,hn7] at ho;rw [hn7] at hor;rw [hn7];have HX7:Hid (X7=X6++(qu m.f 3)∧n7=n6+3):=⟨hX7.symm,hn7.symm⟩;have bn7:n7≤1000+7*20:=by omega
  have HO7:=zhy ho;have HB7:=zhy (HB6.o.trans hb);have HS2:Hid (Rd W10 AS cS (qu m.s 2)∧∀ad,AS=some ad→lo≤ad.block):=⟨HRS.o.1.grown hg (fun ad h0 _ e=>by have:=OBl.o _ e.symm;have:=HRS.o.2 ad h0;omega),HRS.o.2⟩;have HH2:Hid (Rd W10 AH cH (qu m.h 2)∧∀ad,AH=some ad→lo≤ad.block):=⟨HRH.o.1.grown hg (fun ad h0 _ e=>by have:=OBl.o _ e.symm;have:=HRH.o.2 ad h0;omega),HRH.o.2⟩;have HH3:Hid (∀ad,AH=some ad→ad.block<W9.heap.size):=fun ad h0=>zni HRH.o.1 h0 (by rw [qe];decide)
  have OB2:Hid (∀b,(Value.slice A7 n7 c7).ownBlock=some b→b<lo∨W9.heap.size≤b):=fun b h=>by
   rcases hor with e | e
   ·rw [e] at h;exact .inl (OBl.o b h)
   ·rw [e] at h;injection h with h;exact .inr (by omega)
  clear HRF HRS HRH;clear ho hg hb hor HO6 HB6 hX7 hn7;go_upto_region 15 with (fail);go_wp2_with (at_builtin;refine qa _ rfl _ _ 40 rfl w1.heap.size 5 i0 Tryz.underlying40 hi hz0 hz1 hz2 _ n7 X7 rfl HO7.o AS 2 cS (qu m.s 2) rfl (HS2.o.1) (qe _ _).symm (by omega) HB7.o.size ?_);intro A8 c8 W11 ho hg hb hor;obtain ⟨X8,hX8⟩:∃X,X7++(qu m.s 2)=X:=⟨_,rfl⟩;obtain ⟨n8,hn8⟩:∃n,n7+2=n:=⟨_,rfl⟩;rw [hX8,hn8] at ho;rw [hn8] at hor;rw [hn8];have HX8:Hid (X8=X7++(qu m.s 2)∧n8=n7+2):=⟨hX8.symm,hn8.symm⟩;have bn8:n8≤1000+8*20:=by omega
  have HO8:=zhy ho;have HB8:=zhy (HB7.o.trans hb)
  have HH4:Hid (Rd W11 AH cH (qu m.h 2)):=HH2.o.1.grown hg (fun ad h0 _ e=>by
   have:=OB2.o _ e.symm;have:=HH2.o.2 ad h0;have:=HH3.o ad h0;omega)
  clear HS2 HH2 HH3 OB2 OBl;clear ho hg hb hor HO7 HB7 hX8 hn8;go_upto_region 16 with (fail);go_wp2_with (at_builtin;refine qa _ rfl _ _ 40 rfl w1.heap.size 5 i0 Tryz.underlying40 hi hz0 hz1 hz2 _ n8 X8 rfl HO8.o AH 2 cH (qu m.h 2) rfl (HH4.o) (qe _ _).symm (by omega) HB8.o.size ?_);intro A9 c9 W12 ho hg hb hor;obtain ⟨X9,hX9⟩:∃X,X8++(qu m.h 2)=X:=⟨_,rfl⟩;obtain ⟨n9,hn9⟩:∃n,n8+2=n:=⟨_,rfl⟩;rw [hX9,hn9] at ho;rw [hn9] at hor;rw [hn9];have HX9:Hid (X9=X8++(qu m.h 2)∧n9=n8+2):=⟨hX9.symm,hn9.symm⟩;have bn9:n9≤1000+9*20:=by omega
  have HO9:=zhy ho;have HB9:=zhy (HB8.o.trans hb);clear HH4;clear ho hg hb hor HO8 HB8 hX9 hn9;go_wp2_with fail;go_ret2
  have hXL:X9=mL m:=by
   rw [HX9.o.1,HX8.o.1,HX7.o.1,HX6.o.1,HX5.o.1,HX4.o.1,HX3.o.1,HX2.o.1,HL.o,HQ.o];simp
  have hnL:n9=(mL m).length:=by
   have:=HO9.o.1;rw [zo,hXL] at this;omega
  subst hXL hnL;exact ⟨A9,c9,rfl,qg HO9.o S1.o.1.size,qc S1.o.1 HB9.o⟩
theorem zw0 (m:Mh):Byt (mL m):=by
 by_cases h:mM m=true
 ·have hm:=zbu.1 h;have hq:0≤fl m.q∧fl m.q<256:=by cases m.q<;>decide
  rw [mL,if_pos h];intro z hz;simp only [List.mem_append,List.mem_cons,List.not_mem_nil,or_false] at hz;rcases hz with (rfl | hz) | (rfl | hz) | (rfl | rfl) | hz | hz | hz
  ·omega
  ·have:=znb hm.2.2.1 hz;omega
  ·omega
  ·have:=znb hm.2.2.2.1 hz;omega
  ·omega
  ·exact hq
  ·exact qr _ _ z hz
  ·exact qr _ _ z hz
  ·exact qr _ _ z hz
 ·rw [mL,if_neg h];intro z hz;cases hz
theorem qbc {m:Mh} (h:mM m=true):(mL m).length≤27:=by
 have hm:=zbu.1 h;rw [mL,if_pos h];simp [qe];omega
theorem qcy {x:Ins} (h:inM x=true) (h0:zt7 x):Byt (opr x):=by
 obtain ⟨h1,h2,h3⟩:=zqt h;have hw:=zkh x.1;have hb:=h0.1;have hh:zf3 x.1≤1024:=by unfold zf3;split<;>omega
 intro y hy;rw [opr] at hy;rcases List.mem_cons.1 hy with rfl | hy
 ·exact hb
 ·split at hy
  ·simp at hy;rcases hy with rfl | rfl<;>omega
  ·cases hy
theorem zw4 {L:List Ins} (h:jq L=true) (h0:∀x∈L,zt7 x):Byt (ze8 L):=by
 obtain ⟨h1,h2,h3⟩:=zge h;intro y hy;rw [ze8] at hy;rcases List.mem_cons.1 hy with rfl | hy
 ·omega
 ·obtain ⟨x,hx,hy⟩:=List.mem_flatMap.1 hy;exact qcy (h3 x hx) (h0 x hx) y hy
theorem qbv (x:Ins):1≤(opr x).length∧(opr x).length≤3:=by
 rw [opr];split<;>simp
theorem zz6 (L:List Ins):L.length≤(L.flatMap opr).length∧(L.flatMap opr).length≤3*L.length:=by
 induction L with
 | nil=>simp
 | cons x L ih =>
  have:=qbv x;rw [List.flatMap_cons,List.length_append,List.length_cons];omega
theorem qcz {L:List Ins} (h:jq L=true):(ze8 L).length≤601:=by
 have h1:=zz6 L;have h2:=zge h;rw [ze8,List.length_cons];omega
theorem qay (L:List Ins):0<(ze8 L).length:=by rw [ze8,List.length_cons];omega
theorem qa1 {s:List (Mh×List Ins)} {j:Nat} (h:j<s.length):qmE (s.drop j)=if mM (s[j]).1=true then (if jq (s[j]).2=true then qmE (s.drop (j+1)) else 40) else 70:=by
 rw [List.drop_eq_getElem_cons h,qmE]
theorem zut {s:List (Mh×List Ins)} {j:Nat} (h:j<s.length):qmB (s.take (j+1))=qmB (s.take j)++(mL (s[j]).1++ze8 (s[j]).2):=by
 rw [List.take_add_one,zg7 h,qmB,List.flatMap_append];simp [qmB]
theorem zrr (y:Ma) (d:Md) (w:World) (hq:Hq w y d):Calls Tryz.prog 70 #[dv y d] w fun r w'=>∃A c,r=.returned (.tuple #[.slice A (qB d).length c,.int .i64 (qE d)]) ∧
  w'.ownsRow w.heap.size 5 1 (.slice A (qB d).length c) (qB d).length (cel (qB d))∧Below w.heap.size w w':=by
 have hls:=hq.2.2.1.len;have hlg:=hq.1.len;have hlp:=hq.2.1.len;have hib:=hq.2.2.2.2;have hzl:=hq.zlen;rw [hzl] at hls;have HZL:=zhy hzl;have HZA:=zhy (fun (i:Nat) (h1:i<y.Z.length) (h2:i<d.s.length)=>hq.zat h1 h2);obtain ⟨G,gc,P,pc,A,c,Z⟩:=y;dsimp only at HZL HZA hzl;obtain ⟨i0,hi,hz0,hz1,hz2⟩:=info_parts Tryz.info5;have S0:=zhy (((Sx.start w).add (fQm ⟨G,gc,P,pc,A,c,Z⟩ d) hq).mkD ⟨G,gc,P,pc,A,c,Z⟩ d);clear hq hzl;obtain ⟨z0,z1,z2,z3,z4⟩:=(S0.o.call (Below.refl _ _)).2.1;dsimp only at z1 z2 z3;go_enter Tryz.func70,Tryz.ntmps70;by_cases c1:4<d.g.length
 ·have HE:Hid (qE d=80):=by rw [Hid,qE,if_pos (by omega)]
  have HB0:Hid (qB d=[]):=by rw [Hid,qB,HE.o];rfl
  go_wp2_with fail;go_ret2;exact ⟨none,0,by rw [HE.o,HB0.o];rfl,by rw [HB0.o];exact World.ownsRow_nil _ _ _ _,S0.o.1⟩
 ·by_cases c2:16<d.s.length
  ·have HE:Hid (qE d=80):=by rw [Hid,qE,if_pos (by omega)]
   have HB0:Hid (qB d=[]):=by rw [Hid,qB,HE.o];rfl
   go_wp2_with fail;go_ret2;exact ⟨none,0,by rw [HE.o,HB0.o];rfl,by rw [HB0.o];exact World.ownsRow_nil _ _ _ _,S0.o.1⟩
  ·by_cases c3:d.i < -1
   ·have HE:Hid (qE d=80):=by rw [Hid,qE,if_pos (by omega)]
    have HB0:Hid (qB d=[]):=by rw [Hid,qB,HE.o];rfl
    go_wp2_with fail;go_ret2;exact ⟨none,0,by rw [HE.o,HB0.o];rfl,by rw [HB0.o];exact World.ownsRow_nil _ _ _ _,S0.o.1⟩
   ·by_cases c4:(d.s.length:Int)≤d.i
    ·have HE:Hid (qE d=80):=by rw [Hid,qE,if_pos (by omega)]
     have HB0:Hid (qB d=[]):=by rw [Hid,qB,HE.o];rfl
     go_wp2_with fail;go_ret2;exact ⟨none,0,by rw [HE.o,HB0.o];rfl,by rw [HB0.o];exact World.ownsRow_nil _ _ _ _,S0.o.1⟩
    ·have HQ:Hid (qE d=if poM d.g=true then (if poM d.p=true then (if qmE d.s=0 then (if 2000<(qX d).length then 3 else 0) else qmE d.s) else 60) else 60):=by rw [Hid,qE,if_neg (by omega)]
     go_upto_region 3 with (fail);have S0':Hid (Sx w (w.alloc (.cells #[.slice G d.g.length gc,.slice P d.p.length pc,.slice A d.s.length c,.int .i64 d.i] 25)) [fD w.heap.size ⟨G,gc,P,pc,A,c,Z⟩ d,fQm ⟨G,gc,P,pc,A,c,Z⟩ d]):=S0;clear S0;generalize w.alloc (.cells #[.slice G d.g.length gc,.slice P d.p.length pc,.slice A d.s.length c,.int .i64 d.i] 25)=w0 at *;have S0:=S0';clear S0';have hs0:=S0.o.1.size;clear z0 z1 z2 z3 z4;obtain ⟨z0,z1,z2,z3,z4⟩:=(S0.o.call (Below.refl _ _)).2.1;dsimp only at z1 z2 z3;go_wp2_with fail;refine (ziq G gc _ d.g _ S0.o.2.2.1.1 rfl).mono ?_;rintro r w1 ⟨A1,c1,rfl,ho1,hb1⟩;have HO1:=zhy ho1;have HB1:=zhy hb1;clear ho1 hb1;clear z0 z1 z2 z3 z4;obtain ⟨z0,z1,z2,z3,z4⟩:=(S0.o.call HB1.o).2.1;dsimp only at z1 z2 z3;cases hpg:poM d.g with
     | false =>
      have e1:poE d.g=60:=by rw [poE,if_neg (by rw [hpg];decide)]
      have HE:Hid (qE d=60):=by rw [Hid,HQ.o,if_neg (by rw [hpg];decide)]
      have HB0:Hid (qB d=[]):=by rw [Hid,qB,HE.o];rfl
      go_wp2_with fail;go_ret2;exact ⟨none,0,by rw [HE.o,HB0.o];rfl,by rw [HB0.o];exact World.ownsRow_nil _ _ _ _,(S0.o.call HB1.o).1⟩
     | true =>
      have e1:poE d.g=0:=by rw [poE,if_pos hpg]
      have HL1:Hid (poL d.g=poB d.g):=by rw [Hid,poL,if_pos hpg]
      have HQ1:Hid (qE d=if poM d.p=true then (if qmE d.s=0 then (if 2000<(qX d).length then 3 else 0) else qmE d.s) else 60):=by rw [Hid,HQ.o,if_pos hpg]
      clear HQ hpg;go_wp2_with fail;refine (ziq P pc _ d.p _ (S0.o.call HB1.o).2.2.1.2.1 rfl).mono ?_;rintro r w2 ⟨A2,c2,rfl,ho2,hb2⟩;have HO2:=zhy (qb HO1.o hb2 (Nat.le_refl _));have HB2:=zhy (qc HB1.o hb2);have HR2:=zhy (qt ho2 (zkl _));clear ho2 hb2 HO1 HB1 e1;clear z0 z1 z2 z3 z4;obtain ⟨z0,z1,z2,z3,z4⟩:=(S0.o.call HB2.o).2.1;dsimp only at z1 z2 z3;cases hpp:poM d.p with
      | false =>
       have e2:poE d.p=60:=by rw [poE,if_neg (by rw [hpp];decide)]
       have HE:Hid (qE d=60):=by rw [Hid,HQ1.o,if_neg (by rw [hpp];decide)]
       have HB0:Hid (qB d=[]):=by rw [Hid,qB,HE.o];rfl
       go_wp2_with fail;go_ret2;exact ⟨none,0,by rw [HE.o,HB0.o];rfl,by rw [HB0.o];exact World.ownsRow_nil _ _ _ _,(S0.o.call HB2.o).1⟩
      | true =>
       have e2:poE d.p=0:=by rw [poE,if_pos hpp]
       have HL2:Hid (poL d.p=poB d.p):=by rw [Hid,poL,if_pos hpp]
       have HQ2:Hid (qE d=if qmE d.s=0 then (if 2000<(qX d).length then 3 else 0) else qmE d.s):=by rw [Hid,HQ1.o,if_pos hpp]
       have bl1:=zh1 d.g;have bl2:=zh1 d.p;clear HQ1 hpp;clear z0 z1 z2 z3 z4;go_wp2_with (at_builtin;refine qa _ rfl _ _ 40 rfl w0.heap.size 5 i0 Tryz.underlying40 hi hz0 hz1 hz2 _ _ (poL d.g) rfl HO2.o A2 _ c2 (poL d.p) rfl HR2.o rfl (by omega) HB2.o.size ?_);intro A3 c3 w3 ho hg hb _;obtain ⟨X3,hX3⟩:∃X,poL d.g++poL d.p=X:=⟨_,rfl⟩;obtain ⟨n3,hn3⟩:∃n,(poL d.g).length+(poL d.p).length=n:=⟨_,rfl⟩;rw [hX3,hn3] at ho;rw [hn3];have HX3:=zhy hX3;have bn3:n3≤578:=by omega
       have HO3:=zhy ho;have HB3:=zhy (HB2.o.trans hb);clear ho hg hb HO2 HB2 HR2 hX3 hn3 e2;obtain ⟨nm,hnm⟩:∃nm,d.s.length=nm:=⟨_,rfl⟩;have HNM:=zhy hnm;have hmod:((d.s.length:Int)) % 256=d.s.length:=by omega
       obtain ⟨z0,z1,z2,z3,z4⟩:=(S0.o.call HB3.o).2.1;dsimp only at z1 z2 z3;go_upto_region 10 with (fail);have HOx:=zhy (qb (B:=w0.heap.size) HO3.o (qh (a:=.cells #[.int .u8 (d.s.length:Int)] 5)) (Nat.le_refl _));have HRx:=zhy (qo w3 (d.s.length:Int) (by omega));have HBx:Hid (Below w0.heap.size w0 (w3.alloc (.cells #[.int .u8 (d.s.length:Int)] 5))):=HB3.o.alloc HB3.o.size _;clear HO3 HB3 hnm;go_wp2_with (at_builtin;refine qa _ rfl _ _ 40 rfl w0.heap.size 5 i0 Tryz.underlying40 hi hz0 hz1 hz2 _ n3 X3 rfl HOx.o _ 1 1 [(d.s.length:Int)] rfl HRx.o rfl (by omega) HBx.o.size ?_);intro A4 c4 w4 ho hg hb _;obtain ⟨X4,hX4⟩:∃X,X3++[(d.s.length:Int)]=X:=⟨_,rfl⟩;obtain ⟨n4,hn4⟩:∃n,n3+1=n:=⟨_,rfl⟩;rw [hX4,hn4] at ho;rw [hn4]
       have HX4:Hid (X4=poB d.g++(poB d.p++((d.s.length:Int)::qmB (d.s.take 0)))):=by
        rw [Hid,←hX4,←HX3.o,HL1.o,HL2.o];simp [qmB]
       have bn4:n4≤579:=by omega
       have HO4:=zhy ho;have HB4:=zhy (HBx.o.trans hb);clear ho hg hb HOx HRx HBx hX4 hn4 hmod bl1 bl2 HX3 HL1 HL2;clear z0 z1 z2 z3 z4;go_upto_region 12 with (fail);go_loopw [4,7] (fun out i wr=>∃(j N:Nat) (A':Option Addr) (c':Nat) (X:List Int),j≤d.s.length∧N≤579+j*628∧i=.int .i64 j∧out=.slice A' N c'∧Hid (wr.ownsRow w0.heap.size 5 1 (.slice A' N c') N (cel X))∧Hid (X=poB d.g++(poB d.p++((d.s.length:Int)::qmB (d.s.take j))))∧Hid (qmE d.s=qmE (d.s.drop j))∧Hid (Below w0.heap.size w0 wr)) (fun _ i _=>d.s.length-(intOf i).toNat)
       case atStart=>exact ⟨0,n4,A4,c4,X4,by omega,by omega,rfl,rfl,HO4,HX4,rfl,HB4⟩
       case round =>
        obtain ⟨j,N,A5,c5,X,hj,hN,rfl,rfl,HO,HX,HM,HB⟩:=hrel;clear HO4 HX4 HB4;obtain ⟨z0,z1,z2,z3,z4⟩:=(S0.o.call HB.o).2.1;dsimp only at z1 z2 z3;have hsz:=HB.o.size;by_cases h1:j<d.s.length
        ·have h1z:j<Z.length:=by rw [HZL.o];exact h1
         have hR:Rm wr A c Z:=(S0.o.call HB.o).2.2.1.2.2.1;obtain ⟨ad,rfl,-,-⟩:=hR.at_ h1z;have HE:=zhy (Rm.each (w:=wr) (ad:=ad) (c:=c) h1z);have HSN:=zhy (zut h1);have HEA:=zhy (qa1 h1);rw [HZA.o j h1z h1] at HSN HEA;obtain ⟨⟨a1,a2,a3,a4,a5,a6,a7,a8⟩,hok⟩:=HE.o wr hR;clear hR;generalize Z[j]=z at *;obtain ⟨x,m,k⟩:=z;dsimp only at a1 a2 a3 a4 a5 a6 a7 a8 hok HSN HEA;have HOK:=zhy hok;clear hok;cases hm:mM m with
         | false =>
          have P:=zhy (zp5 x m wr HOK.o.1 hm);have HME:Hid (qmE d.s=70):=by rw [Hid,HM.o,HEA.o,if_neg (by rw [hm];decide)]
          have HE8:Hid (qE d=70):=by rw [Hid,HQ2.o,HME.o];rfl
          have HB0:Hid (qB d=[]):=by rw [Hid,qB,HE8.o];rfl
          clear hm;go_wp2_with fail;refine P.o.mono ?_;rintro r w5 ⟨rfl,hb5⟩;have HB5:=zhy (qc HB.o hb5);clear hb5 P;go_wp2_with fail;go_ret2;exact ⟨none,0,by rw [HE8.o,HB0.o];rfl,by rw [HB0.o];exact World.ownsRow_nil _ _ _ _,(S0.o.call HB5.o).1⟩
         | true =>
          have P:=zhy (zp0 x m wr HOK.o.1 hm);have hml:=qbc hm;have HEA2:Hid (qmE (d.s.drop j)=if jq k=true then qmE (d.s.drop (j+1)) else 40):=by rw [Hid,HEA.o,if_pos hm]
          clear hm HEA;go_wp2_with fail;refine P.o.mono ?_;rintro r w5 ⟨A6,c6,rfl,ho6,hb6⟩;have HB5:=zhy (qc HB.o hb6);have HO5:=zhy (qb HO.o hb6 (Nat.le_refl _));have HR6:=zhy (qt ho6 (zw0 m));have OBl:Hid (∀b,(Value.slice A5 N c5).ownBlock=some b→b<wr.heap.size):=fun b h=>(HO.o.lt b h).2;have hs6:=hb6.size;clear ho6 hb6 P HO HB a1 a2 a3 a4 a5 a6 a7 a8;clear z0 z1 z2 z3 z4;obtain ⟨z0,z1,z2,z3,z4⟩:=(S0.o.call HB5.o).2.1;dsimp only at z1 z2 z3;have hR:Rm w5 (some ad) c Z:=(S0.o.call HB5.o).2.2.1.2.2.1;obtain ⟨⟨a1,a2,a3,a4,a5,a6,a7,a8⟩,hok⟩:=HE.o w5 hR;dsimp only at a1 a2 a3 a4 a5 a6 a7 a8 hok;have hkl:k.length=x.k:=hok.2.2;have hri:=hok.2.1;clear hR hok;cases hk:jq k with
          | false =>
           have P:=zhy (zso x.D x.e x.k k w5 hri hkl hk);have HME:Hid (qmE d.s=40):=by rw [Hid,HM.o,HEA2.o,if_neg (by rw [hk];decide)]
           have HE8:Hid (qE d=40):=by rw [Hid,HQ2.o,HME.o];rfl
           have HB0:Hid (qB d=[]):=by rw [Hid,qB,HE8.o];rfl
           clear hk hri hkl;go_wp2_with fail;refine P.o.mono ?_;rintro r w6 ⟨rfl,hb7⟩;have HB6:=zhy (qc HB5.o hb7);clear hb7 P;go_wp2_with fail;go_ret2;exact ⟨none,0,by rw [HE8.o,HB0.o];rfl,by rw [HB0.o];exact World.ownsRow_nil _ _ _ _,(S0.o.call HB6.o).1⟩
          | true =>
           have P:=zhy (zo6 x.D x.e x.k k w5 hri hkl hk);have hcl:=qcz hk;have HCB:=zhy (zw4 hk hri.1);have hcp:=qay k;have HM2:Hid (qmE d.s=qmE (d.s.drop (j+1))):=by rw [Hid,HM.o,HEA2.o,if_pos hk]
           clear hk hri hkl HEA2 HM;go_wp2_with fail;refine P.o.mono ?_;rintro r w6 ⟨A7,c7,rfl,ho7,hb7⟩;have HB6:=zhy (qc HB5.o hb7);have HO6:=zhy (qb HO5.o hb7 (Nat.le_refl _));have HR6':=zhy (HR6.o.keep hb7)
           have HR7:Hid (Rd w6 A7 c7 (ze8 k)∧∀ad,A7=some ad→wr.heap.size≤ad.block):=by
            refine ⟨qt ho7 HCB.o,fun ad h=>?_⟩;obtain ⟨g,hg1,hg2⟩:=zah ho7 hcp;rw [hg1] at h;obtain rfl:=Option.some.inj h;show wr.heap.size≤g;omega
           clear ho7 hb7 P HO5 HB5 HR6 HE HOK a1 a2 a3 a4 a5 a6 a7 a8;clear z0 z1 z2 z3 z4;go_wp2_with (at_builtin;refine qa _ rfl (.tmp 95) (.tmp 96) 40 rfl w0.heap.size 5 i0 Tryz.underlying40 hi hz0 hz1 hz2 _ N X rfl HO6.o A6 _ c6 (mL m) rfl HR6'.o rfl (by omega) HB6.o.size ?_);intro A8 c8 w7 ho hg hb _;obtain ⟨X8,hX8⟩:∃X8,X++mL m=X8:=⟨_,rfl⟩;obtain ⟨n8,hn8⟩:∃n,N+(mL m).length=n:=⟨_,rfl⟩;rw [hX8,hn8] at ho;rw [hn8];have HX8:=zhy hX8;have bn8:n8≤579+j*628+27:=by omega
           have HO7:=zhy ho;have HB7:=zhy (HB6.o.trans hb);have HR8:=zhy (HR7.o.1.grown hg (fun ad h0 _ e=>by have:=OBl.o _ e.symm;have:=HR7.o.2 ad h0;omega));clear ho hg hb HO6 HB6 HR6' HR7 OBl hX8 hn8;go_wp2_with (at_builtin;refine qa _ rfl (.tmp 98) (.tmp 99) 40 rfl w0.heap.size 5 i0 Tryz.underlying40 hi hz0 hz1 hz2 _ n8 X8 rfl HO7.o A7 _ c7 (ze8 k) rfl HR8.o rfl (by omega) HB7.o.size ?_);intro A9 c9 w8 ho hg hb _;obtain ⟨X9,hX9⟩:∃X9,X8++ze8 k=X9:=⟨_,rfl⟩;obtain ⟨n9,hn9⟩:∃n,n8+(ze8 k).length=n:=⟨_,rfl⟩;rw [hX9,hn9] at ho;rw [hn9]
           have HX9:Hid (X9=poB d.g++(poB d.p++((d.s.length:Int)::qmB (d.s.take (j+1))))):=by
            rw [Hid,←hX9,←HX8.o,HX.o,HSN.o];simp
           have bn9:n9≤579+(j+1)*628:=by omega
           have HO8:=zhy ho;have HB8:=zhy (HB7.o.trans hb);clear ho hg hb HO7 HB7 HR8 hX9 hn9 HX8;go_wp2_with fail;go_roundw
           case rel=>exact ⟨j+1,n9,A9,c9,X9,by omega,bn9,by go_num,rfl,HO8,HX9,HM2,HB8⟩
           case measure=>simp [intOf];omega
        ·have hjn:j=d.s.length:=by omega
         subst j;have HM0:Hid (qmE d.s=0):=by rw [Hid,HM.o,List.drop_of_length_le (Nat.le_refl _)];rfl
         have HQ3:Hid (qE d=if 2000<(qX d).length then 3 else 0):=by rw [Hid,HQ2.o,if_pos HM0.o]
         have HX2:Hid (X=poB d.g++(poB d.p++((d.s.length:Int)::qmB d.s))):=by rw [Hid,HX.o,List.take_length]
         clear HX HM HQ2;have hNb:N≤20000:=by omega
         by_cases h0:d.i<0
         ·have HOx:=zhy (qb (B:=w0.heap.size) HO.o (qh (a:=.cells #[.int .u8 (255)] 5)) (Nat.le_refl _));have HRx:=zhy (qo wr (255) (by omega));have HBx:Hid (Below w0.heap.size w0 (wr.alloc (.cells #[.int .u8 (255)] 5))):=HB.o.alloc HB.o.size _;clear HO HB;go_wp2_with (at_builtin;refine qa _ rfl _ _ 40 rfl w0.heap.size 5 i0 Tryz.underlying40 hi hz0 hz1 hz2 _ N X rfl HOx.o _ 1 1 [255] rfl HRx.o rfl (by omega) HBx.o.size ?_);intro A6 c6 w5 ho hg hb _
          have HXX:Hid (X++[255]=qX d):=by
           rw [Hid,HX2.o,qX,if_pos (by omega)];simp
          have hnx:N+1=(qX d).length:=by
           have:=ho.1;rw [zo,HXX.o] at this;omega
          rw [HXX.o] at ho;have HO5:=zhy ho;have HB5:=zhy (HBx.o.trans hb);have HNX:=zhy hnx;clear ho hg hb HOx HRx HBx HX2 hnx;clear z0 z1 z2 z3 z4;by_cases hlong:2000<N+1
          ·have HE8:Hid (qE d=3):=by rw [Hid,HQ3.o,if_pos (by rw [←HNX.o];exact hlong)]
           have HB0:Hid (qB d=[]):=by rw [Hid,qB,HE8.o];rfl
           go_wp2_with fail;go_ret2;exact ⟨none,0,by rw [HE8.o,HB0.o];rfl,by rw [HB0.o];exact World.ownsRow_nil _ _ _ _,(S0.o.call HB5.o).1⟩
          ·have HE8:Hid (qE d=0):=by rw [Hid,HQ3.o,if_neg (by rw [←HNX.o];exact hlong)]
           have HB0:Hid (qB d=qX d):=by rw [Hid,qB,HE8.o];rfl
           go_wp2_with fail;go_ret2;exact ⟨A6,c6,by rw [HE8.o,HB0.o,←HNX.o];rfl,by rw [HB0.o,←HNX.o];exact qg HO5.o hs0,(S0.o.call HB5.o).1⟩
         ·have hmod:d.i % 256=d.i:=by omega
          have HOx:=zhy (qb (B:=w0.heap.size) HO.o (qh (a:=.cells #[.int .u8 (d.i)] 5)) (Nat.le_refl _));have HRx:=zhy (qo wr (d.i) (by omega));have HBx:Hid (Below w0.heap.size w0 (wr.alloc (.cells #[.int .u8 (d.i)] 5))):=HB.o.alloc HB.o.size _;clear HO HB;go_wp2_with (at_builtin;refine qa _ rfl _ _ 40 rfl w0.heap.size 5 i0 Tryz.underlying40 hi hz0 hz1 hz2 _ N X rfl HOx.o _ 1 1 [d.i] rfl HRx.o rfl (by omega) HBx.o.size ?_);intro A6 c6 w5 ho hg hb _
          have HXX:Hid (X++[d.i]=qX d):=by
           rw [Hid,HX2.o,qX,if_neg (by omega)];simp
          have hnx:N+1=(qX d).length:=by
           have:=ho.1;rw [zo,HXX.o] at this;omega
          rw [HXX.o] at ho;have HO5:=zhy ho;have HB5:=zhy (HBx.o.trans hb);have HNX:=zhy hnx;clear ho hg hb HOx HRx HBx HX2 hnx;clear z0 z1 z2 z3 z4;by_cases hlong:2000<N+1
          ·have HE8:Hid (qE d=3):=by rw [Hid,HQ3.o,if_pos (by rw [←HNX.o];exact hlong)]
           have HB0:Hid (qB d=[]):=by rw [Hid,qB,HE8.o];rfl
           go_wp2_with fail;go_ret2;exact ⟨none,0,by rw [HE8.o,HB0.o];rfl,by rw [HB0.o];exact World.ownsRow_nil _ _ _ _,(S0.o.call HB5.o).1⟩
          ·have HE8:Hid (qE d=0):=by rw [Hid,HQ3.o,if_neg (by rw [←HNX.o];exact hlong)]
           have HB0:Hid (qB d=qX d):=by rw [Hid,qB,HE8.o];rfl
           go_wp2_with fail;go_ret2;exact ⟨A6,c6,by rw [HE8.o,HB0.o,←HNX.o];rfl,by rw [HB0.o,←HNX.o];exact qg HO5.o hs0,(S0.o.call HB5.o).1⟩
theorem zqd (y:Ma) (d:Md) (w:World) (hq:Hq w y d):Calls Tryz.prog 34 #[dv y d] w fun r w'=>r=.returned (.int .i64 (qE d))∧Below w.heap.size w w':=by
 have S0:=zhy (((Sx.start w).add (fQm y d) hq).mkD y d);clear hq;obtain ⟨z0,z1,z2,z3,z4⟩:=S0.o.2.1;go_enter Tryz.func34,Tryz.ntmps34;go_wp2_with fail;refine (zrr y d _ S0.o.2.2.1).mono ?_;rintro r w1 ⟨A1,c1,rfl,-,hb1⟩;have S1:=zhy (S0.o.call hb1);clear hb1 S0 z0 z1 z2 z3 z4;go_wp2_with fail;go_ret;exact ⟨rfl,S1.o.1⟩
abbrev Mz:=Mh×List Ins
theorem zht:∀{s:List Mz},qmE s=0→∀z∈s,mM z.1=true∧jq z.2=true
 | [],_=>fun z hz=>(by cases hz)
 | y::s,h=>fun z hz=>by
  rw [qmE] at h;by_cases h1:mM y.1=true
  ·rw [if_pos h1] at h;by_cases h2:jq y.2=true
   ·rw [if_pos h2] at h;rcases List.mem_cons.1 hz with rfl | hz
    ·exact ⟨h1,h2⟩
    ·exact zht h z hz
   ·rw [if_neg h2] at h;cases h
  ·rw [if_neg h1] at h;cases h
theorem zch {d:Md} (h:qE d=0):d.g.length≤4∧d.s.length≤16∧-1≤d.i∧d.i<d.s.length∧poM d.g=true∧poM d.p=true∧qmE d.s=0∧(qX d).length≤2000:=by
 unfold qE at h;by_cases h1:4<d.g.length∨16<d.s.length∨d.i < -1∨(d.s.length:Int)≤d.i
 ·rw [if_pos h1] at h;cases h
 ·rw [if_neg h1] at h;by_cases h2:poM d.g=true
  ·rw [if_pos h2] at h;by_cases h3:poM d.p=true
   ·rw [if_pos h3] at h;by_cases h4:qmE d.s=0
    ·rw [if_pos h4] at h;by_cases h5:2000<(qX d).length
     ·rw [if_pos h5] at h;cases h
     ·exact ⟨by omega,by omega,by omega,by omega,h2,h3,h4,by omega⟩
    ·rw [if_neg h4] at h;exact absurd h h4
   ·rw [if_neg h3] at h;cases h
  ·rw [if_neg h2] at h;cases h
def zyg (F:Fct):Prop:=∀(y:Ma) (d:Md) (w:World),F.p w→Hq w y d→qG d=false→Calls Tryz.prog 29 #[dv y d] w fun r w'=>∃A c,r=.returned (.tuple #[.slice A (qB d).length c,.int .i64 (qE d)]) ∧
  w'.ownsRow w.heap.size 5 1 (.slice A (qB d).length c) (qB d).length (cel (qB d))∧Below w.heap.size w w'
def qej (F:Fct):Prop:=∀(y:Ma) (d:Md) (w:World),F.p w→Hq w y d→qG d=false→Calls Tryz.prog 21 #[dv y d] w fun r w'=>r=.returned (.int .i64 (qE d))∧Below w.heap.size w w'
def zby (d:Md):Bool:=!(d.i==-1)&&(ji d d.i.toNat).a.contains 3
def zul (d:Md):Nat→Int
 | 0=>-1
 | k+1=>if zul d k=-1 then (if (ql d k).2=0 then -1 else k) else zul d k
def ja (d:Md):Int×Int×List Ce:=
 if qE d=0 then
  (if zby d=true then (70,-1,[]) else
   if jj d d.s.length=0 then
    (if (jg d).2=0 then (if (zap d).2=0 then (if zct d=0 then (0,-1,zig d) else (zct d,-1,[])) else ((zap d).2,-1,[])) else ((jg d).2,-1,[]))
   else (jj d d.s.length,zul d d.s.length,[]))
 else (qE d,-1,[])
theorem zha {d:Md}:∀{n:Nat},(∀k,k<n→(ql d k).2=0)→jj d n=0
 | 0,_=>rfl
 | n+1,h=>by rw [jj,if_pos (zha fun k hk=>h k (by omega))];exact h n (by omega)
theorem zkz {d:Md}:∀{n:Nat},jj d n≠0→∃k:Nat,zul d n=k∧k<n∧(ql d k).2=jj d n∧∀j,j<k→(ql d j).2=0
 | 0,h=>absurd rfl h
 | n+1,h=>by
  by_cases h0:jj d n=0
  ·have hb:zul d n=-1:=by
    clear h;induction n with
    | zero=>rfl
    | succ n ih =>
     have h1:jj d n=0:=Classical.byContradiction fun hn=>by rw [jj,if_neg hn] at h0;exact hn h0
     rw [jj,if_pos h1] at h0;rw [zul,if_pos (ih h1),if_pos h0]
   rw [jj,if_pos h0] at h ⊢;rw [zul,if_pos hb,if_neg h];exact ⟨n,rfl,by omega,rfl,fun j hj=>zfg h0 j hj⟩
  ·obtain ⟨k,h1,h2,h3,h4⟩:=zkz h0;rw [jj,if_neg h0,zul,if_neg (by omega)];exact ⟨k,h1,by omega,h3,h4⟩
theorem zfi {d:Md}:(ja d).1=0↔qE d=0∧zby d=false∧jj d d.s.length=0∧(jg d).2=0∧(zap d).2=0∧zct d=0:=by
 unfold ja;by_cases h1:qE d=0
 case neg=>rw [if_neg h1];exact ⟨fun h=>absurd h h1,fun h=>absurd h.1 h1⟩
 rw [if_pos h1];by_cases h2:zby d=true
 ·rw [if_pos h2];refine ⟨fun h=>?_,fun h=>?_⟩
  ·cases h
  ·rw [h2] at h;cases h.2.1
 rw [if_neg h2];have h2:zby d=false:=by simpa using h2
 by_cases h3:jj d d.s.length=0
 case neg=>rw [if_neg h3];exact ⟨fun h=>absurd h h3,fun h=>absurd h.2.2.1 h3⟩
 rw [if_pos h3];by_cases h4:(jg d).2=0
 case neg=>rw [if_neg h4];exact ⟨fun h=>absurd h h4,fun h=>absurd h.2.2.2.1 h4⟩
 rw [if_pos h4];by_cases h5:(zap d).2=0
 case neg=>rw [if_neg h5];exact ⟨fun h=>absurd h h5,fun h=>absurd h.2.2.2.2.1 h5⟩
 rw [if_pos h5];by_cases h6:zct d=0
 case neg=>rw [if_neg h6];exact ⟨fun h=>absurd h h6,fun h=>absurd h.2.2.2.2.2 h6⟩
 rw [if_pos h6];exact ⟨fun _=>⟨h1,h2,h3,h4,h5,h6⟩,fun _=>rfl⟩
theorem zln {d:Md} (h:(ja d).1=0):ja d=(0,-1,zig d):=by
 obtain ⟨h1,h2,h3,h4,h5,h6⟩:=zfi.1 h;rw [ja,if_pos h1,if_neg (by rw [h2];decide),if_pos h3,if_pos h4,if_pos h5,if_pos h6]
theorem zq7 {d:Md} (h:(ja d).1≠0):(ja d).2.2=[]:=by
 unfold ja at h ⊢;split
 ·split
  ·rfl
  ·split
   ·split
    ·split
     ·split
      ·rename_i h1 h2 h3 h4 h5 h6;rw [if_pos h1,if_neg h2,if_pos h3,if_pos h4,if_pos h5,if_pos h6] at h;exact absurd rfl h
      ·rfl
     ·rfl
    ·rfl
   ·rfl
 ·rfl
theorem zz8 {d:Md} (h:qE d=0) (hi:0≤d.i):mG (ji d d.i.toNat)=!zby d:=by
 obtain ⟨-,-,-,h4,-,-,h7,-⟩:=zch h;have hz:d.s[d.i.toNat]?=some d.s[d.i.toNat]:=zg7 (by omega);have hm:=(zht h7 _ (List.getElem_mem (show d.i.toNat<d.s.length by omega))).1;have e:ji d d.i.toNat=d.s[d.i.toNat].1:=by rw [ji,hz];rfl
 rw [zby,e,mG,hm];have:(d.i==-1)=false:=by simp;omega
 rw [this];simp
theorem zj3 {d:Md} (h:qE d=0) (hi:¬0≤d.i):zby d=false:=by
 obtain ⟨-,-,h3,-⟩:=zch h;have:d.i=-1:=by omega
 rw [zby,this];rfl
theorem zm7 {z:Bool}:∀(J R:List Int) (e:Int),e≠0→J.length≤R.length→(J.foldl (fun s k=>st1 z k s) (R,e)).2=e
 | [],R,e,_,_=>rfl
 | k::J,R,e,he,hl=>by
  simp only [List.length_cons] at hl;rw [List.foldl_cons,st1];dsimp only;rw [if_neg (by omega),if_neg (fun h=>he h.2.2)];exact zm7 J _ e he (by rw [List.length_dropLast];omega)
theorem zsh {z:Bool}:∀(J:List Int) (e:Int),e=101→(J.foldl (fun s k=>st1 z k s) ([],e)).2=101
 | [],e,he=>he
 | k::J,e,he=>by
  rw [List.foldl_cons,st1];dsimp only;rw [if_pos List.length_nil];exact zsh J 101 rfl
theorem zja {z:Bool}:∀(J R:List Int) (e:Int),R.length<J.length→(J.foldl (fun s k=>st1 z k s) (R,e)).2=101
 | [],R,e,h=>by simp at h
 | k::J,R,e,h=>by
  simp only [List.length_cons] at h;rw [List.foldl_cons,st1];dsimp only;by_cases h0:R.length=0
  ·rw [if_pos h0];have:R=[]:=List.eq_nil_of_length_eq_zero h0;subst this;exact zsh J 101 rfl
  ·rw [if_neg h0];exact zja J _ _ (by rw [List.length_dropLast];omega)
theorem zwf {z:Bool}:∀(J R:List Int),(z=true∨∀k∈J,k≠0)→J.length≤R.length→(J.foldl (fun s k=>st1 z k s) (R,0)).2=(zfq R J).2∧((zfq R J).2=0→(J.foldl (fun s k=>st1 z k s) (R,0)).1=(zfq R J).1)
 | [],R,_,_=>⟨rfl,fun _=>rfl⟩
 | k::J,R,hz,hl=>by
  simp only [List.length_cons] at hl;have hz2:z=true∨∀k∈J,k≠0:=hz.imp id fun h k hk=>h k (List.mem_cons_of_mem _ hk);rw [List.foldl_cons,st1,zfq,zbq];dsimp only;have hr0:¬R.length=0:=by omega
  rw [if_neg hr0,if_neg hr0]
  have hc:((z=false∨k≠0)∧R.getLastD 0≠k∧(0:Int)=0)↔(k≠0∧R.getLastD 0≠k):=by
   constructor
   ·rintro ⟨h1,h2,-⟩;refine ⟨?_,h2⟩;rcases hz with h | h
    ·rcases h1 with h1 | h1
     ·rw [h] at h1;cases h1
     ·exact h1
    ·exact h k List.mem_cons_self
   ·rintro ⟨h1,h2⟩;exact ⟨.inr h1,h2,rfl⟩
  by_cases h:k≠0∧R.getLastD 0≠k
  ·rw [if_pos (hc.2 h),if_pos h,if_neg (by decide)];refine ⟨zm7 J _ 100 (by decide) (by rw [List.length_dropLast];omega),fun h=>by cases h⟩
  ·rw [if_neg (fun h2=>h (hc.1 h2)),if_neg h,if_pos rfl];exact zwf J _ hz2 (by rw [List.length_dropLast];omega)
theorem qat {z:Bool} {K R:List Int} (hz:z=true∨∀k∈K,k≠0):(K.foldr (st1 z) (R,0)).2=(zba R K).2∧((zba R K).2=0→(K.foldr (st1 z) (R,0)).1=(zba R K).1):=by
 have e:K.foldr (st1 z) (R,0)=K.reverse.foldl (fun s k=>st1 z k s) (R,0):=by rw [List.foldl_reverse]
 rw [e,zba];by_cases hl:R.length<K.length
 ·rw [if_pos hl];exact ⟨zja _ _ _ (by rw [List.length_reverse];exact hl),fun h=>by cases h⟩
 ·rw [if_neg hl];exact zwf _ _ (hz.imp id fun h k hk=>h k (List.mem_reverse.1 hk)) (by rw [List.length_reverse];omega)
theorem zrn (R:List Int) (k:Int):zba R [k]=zbq R k:=by
 unfold zba;rw [show [k].reverse=[k] from rfl,zfq,zfq];by_cases h:R.length=0
 ·rw [if_pos (by simp;exact List.eq_nil_of_length_eq_zero h),zbq,if_pos h]
 ·rw [if_neg (by simp only [List.length_cons,List.length_nil];omega)];unfold zbq;rw [if_neg h];by_cases h2:k≠0∧R.getLastD 0≠k
  ·rw [if_pos h2,if_neg (by decide)]
  ·rw [if_neg h2,if_pos rfl]
theorem qdo {d:Md} {h:Mh} {x:Ins} {R:List Int} (hz:(K10 d h x).1=true∨∀k∈(K10 d h x).2,k≠0) :
  za9 d h x R=if (zba R (K10 d h x).2).2=0 then ((zba R (K10 d h x).2).1++za8 d h x (R.drop (zba R (K10 d h x).2).1.length),0) else ([],(zba R (K10 d h x).2).2):=by
 obtain ⟨h1,h2⟩:=qat (R:=R) hz;unfold za9 zld;rw [h1];by_cases h0:(zba R (K10 d h x).2).2=0
 ·rw [if_pos h0,if_pos h0,h2 h0]
 ·rw [if_neg h0,if_neg h0]
theorem qb6 {R K:List Int} (h:(zba R K).2=0):K.length≤R.length∧(zba R K).1=R.take (R.length-K.length):=by
 have hz:(true=true∨∀k∈K,k≠0):=.inl rfl;obtain ⟨h1,h2⟩:=qat (z:=true) (R:=R) hz;have h3:(K.foldr (st1 true) (R,0)).2=0:=by rw [h1];exact h
 obtain ⟨a,b,-⟩:=zmw h3;exact ⟨a,by rw [←h2 h,b]⟩
theorem zwo {R K:List Int} (hK:∀k∈K,k=0):zba R K=if R.length<K.length then ([],101) else (R.take (R.length-K.length),0):=by
 by_cases hl:R.length<K.length
 ·rw [if_pos hl,zba,if_pos hl]
 ·rw [if_neg hl]
  have key:∀(J R:List Int),(∀k∈J,k=0)→J.length≤R.length→(zfq R J).2=0:=by
   intro J;induction J with
   | nil=>intro R _ _;rfl
   | cons k J ih =>
    intro R hJ hl;simp only [List.length_cons] at hl;have hk:=hJ k List.mem_cons_self;rw [zfq,zbq,if_neg (show ¬R.length=0 by omega),if_neg (show ¬(k≠0∧R.getLastD 0≠k) from fun h=>h.1 hk),if_pos rfl];exact ih _ (fun x hx=>hJ x (List.mem_cons_of_mem _ hx)) (by rw [List.length_dropLast];omega)
  have h0:(zba R K).2=0:=by
   rw [zba,if_neg hl];exact key _ _ (fun k hk=>hK k (List.mem_reverse.1 hk)) (by rw [List.length_reverse];omega)
  obtain ⟨-,h2⟩:=qb6 h0;rw [←h2,←h0]
theorem zz3 {d:Md} {h:Mh} {x:Ins} {R:List Int} (hz:(K10 d h x).1=true∨∀k∈(K10 d h x).2,k≠0):zaj d h x R=za9 d h x R:=by
 have tk0:∀L:List Int,zba R ([]:List Int)=(R,0):=fun _=>by simp [zba,zfq]
 have tn:∀k,(if (zbq R k).2=0 then ((zbq R k).1++([]:List Int),(0:Int)) else ([],(zbq R k).2))=zbq R k:=fun k=>by
  unfold zbq;by_cases h1:R.length=0
  ·rw [if_pos h1,if_neg (by decide)]
  rw [if_neg h1];by_cases h2:k≠0∧R.getLastD 0≠k
  ·rw [if_pos h2,if_neg (by decide)]
  ·rw [if_neg h2,if_pos rfl,List.append_nil]
 rw [qdo hz];unfold zaj;by_cases c1:x.1=1
 ·have e1:(K10 d h x).2=[]:=by simp [K10,c1,zfw (.inl rfl)]
  have e2:∀T,za8 d h x T=[zej d.p x.2.1.toNat]:=fun T=>by simp [za8,c1]
  rw [if_pos c1,e1,tk0 [],if_pos rfl,e2]
 rw [if_neg c1];by_cases c2:x.1=2
 ·have e1:(K10 d h x).2=[]:=by simp [K10,c2,zfw (.inr (.inl rfl))]
  have e2:∀T,za8 d h x T=[(zaz h)[x.2.1.toNat]?.getD 0]:=fun T=>by simp [za8,c2]
  rw [if_pos c2,e1,tk0 [],if_pos rfl,e2]
 rw [if_neg c2];by_cases c3:x.1=3
 ·have e1:(K10 d h x).2=[(zaz h)[x.2.1.toNat]?.getD 0]:=by simp [K10,c3]
  have e2:∀T,za8 d h x T=[]:=fun T=>by simp [za8,c3,qds (.inl rfl)]
  rw [if_pos c3,e1,zrn,e2,tn]
 rw [if_neg c3];by_cases c4:x.1=4
 ·have e1:(K10 d h x).2=[]:=by simp [K10,c4,zfw (.inr (.inr rfl))]
  have e2:∀T,za8 d h x T=[zej d.g x.2.1.toNat]:=fun T=>by simp [za8,c4]
  rw [if_pos c4,e1,tk0 [],if_pos rfl,e2]
 rw [if_neg c4];by_cases c5:x.1=5
 ·have e1:(K10 d h x).2=[zej d.g x.2.1.toNat]:=by simp [K10,c5]
  have e2:∀T,za8 d h x T=[]:=fun T=>by simp [za8,c5,qds (.inr (.inl rfl))]
  rw [if_pos c5,e1,zrn,e2,tn]
 rw [if_neg c5];by_cases c7:x.1=7
 ·have e1:(K10 d h x).2=[0]:=by simp [K10,c7]
  have e2:∀T,za8 d h x T=[T[0]?.getD 0,T[0]?.getD 0]:=fun T=>by simp [za8,c7]
  have e3:zba R [0]=if R.length<1 then ([],101) else (R.take (R.length-1),0):=zwo (by simp);rw [if_pos c7,e1];by_cases hl:R.length<1
  ·have e4:zba R [0]=([],101):=by rw [e3,if_pos hl]
   rw [if_pos hl,e4,if_neg (by decide)]
  ·have e4:zba R [0]=(R.take (R.length-1),0):=by rw [e3,if_neg hl]
   rw [if_neg hl,e4,if_pos rfl,e2];simp only [List.length_take];rw [show min (R.length-1) R.length=R.length-1 by omega,List.getElem?_drop,Nat.add_zero];congr 1
   have hR:R=R.take (R.length-1)++[R[R.length-1]?.getD 0]:=by
    conv=>lhs;rw [←List.take_append_drop (R.length-1) R]
    congr 1;rw [zg7 (show R.length-1<R.length by omega),Option.getD_some,List.drop_eq_getElem_cons (show R.length-1<R.length by omega),List.drop_of_length_le (by omega)]
   rw [List.append_cons (R.take (R.length-1)) _ [_],←hR]
 rw [if_neg c7];by_cases c8:x.1=8
 ·have e1:(K10 d h x).2=[0,0]:=by simp [K10,c8]
  have e2:∀T,za8 d h x T=[T[1]?.getD 0,T[0]?.getD 0]:=fun T=>by simp [za8,c8]
  have e3:zba R [0,0]=if R.length<2 then ([],101) else (R.take (R.length-2),0):=zwo (by simp);rw [if_pos c8,e1];by_cases hl:R.length<2
  ·have e4:zba R [0,0]=([],101):=by rw [e3,if_pos hl]
   rw [if_pos hl,e4,if_neg (by decide)]
  ·have e4:zba R [0,0]=(R.take (R.length-2),0):=by rw [e3,if_neg hl]
   rw [if_neg hl,e4,if_pos rfl,e2];simp only [List.length_take];rw [show min (R.length-2) R.length=R.length-2 by omega,List.getElem?_drop,List.getElem?_drop,Nat.add_zero,show R.length-2+1=R.length-1 by omega];simp
 rw [if_neg c8];by_cases c30:x.1=30
 ·have e1:(K10 d h x).2=(ji d x.2.1.toNat).a:=by simp [K10,c30]
  have e2:∀T,za8 d h x T=[(ji d x.2.1.toNat).r]:=fun T=>by simp [za8,c30]
  rw [if_pos c30,e1,e2]
 rw [if_neg c30];by_cases c31:x.1=31
 ·have e1:(K10 d h x).2=[h.r]:=by simp [K10,c31]
  have e2:∀T,za8 d h x T=[]:=fun T=>by simp [za8,c31,qds (.inr (.inr rfl))]
  rw [if_pos c31,e1,zrn,e2,tn]
 rw [if_neg c31];have e1:(K10 d h x).2=tkL x.1:=by simp [K10,c3,c5,c7,c8,c30,c31]
 have e2:∀T,za8 d h x T=gvL x.1:=fun T=>by simp [za8,c1,c2,c4,c7,c8,c30]
 rw [e1,e2]
theorem zqx {d:Md} {h:Mh} {c:List Ins} (H:∀x∈c,(K10 d h x).1=true∨∀k∈(K10 d h x).2,k≠0):∀p,p≤c.length→zx d h c p=qk d h c p
 | 0,_=>rfl
 | p+1,hp=>by
  have ih:=zqx H p (by omega)
  have hx:zdp c p∈c:=by
   rw [zdp,zg7 (show p<c.length by omega)];exact List.getElem_mem _
  simp only [zx,qk,ih,zz3 (H _ hx)]
theorem qab {x:Vlu} (h:vM x=true):x.1≠0:=by
 unfold vM zcj at h;intro h0;rw [h0] at h;revert h;simp
theorem zho {d:Md} (h:qE d=0) (k:Int):zzx d k=ql d k:=by
 obtain ⟨-,-,-,-,h5,h6,h7,-⟩:=zch h
 have hgk:∀a,a<d.g.length→zej d.g a≠0:=fun a ha=>by
  unfold poM at h5;rw [Bool.and_eq_true,List.all_eq_true] at h5;rw [zej,zg7 ha];exact qab (h5.2 _ (List.getElem_mem ha))
 unfold zzx ql;by_cases hk:k<0∨(d.s.length:Int)≤k
 ·rw [if_pos hk,if_pos hk]
 rw [if_neg hk,if_neg hk];have hz:d.s[k.toNat]?=some d.s[k.toNat]:=zg7 (by omega);obtain ⟨hm,hc⟩:=zht h7 _ (List.getElem_mem (show k.toNat<d.s.length by omega));rw [hz];generalize d.s[k.toNat]=z at hm hc;obtain ⟨m,c⟩:=z;dsimp only [Option.getD_some] at hm hc ⊢;unfold qcl zfz;by_cases hf:jc c=0
 case neg=>rw [if_neg hf,if_neg hf]
 rw [if_pos hf,if_pos hf];by_cases ha:c.all (zab d m)=true
 case neg=>rw [if_neg ha,if_neg ha]
 rw [if_pos ha,if_pos ha];rw [List.all_eq_true] at ha;have hin:=(qw hc).2.2
 have kO:∀x∈zaz m,x≠0:=fun x hx=>by
  have:=zbu.1 hm;rcases List.mem_append.1 hx with hx | hx
  ·have:=znb this.2.2.1 hx;omega
  ·have:=znb this.2.2.2.1 hx;omega
 rw [zqx (fun x hx=>?_) c.length (Nat.le_refl _)];have h1:=ha x hx;have h2:=zd5 (hin x hx);unfold zab at h1;unfold K10;by_cases c3:x.1=3
 ·rw [if_pos c3];rw [if_neg (by omega),if_pos (.inr c3),decide_eq_true_eq] at h1;have hl:x.2.1.toNat<(zaz m).length:=by rw [zaz,List.length_append];omega
  refine .inr fun k hk=>?_;rw [List.mem_singleton.1 hk,zg7 hl];exact kO _ (List.getElem_mem hl)
 rw [if_neg c3];by_cases c5:x.1=5
 ·rw [if_pos c5];rw [if_neg (by omega),if_neg (by omega),if_pos (.inr c5),decide_eq_true_eq] at h1;refine .inr fun k hk=>?_;rw [List.mem_singleton.1 hk];exact hgk _ (by omega)
 rw [if_neg c5];by_cases c7:x.1=7
 ·rw [if_pos c7];exact .inl rfl
 rw [if_neg c7];by_cases c8:x.1=8
 ·rw [if_pos c8];exact .inl rfl
 rw [if_neg c8];by_cases c30:x.1=30
 ·rw [if_pos c30];rw [if_neg (by omega),if_neg (by omega),if_neg (by omega),if_pos c30,decide_eq_true_eq] at h1;have hl:x.2.1.toNat<d.s.length:=by omega
  have hm2:=(zht h7 _ (List.getElem_mem hl)).1;have e:ji d x.2.1.toNat=d.s[x.2.1.toNat].1:=by rw [ji,zg7 hl];rfl
  refine .inr fun k hk=>?_;dsimp only at hk;rw [e] at hk;have:=znb (zbu.1 hm2).2.2.1 hk;omega
 rw [if_neg c30];by_cases c31:x.1=31
 ·rw [if_pos c31];refine .inr fun k hk=>?_;rw [List.mem_singleton.1 hk];have:=(zbu.1 hm).2.2.2.2.1;omega
 rw [if_neg c31];exact .inl rfl
end Go.Proofs.YtnjgkkoiamiaaaaGreatDoor
