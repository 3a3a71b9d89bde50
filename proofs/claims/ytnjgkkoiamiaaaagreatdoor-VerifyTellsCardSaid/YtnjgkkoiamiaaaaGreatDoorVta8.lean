import Derived.Test.YtnjgkkoiamiaaaaGreatDoorVta1
import Derived.Test.YtnjgkkoiamiaaaaGreatDoorVta3
import Derived.Test.YtnjgkkoiamiaaaaGreatDoorVta4
import Derived.Test.YtnjgkkoiamiaaaaGreatDoorVta6
import Derived.Deep.WholeRow
set_option maxRecDepth 100000
set_option maxHeartbeats 16000000
set_option linter.unusedSimpArgs false
set_option linter.unusedVariables false
namespace Go.Proofs.YtnjgkkoiamiaaaaGreatDoor
open Go.RowKit
theorem znz (x:Mc) (m:Mh) (w:World) (hx:Hd w x m) (b1:m.a.length≤1000) (b2:m.l.length≤1000):Calls Tryz.prog 182 #[mv x m] w fun e w'=>∃A c,e=.returned (.slice A (m.a.length+m.l.length) c) ∧
  w'.ownsRow w.heap.size 5 1 (.slice A (m.a.length+m.l.length) c) (m.a.length+m.l.length) (cel (m.a++m.l))∧Below w.heap.size w w':=by
 obtain ⟨i0,hi,hz0,hz1,hz2⟩:=info_parts Tryz.info5;have S0:=zhy (((Sx.start w).add (fH x m) hx).mkM x m);clear hx;obtain ⟨z0,z1,z2,z3,z4,z5,z6,z7,z8⟩:=S0.o.2.1;have hs:=S0.o.1.size;go_enter Tryz.func182,Tryz.ntmps182;go_upto_region 2 with (fail);have S0':Hid (Sx w (w.alloc (.cells #[.slice x.A m.a.length x.c,.slice x.B m.l.length x.d,.int .u8 m.r,.bool m.q,.int .i64 m.f,.int .i64 m.s,.int .i64 m.h,.slice x.D x.k x.e] 50)) [fM w.heap.size x m,fH x m]):=S0;clear z0 z1 z2 z3 z4 z5 z6 z7 z8 hs S0;generalize w.alloc (.cells #[.slice x.A m.a.length x.c,.slice x.B m.l.length x.d,.int .u8 m.r,.bool m.q,.int .i64 m.f,.int .i64 m.s,.int .i64 m.h,.slice x.D x.k x.e] 50)=w0 at S0' ⊢;obtain ⟨z0,z1,z2,z3,z4,z5,z6,z7,z8⟩:=S0'.o.2.1;go_wp2_with (at_builtin;refine qa _ rfl (.tmp 4) (.tmp 6) 40 rfl w0.heap.size 5 i0 Tryz.underlying40 hi hz0 hz1 hz2 _ 0 [] rfl (World.ownsRow_nil _ _ _ _) x.A m.a.length x.c m.a rfl S0'.o.2.2.1.1 rfl (by omega) (Nat.le_refl _) ?_);intro A1 c1 w1 ho1 hg1 hb1 _;have HO1:Hid (w1.ownsRow w0.heap.size 5 1 (.slice A1 m.a.length c1) m.a.length (cel m.a)):=zhy (by simpa using ho1);have HB1:=zhy hb1;clear ho1 hg1 hb1 z0 z1 z2 z3 z4 z5 z6 z7 z8;obtain ⟨z0,z1,z2,z3,z4,z5,z6,z7,z8⟩:=(S0'.o.call HB1.o).2.1;go_upto_region 3 with (fail);go_wp2_with (at_builtin;refine qa _ rfl (.tmp 8) (.tmp 10) 40 rfl w0.heap.size 5 i0 Tryz.underlying40 hi hz0 hz1 hz2 _ m.a.length m.a rfl HO1.o x.B m.l.length x.d m.l rfl (S0'.o.call HB1.o).2.2.1.2.1 rfl (by omega) HB1.o.size ?_);intro A2 c2 w2 ho1 hg1 hb1 _;have HO2:=zhy (qg ho1 S0'.o.1.size);have HB2:=zhy (qc S0'.o.1 (HB1.o.trans hb1));clear ho1 hg1 hb1 HO1 HB1 z0 z1 z2 z3 z4 z5 z6 z7 z8 S0';go_wp2_with fail;go_ret;exact ⟨A2,c2,rfl,HO2.o,HB2.o⟩
def zsr (pn kn gn sn:Nat) (o a:Int):Bool:=
 if o=1 then decide (a<(pn:Int)) else if o=2∨o=3 then decide (a<(kn:Int)) else if o=4∨o=5 then decide (a<(gn:Int)) else if o=30 then decide (a<(sn:Int)) else true
theorem zy5 (d:Md) (h:Mh) (o a z:Int):zab d h (o,a,z)=zsr d.p.length (h.a.length+h.l.length) d.g.length d.s.length o a:=by
 simp [zab,zsr]
theorem zr2 (G P A XA B D:Option Addr) (gn gc pn pc sn sc an ac bn bc k e:Nat) (i r f s h:Int) (q:Bool) (o a z:Int) (w:World) (b1:an≤1000) (b2:bn≤1000) :
  Calls Tryz.prog 73 #[.agg #[.slice G gn gc,.slice P pn pc,.slice A sn sc,.int .i64 i],.agg #[.slice XA an ac,.slice B bn bc,.int .u8 r,.bool q,.int .i64 f,.int .i64 s,.int .i64 h,.slice D k e],.agg #[.int .u8 o,.int .i64 a,.int .i64 z]] w fun x w' =>
   x=.returned (.bool (zsr pn (an+bn) gn sn o a))∧Below w.heap.size w w':=by
 have hbel:Below w.heap.size w (((w.alloc (.cells #[.slice G gn gc,.slice P pn pc,.slice A sn sc,.int .i64 i] 25)).alloc (.cells #[.slice XA an ac,.slice B bn bc,.int .u8 r,.bool q,.int .i64 f,.int .i64 s,.int .i64 h,.slice D k e] 50)).alloc (.cells #[.int .u8 o,.int .i64 a,.int .i64 z] 57)):=
  qh.trans ((qh.mono (by simp)).trans (qh.mono (by simp;omega)))
 have HB:=zhy hbel
 have hab:IntKind.i64.wrap ((an:Int)+bn)=((an+bn:Nat):Int):=by
  simp [IntKind.wrap,IntKind.signed,IntKind.bits,go_sem];omega
 clear hbel;by_cases h1:o=1
 ·subst h1;go_enter Tryz.func73,Tryz.ntmps73;go_wp2_with fail;go_ret;exact ⟨by simp [zsr],HB.o⟩
 have e1:(o==1)=false:=by simpa using h1
 by_cases h2:o=2
 ·subst h2;go_enter Tryz.func73,Tryz.ntmps73;go_wp2_with fail;go_ret;exact ⟨by simp [zsr],HB.o⟩
 have e2:(o==2)=false:=by simpa using h2
 by_cases h3:o=3
 ·subst h3;go_enter Tryz.func73,Tryz.ntmps73;go_wp2_with fail;go_ret;exact ⟨by simp [zsr],HB.o⟩
 have e3:(o==3)=false:=by simpa using h3
 by_cases h4:o=4
 ·subst h4;go_enter Tryz.func73,Tryz.ntmps73;go_wp2_with fail;go_ret;exact ⟨by simp [zsr],HB.o⟩
 have e4:(o==4)=false:=by simpa using h4
 by_cases h5:o=5
 ·subst h5;go_enter Tryz.func73,Tryz.ntmps73;go_wp2_with fail;go_ret;exact ⟨by simp [zsr],HB.o⟩
 have e5:(o==5)=false:=by simpa using h5
 by_cases h30:o=30
 ·subst h30;go_enter Tryz.func73,Tryz.ntmps73;go_wp2_with fail;go_ret;exact ⟨by simp [zsr],HB.o⟩
 have e30:(o==30)=false:=by simpa using h30
 go_enter Tryz.func73,Tryz.ntmps73;go_wp2_with fail;go_ret;exact ⟨by simp [zsr,h1,h2,h3,h4,h5,h30],HB.o⟩
theorem ziu (x:Mc) (m:Mh) (n:Nat) (w:World) (hx:Hd w x m) (b1:m.a.length≤1000) (b2:m.l.length≤1000) (hn:n<m.a.length+m.l.length):Calls Tryz.prog 125 #[mv x m,.int .i64 n] w fun e w'=>e=.returned (.int .u8 ((zaz m)[n]?.getD 0))∧Below w.heap.size w w':=by
 have S0:=zhy (((Sx.start w).add (fH x m) hx).mkM x m);obtain ⟨z0,z1,z2,z3,z4,z5,z6,z7,z8⟩:=S0.o.2.1;have HK:=zhy (znz x m (w.alloc (zbk x m)) S0.o.2.2.1 b1 b2);have HB0:Hid (Below w.heap.size w (w.alloc (zbk x m))):=zhy qh;clear hx S0;go_enter Tryz.func125,Tryz.ntmps125;go_wp2_with fail;refine HK.o.mono ?_;rintro e w1 ⟨A,c,rfl,ho,hb⟩;have HB1:=zhy (qc HB0.o hb);have hl:(zaz m).length=m.a.length+m.l.length:=by simp [zaz]
 obtain ⟨g,hg,-⟩:∃g,A=some ⟨g,0,none⟩∧True:=by
  rcases ho.2 with ⟨hv,h0⟩ | ⟨g,cap,cur,hv,_⟩
  ·omega
  ·injection hv with e1;exact ⟨g,e1,trivial⟩
 subst hg;have y0:=ho.cellAt n (by omega)
 have e0:(cel (m.a++m.l))[n]?=some (.int .u8 ((zaz m)[n]?.getD 0)):=by
  rw [cel,List.getElem?_map];have:(zaz m)[n]?=some ((zaz m)[n]'(by omega)):=zg7 (by omega);show (zaz m)[n]?.map _=_;rw [this];rfl
 rw [e0] at y0;clear ho hb e0 hl z0 z1 z2 z3 z4 z5 z6 z7 z8;go_wp2_with fail;go_ret;exact ⟨rfl,HB1.o⟩
theorem Rd.pre10 {w:World} {A:Option Addr} {c:Nat} {l:List Int} (h:Rd w A c l) (j:Nat):Rd w A c (l.take j):=by
 refine ⟨fun x hx=>h.1 x (List.mem_of_mem_take hx),Nat.le_trans (by rw [List.length_take];exact Nat.min_le_right _ _) h.2.1,h.2.2.1,?_⟩;rcases h.2.2.2 with hn | ⟨ad,ha,hc⟩
 ·exact .inl hn
 ·refine .inr ⟨ad,ha,fun i x hx=>hc i x ?_⟩;rw [List.getElem?_take] at hx;split at hx
  ·exact hx
  ·cases hx
theorem zkp {R:List Int} {k:Int}:(zbq R k).1.length≤R.length:=by
 unfold zbq;split
 ·simp
 ·split<;>simp
theorem zc7 (A:Option Addr) (c n:Nat) (R:List Int) (k:Int) (w:World) (hr:Rd w A c R) (hn:R.length=n):Calls Tryz.prog 126 #[.slice A n c,.int .u8 k] w fun e w'=>∃A' c',e=.returned (.tuple #[.slice A' (zbq R k).1.length c',.int .i64 (zbq R k).2])∧Rd w' A' c' (zbq R k).1∧w=w':=by
 have hl:=hr.len;have hn9:n≤9223372036854775807:=by omega
 by_cases h0:n=0
 ·have e:zbq R k=([],101):=by rw [zbq,if_pos (by omega)]
  rw [e];subst h0;clear e;go_enter Tryz.func126,Tryz.ntmps126;go_wp2_with fail;go_ret2;exact ⟨none,0,rfl,Rd.none_ _,rfl⟩
 obtain ⟨j,hj⟩:∃j:Nat,(n:Int)-1=j:=⟨n-1,by omega⟩;have hjn:j<n:=by omega
 have hjc:j≤c:=by have:=hr.le;omega
 have hne:((n:Int)==0)=false:=by simp;omega
 obtain ⟨ad,hA,y0⟩:=hr.at_ (i:=j) (by omega);subst hA
 have hlast:R.getLastD 0=R[j]?.getD 0:=by
  rw [List.getLastD_eq_getLast?,List.getLast?_eq_getElem?];congr 2;omega
 have hdl:R.dropLast=R.take j:=by
  rw [List.dropLast_eq_take];congr 1;omega
 have hR:=hr.pre10 j;have htl:(R.take j).length=j:=by rw [List.length_take];omega
 have htn:zbq R k=if k≠0∧R[j]?.getD 0≠k then ([],100) else (R.take j,0):=by rw [zbq,if_neg (by omega),hlast,hdl]
 generalize R[j]?.getD 0=x at y0 htn;have HR:=zhy hR;have HT:=zhy htl;by_cases hk:k=0
 ·subst hk;have e:zbq R 0=(R.take j,0):=by rw [htn,if_neg (by simp)]
  rw [e,htl];clear e htn hlast hdl hR htl hr hn;go_enter Tryz.func126,Tryz.ntmps126;go_wp2_with fail;go_ret2;exact ⟨some ad,c,rfl,HR.o,rfl⟩
 ·have hk2:(k != 0)=true:=by simpa using hk
  by_cases hx:x=k
  ·subst hx;have e:zbq R x=(R.take j,0):=by rw [htn,if_neg (by simp)]
   rw [e,htl];clear e htn hlast hdl hR htl hr hn;go_enter Tryz.func126,Tryz.ntmps126;go_wp2_with fail;go_ret2;exact ⟨some ad,c,rfl,HR.o,rfl⟩
  ·have hx2:(x != k)=true:=by simpa using hx
   have e:zbq R k=([],100):=by rw [htn,if_pos ⟨hk,hx⟩]
   rw [e];clear e htn hlast hdl hR htl hr hn;go_enter Tryz.func126,Tryz.ntmps126;go_wp2_with fail;go_ret2;exact ⟨none,0,rfl,Rd.none_ _,rfl⟩
theorem zi9 (A A2:Option Addr) (c n c2 m:Nat) (R K:List Int) (w:World) (hr:Rd w A c R) (hn:R.length=n) (hr2:Rd w A2 c2 K) (hm:K.length=m):Calls Tryz.prog 127 #[.slice A n c,.slice A2 m c2] w fun e w'=>∃A' c',e=.returned (.tuple #[.slice A' (zba R K).1.length c',.int .i64 (zba R K).2])∧Rd w' A' c' (zba R K).1∧w=w':=by
 have hl:=hr.len;have hl2:=hr2.len;have hn9:n≤9223372036854775807:=by omega
 have hm9:m≤9223372036854775807:=by omega
 have HR:=zhy hr;have HR2:=zhy hr2;have HN:=zhy hn;have HM:=zhy hm;clear hr hr2;by_cases h0:n<m
 ·have e:zba R K=([],101):=by rw [zba,if_pos (by omega)]
  rw [e];clear e hn hm;go_enter Tryz.func127,Tryz.ntmps127;go_wp2_with fail;go_ret2;exact ⟨none,0,rfl,Rd.none_ _,rfl⟩
 have HTK:Hid (zba R K=zfq R K.reverse):=zhy (by rw [zba,if_neg (by omega)]);obtain ⟨T,hT⟩:∃T,zba R K=T:=⟨_,rfl⟩;have HTT:=zhy hT;rw [hT];clear hT hn hm;go_enter Tryz.func127,Tryz.ntmps127;go_wp2_with fail;go_loopw [0,6] (fun rv iv wq=>∃(t n' c':Nat) (A':Option Addr) (R':List Int),t≤m∧n'≤9223372036854775807∧iv=.int .i64 ((t:Int)-1)∧rv=.slice A' n' c'∧w=wq∧Hid (Rd w A' c' R')∧Hid (R'.length=n')∧Hid (T=zfq R' (K.take t).reverse)) (fun _ iv _=>(intOf iv+1).toNat)
 case atStart=>exact ⟨m,n,c,A,R,by omega,by omega,by go_num,rfl,rfl,HR,HN,zhy (by rw [List.take_of_length_le (by rw [HM.o];exact Nat.le_refl _),←HTK.o,HTT.o])⟩
 case round =>
  obtain ⟨t,n',c',A',R',htm,hn9',rfl,rfl,rfl,HRR,HNN,HT⟩:=hrel;by_cases h1:t=0
  ·subst h1;have HE:Hid (T=(R',0)):=zhy (by rw [HT.o];simp [zfq]);have hneg:¬(0:Int)≤((0:Nat):Int)-1:=by omega
   go_wp2_with fail;go_ret2;exact ⟨A',c',by rw [HE.o,←HNN.o];rfl,by rw [HE.o];exact HRR.o,rfl⟩
  ·obtain ⟨j,hj⟩:∃j:Nat,(t:Int)-1=j:=⟨t-1,by omega⟩;have hjm:j<m:=by omega
   have htj:t=j+1:=by omega
   rw [hj];obtain ⟨ad,hA,y0⟩:=HR2.o.at_ (i:=j) (by rw [HM.o];exact hjm);subst hA;obtain ⟨k,hk⟩:∃k,K[j]?.getD 0=k:=⟨_,rfl⟩;rw [hk] at y0
   have HTS:Hid (T=zfq R' (k::(K.take j).reverse)):=zhy (by
    rw [HT.o,htj,List.take_add_one]
    have:K[j]?=some k:=by
     rw [←hk,zg7 (by rw [HM.o];exact hjm)];rfl
    rw [this];simp)
   have HC:=zhy (zc7 A' c' n' R' k w HRR.o HNN.o);obtain ⟨R2,e2,ht2⟩:∃R2 e2,zbq R' k=(R2,e2):=⟨_,_,rfl⟩;have hbd:=zkp (R:=R') (k:=k);rw [ht2] at HC hbd;dsimp only at HC hbd;have HT2:=zhy ht2;have hb2:R2.length≤9223372036854775807:=by have:=HNN.o;omega
   clear hk ht2 hbd htj;go_wp2_with fail;refine HC.o.mono ?_;rintro e w2 ⟨A3,c3,rfl,h3,rfl⟩;have HR3:=zhy h3;clear h3 HC;by_cases he:e2=0
   ·subst he;have HT3:Hid (T=zfq R2 (K.take j).reverse):=zhy (by rw [HTS.o,zfq,HT2.o,if_pos rfl]);obtain ⟨n2,hn2⟩:∃n2,R2.length=n2:=⟨_,rfl⟩;rw [hn2] at hb2 ⊢;have HN2:=zhy hn2;clear hn2;go_wp2_with fail;go_roundw
    case rel=>exact ⟨j,n2,c3,A3,R2,by omega,hb2,by go_num,rfl,(by first | trivial | rfl),HR3,HN2,HT3⟩
    case measure=>simp [intOf]
   ·have he2:(e2 != 0)=true:=by simpa using he
    have HE:Hid (T=([],e2)):=zhy (by rw [HTS.o,zfq,HT2.o,if_neg he]);go_wp2_with fail;go_ret2;exact ⟨none,0,by rw [HE.o];rfl,by rw [HE.o];exact Rd.none_ _,rfl⟩
theorem za4 (A:Option Addr) (c n:Nat) (R:List Int) (k:Int) (w:World) (hr:Rd w A c R) (hn:R.length=n) (hb:n≤1000000) (hk:0≤k∧k<256):Calls Tryz.prog 124 #[.slice A n c,.int .u8 k] w fun e w'=>∃A' c',e=.returned (.slice A' (n+1) c')∧w'.ownsRow w.heap.size 5 1 (.slice A' (n+1) c') (n+1) (cel (R++[k]))∧Below w.heap.size w w':=by
 obtain ⟨i0,hi,hz0,hz1,hz2⟩:=info_parts Tryz.info5;have HR:Hid (Rd (w.alloc (.cells #[] 5)) A c R):=zhy (hr.keep qh);have HO:Hid ((w.alloc (.cells #[] 5)).ownsRow w.heap.size 5 1 (.slice (some ⟨w.heap.size,0,none⟩) 0 0) 0 (cel [])):=zhy (World.ownsRow_lit w #[] 0 (Nat.le_refl _) (Nat.zero_le _) rfl);have HB0:Hid (Below w.heap.size w (w.alloc (.cells #[] 5))):=zhy qh;clear hr;go_enter Tryz.func124,Tryz.ntmps124;go_wp2_with (at_builtin;refine qa _ rfl (.tmp 6) (.tmp 7) 40 rfl w.heap.size 5 i0 Tryz.underlying40 hi hz0 hz1 hz2 _ 0 [] rfl HO.o A n c R rfl HR.o hn.symm (by omega) (by simp) ?_);intro A1 c1 w1 ho1 _ hb1 _;have HO1:Hid (w1.ownsRow w.heap.size 5 1 (.slice A1 n c1) n (cel R)):=zhy (by simpa using ho1);have HB1:=zhy (HB0.o.trans hb1);have hsz:=HB1.o.size;clear ho1 hb1 HR HO HB0;go_upto_region 2 with (fail)
 have HRK:Hid (Rd (w1.alloc (.cells #[.int .u8 k] 5)) (some ⟨w1.heap.size,0,none⟩) 1 [k]):=zhy ⟨fun x hx=>by rw [List.mem_singleton.1 hx];exact hk,Nat.le_refl _,by unfold maxLen;omega,.inr ⟨_,rfl,fun i x hx=>by
  match i,hx with
  | 0,hx =>
   simp at hx;subst hx;simp [go_sem,Addr.add]⟩⟩
 go_wp2_with (at_builtin;refine qa _ rfl (.tmp 9) (.tmp 11) 40 rfl w.heap.size 5 i0 Tryz.underlying40 hi hz0 hz1 hz2 _ n R rfl (HO1.o.alloc _) _ 1 1 [k] rfl HRK.o rfl (by omega) (by simp;omega) ?_);intro A2 c2 w2 ho2 _ hb2 _;have HO2:=zhy ho2;have HB2:=zhy (HB1.o.trans ((qh.mono hsz).trans hb2));clear ho2 hb2;go_wp2_with fail;go_ret;exact ⟨A2,c2,rfl,HO2.o,HB2.o⟩
structure Rx where
 r:Bool
 A:Option Addr
 c:Nat
 K:List Int
abbrev rz (z:Rx):Rz:=(z.r,z.K)
def At2 (w:World) (p:Addr) (z:Rx):Prop:=w.cell? p=some (.bool z.r)∧w.cell? ⟨p.block,p.off+1,none⟩=some (.slice z.A z.K.length z.c)
def Rw (w:World) (A:Option Addr) (c:Nat) (Z:List Rx):Prop:=(∀z∈Z,Rd w z.A z.c z.K)∧Z.length≤c∧c≤maxLen∧((A=none∧c=0)∨∃ad:Addr,A=some ad∧∀i z,Z[i]?=some z→At2 w (ad.add (i*2)) z)
theorem At2.keep {w w':World} {p:Addr} {z:Rx} (h:At2 w p z) (hb:Below w.heap.size w w'):At2 w' p z:=⟨(hb.cell (qi h.1)).trans h.1,(hb.cell (qi h.2)).trans h.2⟩
theorem Rw.keep {w w':World} {A:Option Addr} {c:Nat} {Z:List Rx} (h:Rw w A c Z) (hb:Below w.heap.size w w'):Rw w' A c Z:=by
 refine ⟨fun z hz=>(h.1 z hz).keep hb,h.2.1,h.2.2.1,?_⟩;rcases h.2.2.2 with hn | ⟨ad,ha,hc⟩
 ·exact .inl hn
 ·exact .inr ⟨ad,ha,fun i z hz=>(hc i z hz).keep hb⟩
theorem Rw.len {w:World} {A:Option Addr} {c:Nat} {Z:List Rx} (h:Rw w A c Z):Z.length≤9223372036854775807:=Nat.le_trans h.2.1 h.2.2.1
theorem Rw.at_ {w:World} {A:Option Addr} {c:Nat} {Z:List Rx} (h:Rw w A c Z) {i:Nat} {z:Rx} (hz:Z[i]?=some z):∃ad:Addr,A=some ad∧At2 w (ad.add (i*2)) z∧Rd w z.A z.c z.K:=by
 rcases h.2.2.2 with ⟨_,hc⟩ | ⟨ad,ha,hc⟩
 ·have:=h.2.1;have:=(zg8.1 hz).1;omega
 ·exact ⟨ad,ha,hc i z hz,h.1 z (List.mem_of_getElem? hz)⟩
abbrev fRw (A:Option Addr) (c:Nat) (Z:List Rx):Fct:=⟨fun w=>Rw w A c Z,fun _ _ h hb=>h.keep hb⟩
theorem zjs {Z:List Rx} {i:Nat} {z:Rx} (h:Z[i]?=some z):zc8 ((Z.take (i+1)).map rz)=max (zc8 ((Z.take i).map rz)) z.K.length:=by
 rw [List.take_add_one,h];simp [zc8]
theorem znk (A:Option Addr) (c n:Nat) (Z:List Rx) (w:World) (hr:Rw w A c Z) (hn:Z.length=n):Calls Tryz.prog 131 #[.slice A n c] w fun e w'=>e=.returned (.int .i64 (zc8 (Z.map rz)))∧w=w':=by
 have hl:=hr.len;have hn9:n≤9223372036854775807:=by omega
 have HR:=zhy hr;have HN:=zhy hn;clear hr hn;go_enter Tryz.func131,Tryz.ntmps131;go_wp2_with fail;go_loopw [3,4] (fun nv iv wq=>∃i v:Nat,i≤n∧v≤9223372036854775807∧iv=.int .i64 i∧nv=.int .i64 v∧w=wq∧Hid (v=zc8 ((Z.take i).map rz))) (fun _ iv _=>n-(intOf iv).toNat)
 case atStart=>exact ⟨0,0,by omega,by omega,rfl,rfl,rfl,zhy (by simp [zc8])⟩
 case round =>
  obtain ⟨i,v,hi,hv9,rfl,rfl,rfl,HV⟩:=hrel;by_cases h1:i<n
  ·obtain ⟨⟨r,B,b,K⟩,hz⟩:∃z,Z[i]?=some z:=⟨_,zg7 (by rw [HN.o];exact h1)⟩;obtain ⟨ad,hA,⟨y0,y1⟩,hK⟩:=HR.o.at_ hz;have hKl:=hK.len;have HS:=zhy (zjs hz);subst hA;dsimp only at y0 y1 hKl;clear hz hK;obtain ⟨kn,hkn⟩:∃kn,K.length=kn:=⟨_,rfl⟩;rw [hkn] at y1 hKl;have HKN:=zhy hkn;clear hkn;by_cases h2:v<kn
   ·have HV2:Hid (kn=zc8 ((Z.take (i+1)).map rz)):=zhy (by
     rw [HS.o,←HV.o];have:=HKN.o;simp only;omega)
    go_wp2_with fail;go_roundw
    case rel=>exact ⟨i+1,kn,by omega,hKl,by go_num,rfl,(by first | trivial | rfl),HV2⟩
    case measure=>simp [intOf];omega
   ·have HV2:Hid (v=zc8 ((Z.take (i+1)).map rz)):=zhy (by
     rw [HS.o,←HV.o];have:=HKN.o;simp only;omega)
    go_wp2_with fail;go_roundw
    case rel=>exact ⟨i+1,v,by omega,hv9,by go_num,rfl,(by first | trivial | rfl),HV2⟩
    case measure=>simp [intOf];omega
  ·obtain rfl:i=n:=by omega
   have HE:Hid (v=zc8 (Z.map rz)):=zhy (by rw [HV.o,List.take_of_length_le (by rw [HN.o];exact Nat.le_refl _)]);go_wp2_with fail;go_ret;exact ⟨by rw [HE.o];rfl,rfl⟩
def cer (Z:List Rx):List Value:=Z.flatMap fun z=>[.bool z.r,.slice z.A z.K.length z.c]
theorem jt (z:Rx) (Z:List Rx):cer (z::Z)=.bool z.r::.slice z.A z.K.length z.c::cer Z:=by simp [cer]
theorem zce (Z:List Rx):(cer Z).length=Z.length*2:=by
 induction Z with
 | nil=>rfl
 | cons z Z ih=>rw [jt];simp [ih];omega
theorem zio:∀{Z:List Rx} {i:Nat} {z:Rx},Z[i]?=some z→(cer Z)[i*2]?=some (.bool z.r)∧(cer Z)[i*2+1]?=some (.slice z.A z.K.length z.c)
 | y::Z,0,z,h=>by
  simp at h;subst h;rw [jt];exact ⟨rfl,rfl⟩
 | y::Z,i+1,z,h=>by
  obtain ⟨h1,h2⟩:=zio (Z:=Z) (i:=i) (by simpa using h);rw [jt,show (i+1)*2=i*2+1+1 by omega,show i*2+1+1+1=(i*2+1)+1+1 by omega];simp only [List.getElem?_cons_succ];exact ⟨h1,h2⟩
theorem zmd:∀{Z:List Rx} {i:Nat} {z:Rx} (r:Bool),Z[i]?=some z→(cer Z).set (i*2) (.bool r)=cer (Z.set i { z with r:=r })
 | y::Z,0,z,r,h=>by
  simp at h;subst h;rw [List.set_cons_zero,jt,jt];rfl
 | y::Z,i+1,z,r,h=>by
  have ih:=zmd (Z:=Z) (i:=i) (z:=z) r (by simpa using h);rw [List.set_cons_succ,jt,jt,←ih,show (i+1)*2=i*2+1+1 by omega];rfl
theorem zm9:∀{Z:List Rx} {i:Nat} {z:Rx} (A:Option Addr) (c:Nat) (K:List Int),Z[i]?=some z→(cer Z).set (i*2+1) (.slice A K.length c)=cer (Z.set i ⟨z.r,A,c,K⟩)
 | y::Z,0,z,A,c,K,h=>by
  simp at h;subst h;rw [List.set_cons_zero,jt,jt];rfl
 | y::Z,i+1,z,A,c,K,h=>by
  have ih:=zm9 (Z:=Z) (i:=i) (z:=z) A c K (by simpa using h);rw [List.set_cons_succ,jt,jt,←ih,show (i+1)*2+1=i*2+1+1+1 by omega];rfl
def Wr (w:World) (t g:Nat) (Z:List Rx):Prop:=w.heap[g]?=some (.cells (cer Z).toArray t (0,0))∧∀z∈Z,Rd w z.A z.c z.K
theorem zwq (Z:List Rx):∀u∈cer Z,∀kd x,u≠.int kd x:=by
 intro u hu kd x e;simp only [cer,List.mem_flatMap] at hu;obtain ⟨z,-,hz⟩:=hu;subst e;simp at hz
section
variable {w w' : World} {t g : Nat} {Z : List Rx}
theorem Wr.lt (h:Wr w t g Z):g<w.heap.size:=(zg9.1 h.1).1
theorem Wr.keep (h:Wr w t g Z) (hb:Below w.heap.size w w'):Wr w' t g Z:=⟨(hb.block g h.lt).trans h.1,fun z hz=>(h.2 z hz).keep hb⟩
theorem Wr.cell0 (h:Wr w t g Z) {i:Nat} {z:Rx} (hz:Z[i]?=some z):w.cell? ⟨g,i*2,none⟩=some (.bool z.r):=by
 rw [cell_of_row w g _ _ _ (0,0) h.1,List.getElem?_toArray];exact (zio hz).1
theorem Wr.cell1 (h:Wr w t g Z) {i:Nat} {z:Rx} (hz:Z[i]?=some z):w.cell? ⟨g,i*2+1,none⟩=some (.slice z.A z.K.length z.c):=by
 rw [cell_of_row w g _ _ _ (0,0) h.1,List.getElem?_toArray];exact (zio hz).2
theorem Wr.froz (h:Wr w t g Z) (i:Nat):w.frozen? ⟨g,i,none⟩=false:=frozen_of_row w g i _ _ h.1
theorem Wr.no_int (h:Wr w t g Z) {p:Addr} {kd:IntKind} {x:Int} (hp:w.cell? p=some (.int kd x)):p.block≠g:=by
 intro e;obtain ⟨b,o,sp⟩:=p;subst e
 have hc:sp=none→(cer Z)[o]?=some (.int kd x):=fun e=>by
  subst e;rw [cell_of_row w _ _ _ _ (0,0) h.1,List.getElem?_toArray] at hp;exact hp
 cases sp with
 | none=>exact zwq Z _ (List.mem_of_getElem? (hc rfl)) kd x rfl
 | some s=>simp [World.cell?,h.1] at hp
theorem Rd.past {A:Option Addr} {c:Nat} {K:List Int} (h:Rd w A c K) (hw:Wr w t g Z) (j:Nat) (v:Value):Rd (w.setCell ⟨g,j,none⟩ v) A c K:=by
 refine ⟨h.1,h.2.1,h.2.2.1,?_⟩;rcases h.2.2.2 with hn | ⟨ad,ha,hc⟩
 ·exact .inl hn
 ·refine .inr ⟨ad,ha,fun i x hx=>?_⟩;have:=hc i x hx;rw [World.cell?_setCell_other _ _ _ _ (fun e=>hw.no_int this (by rw [←e]))];exact this
theorem Wr.setr (h:Wr w t g Z) {i:Nat} {z:Rx} (hz:Z[i]?=some z) (r:Bool):Wr (w.setCell ⟨g,i*2,none⟩ (.bool r)) t g (Z.set i { z with r:=r }):=by
 refine ⟨?_,fun u hu=>?_⟩
 ·rw [heap_setCell_same w g _ _ _ _ h.1,←zmd r hz];simp
 ·rcases List.mem_or_eq_of_mem_set hu with hu | rfl
  ·exact (h.2 u hu).past h _ _
  ·exact (h.2 z (List.mem_of_getElem? hz)).past h _ _
theorem Wr.setk (h:Wr w t g Z) {i:Nat} {z:Rx} (hz:Z[i]?=some z) {A:Option Addr} {c:Nat} {K:List Int} (hk:Rd w A c K):Wr (w.setCell ⟨g,i*2+1,none⟩ (.slice A K.length c)) t g (Z.set i ⟨z.r,A,c,K⟩):=by
 refine ⟨?_,fun u hu=>?_⟩
 ·rw [heap_setCell_same w g _ _ _ _ h.1,←zm9 A c K hz];simp
 ·rcases List.mem_or_eq_of_mem_set hu with hu | rfl
  ·exact (h.2 u hu).past h _ _
  ·exact hk.past h _ _
theorem Wr.rw (h:Wr w t g Z) {m:Nat} (hm:Z.length=m) (hl:m≤1000000):Rw w (some ⟨g,0,none⟩) m Z:=by
 refine ⟨h.2,by omega,by unfold maxLen;omega,.inr ⟨_,rfl,fun i z hz=>?_⟩⟩
 have e:∀k,(⟨g,0,none⟩:Addr).add k=⟨g,k,none⟩:=fun k=>by
  unfold Addr.add;split
  ·rename_i h0;simp [h0]
  ·simp
 rw [At2,e];exact ⟨h.cell0 hz,h.cell1 hz⟩
end
abbrev fWr (t g:Nat) (Z:List Rx):Fct:=⟨fun w=>Wr w t g Z,fun _ _ h hb=>h.keep hb⟩
abbrev fC1 (p:Addr) (v:Value):Fct:=⟨fun w=>w.cell? p=some v,fun _ _ h hb=>(hb.cell (qi h)).trans h⟩
def zeq:Rx:=⟨false,none,0,[]⟩
theorem zve (m:Nat):(madeCells #[.bool false,.slice none 0 0] (m*2)).toList=cer (List.replicate m zeq):=by
 have hc:∀m,cer (List.replicate m zeq)=(List.range (m*2)).map fun i=>if i % 2=0 then .bool false else .slice none 0 0:=fun m=>by
  induction m with
  | zero=>rfl
  | succ m ih =>
   rw [List.replicate_succ',cer,List.flatMap_append,←cer,ih,show (m+1)*2=m*2+1+1 by omega,List.range_succ,List.range_succ,List.map_append,List.map_append,List.append_assoc];congr 1;simp only [List.map_cons,List.map_nil,List.flatMap_cons,List.flatMap_nil,List.append_nil,zeq,List.length_nil];rw [if_pos (by omega),if_neg (by omega)];rfl
 rw [hc];apply List.ext_getElem?;intro i;by_cases h:i<m*2
 ·have h2:i % 2=0∨i % 2=1:=by omega
  rcases h2 with e | e<;>simp [madeCells,h,e]
 ·simp [madeCells,h]
theorem Wr.of_own {w:World} {base t m:Nat} {A:Option Addr} (h:w.ownsRow base t 2 (.slice A m m) m (cer (List.replicate m zeq))) (hm:0<m):∃g,A=some ⟨g,0,none⟩∧base≤g∧Wr w t g (List.replicate m zeq):=by
 rcases h.2 with ⟨hv,h0⟩ | ⟨g,cap,cur,hv,hg,hb,h1,h2,h3,h4⟩
 ·omega
 ·injection hv with e1 e2 e3;subst e1 e3;refine ⟨g,rfl,hg,?_,fun z hz=>?_⟩
  ·rw [hb];congr 2;apply Array.ext';rw [←h4,List.take_of_length_le (by simp [h3])]
  ·rw [List.eq_of_mem_replicate hz];exact Rd.none_ w
theorem zlz (A B:Option Addr) (c d n m:Nat) (l k:List Int) (v:Bool) (w:World) (hr:Rd w A c l) (hs:Rd w B d k) (hn:l.length=n) (hm:k.length=m) (hv:(l==k)=v) :
  Calls Tryz.prog 200 #[.slice A n c,.slice B m d] w fun e w'=>e=.returned (.bool v)∧Below w.heap.size w w':=by
 subst hn hm;have hlen:=hr.len;have hlen2:=hs.len;have HR:=zhy hr;have HS:=zhy hs;have HV:=zhy hv;clear hr hs hv;by_cases hl:l.length=k.length
 ·go_enter Tryz.func200,Tryz.ntmps200;go_wp2_with fail;go_loopw [13] (fun i wr=>∃j:Nat,j≤l.length∧i=.int .i64 j∧Hid (l.take j=k.take j)∧Hid (Below w.heap.size w wr)) (fun i _=>l.length-(intOf i).toNat)
  case atStart=>exact ⟨0,by omega,rfl,rfl,Below.refl _ _⟩
  case round =>
   obtain ⟨j,hj,rfl,HT,HB⟩:=hrel;by_cases h1:j<l.length
   ·have h2:j<k.length:=by omega
    obtain ⟨ad,rfl,hc⟩:=(HR.o.keep HB.o).at_ h1;obtain ⟨bd,rfl,hd⟩:=(HS.o.keep HB.o).at_ h2;rw [zg7 h1] at hc;rw [zg7 h2] at hd;simp only [Option.getD_some] at hc hd;by_cases hx:l[j]=k[j]
    ·have HN:=zhy (zoy h1 h2 hx HT.o);clear HT;rw [←hx] at hd;clear hx;generalize l[j]=x at *;go_wp2_with fail;go_quiet (fail);go_wp2_with fail;go_roundw
     case rel=>exact ⟨j+1,by omega,by go_num,HN,zhy (qf HB.o _)⟩
     case measure=>simp [intOf];omega
    ·have HN:Hid (v=false):=by rw [Hid,←HV.o];exact zi6 (zph h1 h2 hx)
     clear HT;generalize l[j]=x at *;generalize k[j]=y at *;go_wp2_with fail;go_quiet (fail);go_wp2_with fail;go_ret;exact ⟨by rw [HN.o];rfl,qf HB.o _⟩
   ·obtain rfl:j=l.length:=by omega
    have HN:Hid (v=true):=by
     rw [Hid,←HV.o];have:=HT.o;rw [List.take_length,hl,List.take_length] at this;simpa using this
    clear HT;go_wp2_with fail;go_ret;exact ⟨by rw [HN.o];rfl,HB.o⟩
 ·have HN:Hid (v=false):=by rw [Hid,←HV.o];exact zi6 (fun e=>hl (by rw [e]))
  go_enter Tryz.func200,Tryz.ntmps200;go_wp2_with fail;go_ret;exact ⟨by rw [HN.o];rfl,Below.refl _ _⟩
theorem Ri.at9 {w:World} {A:Option Addr} {c:Nat} {L:List Ins} (h:Ri w A c L) {i:Nat} {o a z:Int} (hx:L[i]?=some (o,a,z)):∃ad:Addr,A=some ad∧w.cell? (ad.add (i*3))=some (.int .u8 o)∧w.cell? ⟨(ad.add (i*3)).block,(ad.add (i*3)).off+1,none⟩=some (.int .i64 a)∧w.cell? ⟨(ad.add (i*3)).block,(ad.add (i*3)).off+2,none⟩=some (.int .i64 z):=by
 obtain ⟨hi,he⟩:=zg8.1 hx;obtain ⟨ad,hA,h1,h2,h3⟩:=h.at_ hi;rw [he] at h1 h2 h3;exact ⟨ad,hA,h1,h2,h3⟩
end Go.Proofs.YtnjgkkoiamiaaaaGreatDoor
