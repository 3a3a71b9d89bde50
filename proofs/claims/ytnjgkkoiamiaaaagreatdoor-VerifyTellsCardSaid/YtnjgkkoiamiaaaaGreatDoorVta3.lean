import Derived.Test.YtnjgkkoiamiaaaaGreatDoorVta2
import Derived.OwnWalk
import Derived.Laws.OwnMore
import Derived.Test.YtnjgkkoiamiaaaaGreatDoorVta1
import Derived.ProofKit
import Derived.LaidMore
import Derived.OpenShut
import Derived.Stop.Joined
import Derived.Lib.SmallJoins
import Derived.Lib.Bytes
set_option maxRecDepth 100000
set_option maxHeartbeats 16000000
set_option linter.unusedSimpArgs false
set_option linter.unusedVariables false
namespace Go.Proofs.YtnjgkkoiamiaaaaGreatDoor
open Go.RowKit
structure Mh where
 a:List Int
 l:List Int
 r:Int
 q:Bool
 f:Int
 s:Int
 h:Int
structure Mc where
 A:Option Addr
 c:Nat
 B:Option Addr
 d:Nat
 D:Option Addr
 k:Nat
 e:Nat
def Mh.zero:Mh:=⟨[],[],0,false,0,0,0⟩
def Mc.zero:Mc:=⟨none,0,none,0,none,0,0⟩
abbrev mv (x:Mc) (m:Mh):Value:=.agg #[.slice x.A m.a.length x.c,.slice x.B m.l.length x.d,.int .u8 m.r,.bool m.q,.int .i64 m.f,.int .i64 m.s,.int .i64 m.h,.slice x.D x.k x.e]
abbrev zbk (x:Mc) (m:Mh):Obj:=.cells #[.slice x.A m.a.length x.c,.slice x.B m.l.length x.d,.int .u8 m.r,.bool m.q,.int .i64 m.f,.int .i64 m.s,.int .i64 m.h,.slice x.D x.k x.e] 50
def Mh.nums (m:Mh):Prop:=(0≤m.r∧m.r<256)∧(-9223372036854775808≤m.f∧m.f≤9223372036854775807)∧(-9223372036854775808≤m.s∧m.s≤9223372036854775807)∧(-9223372036854775808≤m.h∧m.h≤9223372036854775807)
def Hd (w:World) (x:Mc) (m:Mh):Prop:=Rd w x.A x.c m.a∧Rd w x.B x.d m.l∧m.nums
theorem Hd.keep {w w':World} {x:Mc} {m:Mh} (h:Hd w x m) (hb:Below w.heap.size w w'):Hd w' x m:=⟨h.1.keep hb,h.2.1.keep hb,h.2.2⟩
theorem Hd.la {w:World} {x:Mc} {m:Mh} (h:Hd w x m):m.a.length≤9223372036854775807:=h.1.len
theorem Hd.ll {w:World} {x:Mc} {m:Mh} (h:Hd w x m):m.l.length≤9223372036854775807:=h.2.1.len
abbrev fH (x:Mc) (m:Mh):Fct:=⟨fun w=>Hd w x m,fun _ _ h hb=>h.keep hb⟩
def Mb (w:World) (B:Nat) (x:Mc) (m:Mh):Prop:=B<w.heap.size∧w.cell? ⟨B,0,none⟩=some (.slice x.A m.a.length x.c)∧w.cell? ⟨B,1,none⟩=some (.slice x.B m.l.length x.d) ∧
 w.cell? ⟨B,2,none⟩=some (.int .u8 m.r)∧w.cell? ⟨B,3,none⟩=some (.bool m.q)∧w.cell? ⟨B,4,none⟩=some (.int .i64 m.f)∧w.cell? ⟨B,5,none⟩=some (.int .i64 m.s)∧w.cell? ⟨B,6,none⟩=some (.int .i64 m.h) ∧
 w.cell? ⟨B,7,none⟩=some (.slice x.D x.k x.e)
theorem Mb.new (w:World) (x:Mc) (m:Mh):Mb (w.alloc (zbk x m)) w.heap.size x m:=by
 refine ⟨by simp,?_,?_,?_,?_,?_,?_,?_,?_⟩<;>simp [go_sem]
theorem Mb.keep {w w':World} {B:Nat} {x:Mc} {m:Mh} (h:Mb w B x m) (hb:Below w.heap.size w w'):Mb w' B x m:=by
 obtain ⟨h0,h1,h2,h3,h4,h5,h6,h7,h8⟩:=h;obtain ⟨hc,hf⟩:=zbi hb;exact ⟨Nat.lt_of_lt_of_le h0 hb.size,(hc _ _ h0).trans h1,(hc _ _ h0).trans h2,(hc _ _ h0).trans h3,(hc _ _ h0).trans h4,(hc _ _ h0).trans h5,(hc _ _ h0).trans h6,(hc _ _ h0).trans h7,(hc _ _ h0).trans h8⟩
abbrev fM (B:Nat) (x:Mc) (m:Mh):Fct:=⟨fun w=>Mb w B x m,fun _ _ h hb=>h.keep hb⟩
theorem Sx.mkM {w0 w:World} {L:List Fct} (h:Sx w0 w L) (x:Mc) (m:Mh):Sx w0 (w.alloc (zbk x m)) (fM w.heap.size x m::L):=(h.mk1 _).add (fM w.heap.size x m) (Mb.new w x m)
def kO (l:List Int):Bool:=l.all fun x=>decide (1≤x)&&decide (x≤3)
def mM (m:Mh):Bool:=decide (m.a.length≤4)&&(decide (m.l.length+m.a.length≤16)&&(kO m.a&&(kO m.l&&((decide (1≤m.r)&&decide (m.r≤2))&&((decide (0≤m.f)&&decide (m.f≤1048576))&&((decide (0≤m.s)&&decide (m.s≤256))&&(decide (0≤m.h)&&decide (m.h≤1024))))))))
def mG (m:Mh):Bool:=mM m&&!m.a.contains 3
def mS (a b:Mh):Bool:=a.a==b.a&&(a.l==b.l&&(a.r==b.r&&(a.q==b.q&&(a.f==b.f&&(a.s==b.s&&a.h==b.h)))))
def fl (q:Bool):Int:=if q then 1 else 0
def mL (m:Mh):List Int:=if mM m then ((m.a.length:Int)::m.a)++(((m.l.length:Int)::m.l)++([m.r,fl m.q]++(qu m.f 3++(qu m.s 2++qu m.h 2)))) else []
def mE (m:Mh):Int:=if mM m then 0 else 70
theorem qb8 {a b:Mh}:mS a b=true↔a=b:=by
 obtain ⟨a1,a2,a3,a4,a5,a6,a7⟩:=a;obtain ⟨b1,b2,b3,b4,b5,b6,b7⟩:=b;simp [mS]
theorem zbu {m:Mh}:mM m=true↔m.a.length≤4∧m.l.length+m.a.length≤16∧kO m.a=true∧kO m.l=true∧(1≤m.r∧m.r≤2)∧(0≤m.f∧m.f≤1048576)∧(0≤m.s∧m.s≤256)∧(0≤m.h∧m.h≤1024):=by
 simp [mM,and_assoc]
theorem znb {l:List Int} (h:kO l=true) {x:Int} (hx:x∈l):1≤x∧x≤3:=by
 have:=List.all_eq_true.1 h x hx;simpa using this
def nE (l:List Int) (q W lo hi:Int):Int:=if zoj l q W=0 then (if lo≤zx7 l q W∧zx7 l q W≤hi then 0 else 70) else zoj l q W
def rN (l:List Int) (W lo hi:Int) (s:Int×Int):Int×Int×Int:=
 if s.2=0 then (if nE l s.1 W lo hi=0 then (zx7 l s.1 W,qcv l s.1 W,0) else (0,s.1,nE l s.1 W lo hi)) else (0,s.1,s.2)
def rKs (l:List Int):Nat→Int×Int→List Int×Int×Int
 | 0,s=>([],s.1,s.2)
 | k+1,s=>((rN l 1 1 3 s).1::(rKs l k (rN l 1 1 3 s).2).1,(rKs l k (rN l 1 1 3 s).2).2)
theorem qax {l:List Int} {W lo hi q e:Int} (he:e≠0):rN l W lo hi (q,e)=(0,q,e):=by rw [rN,if_neg he]
theorem qch {l:List Int} {W lo hi q:Int} (h:nE l q W lo hi=0):rN l W lo hi (q,0)=(zx7 l q W,qcv l q W,0):=by rw [rN,if_pos rfl,if_pos h]
theorem qcs {l:List Int} {W lo hi q:Int} (h:nE l q W lo hi≠0):rN l W lo hi (q,0)=(0,q,nE l q W lo hi):=by rw [rN,if_pos rfl,if_neg h]
theorem zlm {l:List Int} {q e:Int} (he:e≠0):∀k,(rKs l k (q,e)).2=(q,e)
 | 0=>rfl
 | k+1=>by rw [rKs,qax he];exact zlm he k
theorem zgg {l:List Int} (hb:Byt l) {q W:Int} (h1:1≤W) (h2:W≤7):zoj l q W=zmo l q W:=by
 refine zq6 (by omega) ?_;have hl:=zz1 l q W 7 (by omega);have:=qcg (zys hb q W)
 have h3:zbb (zn8 l q W).length≤zbb 7:=by
  exact qad hl
 have h4:zbb 7=72057594037927936:=by decide
 omega
theorem zn9 {l:List Int} (hb:Byt l) {q W:Int} (h0:0≤q) (hq:q≤l.length) (h1:1≤W) (h2:W≤7) (h:(l.length:Int)<q+W):zoj l q W=10:=by
 rw [zgg hb h1 h2,(zrx h0 hq (by omega)).1]
theorem zrv {l:List Int} (hb:Byt l) {q W:Int} (h0:0≤q) (h1:1≤W) (h2:W≤7) (h:q+W≤l.length):zoj l q W=0∧zx7 l q W=num ((l.drop q.toNat).take W.toNat)∧qcv l q W=q+W:=by
 have e:=zyq (l:=l) (p:=q) (n:=W) h0 (by omega) (by omega);have:zoj l q W=0:=by rw [zgg hb h1 h2,e.1]
 exact ⟨this,by rw [zx7,if_pos this,e.2.1],by rw [qcv,if_pos this]⟩
theorem ziv {l:List Int} (hb:Byt l) {q:Nat} (h:q<l.length):zoj l q 1=0∧zx7 l q 1=l[q]∧qcv l q 1=q+1:=by
 obtain ⟨h1,h2,h3⟩:=zrv hb (q:=q) (W:=1) (by omega) (by omega) (by omega) (by omega);refine ⟨h1,?_,h3⟩;rw [h2,Int.toNat_natCast,show (1:Int).toNat=1 from rfl,List.drop_eq_getElem_cons h,List.take_succ_cons,List.take_zero,num,num];omega
theorem qaa {l:List Int} (hb:Byt l) {q:Nat} (h:q<l.length) (lo hi:Int):nE l q 1 lo hi=if lo≤l[q]∧l[q]≤hi then 0 else 70:=by
 obtain ⟨h1,h2,h3⟩:=ziv hb h;rw [nE,if_pos h1,h2]
theorem qbg {l:List Int} (hb:Byt l) {q:Nat} (h:q=l.length) (lo hi:Int):nE l q 1 lo hi=10:=by
 have:=zn9 hb (q:=q) (W:=1) (by omega) (by omega) (by omega) (by omega) (by omega);rw [nE,this];simp
theorem qbo {l:List Int} (hb:Byt l):∀(k:Nat) (q:Nat) (K:List Int) (n:Int),q≤l.length→rKs l k ((q:Int),0)=(K,n,0)→n=((q+k:Nat):Int)∧q+k≤l.length∧K.length=k∧K=(l.drop q).take k∧kO K=true
 | 0,q,K,n,hq,h=>by
  simp only [rKs,Prod.mk.injEq] at h;obtain ⟨rfl,rfl,_⟩:=h;exact ⟨by simp,by omega,rfl,by simp,rfl⟩
 | k+1,q,K,n,hq,h=>by
  by_cases h1:q<l.length
  ·have e:=qaa hb h1 1 3;by_cases hx:1≤l[q]∧l[q]≤3
   ·rw [if_pos hx] at e;obtain ⟨g1,g2,g3⟩:=ziv hb h1;rw [rKs,qch e,g2,g3] at h;simp only [Prod.mk.injEq] at h;obtain ⟨rfl,h2⟩:=h;obtain ⟨a1,a2,a3,a4,a5⟩:=qbo hb k (q+1) _ n (by omega) (show rKs l k (((q+1:Nat):Int),0)=((rKs l k (((q:Int)+1),0)).1,n,0) from Prod.ext rfl h2);refine ⟨by rw [a1];congr 1;omega,by omega,by rw [List.length_cons,a3],?_,?_⟩
    ·rw [List.drop_eq_getElem_cons h1,List.take_succ_cons,←a4]
    ·have:=a5;unfold kO at *;rw [List.all_cons,this];simpa using hx
   ·rw [if_neg hx] at e;rw [rKs,qcs (by rw [e];decide),e] at h;have:=zlm (l:=l) (q:=q) (e:=70) (by decide) k;simp only [Prod.mk.injEq] at h;rw [this] at h;simp at h
  ·have e:=qbg hb (show q=l.length by omega) 1 3;rw [rKs,qcs (by rw [e];decide),e] at h;have:=zlm (l:=l) (q:=q) (e:=10) (by decide) k;simp only [Prod.mk.injEq] at h;rw [this] at h;simp at h
theorem zzc {l:List Int} {j:Nat} (hj:j<l.length) (h:kO (l.take j)=true):kO (l.take (j+1))=(decide (1≤l[j])&&decide (l[j]≤3)):=by
 unfold kO at *;rw [List.take_add_one,List.all_append,h,zg7 hj];simp
theorem qd0 {l:List Int} {j:Nat} (hj:j<l.length) (h:¬(1≤l[j]∧l[j]≤3)):kO l=false:=by
 unfold kO;rw [List.all_eq_false];exact ⟨l[j],List.getElem_mem hj,by simpa using h⟩
theorem zjf (A:Option Addr) (c n:Nat) (l:List Int) (v:Bool) (w:World) (hr:Rd w A c l) (hn:l.length=n) (hv:kO l=v) :
  Calls Tryz.prog 119 #[.slice A n c] w fun e w'=>e=.returned (.bool v)∧w=w':=by
 subst hn;have hlen:=hr.len;have HR:=zhy hr;have HV:=zhy hv;clear hr hv;go_enter Tryz.func119,Tryz.ntmps119;go_wp2_with fail;go_loopw [3] (fun i wr=>∃j:Nat,j≤l.length∧i=.int .i64 j∧Hid (kO (l.take j)=true)∧Hid (w=wr)) (fun i _=>l.length-(intOf i).toNat)
 case atStart=>exact ⟨0,by omega,rfl,rfl,rfl⟩
 case round =>
  obtain ⟨j,hj,rfl,HA,HW⟩:=hrel;have HR1:Hid (Rd wr A c l):=by rw [Hid,←HW.o];exact HR.o
  by_cases h1:j<l.length
  ·obtain ⟨ad,rfl,hc⟩:=HR1.o.at_ h1;rw [zg7 h1] at hc;simp only [Option.getD_some] at hc;by_cases hx:1≤l[j]∧l[j]≤3
   ·have HN:Hid (kO (l.take (j+1))=true):=by rw [Hid,zzc h1 HA.o];simpa using hx
    have hx3:l[j]=1∨l[j]=2∨l[j]=3:=by omega
    clear hx HA;rcases hx3 with hx | hx | hx<;>rw [hx] at hc
    all_goals
     clear hx
     go_wp2_with fail
     go_roundw
     case rel=>exact ⟨j+1,by omega,by go_num,HN,HW⟩
     case measure=>simp [intOf];omega
   ·have HN:Hid (v=false):=by rw [Hid,←HV.o];exact qd0 h1 hx
    generalize l[j]=x at *;have e1:(x != 1)=true:=by simp;omega
    have e2:(x != 2)=true:=by simp;omega
    have e3:(x != 3)=true:=by simp;omega
    clear hx HA;go_wp2_with fail;go_ret;exact ⟨by rw [HN.o];rfl,HW.o⟩
  ·obtain rfl:j=l.length:=by omega
   have HN:Hid (v=true):=by rw [Hid,←HV.o];have:=HA.o;rwa [List.take_length] at this
   clear HA;go_wp2_with fail;go_ret;exact ⟨by rw [HN.o];rfl,HW.o⟩
theorem zph {l k:List Int} {j:Nat} (h1:j<l.length) (h2:j<k.length) (h:¬l[j]=k[j]):¬l=k:=by
 intro e;subst e;exact h rfl
theorem zoy {l k:List Int} {j:Nat} (h1:j<l.length) (h2:j<k.length) (h:l[j]=k[j]) (ht:l.take j=k.take j):l.take (j+1)=k.take (j+1):=by
 rw [List.take_add_one,List.take_add_one,zg7 h1,zg7 h2,h,ht]
theorem zi6 {l k:List Int} (h:¬l=k):(l==k)=false:=by simpa using h
theorem zer (A B:Option Addr) (c d n m:Nat) (l k:List Int) (v:Bool) (w:World) (hr:Rd w A c l) (hs:Rd w B d k) (hn:l.length=n) (hm:k.length=m) (hv:(l==k)=v) :
  Calls Tryz.prog 76 #[.slice A n c,.slice B m d] w fun e w'=>e=.returned (.bool v)∧Below w.heap.size w w':=by
 subst hn hm;have hlen:=hr.len;have hlen2:=hs.len;have HR:=zhy hr;have HS:=zhy hs;have HV:=zhy hv;clear hr hs hv;by_cases hl:l.length=k.length
 ·go_enter Tryz.func76,Tryz.ntmps76;go_wp2_with fail;go_loopw [5] (fun i wr=>∃j:Nat,j≤l.length∧i=.int .i64 j∧Hid (l.take j=k.take j)∧Hid (Below w.heap.size w wr)) (fun i _=>l.length-(intOf i).toNat)
  case atStart=>exact ⟨0,by omega,rfl,rfl,Below.refl _ _⟩
  case round =>
   obtain ⟨j,hj,rfl,HT,HB⟩:=hrel;by_cases h1:j<l.length
   ·have h2:j<k.length:=by omega
    obtain ⟨ad,rfl,hc⟩:=(HR.o.keep HB.o).at_ h1;obtain ⟨bd,rfl,hd⟩:=(HS.o.keep HB.o).at_ h2;rw [zg7 h1] at hc;rw [zg7 h2] at hd;simp only [Option.getD_some] at hc hd;by_cases hx:l[j]=k[j]
    ·have HN:=zhy (zoy h1 h2 hx HT.o);clear HT;rw [←hx] at hd;clear hx;generalize l[j]=x at *;go_wp2_with fail;go_quiet (fail);go_wp2_with fail;go_roundw
     case rel=>exact ⟨j+1,by omega,by go_num,HN,zhy (qf HB.o _)⟩
     case measure=>simp [intOf];omega
    ·have HN:Hid (v=false):=by rw [Hid,←HV.o];exact zi6 (zph h1 h2 hx)
     clear HT;generalize l[j]=x at *;generalize k[j]=y at *;go_wp2_with fail;go_quiet (fail);go_wp2_with fail;go_ret;exact ⟨by rw [HN.o];rfl,qf HB.o _⟩
   ·obtain rfl:j=l.length:=by omega
    have HN:Hid (v=true):=by
     rw [Hid,←HV.o];have:=HT.o;rw [List.take_length,hl,List.take_length] at this;simpa using this
    clear HT;go_wp2_with fail;go_ret;exact ⟨by rw [HN.o];rfl,HB.o⟩
 ·have HN:Hid (v=false):=by rw [Hid,←HV.o];exact zi6 (fun e=>hl (by rw [e]))
  go_enter Tryz.func76,Tryz.ntmps76;go_wp2_with fail;go_ret;exact ⟨by rw [HN.o];rfl,Below.refl _ _⟩
theorem zrb (x y:Mc) (m k:Mh) (v:Bool) (w:World) (hx:Hd w x m) (hy:Hd w y k) (hv:mS m k=v) :
  Calls Tryz.prog 42 #[mv x m,mv y k] w fun e w'=>e=.returned (.bool v)∧Below w.heap.size w w':=by
 have HV:=zhy hv;have S0:=zhy (((((Sx.start w).add (fH x m) hx).add (fH y k) hy).mkM x m).mkM y k);rw [qn] at S0;clear hx hy hv;obtain ⟨-,⟨hy0,hy1,hy2,hy3,hy4,hy5,hy6,hy7,hy8⟩,⟨hx0,hx1,hx2,hx3,hx4,hx5,hx6,hx7,hx8⟩,hyd,hxd,-⟩:=S0.o;have P1:=zhy (zer x.A y.A x.c y.c _ _ m.a k.a _ _ hxd.1 hyd.1 rfl rfl rfl);clear hxd hyd;go_enter Tryz.func42,Tryz.ntmps42;go_wp2_with fail;refine P1.o.mono ?_;rintro e w1 ⟨rfl,hb1⟩;have S1:=zhy (S0.o.call hb1);clear P1 S0 hb1 hx1 hx2 hx3 hx4 hx5 hx6 hx7 hx8 hy1 hy2 hy3 hy4 hy5 hy6 hy7 hy8;by_cases h0:m.a=k.a
 ·rw [show (m.a==k.a)=true from by simpa using h0];obtain ⟨-,⟨hy0,hy1,hy2,hy3,hy4,hy5,hy6,hy7,hy8⟩,⟨hx0,hx1,hx2,hx3,hx4,hx5,hx6,hx7,hx8⟩,hyd,hxd,-⟩:=S1.o;have P2:=zhy (zer x.B y.B x.d y.d _ _ m.l k.l _ _ hxd.2.1 hyd.2.1 rfl rfl rfl);clear hxd hyd;have H0:=zhy h0;clear h0;go_wp2_with fail;refine P2.o.mono ?_;rintro e w2 ⟨rfl,hb2⟩;have S2:=zhy (S1.o.call hb2);clear P2 S1 hb2 hx1 hx2 hx3 hx4 hx5 hx6 hx7 hx8 hy1 hy2 hy3 hy4 hy5 hy6 hy7 hy8;obtain ⟨-,⟨hy0,hy1,hy2,hy3,hy4,hy5,hy6,hy7,hy8⟩,⟨hx0,hx1,hx2,hx3,hx4,hx5,hx6,hx7,hx8⟩,hyd,hxd,-⟩:=S2.o;clear hxd hyd;by_cases h1:m.l=k.l
  ·rw [show (m.l==k.l)=true from by simpa using h1];have H1:=zhy h1;clear h1;by_cases h2:m.r=k.r
   ·have H2:=zhy h2;have E2:(m.r==k.r)=true:=by simpa using h2
    clear h2;by_cases h3:m.q=k.q
    ·have H3:=zhy h3;have E3:(m.q==k.q)=true:=by simpa using h3
     clear h3;by_cases h4:m.f=k.f
     ·have H4:=zhy h4;have E4:(m.f==k.f)=true:=by simpa using h4
      clear h4;by_cases h5:m.s=k.s
      ·have H5:=zhy h5;have E5:(m.s==k.s)=true:=by simpa using h5
       clear h5;by_cases h6:m.h=k.h
       ·have H6:=zhy h6;have E6:(m.h==k.h)=true:=by simpa using h6
        clear h6;go_wp2_with fail;go_ret;exact ⟨by rw [←HV.o];simp [mS,H0.o,H1.o,H2.o,H3.o,H4.o,H5.o,H6.o],S2.o.1⟩
       ·have H6:=zhy h6;have E6:(m.h==k.h)=false:=by simpa using h6
        clear h6;go_wp2_with fail;go_ret;exact ⟨by rw [←HV.o];simp [mS,H6.o],S2.o.1⟩
      ·have H5:=zhy h5;have E5:(m.s==k.s)=false:=by simpa using h5
       clear h5;go_wp2_with fail;go_ret;exact ⟨by rw [←HV.o];simp [mS,H5.o],S2.o.1⟩
     ·have H4:=zhy h4;have E4:(m.f==k.f)=false:=by simpa using h4
      clear h4;go_wp2_with fail;go_ret;exact ⟨by rw [←HV.o];simp [mS,H4.o],S2.o.1⟩
    ·have H3:=zhy h3;have E3:(m.q==k.q)=false:=by simpa using h3
     clear h3;go_wp2_with fail;go_ret;exact ⟨by rw [←HV.o];simp [mS,H3.o],S2.o.1⟩
   ·have H2:=zhy h2;have E2:(m.r==k.r)=false:=by simpa using h2
    clear h2;go_wp2_with fail;go_ret;exact ⟨by rw [←HV.o];simp [mS,H2.o],S2.o.1⟩
  ·rw [show (m.l==k.l)=false from by simpa using h1];have H1:=zhy h1;clear h1;go_wp2_with fail;go_ret;exact ⟨by rw [←HV.o];simp [mS,H1.o],S2.o.1⟩
 ·rw [show (m.a==k.a)=false from by simpa using h0];have H0:=zhy h0;clear h0;go_wp2_with fail;go_ret;exact ⟨by rw [←HV.o];simp [mS,H0.o],S1.o.1⟩
def gB (m:Mh):Bool:=decide ((100:Int)<m.a.length)||decide ((100:Int)<m.l.length)
theorem qd2 {m:Mh} (h:gB m=false):m.a.length≤100∧m.l.length≤100:=by
 simp [gB] at h;omega
theorem zyk (x:Mc) (m:Mh) (w:World) (hx:Hd w x m):Calls Tryz.prog 31 #[mv x m] w fun e w'=>e=.returned (.bool (gB m))∧Below w.heap.size w w':=by
 have h1:=hx.la;have h2:=hx.ll;clear hx;by_cases g1:100<m.a.length
 ·have E:gB m=true:=by simp [gB];omega
  rw [E];clear E;go_enter Tryz.func31,Tryz.ntmps31;go_wp2_with fail;go_ret;exact ⟨rfl,qh⟩
 ·go_enter Tryz.func31,Tryz.ntmps31;go_wp2_with fail;go_ret;exact ⟨rfl,qh⟩
theorem zwx {a b:Bool} (h:a=b):Ending.returned (.bool a)=Ending.returned (.bool b):=by rw [h]
theorem zko (x:Mc) (m:Mh) (v:Bool) (w:World) (hx:Hd w x m) (hv:mM m=v):Calls Tryz.prog 71 #[mv x m] w fun e w'=>e=.returned (.bool v)∧Below w.heap.size w w':=by
 have h1:=hx.la;have h2:=hx.ll;have HV:=zhy hv;have S0:=zhy (((Sx.start w).add (fH x m) hx).mkM x m);clear hx hv;have P1:=fun w1 (h:Hid (Sx w w1 [fM w.heap.size x m,fH x m]))=>zhy (zjf x.A x.c _ m.a _ w1 h.o.2.2.1.1 rfl rfl);have P2:=fun w1 (h:Hid (Sx w w1 [fM w.heap.size x m,fH x m]))=>zhy (zjf x.B x.d _ m.l _ w1 h.o.2.2.1.2.1 rfl rfl);by_cases g1:m.a.length≤4
 ·by_cases g2:m.l.length+m.a.length≤16
  ·have G1:=zhy g1;have G2:=zhy g2;go_enter Tryz.func71,Tryz.ntmps71;go_wp2_with fail;refine (P1 _ S0).o.mono ?_;rintro e w1 ⟨rfl,rfl⟩;by_cases k1:kO m.a=true
   ·rw [k1];have K1:=zhy k1;clear k1;go_wp2_with fail;refine (P2 _ S0).o.mono ?_;rintro e w2 ⟨rfl,rfl⟩;by_cases k2:kO m.l=true
    ·rw [k2];have K2:=zhy k2;clear k2 P1 P2;by_cases r1:m.r=1
     ·have R1:=zhy r1;have r1':(m.r != 1)=false:=by simpa using r1
      clear r1;go_wp2_with fail
      all_goals
       go_ret
       refine ⟨?_,S0.o.1⟩
       rw [←HV.o]
       refine zwx ?_
       rw [Bool.eq_iff_iff,zbu,K1.o,K2.o,R1.o]
       have q1:=G1.o
       have q2:=G2.o
       simp
       omega
     ·by_cases r2:m.r=2
      ·have R1:=zhy r2;have r1':(m.r != 1)=true:=by simpa using r1
       have r2':(m.r != 2)=false:=by simpa using r2
       clear r1 r2;go_wp2_with fail
       all_goals
        go_ret
        refine ⟨?_,S0.o.1⟩
        rw [←HV.o]
        refine zwx ?_
        rw [Bool.eq_iff_iff,zbu,K1.o,K2.o,R1.o]
        have q1:=G1.o
        have q2:=G2.o
        simp
        omega
      ·have R:Hid ((decide (1≤m.r)&&decide (m.r≤2))=false):=by unfold Hid;simp;omega
       have r1':(m.r != 1)=true:=by simpa using r1
       have r2':(m.r != 2)=true:=by simpa using r2
       clear r1 r2;go_wp2_with fail;go_ret;exact ⟨by rw [←HV.o,mM,R.o];simp,S0.o.1⟩
    ·rw [show kO m.l=false by simpa using k2];have K2:=zhy k2;clear k2 P1 P2;go_wp2_with fail;go_ret;exact ⟨by rw [←HV.o];simp [mM,K2.o],S0.o.1⟩
   ·rw [show kO m.a=false by simpa using k1];have K1:=zhy k1;clear k1 P1 P2;go_wp2_with fail;go_ret;exact ⟨by rw [←HV.o];simp [mM,K1.o],S0.o.1⟩
  ·have G2:=zhy g2;clear P1 P2;go_enter Tryz.func71,Tryz.ntmps71;go_wp2_with fail;go_ret;exact ⟨by rw [←HV.o];simp [mM,G2.o],S0.o.1⟩
 ·have G1:=zhy g1;clear P1 P2;go_enter Tryz.func71,Tryz.ntmps71;go_wp2_with fail;go_ret;exact ⟨by rw [←HV.o];simp [mM,G1.o],S0.o.1⟩
def Mf (w:World) (B:Nat):Prop:=B<w.heap.size∧∀i,w.frozen? ⟨B,i,none⟩=false
theorem Mf.new (w:World) (cs:Array Value) (t:Nat):Mf (w.alloc (.cells cs t)) w.heap.size:=⟨by simp,fun i=>by simp [go_sem]⟩
theorem Mf.keep {w w':World} {B:Nat} (h:Mf w B) (hb:Below w.heap.size w w'):Mf w' B:=⟨Nat.lt_of_lt_of_le h.1 hb.size,fun i=>((zbi hb).2 _ _ h.1).trans (h.2 i)⟩
theorem Mf.set {w:World} {B:Nat} (h:Mf w B) (p:Addr) (v:Value):Mf (w.setCell p v) B:=⟨by simpa using h.1,fun i=>by simpa using h.2 i⟩
abbrev fF (B:Nat):Fct:=⟨fun w=>Mf w B,fun _ _ h hb=>h.keep hb⟩
def qe9 (w:World) (B:Nat) (x:Mc) (m:Mh):World:=
 (((((((w.setCell ⟨B,0,none⟩ (.slice x.A m.a.length x.c)).setCell ⟨B,1,none⟩ (.slice x.B m.l.length x.d)).setCell ⟨B,2,none⟩ (.int .u8 m.r)).setCell ⟨B,3,none⟩ (.bool m.q)).setCell ⟨B,4,none⟩ (.int .i64 m.f)).setCell ⟨B,5,none⟩ (.int .i64 m.s)).setCell ⟨B,6,none⟩ (.int .i64 m.h)).setCell ⟨B,7,none⟩ (.slice x.D x.k x.e)
theorem qez {w:World} {B:Nat} {y:Mc} {k:Mh} (h:Mb w B y k) (x:Mc) (m:Mh):Mb (qe9 w B x m) B x m:=by
 obtain ⟨h0,h1,h2,h3,h4,h5,h6,h7,h8⟩:=h;unfold qe9;refine ⟨by simpa using h0,?_,?_,?_,?_,?_,?_,?_,?_⟩<;>simp [go_sem,h1,h2,h3,h4,h5,h6,h7,h8]
theorem Mb.setA {w:World} {B:Nat} {x:Mc} {m:Mh} (h:Mb w B x m) (A:Option Addr) (c:Nat) (a:List Int) (n:Nat) (hn:a.length=n):Mb (w.setCell ⟨B,0,none⟩ (.slice A n c)) B { x with A:=A,c:=c } { m with a:=a }:=by
 subst hn;obtain ⟨h0,h1,h2,h3,h4,h5,h6,h7,h8⟩:=h;refine ⟨by simpa using h0,?_,?_,?_,?_,?_,?_,?_,?_⟩<;>simp [go_sem,h1,h2,h3,h4,h5,h6,h7,h8]
theorem Mb.setB {w:World} {B:Nat} {x:Mc} {m:Mh} (h:Mb w B x m) (A:Option Addr) (c:Nat) (a:List Int) (n:Nat) (hn:a.length=n):Mb (w.setCell ⟨B,1,none⟩ (.slice A n c)) B { x with B:=A,d:=c } { m with l:=a }:=by
 subst hn;obtain ⟨h0,h1,h2,h3,h4,h5,h6,h7,h8⟩:=h;refine ⟨by simpa using h0,?_,?_,?_,?_,?_,?_,?_,?_⟩<;>simp [go_sem,h1,h2,h3,h4,h5,h6,h7,h8]
theorem Mb.setD {w:World} {B:Nat} {x:Mc} {m:Mh} (h:Mb w B x m) (A:Option Addr) (k e:Nat):Mb (w.setCell ⟨B,7,none⟩ (.slice A k e)) B { x with D:=A,k:=k,e:=e } m:=by
 obtain ⟨h0,h1,h2,h3,h4,h5,h6,h7,h8⟩:=h;refine ⟨by simpa using h0,?_,?_,?_,?_,?_,?_,?_,?_⟩<;>simp [go_sem,h1,h2,h3,h4,h5,h6,h7,h8]
theorem Rd.setc {w:World} {A:Option Addr} {c:Nat} {l:List Int} (h:Rd w A c l) {p:Addr} (hp:∀ad,A=some ad→0<l.length→ad.block≠p.block) (v:Value):Rd (w.setCell p v) A c l:=by
 refine ⟨h.1,h.2.1,h.2.2.1,?_⟩;rcases h.2.2.2 with hn | ⟨ad,ha,hc⟩
 ·exact .inl hn
 ·refine .inr ⟨ad,ha,fun i x hx=>?_⟩;have hb:(ad.add i).block=ad.block:=by unfold Addr.add;split<;>rfl
  rw [World.cell?_setCell_other _ _ _ _ (fun e=>hp ad ha (by have:=(zg8.1 hx).1;omega) (by rw [←hb,←e]))];exact hc i x hx
theorem Mf.keepM {w:World} {B:Nat} (h:Mf w B):w.frozen? ⟨B,0,none⟩=false∧w.frozen? ⟨B,1,none⟩=false∧w.frozen? ⟨B,2,none⟩=false∧w.frozen? ⟨B,3,none⟩=false∧w.frozen? ⟨B,4,none⟩=false∧w.frozen? ⟨B,5,none⟩=false∧w.frozen? ⟨B,6,none⟩=false∧w.frozen? ⟨B,7,none⟩=false:=
 ⟨h.2 0,h.2 1,h.2 2,h.2 3,h.2 4,h.2 5,h.2 6,h.2 7⟩
theorem zme {W:World} {base e size k:Nat} {v:Value} {xs:List Value} (h:W.ownsRow base e size v (k+1) xs):∃g cap,v=.slice (some ⟨g,0,none⟩) (k+1) cap:=by
 rcases h.2 with ⟨_,h0⟩ | ⟨g,cap,_,rfl,_⟩
 ·omega
 ·exact ⟨g,cap,rfl⟩
theorem Tryz.infoN:(Tryz.prog.info? 3).map (fun i=>(i.zero,i.size,i.bytes))=some (some (.int .i64 0),1,8):=by kernel_rfl
def T3 (w:World) (B:Nat) (x y z:Int):Prop:=B<w.heap.size∧w.cell? ⟨B,0,none⟩=some (.int .i64 x)∧w.cell? ⟨B,1,none⟩=some (.int .i64 y)∧w.cell? ⟨B,2,none⟩=some (.int .i64 z)
theorem T3.keep {w w':World} {B:Nat} {x y z:Int} (h:T3 w B x y z) (hb:Below w.heap.size w w'):T3 w' B x y z:=by
 obtain ⟨h1,h2,h3,h4⟩:=h;obtain ⟨hc,hf⟩:=zbi hb;exact ⟨Nat.lt_of_lt_of_le h1 hb.size,(hc _ _ h1).trans h2,(hc _ _ h1).trans h3,(hc _ _ h1).trans h4⟩
theorem T3.new (w:World) (x y z:Int) (t:Nat):T3 (w.alloc (.cells #[.int .i64 x,.int .i64 y,.int .i64 z] t)) w.heap.size x y z:=by
 refine ⟨by simp,?_,?_,?_⟩<;>simp [go_sem]
theorem qde {w w':World} (h:Below w.heap.size w w') (row:Option Nat):w.grownBy w' row:=⟨h.os,h.tape,h.output,h.size,fun i hi _=>h.block i hi⟩
theorem zwm {w w1:World} {row:Option Nat} (h:w.grownBy w1 row) {p:Addr} (hp:w.heap.size≤p.block∨row=some p.block) (v:Value):w.grownBy (w1.setCell p v) row:=by
 have hb:=(Below.refl p.block w1).setCell (Nat.le_refl _) v;refine ⟨hb.os.trans h.os,hb.tape.trans h.tape,hb.output.trans h.output,Nat.le_trans h.size hb.size,fun i hi hne=>(Below.heap_setCell w1 p v i ?_).trans (h.block i hi hne)⟩;rintro rfl;rcases hp with hp | hp
 ·omega
 ·exact hne hp.symm
theorem qen {w w1 w2:World} {row:Option Nat} (h:w.grownBy w1 row) (hb:Below w1.heap.size w1 w2):w.grownBy w2 row:=h.trans (qde hb row)
abbrev fv (x y z:Int):Value:=.agg #[.int .i64 x,.int .i64 y,.int .i64 z]
theorem zxb (x lo hi v:Int) (w:World):Calls Tryz.prog 89 #[fv x lo hi,.int .i64 v] w fun e w'=>e=.returned (.bool (decide (lo≤v)&&decide (v≤hi)))∧Below w.heap.size w w':=by
 by_cases h:lo≤v
 ·rw [decide_eq_true h,Bool.true_and];go_enter Tryz.func89,Tryz.ntmps89;go_wp2_with fail;go_ret;exact ⟨rfl,qh⟩
 ·rw [decide_eq_false h,Bool.false_and];go_enter Tryz.func89,Tryz.ntmps89;go_wp2_with fail;go_ret;exact ⟨rfl,qh⟩
theorem zqn (z:Int) (w:World):Calls Tryz.prog 149 #[.int .i64 z] w fun e w'=>e=.returned (fv 1 0 z)∧Below w.heap.size w w':=by
 go_enter Tryz.func149,Tryz.ntmps149;go_wp2_with fail;exact bodyPost_ret (v:=fv 1 0 z) (by simp [results,Tryz.results149,go_sem]) rfl ⟨rfl,qh⟩
theorem zzv (z:Int) (w:World) (h0:0≤z) (h1:z≤9223372036854775807):Calls Tryz.prog 153 #[.int .i64 z] w fun e w'=>e=.returned (fv 1 0 (16-z))∧Below w.heap.size w w':=by
 have HT:=zhy ((T3.new w 0 0 0 159));go_enter Tryz.func153,Tryz.ntmps153;go_wp2_with fail;refine (zqn _ _).mono ?_;rintro e w1 ⟨rfl,hb1⟩;have HB1:=zhy (qc (qh (w:=w)) hb1);obtain ⟨b0,c0,c1,c2⟩:=HT.o.keep hb1;have f0:=((zbi hb1).2 w.heap.size 0 (by simp)).trans (show (w.alloc (.cells #[.int .i64 0,.int .i64 0,.int .i64 0] 159)).frozen? ⟨w.heap.size,0,none⟩=false by simp [go_sem]);have f1:=((zbi hb1).2 w.heap.size 1 (by simp)).trans (show (w.alloc (.cells #[.int .i64 0,.int .i64 0,.int .i64 0] 159)).frozen? ⟨w.heap.size,1,none⟩=false by simp [go_sem]);have f2:=((zbi hb1).2 w.heap.size 2 (by simp)).trans (show (w.alloc (.cells #[.int .i64 0,.int .i64 0,.int .i64 0] 159)).frozen? ⟨w.heap.size,2,none⟩=false by simp [go_sem]);clear hb1 HT;go_wp2_with fail;exact bodyPost_ret (v:=fv 1 0 (16-z)) (by simp [results,Tryz.results153,go_sem,c0,c1,c2]) rfl ⟨rfl,((HB1.o.setCell (p:=⟨w.heap.size,0,none⟩) (Nat.le_refl _) _).setCell (p:=⟨w.heap.size,1,none⟩) (Nat.le_refl _) _).setCell (p:=⟨w.heap.size,2,none⟩) (Nat.le_refl _) _⟩
theorem qa3 (q:Bool) (w:World):Calls Tryz.prog 154 #[.bool q] w fun e w'=>e=.returned (.int .i64 (fl q))∧w=w':=by
 cases q with
 | true =>
  go_enter Tryz.func154,Tryz.ntmps154;go_wp2_with fail;go_ret;exact ⟨rfl,rfl⟩
 | false =>
  go_enter Tryz.func154,Tryz.ntmps154;go_wp2_with fail;go_ret;exact ⟨rfl,rfl⟩
def GM (w:World):Prop:=T3 w 0 1 1 3∧T3 w 1 1 1 2∧T3 w 2 1 0 1∧T3 w 3 3 0 1048576∧T3 w 4 2 0 256∧T3 w 5 2 0 1024
theorem GM.keep {w w':World} (h:GM w) (hb:Below w.heap.size w w'):GM w':=⟨h.1.keep hb,h.2.1.keep hb,h.2.2.1.keep hb,h.2.2.2.1.keep hb,h.2.2.2.2.1.keep hb,h.2.2.2.2.2.keep hb⟩
abbrev fGM:Fct:=⟨GM,fun _ _ h hb=>h.keep hb⟩
theorem zni {w:World} {A:Option Addr} {c:Nat} {l:List Int} (hr:Rd w A c l) {ad:Addr} (ha:A=some ad) (h0:0<l.length):ad.block<w.heap.size:=by
 obtain ⟨ad',e',hc⟩:=hr.at_ (i:=0) h0;obtain rfl:ad=ad':=by rw [ha] at e';simpa using e'
 have:=qi hc;have hb:(ad.add 0).block=ad.block:=by unfold Addr.add;split<;>rfl
 omega
section
open Go.ChangeShapes Go.WideShapes Go.ChangeAt Go.RowKit
theorem qft:((Tryz.prog.fieldsOf 159).map fun f=>(f.offset,f.type))=#[(0,3),(1,3),(2,3)]:=by kernel_rfl
theorem zlj {j:Nat} {o t:Nat} (h:(#[(0,3),(1,3),(2,3)]:Array (Nat×TypeId))[j]?=some (o,t)):∃f,(Tryz.prog.fieldsOf 159)[j]?=some f∧f.offset=o∧f.type=t:=by
 rw [←qft,Array.getElem?_map,Option.map_eq_some_iff] at h;obtain ⟨f,h1,h2⟩:=h;simp only [Prod.mk.injEq] at h2;exact ⟨f,h1,h2.1,h2.2⟩
theorem zyf {H:Type} {enc:TypeId×Value→H} {w:World} {base:Nat} {sp:Nat→Bool} {held:Bool} {fuel:Nat} {cs:List Value} {ds:List (DataW H)} {p:List MemPlace} (h:DataW.trod enc Tryz.prog w base sp held fuel 159 cs=some (.agg ds,p)) {x y z:Int} (hd:ds=[.lit (.int .i64 x),.lit (.int .i64 y),.lit (.int .i64 z)]) :
  cs=[.int .i64 x,.int .i64 y,.int .i64 z]:=by
 have hS:Tryz.prog.underlying 159=some (.struct (Tryz.prog.fieldsOf 159)):=by kernel_rfl
 have hC:Tryz.prog.cellsOf 159=3:=by kernel_rfl
 have c1:Tryz.prog.cellsOf 3=1:=by kernel_rfl
 obtain ⟨xs,n,_,he,hlen,hxs,hg⟩:=DataW.trod_struct hS h;rw [hC] at hlen;simp only [Prod.mk.injEq,DataW.agg.injEq] at he;match cs,hlen with
 | [v0,v1,v2],_ =>
  have hn:xs.length=3:=by rw [hxs];kernel_rfl
  match xs,hn with
  | [a,b,c],_ =>
   obtain ⟨f0,a0,o0,t0⟩:=zlj (j:=0) rfl;obtain ⟨f1,a1,o1,t1⟩:=zlj (j:=1) rfl;obtain ⟨f2,a2,o2,t2⟩:=zlj (j:=2) rfl;have g0:=hg 0 f0 a0;have g1:=hg 1 f1 a1;have g2:=hg 2 f2 a2;rw [o0,t0,c1] at g0;rw [o1,t1,c1] at g1;rw [o2,t2,c1] at g2;obtain ⟨k,e0,r0,_⟩:=DataW.trod_int Tryz.underlying3 g0;obtain ⟨m,e1,r1,_⟩:=DataW.trod_int Tryz.underlying3 g1;obtain ⟨q,e2,r2,_⟩:=DataW.trod_int Tryz.underlying3 g2;simp at e0 e1 e2;subst e0 e1 e2;have h1:=he.1;rw [hd] at h1;simp [r0,r1,r2] at h1;obtain ⟨rfl,rfl,rfl⟩:=h1;rfl
theorem znv (laid:List (String×DataW Unit)) (k:Nat) (g:Nat) (x y z:Int) (hpl:(laid.all fun x=>x.2.handleName?.isNone)=true) (hk:(laid[k]?).map (·.2)=some (.agg [.lit (.int .i64 x),.lit (.int .i64 y),.lit (.int .i64 z)])) (hn:((laid[k]?).bind fun x=>Tryz.prog.globalNamed x.1)=some g)
  (ht:(Tryz.prog.globals[g]?).map (·.type)=some 159) {W:World} (h:laidMetH Tryz.prog laid W):T3 W g x y z:=by
 rw [MakeChecks.laidMetH_plain _ _ _ hpl] at h;obtain ⟨ps,hl,_,_⟩:=h;cases hx:laid[k]? with
 | none=>rw [hx] at hk;cases hk
 | some v =>
  obtain ⟨n,d⟩:=v;rw [hx] at hk hn;simp only [Option.map_some,Option.some.injEq] at hk;simp only [Option.bind_some] at hn;subst hk;obtain ⟨g0,t0,cs0,f0,p0,hg0,ht0,hv0,hd0⟩:=zfu hl k n _ hx;obtain rfl:=Option.some.inj (hn.symm.trans hg0);obtain rfl:=Option.some.inj (ht.symm.trans ht0);have hcs:=zyf hd0 rfl
  have hcell:∀i v,cs0.toList[i]?=some v→W.cell? ⟨g,i,none⟩=some v:=fun i v hi=>by
   have:=World.var?_cell hg0 hv0 i;rw [this];simpa using hi
  have c0:=hcell 0 _ (by rw [hcs];rfl);exact ⟨qi c0,c0,hcell 1 _ (by rw [hcs];rfl),hcell 2 _ (by rw [hcs];rfl)⟩
end
def opK (n:Int):Bool:=decide (n<33)
def opL (n:Int):Bool:=n==26||n==27||n==29
def opG (n:Int):Bool:=opK n&&n != 26&&n != 31&&n != 32
def zgq (n:Int):Int:=if n=28 then 1 else 0
def zf3 (n:Int):Int:=
 if n=1 then 31 else if n=2∨n=3∨n=30 then 15 else if n=4∨n=5 then 3 else if n=22 then 1024 else if n=26∨n=27∨n=29 then 199 else if n=28 then 100 else if n=32 then 255 else if n<33 then 0 else -1
def opM (n a b:Int):Bool:=decide (zgq n≤a)&&decide (a≤zf3 n)&&b==0
theorem zix (n:Int) (w:World):Calls Tryz.prog 207 #[.int .u8 n] w fun e w'=>e=.returned (.bool (opK n))∧w=w':=by
 go_enter Tryz.func207,Tryz.ntmps207;go_wp2_with fail;go_ret;exact ⟨rfl,rfl⟩
theorem zqv (n:Int) (w:World):Calls Tryz.prog 196 #[.int .u8 n] w fun e w'=>e=.returned (.bool (opL n))∧w=w':=by
 go_enter Tryz.func196,Tryz.ntmps196;go_wp2_with fail;all_goals go_ret
 all_goals (refine ⟨?_,rfl⟩;simp [opL,go_sem, *])
theorem zmh (n:Int) (w:World):Calls Tryz.prog 198 #[.int .u8 n] w fun e w'=>e=.returned (.bool (opG n))∧w=w':=by
 go_enter Tryz.func198,Tryz.ntmps198;go_wp2_with fail;refine (zix _ _).mono ?_;rintro e w1 ⟨rfl,rfl⟩;cases hk:opK n;all_goals go_wp2_with fail
 all_goals go_ret
 all_goals (refine ⟨?_,rfl⟩;simp [opG,go_sem, *])
theorem zga (n:Int) (w:World):Calls Tryz.prog 171 #[.int .u8 n] w fun e w'=>e=.returned (.tuple #[.int .i64 (zgq n),.int .i64 (zf3 n)])∧w=w':=by
 go_enter Tryz.func171,Tryz.ntmps171;go_wp2_with (first | (go_at_call 207;refine (zix _ _).mono ?_;rintro e w1 ⟨rfl,rfl⟩;cases hk:opK n) | fail);all_goals (try go_wp2_with fail)
 all_goals go_ret2
 all_goals (refine ⟨?_,rfl⟩;simp_all [zgq,zf3,opK,go_sem])
theorem zk1 (n:Int) (w:World):Calls Tryz.prog 146 #[.int .u8 n] w fun e w'=>e=.returned (.bool (opK n))∧w=w':=by
 go_enter Tryz.func146,Tryz.ntmps146;go_wp2_with fail;go_ret;exact ⟨rfl,rfl⟩
theorem zd7 (n:Int) (w:World):Calls Tryz.prog 179 #[.int .u8 n] w fun e w'=>e=.returned (.tuple #[.int .i64 (zgq n),.int .i64 (zf3 n)])∧w=w':=by
 go_enter Tryz.func179,Tryz.ntmps179;go_wp2_with (first | (go_at_call 146;refine (zk1 _ _).mono ?_;rintro e w1 ⟨rfl,rfl⟩;cases hk:opK n) | fail);all_goals (try go_wp2_with fail)
 all_goals go_ret2
 all_goals (refine ⟨?_,rfl⟩;simp_all [zgq,zf3,opK,go_sem])
def In (w:World) (B:Nat) (k a b:Int):Prop:=B<w.heap.size∧w.cell? ⟨B,0,none⟩=some (.int .u8 k)∧w.cell? ⟨B,1,none⟩=some (.int .i64 a)∧w.cell? ⟨B,2,none⟩=some (.int .i64 b) ∧
 w.frozen? ⟨B,0,none⟩=false∧w.frozen? ⟨B,1,none⟩=false∧w.frozen? ⟨B,2,none⟩=false
theorem In.keep {w w':World} {B:Nat} {k a b:Int} (h:In w B k a b) (hb:Below w.heap.size w w'):In w' B k a b:=by
 obtain ⟨h1,h2,h3,h4,h5,h6,h7⟩:=h;obtain ⟨hc,hf⟩:=zbi hb;exact ⟨Nat.lt_of_lt_of_le h1 hb.size,(hc _ _ h1).trans h2,(hc _ _ h1).trans h3,(hc _ _ h1).trans h4,(hf _ _ h1).trans h5,(hf _ _ h1).trans h6,(hf _ _ h1).trans h7⟩
theorem In.new (w:World) (k a b:Int):In (w.alloc (.cells #[.int .u8 k,.int .i64 a,.int .i64 b] 57)) w.heap.size k a b:=by
 refine ⟨by simp,?_,?_,?_,?_,?_,?_⟩<;>simp [go_sem]
abbrev fI (B:Nat) (k a b:Int):Fct:=⟨fun w=>In w B k a b,fun _ _ h hb=>h.keep hb⟩
theorem zot (k a b:Int) (v:Bool) (w:World) (h:opM k a b=v):Calls Tryz.prog 155 #[.agg #[.int .u8 k,.int .i64 a,.int .i64 b]] w fun e w'=>e=.returned (.bool v)∧Below w.heap.size w w':=by
 subst h;have hB:=zhy (zga k (w.alloc (.cells #[.int .u8 k,.int .i64 a,.int .i64 b] 57)));obtain ⟨p,hp⟩:∃p,zgq k=p:=⟨_,rfl⟩;obtain ⟨q,hq⟩:∃q,zf3 k=q:=⟨_,rfl⟩;rw [opM,hp,hq];rw [hp,hq] at hB;clear hp hq;go_enter Tryz.func155,Tryz.ntmps155;go_wp2_with fail;refine hB.o.mono ?_;rintro e w1 ⟨rfl,rfl⟩;clear hB;go_wp2_with fail;all_goals go_ret
 all_goals (refine ⟨?_,qh⟩;simp_all [go_sem]<;>omega)
theorem zkt (k a b:Int) (v:Bool) (w:World) (h:opM k a b=v):Calls Tryz.prog 120 #[.agg #[.int .u8 k,.int .i64 a,.int .i64 b]] w fun e w'=>e=.returned (.bool v)∧Below w.heap.size w w':=by
 subst h;have hB:=zhy (zd7 k (w.alloc (.cells #[.int .u8 k,.int .i64 a,.int .i64 b] 57)));obtain ⟨p,hp⟩:∃p,zgq k=p:=⟨_,rfl⟩;obtain ⟨q,hq⟩:∃q,zf3 k=q:=⟨_,rfl⟩;rw [opM,hp,hq];rw [hp,hq] at hB;clear hp hq;go_enter Tryz.func120,Tryz.ntmps120;go_wp2_with fail;refine hB.o.mono ?_;rintro e w1 ⟨rfl,rfl⟩;clear hB;go_wp2_with fail;all_goals go_ret
 all_goals (refine ⟨?_,qh⟩;simp_all [go_sem]<;>omega)
abbrev Ins:=Int×Int×Int
def zt7 (x:Ins):Prop:=(0≤x.1∧x.1<256)∧(-9223372036854775808≤x.2.1∧x.2.1≤9223372036854775807)∧(-9223372036854775808≤x.2.2∧x.2.2≤9223372036854775807)
def Ri (w:World) (A:Option Addr) (c:Nat) (L:List Ins):Prop:=
 (∀x∈L,zt7 x)∧L.length≤c∧c≤maxLen∧((A=none∧c=0)∨∃ad:Addr,A=some ad∧∀i x,L[i]?=some x→w.cell? (ad.add (i*3))=some (.int .u8 x.1)∧w.cell? ⟨(ad.add (i*3)).block,(ad.add (i*3)).off+1,none⟩=some (.int .i64 x.2.1)∧w.cell? ⟨(ad.add (i*3)).block,(ad.add (i*3)).off+2,none⟩=some (.int .i64 x.2.2))
def cei (L:List Ins):List Value:=L.flatMap fun x=>[.int .u8 x.1,.int .i64 x.2.1,.int .i64 x.2.2]
section
variable {w w' : World} {A : Option Addr} {c : Nat} {L : List Ins}
theorem Ri.le (h:Ri w A c L):L.length≤c:=h.2.1
theorem Ri.len (h:Ri w A c L):L.length≤9223372036854775807:=Nat.le_trans h.le h.2.2.1
theorem Ri.at_ (h:Ri w A c L) {i:Nat} (hi:i<L.length):∃ad:Addr,A=some ad∧w.cell? (ad.add (i*3))=some (.int .u8 (L[i]).1)∧w.cell? ⟨(ad.add (i*3)).block,(ad.add (i*3)).off+1,none⟩=some (.int .i64 (L[i]).2.1)∧w.cell? ⟨(ad.add (i*3)).block,(ad.add (i*3)).off+2,none⟩=some (.int .i64 (L[i]).2.2):=by
 rcases h.2.2.2 with ⟨_,hc⟩ | ⟨ad,ha,hc⟩
 ·have:=h.le;omega
 ·exact ⟨ad,ha,hc i _ (zg7 hi)⟩
theorem Ri.none_ (w:World):Ri w none 0 []:=⟨fun x hx=>(by cases hx),Nat.le_refl _,Nat.zero_le _,.inl ⟨rfl,rfl⟩⟩
theorem Ri.keep (h:Ri w A c L) (hb:Below w.heap.size w w'):Ri w' A c L:=by
 refine ⟨h.1,h.2.1,h.2.2.1,?_⟩;rcases h.2.2.2 with hn | ⟨ad,ha,hc⟩
 ·exact .inl hn
 ·refine .inr ⟨ad,ha,fun i x hx=>?_⟩;obtain ⟨h1,h2,h3⟩:=hc i x hx;exact ⟨(hb.cell (qi h1)).trans h1,(hb.cell (qi h2)).trans h2,(hb.cell (qi h3)).trans h3⟩
theorem Ri.drewN (h:Ri w A c L) (q:Nat):Ri (w.drewN q) A c L:=h
end
abbrev fT (A:Option Addr) (c:Nat) (L:List Ins):Fct:=⟨fun w=>Ri w A c L,fun _ _ h hb=>h.keep hb⟩
def inM (x:Ins):Bool:=opM x.1 x.2.1 x.2.2
def jq (L:List Ins):Bool:=decide (1≤L.length)&&decide (L.length≤200)&&L.all inM
def wdB (n:Int):Bool:=decide (0<zf3 n)
theorem zv8 (n:Int) (w:World):Calls Tryz.prog 147 #[.int .u8 n] w fun e w'=>e=.returned (.bool (wdB n))∧w=w':=by
 have hB:=zhy (zd7 n w);rw [wdB];generalize zgq n=p at *;generalize zf3 n=q at *;go_enter Tryz.func147,Tryz.ntmps147;go_wp2_with fail;refine hB.o.mono ?_;rintro e w1 ⟨rfl,rfl⟩;go_wp2_with fail;go_ret;exact ⟨rfl,rfl⟩
theorem zjh (A:Option Addr) (c m:Nat) (L:List Ins) (w:World) (hr:Ri w A c L) (hm:L.length=m):Calls Tryz.prog 178 #[.slice A m c] w fun e w'=>e=.returned (.bool (jq L))∧Below w.heap.size w w':=by
 subst hm;have hlen:=hr.len;have HR:=zhy hr;clear hr;go_enter Tryz.func178,Tryz.ntmps178;go_wp2_with fail;go_loopw [3] (fun i wr=>∃j:Nat,j≤L.length∧j≤201∧i=.int .i64 j∧Hid ((L.take j).all inM=true)∧Hid (Below w.heap.size w wr)) (fun i _=>L.length-(intOf i).toNat)
 case atStart=>exact ⟨0,by omega,by omega,rfl,rfl,zhy (Below.refl _ _)⟩
 case round =>
  obtain ⟨j,hj,hj2,rfl,HA,HB⟩:=hrel;by_cases h1:j<L.length
  ·by_cases h2:j≤200
   ·obtain ⟨ad,rfl,hc0,hc1,hc2⟩:=(HR.o.keep HB.o).at_ h1;go_wp2_with fail;refine (zkt L[j].1 L[j].2.1 L[j].2.2 _ _ rfl).mono ?_;rintro e w1 ⟨rfl,hb1⟩;have HB1:=zhy (qc HB.o hb1);clear hb1 hc0 hc1 hc2 HB;cases hv:opM L[j].1 L[j].2.1 L[j].2.2 with
    | true =>
     have HN:Hid ((L.take (j+1)).all inM=true):=by
      rw [Hid,List.take_add_one,zg7 h1];simp only [Option.toList_some,List.all_append,HA.o,List.all_cons,List.all_nil,Bool.and_true,Bool.true_and];exact hv
     clear HA;go_wp2_with fail;go_roundw
     case rel=>exact ⟨j+1,by omega,by omega,by go_num,HN,HB1⟩
     case measure=>simp [intOf];omega
    | false =>
     have HN:Hid (jq L=false):=by
      have:L.all inM=false:=List.all_eq_false.2 ⟨L[j],List.getElem_mem h1,by simp [inM,hv]⟩;rw [Hid,jq,this,Bool.and_false]
     go_wp2_with fail;go_ret;exact ⟨by rw [HN.o];rfl,HB1.o⟩
   ·have HN:Hid (jq L=false):=by rw [Hid,jq,decide_eq_false (show ¬L.length≤200 by omega)];simp
    go_wp2_with fail;go_ret;exact ⟨by rw [HN.o];simp [go_sem];omega,HB.o⟩
  ·obtain rfl:j=L.length:=by omega
   have HN:Hid (jq L=(decide (1≤L.length)&&decide (L.length≤200))):=by
    have h2:=HA.o;rw [List.take_length] at h2;rw [Hid,jq,h2,Bool.and_true]
   clear HA;by_cases e1:1≤L.length
   ·by_cases e2:L.length≤200
    ·go_wp2_with fail;go_ret;exact ⟨by rw [HN.o,decide_eq_true e1,decide_eq_true e2];simp [go_sem];omega,HB.o⟩
    ·go_wp2_with fail;go_ret;exact ⟨by rw [HN.o,decide_eq_true e1,decide_eq_false e2];simp [go_sem];omega,HB.o⟩
   ·go_wp2_with fail;go_ret;exact ⟨by rw [HN.o,decide_eq_false e1];rfl,HB.o⟩
theorem zdr (L:List Ins):(cei L).length=L.length*3:=by
 induction L with
 | nil=>rfl
 | cons x L ih=>rw [cei,List.flatMap_cons,List.length_append,←cei,ih];simp;omega
theorem zn3 (L M:List Ins):cei (L++M)=cei L++cei M:=by simp [cei]
theorem zl4 (x:Ins) (L:List Ins):cei (x::L)=.int .u8 x.1::.int .i64 x.2.1::.int .i64 x.2.2::cei L:=by simp [cei]
theorem zzl (L:List Ins):∀u∈cei L,u.oneCell'=true:=by
 intro u hu;simp only [cei,List.mem_flatMap] at hu;obtain ⟨x,_,hx⟩:=hu;simp at hx;rcases hx with rfl | rfl | rfl<;>rfl
theorem zwy {L:List Ins} {i:Nat} {x:Ins} (h:L[i]?=some x):(cei L)[i*3]?=some (.int .u8 x.1)∧(cei L)[i*3+1]?=some (.int .i64 x.2.1)∧(cei L)[i*3+2]?=some (.int .i64 x.2.2):=by
 induction L generalizing i with
 | nil=>simp at h
 | cons y L ih =>
  cases i with
  | zero =>
   simp at h;subst h;rw [zl4];exact ⟨rfl,rfl,rfl⟩
  | succ i =>
   obtain ⟨h1,h2,h3⟩:=ih (i:=i) (by simpa using h);rw [zl4,show (i+1)*3=i*3+1+1+1 by omega,show i*3+1+1+1+1=(i*3+1)+1+1+1 by omega,show i*3+1+1+1+2=(i*3+2)+1+1+1 by omega];simp only [List.getElem?_cons_succ];exact ⟨h1,h2,h3⟩
theorem zya {L:List Ins} {j:Nat} {u:Value} (h:(cei L)[j]?=some u):∃i x,L[i]?=some x∧((j=i*3∧u=.int .u8 x.1)∨(j=i*3+1∧u=.int .i64 x.2.1)∨(j=i*3+2∧u=.int .i64 x.2.2)):=by
 have hj:=(zg8.1 h).1;rw [zdr] at hj;have hi:j / 3<L.length:=by omega
 have hx:L[j / 3]?=some L[j / 3]:=zg7 hi;obtain ⟨h1,h2,h3⟩:=zwy hx;refine ⟨j / 3,_,hx,?_⟩;have h3':j % 3=0∨j % 3=1∨j % 3=2:=by omega
 rcases h3' with e | e | e
 ·have e':j=j / 3*3:=by omega
  rw [←e',h] at h1;exact .inl ⟨e',Option.some.inj h1⟩
 ·have e':j=j / 3*3+1:=by omega
  rw [←e',h] at h2;exact .inr (.inl ⟨e',Option.some.inj h2⟩)
 ·have e':j=j / 3*3+2:=by omega
  rw [←e',h] at h3;exact .inr (.inr ⟨e',Option.some.inj h3⟩)
theorem zxt (ad:Addr) (k:Nat):ad.add (k+1)=⟨(ad.add k).block,(ad.add k).off+1,none⟩:=by
 unfold Addr.add;rw [if_neg (by omega)];split
 ·subst_vars;rfl
 ·rfl
theorem zxf (ad:Addr) (k:Nat):ad.add (k+2)=⟨(ad.add k).block,(ad.add k).off+2,none⟩:=by
 unfold Addr.add;rw [if_neg (by omega)];split
 ·subst_vars;rfl
 ·rfl
theorem Ri.of_own {w:World} {A:Option Addr} {c base e:Nat} {n:Nat} {L:List Ins} (h:w.ownsRow base e 3 (.slice A n c) n (cei L)) (hb:∀x∈L,zt7 x):Ri w A c L∧n=L.length:=by
 have hn:n=L.length:=by have:=h.1;rw [zdr] at this;omega
 refine ⟨⟨hb,?_⟩,hn⟩;have hcell:=fun g=>h.cells (g:=g);rcases h.2 with ⟨hv,h0⟩ | ⟨g,cap,cur,hv,_,_,hcap,hm,_⟩
 ·injection hv with e1 e2 e3;exact ⟨by omega,by omega,.inl ⟨e1,e3⟩⟩
 ·injection hv with e1 e2 e3;subst e1 e3;refine ⟨by omega,hm,.inr ⟨_,rfl,fun i x hx=>?_⟩⟩;obtain ⟨h1,h2,h3⟩:=zwy hx;rw [←zxt,←zxf];exact ⟨hcell g rfl _ _ h1,hcell g rfl _ _ h2,hcell g rfl _ _ h3⟩
theorem ztm {w:World} {ad:Addr} {c:Nat} {L:List Ins} (h:Ri w (some ad) c L) (hc:0<c):∀j u,(cei L)[j]?=some u→w.cell? (ad.add j)=some u:=by
 intro j u hj;obtain ⟨i,x,hx,hu⟩:=zya hj;rcases h.2.2.2 with ⟨ha,_⟩ | ⟨ad',ha,hcell⟩
 ·cases ha
 ·injection ha with ha;subst ha;obtain ⟨h1,h2,h3⟩:=hcell i x hx;rw [←zxt] at h2;rw [←zxf] at h3;rcases hu with ⟨rfl,rfl⟩ | ⟨rfl,rfl⟩ | ⟨rfl,rfl⟩
  ·exact h1
  ·exact h2
  ·exact h3
theorem Tryz.infoI:(Tryz.prog.info? 57).map (fun i=>(i.zero,i.size,i.bytes))=some (some (.agg #[.int .u8 0,.int .i64 0,.int .i64 0]),3,24):=by kernel_rfl
theorem zeh (w:World) {ops:Array Oper} {rest:List Oper} {o:Oper} {a:Act} {Q:Exit→Act→World→Prop} (hgd:o.guard=none) (s x:Operand)
  (ho:o.op=.call { callee:=.builtin .append,args:=#[s,x],argTypes:=#[48,48]})
  (base:Nat) (v:Value) (n:Nat) (K:List Ins) (hs:a.eval s=v) (hown:w.ownsRow base 57 3 v n (cei K))
  (A:Option Addr) (m c:Nat) (L:List Ins) (hx:a.eval x=.slice A m c) (hr:Ri w A c L) (hm:m=L.length) (hbytes:n+m≤1000000) (hbase:base≤w.heap.size)
  (h:∀A' c' w',w'.ownsRow base 57 3 (.slice A' (n+m) c') (n+m) (cei (K++L))→Below base w w'→wpList Tryz.prog ops Q rest (a.put o.dst (.slice A' (n+m) c')) w'):wpList Tryz.prog ops Q (o::rest) a w:=by
 have hinfo:=Tryz.infoI;rw [Option.map_eq_some_iff] at hinfo;obtain ⟨i,hi,hz⟩:=hinfo;simp only [Prod.mk.injEq] at hz;obtain ⟨hz0,hz1,hz2⟩:=hz;have hbel:∀{w'},w.grownBy w' v.ownBlock→Below base w w':=fun hg=>(Below.refl _ _).grown hg hbase fun g hg'=>(hown.lt g hg').1;rcases hr.2.2.2 with ⟨rfl,rfl⟩ | ⟨ad,rfl,hcell⟩
 ·have h0:L=[]:=List.eq_nil_of_length_eq_zero (by have:=hr.le;omega);subst h0;obtain rfl:m=0:=hm;refine wpList_append_own_none hgd s x 48 ho base 57 i 3 Tryz.underlying48 hi v n (cei K) hs hown hx ?_;obtain ⟨A',c',rfl⟩:=qv hown;have:=h A' c' w (by simpa using hown) (hbel (World.grownBy.refl w _));simpa using this
 ·by_cases hc:c=0
  ·subst hc;have h0:L=[]:=List.eq_nil_of_length_eq_zero (by have:=hr.le;omega);subst h0;obtain rfl:m=0:=hm;refine wpList_append_own_at w hgd s x 48 ho base 57 i _ 3 24 Tryz.underlying48 hi hz0 hz1 hz2 rfl (by decide) v n (cei K) hs hown ad 0 0 [] hx rfl (fun j u hj=>by cases hj) (fun u hu=>by cases hu) (by unfold maxLen;omega) (by omega) hbase ?_;intro v' w' hown' hg _ _;obtain ⟨A',c',rfl⟩:=qv hown';exact h A' c' w' (by simpa using hown') (hbel hg)
  ·refine wpList_append_own_at w hgd s x 48 ho base 57 i _ 3 24 Tryz.underlying48 hi hz0 hz1 hz2 rfl (by decide) v n (cei K) hs hown ad m c (cei L) hx (by rw [zdr,hm])
    (ztm hr (by omega)) (zzl L) (by unfold maxLen;omega) (by omega) hbase ?_
   intro v' w' hown' hg _ _;obtain ⟨A',c',rfl⟩:=qv hown';exact h A' c' w' (by rw [zn3];exact hown') (hbel hg)
theorem zr3 (A:Option Addr) (c m:Nat) (L:List Ins) (w:World) (hr:Ri w A c L) (hm:L.length=m) (hl:m≤1000000):Calls Tryz.prog 33 #[.slice A m c] w fun e w'=>∃A' c',e=.returned (.slice A' m c')∧w'.ownsRow w.heap.size 57 3 (.slice A' m c') m (cei L)∧Below w.heap.size w w':=by
 go_enter Tryz.func33,Tryz.ntmps33;go_wp2_with (at_builtin;refine zeh _ rfl _ _ rfl w.heap.size _ 0 [] rfl (World.ownsRow_nil _ _ _ _) A m c L rfl hr hm.symm (by omega) (Nat.le_refl _) ?_);intro A' c' w1 ho hb;have HO:=zhy ho;have HB:=zhy hb;clear ho hb;go_wp2_with fail;go_ret;exact ⟨A',c',rfl,HO.o,HB.o⟩
theorem zw6 (d:Nat) (k a b k' a' b':Int) (v:Bool) (h:(k==k'&&a==a'&&b==b')=v) (w:World):(Op.equalIn (d+1+1) 57 (.agg #[.int .u8 k,.int .i64 a,.int .i64 b]) (.agg #[.int .u8 k',.int .i64 a',.int .i64 b'])).run Tryz.prog w=.ok v w:=by
 have hS:Tryz.prog.underlying 57=some (.struct (Tryz.prog.fieldsOf 57)):=by kernel_rfl
 have hp:Tryz.prog.stoodInHeld 57=false:=by kernel_rfl
 have u1:=Tryz.underlying5;have u2:=Tryz.underlying3;have h0:∀u v t:Value,(part 5 #[u,v,t] 0).run Tryz.prog w=.ok u w:=fun u v t=>by kernel_rfl
 have h1:∀u v t:Value,(part 3 #[u,v,t] 1).run Tryz.prog w=.ok v w:=fun u v t=>by kernel_rfl
 have h2:∀u v t:Value,(part 3 #[u,v,t] 2).run Tryz.prog w=.ok t w:=fun u v t=>by kernel_rfl
 rw [run_equalIn_agg w (d+1) 57 _ _ hS hp];simp only [Program.fieldsOf,Tryz.underlying57];subst h;go_simp;by_cases e1:k=k'<;>by_cases e2:a=a'<;>by_cases e3:b=b'<;>simp [e1,e2,e3]
theorem zww (x y:Ins):(x.1==y.1&&x.2.1==y.2.1&&x.2.2==y.2.2)=decide (x=y):=by
 obtain ⟨a,b,c⟩:=x;obtain ⟨a',b',c'⟩:=y;by_cases e1:a=a'<;>by_cases e2:b=b'<;>by_cases e3:c=c'<;>simp [e1,e2,e3]
theorem znw (A B:Option Addr) (c d n m:Nat) (L M:List Ins) (w:World) (h1:Ri w A c L) (h2:Ri w B d M) (hn:L.length=n) (hm:M.length=m):Calls Tryz.prog 43 #[.slice A n c,.slice B m d] w fun e w'=>e=.returned (.bool (decide (L=M)))∧Below w.heap.size w w':=by
 have hl1:=h1.len;have hl2:=h2.len;have HR1:=zhy h1;have HR2:=zhy h2;clear h1 h2;by_cases hnm:n=m
 ·subst hn;have hml:M.length=L.length:=by omega
  subst hnm;clear hm;go_enter Tryz.func43,Tryz.ntmps43;go_wp2_with fail;go_loopw [5] (fun i wr=>∃j:Nat,j≤L.length∧i=.int .i64 j∧Hid (L.take j=M.take j)∧Hid (Below w.heap.size w wr)) (fun i _=>L.length-(intOf i).toNat)
  case atStart=>exact ⟨0,by omega,rfl,rfl,zhy (Below.refl _ _)⟩
  case round =>
   obtain ⟨j,hj,rfl,HE,HB⟩:=hrel;by_cases h:j<L.length
   ·have h':j<M.length:=by omega
    obtain ⟨a1,rfl,x0,x1,x2⟩:=(HR1.o.keep HB.o).at_ h;obtain ⟨a2,rfl,y0,y1,y2⟩:=(HR2.o.keep HB.o).at_ h';cases hv:decide (L[j]=M[j]) with
    | true =>
     have HN:Hid (L.take (j+1)=M.take (j+1)):=by
      have e:L[j]=M[j]:=of_decide_eq_true hv;rw [Hid,List.take_add_one,List.take_add_one,HE.o,zg7 h,zg7 h',e]
     have q:=zw6 9998 L[j].1 L[j].2.1 L[j].2.2 M[j].1 M[j].2.1 M[j].2.2 true (by rw [zww];exact hv);clear HE hv;generalize L[j]=x at *;generalize M[j]=y at *;go_wp2_with fail;go_quiet (fail);go_wp2;go_roundw
     case rel=>exact ⟨j+1,by omega,by go_num,HN,zhy (qf HB.o _)⟩
     case measure=>simp [intOf];omega
    | false =>
     have HN:Hid (decide (L=M)=false):=by
      have e:¬L[j]=M[j]:=of_decide_eq_false hv;exact decide_eq_false fun e2=>e (by subst e2;rfl)
     have q:=zw6 9998 L[j].1 L[j].2.1 L[j].2.2 M[j].1 M[j].2.1 M[j].2.2 false (by rw [zww];exact hv);clear HE hv;generalize L[j]=x at *;generalize M[j]=y at *;go_wp2_with fail;go_quiet (fail);go_wp2;go_ret;exact ⟨by rw [HN.o];rfl,qf HB.o _⟩
   ·obtain rfl:j=L.length:=by omega
    have HN:Hid (decide (L=M)=true):=by
     have:=HE.o;rw [List.take_length,List.take_of_length_le (by omega)] at this;exact decide_eq_true this
    go_wp2;go_ret;exact ⟨by rw [HN.o];rfl,HB.o⟩
 ·have HN:Hid (decide (L=M)=false):=decide_eq_false fun e=>hnm (by rw [←hn,←hm,e]);go_enter Tryz.func43,Tryz.ntmps43;go_wp2_with fail;go_ret;exact ⟨by rw [HN.o];rfl,Below.refl _ _⟩
def opr (x:Ins):List Int:=x.1::(if wdB x.1 then [x.2.1 % 256,x.2.1 / 256] else [])
def ze8 (L:List Ins):List Int:=(L.length:Int)::L.flatMap opr
theorem Ri.c1 {w:World} {ad:Addr} {c i:Nat} {L:List Ins} (h:Ri w (some ad) c L) (hi:i<L.length):w.cell? ⟨(ad.add (i*3)).block,(ad.add (i*3)).off+1,none⟩=some (.int .i64 (L[i]).2.1):=by
 obtain ⟨ad',e,_,h1,_⟩:=h.at_ hi;injection e with e;subst e;exact h1
theorem qdb {x:Int} (h:0≤x):IntKind.u8.wrap (x.tmod 256)=x % 256:=by
 rw [Int.tmod_eq_emod_of_nonneg h];simp [IntKind.wrap,IntKind.signed,IntKind.bits,go_sem]
theorem qdn {x:Int} (h:0≤x) (h2:x≤1024):IntKind.u8.wrap (IntKind.i64.wrap (x.tdiv 256))=x / 256:=by
 rw [Int.tdiv_eq_ediv_of_nonneg h];simp [IntKind.wrap,IntKind.signed,IntKind.bits,go_sem];omega
theorem Sx.ri {w w':World} {A:Option Addr} {c:Nat} {L:List Ins} (h:Ri w A c L) (hb:Below w.heap.size w w'):Sx w w' [fT A c L]:=⟨hb,h.keep hb,trivial⟩
theorem zgl {x : Ins} (h : inM x = true) : 0 ≤ x.2.1 ∧ x.2.1 ≤ 1024 ∧ x.1 < 33 := by
  have h' : opM x.1 x.2.1 x.2.2 = true := h
  simp only [opM, Bool.and_eq_true, decide_eq_true_eq] at h'
  obtain ⟨⟨h1, h2⟩, _⟩ := h'
  have a1 : 0 ≤ zgq x.1 := by unfold zgq; split <;> omega
  have a2 : zf3 x.1 ≤ 1024 ∧ (¬ x.1 < 33 → zf3 x.1 = -1) := by unfold zf3; repeat' split
                                                               all_goals omega
  by_cases h3 : x.1 < 33
  · omega
  · have := a2.2 h3; omega
set_option maxRecDepth 100000 in
theorem zo6 (A:Option Addr) (c m:Nat) (L:List Ins) (w:World) (hr:Ri w A c L) (hm:L.length=m) (hc:jq L=true):Calls Tryz.prog 118 #[.slice A m c] w fun e w'=>∃A' c',e=.returned (.tuple #[.slice A' (ze8 L).length c',.int .i64 0])∧w'.ownsRow w.heap.size 5 1 (.slice A' (ze8 L).length c') (ze8 L).length (cel (ze8 L))∧Below w.heap.size w w':=by
 subst hm;have hinfo:=Tryz.info5;rw [Option.map_eq_some_iff] at hinfo;obtain ⟨i0,hi,hz⟩:=hinfo;simp only [Prod.mk.injEq] at hz;obtain ⟨hz0,hz1,hz2⟩:=hz;have hc':=hc;simp only [jq,Bool.and_eq_true,decide_eq_true_eq] at hc';obtain ⟨⟨hl1,hl2⟩,hall⟩:=hc';have HALL:=zhy (List.all_eq_true.1 hall);have HC:=zhy hc;have HW:=zhy hr;clear hc hall;go_enter Tryz.func118,Tryz.ntmps118;go_wp2_with fail;refine (zjh A c _ L _ hr rfl).mono ?_;rintro e w1 ⟨rfl,hb1⟩;rw [HC.o];have S1:=zhy (((Sx.start w).add (fT A c L) hr).call hb1);clear hb1 hr;go_wp2_with fail
 have HO1:=zhy (show (w1.alloc (.cells #[.int .u8 L.length] 5)).ownsRow w.heap.size 5 1 (.slice (some ⟨w1.heap.size,0,none⟩) 1 1) 1 (cel [(L.length:Int)]) from
  qg (World.ownsRow_lit (base:=w1.heap.size) (e:=5) (size:=1) w1 #[.int .u8 L.length] 1 (Nat.le_refl _) (by unfold maxLen;simp) (by simp)) S1.o.1.size)
 have S2:=zhy (S1.o.mk1 (.cells #[.int .u8 L.length] 5));have hmod:(L.length:Int) % 256=L.length:=by omega
 try rw [hmod]
 go_loopw [4,5] (fun o i wr=>∃(j:Nat) (A':Option Addr) (c':Nat) (X:List Int) (N:Nat),j≤L.length∧i=.int .i64 j∧o=.slice A' N c'∧N≤1+3*j∧Hid (X=(L.length:Int)::(L.take j).flatMap opr∧X.length=N∧wr.ownsRow w.heap.size 5 1 (.slice A' N c') N (cel X))∧Hid (Sx w wr [fT A c L]))
  (fun _ i _=>L.length-(intOf i).toNat)
 case atStart=>exact ⟨0,_,_,[(L.length:Int)],1,by omega,rfl,rfl,by omega,zhy ⟨by simp,rfl,HO1.o⟩,S2⟩
 case round =>
  obtain ⟨j,A',c',X,N,hj,rfl,rfl,hN,HX,S3⟩:=hrel;clear HO1 S1 S2;by_cases h1:j<L.length
  ·obtain ⟨ad,rfl,x0,x1,x2⟩:=S3.o.2.1.at_ h1;have hok:=HW.o.1 _ (List.getElem_mem h1);obtain ⟨g1,g2,g3⟩:=zgl (HALL.o _ (List.getElem_mem h1));have hb0:=hok.1
   have hbb:Byt [L[j].2.1 % 256,L[j].2.1 / 256]:=by
    intro y hy;simp at hy;rcases hy with rfl | rfl<;>omega
   have HR1:=zhy (qo wr L[j].1 hb0);have HO3:=zhy (qb HX.o.2.2 (qh (a:=.cells #[.int .u8 L[j].1] 5)) (Nat.le_refl _));have HB3:=zhy (S3.o.mk1 (.cells #[.int .u8 L[j].1] 5)).1;have HX1:=zhy HX.o.1;have HX2:=zhy HX.o.2.1;clear HX hok;go_wp2_with (at_builtin;refine qa _ rfl _ _ 40 rfl w.heap.size 5 i0 Tryz.underlying40 hi hz0 hz1 hz2 _ N X rfl HO3.o _ 1 1 [L[j].1] rfl HR1.o rfl (by omega) HB3.o.size ?_);intro A2 c2 w4 ho4 hg4 hb4 _;have HO4:=zhy ho4;have S4:=zhy (Sx.ri HW.o (HB3.o.trans hb4));clear ho4 hg4 hb4 HO3 HB3 HR1 S3 x0 x1 x2;obtain ⟨ad',ea,x0,x1,x2⟩:=S4.o.2.1.at_ h1;injection ea with ea;subst ea;go_wp2_with fail;refine (zv8 _ _).mono ?_;rintro e w5 ⟨rfl,rfl⟩;cases hv:wdB L[j].1 with
   | true =>
    have e1:=qdb g1;have e2:=qdn g1 g2;go_upto_region 9 with (fail);clear x0 x1 x2;refine wp_region_held_drew (S:=fun w'=>Hid (Sx w w' [fT (some ad) c L])) (by kernel_rfl) (Hsx.drew S4) (fun hHeld=>?_);refine zq 0 (h:=?_);refine zq 1 (h:=?_);refine zq 2 (h:=?_);refine zq 3 (h:=?_);refine zq 4 (h:=?_);refine zq 5 (hy:=fun w hSw=>by (try dsimp only at hSw);have s1:=Ri.c1 hSw.o.2.1 h1;go_simp;try with_reducible rfl) (h:=?_);refine zq 6 (h:=?_);refine zq 7 (hy:=fun w hSw=>by (try dsimp only at hSw);obtain ⟨-⟩:=hSw;go_simp;try with_reducible rfl) (h:=?_);refine zq 8 (h:=?_);refine zq 9 (h:=?_);refine zq 10 (h:=?_);refine zq 11 (h:=?_);refine zq 12 (hy:=fun w hSw=>by (try dsimp only at hSw);have s1:=Ri.c1 hSw.o.2.1 h1;go_simp;try with_reducible rfl) (h:=?_);refine zq 13 (h:=?_);refine zq 14 (hy:=fun w hSw=>by (try dsimp only at hSw);obtain ⟨-⟩:=hSw;go_simp;try with_reducible rfl) (h:=?_);refine wpAnyH_ready (rs:=[15]) (by kernel_rfl) (by simp) ?_;refine AllReadyH.cons rfl (fun K hK=>?_) AllReadyH.nil;go_simp;have HR:=zhy (Rd.drewN (zr9 w4 [L[j].2.1 % 256,L[j].2.1 / 256] hbb (by unfold maxLen;simp)) 1);have HO5:=zhy (qb HO4.o (qf (qh (a:=.cells #[.int .u8 (L[j].2.1 % 256),.int .u8 (L[j].2.1 / 256)] 5)) 1) (Nat.le_refl _));refine hK.out _ _ (zhy (Sx.ri HW.o (S4.o.1.trans (qf ((Below.refl _ _).alloc S4.o.1.size _) 1)))) (fun hHeld=>?_);clear hK K;(try simp only [Act.put,zg1,zg2,zg3,zg4,zg5,zg6]);refine wpAnyH_ready (rs:=[16]) (by kernel_rfl) (by simp) ?_;refine AllReadyH.cons rfl (fun K hK=>?_) AllReadyH.nil;refine jh rfl (.tmp 33) (.tmp 48) 40 rfl w.heap.size 5 i0 Tryz.underlying40 hi hz0 hz1 hz2 _ (N+1) (X++[L[j].1]) rfl HO5.o _ 2 2 [L[j].2.1 % 256,L[j].2.1 / 256] rfl HR.o rfl (by omega) (hHeld.o.1.size) ?_;intro A6 c6 w6 ho6 hb6;have HO6:=zhy ho6;clear ho6;refine hK.out _ _ (zhy (Sx.ri HW.o (hHeld.o.1.trans hb6))) (fun hHeld=>?_);clear hK K;(try simp only [Act.put,zg1,zg2,zg3,zg4,zg5,zg6]);refine zq 17 (h:=?_);refine wpAnyH_done (by kernel_rfl) ?_ _;have HE:=hHeld;clear hHeld
    have HN:Hid (X++[L[j].1]++[L[j].2.1 % 256,L[j].2.1 / 256]=(L.length:Int)::(L.take (j+1)).flatMap opr):=by
     rw [Hid,HX1.o,List.take_add_one,zg7 h1,Option.toList_some,List.flatMap_append,List.flatMap_cons,List.flatMap_nil,List.append_nil,opr,hv,if_pos rfl,List.append_assoc,List.cons_append];rfl
    go_wp2_with fail;go_roundw
    case rel=>exact ⟨j+1,A6,c6,_,N+1+2,by omega,by go_num,rfl,by omega,zhy ⟨HN.o,by rw [List.length_append,List.length_append,HX2.o];rfl,HO6.o⟩,HE⟩
    case measure=>simp [intOf];omega
   | false =>
    have HN:Hid (X++[L[j].1]=(L.length:Int)::(L.take (j+1)).flatMap opr):=by
     rw [Hid,HX1.o,List.take_add_one,zg7 h1,Option.toList_some,List.flatMap_append,List.flatMap_cons,List.flatMap_nil,List.append_nil,opr,hv,if_neg (by decide),List.cons_append]
    go_wp2_with fail;go_roundw
    case rel=>exact ⟨j+1,A2,c2,_,N+1,by omega,by go_num,rfl,by omega,zhy ⟨HN.o,by rw [List.length_append,HX2.o];rfl,HO4.o⟩,S4⟩
    case measure=>simp [intOf];omega
  ·obtain rfl:j=L.length:=by omega
   have hx:=HX.o;rw [List.take_length,←ze8] at hx;obtain ⟨rfl,rfl,ho⟩:=hx;have HO:=zhy ho;clear ho HX;go_wp2_with fail;go_ret2;exact ⟨A',c',rfl,HO.o,S3.o.1⟩
theorem zso (A:Option Addr) (c m:Nat) (L:List Ins) (w:World) (hr:Ri w A c L) (hm:L.length=m) (hc:jq L=false):Calls Tryz.prog 118 #[.slice A m c] w fun e w'=>e=.returned (.tuple #[.slice none 0 0,.int .i64 40])∧Below w.heap.size w w':=by
 subst hm;have HC:=zhy hc;clear hc;go_enter Tryz.func118,Tryz.ntmps118;go_wp2_with fail;refine (zjh A c _ L _ hr rfl).mono ?_;rintro e w1 ⟨rfl,hb1⟩;rw [HC.o];go_wp2_with fail;go_ret2;exact ⟨rfl,hb1⟩
def cdE (L:List Ins):Int:=if jq L=true then 0 else 40
def byL (L:List Ins):List Int:=if jq L=true then ze8 L else []
def fNo:Fct:=⟨fun _=>True,fun _ _ _ _=>trivial⟩
def qca (F:Fct):Prop:=∀(A:Option Addr) (c m:Nat) (L:List Ins) (w:World),F.p w→Ri w A c L→L.length=m→m≤2000→Calls Tryz.prog 67 #[.slice A m c] w fun e w'=>∃A' c',e=.returned (.tuple #[.slice A' (byL L).length c',.int .i64 (cdE L)]) ∧
 w'.ownsRow w.heap.size 5 1 (.slice A' (byL L).length c') (byL L).length (cel (byL L))∧Below w.heap.size w w'
theorem zkh (n:Int):0≤zgq n∧zgq n≤1:=by unfold zgq;split<;>omega
theorem zqt {x:Ins} (h:inM x=true):zgq x.1≤x.2.1∧x.2.1≤zf3 x.1∧x.2.2=0:=by
 have h':opM x.1 x.2.1 x.2.2=true:=h;simp only [opM,Bool.and_eq_true,decide_eq_true_eq,beq_iff_eq] at h';exact ⟨h'.1.1,h'.1.2,h'.2⟩
theorem zge {L:List Ins} (h:jq L=true):1≤L.length∧L.length≤200∧∀x∈L,inM x=true:=by
 simp only [jq,Bool.and_eq_true,decide_eq_true_eq] at h;exact ⟨h.1.1,h.1.2,List.all_eq_true.1 h.2⟩
end Go.Proofs.YtnjgkkoiamiaaaaGreatDoor
