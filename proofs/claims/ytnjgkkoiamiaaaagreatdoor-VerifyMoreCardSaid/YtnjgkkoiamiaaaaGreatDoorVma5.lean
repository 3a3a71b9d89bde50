import Derived.Test.YtnjgkkoiamiaaaaGreatDoorVma1
import Derived.Test.YtnjgkkoiamiaaaaGreatDoorVma3
import Derived.Test.YtnjgkkoiamiaaaaGreatDoorVma4
import Derived.OwnWalk
import Derived.Laws.OwnMore
import Derived.ProofKit
import Derived.OpenShut
import Derived.ChangeSame
import Derived.ChangeSlices
import Derived.ChangeArms
import Derived.Deep.Slices
import Derived.Deep.Fields
import Derived.Test.YtnjgkkoiamiaaaaGreatDoorVma2
set_option maxRecDepth 100000
set_option maxHeartbeats 16000000
set_option linter.unusedSimpArgs false
set_option linter.unusedVariables false
namespace Go.Proofs.YtnjgkkoiamiaaaaGreatDoor
open Go.RowKit
structure Me where
 x:Mc
 m:Mh
 k:List Ins
def Me.ok (w:World) (z:Me):Prop:=Hd w z.x z.m∧Ri w z.x.D z.x.e z.k∧z.k.length=z.x.k
theorem Me.ok.keep {w w':World} {z:Me} (h:z.ok w) (hb:Below w.heap.size w w'):z.ok w':=⟨h.1.keep hb,h.2.1.keep hb,h.2.2⟩
abbrev ze (z:Me):Mh×List Ins:=(z.m,z.k)
def ce8 (z:Me):List Value:=[.slice z.x.A z.m.a.length z.x.c,.slice z.x.B z.m.l.length z.x.d,.int .u8 z.m.r,.bool z.m.q,.int .i64 z.m.f,.int .i64 z.m.s,.int .i64 z.m.h,.slice z.x.D z.x.k z.x.e]
def cem (Z:List Me):List Value:=Z.flatMap ce8
def At8 (w:World) (p:Addr) (z:Me):Prop:=w.cell? p=some (.slice z.x.A z.m.a.length z.x.c)∧w.cell? ⟨p.block,p.off+1,none⟩=some (.slice z.x.B z.m.l.length z.x.d)∧w.cell? ⟨p.block,p.off+2,none⟩=some (.int .u8 z.m.r) ∧
 w.cell? ⟨p.block,p.off+3,none⟩=some (.bool z.m.q)∧w.cell? ⟨p.block,p.off+4,none⟩=some (.int .i64 z.m.f)∧w.cell? ⟨p.block,p.off+5,none⟩=some (.int .i64 z.m.s)∧w.cell? ⟨p.block,p.off+6,none⟩=some (.int .i64 z.m.h) ∧
 w.cell? ⟨p.block,p.off+7,none⟩=some (.slice z.x.D z.x.k z.x.e)
theorem At8.keep {w w':World} {p:Addr} {z:Me} (h:At8 w p z) (hb:Below w.heap.size w w'):At8 w' p z:=by
 obtain ⟨h1,h2,h3,h4,h5,h6,h7,h8⟩:=h;have k:∀{a:Addr} {v:Value},w.cell? a=some v→w'.cell? a=some v:=fun hv=>(hb.cell (cell_lt hv)).trans hv;exact ⟨k h1,k h2,k h3,k h4,k h5,k h6,k h7,k h8⟩
def Rm (w:World) (A:Option Addr) (c:Nat) (Z:List Me):Prop:=
 (∀z∈Z,z.ok w)∧Z.length≤c∧c≤maxLen∧((A=none∧c=0)∨∃ad:Addr,A=some ad∧∀i z,Z[i]?=some z→At8 w (ad.add (i*8)) z)
section
variable {w w' : World} {A : Option Addr} {c : Nat} {Z : List Me}
theorem Rm.le (h:Rm w A c Z):Z.length≤c:=h.2.1
theorem Rm.len (h:Rm w A c Z):Z.length≤9223372036854775807:=Nat.le_trans h.le h.2.2.1
theorem Rm.at_ (h:Rm w A c Z) {i:Nat} (hi:i<Z.length):∃ad:Addr,A=some ad∧At8 w (ad.add (i*8)) Z[i]∧(Z[i]).ok w:=by
 rcases h.2.2.2 with ⟨_,hc⟩ | ⟨ad,ha,hc⟩
 ·have:=h.le;omega
 ·exact ⟨ad,ha,hc i _ (zg7 hi),h.1 _ (List.getElem_mem hi)⟩
theorem Rm.none_ (w:World):Rm w none 0 []:=⟨fun x hx=>(by cases hx),Nat.le_refl _,Nat.zero_le _,.inl ⟨rfl,rfl⟩⟩
theorem Rm.keep (h:Rm w A c Z) (hb:Below w.heap.size w w'):Rm w' A c Z:=by
 refine ⟨fun z hz=>(h.1 z hz).keep hb,h.2.1,h.2.2.1,?_⟩;rcases h.2.2.2 with hn | ⟨ad,ha,hc⟩
 ·exact .inl hn
 ·exact .inr ⟨ad,ha,fun i z hz=>(hc i z hz).keep hb⟩
end
structure Md where
 g:List Vlu
 p:List Vlu
 s:List (Mh×List Ins)
 i:Int
structure Ma where
 G:Option Addr
 gc:Nat
 P:Option Addr
 pc:Nat
 A:Option Addr
 c:Nat
 Z:List Me
def Md.zero:Md:=⟨[],[],[],0⟩
def Ma.zero:Ma:=⟨none,0,none,0,none,0,[]⟩
abbrev dv (y:Ma) (d:Md):Value:=.agg #[.slice y.G d.g.length y.gc,.slice y.P d.p.length y.pc,.slice y.A d.s.length y.c,.int .i64 d.i]
def dcel (y:Ma) (d:Md):Obj:=.cells #[.slice y.G d.g.length y.gc,.slice y.P d.p.length y.pc,.slice y.A d.s.length y.c,.int .i64 d.i] 25
def Hq (w:World) (y:Ma) (d:Md):Prop:=Rv w y.G y.gc d.g∧Rv w y.P y.pc d.p∧Rm w y.A y.c y.Z∧y.Z.map ze=d.s∧(-9223372036854775808≤d.i∧d.i≤9223372036854775807)
theorem Hq.keep {w w':World} {y:Ma} {d:Md} (h:Hq w y d) (hb:Below w.heap.size w w'):Hq w' y d:=⟨h.1.keep hb,h.2.1.keep hb,h.2.2.1.keep hb,h.2.2.2⟩
theorem Hq.zero (w:World):Hq w Ma.zero Md.zero:=⟨Rv.none_ w,Rv.none_ w,Rm.none_ w,rfl,by unfold Md.zero;decide⟩
theorem Hq.zlen {w:World} {y:Ma} {d:Md} (h:Hq w y d):y.Z.length=d.s.length:=by rw [←h.2.2.2.1,List.length_map]
theorem Hq.zat {w:World} {y:Ma} {d:Md} (h:Hq w y d) {i:Nat} (h1:i<y.Z.length) (h2:i<d.s.length):d.s[i]=((y.Z[i]).m,(y.Z[i]).k):=by
 have e:=h.2.2.2.1;have:d.s[i]?=(y.Z.map ze)[i]?:=by rw [e]
 rw [zg7 h2,List.getElem?_map,zg7 h1] at this;simpa using this
abbrev fQm (y:Ma) (d:Md):Fct:=⟨fun w=>Hq w y d,fun _ _ h hb=>h.keep hb⟩
def Db (w:World) (B:Nat) (y:Ma) (d:Md):Prop:=B<w.heap.size∧w.cell? ⟨B,0,none⟩=some (.slice y.G d.g.length y.gc)∧w.cell? ⟨B,1,none⟩=some (.slice y.P d.p.length y.pc)∧w.cell? ⟨B,2,none⟩=some (.slice y.A d.s.length y.c)∧w.cell? ⟨B,3,none⟩=some (.int .i64 d.i)
theorem Db.new (w:World) (y:Ma) (d:Md):Db (w.alloc (dcel y d)) w.heap.size y d:=by
 refine ⟨by simp,?_,?_,?_,?_⟩<;>simp [go_sem,dcel]
theorem Db.keep {w w':World} {B:Nat} {y:Ma} {d:Md} (h:Db w B y d) (hb:Below w.heap.size w w'):Db w' B y d:=by
 obtain ⟨h0,h1,h2,h3,h4⟩:=h;obtain ⟨hc,hf⟩:=bcell hb;exact ⟨Nat.lt_of_lt_of_le h0 hb.size,(hc _ _ h0).trans h1,(hc _ _ h0).trans h2,(hc _ _ h0).trans h3,(hc _ _ h0).trans h4⟩
abbrev fD (B:Nat) (y:Ma) (d:Md):Fct:=⟨fun w=>Db w B y d,fun _ _ h hb=>h.keep hb⟩
theorem Sx.mkD {w0 w:World} {L:List Fct} (h:Sx w0 w L) (y:Ma) (d:Md):Sx w0 (w.alloc (dcel y d)) (fD w.heap.size y d::L):=(h.mk1 _).add (fD w.heap.size y d) (Db.new w y d)
def qgE (z:Mh×List Ins):Bool:=gB z.1||decide (300<z.2.length)
def qG (d:Md):Bool:=decide (100<d.g.length)||(decide (100<d.p.length)||(decide (40<d.s.length)||d.s.any qgE))
def qmE:List (Mh×List Ins)→Int
 | []=>0
 | z::s=>if mM z.1=true then (if codM z.2=true then qmE s else 40) else 70
def qmB (s:List (Mh×List Ins)):List Int:=s.flatMap fun z=>mL z.1++codB z.2
def qX (d:Md):List Int:=poB d.g++(poB d.p++((d.s.length:Int)::(qmB d.s++[if d.i<0 then 255 else d.i])))
def qE (d:Md):Int:=
 if 4<d.g.length∨16<d.s.length∨d.i < -1∨(d.s.length:Int)≤d.i then 80 else
 if poM d.g=true then (if poM d.p=true then (if qmE d.s=0 then (if 2000<(qX d).length then 3 else 0) else qmE d.s) else 60) else 60
def qB (d:Md):List Int:=if qE d=0 then qX d else []
theorem Rm.each {w:World} {ad:Addr} {c:Nat} {Z:List Me} {j:Nat} (h1:j<Z.length):∀w',Rm w' (some ad) c Z→At8 w' (ad.add (j*8)) Z[j]∧(Z[j]).ok w':=by
 intro w' h;obtain ⟨ad',e',ha,hk⟩:=h.at_ h1;obtain rfl:=Option.some.inj e';exact ⟨ha,hk⟩
theorem great8_v (y:Ma) (d:Md) (w:World) (hq:Hq w y d):Calls Tryz.prog 9 #[dv y d] w fun e w'=>e=.returned (.bool (qG d))∧Below w.heap.size w w':=by
 obtain ⟨v,hv⟩:∃v,qG d=v:=⟨_,rfl⟩;have HV:=zhy hv;rw [hv];clear hv;have hlg:=hq.1.len;have hlp:=hq.2.1.len;have hls:=hq.2.2.1.len;have hzl:=hq.zlen;rw [hzl] at hls;have HZL:=zhy hzl;have HZA:=zhy (fun (i:Nat) (h1:i<y.Z.length) (h2:i<d.s.length)=>hq.zat h1 h2);obtain ⟨G,gc,P,pc,A,c,Z⟩:=y;dsimp only at HZL HZA hzl;have S0:=zhy (((Sx.start w).add (fQm ⟨G,gc,P,pc,A,c,Z⟩ d) hq).mkD ⟨G,gc,P,pc,A,c,Z⟩ d);clear hq hzl;obtain ⟨-,⟨z0,z1,z2,z3,z4⟩,-⟩:=S0.out;dsimp only at z1 z2 z3;by_cases b1:100<d.g.length
 ·have HN:Hid (v=true):=by rw [Hid,←HV.out,qG,decide_eq_true b1];rfl
  go_enter Tryz.func9,Tryz.ntmps9;go_wp2_with fail;go_ret;exact ⟨by rw [HN.out];rfl,S0.out.1⟩
 ·by_cases b2:100<d.p.length
  ·have HN:Hid (v=true):=by rw [Hid,←HV.out,qG,decide_eq_true b2];simp
   go_enter Tryz.func9,Tryz.ntmps9;go_wp2_with fail;go_ret;exact ⟨by rw [HN.out];rfl,S0.out.1⟩
  ·by_cases b3:40<d.s.length
   ·have HN:Hid (v=true):=by rw [Hid,←HV.out,qG,decide_eq_true b3];simp
    go_enter Tryz.func9,Tryz.ntmps9;go_wp2_with fail;go_ret;exact ⟨by rw [HN.out];rfl,S0.out.1⟩
   ·have HV2:Hid (d.s.any qgE=v):=by rw [Hid,←HV.out,qG,decide_eq_false b1,decide_eq_false b2,decide_eq_false b3];rfl
    clear HV;go_enter Tryz.func9,Tryz.ntmps9;go_upto_region 3 with (fail);generalize hw0:w.alloc (.cells #[.slice G d.g.length gc,.slice P d.p.length pc,.slice A d.s.length c,.int .i64 d.i] 25)=w0 at *;have S1:Hid (Sx w w0 [fD w.heap.size ⟨G,gc,P,pc,A,c,Z⟩ d,fQm ⟨G,gc,P,pc,A,c,Z⟩ d]):=by rw [←hw0];exact S0
    clear S0 z0 z1 z2 z3 z4 hw0;go_wp2_with fail;go_loopw [3] (fun i wr=>∃j:Nat,j≤d.s.length∧i=.int .i64 j∧Hid ((d.s.take j).any qgE=false)∧Hid (Sx w wr [fD w.heap.size ⟨G,gc,P,pc,A,c,Z⟩ d,fQm ⟨G,gc,P,pc,A,c,Z⟩ d])) (fun i _=>d.s.length-(intOf i).toNat)
    case atStart=>exact ⟨0,by omega,rfl,by simp [Hid],S1⟩
    case round =>
     obtain ⟨j,hj,rfl,HT,S2⟩:=hrel;clear S1;obtain ⟨-,⟨z0,z1,z2,z3,z4⟩,-⟩:=S2.out;dsimp only at z1 z2 z3;by_cases h1:j<d.s.length
     ·have h1z:j<Z.length:=by rw [HZL.out];exact h1
      have hR:Rm wr A c Z:=S2.out.2.2.1.2.2.1;obtain ⟨ad,rfl,-,-⟩:=hR.at_ h1z;have HE:=zhy (Rm.each (w:=wr) (ad:=ad) (c:=c) h1z);have HS:Hid (d.s.any qgE=true→v=true):=fun h=>by rw [←HV2.out];exact h
      have HJ:Hid (d.s[j]=((Z[j]).m,(Z[j]).k)):=HZA.out j h1z h1
      have HTN:Hid (qgE d.s[j]=false→(d.s.take (j+1)).any qgE=false):=fun h=>by
       rw [List.take_add_one,zg7 h1,List.any_append,HT.out];simp [h]
      have HTY:Hid (qgE d.s[j]=true→v=true):=fun h=>HS.out (List.any_eq_true.2 ⟨_,List.getElem_mem h1,h⟩);rw [HJ.out] at HTN HTY;obtain ⟨⟨a1,a2,a3,a4,a5,a6,a7,a8⟩,hok⟩:=HE.out wr hR;clear HJ HS HT hR;generalize Z[j]=z at *;obtain ⟨x,m,k⟩:=z;dsimp only at a1 a2 a3 a4 a5 a6 a7 a8 hok HTN HTY;have hP:=zhy (great_v x m wr hok.1);have hkl:k.length=x.k:=hok.2.2;have HKL:=zhy hkl;have hkm:=hok.2.1.len;rw [hkl] at hkm;clear hok hkl;go_wp2_with fail;refine hP.out.mono ?_;rintro e w3 ⟨rfl,hb3⟩;have S3:=zhy (S2.out.call hb3);have hR:Rm w3 (some ad) c Z:=S3.out.2.2.1.2.2.1;obtain ⟨⟨b1,b2,b3,b4,b5,b6,b7,b8⟩,-⟩:=HE.out w3 hR;dsimp only at b1 b2 b3 b4 b5 b6 b7 b8;clear hb3 S2 hP hR z0 z1 z2 z3 z4 a1 a2 a3 a4 a5 a6 a7 a8;obtain ⟨-,⟨z0,z1,z2,z3,z4⟩,-⟩:=S3.out;dsimp only at z1 z2 z3;cases hg:gB m with
      | true =>
       have HN:=zhy (HTY.out (by simp [qgE,hg]));clear HTN HTY hg;go_wp2_with fail;go_ret;exact ⟨by rw [HN.out];rfl,S3.out.1⟩
      | false =>
       by_cases h3:300<x.k
       ·have HN:=zhy (HTY.out (by simp [qgE,hg,HKL.out,h3]));clear HTN HTY hg;go_wp2_with fail;go_ret;exact ⟨by rw [HN.out];rfl,S3.out.1⟩
       ·have HN:=zhy (HTN.out (by simp [qgE,hg,HKL.out];omega));clear HTN HTY hg;go_wp2_with fail;go_roundw
        case rel=>exact ⟨j+1,by omega,by go_num,HN,S3⟩
        case measure=>simp [intOf];omega
     ·obtain rfl:j=d.s.length:=by omega
      have HN:Hid (v=false):=by
       have:=HT.out;rw [List.take_length] at this;rw [Hid,←HV2.out,this]
      clear HT;go_wp2_with fail;go_ret;exact ⟨by rw [HN.out];rfl,S2.out.1⟩
def Bk (w:World) (B t n:Nat):Prop:=∃cur,w.heap[B]?=some (.cells cur t (0,0))∧cur.size=n
theorem Bk.lt {w:World} {B t n:Nat} (h:Bk w B t n):B<w.heap.size:=by
 obtain ⟨cur,h,_⟩:=h;exact (zg9.1 h).1
theorem Bk.keep {w w':World} {B t n:Nat} (h:Bk w B t n) (hb:Below w.heap.size w w'):Bk w' B t n:=by
 have hl:=h.lt;obtain ⟨cur,h,hn⟩:=h;exact ⟨cur,(hb.block B hl).trans h,hn⟩
theorem Bk.new (w:World) (cs:Array Value) (t:Nat):Bk (w.alloc (.cells cs t)) w.heap.size t cs.size:=⟨cs,heap_alloc_new w _,rfl⟩
theorem Bk.set {w:World} {B t n:Nat} (h:Bk w B t n) (g j:Nat) (v:Value):Bk (w.setCell ⟨g,j,none⟩ v) B t n:=by
 obtain ⟨cur,h,hn⟩:=h;by_cases e:g=B
 ·subst e;exact ⟨cur.setIfInBounds j v,heap_setCell_same w g j cur t v h,by simpa using hn⟩
 ·exact ⟨cur,(Below.heap_setCell w ⟨g,j,none⟩ v B (fun e'=>e e'.symm)).trans h,hn⟩
theorem own_tag {w:World} {base e size n B t k:Nat} {v:Value} {xs:List Value} (h:w.ownsRow base e size v n xs) (hB:Bk w B t k) (hne:e≠t) (j:Nat) (u:Value):(w.setCell ⟨B,j,none⟩ u).ownsRow base e size v n xs:=by
 obtain ⟨h1,h2⟩:=h;refine ⟨h1,?_⟩;rcases h2 with h2 | ⟨g,cap,cur,hv,hg,hh,r⟩
 ·exact .inl h2
 ·obtain ⟨cur2,hh2,_⟩:=hB
  have hgB:g≠B:=fun e'=>by
   subst e';rw [hh] at hh2;injection hh2 with hh2;injection hh2 with _ h3 _;exact hne h3
  exact .inr ⟨g,cap,cur,hv,hg,by rw [Below.heap_setCell _ _ _ _ (fun e'=>hgB e')];exact hh,r⟩
theorem own_grown {w w':World} {base base2 e e2 size size2 n n2:Nat} {v v2:Value} {xs xs2:List Value} (h:w.ownsRow base e size v n xs) (h2:w.ownsRow base2 e2 size2 v2 n2 xs2) (hne:e≠e2) (hg:w.grownBy w' v2.ownBlock):w'.ownsRow base e size v n xs:=by
 obtain ⟨h1,h3⟩:=h;refine ⟨h1,?_⟩;rcases h3 with h3 | ⟨g,cap,cur,hv,hgb,hh,r⟩
 ·exact .inl h3
 ·have hlt:=(zg9.1 hh).1
  have hgB:some g≠v2.ownBlock:=fun e'=>by
   rcases h2.2 with ⟨rfl,_⟩ | ⟨g2,cap2,cur2,rfl,_,hh2,_⟩
   ·simp [Value.ownBlock] at e'
   ·simp [Value.ownBlock] at e';subst e';rw [hh] at hh2;injection hh2 with hh2;injection hh2 with _ h3 _;exact hne h3
  exact .inr ⟨g,cap,cur,hv,hgb,(hg.block g hlt hgB).trans hh,r⟩
theorem Bk.grown {w w':World} {B t n base2 e2 size2 n2:Nat} {v2:Value} {xs2:List Value} (h:Bk w B t n) (h2:w.ownsRow base2 e2 size2 v2 n2 xs2) (hne:t≠e2) (hg:w.grownBy w' v2.ownBlock):Bk w' B t n:=by
 have hlt:=h.lt;obtain ⟨cur,hh,hn⟩:=h
 have hgB:some B≠v2.ownBlock:=fun e'=>by
  rcases h2.2 with ⟨rfl,_⟩ | ⟨g2,cap2,cur2,rfl,_,hh2,_⟩
  ·simp [Value.ownBlock] at e'
  ·simp [Value.ownBlock] at e';subst e';rw [hh] at hh2;injection hh2 with hh2;injection hh2 with _ h3 _;exact hne h3
 exact ⟨cur,(hg.block B hlt hgB).trans hh,hn⟩
theorem length_ce8 (z:Me):(ce8 z).length=8:=rfl
theorem length_cem (Z:List Me):(cem Z).length=Z.length*8:=by
 induction Z with
 | nil=>rfl
 | cons z Z ih=>rw [cem,List.flatMap_cons,List.length_append,←cem,ih,length_ce8];simp;omega
theorem cem_append (Z Y:List Me):cem (Z++Y)=cem Z++cem Y:=by simp [cem]
theorem cem_one (z:Me):cem [z]=ce8 z:=by simp [cem]
theorem ce8_one (z:Me):∀u∈ce8 z,u.oneCell'=true:=by
 intro u hu;simp [ce8] at hu;rcases hu with rfl | rfl | rfl | rfl | rfl | rfl | rfl | rfl<;>rfl
theorem cem_at {Z:List Me} {i:Nat} {z:Me} (h:Z[i]?=some z) (j:Nat) (hj:j<8):(cem Z)[i*8+j]?=(ce8 z)[j]?:=by
 induction Z generalizing i with
 | nil=>simp at h
 | cons y Z ih =>
  have e:cem (y::Z)=ce8 y++cem Z:=by simp [cem]
  cases i with
  | zero =>
   simp at h;subst h;rw [e,Nat.zero_mul,Nat.zero_add,List.getElem?_append_left (by rw [length_ce8];omega)]
  | succ i =>
   rw [e,List.getElem?_append_right (by rw [length_ce8];omega),length_ce8,show (i+1)*8+j-8=i*8+j by omega];exact ih (by simpa using h)
theorem Tryz.infoM:(Tryz.prog.info? 50).map (fun i=>(i.zero,i.size,i.bytes))=some (some (.agg #[.slice none 0 0,.slice none 0 0,.int .u8 0,.bool false,.int .i64 0,.int .i64 0,.int .i64 0,.slice none 0 0]),8,104):=by kernel_rfl
theorem wpList_append_rm (w:World) {ops:Array Oper} {rest:List Oper} {o:Oper} {a:Act} {Q:Exit→Act→World→Prop} (hgd:o.guard=none) (s x:Operand)
  (ho:o.op=.call { callee:=.builtin .append,args:=#[s,x],argTypes:=#[23,23]})
  (base:Nat) (v:Value) (n:Nat) (K:List Me) (hs:a.eval s=v) (hown:w.ownsRow base 50 8 v n (cem K))
  (ad:Addr) (z:Me) (hx:a.eval x=.slice (some ad) 1 1) (hr:∀j u,(ce8 z)[j]?=some u→w.cell? (ad.add j)=some u) (hbytes:n+1≤1000000) (hbase:base≤w.heap.size)
  (h:∀A' c' w',w'.ownsRow base 50 8 (.slice A' (n+1) c') (n+1) (cem (K++[z]))→w.grownBy w' v.ownBlock→Below base w w' →
   ((Value.slice A' (n+1) c').ownBlock=v.ownBlock∨(Value.slice A' (n+1) c').ownBlock=some w.heap.size)→wpList Tryz.prog ops Q rest (a.put o.dst (.slice A' (n+1) c')) w'):wpList Tryz.prog ops Q (o::rest) a w:=by
 have hinfo:=Tryz.infoM
 rw [Option.map_eq_some_iff] at hinfo
 obtain ⟨i,hi,hz⟩:=hinfo
 simp only [Prod.mk.injEq] at hz
 obtain ⟨hz0,hz1,hz2⟩:=hz
 have hbel:∀{w'},w.grownBy w' v.ownBlock→Below base w w':=fun hg=>(Below.refl _ _).grown hg hbase fun g hg'=>(hown.lt g hg').1
 refine wpList_append_own_at w hgd s x 23 ho base 50 i _ 8 104 Tryz.underlying23 hi hz0 hz1 hz2 rfl (by decide) v n (cem K) hs hown ad 1 1 (ce8 z) hx (by rw [length_ce8]) hr (ce8_one z) (by unfold maxLen;omega) (by omega) hbase ?_
 intro v' w' hown' hg _ hb
 obtain ⟨A',c',rfl⟩:=own_form hown'
 exact h A' c' w' (by rw [cem_append,cem_one];exact hown') hg (hbel hg) hb
theorem Rm.of_own {w:World} {A:Option Addr} {c base e n:Nat} {Z:List Me} (h:w.ownsRow base e 8 (.slice A n c) n (cem Z)) (hk:∀z∈Z,z.ok w):Rm w A c Z∧n=Z.length:=by
 have hn:n=Z.length:=by have:=h.1;rw [length_cem] at this;omega
 refine ⟨⟨hk,?_⟩,hn⟩;have hcell:=fun g=>h.cells (g:=g);rcases h.2 with ⟨hv,h0⟩ | ⟨g,cap,cur,hv,_,_,hcap,hm,_⟩
 ·injection hv with e1 e2 e3;exact ⟨by omega,by omega,.inl ⟨e1,e3⟩⟩
 ·injection hv with e1 e2 e3;subst e1 e3;refine ⟨by omega,hm,.inr ⟨_,rfl,fun i z hz=>?_⟩⟩
  have hq:∀j,j<8→w.cell? ((⟨g,0,none⟩:Addr).add (i*8+j))=(ce8 z)[j]?:=fun j hj=>by
   have h1:=cem_at hz j hj;have h2:(ce8 z)[j]?=some ((ce8 z)[j]'(by rw [length_ce8];exact hj)):=zg7 _;rw [h2] at h1 ⊢;exact hcell g rfl _ _ h1
  have ea:∀j,(⟨g,0,none⟩:Addr).add (i*8+(j+1))=⟨((⟨g,0,none⟩:Addr).add (i*8)).block,((⟨g,0,none⟩:Addr).add (i*8)).off+(j+1),none⟩:=fun j=>by
   unfold Addr.add;rw [if_neg (by omega)];split
   ·rename_i h0;simp [h0]
   ·simp
  refine ⟨hq 0 (by omega),?_,?_,?_,?_,?_,?_,?_⟩
  ·rw [←ea 0];exact hq 1 (by omega)
  ·rw [←ea 1];exact hq 2 (by omega)
  ·rw [←ea 2];exact hq 3 (by omega)
  ·rw [←ea 3];exact hq 4 (by omega)
  ·rw [←ea 4];exact hq 5 (by omega)
  ·rw [←ea 5];exact hq 6 (by omega)
  ·rw [←ea 6];exact hq 7 (by omega)
def put4 (w:World) (B:Nat) (y:Ma) (d:Md):World:=
 (((w.setCell ⟨B,0,none⟩ (.slice y.G d.g.length y.gc)).setCell ⟨B,1,none⟩ (.slice y.P d.p.length y.pc)).setCell ⟨B,2,none⟩ (.slice y.A d.s.length y.c)).setCell ⟨B,3,none⟩ (.int .i64 d.i)
theorem put4_below {w0 w:World} {k B:Nat} (h:Below k w0 w) (hB:k≤B) (y:Ma) (d:Md):Below k w0 (put4 w B y d):=
 (((h.setCell (p:=⟨B,0,none⟩) hB _).setCell (p:=⟨B,1,none⟩) hB _).setCell (p:=⟨B,2,none⟩) hB _).setCell (p:=⟨B,3,none⟩) hB _
theorem put4_db {w:World} {B:Nat} {t:Ma} {e:Md} (h:Db w B t e) (y:Ma) (d:Md):Db (put4 w B y d) B y d:=by
 obtain ⟨h0,h1,h2,h3,h4⟩:=h;unfold put4;refine ⟨by simpa using h0,?_,?_,?_,?_⟩<;>simp [go_sem,h1,h2,h3,h4]
theorem Db.other {w:World} {B:Nat} {y:Ma} {d:Md} (h:Db w B y d) {p:Addr} (hp:p.block≠B) (v:Value):Db (w.setCell p v) B y d:=by
 obtain ⟨h0,h1,h2,h3,h4⟩:=h;have ne:∀i,p≠(⟨B,i,none⟩:Addr):=fun i e=>hp (by rw [e]);refine ⟨by simpa using h0,?_,?_,?_,?_⟩<;>(rw [World.cell?_setCell_other _ _ _ _ (ne _)];assumption)
def Rs (w:World) (lo hi e size:Nat) (A:Option Addr) (n:Nat):Prop:=n=0∨∃g cur,A=some ⟨g,0,none⟩∧lo≤g∧g<hi∧w.heap[g]?=some (.cells cur e (0,0))∧n*size≤cur.size
theorem Rs.keep {w w':World} {lo hi e size n:Nat} {A:Option Addr} (h:Rs w lo hi e size A n) (hb:Below w.heap.size w w'):Rs w' lo hi e size A n:=by
 rcases h with h | ⟨g,cur,h1,h2,h3,h4,h5⟩
 ·exact .inl h
 ·exact .inr ⟨g,cur,h1,h2,h3,(hb.block g (zg9.1 h4).1).trans h4,h5⟩
theorem Rs.of_own {w:World} {base e size n c lo hi:Nat} {A:Option Addr} {xs:List Value} (h:w.ownsRow base e size (.slice A n c) n xs) (hl:lo≤base) (hh:w.heap.size≤hi):Rs w lo hi e size A n:=by
 rcases h.2 with ⟨hv,h0⟩ | ⟨g,cap,cur,hv,hg,hb,hcap,hm,hs,ht⟩
 ·exact .inl h0
 ·injection hv with e1 e2 e3;have hlt:=(zg9.1 hb).1;exact .inr ⟨g,cur,e1,by omega,by omega,hb,by rw [hs];exact Nat.mul_le_mul_right _ hcap⟩
section
open Go.ChangeShapes Go.WideShapes Go.ChangeAt Go.RowKit Go.Deep
theorem metF:((Tryz.prog.fieldsOf 50).map fun f=>(f.offset,f.type))=#[(0,40),(1,40),(2,5),(3,4),(4,3),(5,3),(6,3),(7,48)]:=by kernel_rfl
theorem metF_at {j:Nat} {o t:Nat} (h:(#[(0,40),(1,40),(2,5),(3,4),(4,3),(5,3),(6,3),(7,48)]:Array (Nat×TypeId))[j]?=some (o,t)):∃f,(Tryz.prog.fieldsOf 50)[j]?=some f∧f.offset=o∧f.type=t:=by
 rw [←metF,Array.getElem?_map,Option.map_eq_some_iff] at h;obtain ⟨f,h1,h2⟩:=h;simp only [Prod.mk.injEq] at h2;exact ⟨f,h1,h2.1,h2.2⟩
section
variable {H : Type} {enc : TypeId × Value → H} {w : World} {base : Nat} {sp : Nat → Bool} {held : Bool} {fuel : Nat}
theorem one_u8s {v:Value} {x:DataW H×List MemPlace} (h:DataW.trod enc Tryz.prog w base sp held fuel 40 [v]=some x):∃(A:Option Addr) (c:Nat) (l:List Int),v=.slice A l.length c∧Rd w A c l:=by
 rcases open_ints Tryz.underlying40 Tryz.underlying5 (by kernel_rfl) h with ⟨h0,_⟩ | ⟨a,len,cap,zs,h0,_,hl,hm,hz,_,hc,hw⟩
 ·simp at h0;exact ⟨none,0,[],h0,Rd.none_ _⟩
 ·simp at h0;have hle:len≤zs.length:=by rw [hz];split<;>omega
  have hlen:(zs.take len).length=len:=by simp;omega
  refine ⟨some a,cap,zs.take len,by rw [hlen];exact h0,?_,by rw [hlen];exact hl,hm,.inr ⟨a,rfl,fun i y hy=>?_⟩⟩
  ·intro n hn;have:=bounds_u8 (hw n (List.mem_of_mem_take hn));omega
  ·rw [List.getElem?_take] at hy;split at hy
   ·have hlt:=(zg8.1 hy).1;rw [hc i hlt,List.getD_eq_getElem?_getD,hy];rfl
   ·cases hy
end
end
section
open Go.ChangeShapes Go.WideShapes Go.ChangeAt Go.RowKit Go.Deep
theorem valF:((Tryz.prog.fieldsOf 139).map fun f=>(f.offset,f.type))=#[(0,5),(1,2),(2,2)]:=by kernel_rfl
theorem valF_at {j:Nat} {o t:Nat} (h:(#[(0,5),(1,2),(2,2)]:Array (Nat×TypeId))[j]?=some (o,t)):∃f,(Tryz.prog.fieldsOf 139)[j]?=some f∧f.offset=o∧f.type=t:=by
 rw [←valF,Array.getElem?_map,Option.map_eq_some_iff] at h;obtain ⟨f,h1,h2⟩:=h;simp only [Prod.mk.injEq] at h2;exact ⟨f,h1,h2.1,h2.2⟩
theorem one_vlu {H:Type} {enc:TypeId×Value→H} {w:World} {base:Nat} {sp:Nat→Bool} {held:Bool} {fuel:Nat} {cs:List Value} {x:DataW H×List MemPlace} (h:DataW.trod enc Tryz.prog w base sp held fuel 139 cs=some x) :
  ∃y:Vlu,VlOk y∧cs=[.int .u8 y.1,.int .i64 y.2.1,.int .i64 y.2.2]:=by
 have hS:Tryz.prog.underlying 139=some (.struct (Tryz.prog.fieldsOf 139)):=by kernel_rfl
 have hC:Tryz.prog.cellsOf 139=3:=by kernel_rfl
 have c1:Tryz.prog.cellsOf 5=1:=by kernel_rfl
 have c2:Tryz.prog.cellsOf 2=1:=by kernel_rfl
 obtain ⟨xs,n,_,_,hlen,hxs,hg⟩:=DataW.trod_struct hS h
 rw [hC] at hlen
 match cs,hlen with
 | [v0,v1,v2],_ =>
  have hn:xs.length=3:=by rw [hxs];kernel_rfl
  obtain ⟨f0,a0,o0,t0⟩:=valF_at (j:=0) rfl
  obtain ⟨f1,a1,o1,t1⟩:=valF_at (j:=1) rfl
  obtain ⟨f2,a2,o2,t2⟩:=valF_at (j:=2) rfl
  have g0:=hg 0 f0 a0
  have g1:=hg 1 f1 a1
  have g2:=hg 2 f2 a2
  rw [o0,t0,c1,zg7 (by omega)] at g0
  rw [o1,t1,c2,zg7 (by omega)] at g1
  rw [o2,t2,c2,zg7 (by omega)] at g2
  obtain ⟨k,e0,_,w0⟩:=DataW.trod_int Tryz.underlying5 g0
  obtain ⟨a,e1,_,w1⟩:=DataW.trod_int Tryz.underlying2 g1
  obtain ⟨b,e2,_,w2⟩:=DataW.trod_int Tryz.underlying2 g2
  simp at e0 e1 e2
  subst e0 e1 e2
  have b0:=bounds_u8 w0
  have b1:=bounds_i64 w1
  have b2:=bounds_i64 w2
  exact ⟨(k,a,b),by unfold VlOk;simp only;omega,rfl⟩
theorem open_vlu {H:Type} {enc:TypeId×Value→H} {w:World} {base:Nat} {sp:Nat→Bool} {held:Bool} {fuel:Nat} {cs:List Value} {x:DataW H×List MemPlace} (h:DataW.trod enc Tryz.prog w base sp held fuel 22 cs=some x) :
  cs=[.slice none 0 0]∨∃(a:Addr) (len cap:Nat) (L:List Vlu),cs=[.slice (some a) len cap]∧L.length=len∧Rv w (some a) cap L:=by
 have hC:Tryz.prog.cellsOf 139=3:=by kernel_rfl
 rcases open_slice Tryz.underlying22 h with ⟨h0,_⟩ | ⟨a,len,cap,m,n,D,Pl,hcs,hb,hl,hm,hmm,hx,hi⟩
 ·exact .inl h0
 ·rw [hC] at hi
  have hle:len≤m:=by rw [hmm];split<;>omega
  have hy:∀i,i<len→∃y:Vlu,VlOk y∧w.cell? (a.add (i*3))=some (.int .u8 y.1)∧w.cell? ⟨(a.add (i*3)).block,(a.add (i*3)).off+1,none⟩=some (.int .i64 y.2.1)∧w.cell? ⟨(a.add (i*3)).block,(a.add (i*3)).off+2,none⟩=some (.int .i64 y.2.2):=by
   intro i hil;obtain ⟨cs',hc,ht⟩:=hi i (by omega);obtain ⟨y,hok,rfl⟩:=one_vlu ht;obtain ⟨_,_,hat⟩:=World.cells?_some hc;have q0:=hat 0 (by omega);have q1:=hat 1 (by omega);have q2:=hat 2 (by omega);rw [add_add] at q0 q1 q2;rw [vadd_1] at q1;rw [vadd_2] at q2;exact ⟨y,hok,by simpa using q0,by simpa using q1,by simpa using q2⟩
  refine .inr ⟨a,len,cap,(List.range len).map fun i=>if hil:i<len then (hy i hil).choose else (0,0,0),hcs,by simp,?_,by simp;omega,hm,.inr ⟨a,rfl,?_⟩⟩
  ·intro y hmem
   obtain ⟨i,hir,rfl⟩:=List.mem_map.1 hmem
   have hil:=List.mem_range.1 hir
   rw [dif_pos hil]
   exact (hy i hil).choose_spec.1
  ·intro i y hiy
   have hil:i<len:=by simpa using (zg8.1 hiy).1
   rw [List.getElem?_map,List.getElem?_range hil,Option.map_some,dif_pos hil] at hiy
   obtain rfl:=Option.some.inj hiy
   exact (hy i hil).choose_spec.2
end
section
open Go.ChangeShapes Go.WideShapes Go.ChangeAt Go.RowKit Go.Deep
theorem insF:((Tryz.prog.fieldsOf 57).map fun f=>(f.offset,f.type))=#[(0,5),(1,3),(2,3)]:=by kernel_rfl
theorem insF_at {j:Nat} {o t:Nat} (h:(#[(0,5),(1,3),(2,3)]:Array (Nat×TypeId))[j]?=some (o,t)):∃f,(Tryz.prog.fieldsOf 57)[j]?=some f∧f.offset=o∧f.type=t:=by
 rw [←insF,Array.getElem?_map,Option.map_eq_some_iff] at h;obtain ⟨f,h1,h2⟩:=h;simp only [Prod.mk.injEq] at h2;exact ⟨f,h1,h2.1,h2.2⟩
theorem one_ins {H:Type} {enc:TypeId×Value→H} {w:World} {base:Nat} {sp:Nat→Bool} {held:Bool} {fuel:Nat} {cs:List Value} {x:DataW H×List MemPlace} (h:DataW.trod enc Tryz.prog w base sp held fuel 57 cs=some x) :
  ∃y:Ins,InOk y∧cs=[.int .u8 y.1,.int .i64 y.2.1,.int .i64 y.2.2]:=by
 have hS:Tryz.prog.underlying 57=some (.struct (Tryz.prog.fieldsOf 57)):=by kernel_rfl
 have hC:Tryz.prog.cellsOf 57=3:=by kernel_rfl
 have c1:Tryz.prog.cellsOf 5=1:=by kernel_rfl
 have c2:Tryz.prog.cellsOf 3=1:=by kernel_rfl
 obtain ⟨xs,n,_,_,hlen,hxs,hg⟩:=DataW.trod_struct hS h
 rw [hC] at hlen
 match cs,hlen with
 | [v0,v1,v2],_ =>
  have hn:xs.length=3:=by rw [hxs];kernel_rfl
  obtain ⟨f0,a0,o0,t0⟩:=insF_at (j:=0) rfl
  obtain ⟨f1,a1,o1,t1⟩:=insF_at (j:=1) rfl
  obtain ⟨f2,a2,o2,t2⟩:=insF_at (j:=2) rfl
  have g0:=hg 0 f0 a0
  have g1:=hg 1 f1 a1
  have g2:=hg 2 f2 a2
  rw [o0,t0,c1,zg7 (by omega)] at g0
  rw [o1,t1,c2,zg7 (by omega)] at g1
  rw [o2,t2,c2,zg7 (by omega)] at g2
  obtain ⟨k,e0,_,w0⟩:=DataW.trod_int Tryz.underlying5 g0
  obtain ⟨a,e1,_,w1⟩:=DataW.trod_int Tryz.underlying3 g1
  obtain ⟨b,e2,_,w2⟩:=DataW.trod_int Tryz.underlying3 g2
  simp at e0 e1 e2
  subst e0 e1 e2
  have b0:=bounds_u8 w0
  have b1:=bounds_i64 w1
  have b2:=bounds_i64 w2
  exact ⟨(k,a,b),by unfold InOk;simp only;omega,rfl⟩
theorem open_ins {H:Type} {enc:TypeId×Value→H} {w:World} {base:Nat} {sp:Nat→Bool} {held:Bool} {fuel:Nat} {cs:List Value} {x:DataW H×List MemPlace} (h:DataW.trod enc Tryz.prog w base sp held fuel 48 cs=some x) :
  cs=[.slice none 0 0]∨∃(a:Addr) (len cap:Nat) (L:List Ins),cs=[.slice (some a) len cap]∧L.length=len∧Ri w (some a) cap L:=by
 have hC:Tryz.prog.cellsOf 57=3:=by kernel_rfl
 rcases open_slice Tryz.underlying48 h with ⟨h0,_⟩ | ⟨a,len,cap,m,n,D,Pl,hcs,hb,hl,hm,hmm,hx,hi⟩
 ·exact .inl h0
 ·rw [hC] at hi
  have hle:len≤m:=by rw [hmm];split<;>omega
  have hy:∀i,i<len→∃y:Ins,InOk y∧w.cell? (a.add (i*3))=some (.int .u8 y.1)∧w.cell? ⟨(a.add (i*3)).block,(a.add (i*3)).off+1,none⟩=some (.int .i64 y.2.1)∧w.cell? ⟨(a.add (i*3)).block,(a.add (i*3)).off+2,none⟩=some (.int .i64 y.2.2):=by
   intro i hil;obtain ⟨cs',hc,ht⟩:=hi i (by omega);obtain ⟨y,hok,rfl⟩:=one_ins ht;obtain ⟨_,_,hat⟩:=World.cells?_some hc;have q0:=hat 0 (by omega);have q1:=hat 1 (by omega);have q2:=hat 2 (by omega);rw [add_add] at q0 q1 q2;rw [add_1] at q1;rw [add_2] at q2;exact ⟨y,hok,by simpa using q0,by simpa using q1,by simpa using q2⟩
  refine .inr ⟨a,len,cap,(List.range len).map fun i=>if hil:i<len then (hy i hil).choose else (0,0,0),hcs,by simp,?_,by simp;omega,hm,.inr ⟨a,rfl,?_⟩⟩
  ·intro y hmem
   obtain ⟨i,hir,rfl⟩:=List.mem_map.1 hmem
   have hil:=List.mem_range.1 hir
   rw [dif_pos hil]
   exact (hy i hil).choose_spec.1
  ·intro i y hiy
   have hil:i<len:=by simpa using (zg8.1 hiy).1
   rw [List.getElem?_map,List.getElem?_range hil,Option.map_some,dif_pos hil] at hiy
   obtain rfl:=Option.some.inj hiy
   exact (hy i hil).choose_spec.2
end
section
open Go.ChangeShapes Go.WideShapes Go.ChangeAt Go.RowKit Go.Deep
theorem addp (ad:Addr) (k j:Nat) (h:0<j):ad.add (k+j)=⟨(ad.add k).block,(ad.add k).off+j,none⟩:=by
 unfold Addr.add;rw [if_neg (by omega)];split
 ·subst_vars;simp
 ·simp;omega
section
variable {H : Type} {enc : TypeId × Value → H} {w : World} {base : Nat} {sp : Nat → Bool} {held : Bool} {fuel : Nat}
theorem one_insL {v:Value} {x:DataW H×List MemPlace} (h:DataW.trod enc Tryz.prog w base sp held fuel 48 [v]=some x):∃(D:Option Addr) (e:Nat) (K:List Ins),v=.slice D K.length e∧Ri w D e K:=by
 rcases open_ins h with h0 | ⟨a,len,cap,L,h0,hl,hr⟩
 ·simp at h0;exact ⟨none,0,[],h0,Ri.none_ _⟩
 ·simp at h0;subst hl;exact ⟨some a,cap,L,h0,hr⟩
theorem one_vluL {v:Value} {x:DataW H×List MemPlace} (h:DataW.trod enc Tryz.prog w base sp held fuel 22 [v]=some x):∃(D:Option Addr) (e:Nat) (K:List Vlu),v=.slice D K.length e∧Rv w D e K:=by
 rcases open_vlu h with h0 | ⟨a,len,cap,L,h0,hl,hr⟩
 ·simp at h0;exact ⟨none,0,[],h0,Rv.none_ _⟩
 ·simp at h0;subst hl;exact ⟨some a,cap,L,h0,hr⟩
theorem one_me {cs:List Value} {x:DataW H×List MemPlace} (h:DataW.trod enc Tryz.prog w base sp held fuel 50 cs=some x):∃z:Me,cs=ce8 z∧z.ok w:=by
 have hS:Tryz.prog.underlying 50=some (.struct (Tryz.prog.fieldsOf 50)):=by kernel_rfl
 have hC:Tryz.prog.cellsOf 50=8:=by kernel_rfl
 have c1:Tryz.prog.cellsOf 40=1:=by kernel_rfl
 have c2:Tryz.prog.cellsOf 5=1:=by kernel_rfl
 have c3:Tryz.prog.cellsOf 4=1:=by kernel_rfl
 have c4:Tryz.prog.cellsOf 3=1:=by kernel_rfl
 have c5:Tryz.prog.cellsOf 48=1:=by kernel_rfl
 obtain ⟨xs,n,_,_,hlen,hxs,hg⟩:=DataW.trod_struct hS h;rw [hC] at hlen;match cs,hlen with
 | [v0,v1,v2,v3,v4,v5,v6,v7],_ =>
  have hn:xs.length=8:=by rw [hxs];kernel_rfl
  obtain ⟨f0,a0,o0,t0⟩:=metF_at (j:=0) rfl;obtain ⟨f1,a1,o1,t1⟩:=metF_at (j:=1) rfl;obtain ⟨f2,a2,o2,t2⟩:=metF_at (j:=2) rfl;obtain ⟨f3,a3,o3,t3⟩:=metF_at (j:=3) rfl;obtain ⟨f4,a4,o4,t4⟩:=metF_at (j:=4) rfl;obtain ⟨f5,a5,o5,t5⟩:=metF_at (j:=5) rfl;obtain ⟨f6,a6,o6,t6⟩:=metF_at (j:=6) rfl;obtain ⟨f7,a7,o7,t7⟩:=metF_at (j:=7) rfl;have g0:=hg 0 f0 a0;have g1:=hg 1 f1 a1;have g2:=hg 2 f2 a2;have g3:=hg 3 f3 a3;have g4:=hg 4 f4 a4;have g5:=hg 5 f5 a5;have g6:=hg 6 f6 a6;have g7:=hg 7 f7 a7;rw [o0,t0,c1,zg7 (by omega)] at g0;rw [o1,t1,c1,zg7 (by omega)] at g1;rw [o2,t2,c2,zg7 (by omega)] at g2;rw [o3,t3,c3,zg7 (by omega)] at g3;rw [o4,t4,c4,zg7 (by omega)] at g4;rw [o5,t5,c4,zg7 (by omega)] at g5;rw [o6,t6,c4,zg7 (by omega)] at g6;rw [o7,t7,c5,zg7 (by omega)] at g7;obtain ⟨A,c,a,rfl,hA⟩:=one_u8s (v:=v0) g0;obtain ⟨B,d,b,rfl,hB⟩:=one_u8s (v:=v1) g1;obtain ⟨r,e2,_,w2⟩:=DataW.trod_int Tryz.underlying5 g2;obtain ⟨q,e3,_⟩:=DataW.trod_bool Tryz.underlying4 g3;obtain ⟨f,e4,_,w4⟩:=DataW.trod_int Tryz.underlying3 g4;obtain ⟨s,e5,_,w5⟩:=DataW.trod_int Tryz.underlying3 g5;obtain ⟨hh,e6,_,w6⟩:=DataW.trod_int Tryz.underlying3 g6;obtain ⟨D,e,K,rfl,hK⟩:=one_insL (v:=v7) g7;simp at e2 e3 e4 e5 e6;subst e2 e3 e4 e5 e6;have b2:=bounds_u8 w2;have b4:=bounds_i64 w4;have b5:=bounds_i64 w5;have b6:=bounds_i64 w6;exact ⟨⟨⟨A,c,B,d,D,K.length,e⟩,⟨a,b,r,q,f,s,hh⟩,K⟩,rfl,⟨hA,hB,⟨⟨b2.1,by dsimp only;omega⟩,b4,b5,b6⟩⟩,hK,rfl⟩
theorem at8_of {p:Addr} {z:Me} (h:∀j,j<8→w.cell? (p.add j)=(ce8 z)[j]?):At8 w p z:=by
 have e:∀j,p.add (0+(j+1))=⟨p.block,p.off+(j+1),none⟩:=fun j=>by rw [addp p 0 (j+1) (by omega)];rfl
 have h0:=h 0 (by omega);have h1:=h (0+(0+1)) (by omega);have h2:=h (0+(1+1)) (by omega);have h3:=h (0+(2+1)) (by omega);have h4:=h (0+(3+1)) (by omega);have h5:=h (0+(4+1)) (by omega);have h6:=h (0+(5+1)) (by omega);have h7:=h (0+(6+1)) (by omega);rw [e] at h1 h2 h3 h4 h5 h6 h7;exact ⟨h0,h1,h2,h3,h4,h5,h6,h7⟩
theorem open_mets {cs:List Value} {x:DataW H×List MemPlace} (h:DataW.trod enc Tryz.prog w base sp held fuel 23 cs=some x) :
  cs=[.slice none 0 0]∨∃(a:Addr) (len cap:Nat) (Z:List Me),cs=[.slice (some a) len cap]∧Z.length=len∧Rm w (some a) cap Z:=by
 have hC:Tryz.prog.cellsOf 50=8:=by kernel_rfl
 rcases open_slice Tryz.underlying23 h with ⟨h0,_⟩ | ⟨a,len,cap,m,n,D,Pl,hcs,hb,hl,hm,hmm,hx,hi⟩
 ·exact .inl h0
 ·rw [hC] at hi
  have hle:len≤m:=by rw [hmm];split<;>omega
  have hy:∀i,i<len→∃z:Me,z.ok w∧At8 w (a.add (i*8)) z:=by
   intro i hil;obtain ⟨cs',hc,ht⟩:=hi i (by omega);obtain ⟨z,rfl,hok⟩:=one_me ht;obtain ⟨_,_,hat⟩:=World.cells?_some hc;exact ⟨z,hok,at8_of fun j hj=>hat j hj⟩
  refine .inr ⟨a,len,cap,(List.range len).map fun i=>if hil:i<len then (hy i hil).choose else ⟨Mc.zero,Mh.zero,[]⟩,hcs,by simp,?_,by simp;omega,hm,.inr ⟨a,rfl,?_⟩⟩
  ·intro z hmem
   obtain ⟨i,hir,rfl⟩:=List.mem_map.1 hmem
   have hil:=List.mem_range.1 hir
   rw [dif_pos hil]
   exact (hy i hil).choose_spec.1
  ·intro i z hiy
   have hil:i<len:=by simpa using (zg8.1 hiy).1
   rw [List.getElem?_map,List.getElem?_range hil,Option.map_some,dif_pos hil] at hiy
   obtain rfl:=Option.some.inj hiy
   exact (hy i hil).choose_spec.2
theorem modF:((Tryz.prog.fieldsOf 25).map fun f=>(f.offset,f.type))=#[(0,22),(1,22),(2,23),(3,3)]:=by kernel_rfl
theorem modF_at {j:Nat} {o t:Nat} (h:(#[(0,22),(1,22),(2,23),(3,3)]:Array (Nat×TypeId))[j]?=some (o,t)):∃f,(Tryz.prog.fieldsOf 25)[j]?=some f∧f.offset=o∧f.type=t:=by
 rw [←modF,Array.getElem?_map,Option.map_eq_some_iff] at h;obtain ⟨f,h1,h2⟩:=h;simp only [Prod.mk.injEq] at h2;exact ⟨f,h1,h2.1,h2.2⟩
theorem one_mod {cs:List Value} {x:DataW H×List MemPlace} (h:DataW.trod enc Tryz.prog w base sp held fuel 25 cs=some x):∃(y:Ma) (d:Md),Value.agg cs.toArray=dv y d∧Hq w y d:=by
 have hS:Tryz.prog.underlying 25=some (.struct (Tryz.prog.fieldsOf 25)):=by kernel_rfl
 have hC:Tryz.prog.cellsOf 25=4:=by kernel_rfl
 have c1:Tryz.prog.cellsOf 22=1:=by kernel_rfl
 have c2:Tryz.prog.cellsOf 23=1:=by kernel_rfl
 have c3:Tryz.prog.cellsOf 3=1:=by kernel_rfl
 obtain ⟨xs,n,_,_,hlen,hxs,hg⟩:=DataW.trod_struct hS h;rw [hC] at hlen;match cs,hlen with
 | [v0,v1,v2,v3],_ =>
  have hn:xs.length=4:=by rw [hxs];kernel_rfl
  obtain ⟨f0,a0,o0,t0⟩:=modF_at (j:=0) rfl;obtain ⟨f1,a1,o1,t1⟩:=modF_at (j:=1) rfl;obtain ⟨f2,a2,o2,t2⟩:=modF_at (j:=2) rfl;obtain ⟨f3,a3,o3,t3⟩:=modF_at (j:=3) rfl;have g0:=hg 0 f0 a0;have g1:=hg 1 f1 a1;have g2:=hg 2 f2 a2;have g3:=hg 3 f3 a3;rw [o0,t0,c1,zg7 (by omega)] at g0;rw [o1,t1,c1,zg7 (by omega)] at g1;rw [o2,t2,c2,zg7 (by omega)] at g2;rw [o3,t3,c3,zg7 (by omega)] at g3;obtain ⟨G,gc,g,rfl,hG⟩:=one_vluL (v:=v0) g0;obtain ⟨P,pc,p,rfl,hP⟩:=one_vluL (v:=v1) g1;obtain ⟨i,e3,_,w3⟩:=DataW.trod_int Tryz.underlying3 g3;simp at e3;subst e3;have b3:=bounds_i64 w3;rcases open_mets (cs:=[v2]) g2 with h0 | ⟨a,len,cap,Z,h0,hl,hr⟩
  ·simp at h0;subst h0;exact ⟨⟨G,gc,P,pc,none,0,[]⟩,⟨g,p,[],i⟩,rfl,hG,hP,Rm.none_ _,rfl,b3⟩
  ·simp at h0;subst h0 hl;exact ⟨⟨G,gc,P,pc,some a,cap,Z⟩,⟨g,p,Z.map ze,i⟩,by simp [dv],hG,hP,hr,rfl,b3⟩
theorem row_mod {cs:Array Value} {d:DataW H} {p:List MemPlace} (h:DataW.Trod enc Tryz.prog w base sp held 25 (.agg cs) d p):∃(y:Ma) (d:Md),Value.agg cs=dv y d∧Hq w y d:=by
 obtain ⟨fuel,hf⟩:=h;have:=one_mod hf;simpa [Value.cells] using this
end
end
abbrev fWM:Fct:=⟨fun w=>GW w∧GM w,fun w w' h hb=>⟨fG.keep w w' h.1 hb,h.2.keep hb⟩⟩
abbrev Lp:=Nat×Nat×Int
def wi9 (x:Lp) (p:Nat):Bool:=decide (x.1<p)&&decide (p≤x.2.1)
def K9 (x:Lp):Nat:=x.2.2.toNat
def pr9:List Lp→Nat
 | []=>1
 | x::xs=>K9 x*pr9 xs
theorem wi9_iff {x:Lp} {p:Nat}:wi9 x p=true↔x.1<p∧p≤x.2.1:=by simp [wi9]
def iO9 (l:List Ins) (p:Nat):Int:=(l[p]?.getD (0,0,0)).1
def iA9 (l:List Ins) (p:Nat):Int:=(l[p]?.getD (0,0,0)).2.1
structure Wl9 (l:List Ins) (out:List Lp):Prop where
 mem:∀x∈out,x.1<x.2.1∧x.2.1<l.length∧iO9 l x.1=28∧iO9 l x.2.1=29∧iA9 l x.2.1=x.1∧x.2.2=iA9 l x.1∧1≤x.2.2∧x.2.2≤100
 ofL:∀p,p<l.length→iO9 l p=28→∃x∈out,x.1=p
 ofA:∀p,p<l.length→iO9 l p=29→∃x∈out,x.2.1=p
 sorted:out.Pairwise (fun x y=>x.1<y.1)
 nest:∀x∈out,∀y∈out,x.1≠y.1→x.1<y.2.1→y.1<x.2.1→(wi9 y x.1=true∧wi9 y x.2.1=true)∨(wi9 x y.1=true∧wi9 x y.2.1=true)
 jump:∀p,p<l.length→iO9 l p=26∨iO9 l p=27→(p:Int)<iA9 l p∧iA9 l p<l.length∧∀x∈out,wi9 x (iA9 l p).toNat=true→wi9 x p=true
 last:iO9 l (l.length-1)=31∨iO9 l (l.length-1)=32
 pos:1≤l.length
def lq9 (out:List Lp) (q:Nat):List Lp:=out.filter fun x=>wi9 x q
theorem mem_lq9 {out:List Lp} {q:Nat} {x:Lp}:x∈lq9 out q↔x∈out∧wi9 x q=true:=by simp [lq9]
section
variable {l : List Ins} {out : List Lp} {p q : Nat}
theorem Wl9.uniq (h:Wl9 l out) {x y:Lp} (hx:x∈out) (hy:y∈out) (e:x.1=y.1):x=y:=by
 obtain ⟨-,-,-,-,h5,-⟩:=h.mem x hx;by_cases hxy:x=y
 ·exact hxy
 ·have:=h.sorted;rw [List.pairwise_iff_getElem] at this;obtain ⟨i,hi,rfl⟩:=List.getElem_of_mem hx;obtain ⟨j,hj,rfl⟩:=List.getElem_of_mem hy;rcases Nat.lt_trichotomy i j with hij | rfl | hij
  ·have:=this i j hi hj hij;omega
  ·rfl
  ·have:=this j i hj hi hij;omega
theorem Wl9.uniqT (h:Wl9 l out) {x y:Lp} (hx:x∈out) (hy:y∈out) (e:x.2.1=y.2.1):x=y:=by
 obtain ⟨-,-,-,-,h5,-⟩:=h.mem x hx;obtain ⟨-,-,-,-,k5,-⟩:=h.mem y hy;rw [e,k5] at h5;exact h.uniq hx hy (by omega)
theorem Wl9.turn (h:Wl9 l out) {x0 x:Lp} (h0:x0∈out) (hx:x∈out):wi9 x x0.2.1=wi9 x (x0.1+1):=by
 obtain ⟨m1,-⟩:=h.mem x0 h0;obtain ⟨m2,-⟩:=h.mem x hx;by_cases e:x.1=x0.1
 ·have:=h.uniq hx h0 e;subst this;rw [Bool.eq_iff_iff,wi9_iff,wi9_iff];omega
 ·rw [Bool.eq_iff_iff,wi9_iff,wi9_iff];constructor
  ·rintro ⟨a,b⟩;rcases h.nest x hx x0 h0 e (by omega) (by omega) with ⟨c,d⟩ | ⟨c,d⟩
   ·rw [wi9_iff] at d;have:=h.uniqT hx h0 (by omega);subst this;exact absurd rfl e
   ·rw [wi9_iff] at c;omega
  ·rintro ⟨a,b⟩;rcases h.nest x hx x0 h0 e (by omega) (by omega) with ⟨c,d⟩ | ⟨c,d⟩
   ·rw [wi9_iff] at c;omega
   ·rw [wi9_iff] at d;omega
def put9 (f:Nat→Nat) (p v:Nat):Nat→Nat:=fun q=>if q=p then v else f q
end
def isA9 (l:List Ins) (f p:Nat):Bool:=iO9 l p==29&&iA9 l p==(f:Int)
def agk9 (l:List Ins) (f k:Nat):List Nat:=(List.range k).filter (isA9 l f)
def lpk9 (l:List Ins) (f k:Nat):List Lp:=(agk9 l f k).map fun p=>(f,p,iA9 l f)
def lp19 (l:List Ins) (f:Nat):List Lp:=if iO9 l f=28 then lpk9 l f l.length else []
def lpU9 (l:List Ins) (k:Nat):List Lp:=(List.range k).flatMap (lp19 l)
def okF9 (l:List Ins) (f:Nat):Bool:=if iO9 l f=28 then (agk9 l f l.length).length==1&&decide (f≤(agk9 l f l.length).getLastD 0) else true
def okA9 (l:List Ins) (p:Nat):Bool:=if iO9 l p=29 then decide (iA9 l p<l.length)&&iO9 l (iA9 l p).toNat==28 else true
def okL9 (l:List Ins):Bool:=(List.range l.length).all (okF9 l)&&(List.range l.length).all (okA9 l)
def cm9 (x y:Lp):Bool:=decide (x.1<y.2.1)&&decide (y.1<x.2.1)
def is9 (x y:Lp):Bool:=wi9 y x.1&&wi9 y x.2.1
def np9 (x y:Lp):Bool:=!(cm9 x y&&(!is9 x y&&!is9 y x))
def z9:Lp:=(0,0,0)
def ns9 (out:List Lp) (n:Nat):Bool:=(List.range out.length).all (fun i=>(List.range i).all fun k=>np9 (out.getD i z9) (out.getD k z9))&&(List.range n).all fun p=>decide ((lq9 out p).length≤4)
def jp9 (l:List Ins) (out:List Lp) (p:Nat):Bool:=
 if iO9 l p=26∨iO9 l p=27 then decide ((p:Int)<iA9 l p)&&(decide (iA9 l p<l.length)&&out.all fun x=>!(wi9 x (iA9 l p).toNat&&!wi9 x p)) else true
def la9 (l:List Ins):Int:=iO9 l (l.length-1)
def flE9 (l:List Ins):Int:=
 if codM l=true then (if okL9 l=true∧ns9 (lpU9 l l.length) l.length=true∧(la9 l=31∨la9 l=32)∧(List.range l.length).all (jp9 l (lpU9 l l.length))=true then 0 else 90) else 40
def flL9 (l:List Ins):List Lp:=if flE9 l=0 then lpU9 l l.length else []
def tm9 (out:List Lp) (p:Nat):Int:=(lq9 out p).foldl (fun a x=>a*x.2.2) 1
def flT9 (l:List Ins):List Int:=if flE9 l=0 then (List.range l.length).map (tm9 (lpU9 l l.length)) else []
def wy9 (l:List Ins) (p:Nat):List Int:=
 if iO9 l p=31∨iO9 l p=32 then [] else if iO9 l p=26 then [iA9 l p] else if iO9 l p=27 then (if iA9 l p=p+1 then [iA9 l p] else [(p:Int)+1,iA9 l p]) else if iO9 l p=29 then [iA9 l p+1,(p:Int)+1] else [(p:Int)+1]
def flW9 (l:List Ins) (a:Int):List Int×Int:=if flE9 l=0 then (if a<0∨(l.length:Int)≤a then ([],2) else (wy9 l a.toNat,0)) else ([],flE9 l)
section
variable {l : List Ins}
theorem iO9_mem {p:Nat} (h:p<l.length):l[p]∈l∧iO9 l p=l[p].1∧iA9 l p=l[p].2.1:=⟨List.getElem_mem h,by simp [iO9,h],by simp [iA9,h]⟩
theorem mem_agk9 {f k p:Nat}:p∈agk9 l f k↔p<k∧iO9 l p=29∧iA9 l p=f:=by simp [agk9,isA9]
theorem mem_lpU9 {k:Nat} {x:Lp}:x∈lpU9 l k↔∃f,f<k∧iO9 l f=28∧∃p,p∈agk9 l f l.length∧x=(f,p,iA9 l f):=by
 simp only [lpU9,lp19,lpk9,List.mem_flatMap,List.mem_range];constructor
 ·rintro ⟨f,hf,hx⟩;by_cases h:iO9 l f=28
  ·rw [if_pos h,List.mem_map] at hx;obtain ⟨p,hp,rfl⟩:=hx;exact ⟨f,hf,h,p,hp,rfl⟩
  ·rw [if_neg h] at hx;cases hx
 ·rintro ⟨f,hf,h,p,hp,rfl⟩;exact ⟨f,hf,by rw [if_pos h,List.mem_map];exact ⟨p,hp,rfl⟩⟩
theorem lpU9_succ (k:Nat):lpU9 l (k+1)=lpU9 l k++lp19 l k:=by simp [lpU9,List.range_succ]
theorem inM_turns {x:Ins} (h:inM x=true) (h0:x.1=28):1≤x.2.1∧x.2.1≤100:=by
 unfold inM opM at h;rw [h0] at h;simp only [Bool.and_eq_true,decide_eq_true_eq] at h;have a:opLo 28=1:=by decide
 have b:opHi 28=100:=by decide
 rw [a,b] at h;omega
theorem inM_nn {x:Ins} (h:inM x=true):0≤x.2.1:=(opM_bd h).1
theorem okF9_one {f:Nat} (h:okF9 l f=true) (hf:iO9 l f=28):∃p,agk9 l f l.length=[p]∧f<p:=by
 rw [okF9,if_pos hf,Bool.and_eq_true,beq_iff_eq,decide_eq_true_eq] at h;obtain ⟨h1,h2⟩:=h;match hk:agk9 l f l.length,h1 with
 | [p],_ =>
  rw [hk] at h2;refine ⟨p,rfl,?_⟩;have hp:p∈agk9 l f l.length:=by rw [hk];exact List.mem_singleton.2 rfl
  rw [mem_agk9] at hp;have hne:f≠p:=fun e=>by rw [e,hp.2.1] at hf;cases hf
  simp at h2;omega
theorem sorted9 (hok:∀f,f<l.length→okF9 l f=true):∀k,k≤l.length→(lpU9 l k).Pairwise (fun x y=>x.1<y.1)
 | 0,_=>by simp [lpU9]
 | k+1,hk=>by
  rw [lpU9_succ,List.pairwise_append];refine ⟨sorted9 hok k (by omega),?_,fun x hx y hy=>?_⟩
  ·unfold lp19;split
   ·rename_i h;obtain ⟨p,hp,-⟩:=okF9_one (hok k (by omega)) h;rw [lpk9,hp];simp
   ·exact List.Pairwise.nil
  ·obtain ⟨f,hf,-,p,-,rfl⟩:=mem_lpU9.1 hx;unfold lp19 at hy;split at hy
   ·rw [lpk9,List.mem_map] at hy;obtain ⟨p2,-,rfl⟩:=hy;exact hf
   ·cases hy
theorem flE9_zero (h:flE9 l=0):codM l=true∧okL9 l=true∧ns9 (lpU9 l l.length) l.length=true∧(la9 l=31∨la9 l=32)∧(List.range l.length).all (jp9 l (lpU9 l l.length))=true:=by
 unfold flE9 at h;split at h
 ·rename_i h1;split at h
  ·rename_i h2;exact ⟨h1,h2⟩
  ·cases h
 ·cases h
theorem codM_all (h:codM l=true):1≤l.length∧l.length≤200∧∀x∈l,inM x=true:=by
 unfold codM at h;simp only [Bool.and_eq_true,decide_eq_true_eq,List.all_eq_true] at h;exact ⟨h.1.1,h.1.2,h.2⟩
theorem wl9 (h:flE9 l=0):Wl9 l (lpU9 l l.length):=by
 obtain ⟨hc,hok,hns,hla,hj⟩:=flE9_zero h;obtain ⟨c1,c2,c3⟩:=codM_all hc;rw [okL9,Bool.and_eq_true,List.all_eq_true,List.all_eq_true] at hok;have okf:∀f,f<l.length→okF9 l f=true:=fun f hf=>hok.1 f (List.mem_range.2 hf);have oka:∀p,p<l.length→okA9 l p=true:=fun p hp=>hok.2 p (List.mem_range.2 hp);rw [ns9,Bool.and_eq_true,List.all_eq_true] at hns;have hso:=sorted9 okf l.length (Nat.le_refl _);refine ⟨fun x hx=>?_,fun p hp h0=>?_,fun p hp h0=>?_,hso,fun x hx y hy hne hc1 hc2=>?_,fun p hp h0=>?_,hla,c1⟩
 ·obtain ⟨f,hf,h0,p,hp,rfl⟩:=mem_lpU9.1 hx;obtain ⟨p2,hp2,hlt⟩:=okF9_one (okf f hf) h0;rw [hp2,List.mem_singleton] at hp;subst hp;have hm:p∈agk9 l f l.length:=by rw [hp2];exact List.mem_singleton.2 rfl
  rw [mem_agk9] at hm;obtain ⟨m1,m2,m3⟩:=iO9_mem hf;have ht:=inM_turns (c3 _ m1) (by rw [←m2];exact h0);rw [←m3] at ht;exact ⟨hlt,hm.1,h0,hm.2.1,hm.2.2,rfl,ht.1,ht.2⟩
 ·obtain ⟨q,hq,-⟩:=okF9_one (okf p hp) h0;exact ⟨(p,q,iA9 l p),mem_lpU9.2 ⟨p,hp,h0,q,by rw [hq];exact List.mem_singleton.2 rfl,rfl⟩,rfl⟩
 ·have:=oka p hp;rw [okA9,if_pos h0,Bool.and_eq_true,decide_eq_true_eq,beq_iff_eq] at this;obtain ⟨m1,m2,m3⟩:=iO9_mem hp;have hnn:=inM_nn (c3 _ m1);rw [←m3] at hnn;exact ⟨((iA9 l p).toNat,p,iA9 l (iA9 l p).toNat),mem_lpU9.2 ⟨(iA9 l p).toNat,by omega,this.2,p,mem_agk9.2 ⟨hp,h0,by omega⟩,rfl⟩,rfl⟩
 ·obtain ⟨i,hi,rfl⟩:=List.getElem_of_mem hx;obtain ⟨j,hj2,rfl⟩:=List.getElem_of_mem hy
  have key:∀i j,(hi:i<(lpU9 l l.length).length)→(hj:j<(lpU9 l l.length).length)→j<i→np9 ((lpU9 l l.length)[i]) ((lpU9 l l.length)[j])=true:=fun i j hi hj hji=>by
   have a:=hns.1 i (List.mem_range.2 hi);rw [List.all_eq_true] at a;have b:=a j (List.mem_range.2 hji);rw [List.getD_eq_getElem?_getD,List.getD_eq_getElem?_getD,zg7 hi,zg7 hj] at b;exact b
  have un:∀x y:Lp,np9 x y=true→x.1<y.2.1→y.1<x.2.1→(wi9 y x.1=true∧wi9 y x.2.1=true)∨(wi9 x y.1=true∧wi9 x y.2.1=true):=fun x y hn a b=>by
   simp only [np9,cm9,is9,a,b,decide_true,Bool.true_and] at hn;revert hn;cases wi9 y x.1<;>cases wi9 y x.2.1<;>cases wi9 x y.1<;>cases wi9 x y.2.1<;>simp
  rcases Nat.lt_trichotomy i j with hij | rfl | hij
  ·exact (un _ _ (key j i hj2 hi hij) hc2 hc1).symm
  ·exact absurd rfl hne
  ·exact un _ _ (key i j hi hj2 hij) hc1 hc2
 ·rw [List.all_eq_true] at hj;have:=hj p (List.mem_range.2 hp);rw [jp9,if_pos h0,Bool.and_eq_true,Bool.and_eq_true,decide_eq_true_eq,decide_eq_true_eq,List.all_eq_true] at this;obtain ⟨a,b,c⟩:=this;refine ⟨a,b,fun x hx hw=>?_⟩;have:=c x hx;rw [hw] at this;simpa using this
theorem foldl_mul (xs:List Lp) (h:∀x∈xs,1≤x.2.2):∀a:Int,xs.foldl (fun a x=>a*x.2.2) a=a*(pr9 xs:Int):=by
 induction xs with
 | nil=>intro a;simp [pr9]
 | cons x xs ih =>
  intro a;have hx:=h x List.mem_cons_self;rw [List.foldl_cons,ih (fun y hy=>h y (List.mem_cons_of_mem _ hy)),pr9,K9];rw [Int.natCast_mul,Int.toNat_of_nonneg (by omega),Int.mul_assoc]
theorem tm9_pr {out:List Lp} (h:Wl9 l out) (p:Nat):tm9 out p=(pr9 (lq9 out p):Int):=by
 rw [tm9,foldl_mul _ (fun x hx=>(h.mem x (mem_lq9.1 hx).1).2.2.2.2.2.2.1)];simp
end
end Go.Proofs.YtnjgkkoiamiaaaaGreatDoor
