import Derived.Test.YtnjgkkoiamiaaaaGreatDoorVca26
import Derived.Test.YtnjgkkoiamiaaaaGreatDoorVca25
import Derived.Test.YtnjgkkoiamiaaaaGreatDoorVca8
import Derived.Test.YtnjgkkoiamiaaaaGreatDoorVca6
import Derived.Test.YtnjgkkoiamiaaaaGreatDoorVca4
import Derived.Test.YtnjgkkoiamiaaaaGreatDoorVca3
import Derived.Test.YtnjgkkoiamiaaaaGreatDoorVca2
import Derived.Test.YtnjgkkoiamiaaaaGreatDoorVca1
import Derived.WalkKit
import Derived.Lib.Hide
import Derived.Handy
import Derived.Laws.AppendOwnNone
import Derived.Maps.AppendAt
import Derived.Test.YtnjgkkoiamiaaaaGreatDoorChecked
import Derived.Deep.QuietTactic
import Derived.BigQuiet
import Derived.Deep.DeepCutAuto
import Derived.Deep.RegionHeld3
import Derived.WalkSpells
import Derived.Laws.ComplexArith
import Derived.Below
import Derived.WalkLawsBesides
import Derived.Deep.RegionWith
import Derived.Laws.StructEq
import Derived.Lib.Bytes
import Derived.OwnWalk
import Derived.Laws.OwnMore
import Derived.Test.YtnjgkkoiamiaaaaGreatDoorVca5
import Derived.Deep.WholeRow
import Derived.ArgAppend
import Derived.Test.YtnjgkkoiamiaaaaGreatDoorVca7
import Derived.RangeFuncBox
import Derived.RangeFuncLeaves
import Derived.RangeFuncCalls
import Derived.RangeFuncRecord
import Derived.Shelf.RegionOpen
import Derived.OwnWalkIn
import Derived.TacticsInMore
import Derived.LoopNIn
import Derived.LoopIn
import Derived.Test.YtnjgkkoiamiaaaaGreatDoorVca20
import Derived.Test.YtnjgkkoiamiaaaaGreatDoorVca16
import Derived.Test.YtnjgkkoiamiaaaaGreatDoorVca9
import Derived.Maps.OwnSet
import Derived.Maps.OwnOps
import Derived.WalkSmall
import Derived.Test.YtnjgkkoiamiaaaaGreatDoorVca14
import Derived.Test.YtnjgkkoiamiaaaaGreatDoorVca11
import Derived.Laws.Cover3
import Derived.Test.YtnjgkkoiamiaaaaGreatDoorVca10
import Derived.Shelf.Sort.Plain
import Derived.Shelf.Bits.Mul64
import Derived.Ground.Names2Prog
import Derived.Shelf.Slices.CompactI
import Derived.Shelf.Slices.Cells
import Derived.Shelf.Slices.In.SortNone
import Derived.Test.YtnjgkkoiamiaaaaGreatDoorProg
import Derived.Laws.CopyOwn
import Derived.Deep.RegionLaw
import Derived.Sort.OwnSortedInts
import Derived.Lib.RowBridge
import Derived.Laws.Rows
import Derived.Laws.ResultCell
import Derived.Test.YtnjgkkoiamiaaaaGreatDoorVca13
import Derived.Test.YtnjgkkoiamiaaaaGreatDoorVca12
import Derived.Shelf.Abstract
import Derived.Lib.AppendZeros
import Derived.Test.YtnjgkkoiamiaaaaGreatDoorVca15
import Derived.Test.YtnjgkkoiamiaaaaGreatDoorVca19
import Derived.Test.YtnjgkkoiamiaaaaGreatDoorVca18
import Derived.Test.YtnjgkkoiamiaaaaGreatDoorVca17
import Derived.Maps.Ext
import Derived.Test.YtnjgkkoiamiaaaaGreatDoorVca21
import Derived.Conc.LoneCalls
import Derived.Conc.LoneSelectN
import Derived.Test.YtnjgkkoiamiaaaaGreatDoorVca24
import Derived.Test.YtnjgkkoiamiaaaaGreatDoorVca23
import Derived.Test.YtnjgkkoiamiaaaaGreatDoorVca22
import Derived.Recover
import Derived.Laws.Pointers
import Derived.Laws.EntriesVeiled
import Derived.Deep.CutRange
import Derived.Deep.CutBlock
set_option maxRecDepth 100000
set_option maxHeartbeats 16000000
set_option linter.unusedSimpArgs false
set_option linter.unusedVariables false
namespace Go.Proofs.YtnjgkkoiamiaaaaGreatDoor
open Go.RowKit
def al14 (d:Md):Bool:=qE d==0&&!mi14 d
def wl14 (d:Md):Bool:=!al14 d||er12 d d.s.length==0
def so14 (d:Md):Bool:=(ro11 d).2==0&&((co12 d).2==0&&ch13 d==0)
theorem ve14_e (d:Md):((ve14 d).1==0)=(al14 d&&(wl14 d&&so14 d)):=by
 rw [Bool.eq_iff_iff,beq_iff_eq,ve14_zero,wl14];unfold al14 so14;cases hm:mi14 d<;>by_cases hq:qE d=0<;>simp [hq,and_assoc]
theorem ve14_b (d:Md):decide (0≤(ve14 d).2.1)=(al14 d&&!wl14 d):=by
 rw [Bool.eq_iff_iff,decide_eq_true_eq,ve14_bl,wl14];unfold al14;cases hm:mi14 d<;>by_cases hq:qE d=0<;>simp [hq]
def wk14 (d:Md) (k:Nat):Bool:=er12 d k==0
theorem wk14_step {d:Md} {k:Nat}:wk14 d (k+1)=(wk14 d k&&(rw10s d k).2==0):=by
 unfold wk14;rw [er12];by_cases h:er12 d k=0
 ·rw [if_pos h,h];rfl
 ·rw [if_neg h];have:(er12 d k==0)=false:=by simpa using h
  rw [this];rfl
theorem all14_walk (y:Ma) (d:Md) (w:World) (hw:fWM.p w) (hq:Hq w y d):Calls Tryz.prog 5 #[dv y d] w fun e w'=>e=.returned (.bool true)∧Below w.heap.size w w':=by
 have hzl:=hq.zlen;have HZA:=zhy (fun (i:Nat) (h1:i<y.Z.length) (h2:i<d.s.length)=>hq.zat h1 h2);have hsl:=hq.2.2.1.len;have HIB:=zhy hq.2.2.2.2;have S0:=zhy ((((Sx.start w).add fWM hw).add (fQm y d) hq).mkD y d);obtain ⟨B,hB⟩:∃B,w.heap.size=B:=⟨_,rfl⟩;rw [hB] at S0;clear hw hq;go_enter Tryz.func5,Tryz.ntmps5;go_upto_region 1 with (fail);change Code.wp _ _ _ _ (w.alloc (dcel y d));clear hB;generalize w.alloc (dcel y d)=w1 at S0 ⊢;go_wp2_with fail;refine (awake14_v w1 S0.out.2.2.2.1).mono ?_;rintro e w2 ⟨rfl,hb⟩;have S2:=zhy (S0.out.call hb);clear hb S0;obtain ⟨-,⟨d0,d1,d2,d3,d4⟩,-⟩:=S2.out;go_wp2_with fail;refine (great8_v y d w2 S2.out.2.2.1).mono ?_;rintro e w3 ⟨rfl,hb⟩;have S3:=zhy (S2.out.call hb);clear hb S2 d0 d1 d2 d3 d4;obtain ⟨v,hv⟩:∃v,qG d=v:=⟨_,rfl⟩;have HG:=zhy hv;rw [hv];clear hv;cases v with
 | true =>
  go_wp2_with fail;go_ret;exact ⟨rfl,S3.out.1⟩
 | false =>
 have HBD:=zhy (qG_b12 HG.out);obtain ⟨-,⟨d0,d1,d2,d3,d4⟩,-⟩:=S3.out;go_wp2_with fail;refine (kmmay y d w3 S3.out.2.2.2.1 S3.out.2.2.1 HG.out).mono ?_;rintro e w4 ⟨rfl,hb⟩;have S4:=zhy (S3.out.call hb);clear hb S3 d0 d1 d2 d3 d4;obtain ⟨a0,ha0⟩:∃a0,(qE d==0)=a0:=⟨_,rfl⟩;have HA0:=zhy ha0;go_upto_region 6 with (fail);try rw [ha0]
 clear ha0;obtain ⟨-,⟨d0,d1,d2,d3,d4⟩,-⟩:=S4.out;go_cut [27] from 19 to 26 (fun s wx=>s=.bool false∧w4=wx)
 case first =>
  cases a0 with
  | false =>
   go_wp2_with fail;go_meet;exact ⟨rfl,rfl⟩
  | true =>
   have hqe:qE d=0:=by simpa using HA0.out
   obtain ⟨-,-,q3,q4,-⟩:=qE_parts hqe;have hnge:¬(d.s.length:Int)≤d.i:=by omega
   clear hqe q3;go_wp2_with fail;go_meet;exact ⟨rfl,rfl⟩
 case rest =>
 obtain ⟨rfl,rfl⟩:=hcut;obtain ⟨a,ha⟩:∃a,al14 d=a:=⟨_,rfl⟩;have HA:=zhy ha;clear ha;go_upto_region 8 with (fail);obtain ⟨v8,hv8⟩:∃v8,(a0&&decide (0≤d.i))=v8:=⟨_,rfl⟩;have HV8:=zhy hv8;clear hv8;go_cut [33] from 28 to 32 (fun s wx=>s=.bool v8∧w4=wx)
 case first =>
  cases a0 with
  | false =>
   have hv:v8=false:=by rw [←HV8.out];rfl
   go_wp2_with fail;go_meet;exact ⟨by rw [hv],rfl⟩
  | true =>
   have hv:=HV8.out;rw [Bool.true_and] at hv;go_wp2_with fail;go_meet;exact ⟨by rw [←hv],rfl⟩
 case rest =>
 obtain ⟨rfl,rfl⟩:=hcut;go_upto_if 33 with (fail);go_cut [3] from 34 to 40 (fun s wx=>s=.bool a∧Hid (Sx w wx [fD B y d,fQm y d,fWM]))
 case first =>
  cases a0 with
  | false =>
   have haf:a=false:=by rw [←HA.out,al14,HA0.out];rfl
   subst haf;obtain rfl:v8=false:=by rw [←HV8.out];rfl
   go_wp2_with fail;go_meet;exact ⟨rfl,S4⟩
  | true =>
   have hqe:qE d=0:=by simpa using HA0.out
   by_cases hi:0≤d.i
   ·obtain rfl:v8=true:=by rw [←HV8.out];simpa using hi
    obtain ⟨-,-,q3,q4,-⟩:=qE_parts hqe;obtain ⟨i,hii⟩:∃i:Nat,d.i=i:=⟨d.i.toNat,by omega⟩;have hil:i<d.s.length:=by omega
    have hiz:i<y.Z.length:=by omega
    have hslen:(i:Int)<(d.s.length:Int):=by omega
    obtain ⟨ad,hA,hat,hok⟩:=S4.out.2.2.1.2.2.1.at_ hiz;have hza:=HZA.out i hiz hil
    have HMG:Hid (mG (y.Z[i]).m=a):=by
     have e1:me10 d d.i.toNat=(y.Z[i]).m:=by rw [me10,hii,Int.toNat_natCast,zg7 hil,Option.getD_some,hza]
     have e2:=mi14_mG hqe hi;rw [e1] at e2;rw [Hid,e2,←HA.out,al14,HA0.out];rfl
    have HOK:=zhy hok.1;generalize y.Z[i]=z at HMG HOK hat;obtain ⟨⟨XA,xc,XB,xd,XD,xk,xe⟩,m,K⟩:=z;obtain ⟨a0,a1,a2,a3,a4,a5,a6,a7⟩:=hat;rw [hii] at d4;rw [hA] at d3;dsimp only at a0 a1 a2 a3 a4 a5 a6 a7 HMG HOK;have HC:=zhy (mmig_v ⟨XA,xc,XB,xd,XD,xk,xe⟩ m a w4 HOK.out S4.out.2.2.2.1.2 HMG.out);clear hok hza q3 q4 hqe hi hii hA hil hiz;go_wp2_with fail;refine HC.out.mono ?_;rintro e w5 ⟨rfl,hb⟩;have S5:=zhy (S4.out.call hb);clear hb;go_wp2_with fail;go_meet;exact ⟨rfl,S5⟩
   ·have haf:a=true:=by rw [←HA.out,al14,HA0.out,mi14_none hqe hi];rfl
    subst haf;obtain rfl:v8=false:=by rw [←HV8.out];simpa using hi
    clear hqe;go_wp2_with fail;go_meet;exact ⟨rfl,S4⟩
 case rest =>
 obtain ⟨rfl,S5⟩:=hcut;clear S4 d0 d1 d2 d3 d4 HA0;have hnl:d.s.length≤40:=HBD.out.1;have HZN:=zhy hzl;clear hzl hsl;obtain ⟨wl,hwl⟩:∃wl,wl14 d=wl:=⟨_,rfl⟩;have HWL:=zhy hwl;clear hwl;go_upto_block 0 with fail;go_cut [4,5] from 41 to 67 (fun s u wx=>s=.bool wl∧Hid (Sx w wx [fD B y d,fQm y d,fWM]))
 case first =>
  go_wp2_with fail;go_loopw [4,5] (fun s i wq=>∃(k:Nat) (v:Bool),k≤d.s.length∧i=.int .i64 k∧s=.bool v∧Hid (Sx w wq [fD B y d,fQm y d,fWM])∧Hid (v=wk14 d k)∧Hid (a=false→k=0)) (fun _ i _=>d.s.length-(intOf i).toNat)
  case atStart=>exact ⟨0,true,by omega,rfl,rfl,S5,rfl,zhy fun _=>rfl⟩
  case round =>
   obtain ⟨k,v,hk,rfl,rfl,SQ,HV,HK0⟩:=hrel;clear S5;obtain ⟨-,⟨d0,d1,d2,d3,d4⟩,-⟩:=SQ.out;cases a with
   | false =>
    have hvw:v=wl:=by rw [HV.out,HK0.out rfl,←HWL.out,wl14,HA.out];rfl
    subst hvw;go_wp2_with fail;go_meet;exact ⟨rfl,SQ⟩
   | true =>
    by_cases hkn:k<d.s.length
    ·have hkz:k<y.Z.length:=by rw [HZN.out];exact hkn
     obtain ⟨ad,hA,hat,hok⟩:=SQ.out.2.2.1.2.2.1.at_ hkz;have hza:=HZA.out k hkz hkn
     have HFL:Hid (co11 d k=(y.Z[k]).k):=by
      rw [Hid,co11,zg7 hkn,Option.getD_some,hza]
     have HKL:Hid ((y.Z[k]).k.length≤300):=by
      have h2:=HBD.out.2 (d.s[k]'hkn) (List.getElem_mem _);rw [hza] at h2;exact h2.2.2
     have HOK:=zhy hok.2;generalize y.Z[k]=z at HFL HOK HKL hat;obtain ⟨⟨XA,xc,XB,xd,XD,xk,xe⟩,m,K⟩:=z;obtain ⟨-,-,-,-,-,-,-,a7⟩:=hat;rw [hA] at d3;dsimp only at a7 HFL HOK HKL;obtain ⟨v2,hv2⟩:∃v2,wk14 d (k+1)=v2:=⟨_,rfl⟩;have HV2:=zhy hv2;have HC1:Hid (∀wq,Ri wq XD xe K→Calls Tryz.prog 23 #[.slice XD xk xe] wq fun r w'=>r=.returned (.int .i64 (flE9 K))∧Below wq.heap.size wq w'):=zhy fun wq hr=>kfcheck XD xe xk K wq hr HOK.out.2 (by rw [←HOK.out.2];exact HKL.out);have HC2:Hid (∀wq,Sx w wq [fD B y d,fQm y d,fWM]→Calls Tryz.prog 24 #[dv y d,.int .i64 k] wq fun r w'=>r=.returned (.int .i64 (rw10s d k).2)∧Below wq.heap.size wq w'):=zhy fun wq hs=>ktcheck fWM y d k wq hs.2.2.2.1 hs.2.2.1 HG.out;have HNX:=zhy (wk14_step (d:=d) (k:=k));have HRF:Hid ((rw10s d k).2=0→flE9 K=0):=zhy fun h=>by rw [←HFL.out];exact rw10s_flow h
     clear hok hza hv2;cases v with
     | false =>
      have hv2f:v2=false:=by rw [←HV2.out,HNX.out,←HV.out];rfl
      subst hv2f;go_wp2_with fail;go_roundw
      case rel=>exact ⟨k+1,false,by omega,by go_num,rfl,SQ,HV2.out.symm,zhy fun h=>by cases h⟩
      case measure=>simp [intOf];omega
     | true =>
      go_wp2_with fail;refine (HC1.out _ HOK.out.1).mono ?_;rintro r w5 ⟨rfl,hb⟩;have S6:=zhy (SQ.out.call hb);clear hb SQ d0 d1 d2 d3 d4 a7 hA;obtain ⟨-,⟨d0,d1,d2,d3,d4⟩,-⟩:=S6.out;obtain ⟨E,hE⟩:∃E,(rw10s d k).2=E:=⟨_,rfl⟩;rw [hE] at HC2 HNX HRF;by_cases hf:flE9 K=0
      ·rw [hf];go_wp2_with fail;refine (HC2.out _ S6.out).mono ?_;rintro r w6 ⟨rfl,hb⟩;have S7:=zhy (S6.out.call hb);clear hb S6 d0 d1 d2 d3 d4;have hv2f:(E==0)=v2:=by rw [←HV2.out,HNX.out,←HV.out];rfl
       go_wp2_with fail;go_roundw
       case rel=>exact ⟨k+1,v2,by omega,by go_num,by first | rfl | trivial | (rw [hv2f]),S7,HV2.out.symm,zhy fun h=>by cases h⟩
       case measure=>simp [intOf];omega
      ·have hne:(flE9 K==0)=false:=by simpa using hf
       have hv2f:v2=false:=by
        rw [←HV2.out,HNX.out,←HV.out]
        have:(E==0)=false:=by
         by_cases h0:E=0
         ·exact absurd (HRF.out h0) hf
         ·simpa using h0
        rw [this];rfl
       subst hv2f;clear hf;generalize flE9 K=FE at hne ⊢;go_wp2_with fail;go_roundw
       case rel=>exact ⟨k+1,false,by omega,by go_num,rfl,S6,HV2.out.symm,zhy fun h=>by cases h⟩
       case measure=>simp [intOf];omega
    ·have hkn2:k=d.s.length:=by omega
     have hvw:v=wl:=by rw [HV.out,←HWL.out,wl14,HA.out,wk14,hkn2];rfl
     have hkn3:¬(k:Int)<(d.s.length:Int):=by omega
     clear hkn2;subst hvw;go_wp2_with fail;go_meet;exact ⟨rfl,SQ⟩
 case rest =>
 obtain ⟨rfl,S6⟩:=hcut;clear S5;obtain ⟨so,hso⟩:∃so,so14 d=so:=⟨_,rfl⟩;have HSO:=zhy hso;clear hso;have HC1:Hid (∀wq,Sx w wq [fD B y d,fQm y d,fWM]→Calls Tryz.prog 25 #[dv y d] wq fun r w'=>r=.returned (.int .i64 (ro11 d).2)∧Below wq.heap.size wq w'):=zhy fun wq hs=>check11_v y d wq hs.2.2.1 (by have:=HBD.out.1;omega) (fun z hz=>by have:=HBD.out.2 z hz;omega);have HC2:Hid (∀wq,Sx w wq [fD B y d,fQm y d,fWM]→Calls Tryz.prog 26 #[dv y d] wq fun r w'=>r=.returned (.int .i64 (co12 d).2)∧Below wq.heap.size wq w'):=zhy fun wq hs=>check12_v y d wq hs.2.2.1 HG.out;have HC3:Hid (∀wq,Sx w wq [fD B y d,fQm y d,fWM]→Calls Tryz.prog 27 #[dv y d] wq fun r w'=>r=.returned (.int .i64 (ch13 d))∧Below wq.heap.size wq w'):=zhy fun wq hs=>check13_v y d wq hs.2.2.1 (by have:=HBD.out.1;omega) (fun z hz=>by have:=HBD.out.2 z hz;omega);go_upto_region 15 with (fail);go_cut [6] from 68 to 80 (fun s wx=>s=.bool so∧Hid (Sx w wx [fD B y d,fQm y d,fWM]))
 case first =>
  have HSQ:Hid (so=((ro11 d).2==0&&((co12 d).2==0&&ch13 d==0))):=HSO.out.symm;obtain ⟨-,⟨d0,d1,d2,d3,d4⟩,-⟩:=S6.out;go_wp2_with fail;refine (HC1.out _ S6.out).mono ?_;rintro r w6 ⟨rfl,hb⟩;have S7:=zhy (S6.out.call hb);clear hb S6 d0 d1 d2 d3 d4;generalize (ro11 d).2=E1 at HSQ HC1 ⊢;by_cases h1:E1=0
  ·subst h1;obtain ⟨-,⟨d0,d1,d2,d3,d4⟩,-⟩:=S7.out;go_wp2_with fail;refine (HC2.out _ S7.out).mono ?_;rintro r w7 ⟨rfl,hb⟩;have S8:=zhy (S7.out.call hb);clear hb S7 d0 d1 d2 d3 d4;generalize (co12 d).2=E2 at HSQ HC2 ⊢;by_cases h2:E2=0
   ·subst h2;obtain ⟨-,⟨d0,d1,d2,d3,d4⟩,-⟩:=S8.out;go_wp2_with fail;refine (HC3.out _ S8.out).mono ?_;rintro r w8 ⟨rfl,hb⟩;have S9:=zhy (S8.out.call hb);clear hb S8 d0 d1 d2 d3 d4;generalize ch13 d=E3 at HSQ HC3 ⊢;go_wp2_with fail;go_meet;exact ⟨by rw [HSQ.out];rfl,S9⟩
   ·have hne:(E2==0)=false:=by simpa using h2
    go_wp2_with fail;go_meet;exact ⟨by rw [HSQ.out,hne];rfl,S8⟩
  ·have hne:(E1==0)=false:=by simpa using h1
   go_wp2_with fail;go_meet;exact ⟨by rw [HSQ.out,hne];rfl,S7⟩
 case rest =>
 obtain ⟨rfl,S7⟩:=hcut;clear S6 HC1 HC2 HC3;have HE:=zhy (ve14_e d);have HBB:=zhy (ve14_b d);rw [HA.out,HWL.out,HSO.out] at HE;rw [HA.out,HWL.out] at HBB;have HOKV:=zhy (fun h=>ve14_ok (d:=d) h);have HNOV:=zhy (fun h=>ve14_no (d:=d) h);have HERR:=zhy (ve14_errs d);have HBLM:=zhy (fun h=>ve14_blame (d:=d) h);obtain ⟨X,hX⟩:∃X,ve14 d=X:=⟨_,rfl⟩;obtain ⟨e,b,L⟩:=X;have HX:=zhy hX
 have HCA:Hid (∀wq,Sx w wq [fD B y d,fQm y d,fWM]→Calls Tryz.prog 12 #[dv y d] wq fun r w'=>Ac14 wq w' L e r):=zhy fun wq hs=>by
  have:=accept14_v y d wq hs.2.2.2.1 hs.2.2.1 HG.out;rw [HX.out] at this;exact this
 have HCB:Hid (∀wq,Sx w wq [fD B y d,fQm y d,fWM]→Calls Tryz.prog 15 #[dv y d] wq fun r w'=>r=.returned (.int .i64 b)∧Below wq.heap.size wq w'):=zhy fun wq hs=>by
  have:=blame14_v y d wq hs.2.2.2.1 hs.2.2.1 HG.out;rw [HX.out] at this;exact this
 have HCM:Hid (∀wq,Sx w wq [fD B y d,fQm y d,fWM]→Calls Tryz.prog 13 #[dv y d] wq fun r w'=>r=.returned (.int .i64 e)∧Below wq.heap.size wq w'):=zhy fun wq hs=>by
  have:=vmay14_v y d wq hs.2.2.2.1 hs.2.2.1 HG.out;rw [HX.out] at this;exact this
 rw [hX] at HE HBB HOKV HNOV HERR HBLM;dsimp only at HE HBB HOKV HNOV HERR HBLM;clear hX;obtain ⟨-,⟨d0,d1,d2,d3,d4⟩,-⟩:=S7.out;go_wp2_with fail;refine (HCA.out _ S7.out).mono ?_;rintro r w8 ⟨A,c,rfl,ho,hb⟩;have S8:=zhy ((S7.out.call hb).add (fRg ce3 3 A c L) (Rg.of_own ce3_len (by decide) ho).1);clear hb ho S7 d0 d1 d2 d3 d4;have HS8:=zhy (fun wq (h:Sx w wq [fRg ce3 3 A c L,fD B y d,fQm y d,fWM])=>(⟨h.1,h.2.2⟩:Sx w wq [fD B y d,fQm y d,fWM]));obtain ⟨-,-,⟨d0,d1,d2,d3,d4⟩,-⟩:=S8.out;go_wp2_with fail;refine (HCB.out _ (HS8.out _ S8.out)).mono ?_;rintro r w9 ⟨rfl,hb⟩;have S9:=zhy (S8.out.call hb);clear hb S8 d0 d1 d2 d3 d4;obtain ⟨-,-,⟨d0,d1,d2,d3,d4⟩,-⟩:=S9.out;go_upto_region 18 with (fail);go_cut [113] from 88 to 112 (fun s wx=>s=.bool false∧Hid (Sx w wx [fRg ce3 3 A c L,fD B y d,fQm y d,fWM]))
 case first =>
  have he:=HE.out;have hbb:=HBB.out;have hee:(e != e)=false:=by simp
  cases a<;>cases wl<;>cases so
  all_goals
   simp only [Bool.false_and,Bool.true_and,Bool.and_false,Bool.and_true,Bool.not_true,Bool.not_false] at he hbb
   go_wp2_with fail
   refine (HCM.out _ (HS8.out _ S9.out)).mono ?_
   rintro r w10 ⟨rfl,hb⟩
   have S10:=zhy (S9.out.call hb)
   clear hb
   go_wp2_with fail
   go_meet
   exact ⟨rfl,S10⟩
 case rest =>
 obtain ⟨rfl,S10⟩:=hcut;clear S9 d0 d1 d2 d3 d4 HE HBB;obtain ⟨-,-,⟨d0,d1,d2,d3,d4⟩,-⟩:=S10.out;by_cases hb0:0≤b
 ·obtain ⟨k,h1,h2,h3,h4⟩:=HBLM.out hb0;subst h1;have hlt:¬(d.s.length:Int)≤(k:Int):=by omega
  have hee:(e != e)=false:=by simp
  have hne:(e != 0)=true:=by simpa using h4
  have HL:=HNOV.out h4;have HL:=zhy HL
  have HC2:Hid (∀wq,Sx w wq [fD B y d,fQm y d,fWM]→Calls Tryz.prog 24 #[dv y d,.int .i64 k] wq fun r w'=>r=.returned (.int .i64 e)∧Below wq.heap.size wq w'):=zhy fun wq hs=>by
   have:=ktcheck fWM y d k wq hs.2.2.2.1 hs.2.2.1 HG.out;rw [h3] at this;exact this
  obtain ⟨e1,e4⟩:=HERR.out;have hn1:(e != 1)=true:=by simpa using e1
  have hn4:(e != 4)=true:=by simpa using e4
  clear h3 h2 h4 hb0 e1 e4;obtain rfl:=HL.out;go_wp2_with fail;refine (HC2.out _ (HS8.out _ S10.out)).mono ?_;rintro r w11 ⟨rfl,hb⟩;have S11:=zhy (S10.out.call hb);clear hb;go_wp2_with fail;go_ret;exact ⟨rfl,S11.out.1⟩
 ·by_cases he:e=0
  ·subst he;have HL:=HOKV.out rfl;injection HL with h1 h2;injection h2 with h2 h3;have HL3:=zhy h3
   have HCC:Hid (∀wq,Sx w wq [fD B y d,fQm y d,fWM]→Calls Tryz.prog 28 #[dv y d] wq fun r w'=>Ac14 wq w' L 0 r):=zhy fun wq hs=>by
    have h:=costs12_v y d wq hs.2.2.1 HG.out;have h5:=(ve14_zero (d:=d)).1 (by rw [HX.out]);have h6:=co12_ok h5.2.2.2.2.1;have h7:co12 d=(L,0):=by rw [HL3.out,←h6.2.2.2,←h5.2.2.2.2.1]
    unfold Co12 at h;rw [h7] at h;exact h
   have hLn:L.length≤40:=by rw [HL3.out,cs12_len];have:=HBD.out.1;omega
   have HLN:=zhy hLn;clear h1 h2 h3 hLn;go_wp2_with fail;refine (HCC.out _ (HS8.out _ S10.out)).mono ?_;rintro r w11 ⟨A2,c2,rfl,ho,hb⟩;have S11:=zhy ((S10.out.call hb).add (fRg ce3 3 A2 c2 L) (Rg.of_own ce3_len (by decide) ho).1);clear hb ho;have HCS:=zhy (r12same_v A A2 c c2 L.length L w11 S11.out.2.2.1 S11.out.2.1 rfl (by have:=HLN.out;omega));generalize L.length=ll at HCS ⊢;go_wp2_with fail;refine HCS.out.mono ?_;rintro r w12 ⟨rfl,hb⟩;have S12:=zhy (S11.out.call hb);clear hb;go_wp2_with fail;go_ret;exact ⟨rfl,S12.out.1⟩
  ·have hne:(e != 0)=true:=by simpa using he
   have HL:=HNOV.out he;have HL:=zhy HL;obtain ⟨e1,e4⟩:=HERR.out;have hn1:(e != 1)=true:=by simpa using e1
   have hn4:(e != 4)=true:=by simpa using e4
   clear he e1 e4;obtain rfl:=HL.out;go_wp2_with fail;go_ret;exact ⟨rfl,S10.out.1⟩
end Go.Proofs.YtnjgkkoiamiaaaaGreatDoor
