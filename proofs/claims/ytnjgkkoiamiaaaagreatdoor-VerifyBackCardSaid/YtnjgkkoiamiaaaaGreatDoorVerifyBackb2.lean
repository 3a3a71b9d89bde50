import Derived.Test.YtnjgkkoiamiaaaaGreatDoorVca26
import Derived.Test.YtnjgkkoiamiaaaaGreatDoorVca25
import Derived.Test.YtnjgkkoiamiaaaaGreatDoorVca8
import Derived.Test.YtnjgkkoiamiaaaaGreatDoorVca6
import Derived.Test.YtnjgkkoiamiaaaaGreatDoorVerifyBackb1
import Derived.Test.YtnjgkkoiamiaaaaGreatDoorVca4
import Derived.Test.YtnjgkkoiamiaaaaGreatDoorVca5
import Derived.Test.YtnjgkkoiamiaaaaGreatDoorVca2
import Derived.Lib.Bytes
import Derived.Deep.WholeRow
import Derived.ArgAppend
import Derived.Test.YtnjgkkoiamiaaaaGreatDoorVca7
import Derived.Test.YtnjgkkoiamiaaaaGreatDoorVca1
import Derived.Test.YtnjgkkoiamiaaaaGreatDoorVca3
import Derived.OwnWalk
import Derived.Laws.OwnMore
import Derived.RangeFuncBox
import Derived.RangeFuncLeaves
import Derived.RangeFuncCalls
import Derived.RangeFuncRecord
import Derived.Shelf.RegionOpen
import Derived.OwnWalkIn
import Derived.TacticsInMore
import Derived.LoopNIn
import Derived.LoopIn
import Derived.Test.YtnjgkkoiamiaaaaGreatDoorVca20
import Derived.Test.YtnjgkkoiamiaaaaGreatDoorVca16
import Derived.Test.YtnjgkkoiamiaaaaGreatDoorVca9
import Derived.Maps.OwnSet
import Derived.Maps.OwnOps
import Derived.BigQuiet
import Derived.WalkSmall
import Derived.Test.YtnjgkkoiamiaaaaGreatDoorVca14
import Derived.Test.YtnjgkkoiamiaaaaGreatDoorVca11
import Derived.Laws.Cover3
import Derived.Test.YtnjgkkoiamiaaaaGreatDoorVca10
import Derived.Shelf.Sort.Plain
import Derived.Shelf.Bits.Mul64
import Derived.Ground.Names2Prog
import Derived.Shelf.Slices.CompactI
import Derived.Shelf.Slices.Cells
import Derived.Shelf.Slices.In.SortNone
import Derived.Test.YtnjgkkoiamiaaaaGreatDoorProg
import Derived.Laws.CopyOwn
import Derived.Deep.RegionLaw
import Derived.Sort.OwnSortedInts
import Derived.Lib.RowBridge
import Derived.Laws.Rows
import Derived.Laws.ResultCell
import Derived.Test.YtnjgkkoiamiaaaaGreatDoorVca13
import Derived.Test.YtnjgkkoiamiaaaaGreatDoorVca12
import Derived.Shelf.Abstract
import Derived.Lib.AppendZeros
import Derived.Test.YtnjgkkoiamiaaaaGreatDoorVca15
import Derived.Test.YtnjgkkoiamiaaaaGreatDoorVca19
import Derived.Test.YtnjgkkoiamiaaaaGreatDoorVca18
import Derived.Test.YtnjgkkoiamiaaaaGreatDoorVca17
import Derived.Maps.AppendAt
import Derived.Maps.Ext
import Derived.Test.YtnjgkkoiamiaaaaGreatDoorVca21
import Derived.Conc.LoneCalls
import Derived.Conc.LoneSelectN
import Derived.Test.YtnjgkkoiamiaaaaGreatDoorVca24
import Derived.Test.YtnjgkkoiamiaaaaGreatDoorVca23
import Derived.Test.YtnjgkkoiamiaaaaGreatDoorVca22
import Derived.Recover
import Derived.Laws.Pointers
import Derived.Laws.EntriesVeiled
import Derived.Deep.CutRange
set_option maxRecDepth 100000
set_option maxHeartbeats 16000000
set_option linter.unusedSimpArgs false
set_option linter.unusedVariables false
namespace Go.Proofs.YtnjgkkoiamiaaaaGreatDoor
open Go.RowKit
theorem back14_walk (y:Ma) (d:Md) (A:Option Addr) (c n:Nat) (l:List Int) (w:World) (hw:fWM.p w) (hq:Hq w y d) (hr:Rd w A c l) (hn:l.length=n):Calls Tryz.prog 6 #[dv y d,.slice A n c] w fun e w'=>e=.returned (.bool true)∧Below w.heap.size w w':=by
 have hnb:n≤9223372036854775807:=by have:=hr.len;omega
 have HBY:=zhy hr.byt;have HN:=zhy hn;obtain ⟨B,hB⟩:∃B,w.heap.size=B:=⟨_,rfl⟩;have S0:=zhy ((((Sx.start w).add fWM hw).add (fQm y d) hq).add (fR A c l) hr |>.mkD y d);rw [hB] at S0;clear hw hq hr hn;go_enter Tryz.func6,Tryz.ntmps6;go_upto_region 1 with (fail);change Code.wp _ _ _ _ (w.alloc (dcel y d));clear hB;generalize w.alloc (dcel y d)=w1 at S0 ⊢;go_wp2_with fail;refine (awake14_v w1 S0.out.2.2.2.2.1).mono ?_;rintro e w2 ⟨rfl,hb⟩;have S2:=zhy (S0.out.call hb);clear hb S0;obtain ⟨-,⟨d0,d1,d2,d3,d4⟩,-⟩:=S2.out;go_wp2_with fail;refine (great8_v y d w2 S2.out.2.2.2.1).mono ?_;rintro e w3 ⟨rfl,hb⟩;have S3:=zhy (S2.out.call hb);clear hb S2 d0 d1 d2 d3 d4;obtain ⟨v,hv⟩:∃v,qG d=v:=⟨_,rfl⟩;have HG:=zhy hv;rw [hv];clear hv;cases v with
 | true =>
  go_wp2_with fail;go_ret;exact ⟨rfl,S3.out.1⟩
 | false =>
 by_cases h3:3000<n
 ·have h3i:(3000:Int)<(n:Int):=by omega
  go_wp2_with fail;go_ret;exact ⟨rfl,S3.out.1⟩
 have h3i:¬(3000:Int)<(n:Int):=by omega
 have HLO:=zhy (fun h=>ve14_ok (d:=d) h);have HZE:=zhy (fun h=>(ve14_zero (d:=d)).1 h);obtain ⟨X,hX⟩:∃X,ve14 d=X:=⟨_,rfl⟩;obtain ⟨e,b,L⟩:=X;have HX:=zhy hX;have HBD:=zhy (qG_b12 HG.out).1
 have HLL:Hid (e=0→L.length≤40):=zhy fun h=>by
  have h2:=HLO.out (by rw [hX];exact h);rw [hX] at h2;injection h2 with h2 h4;injection h4 with h4 h5;rw [h5,cs12_len];exact HBD.out
 have HCA:Hid (∀wq,Sx w wq [fD B y d,fR A c l,fQm y d,fWM]→Calls Tryz.prog 12 #[dv y d] wq fun r w'=>Ac14 wq w' L e r):=zhy fun wq hs=>by
  have:=accept14_v y d wq hs.2.2.2.2.1 hs.2.2.2.1 HG.out;rw [HX.out] at this;exact this
 clear hX;obtain ⟨-,⟨d0,d1,d2,d3,d4⟩,-⟩:=S3.out;go_wp2_with fail;refine (HCA.out _ S3.out).mono ?_;rintro r w4 ⟨A1,c1,rfl,ho,hb⟩;have S4:=zhy ((S3.out.call hb).add (fRg ce3 3 A1 c1 L) (Rg.of_own ce3_len (by decide) ho).1);clear hb ho S3 d0 d1 d2 d3 d4 HCA;go_upto_if 34 with (fail);go_cut [7,8,9,10,11] from 34 to 63 (fun _ _ _ _ _ wx=>Hid (Sx w wx [fD B y d,fR A c l,fQm y d,fWM]))
 case first =>
  by_cases he:e=0
  ·subst he;obtain ⟨z1,-⟩:=HZE.out (by rw [HX.out]);have HOK:=zhy (qok_of S4.out.2.2.2.2.1);have HQX:Hid (qB d=qX d):=zhy (by rw [qB,if_pos z1]);have HQL:Hid ((qX d).length≤2000):=zhy (qE_parts z1).2.2.2.2.2.2.2;have HQY:Hid (Byt (qX d)):=zhy (qX_byt z1 HOK.out);have HLD:Hid (lo14 (qX d)=(d,L,0)):=zhy (by rw [lo14_3 (qP_enc z1 HOK.out) (by rw [HX.out]),HX.out])
   have HKB:Hid (∀wq,Sx w wq [fRg ce3 3 A1 c1 L,fD B y d,fR A c l,fQm y d,fWM]→Calls Tryz.prog 29 #[dv y d] wq fun r w'=>∃A2 c2,r=.returned (.tuple #[.slice A2 (qX d).length c2,.int .i64 0])∧Rd w' A2 c2 (qX d)∧Below wq.heap.size wq w'):=zhy fun wq hs=>by
    refine (kmbytes y d wq hs.2.2.2.2.2.1 hs.2.2.2.2.1 HG.out).mono ?_;rintro r w' ⟨A2,c2,rfl,ho,hb⟩;rw [HQX.out] at ho;exact ⟨A2,c2,by rw [HQX.out,z1],own_rd ho HQY.out,hb⟩
   have HZ1:=zhy z1;clear z1;obtain ⟨-,-,⟨d0,d1,d2,d3,d4⟩,-⟩:=S4.out;go_wp2_with fail;refine (HKB.out _ S4.out).mono ?_;rintro r w5 ⟨A2,c2,rfl,hrd,hb⟩;have S5:=zhy (S4.out.call hb);have HR2:=zhy hrd
   have HLC:Hid (∀wq,Sx w wq [fRg ce3 3 A1 c1 L,fD B y d,fR A c l,fQm y d,fWM]→Rd wq A2 c2 (qX d)→Calls Tryz.prog 18 #[.slice A2 (qX d).length c2] wq fun r w'=>Ld14 wq w' (d,L,0) r):=zhy fun wq hs hr=>by
    have:=load14_v A2 c2 _ (qX d) wq hs.2.2.2.2.2.1 hr rfl (by have:=HQL.out;omega);rw [HLD.out] at this;exact this
   clear hrd hb S4 d0 d1 d2 d3 d4 HKB;generalize (qX d).length=qn at HLC ⊢;go_wp2_with fail;refine (HLC.out _ S5.out HR2.out).mono ?_;rintro r w6 ⟨y3,A3,c3,rfl,hq3,ho3,hb3⟩;have S6:=zhy ((((S5.out.call hb3).add (fQm y3 d) hq3).add (fRg ce3 3 A3 c3 L) (Rg.of_own ce3_len (by decide) ho3).1).mkD y3 d);obtain ⟨B6,hB6⟩:∃B,w6.heap.size=B:=⟨_,rfl⟩;rw [hB6] at S6;clear hq3 ho3 hb3 S5 HLC HR2;go_upto_region 9 with (fail);change Code.wp _ _ _ _ (w6.alloc (dcel y3 d));try rw [hB6]
   clear hB6;generalize w6.alloc (dcel y3 d)=w7 at S6 ⊢;have HSM:Hid (∀wq,Sx w wq [fD B6 y3 d,fRg ce3 3 A3 c3 L,fQm y3 d,fRg ce3 3 A1 c1 L,fD B y d,fR A c l,fQm y d,fWM]→Calls Tryz.prog 17 #[dv y3 d,dv y d] wq fun r w'=>r=.returned (.bool true)∧Below wq.heap.size wq w'):=zhy fun wq hs=>r8same_v y3 y d d true wq hs.2.2.2.1 hs.2.2.2.2.2.2.2.1 (qS_self d);have HCS:Hid (∀wq,Sx w wq [fD B6 y3 d,fRg ce3 3 A3 c3 L,fQm y3 d,fRg ce3 3 A1 c1 L,fD B y d,fR A c l,fQm y d,fWM]→Calls Tryz.prog 14 #[.slice A3 L.length c3,.slice A1 L.length c1] wq fun r w'=>r=.returned (.bool true)∧Below wq.heap.size wq w'):=zhy fun wq hs=>r12same_v A3 A1 c3 c1 L.length L wq hs.2.2.1 hs.2.2.2.2.1 rfl (by have:=HLL.out (by first | rfl | trivial);omega);have HDROP:=zhy (fun wq (h:Sx w wq [fD B6 y3 d,fRg ce3 3 A3 c3 L,fQm y3 d,fRg ce3 3 A1 c1 L,fD B y d,fR A c l,fQm y d,fWM])=>(⟨h.1,h.2.2.2.2.2⟩:Sx w wq [fD B y d,fR A c l,fQm y d,fWM]));obtain ⟨-,⟨t0,t1,t2,t3,t4⟩,-,-,-,⟨d0,d1,d2,d3,d4⟩,-⟩:=S6.out;go_wp2_with fail;refine (HSM.out _ S6.out).mono ?_;rintro r w8 ⟨rfl,hb⟩;have S8:=zhy (S6.out.call hb);clear hb S6 t0 t1 t2 t3 t4 d0 d1 d2 d3 d4;go_wp2_with fail;refine (HCS.out _ S8.out).mono ?_;rintro r w9 ⟨rfl,hb⟩;have S9:=zhy (HDROP.out _ (S8.out.call hb));clear hb S8;go_wp2_with fail;go_meet;exact S9
  ·have hne:(e==0)=false:=by simpa using he
   have S5:=zhy (⟨S4.out.1,S4.out.2.2⟩:Sx w w4 [fD B y d,fR A c l,fQm y d,fWM]);go_wp2_with fail;go_meet;exact S5
 case rest =>
 have S5:=hcut;clear hcut S4;obtain ⟨Y,hY⟩:∃Y,lo14 l=Y:=⟨_,rfl⟩;obtain ⟨dw,Lw,g⟩:=Y;have HY:=zhy hY
 have HLC:Hid (∀wq,Sx w wq [fD B y d,fR A c l,fQm y d,fWM]→Calls Tryz.prog 18 #[.slice A n c] wq fun r w'=>Ld14 wq w' (dw,Lw,g) r):=zhy fun wq hs=>by
  have:=load14_v A c n l wq hs.2.2.2.2.1 hs.2.2.1 HN.out (by omega);rw [HY.out] at this;exact this
 clear hY;go_wp2_with fail;refine (HLC.out _ S5.out).mono ?_;rintro r w6 ⟨y3,A3,c3,rfl,hq3,ho3,hb3⟩;have S6:=zhy ((((S5.out.call hb3).add (fQm y3 dw) hq3).add (fRg ce3 3 A3 c3 Lw) (Rg.of_own ce3_len (by decide) ho3).1).mkD y3 dw);obtain ⟨B6,hB6⟩:∃B,w6.heap.size=B:=⟨_,rfl⟩;rw [hB6] at S6;clear hq3 ho3 hb3 S5 HLC;go_upto_region 12 with (fail);change Code.wp _ _ _ _ (w6.alloc (dcel y3 dw));try rw [hB6]
 clear hB6;generalize w6.alloc (dcel y3 dw)=w7 at S6 ⊢;obtain ⟨dp,ep,hP⟩:∃dp ep,qP l=(dp,ep):=⟨_,_,rfl⟩;by_cases hg:g=0
 ·subst hg
  have hp0:ep=0∧(ve14 dp).1=0∧dp=dw∧(ve14 dp).2.2=Lw:=by
   have h:=HY.out;by_cases h1:ep=0
   ·subst h1;by_cases h2:(ve14 dp).1=0
    ·rw [lo14_3 hP h2] at h;injection h with a1 a2;injection a2 with a2 a3;exact ⟨rfl,h2,a1,a2⟩
    ·rw [lo14_2 hP h2] at h;injection h with a1 a2;injection a2 with a2 a3;exact absurd a3 h2
   ·rw [lo14_1 hP h1] at h;injection h with a1 a2;injection a2 with a2 a3;exact absurd a3 h1
  obtain ⟨rfl,hve,rfl,hLw⟩:=hp0;obtain ⟨p1,p2,p3⟩:=qP_inv HBY.out hP;have HGW:=zhy (qE_qG p1)
  have HLW:Hid (Lw.length≤40):=by
   rw [←hLw,ve14_ok hve];show (cs12 dp).length≤40;rw [cs12_len];exact (qG_b12 HGW.out).1
  have HVE:Hid (ve14 dp=(0,-1,Lw)):=by
   have:=ve14_ok hve;rw [this] at hLw;rw [Hid,this,←hLw]
  have HQB:Hid (qB dp=l∧qE dp=0):=zhy ⟨by rw [qB,if_pos p1,p2],p1⟩
  have HCA:Hid (∀wq,fWM.p wq→Hq wq y3 dp→Calls Tryz.prog 12 #[dv y3 dp] wq fun r w'=>Ac14 wq w' Lw 0 r):=zhy fun wq h1 h2=>by
   have:=accept14_v y3 dp wq h1 h2 HGW.out;rw [HVE.out] at this;exact this
  have HKB:Hid (∀wq,fWM.p wq→Hq wq y3 dp→Calls Tryz.prog 29 #[dv y3 dp] wq fun r w'=>∃A2 c2,r=.returned (.tuple #[.slice A2 l.length c2,.int .i64 0])∧Rd w' A2 c2 l∧Below wq.heap.size wq w'):=zhy fun wq h1 h2=>by
   refine (kmbytes y3 dp wq h1 h2 HGW.out).mono ?_;rintro r w' ⟨A2,c2,rfl,ho,hb⟩;rw [HQB.out.1] at ho;exact ⟨A2,c2,by rw [HQB.out.1,HQB.out.2],own_rd ho HBY.out,hb⟩
  clear hve hLw p1 p2 p3 hP;obtain ⟨-,⟨t0,t1,t2,t3,t4⟩,-⟩:=S6.out;go_wp2_with fail;refine (HCA.out _ S6.out.2.2.2.2.2.2.2.1 S6.out.2.2.2.1).mono ?_;rintro r w8 ⟨A4,c4,rfl,ho,hb⟩;have S8:=zhy ((S6.out.call hb).add (fRg ce3 3 A4 c4 Lw) (Rg.of_own ce3_len (by decide) ho).1);clear hb ho S6 t0 t1 t2 t3 t4;obtain ⟨-,-,⟨t0,t1,t2,t3,t4⟩,-⟩:=S8.out;go_wp2_with fail;refine (HKB.out _ S8.out.2.2.2.2.2.2.2.2.1 S8.out.2.2.2.2.1).mono ?_;rintro r w9 ⟨A5,c5,rfl,hr5,hb⟩;have S9:=zhy ((S8.out.call hb).add (fR A5 c5 l) hr5);clear hb hr5 S8 t0 t1 t2 t3 t4 HKB HCA;have HCS:Hid (Calls Tryz.prog 14 #[.slice A4 Lw.length c4,.slice A3 Lw.length c3] w9 fun r w'=>r=.returned (.bool true)∧Below w9.heap.size w9 w'):=zhy (r12same_v A4 A3 c4 c3 Lw.length Lw w9 S9.out.2.2.1 S9.out.2.2.2.2.1 rfl (by have:=HLW.out;omega));generalize Lw.length=ll at HCS ⊢;go_wp2_with fail;refine HCS.out.mono ?_;rintro r w10 ⟨rfl,hb⟩;have S10:=zhy (S9.out.call hb);clear hb S9 HCS;obtain ⟨st,hst⟩:∃s,strOfNums l=s:=⟨_,rfl⟩;have k1:=rd_string (P:=Tryz.prog) S10.out.2.1 40 9 5 Tryz.underlying40 Tryz.underlying5 Tryz.underlying9;have k2:=rd_string (P:=Tryz.prog) S10.out.2.2.2.2.2.2.2.1 40 9 5 Tryz.underlying40 Tryz.underlying5 Tryz.underlying9;rw [hst] at k1 k2;rw [HN.out] at k1 k2 ⊢;clear hst;go_wp2_with fail;go_ret;exact ⟨by simp,S10.out.1⟩
 ·have hne:(g != 0)=true:=by simpa using hg
  have hz:dw=Md.zero∧Lw=[]:=by
   have h:=HY.out;by_cases h1:ep=0
   ·subst h1;by_cases h2:(ve14 dp).1=0
    ·rw [lo14_3 hP h2] at h;injection h with a1 a2;injection a2 with a2 a3;exact absurd a3.symm hg
    ·rw [lo14_2 hP h2] at h;injection h with a1 a2;injection a2 with a2 a3;exact ⟨a1.symm,a2.symm⟩
   ·rw [lo14_1 hP h1] at h;injection h with a1 a2;injection a2 with a2 a3;exact ⟨a1.symm,a2.symm⟩
  obtain ⟨rfl,rfl⟩:=hz;have HSM:Hid (∀wq,Hq wq y3 Md.zero→Calls Tryz.prog 17 #[dv y3 Md.zero,dv Ma.zero Md.zero] wq fun r w'=>r=.returned (.bool true)∧Below wq.heap.size wq w'):=zhy fun wq h=>r8same_v y3 Ma.zero Md.zero Md.zero true wq h (Hq.zero _) (qS_self _);clear hg hP;obtain ⟨-,⟨t0,t1,t2,t3,t4⟩,-⟩:=S6.out;go_wp2_with fail;refine (HSM.out _ S6.out.2.2.2.1).mono ?_;rintro r w8 ⟨rfl,hb⟩;have HB:=zhy (S6.out.call hb).1;clear hb S6 t0 t1 t2 t3 t4;go_wp2_with fail;go_ret;exact ⟨rfl,HB.out⟩
end Go.Proofs.YtnjgkkoiamiaaaaGreatDoor
