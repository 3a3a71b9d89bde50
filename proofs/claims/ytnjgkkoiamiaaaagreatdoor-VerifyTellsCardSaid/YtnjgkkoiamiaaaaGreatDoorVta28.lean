import Derived.Test.YtnjgkkoiamiaaaaGreatDoorVta1
import Derived.Test.YtnjgkkoiamiaaaaGreatDoorVta25
import Derived.Test.YtnjgkkoiamiaaaaGreatDoorVta26
import Derived.Test.YtnjgkkoiamiaaaaGreatDoorVta21
import Derived.Test.YtnjgkkoiamiaaaaGreatDoorVta27
import Derived.Test.YtnjgkkoiamiaaaaGreatDoorVta6
import Derived.Test.YtnjgkkoiamiaaaaGreatDoorVta19
import Derived.Test.YtnjgkkoiamiaaaaGreatDoorVta13
import Derived.Test.YtnjgkkoiamiaaaaGreatDoorVta4
import Derived.Test.YtnjgkkoiamiaaaaGreatDoorVta14
set_option maxRecDepth 100000
set_option maxHeartbeats 16000000
set_option linter.unusedSimpArgs false
set_option linter.unusedVariables false
namespace Go.Proofs.YtnjgkkoiamiaaaaGreatDoor
open Go.RowKit
theorem zm0.err {w w':World} {d:Md} {e b:Int} (h:ja d=(e,b,[])) (hb:Below w.heap.size w w'):zm0 w w' (ja d).2.2 (ja d).1 (.returned (.tuple #[.slice none 0 0,.int .i64 e])):=by
 rw [h];exact ⟨none,0,rfl,World.ownsRow_nil _ _ _ _,hb⟩
theorem zqk {d:Md} (h:qE d≠0):ja d=(qE d,-1,[]):=by rw [ja,if_neg h]
theorem zp7 {d:Md} (h:qE d=0) (h2:zby d=true):ja d=(70,-1,[]):=by rw [ja,if_pos h,if_pos h2]
section
variable {d : Md} (h : qE d = 0) (h2 : zby d = false)
include h h2
theorem zpd (h3:jj d d.s.length≠0):ja d=(jj d d.s.length,zul d d.s.length,[]):=by rw [ja,if_pos h,if_neg (by rw [h2];decide),if_neg h3]
theorem zyb (h3:jj d d.s.length=0) (h4:(jg d).2≠0):ja d=((jg d).2,-1,[]):=by rw [ja,if_pos h,if_neg (by rw [h2];decide),if_pos h3,if_neg h4]
theorem zzs (h3:jj d d.s.length=0) (h4:(jg d).2=0) (h5:(zap d).2≠0):ja d=((zap d).2,-1,[]):=by rw [ja,if_pos h,if_neg (by rw [h2];decide),if_pos h3,if_pos h4,if_neg h5]
theorem zzu (h3:jj d d.s.length=0) (h4:(jg d).2=0) (h5:(zap d).2=0) (h6:zct d≠0):ja d=(zct d,-1,[]):=by rw [ja,if_pos h,if_neg (by rw [h2];decide),if_pos h3,if_pos h4,if_pos h5,if_neg h6]
theorem zyw (h3:jj d d.s.length=0):(ja d).2.1=-1:=by
 rw [ja,if_pos h,if_neg (by rw [h2];decide),if_pos h3];split
 ·split
  ·split<;>rfl
  ·rfl
 ·rfl
theorem zzk {i:Nat} (hi:i<d.s.length) (h3:jj d i=0) (h4:(ql d i).2≠0):(ja d).2.1=i:=by
 have h5:jj d d.s.length≠0:=by rw [zav h3 h4 _ hi];exact h4
 rw [zpd h h2 h5];obtain ⟨k,e1,e2,e3,e4⟩:=zkz h5;dsimp only;rw [e1];have h6:¬i<k:=fun hk=>h4 (e4 i hk);have h7:¬k<i:=fun hk=>h5 (by rw [←e3];exact zfg h3 k hk);omega
end
def zu6:List Nat→Code→Code
 | 0::p,.seq a _=>zu6 p a
 | 1::p,.seq _ b=>zu6 p b
 | 0::p,.cond _ a _=>zu6 p a
 | 1::p,.cond _ _ b=>zu6 p b
 | 2::p,.block _ c=>zu6 p c
 | 2::p,.loop c=>zu6 p c
 | 2::p,.scope c=>zu6 p c
 | _,c=>c
theorem zwk {w:World} {y:Ma} {d:Md} {n:Nat} (hq:Hq w y d) (hqe:qE d=0) (hi:d.i=n):∃(ad:Addr) (x:Mc) (m:Mh),y.A=some ad∧(n:Int)<(d.s.length:Int)∧(∃k,At8 w (ad.add (n*8)) ⟨x,m,k⟩)∧Calls Tryz.prog 35 #[mv x m] w fun e w'=>e=.returned (.bool (!zby d))∧Below w.heap.size w w':=by
 obtain ⟨-,-,-,h4,-⟩:=zch hqe;have hn:n<d.s.length:=by omega
 obtain ⟨ad,hA,hat,hok⟩:=hq.2.2.1.at_ (i:=n) (by rw [hq.zlen];exact hn);have hme:=hq.zat (i:=n) (by rw [hq.zlen];exact hn) hn;obtain ⟨zz,hzz⟩:∃zz,y.Z[n]'(by rw [hq.zlen];exact hn)=zz:=⟨_,rfl⟩;rw [hzz] at hat hok hme;obtain ⟨x,m,k⟩:=zz;have hm:ji d n=m:=by rw [ji,zg7 hn,hme];rfl
 have hG:=zz8 hqe (by omega:0≤d.i);rw [hi,Int.toNat_natCast,hm] at hG;exact ⟨ad,x,m,hA,by omega,⟨k,hat⟩,zxv x m _ w hok.1 hG⟩
theorem zgb {v0 v2 v3 v4 v5 v6 v7 v8 v9 v10 v11 v12 v13 v14 v15 v16 v17 v18 v19 v20 v21 v22 v23 v24 v25 v26 v27 v28 v29 v30 v31 v32 v33 v34 v35 v36 v37 v38 v39 v40 v41 v42 v43 v44 v45 v46 v47 v48 v49 v50 v51 v52 v53 v54 v55 v56 v57 v58 v59 v60 v61 v62 v63 v64:Value} {y:Ma} {d:Md} {w w3:World} {B:Nat} (hS:Sx w w3 [fD B y d,fQm y d]) (hg:qG d=false) (hqe:qE d=0) (hmi:zby d=false) :
  Code.wp Tryz.prog (zu6 [1,1,1,1] (Tryz.f11.body.getD .skip)) (bodyPost Tryz.prog Tryz.f11 fun r w'=>zm0 w w' (ja d).2.2 (ja d).1 r) ⟨#[v0,.pointer (some ⟨B,0,none⟩),v2,v3,v4,v5,v6,v7,v8,v9,v10,v11,v12,v13,v14,v15,v16,v17,v18,v19,v20,v21,v22,v23,v24,v25,v26,v27,v28,v29,v30,v31,v32,v33,v34,v35,v36,v37,v38,v39,v40,v41,v42,v43,v44,v45,v46,v47,v48,v49,v50,v51,v52,v53,v54,v55,v56,v57,v58,v59,v60,v61,v62,v63,v64],[]⟩ w3:=by
 obtain ⟨G,gc,P,pc,AA,cc,Zm⟩:=y;obtain ⟨hs40,hbd⟩:=zci hg;have HG:=zhy hg;have HQE:=zhy hqe;have HMI:=zhy hmi;have S0:=zhy hS;obtain ⟨sn,hsn⟩:∃sn,d.s.length=sn:=⟨_,rfl⟩;have HSN:=zhy hsn;rw [hsn] at hs40;clear hg hbd hqe hmi hS hsn;conv=>arg 2;whnf
 go_wp2_with fail;go_loopw [5] (fun iv wq=>∃i:Nat,i≤sn∧iv=.int .i64 i∧Hid (jj d i=0)∧Hid (Below w3.heap.size w3 wq)) (fun iv _=>sn-(intOf iv).toNat)
 case atStart=>exact ⟨0,by omega,rfl,zhy rfl,zhy (Below.refl _ _)⟩
 case round =>
  obtain ⟨i,hi,rfl,HER,HB⟩:=hrel;rename World=>wq;have SQ:=zhy (S0.o.call HB.o);obtain ⟨-,⟨d0,d1,d2,d3,d4⟩,-⟩:=SQ.o;dsimp only at d1 d2 d3;rw [HSN.o] at d3;by_cases h1:i<sn
  ·have HT:=zhy (zdk ⟨G,gc,P,pc,AA,cc,Zm⟩ d i wq SQ.o.2.2.1 HG.o);rw [zho HQE.o] at HT;rw [dv,HSN.o] at HT;dsimp only at HT;go_wp2_with fail;refine HT.o.mono ?_;rintro r w4 ⟨A,c,ZR,rfl,hrw,hzr,hb⟩;have HB4:=zhy (qc HB.o hb);clear HT hb hrw hzr HB SQ d0 d1 d2 d3 d4;by_cases he:(ql d i).2=0
   ·have HE1:Hid (jj d (i+1)=0):=zhy (by rw [jj,if_pos HER.o];exact he);rw [he];clear he;generalize (ql d i).1.length=rl;go_wp2_with fail;go_roundw
    case rel=>exact ⟨i+1,by omega,by go_num,HE1,HB4⟩
    case measure=>simp [intOf];omega
   ·have HE:=zhy (zm0.err (w:=w) (w':=w4) (zpd HQE.o HMI.o (by rw [zav HER.o he _ (by rw [HSN.o];exact h1)];exact he)) (qc S0.o.1 HB4.o));rw [zav HER.o he _ (by rw [HSN.o];exact h1)] at HE;have hne:((ql d i).2 != 0)=true:=by simpa using he
    clear he;generalize (ql d i).2=E at *;generalize (ql d i).1.length=rl;go_wp2_with fail;go_ret2;exact HE.o
  ·obtain rfl:sn=i:=by omega
   have HERR:Hid (jj d d.s.length=0):=zhy (by rw [HSN.o];exact HER.o);clear HER h1;have HOR:=zhy (zgo ⟨G,gc,P,pc,AA,cc,Zm⟩ d wq SQ.o.2.2.1 (by rw [HSN.o];omega));rw [dv,HSN.o] at HOR;dsimp only at HOR;go_wp2_with fail;refine HOR.o.mono ?_;rintro r w5 ⟨AO,cO,rfl,-,hb⟩;have S5:=zhy (SQ.o.call hb);clear HOR hb SQ HB d0 d1 d2 d3 d4;by_cases h4:(jg d).2=0
   case neg =>
    have HE:=zhy (zm0.err (w:=w) (w':=w5) (zyb HQE.o HMI.o HERR.o h4) S5.o.1);have hne:((jg d).2 != 0)=true:=by simpa using h4
    clear h4;generalize (jg d).2=E at *;generalize (jg d).1.length=rl;go_wp2_with fail;go_ret2;exact HE.o
   have HRO:=zhy h4;rw [h4];clear h4;generalize (jg d).1.length=rl;obtain ⟨-,⟨d0,d1,d2,d3,d4⟩,-⟩:=S5.o;dsimp only at d1 d2 d3;rw [HSN.o] at d3;have HCO:=zhy (zoe ⟨G,gc,P,pc,AA,cc,Zm⟩ d w5 S5.o.2.2.1 HG.o HQE.o);rw [dv,HSN.o] at HCO;dsimp only at HCO;go_wp2_with fail;refine HCO.o.mono ?_;rintro r w6 ⟨AC,cC,rfl,ho,hb⟩;have S6:=zhy (S5.o.call hb);have HO6:=zhy (qg ho S5.o.1.size);clear HCO ho hb S5 d0 d1 d2 d3 d4;by_cases h5:(zap d).2=0
   case neg =>
    have HE:=zhy (zm0.err (w:=w) (w':=w6) (zzs HQE.o HMI.o HERR.o HRO.o h5) S6.o.1);have hne:((zap d).2 != 0)=true:=by simpa using h5
    clear h5 HO6;generalize (zap d).2=E at *;generalize (zap d).1.length=cl;go_wp2_with fail;go_ret2;exact HE.o
   have HC5:=zhy h5;rw [h5];clear h5
   have HCL:Hid ((zap d).1=zig d):=zhy (by
    have h:=HC5.o;unfold zap at h ⊢;rw [if_pos HRO.o,if_pos HERR.o] at h ⊢;split
    ·rfl
    ·rename_i h7;rw [if_neg h7] at h;cases h)
   rw [HCL.o] at HO6 ⊢;obtain ⟨LL,hLL⟩:∃LL,zig d=LL:=⟨_,rfl⟩;have HLL:=zhy hLL;rw [hLL] at HO6 ⊢;clear hLL;obtain ⟨-,⟨d0,d1,d2,d3,d4⟩,-⟩:=S6.o;dsimp only at d1 d2 d3;rw [HSN.o] at d3;have HCH:=zhy (znt ⟨G,gc,P,pc,AA,cc,Zm⟩ d w6 S6.o.2.2.1 (by rw [HSN.o];omega));rw [dv,HSN.o] at HCH;dsimp only at HCH;go_wp2_with fail;refine HCH.o.mono ?_;rintro r w7 ⟨rfl,hb⟩;have HB7:=zhy (S6.o.call hb).1;have HO7:=zhy (qb HO6.o hb (Nat.le_refl _));clear HCH hb S6 HO6 d0 d1 d2 d3 d4;by_cases h6:zct d=0
   ·have HE:Hid (ja d=(0,-1,LL)):=zhy (by
     rw [←HLL.o];exact zln (zfi.2 ⟨HQE.o,HMI.o,HERR.o,HRO.o,HC5.o,h6⟩))
    rw [h6];clear h6;go_wp2_with fail;go_ret2;show zm0 _ _ (ja d).2.2 (ja d).1 _;rw [HE.o];exact ⟨AC,cC,rfl,HO7.o,HB7.o⟩
   ·have HE:=zhy (zm0.err (w:=w) (w':=w7) (zzu HQE.o HMI.o HERR.o HRO.o HC5.o h6) HB7.o);have hne:(zct d != 0)=true:=by simpa using h6
    clear h6 HO7;generalize zct d=E at *;go_wp2_with fail;go_ret2;exact HE.o
theorem zll (y:Ma) (d:Md) (w:World) (hq:Hq w y d) (hg:qG d=false):Calls Tryz.prog 11 #[dv y d] w fun r w'=>zm0 w w' (ja d).2.2 (ja d).1 r:=by
 have S0:=zhy ((((Sx.start w).add (fQm y d) hq).mkD y d));have HG:=zhy hg;obtain ⟨B,hB⟩:∃B,w.heap.size=B:=⟨_,rfl⟩;rw [hB] at S0;clear hq hg;go_enter Tryz.func11,Tryz.ntmps11;go_upto_region 1 with (fail);change Code.wp _ _ _ _ (w.alloc (zn y d));clear hB;generalize w.alloc (zn y d)=w1 at S0 ⊢;obtain ⟨-,⟨d0,d1,d2,d3,d4⟩,-⟩:=S0.o;go_wp2_with fail;refine (zqd y d w1 S0.o.2.2.1).mono ?_;rintro r w2 ⟨rfl,hb⟩;have S2:=zhy (S0.o.call hb);clear hb S0 d0 d1 d2 d3 d4;by_cases h0:qE d=0
 case neg =>
  have HE:Hid (zm0 w w2 (ja d).2.2 (ja d).1 (.returned (.tuple #[.slice none 0 0,.int .i64 (qE d)]))):=zhy (zm0.err (zqk h0) S2.o.1);have hne:(qE d != 0)=true:=by simpa using h0
  clear h0;generalize qE d=E at *;go_wp2_with fail;go_ret2;exact HE.o
 have HQE:=zhy h0;rw [h0];clear h0;go_upto_region 4 with (fail);rename_i K4 hK4 Kc hKc;have HK4:=zhy hK4;clear hK4;obtain ⟨-,⟨d0,d1,d2,d3,d4⟩,-⟩:=S2.o;by_cases hi:0≤d.i
 ·obtain ⟨n,hn⟩:∃n:Nat,d.i=n:=⟨d.i.toNat,by omega⟩;obtain ⟨ad,x,m,hA,hnl,⟨k,hat⟩,hC⟩:=zwk S2.o.2.2.1 HQE.o hn;obtain ⟨⟨G,gc,P,pc,AA,cc,Zm⟩,rfl⟩:∃z:Ma,y=z:=⟨y,rfl⟩;dsimp only at hA d1 d2 d3;subst hA;obtain ⟨XA,xc,XB,xd,XD,xk,xe⟩:=x;obtain ⟨a0,a1,a2,a3,a4,a5,a6,a7⟩:=hat;dsimp only at a0 a1 a2 a3 a4 a5 a6 a7;rw [hn] at d4;have HC:=zhy hC;clear hC hi hn;go_wp2_with fail;refine HC.o.mono ?_;rintro r w3 ⟨rfl,hb⟩;have S3:=zhy (S2.o.call hb);clear hb S2 HC a0 a1 a2 a3 a4 a5 a6 a7 d0 d1 d2 d3 d4;obtain ⟨v,hv⟩:∃v,zby d=v:=⟨_,rfl⟩;have HV:=zhy hv;rw [hv];clear hv;cases v with
  | true =>
   have HE:Hid (zm0 w w3 (ja d).2.2 (ja d).1 (.returned (.tuple #[.slice none 0 0,.int .i64 70]))):=zhy (zm0.err (zp7 HQE.o HV.o) S3.o.1);go_wp2_with fail;go_ret2;exact HE.o
  | false =>
   go_wp2_with fail;exact HK4.o _ _ (zgb S3.o HG.o HQE.o HV.o)
 ·have HV:Hid (zby d=false):=zj3 HQE.o hi;go_wp2_with fail;exact HK4.o _ _ (zgb S2.o HG.o HQE.o HV.o)
theorem zjp {v0 v2 v3 v4 v5 v6 v7 v8 v9 v10 v11 v12 v13 v14 v15 v16 v17 v18 v19 v20 v21 v22 v23 v24 v25 v26 v27 v28 v29 v30 v31 v32 v33 v34 v35 v36 v37 v38 v39:Value} {y:Ma} {d:Md} {w w3:World} {B:Nat} (hS:Sx w w3 [fD B y d,fQm y d]) (hg:qG d=false) (hqe:qE d=0) (hmi:zby d=false) :
  Code.wp Tryz.prog (zu6 [1,1] (Tryz.f16.body.getD .skip)) (bodyPost Tryz.prog Tryz.f16 fun r w'=>r=.returned (.int .i64 (ja d).2.1)∧Below w.heap.size w w') ⟨#[v0,.pointer (some ⟨B,0,none⟩),v2,v3,v4,v5,v6,v7,v8,v9,v10,v11,v12,v13,v14,v15,v16,v17,v18,v19,v20,v21,v22,v23,v24,v25,v26,v27,v28,v29,v30,v31,v32,v33,v34,v35,v36,v37,v38,v39],[]⟩ w3:=by
 obtain ⟨G,gc,P,pc,AA,cc,Zm⟩:=y;obtain ⟨hs40,hbd⟩:=zci hg;have HG:=zhy hg;have HQE:=zhy hqe;have HMI:=zhy hmi;have S0:=zhy hS;obtain ⟨sn,hsn⟩:∃sn,d.s.length=sn:=⟨_,rfl⟩;have HSN:=zhy hsn;rw [hsn] at hs40;clear hg hbd hqe hmi hS hsn;conv=>arg 2;whnf
 go_wp2_with fail;go_loopw [3] (fun iv wq=>∃i:Nat,i≤sn∧iv=.int .i64 i∧Hid (jj d i=0)∧Hid (Below w3.heap.size w3 wq)) (fun iv _=>sn-(intOf iv).toNat)
 case atStart=>exact ⟨0,by omega,rfl,zhy rfl,zhy (Below.refl _ _)⟩
 case round =>
  obtain ⟨i,hi,rfl,HER,HB⟩:=hrel;rename World=>wq;have SQ:=zhy (S0.o.call HB.o);obtain ⟨-,⟨d0,d1,d2,d3,d4⟩,-⟩:=SQ.o;dsimp only at d1 d2 d3;rw [HSN.o] at d3;by_cases h1:i<sn
  ·have HT:=zhy (zdk ⟨G,gc,P,pc,AA,cc,Zm⟩ d i wq SQ.o.2.2.1 HG.o);rw [zho HQE.o] at HT;rw [dv,HSN.o] at HT;dsimp only at HT;go_wp2_with fail;refine HT.o.mono ?_;rintro r w4 ⟨A,c,ZR,rfl,hrw,hzr,hb⟩;have HB4:=zhy (qc HB.o hb);clear HT hb hrw hzr HB SQ d0 d1 d2 d3 d4;by_cases he:(ql d i).2=0
   ·have HE1:Hid (jj d (i+1)=0):=zhy (by rw [jj,if_pos HER.o];exact he);rw [he];clear he;generalize (ql d i).1.length=rl;go_wp2_with fail;go_roundw
    case rel=>exact ⟨i+1,by omega,by go_num,HE1,HB4⟩
    case measure=>simp [intOf];omega
   ·have HE:Hid ((ja d).2.1=i):=zhy (zzk HQE.o HMI.o (by rw [HSN.o];exact h1) HER.o he);have HBB:=zhy (qc S0.o.1 HB4.o);have hne:((ql d i).2 != 0)=true:=by simpa using he
    clear he;generalize (ql d i).2=E at *;generalize (ql d i).1.length=rl;go_wp2_with fail;go_ret;exact ⟨by rw [HE.o];rfl,HBB.o⟩
  ·obtain rfl:sn=i:=by omega
   have HERR:Hid (jj d d.s.length=0):=zhy (by rw [HSN.o];exact HER.o);clear HER h1;have HE:Hid ((ja d).2.1=-1):=zhy (zyw HQE.o HMI.o HERR.o);have HBB:=zhy SQ.o.1;clear SQ HB;go_wp2_with fail;go_ret;exact ⟨by rw [HE.o];rfl,HBB.o⟩
theorem znj (y:Ma) (d:Md) (w:World) (hq:Hq w y d) (hg:qG d=false):Calls Tryz.prog 16 #[dv y d] w fun r w'=>r=.returned (.int .i64 (ja d).2.1)∧Below w.heap.size w w':=by
 have S0:=zhy ((((Sx.start w).add (fQm y d) hq).mkD y d));have HG:=zhy hg;obtain ⟨B,hB⟩:∃B,w.heap.size=B:=⟨_,rfl⟩;rw [hB] at S0;clear hq hg;go_enter Tryz.func16,Tryz.ntmps16;go_upto_region 1 with (fail);change Code.wp _ _ _ _ (w.alloc (zn y d));clear hB;generalize w.alloc (zn y d)=w1 at S0 ⊢;rename_i K4 hK4 Kc hKc;have HK4:=zhy hK4;clear hK4;obtain ⟨-,⟨d0,d1,d2,d3,d4⟩,-⟩:=S0.o;go_wp2_with fail;refine (zqd y d w1 S0.o.2.2.1).mono ?_;rintro r w2 ⟨rfl,hb⟩;have S2:=zhy (S0.o.call hb);clear hb S0 d0 d1 d2 d3 d4;by_cases h0:qE d=0
 case neg =>
  have HE:Hid ((ja d).2.1=-1):=zhy (by rw [zqk h0]);have hne:(qE d != 0)=true:=by simpa using h0
  clear h0;generalize qE d=E at *;go_wp2_with fail;go_ret;exact ⟨by rw [HE.o];rfl,S2.o.1⟩
 have HQE:=zhy h0;rw [h0];clear h0;obtain ⟨-,⟨d0,d1,d2,d3,d4⟩,-⟩:=S2.o;by_cases hi:0≤d.i
 ·obtain ⟨n,hn⟩:∃n:Nat,d.i=n:=⟨d.i.toNat,by omega⟩;obtain ⟨ad,x,m,hA,hnl,⟨k,hat⟩,hC⟩:=zwk S2.o.2.2.1 HQE.o hn;obtain ⟨⟨G,gc,P,pc,AA,cc,Zm⟩,rfl⟩:∃z:Ma,y=z:=⟨y,rfl⟩;dsimp only at hA d1 d2 d3;subst hA;obtain ⟨XA,xc,XB,xd,XD,xk,xe⟩:=x;obtain ⟨a0,a1,a2,a3,a4,a5,a6,a7⟩:=hat;dsimp only at a0 a1 a2 a3 a4 a5 a6 a7;rw [hn] at d4;have HC:=zhy hC;clear hC hi hn;go_wp2_with fail;refine HC.o.mono ?_;rintro r w3 ⟨rfl,hb⟩;have S3:=zhy (S2.o.call hb);clear hb S2 HC a0 a1 a2 a3 a4 a5 a6 a7 d0 d1 d2 d3 d4;obtain ⟨v,hv⟩:∃v,zby d=v:=⟨_,rfl⟩;have HV:=zhy hv;rw [hv];clear hv;cases v with
  | true =>
   have HE:Hid ((ja d).2.1=-1):=zhy (by rw [zp7 HQE.o HV.o]);go_wp2_with fail;go_ret;exact ⟨by rw [HE.o];rfl,S3.o.1⟩
  | false =>
   go_wp2_with fail;exact HK4.o _ _ (zjp S3.o HG.o HQE.o HV.o)
 ·have HV:Hid (zby d=false):=zj3 HQE.o hi;go_wp2_with fail;exact HK4.o _ _ (zjp S2.o HG.o HQE.o HV.o)
theorem zy9 (d:Nat) (k a b k' a' b':Int) (v:Bool) (h:(k==k'&&a==a'&&b==b')=v) (w:World):(Op.equalIn (d+1+1) 39 (.agg #[.int .i64 k,.int .i64 a,.int .i64 b]) (.agg #[.int .i64 k',.int .i64 a',.int .i64 b'])).run Tryz.prog w=.ok v w:=by
 have hS:Tryz.prog.underlying 39=some (.struct (Tryz.prog.fieldsOf 39)):=by kernel_rfl
 have hp:Tryz.prog.stoodInHeld 39=false:=by kernel_rfl
 have u2:=Tryz.underlying3;have h0:∀u v t:Value,(part 3 #[u,v,t] 0).run Tryz.prog w=.ok u w:=fun u v t=>by kernel_rfl
 have h1:∀u v t:Value,(part 3 #[u,v,t] 1).run Tryz.prog w=.ok v w:=fun u v t=>by kernel_rfl
 have h2:∀u v t:Value,(part 3 #[u,v,t] 2).run Tryz.prog w=.ok t w:=fun u v t=>by kernel_rfl
 rw [run_equalIn_agg w (d+1) 39 _ _ hS hp];simp only [Program.fieldsOf,Tryz.underlying39];subst h;go_simp;by_cases e1:k=k'<;>by_cases e2:a=a'<;>by_cases e3:b=b'<;>simp [e1,e2,e3]
theorem zrf (A B:Option Addr) (c b n:Nat) (L:List Ce) (w:World) (ha:Rg ce3 3 w A c L) (hb:Rg ce3 3 w B b L) (hn:L.length=n) (hn9:n≤1000):Calls Tryz.prog 14 #[.slice A n c,.slice B n b] w fun r w'=>r=.returned (.bool true)∧Below w.heap.size w w':=by
 have HA:=zhy ha;have HB:=zhy hb;have HN:=zhy hn;clear ha hb hn;go_enter Tryz.func14,Tryz.ntmps14;go_wp2_with fail;go_loopw [5] (fun iv wq=>∃i:Nat,i≤n∧iv=.int .i64 i∧Hid (Below w.heap.size w wq)) (fun iv _=>n-(intOf iv).toNat)
 case atStart=>exact ⟨0,by omega,rfl,zhy (Below.refl _ _)⟩
 case round =>
  obtain ⟨i,hi,rfl,HW⟩:=hrel;rename World=>wq;by_cases h1:i<n
  ·obtain ⟨x,hx⟩:∃x,L[i]?=some x:=⟨_,zg7 (by rw [HN.o];exact h1)⟩;obtain ⟨g,hA,hg,hc⟩:=(HA.o.keep HW.o).at_ q9 hx;obtain ⟨g2,hB,hg2,hc2⟩:=(HB.o.keep HW.o).at_ q9 hx;subst hA hB;have a0:=hc 0 (by omega);have a1:=hc 1 (by omega);have a2:=hc 2 (by omega);have b0:=hc2 0 (by omega);have b1:=hc2 1 (by omega);have b2:=hc2 2 (by omega);obtain ⟨xf,xs,xh⟩:=x;simp only [ce3,List.getElem?_cons_zero,List.getElem?_cons_succ,Nat.add_zero] at a0 a1 a2 b0 b1 b2;have q:=zy9 9998 xf xs xh xf xs xh true (by simp);have HW2:=zhy (fun q=>qf HW.o q);clear hx hc hc2;go_wp2_with fail;go_quiet (fail);go_wp2_with fail;go_roundw
   case rel=>exact ⟨i+1,by omega,by go_num,zhy (HW2.o _)⟩
   case measure=>simp [intOf];omega
  ·obtain rfl:n=i:=by omega
   go_wp2_with fail;go_ret;exact ⟨rfl,HW.o⟩
def Dc (w:World) (T:Nat) (A1 A2 A3:Option Addr) (c1 c2 c3:Nat) (d:Md) (n:Nat):Prop:=T<w.heap.size∧w.cell? ⟨T,0,none⟩=some (.slice A1 d.g.length c1)∧w.cell? ⟨T,1,none⟩=some (.slice A2 d.p.length c2)∧w.cell? ⟨T,2,none⟩=some (.slice A3 n c3)∧w.cell? ⟨T,3,none⟩=some (.int .i64 d.i)
def T8 (w:World) (T:Nat):Prop:=Mf w T∧Db w T Ma.zero Md.zero∧Bk w T 25 4
theorem T8.new (w:World):T8 (w.alloc (.cells #[.slice none 0 0,.slice none 0 0,.slice none 0 0,.int .i64 0] 25)) w.heap.size:=⟨Mf.new w _ _,Db.new w Ma.zero Md.zero,Bk.new w _ _⟩
theorem T8.keep {w w':World} {T:Nat} (h:T8 w T) (hb:Below w.heap.size w w'):T8 w' T:=⟨h.1.keep hb,h.2.1.keep hb,h.2.2.keep hb⟩
def Tz (wr w':World) (Tb:Nat) (x:Mc) (m:Mh):Prop:=Below Tb wr w'∧Mf w' Tb∧Mb w' Tb x m
section
variable {wr w1 w2 : World} {Tb : Nat} {x : Mc} {m : Mh}
theorem Tz.new (w:World) (x:Mc) (m:Mh):Tz w (w.alloc (zbk x m)) w.heap.size x m:=⟨qh,Mf.new w _ _,Mb.new w x m⟩
theorem Tz.call (h:Tz wr w1 Tb x m) (hb:Below w1.heap.size w1 w2):Tz wr w2 Tb x m:=⟨h.1.trans (hb.mono (Nat.le_of_lt h.2.1.1)),h.2.1.keep hb,h.2.2.keep hb⟩
theorem Tz.set (h:Tz wr w1 Tb x m) {x2:Mc} (i:Nat) (v:Value) (hm:Mb (w1.setCell ⟨Tb,i,none⟩ v) Tb x2 m):Tz wr (w1.setCell ⟨Tb,i,none⟩ v) Tb x2 m:=⟨h.1.setCell (Nat.le_refl _) _,h.2.1.set _ _,hm⟩
end
theorem zzb (w:World) (z:Me) (t:Nat):∀j u,(ce8 z)[j]?=some u→(w.alloc (.cells (ce8 z).toArray t)).cell? ((⟨w.heap.size,0,none⟩:Addr).add j)=some u:=by
 intro j u h
 have e:(⟨w.heap.size,0,none⟩:Addr).add j=⟨w.heap.size,j,none⟩:=by
  unfold Addr.add;split
  ·rename_i h0;simp [h0]
  ·simp
 rw [e];simp [go_sem,h]
theorem Bk.grownEq {w w':World} {B t n base2 e2 size2 n2:Nat} {v2:Value} {xs2:List Value} (h:Bk w B t n) (h2:w.ownsRow base2 e2 size2 v2 n2 xs2) (hne:t≠e2) (hg:w.grownBy w' v2.ownBlock):w'.heap[B]?=w.heap[B]?:=by
 have hlt:=h.lt;obtain ⟨cur,hh,hn⟩:=h;refine hg.block B hlt fun e'=>?_;rcases h2.2 with ⟨rfl,_⟩ | ⟨g2,cap2,cur2,rfl,_,hh2,_⟩
 ·simp [Value.ownBlock] at e'
 ·simp [Value.ownBlock] at e';subst e';rw [hh] at hh2;injection hh2 with hh2;injection hh2 with _ h3 _;exact hne h3
theorem Wz.grown {w w':World} {lo base n:Nat} {z:Me} {v:Value} {xs:List Value} (h:Wz w lo z) (h2:w.ownsRow base 50 8 v n xs) (hg:w.grownBy w' v.ownBlock):Wz w' lo z:=⟨h.1,zak h.2.1 h2 (by decide) hg,zak h.2.2.1 h2 (by decide) hg,zak h.2.2.2 h2 (by decide) hg⟩
theorem Wz.based {w:World} {lo lo2:Nat} {z:Me} (h:Wz w lo z) (hl:lo2≤lo):Wz w lo2 z:=⟨h.1,qg h.2.1 hl,qg h.2.2.1 hl,qg h.2.2.2 hl⟩
def Rc8 (w:World) (B1 T:Nat) (y:Ma) (d:Md) (A1 A2:Option Addr) (c1 c2:Nat) (Zs:List Me) (A3:Option Addr) (c3 n:Nat) (wr:World):Prop:=
 Below w.heap.size w wr∧Db wr B1 y d∧(Mf wr (B1+1)∧Db wr (B1+1) Ma.zero Md.zero)∧Mf wr T∧Dc wr T A1 A2 A3 c1 c2 c3 d n∧Bk wr T 25 4 ∧
 wr.ownsRow (B1+2) 139 3 (.slice A1 d.g.length c1) d.g.length (cev d.g)∧wr.ownsRow (B1+2) 139 3 (.slice A2 d.p.length c2) d.p.length (cev d.p) ∧
 wr.ownsRow (B1+2) 50 8 (.slice A3 n c3) n (cem Zs)∧((∀z∈Zs,Wz wr (B1+2) z)∧Zs.map ze=d.s.take n∧w.heap.size=B1)∧B1+2≤T
section
variable {w wr w' : World} {B1 T : Nat} {y : Ma} {d : Md} {A1 A2 A3 : Option Addr} {c1 c2 c3 n : Nat} {Zs : List Me}
theorem Dc.keep (h:Dc wr T A1 A2 A3 c1 c2 c3 d n) (hb:Below wr.heap.size wr w'):Dc w' T A1 A2 A3 c1 c2 c3 d n:=by
 obtain ⟨h0,h1,h2,h3,h4⟩:=h;obtain ⟨hc,hf⟩:=zbi hb;exact ⟨Nat.lt_of_lt_of_le h0 hb.size,(hc _ _ h0).trans h1,(hc _ _ h0).trans h2,(hc _ _ h0).trans h3,(hc _ _ h0).trans h4⟩
theorem Rc8.call (h:Rc8 w B1 T y d A1 A2 c1 c2 Zs A3 c3 n wr) (hb:Below wr.heap.size wr w'):Rc8 w B1 T y d A1 A2 c1 c2 Zs A3 c3 n w':=by
 obtain ⟨h1,h2,h3,h4,h5,h6,h7,h8,h9,⟨ha,hb2,hc⟩,hd⟩:=h;exact ⟨h1.trans (hb.mono h1.size),h2.keep hb,⟨h3.1.keep hb,h3.2.keep hb⟩,h4.keep hb,h5.keep hb,h6.keep hb,qb h7 hb (Nat.le_refl _),qb h8 hb (Nat.le_refl _),qb h9 hb (Nat.le_refl _),⟨fun z hz=>(ha z hz).keep hb,hb2,hc⟩,hd⟩
def Rg8 (w:World) (B1 T:Nat) (y:Ma) (d:Md) (A1 A2:Option Addr) (c1 c2:Nat) (Zs:List Me) (A3:Option Addr) (c3 n:Nat) (z:Me) (A7:Option Addr) (c7:Nat) (wr:World):Prop:=
 Below w.heap.size w wr∧Db wr B1 y d∧(Mf wr (B1+1)∧Db wr (B1+1) Ma.zero Md.zero)∧Mf wr T∧Dc wr T A1 A2 A3 c1 c2 c3 d n∧Bk wr T 25 4 ∧
 wr.ownsRow (B1+2) 139 3 (.slice A1 d.g.length c1) d.g.length (cev d.g)∧wr.ownsRow (B1+2) 139 3 (.slice A2 d.p.length c2) d.p.length (cev d.p) ∧
 wr.ownsRow (B1+2) 50 8 (.slice A7 (n+1) c7) (n+1) (cem (Zs++[z]))∧((∀t∈Zs++[z],Wz wr (B1+2) t)∧(Zs++[z]).map ze=d.s.take (n+1)∧w.heap.size=B1)∧B1+2≤T
theorem Db.belowB {B k:Nat} (h:Db wr B y d) (hb:Below k wr w') (hk:B<k):Db w' B y d:=by
 obtain ⟨h0,h1,h2,h3,h4⟩:=h;have hc:∀i,w'.cell? ⟨B,i,none⟩=wr.cell? ⟨B,i,none⟩:=fun i=>hb.cell (p:=⟨B,i,none⟩) (show B<k from hk);exact ⟨Nat.lt_of_lt_of_le h0 hb.size,(hc _).trans h1,(hc _).trans h2,(hc _).trans h3,(hc _).trans h4⟩
theorem Mf.belowB {B k:Nat} (h:Mf wr B) (hb:Below k wr w') (hk:B<k):Mf w' B:=⟨Nat.lt_of_lt_of_le h.1 hb.size,fun i=>(hb.frozen (p:=⟨B,i,none⟩) (show B<k from hk)).trans (h.2 i)⟩
theorem Rc8.grow {z:Me} {A7:Option Addr} {c7:Nat} (h:Rc8 w B1 T y d A1 A2 c1 c2 Zs A3 c3 n wr) (hg:wr.grownBy w' (Value.slice A3 n c3).ownBlock) (hb:Below (B1+2) wr w') (hw:Wz wr (B1+2) z)
  (ho:w'.ownsRow (B1+2) 50 8 (.slice A7 (n+1) c7) (n+1) (cem (Zs++[z]))) (hz:(d.s)[n]?=some (ze z)):Rg8 w B1 T y d A1 A2 c1 c2 Zs A3 c3 n z A7 c7 w':=by
 obtain ⟨h1,h2,h3,h4,h5,h6,h7,h8,h9,⟨ha,hb2,hc⟩,hd⟩:=h;have he:=h6.grownEq h9 (by decide) hg;have hs:=hb.size;have kc:∀i,w'.cell? ⟨T,i,none⟩=wr.cell? ⟨T,i,none⟩:=fun i=>World.cell?_of_block (w:=wr) he;have kf:∀i,w'.frozen? ⟨T,i,none⟩=wr.frozen? ⟨T,i,none⟩:=fun i=>World.frozen?_of_block (w:=wr) he
 refine ⟨h1.trans (hb.mono (by omega)),h2.belowB hb (by omega),⟨h3.1.belowB hb (by omega),h3.2.belowB hb (by omega)⟩,⟨Nat.lt_of_lt_of_le h4.1 hs,fun i=>(kf i).trans (h4.2 i)⟩,
  ⟨Nat.lt_of_lt_of_le h5.1 hs,(kc 0).trans h5.2.1,(kc 1).trans h5.2.2.1,(kc 2).trans h5.2.2.2.1,(kc 3).trans h5.2.2.2.2⟩,h6.grown h9 (by decide) hg,zak h7 h9 (by decide) hg,zak h8 h9 (by decide) hg,ho,⟨fun t ht=>?_,?_,hc⟩,hd⟩
 ·rcases List.mem_append.1 ht with ht | ht
  ·exact (ha t ht).grown h9 hg
  ·rw [List.mem_singleton.1 ht];exact hw.grown h9 hg
 ·rw [List.map_append,hb2,List.take_add_one,hz];rfl
theorem Rg8.put {z:Me} {A7:Option Addr} {c7:Nat} (h:Rg8 w B1 T y d A1 A2 c1 c2 Zs A3 c3 n z A7 c7 wr):Rc8 w B1 T y d A1 A2 c1 c2 (Zs++[z]) A7 c7 (n+1) (wr.setCell ⟨T,2,none⟩ (.slice A7 (n+1) c7)):=by
 obtain ⟨h1,h2,h3,h4,h5,h6,h7,h8,h9,⟨ha,hb2,hc⟩,hd⟩:=h;refine ⟨h1.setCell (show w.heap.size≤T by omega) _,h2.other (show T≠B1 by omega) _,⟨h3.1.set _ _,h3.2.other (show T≠B1+1 by omega) _⟩,h4.set _ _,?_,h6.set _ _ _,zt h7 h6 (by decide) _ _,zt h8 h6 (by decide) _ _,zt h9 h6 (by decide) _ _,⟨fun t ht=>?_,hb2,hc⟩,hd⟩
 ·obtain ⟨i0,i1,i2,i3,i4⟩:=h5;refine ⟨by simpa using i0,?_,?_,?_,?_⟩<;>simp [go_sem,i1,i2,i3,i4]
 ·obtain ⟨j1,j2,j3,j4⟩:=ha t ht;exact ⟨j1,zt j2 h6 (by decide) _ _,zt j3 h6 (by decide) _ _,zt j4 h6 (by decide) _ _⟩
theorem Rc8.fin (h:Rc8 w B1 T y d A1 A2 c1 c2 Zs A3 c3 d.s.length wr) (hq:Hq w y d) :
  Db (zpj wr (B1+1) ⟨A1,c1,A2,c2,A3,c3,Zs⟩ d) (B1+1) ⟨A1,c1,A2,c2,A3,c3,Zs⟩ d∧Hq (zpj wr (B1+1) ⟨A1,c1,A2,c2,A3,c3,Zs⟩ d) ⟨A1,c1,A2,c2,A3,c3,Zs⟩ d ∧
   Ow (zpj wr (B1+1) ⟨A1,c1,A2,c2,A3,c3,Zs⟩ d) w.heap.size (zpj wr (B1+1) ⟨A1,c1,A2,c2,A3,c3,Zs⟩ d).heap.size ⟨A1,c1,A2,c2,A3,c3,Zs⟩ d∧Below w.heap.size w (zpj wr (B1+1) ⟨A1,c1,A2,c2,A3,c3,Zs⟩ d):=by
 obtain ⟨h1,h2,h3,h4,h5,h6,h7,h8,h9,⟨ha,hb2,hc⟩,hd⟩:=h;rw [List.take_of_length_le (Nat.le_refl _)] at hb2;have k4:=zbg h7 (show B1+1<B1+2 by omega) ⟨A1,c1,A2,c2,A3,c3,Zs⟩ d;have k5:=zbg h8 (show B1+1<B1+2 by omega) ⟨A1,c1,A2,c2,A3,c3,Zs⟩ d;have k6:=zbg h9 (show B1+1<B1+2 by omega) ⟨A1,c1,A2,c2,A3,c3,Zs⟩ d;have k7:∀z∈Zs,Wz (zpj wr (B1+1) ⟨A1,c1,A2,c2,A3,c3,Zs⟩ d) (B1+2) z:=fun z hz=>(ha z hz).put4 (by omega) _ d;exact ⟨zyl h3.2 _ d,⟨(Rv.of_own k4 hq.1.1).1,(Rv.of_own k5 hq.2.1.1).1,(Rm.of_own k6 (fun z hz=>(k7 z hz).ok)).1,hb2,hq.2.2.2.2⟩,⟨Rs.of_own k4 (by omega) (Nat.le_refl _),Rs.of_own k5 (by omega) (Nat.le_refl _),Rs.of_own k6 (by omega) (Nat.le_refl _),fun z hz=>(k7 z hz).ow (by omega) (Nat.le_refl _)⟩,zn2 h1 (by omega) _ d⟩
end
theorem zfd {w wE:World} {B1 T:Nat} {y:Ma} {d:Md} {A1 A2:Option Addr} {c1 c2:Nat} (hS:Sx w wE [fF B1,fD B1 y d,fMz (B1+1),fQm y d]) (hB:w.heap.size=B1) (hT:T8 wE T) (hTB:B1+2≤T)
  (o1:wE.ownsRow (B1+2) 139 3 (.slice A1 d.g.length c1) d.g.length (cev d.g)) (o2:wE.ownsRow (B1+2) 139 3 (.slice A2 d.p.length c2) d.p.length (cev d.p)) :
  Hid (Rc8 w B1 T y d A1 A2 c1 c2 [] none 0 0 ((((wE.setCell ⟨T,0,none⟩ (.slice A1 d.g.length c1)).setCell ⟨T,1,none⟩ (.slice A2 d.p.length c2)).setCell ⟨T,2,none⟩ (.slice none 0 0)).setCell ⟨T,3,none⟩ (.int .i64 d.i))):=by
 obtain ⟨s1,s2,s3,s4,-⟩:=hS;obtain ⟨t1,t2,t3⟩:=hT;have hne:∀i,(⟨T,i,none⟩:Addr).block≠B1:=fun i=>by show T≠B1;omega
 have hne2:∀i,(⟨T,i,none⟩:Addr).block≠B1+1:=fun i=>by show T≠B1+1;omega
 have hle:∀i,w.heap.size≤(⟨T,i,none⟩:Addr).block:=fun i=>by show w.heap.size≤T;omega
 have b0:=t3.set T 0 (.slice A1 d.g.length c1);have b1:=b0.set T 1 (.slice A2 d.p.length c2);have b2:=b1.set T 2 (.slice none 0 0)
 refine ⟨(((s1.setCell (hle 0) _).setCell (hle 1) _).setCell (hle 2) _).setCell (hle 3) _,(((s3.other (hne 0) _).other (hne 1) _).other (hne 2) _).other (hne 3) _,⟨(((s4.1.set _ _).set _ _).set _ _).set _ _,(((s4.2.other (hne2 0) _).other (hne2 1) _).other (hne2 2) _).other (hne2 3) _⟩,
  (((t1.set _ _).set _ _).set _ _).set _ _,?_,b2.set _ _ _,zt (zt (zt (zt o1 t3 (by decide) _ _) b0 (by decide) _ _) b1 (by decide) _ _) b2 (by decide) _ _,zt (zt (zt (zt o2 t3 (by decide) _ _) b0 (by decide) _ _) b1 (by decide) _ _) b2 (by decide) _ _,World.ownsRow_nil _ _ _ _,⟨fun z hz=>(by cases hz),by simp,hB⟩,hTB⟩
 obtain ⟨i0,i1,i2,i3,i4⟩:=t2;refine ⟨by simpa using i0,?_,?_,?_,?_⟩<;>simp [go_sem,i1,i2,i3,i4]
theorem zqq (tm:Array Value) (w':World) (T:Nat) (y:Ma) (d:Md) (hT:tm[2]?.getD undef=.pointer (some ⟨T,0,none⟩)) (hM:Db w' T y d) (R:Ending→World→Prop)
  (hR:R (.returned (dv y d)) w'):bodyPost Tryz.prog Tryz.f10 R .ret { tmps:=tm,defers:=[]} w':=by
 obtain ⟨h0,c1,c2,c3,c4⟩:=hM;exact bodyPost_ret (v:=dv y d) (by simp [results,Tryz.results10,go_sem,hT,c1,c2,c3,c4]) rfl hR
theorem zs0 (y:Ma) (d:Md) (w:World) (hq:Hq w y d) (bb1:d.g.length≤1000) (bb2:d.p.length≤1000) (bb3:d.s.length≤1000) (bb4:∀z∈y.Z,z.m.a.length≤1000∧z.m.l.length≤1000∧z.x.k≤1000) :
  Calls Tryz.prog 10 #[dv y d] w fun r w'=>∃t,r=.returned (dv t d)∧Hq w' t d∧Ow w' w.heap.size w'.heap.size t d∧Below w.heap.size w w':=by
 obtain ⟨i0,hi,hz0,hz1,hz2⟩:=info_parts Tryz.info5;obtain ⟨G,gc,P,pc,A,c,Z⟩:=y;have HZL:=zhy hq.zlen;have HZA:=zhy (fun (i:Nat) (h1:i<Z.length) (h2:i<d.s.length)=>hq.zat h1 h2);dsimp only at HZL HZA bb4;have HQ0:=zhy hq;have HB4:=zhy bb4
 have S0:Hid (Sx w ((w.alloc (zn ⟨G,gc,P,pc,A,c,Z⟩ d)).alloc (zn Ma.zero Md.zero)) [fF w.heap.size,fD w.heap.size ⟨G,gc,P,pc,A,c,Z⟩ d,fMz (w.heap.size+1),fQm ⟨G,gc,P,pc,A,c,Z⟩ d]):=by
  have h1:=(((Sx.start w).add (fQm ⟨G,gc,P,pc,A,c,Z⟩ d) hq).mkD ⟨G,gc,P,pc,A,c,Z⟩ d).mkD Ma.zero Md.zero;have h2:=Db.new (w.alloc (zn ⟨G,gc,P,pc,A,c,Z⟩ d)) Ma.zero Md.zero;have h3:=Mf.new (w.alloc (zn ⟨G,gc,P,pc,A,c,Z⟩ d)) #[.slice none 0 0,.slice none 0 0,.slice none 0 0,.int .i64 0] 25;rw [qn] at h1 h2 h3;exact ⟨h1.1,(Mf.new w _ _).keep qh,h1.2.2.1,⟨h3,h2⟩,h1.2.2.2⟩
 clear hq bb4;go_enter Tryz.func10,Tryz.ntmps10;go_upto_region 1 with (fail);have S0':Hid (Sx w ((w.alloc (.cells #[.slice G d.g.length gc,.slice P d.p.length pc,.slice A d.s.length c,.int .i64 d.i] 25)).alloc (.cells #[.slice none 0 0,.slice none 0 0,.slice none 0 0,.int .i64 0] 25)) [fF w.heap.size,fD w.heap.size ⟨G,gc,P,pc,A,c,Z⟩ d,fMz (w.heap.size+1),fQm ⟨G,gc,P,pc,A,c,Z⟩ d]):=S0;clear S0;generalize (w.alloc (.cells #[.slice G d.g.length gc,.slice P d.p.length pc,.slice A d.s.length c,.int .i64 d.i] 25)).alloc (.cells #[.slice none 0 0,.slice none 0 0,.slice none 0 0,.int .i64 0] 25)=w0 at *;have S0:=S0';clear S0';obtain ⟨B1,hB1⟩:∃B,w.heap.size=B:=⟨_,rfl⟩;have HBQ:=zhy hB1;rw [hB1] at S0 ⊢;clear hB1;rename_i Qx Kx hKx
 have TAIL:∀(T:Nat) (A1:Option Addr) (c1:Nat) (A2:Option Addr) (c2:Nat) (wE:World) (HC:Hid (Rc8 w B1 T ⟨G,gc,P,pc,A,c,Z⟩ d A1 A2 c1 c2 [] none 0 0 wE)) (u4 u5 u6 u7 u8 u9 u10 u11 u12 u13 u14:Value),
   Exit.then Kx Qx .normal { tmps:=#[dv ⟨G,gc,P,pc,A,c,Z⟩ d,.pointer (some ⟨B1,0,none⟩),.pointer (some ⟨B1+1,0,none⟩),.pointer (some ⟨T,0,none⟩),u4,u5,u6,u7,u8,u9,u10,u11,u12,u13,u14,undef,undef,undef,undef,undef,undef,undef,undef,undef,undef,undef,undef,undef,undef,undef,undef,undef,undef,undef,undef,undef,undef,undef,undef,undef,undef,undef,undef,undef,undef,undef,undef,undef],defers:=[]} wE:=by
  intro T A1 c1 A2 c2 wE HC u4 u5 u6 u7 u8 u9 u10 u11 u12 u13 u14
  clear S0
  go_wp2_with fail
  go_loopw [4] (fun i wr=>∃(j:Nat) (Zs:List Me) (A3:Option Addr) (c3:Nat),j≤d.s.length∧i=.int .i64 j∧Hid (Rc8 w B1 T ⟨G,gc,P,pc,A,c,Z⟩ d A1 A2 c1 c2 Zs A3 c3 j wr)) (fun i _=>d.s.length-(intOf i).toNat)
  case atStart=>exact ⟨0,[],none,0,by omega,rfl,HC⟩
  case round =>
   obtain ⟨j,Zs,A3,c3,hj,rfl,HR⟩:=hrel
   clear HC
   obtain ⟨y0,y1,y2,y3,y4⟩:=HR.o.2.1
   dsimp only at y1 y2 y3
   by_cases h1:j<d.s.length
   ·have h1z:j<Z.length:=by rw [HZL.o];exact h1
    have hq:=HQ0.o.keep HR.o.1
    obtain ⟨ad,hA,h8,hok⟩:=hq.2.2.1.at_ h1z
    dsimp only at hA h8 hok
    subst hA
    have HZE:Hid (ze Z[j]=d.s[j]):=zhy (HZA.o j h1z h1).symm
    have HZB:=zhy (HB4.o Z[j] (List.getElem_mem h1z))
    clear hq
    generalize Z[j]=z at *
    obtain ⟨x,m,k⟩:=z
    obtain ⟨q1,q2,q3⟩:=HZB.o
    dsimp only at q1 q2 q3
    have HOK:=zhy hok
    clear hok HZB
    obtain ⟨x0,x1,x2,x3,x4,x5,x6,x7⟩:=h8
    dsimp only at x0 x1 x2 x3 x4 x5 x6 x7
    have Q1:=zhy (Tz.new wr x m)
    go_upto_region 6 with (fail)
    obtain ⟨wb,hwb⟩:∃wb,wr.alloc (zbk x m)=wb:=⟨_,rfl⟩
    rw [hwb] at Q1
    rw [zbk] at hwb
    rw [hwb]
    clear hwb x0 x1 x2 x3 x4 x5 x6 x7 y0 y1 y2 y3 y4
    obtain ⟨Tb,hTb⟩:∃Tb,wr.heap.size=Tb:=⟨_,rfl⟩
    have HTb:=zhy hTb
    rw [hTb] at Q1 ⊢
    clear hTb
    obtain ⟨z0,z1,z2,z3,z4,z5,z6,z7,z8⟩:=Q1.o.2.2
    go_wp2_with (at_builtin;refine qa _ rfl (.tmp 27) (.tmp 29) 40 rfl wb.heap.size 5 i0 Tryz.underlying40 hi hz0 hz1 hz2 _ 0 [] rfl (World.ownsRow_lit wb #[] 0 (Nat.le_refl _) (Nat.zero_le _) rfl) x.A m.a.length x.c m.a rfl (Rd.alloc (HOK.o.1.1.keep (HTb.o▸Q1.o.1)) _) rfl (by omega) (by simp) ?_)
    intro A4 c4 w1 ho1 hg1 hb1 _
    have Q2:=zhy (Q1.o.call (qh.trans hb1))
    have HO4:Hid (w1.ownsRow (Tb+1) 5 1 (.slice A4 m.a.length c4) m.a.length (cel m.a)):=qg (by simpa using ho1) (Nat.succ_le_of_lt Q1.o.2.1.1)
    have Q3:=zhy (Q2.o.set 0 (.slice A4 m.a.length c4) (Q2.o.2.2.setA A4 c4 m.a _ rfl))
    have HO4b:Hid ((w1.setCell ⟨Tb,0,none⟩ (.slice A4 m.a.length c4)).ownsRow (Tb+1) 5 1 (.slice A4 m.a.length c4) m.a.length (cel m.a)):=ownsRow_setCell_below HO4.o (by show Tb<_;omega) _
    clear ho1 hg1 hb1 Q1 HO4 z0 z1 z2 z3 z4 z5 z6 z7 z8
    obtain ⟨f0,f1,f2,f3,f4,f5,f6,f7⟩:=Q2.o.2.1.keepM
    obtain ⟨z0,z1,z2,z3,z4,z5,z6,z7,z8⟩:=Q2.o.2.2
    go_upto_region 7 with (fail)
    clear f0 f1 f2 f3 f4 f5 f6 f7 z0 z1 z2 z3 z4 z5 z6 z7 z8 Q2
    generalize w1.setCell ⟨Tb,0,none⟩ (.slice A4 m.a.length c4)=w2 at Q3 HO4b ⊢
    obtain ⟨z0,z1,z2,z3,z4,z5,z6,z7,z8⟩:=Q3.o.2.2
    dsimp only at z1 z2 z8
    go_wp2_with (at_builtin;refine qa _ rfl (.tmp 32) (.tmp 34) 40 rfl w2.heap.size 5 i0 Tryz.underlying40 hi hz0 hz1 hz2 _ 0 [] rfl (World.ownsRow_lit w2 #[] 0 (Nat.le_refl _) (Nat.zero_le _) rfl) x.B m.l.length x.d m.l rfl (Rd.alloc (HOK.o.1.2.1.keep (HTb.o▸Q3.o.1)) _) rfl (by omega) (by simp) ?_)
    intro A5 c5 w3 ho1 hg1 hb1 _
    have Q4:=zhy (Q3.o.call (qh.trans hb1))
    have HO5:Hid (w3.ownsRow (Tb+1) 5 1 (.slice A5 m.l.length c5) m.l.length (cel m.l)):=qg (by simpa using ho1) (Nat.succ_le_of_lt Q3.o.2.1.1)
    have HO4c:=zhy (qb HO4b.o (qh.trans hb1) (Nat.le_refl _))
    have Q5:=zhy (Q4.o.set 1 (.slice A5 m.l.length c5) (Q4.o.2.2.setB A5 c5 m.l _ rfl))
    have HO4d:Hid ((w3.setCell ⟨Tb,1,none⟩ (.slice A5 m.l.length c5)).ownsRow (Tb+1) 5 1 (.slice A4 m.a.length c4) m.a.length (cel m.a)):=ownsRow_setCell_below HO4c.o (by show Tb<_;omega) _
    have HO5b:Hid ((w3.setCell ⟨Tb,1,none⟩ (.slice A5 m.l.length c5)).ownsRow (Tb+1) 5 1 (.slice A5 m.l.length c5) m.l.length (cel m.l)):=ownsRow_setCell_below HO5.o (by show Tb<_;omega) _
    clear ho1 hg1 hb1 Q3 HO4b HO4c HO5 z0 z1 z2 z3 z4 z5 z6 z7 z8
    obtain ⟨f0,f1,f2,f3,f4,f5,f6,f7⟩:=Q4.o.2.1.keepM
    obtain ⟨z0,z1,z2,z3,z4,z5,z6,z7,z8⟩:=Q4.o.2.2
    dsimp only at z1 z2 z8
    go_upto_region 8 with (fail)
    clear f0 f1 f2 f3 f4 f5 f6 f7 z0 z1 z2 z3 z4 z5 z6 z7 z8 Q4
    generalize w3.setCell ⟨Tb,1,none⟩ (.slice A5 m.l.length c5)=w4 at Q5 HO4d HO5b ⊢
    obtain ⟨z0,z1,z2,z3,z4,z5,z6,z7,z8⟩:=Q5.o.2.2
    dsimp only at z1 z2 z8
    go_wp2_with fail
    refine (zr3 x.D x.e x.k k _ (HOK.o.2.1.keep (HTb.o▸Q5.o.1)) HOK.o.2.2 (by omega)).mono ?_
    rintro r w5 ⟨A6,c6,rfl,ho1,hb1⟩
    have Q6:=zhy (Q5.o.call hb1)
    have HO6:=zhy (qg ho1 (Nat.succ_le_of_lt Q5.o.2.1.1))
    have HO4e:=zhy (qb HO4d.o hb1 (Nat.le_refl _))
    have HO5c:=zhy (qb HO5b.o hb1 (Nat.le_refl _))
    have Q7:=zhy (Q6.o.set (x2:=⟨A4,c4,A5,c5,A6,x.k,c6⟩) 7 (.slice A6 x.k c6) (Q6.o.2.2.setD A6 x.k c6))
    have HW:Hid (Wz (w5.setCell ⟨Tb,7,none⟩ (.slice A6 x.k c6)) (Tb+1) ⟨⟨A4,c4,A5,c5,A6,x.k,c6⟩,m,k⟩):=
     zhy ⟨⟨HOK.o.1.1.byt,HOK.o.1.2.1.byt,HOK.o.1.2.2,HOK.o.2.1.1,HOK.o.2.2⟩,ownsRow_setCell_below HO4e.o (by show Tb<_;omega) _,ownsRow_setCell_below HO5c.o (by show Tb<_;omega) _,ownsRow_setCell_below HO6.o (by show Tb<_;omega) _⟩
    clear ho1 hb1 Q5 HO4d HO5b HO4e HO5c HO6 z0 z1 z2 z3 z4 z5 z6 z7 z8
    obtain ⟨f0,f1,f2,f3,f4,f5,f6,f7⟩:=Q6.o.2.1.keepM
    obtain ⟨z0,z1,z2,z3,z4,z5,z6,z7,z8⟩:=Q6.o.2.2
    dsimp only at z1 z2 z8
    go_upto_region 9 with (fail)
    clear f0 f1 f2 f3 f4 f5 f6 f7 z0 z1 z2 z3 z4 z5 z6 z7 z8 Q6
    generalize w5.setCell ⟨Tb,7,none⟩ (.slice A6 x.k c6)=w6 at Q7 HW ⊢
    have hTB:=HR.o.2.2.2.2.2.2.2.2.2.2
    have hTw:B1+2≤Tb:=by have:=HR.o.2.2.2.1.1;rw [HTb.o] at this;omega
    have HR2:=zhy (HR.o.call (w':=w6) (HTb.o▸Q7.o.1))
    have HW2:=zhy (HW.o.based (Nat.le_succ_of_le hTw))
    clear HW HR HOK
    have HR3:=zhy (HR2.o.call (qh (a:=.cells (ce8 ⟨⟨A4,c4,A5,c5,A6,x.k,c6⟩,m,k⟩).toArray 50)))
    have HW3:=zhy (HW2.o.keep (qh (a:=.cells (ce8 ⟨⟨A4,c4,A5,c5,A6,x.k,c6⟩,m,k⟩).toArray 50)))
    obtain ⟨z0,z1,z2,z3,z4,z5,z6,z7,z8⟩:=Q7.o.2.2
    dsimp only at z1 z2 z8
    obtain ⟨t0,t1,t2,t3,t4⟩:=HR2.o.2.2.2.2.1
    go_wp2_with (at_builtin;refine zef _ rfl (.tmp 42) (.tmp 44) rfl (B1+2) (.slice A3 j c3) j Zs rfl HR3.o.2.2.2.2.2.2.2.2.1 ⟨w6.heap.size,0,none⟩ ⟨⟨A4,c4,A5,c5,A6,x.k,c6⟩,m,k⟩ rfl (zzb w6 _ _) (by omega) (Nat.le_trans hTB (Nat.le_of_lt HR3.o.2.2.2.1.1)) ?_)
    intro A7 c7 w7 ho1 hg1 hb1 _
    have HR4:=zhy (HR3.o.grow hg1 hb1 HW3.o ho1 (by rw [zg7 h1];exact congrArg some HZE.o.symm))
    have HR5:=zhy (HR4.o.put)
    clear ho1 hg1 hb1 HR2 HR3 HW2 HW3 Q7 z0 z1 z2 z3 z4 z5 z6 z7 z8 t0 t1 t2 t3 t4
    obtain ⟨t0,t1,t2,t3,t4⟩:=HR4.o.2.2.2.2.1
    have f2:=HR4.o.2.2.2.1.2 2
    go_wp2_with fail
    go_roundw
    case rel=>exact ⟨j+1,Zs++[⟨⟨A4,c4,A5,c5,A6,x.k,c6⟩,m,k⟩],A7,c7,by omega,by go_num,HR5⟩
    case measure=>simp [intOf];omega
   ·obtain rfl:j=d.s.length:=by omega
    have HF:=zhy (HR.o.fin HQ0.o)
    obtain ⟨t0,t1,t2,t3,t4⟩:=HR.o.2.2.2.2.1
    obtain ⟨⟨e0,ef⟩,⟨e1,e2,e3,e4,e5⟩⟩:=HR.o.2.2.1
    have f0:=ef 0
    have f1:=ef 1
    have f2:=ef 2
    have f3:=ef 3
    clear HR ef
    go_wp2_with fail
    obtain ⟨h1,h2,h3,h4⟩:=HF.o
    exact zqq _ _ (B1+1) ⟨A1,c1,A2,c2,A3,c3,Zs⟩ d rfl h1 _ ⟨_,rfl,h2,h3,h4⟩
 refine zu [10] (S:=fun w'=>Hid (Sx w w' [fF B1,fD B1 ⟨G,gc,P,pc,A,c,Z⟩ d,fMz (B1+1),fQm ⟨G,gc,P,pc,A,c,Z⟩ d])) (by kernel_rfl) (Hsx.drew S0) (fun hHeld=>?_);refine qd (i:=0) (v:=?_) rfl (by kernel_rfl) (fun _ _ _ h=>h) (Or.inl ⟨by rfl,?_⟩) (Or.inr (by assumption)) ?_;rotate_left 1
 ·intro w _;go_simp;try with_reducible rfl
 (try simp only [Act.put,zg1,zg2,zg3,zg4,zg5,zg6]);refine qq (i:=1) (v:=?_) rfl (by kernel_rfl) (fun _ _ _ h=>h) (Or.inl ⟨by rfl,?_⟩) (by assumption) ?_;rotate_left 1
 ·intro w hSw;(try dsimp only at hSw);obtain ⟨-,-,⟨y0,y1,y2,y3,y4⟩,-⟩:=hSw.o;go_simp;try with_reducible rfl
 (try simp only [Act.put,zg1,zg2,zg3,zg4,zg5,zg6]);refine qd (i:=3) (v:=?_) rfl (by kernel_rfl) (fun _ _ _ h=>h) (Or.inl ⟨by rfl,?_⟩) (Or.inr (by assumption)) ?_;rotate_left 1
 ·intro w _;go_simp;try with_reducible rfl
 (try simp only [Act.put,zg1,zg2,zg3,zg4,zg5,zg6]);refine qq (i:=4) (v:=?_) rfl (by kernel_rfl) (fun _ _ _ h=>h) (Or.inl ⟨by rfl,?_⟩) (by assumption) ?_;rotate_left 1
 ·intro w hSw;(try dsimp only at hSw);obtain ⟨-,-,⟨y0,y1,y2,y3,y4⟩,-⟩:=hSw.o;go_simp;try with_reducible rfl
 (try simp only [Act.put,zg1,zg2,zg3,zg4,zg5,zg6]);refine qd (i:=6) (v:=?_) rfl (by kernel_rfl) (fun _ _ _ h=>h) (Or.inl ⟨by rfl,?_⟩) (Or.inr (by assumption)) ?_;rotate_left 1
 ·intro w _;go_simp;try with_reducible rfl
 (try simp only [Act.put,zg1,zg2,zg3,zg4,zg5,zg6]);refine qq (i:=7) (v:=?_) rfl (by kernel_rfl) (fun _ _ _ h=>h) (Or.inl ⟨by rfl,?_⟩) (by assumption) ?_;rotate_left 1
 ·intro w hSw;(try dsimp only at hSw);obtain ⟨-,-,⟨y0,y1,y2,y3,y4⟩,-⟩:=hSw.o;go_simp;try with_reducible rfl
 (try simp only [Act.put,zg1,zg2,zg3,zg4,zg5,zg6]);refine qp (rs:=[2,9]) (by kernel_rfl) (by simp) ?_;refine zad.cons rfl (fun K hK=>?_) ?_
 ·skip;go_simp;refine (zbd G gc d.g.length d.g _ hHeld.o.2.2.2.2.1.1 rfl (by omega)).mono ?_;rintro r wb1 ⟨A1,c1,rfl,ho,hb⟩;have HO1:=zhy (qg ho (Nat.succ_le_of_lt hHeld.o.2.2.2.1.1.1));have HB1:=zhy hb;clear ho hb;go_wp2_with fail;refine hK.out _ _ (Hsx.call HB1.o hHeld) (fun hHeld=>?_);clear hK K;(try simp only [Act.put,zg1,zg2,zg3,zg4,zg5,zg6]);refine qp (rs:=[5,9]) (by kernel_rfl) (by simp) ?_;refine zad.cons rfl (fun K hK=>?_) ?_
  ·skip;go_simp;refine (zbd P pc d.p.length d.p _ hHeld.o.2.2.2.2.1.2.1 rfl (by omega)).mono ?_;rintro r wb2 ⟨A2,c2,rfl,ho,hb⟩;have HO2:=zhy (qg ho (Nat.succ_le_of_lt hHeld.o.2.2.2.1.1.1));have HB2:=zhy hb;clear ho hb;replace HO1:=zhy (qb HO1.o HB2.o (Nat.le_refl _));go_wp2_with fail;refine hK.out _ _ (Hsx.call HB2.o hHeld) (fun hHeld=>?_);clear hK K;(try simp only [Act.put,zg1,zg2,zg3,zg4,zg5,zg6]);refine qd (i:=8) (v:=?_) rfl (by kernel_rfl) (fun _ _ _ h=>h) (Or.inl ⟨by rfl,?_⟩) (Or.inr (by assumption)) ?_;rotate_left 1
   ·intro w _;go_simp;try with_reducible rfl
   (try simp only [Act.put,zg1,zg2,zg3,zg4,zg5,zg6]);refine qp (rs:=[9]) (by kernel_rfl) (by simp) ?_;refine zad.cons rfl (fun K hK=>?_) zad.nil;go_simp;have HT:=zhy (T8.new wb2);have SA:=zhy (hHeld.o.call (qh (w:=wb2) (a:=.cells #[.slice none 0 0,.slice none 0 0,.slice none 0 0,.int .i64 0] 25)));show K _ (wb2.alloc (.cells #[.slice none 0 0,.slice none 0 0,.slice none 0 0,.int .i64 0] 25));obtain ⟨T,hT⟩:∃T,wb2.heap.size=T:=⟨_,rfl⟩;have hTB:B1+2≤T:=by rw [←hT];exact Nat.succ_le_of_lt hHeld.o.2.2.2.1.1.1
   have HT:Hid (T8 (wb2.alloc (.cells #[.slice none 0 0,.slice none 0 0,.slice none 0 0,.int .i64 0] 25)) T):=hT▸HT;rw [hT];clear hT;replace HO1:=zhy (qb HO1.o (qh (w:=wb2) (a:=.cells #[.slice none 0 0,.slice none 0 0,.slice none 0 0,.int .i64 0] 25)) (Nat.le_refl _));replace HO2:=zhy (qb HO2.o (qh (w:=wb2) (a:=.cells #[.slice none 0 0,.slice none 0 0,.slice none 0 0,.int .i64 0] 25)) (Nat.le_refl _));generalize wb2.alloc (.cells #[.slice none 0 0,.slice none 0 0,.slice none 0 0,.int .i64 0] 25)=wa2 at *;refine hK.out _ _ (SA) (fun hHeld=>?_);clear hK K;(try simp only [Act.put,zg1,zg2,zg3,zg4,zg5,zg6]);refine qp (rs:=[10]) (by kernel_rfl) (by simp) ?_;refine zad.late rfl (by kernel_rfl) (fun K hK=>?_) zad.nil;have SZ:=hHeld;obtain ⟨⟨h20,h21⟩,⟨h10,h11,h12,h13,h14⟩,-⟩:=HT.o;have h30:=h21 0;have h31:=h21 1;have h32:=h21 2;have h33:=h21 3;clear h21;go_simp;refine hK.out _ _ ?_;clear hK K;(try simp only [Act.put,zg1,zg2,zg3,zg4,zg5,zg6]);refine jm (by kernel_rfl) ?_ _;exact TAIL _ _ _ _ _ _ (zfd SZ.o HBQ.o HT.o hTB HO1.o HO2.o) _ _ _ _ _ _ _ _ _ _ _
  refine zad.cons rfl (fun K hK=>?_) zad.nil;go_simp;have HT:=zhy (T8.new wb1);have SA:=zhy (hHeld.o.call (qh (w:=wb1) (a:=.cells #[.slice none 0 0,.slice none 0 0,.slice none 0 0,.int .i64 0] 25)));show K _ (wb1.alloc (.cells #[.slice none 0 0,.slice none 0 0,.slice none 0 0,.int .i64 0] 25));obtain ⟨T,hT⟩:∃T,wb1.heap.size=T:=⟨_,rfl⟩;have hTB:B1+2≤T:=by rw [←hT];exact Nat.succ_le_of_lt hHeld.o.2.2.2.1.1.1
  have HT:Hid (T8 (wb1.alloc (.cells #[.slice none 0 0,.slice none 0 0,.slice none 0 0,.int .i64 0] 25)) T):=hT▸HT;rw [hT];clear hT;replace HO1:=zhy (qb HO1.o (qh (w:=wb1) (a:=.cells #[.slice none 0 0,.slice none 0 0,.slice none 0 0,.int .i64 0] 25)) (Nat.le_refl _));generalize wb1.alloc (.cells #[.slice none 0 0,.slice none 0 0,.slice none 0 0,.int .i64 0] 25)=wa1 at *;refine hK.out _ _ (SA) (fun hHeld=>?_);clear hK K;(try simp only [Act.put,zg1,zg2,zg3,zg4,zg5,zg6]);refine qp (rs:=[5]) (by kernel_rfl) (by simp) ?_;refine zad.cons rfl (fun K hK=>?_) zad.nil;go_simp;refine (zbd P pc d.p.length d.p _ hHeld.o.2.2.2.2.1.2.1 rfl (by omega)).mono ?_;rintro r wb2 ⟨A2,c2,rfl,ho,hb⟩;have HO2:=zhy (qg ho (Nat.succ_le_of_lt hHeld.o.2.2.2.1.1.1));have HB2:=zhy hb;clear ho hb;replace HT:=zhy (HT.o.keep HB2.o);replace HO1:=zhy (qb HO1.o HB2.o (Nat.le_refl _));go_wp2_with fail;refine hK.out _ _ (Hsx.call HB2.o hHeld) (fun hHeld=>?_);clear hK K;(try simp only [Act.put,zg1,zg2,zg3,zg4,zg5,zg6]);refine qd (i:=8) (v:=?_) rfl (by kernel_rfl) (fun _ _ _ h=>h) (Or.inl ⟨by rfl,?_⟩) (Or.inr (by assumption)) ?_;rotate_left 1
  ·intro w _;go_simp;try with_reducible rfl
  (try simp only [Act.put,zg1,zg2,zg3,zg4,zg5,zg6]);refine qp (rs:=[10]) (by kernel_rfl) (by simp) ?_;refine zad.late rfl (by kernel_rfl) (fun K hK=>?_) zad.nil;have SZ:=hHeld;obtain ⟨⟨h20,h21⟩,⟨h10,h11,h12,h13,h14⟩,-⟩:=HT.o;have h30:=h21 0;have h31:=h21 1;have h32:=h21 2;have h33:=h21 3;clear h21;go_simp;refine hK.out _ _ ?_;clear hK K;(try simp only [Act.put,zg1,zg2,zg3,zg4,zg5,zg6]);refine jm (by kernel_rfl) ?_ _;exact TAIL _ _ _ _ _ _ (zfd SZ.o HBQ.o HT.o hTB HO1.o HO2.o) _ _ _ _ _ _ _ _ _ _ _
 refine zad.cons rfl (fun K hK=>?_) zad.nil;go_simp;have HT:=zhy (T8.new w0.drew);have SA:=zhy (hHeld.o.call (qh (w:=w0.drew) (a:=.cells #[.slice none 0 0,.slice none 0 0,.slice none 0 0,.int .i64 0] 25)));show K _ (w0.drew.alloc (.cells #[.slice none 0 0,.slice none 0 0,.slice none 0 0,.int .i64 0] 25));obtain ⟨T,hT⟩:∃T,w0.heap.size=T:=⟨_,rfl⟩;have hTB:B1+2≤T:=by rw [←hT];exact Nat.succ_le_of_lt hHeld.o.2.2.2.1.1.1
 have HT:Hid (T8 (w0.drew.alloc (.cells #[.slice none 0 0,.slice none 0 0,.slice none 0 0,.int .i64 0] 25)) T):=hT▸HT;rw [hT];clear hT;generalize w0.drew.alloc (.cells #[.slice none 0 0,.slice none 0 0,.slice none 0 0,.int .i64 0] 25)=wa0 at *;refine hK.out _ _ (SA) (fun hHeld=>?_);clear hK K;(try simp only [Act.put,zg1,zg2,zg3,zg4,zg5,zg6]);refine qp (rs:=[2]) (by kernel_rfl) (by simp) ?_;refine zad.cons rfl (fun K hK=>?_) zad.nil;go_simp;refine (zbd G gc d.g.length d.g _ hHeld.o.2.2.2.2.1.1 rfl (by omega)).mono ?_;rintro r wb1 ⟨A1,c1,rfl,ho,hb⟩;have HO1:=zhy (qg ho (Nat.succ_le_of_lt hHeld.o.2.2.2.1.1.1));have HB1:=zhy hb;clear ho hb;replace HT:=zhy (HT.o.keep HB1.o);go_wp2_with fail;refine hK.out _ _ (Hsx.call HB1.o hHeld) (fun hHeld=>?_);clear hK K;(try simp only [Act.put,zg1,zg2,zg3,zg4,zg5,zg6]);refine qp (rs:=[5]) (by kernel_rfl) (by simp) ?_;refine zad.cons rfl (fun K hK=>?_) zad.nil;go_simp;refine (zbd P pc d.p.length d.p _ hHeld.o.2.2.2.2.1.2.1 rfl (by omega)).mono ?_;rintro r wb2 ⟨A2,c2,rfl,ho,hb⟩;have HO2:=zhy (qg ho (Nat.succ_le_of_lt hHeld.o.2.2.2.1.1.1));have HB2:=zhy hb;clear ho hb;replace HT:=zhy (HT.o.keep HB2.o);replace HO1:=zhy (qb HO1.o HB2.o (Nat.le_refl _));go_wp2_with fail;refine hK.out _ _ (Hsx.call HB2.o hHeld) (fun hHeld=>?_);clear hK K;(try simp only [Act.put,zg1,zg2,zg3,zg4,zg5,zg6]);refine qd (i:=8) (v:=?_) rfl (by kernel_rfl) (fun _ _ _ h=>h) (Or.inl ⟨by rfl,?_⟩) (Or.inr (by assumption)) ?_;rotate_left 1
 ·intro w _;go_simp;try with_reducible rfl
 (try simp only [Act.put,zg1,zg2,zg3,zg4,zg5,zg6]);refine qp (rs:=[10]) (by kernel_rfl) (by simp) ?_;refine zad.late rfl (by kernel_rfl) (fun K hK=>?_) zad.nil;have SZ:=hHeld;obtain ⟨⟨h20,h21⟩,⟨h10,h11,h12,h13,h14⟩,-⟩:=HT.o;have h30:=h21 0;have h31:=h21 1;have h32:=h21 2;have h33:=h21 3;clear h21;go_simp;refine hK.out _ _ ?_;clear hK K;(try simp only [Act.put,zg1,zg2,zg3,zg4,zg5,zg6]);refine jm (by kernel_rfl) ?_ _;exact TAIL _ _ _ _ _ _ (zfd SZ.o HBQ.o HT.o hTB HO1.o HO2.o) _ _ _ _ _ _ _ _ _ _ _
theorem zxj (y:Ma) (d:Md) (w:World) (hq:Hq w y d) (hg:qG d=false):Calls Tryz.prog 10 #[dv y d] w fun r w'=>∃t,r=.returned (dv t d)∧Hq w' t d∧Ow w' w.heap.size w'.heap.size t d∧Below w.heap.size w w':=by
 obtain ⟨h1,h2,h3,h4⟩:=qd9 hq hg;exact zs0 y d w hq (by omega) (by omega) (by omega) (fun z hz=>by have:=h4 z hz;omega)
theorem zjm (y:Ma) (d:Md) (w:World) (hw:fWM.p w) (hq:Hq w y d):Calls Tryz.prog 3 #[dv y d] w fun e w'=>e=.returned (.bool true)∧Below w.heap.size w w':=by
 obtain ⟨B,hB⟩:∃B,w.heap.size=B:=⟨_,rfl⟩;have S0:=zhy (((Sx.start w).add fWM hw).add (fQm y d) hq |>.mkD y d);rw [hB] at S0;clear hw hq;go_enter Tryz.func3,Tryz.ntmps3;go_upto_region 1 with (fail);change Code.wp _ _ _ _ (w.alloc (zn y d));clear hB;generalize w.alloc (zn y d)=w1 at S0 ⊢;obtain ⟨-,⟨d0,d1,d2,d3,d4⟩,-⟩:=S0.o;go_wp2_with fail;refine (zvv y d w1 S0.o.2.2.1).mono ?_;rintro e w2 ⟨rfl,hb⟩;have S2:=zhy (S0.o.call hb);clear hb S0 d0 d1 d2 d3 d4;obtain ⟨v,hv⟩:∃v,qG d=v:=⟨_,rfl⟩;have HG:=zhy hv;rw [hv];clear hv;cases v with
 | true =>
  go_wp2_with fail;go_ret;exact ⟨rfl,S2.o.1⟩
 | false =>
 have HL40:=zhy (zci HG.o).1;obtain ⟨-,⟨d0,d1,d2,d3,d4⟩,-⟩:=S2.o;go_wp2_with fail;refine (zxj y d w2 S2.o.2.2.1 HG.o).mono ?_;rintro r w3 ⟨t,rfl,hqt,-,hb⟩;obtain ⟨M,hM⟩:∃M,w3.heap.size=M:=⟨_,rfl⟩;have S3:=zhy (((S2.o.call hb).add (fQm t d) hqt).mkD t d);rw [hM] at S3;clear hb hqt S2 d0 d1 d2 d3 d4;go_upto_region 4 with (fail);change Code.wp _ _ _ _ (w3.alloc (zn t d));try rw [hM]
 generalize w3.alloc (zn t d)=w4 at S3 ⊢;clear hM;obtain ⟨X,hX⟩:∃X,ja d=X:=⟨_,rfl⟩;obtain ⟨e,b,L⟩:=X;have HX:=zhy hX;clear hX
 have HL41:Hid (L.length≤40):=zhy (by
  by_cases h:(ja d).1=0
  ·have h2:=zln h;rw [HX.o] at h2;injection h2 with h2 h3;injection h3 with h3 h4;rw [h4,zhs];exact HL40.o
  ·have h2:=zq7 h;rw [HX.o] at h2;dsimp only at h2;rw [h2];simp)
 have HRA:=zhy (zll y d w4 S3.o.2.2.2.2.1 HG.o);rw [HX.o] at HRA;dsimp only at HRA;obtain ⟨-,-,-,⟨d0,d1,d2,d3,d4⟩,-⟩:=S3.o;go_wp2_with fail;refine HRA.o.mono ?_;rintro r w5 ⟨A0,c0,rfl,ho,hb⟩;have S5:Hid (Sx w w5 [fRg ce3 3 A0 c0 L,fD M t d,fQm t d,fD B y d,fQm y d,fWM]):=zhy ((S3.o.call hb).add (fRg ce3 3 A0 c0 L) (Rg.of_own q9 (by decide) ho).1);clear HRA ho hb S3 d0 d1 d2 d3 d4;go_wp2_with fail;go_loopw [6] (fun tv wq=>∃i:Nat,i≤2∧tv=.int .i64 i∧Hid (Sx w wq [fRg ce3 3 A0 c0 L,fD M t d,fQm t d,fD B y d,fQm y d,fWM])) (fun tv _=>2-(intOf tv).toNat)
 case atStart=>exact ⟨0,by omega,rfl,S5⟩
 case round =>
  clear S5;obtain ⟨i,hi,rfl,SQ⟩:=hrel;rename World=>wq;by_cases h1:i<2
  ·have HAC:=zhy (znx t d wq SQ.o.2.2.2.2.2.2.1 SQ.o.2.2.2.1 HG.o);rw [HX.o] at HAC;dsimp only at HAC;obtain ⟨-,-,⟨t0,t1,t2,t3,t4⟩,-⟩:=SQ.o;go_wp2_with fail;refine HAC.o.mono ?_;rintro r w6 ⟨A1,c1,rfl,ho,hb⟩;have HO6:=zhy ho;have HB6:=zhy hb
   have S6:Hid (Sx w6 w6 [fRg ce3 3 A1 c1 L,fRg ce3 3 A0 c0 L,fD M t d,fQm t d,fD B y d,fQm y d,fWM]):=zhy (by
    have h:=(SQ.o.call hb).2;exact ⟨Below.refl _ _,(Rg.of_own q9 (by decide) ho).1,h⟩)
   have HMY:Hid (∀wr,Sx w6 wr [fRg ce3 3 A1 c1 L,fRg ce3 3 A0 c0 L,fD M t d,fQm t d,fD B y d,fQm y d,fWM]→Calls Tryz.prog 13 #[dv t d] wr fun r w'=>r=.returned (.int .i64 e)∧Below wr.heap.size wr w'):=zhy fun wr h=>by
    have:=ztb t d wr h.2.2.2.2.2.2.2.1 h.2.2.2.2.1 HG.o;rw [HX.o] at this;exact this
   have HBL:Hid (∀wr,Sx w6 wr [fRg ce3 3 A1 c1 L,fRg ce3 3 A0 c0 L,fD M t d,fQm t d,fD B y d,fQm y d,fWM]→Calls Tryz.prog 15 #[dv t d] wr fun r w'=>r=.returned (.int .i64 b)∧Below wr.heap.size wr w'):=zhy fun wr h=>by
    have:=zsb t d wr h.2.2.2.2.2.2.2.1 h.2.2.2.2.1 HG.o;rw [HX.o] at this;exact this
   have HRB:Hid (∀wr,Sx w6 wr [fRg ce3 3 A1 c1 L,fRg ce3 3 A0 c0 L,fD M t d,fQm t d,fD B y d,fQm y d,fWM]→Calls Tryz.prog 16 #[dv y d] wr fun r w'=>r=.returned (.int .i64 b)∧Below wr.heap.size wr w'):=zhy fun wr h=>by
    have:=znj y d wr h.2.2.2.2.2.2.1 HG.o;rw [HX.o] at this;exact this
   have HS12:Hid (∀wr,Sx w6 wr [fRg ce3 3 A1 c1 L,fRg ce3 3 A0 c0 L,fD M t d,fQm t d,fD B y d,fQm y d,fWM]→Calls Tryz.prog 14 #[.slice A1 L.length c1,.slice A0 L.length c0] wr fun r w'=>r=.returned (.bool true)∧Below wr.heap.size wr w'):=zhy fun wr h=>zrf A1 A0 c1 c0 L.length L wr h.2.1 h.2.2.1 rfl (by have:=HL41.o;omega);have HS8:Hid (∀wr,Sx w6 wr [fRg ce3 3 A1 c1 L,fRg ce3 3 A0 c0 L,fD M t d,fQm t d,fD B y d,fQm y d,fWM]→Calls Tryz.prog 17 #[dv t d,dv y d] wr fun r w'=>r=.returned (.bool true)∧Below wr.heap.size wr w'):=zhy fun wr h=>zt8 t y d d true wr h.2.2.2.2.1 h.2.2.2.2.2.2.1 (zx5 d);have ne1:(e != e)=false:=by simp
   have ne2:(b != b)=false:=by simp
   have SF:Hid (Sx w6 w6.drew [fRg ce3 3 A1 c1 L,fRg ce3 3 A0 c0 L,fD M t d,fQm t d,fD B y d,fQm y d,fWM]):=Hsx.drew S6;clear ho hb S6 HAC t0 t1 t2 t3 t4;go_upto_region 9 with (fail);refine wp_region_held_drew (S:=fun w'=>Hid (Sx w6 w' [fRg ce3 3 A1 c1 L,fRg ce3 3 A0 c0 L,fD M t d,fQm t d,fD B y d,fQm y d,fWM])) (by kernel_rfl) (SF) (fun hHeld=>?_);refine zq 0 (h:=?_);refine zq 1 (h:=?_);refine zq 2 (h:=?_);refine zq 3 (h:=?_);refine zq 4 (hy:=fun w hSw=>by (try dsimp only at hSw);obtain ⟨-,-,-,⟨t0,t1,t2,t3,t4⟩,-,⟨d0,d1,d2,d3,d4⟩,-⟩:=hSw.o;go_simp;try with_reducible rfl) (h:=?_);refine zq 6 (h:=?_);refine wpAnyH_ready (rs:=[5]) (by kernel_rfl) (by simp) ?_;refine AllReadyH.cons rfl (fun K hK=>?_) AllReadyH.nil;go_simp;refine (HMY.o _ hHeld.o).mono ?_;rintro r1 wb ⟨rfl,hb⟩;go_wp2_with fail;refine hK.out _ _ (Hsx.call hb hHeld) (fun hHeld=>?_);clear hK K;(try simp only [Act.put,zg1,zg2,zg3,zg4,zg5,zg6]);refine zq 7 (h:=?_);refine zq 8 (h:=?_);refine zq 9 (h:=?_);refine zq 10 (h:=?_);refine zq 11 (h:=?_);refine wpAnyH_ready (rs:=[12]) (by kernel_rfl) (by simp) ?_;refine AllReadyH.cons rfl (fun K hK=>?_) AllReadyH.nil;go_simp;refine (HS12.o _ hHeld.o).mono ?_;rintro r2 wb ⟨rfl,hb⟩;go_wp2_with fail;refine hK.out _ _ (Hsx.call hb hHeld) (fun hHeld=>?_);clear hK K;(try simp only [Act.put,zg1,zg2,zg3,zg4,zg5,zg6]);refine zq 13 (h:=?_);refine zq 14 (h:=?_);refine zq 15 (h:=?_);refine zq 16 (hy:=fun w hSw=>by (try dsimp only at hSw);obtain ⟨-,-,-,⟨t0,t1,t2,t3,t4⟩,-,⟨d0,d1,d2,d3,d4⟩,-⟩:=hSw.o;go_simp;try with_reducible rfl) (h:=?_);refine zq 18 (hy:=fun w hSw=>by (try dsimp only at hSw);obtain ⟨-,-,-,⟨t0,t1,t2,t3,t4⟩,-,⟨d0,d1,d2,d3,d4⟩,-⟩:=hSw.o;go_simp;try with_reducible rfl) (h:=?_);refine wpAnyH_ready (rs:=[17]) (by kernel_rfl) (by simp) ?_;refine AllReadyH.cons rfl (fun K hK=>?_) AllReadyH.nil;go_simp;refine (HBL.o _ hHeld.o).mono ?_;rintro r3 wb ⟨rfl,hb⟩;go_wp2_with fail;refine hK.out _ _ (Hsx.call hb hHeld) (fun hHeld=>?_);clear hK K;(try simp only [Act.put,zg1,zg2,zg3,zg4,zg5,zg6]);refine wpAnyH_ready (rs:=[19]) (by kernel_rfl) (by simp) ?_;refine AllReadyH.cons rfl (fun K hK=>?_) AllReadyH.nil;go_simp;refine (HRB.o _ hHeld.o).mono ?_;rintro r4 wb ⟨rfl,hb⟩;go_wp2_with fail;refine hK.out _ _ (Hsx.call hb hHeld) (fun hHeld=>?_);clear hK K;(try simp only [Act.put,zg1,zg2,zg3,zg4,zg5,zg6]);refine zq 20 (h:=?_);refine zq 21 (h:=?_);refine zq 22 (h:=?_);refine zq 23 (hy:=fun w hSw=>by (try dsimp only at hSw);obtain ⟨-,-,-,⟨t0,t1,t2,t3,t4⟩,-,⟨d0,d1,d2,d3,d4⟩,-⟩:=hSw.o;go_simp;try with_reducible rfl) (h:=?_);refine zq 24 (hy:=fun w hSw=>by (try dsimp only at hSw);obtain ⟨-,-,-,⟨t0,t1,t2,t3,t4⟩,-,⟨d0,d1,d2,d3,d4⟩,-⟩:=hSw.o;go_simp;try with_reducible rfl) (h:=?_);refine wpAnyH_ready (rs:=[25]) (by kernel_rfl) (by simp) ?_;refine AllReadyH.cons rfl (fun K hK=>?_) AllReadyH.nil;go_simp;refine (HS8.o _ hHeld.o).mono ?_;rintro r5 wb ⟨rfl,hb⟩;go_wp2_with fail;refine hK.out _ _ (Hsx.call hb hHeld) (fun hHeld=>?_);clear hK K;(try simp only [Act.put,zg1,zg2,zg3,zg4,zg5,zg6]);refine zq 26 (h:=?_);refine zq 27 (h:=?_);refine wpAnyH_done (by kernel_rfl) ?_ _;have HO7:=zhy (qb HO6.o hHeld.o.1 (Nat.le_refl _));have HB7:=zhy (qc HB6.o hHeld.o.1);clear hHeld SF HO6 HB6 HMY HBL HRB HS12 HS8 ne1 ne2;obtain ⟨Bq,hBq⟩:∃Bq,wq.heap.size=Bq:=⟨_,rfl⟩;have HBQ:=zhy hBq;rw [hBq] at HO7 HB7;clear hBq;have hn40:L.length≤40:=HL41.o;go_wp2_with fail;go_loopw [9] (fun jv wr=>∃j:Nat,j≤L.length∧jv=.int .i64 j∧Hid (∃xs,wr.ownsRow Bq 39 3 (.slice A1 L.length c1) L.length xs)∧Hid (Below Bq wq wr)) (fun jv _=>L.length-(intOf jv).toNat)
   case atStart=>exact ⟨0,by omega,rfl,zhy ⟨_,HO7.o⟩,HB7⟩
   case round =>
    clear HO7 HB7;obtain ⟨j,hj,rfl,HO,HB⟩:=hrel;rename World=>wr;by_cases h2:j<L.length
    ·obtain ⟨xs,hxs⟩:=HO.o
     obtain ⟨g,hg⟩:∃g,A1=some ⟨g,0,none⟩:=by
      rcases hxs.2 with ⟨hv,h0⟩ | ⟨g,cap,cur,hv,-⟩
      ·exfalso;omega
      ·injection hv with hv _ _;exact ⟨g,hv⟩
     subst hg;have hgB:=(hxs.lt g rfl).1;have f0:=hxs.frozenAt (j*3);obtain ⟨u,hu⟩:∃u,xs[j*3]?=some u:=⟨_,zg7 (by rw [hxs.1];omega)⟩;have c0':=(hxs.cellAt (j*3) (by omega)).trans hu;clear hu;have HO2:Hid (∃xs,(wr.setCell ⟨g,j*3,none⟩ (.int .i64 (-5))).ownsRow Bq 39 3 (.slice (some ⟨g,0,none⟩) L.length c1) L.length xs):=zhy ⟨_,(hxs.stored (j*3) (.int .i64 (-5))).1⟩;have HB2:=zhy (HB.o.setCell (p:=⟨g,j*3,none⟩) hgB (.int .i64 (-5)))
     have hcc:L.length≤c1∧c1≤maxLen:=by
      rcases hxs.2 with ⟨hv,h0⟩ | ⟨g,cap,cur,hv,_,hh,hcap,hmx,_⟩
      ·exfalso;omega
      ·injection hv with _ _ hv;omega
     clear hxs HO HB;go_wp2_with fail;go_roundw
     case rel=>exact ⟨j+1,by omega,by go_num,HO2,HB2⟩
     case measure=>simp [intOf];omega
    ·obtain rfl:j=L.length:=by omega
     have SN:=zhy (SQ.o.call (w':=wr) (by rw [HBQ.o];exact HB.o));clear HO HB SQ;go_wp2_with fail;go_roundw
     case rel=>exact ⟨i+1,by omega,by go_num,SN⟩
     case measure=>simp [intOf];omega
  ·obtain rfl:i=2:=by omega
   go_wp2_with fail;go_ret;exact ⟨rfl,SQ.o.1⟩
end Go.Proofs.YtnjgkkoiamiaaaaGreatDoor
