import Derived.Test.YtnjgkkoiamiaaaaGreatDoorVta1
import Derived.Test.YtnjgkkoiamiaaaaGreatDoorVta15
import Derived.Test.YtnjgkkoiamiaaaaGreatDoorVta18
import Derived.Test.YtnjgkkoiamiaaaaGreatDoorVta6
set_option maxRecDepth 100000
set_option maxHeartbeats 16000000
set_option linter.unusedSimpArgs false
set_option linter.unusedVariables false
namespace Go.Proofs.YtnjgkkoiamiaaaaGreatDoor
open Go.RowKit
def z12:Az:=⟨zd4,none,0,[]⟩
theorem Az.ok.keep {w w':World} {z:Az} (h:z.ok w) (hb:Below w.heap.size w w'):z.ok w':=Rg.keep h hb
theorem qav (w:World):z12.ok w:=⟨Nat.zero_le _,Nat.zero_le _,.inl ⟨rfl,rfl⟩⟩
theorem Tryz.infoAz:(Tryz.prog.info? 105).map (fun i=>(i.zero,i.size,i.bytes))=some (some (.agg #[.int .i64 0,.int .i64 0,.int .i64 0,.slice none 0 0]),4,48):=by kernel_rfl
theorem qbt (n:Nat) (hn:n≤1000) (w:World):∃cs,(Instr.makeSlice 98 (.int .i64 (n:Int)) (.int .i64 (n:Int))).run Tryz.prog w=.ok (.slice (some ⟨w.heap.size,0,none⟩) n n) (w.alloc (.cells cs 105))∧cs.toList=clr az4 (List.replicate n z12):=by
 have hinfo:=Tryz.infoAz;rw [Option.map_eq_some_iff] at hinfo;obtain ⟨i,hi,hz⟩:=hinfo;simp only [Prod.mk.injEq] at hz;obtain ⟨hz0,hz1,hz2⟩:=hz;have hr:=run_make (P:=Tryz.prog) w 98 105 i _ Tryz.underlying98 hi hz0 .i64 .i64 n n (by omega) (Int.le_refl _) (by rw [hz2];omega) (by omega);rw [hz1,Int.toNat_natCast] at hr;refine ⟨_,hr,?_⟩;have hl:(clr az4 (List.replicate n z12)).length=n*4:=by rw [za7 zaa,List.length_replicate]
 apply List.ext_getElem?;intro j;by_cases hj:j<n*4
 ·have h1:j / 4<n:=by omega
  have h2:(List.replicate n z12)[j / 4]?=some z12:=by rw [List.getElem?_replicate,if_pos h1]
  have h3:=jb zaa (Nat.mod_lt j (by omega)) h2;rw [show j / 4*4+j % 4=j by omega] at h3;rw [h3,Array.getElem?_toList,madeCells,Array.getElem?_map];rw [Array.getElem?_range,if_pos hj];have h4:j % 4=0∨j % 4=1∨j % 4=2∨j % 4=3:=by omega
  rcases h4 with h4 | h4 | h4 | h4<;>simp [h4,az4,z12,zd4,Value.cells]
 ·rw [List.getElem?_eq_none (by simp [madeCells];omega),List.getElem?_eq_none (by rw [hl];omega)]
theorem zsl {w:World} {base M n c k:Nat} {Z:List Az} {x z:Az} (h:w.ownsRow base 105 4 (.slice (some ⟨M,0,none⟩) n c) n (clr az4 Z)) (hx:Z[k]?=some x) :
  ((((w.setCell ⟨M,k*4,none⟩ (.int .i64 z.c.1)).setCell ⟨M,k*4+1,none⟩ (.int .i64 z.c.2.1)).setCell ⟨M,k*4+2,none⟩ (.int .i64 z.c.2.2)).setCell ⟨M,k*4+3,none⟩ (.slice z.A z.L.length z.k)).ownsRow base 105 4 (.slice (some ⟨M,0,none⟩) n c) n (clr az4 (Z.set k z)):=by
 have hk:=(zg8.1 hx).1;have h1:=(h.stored (k*4+0) (.int .i64 z.c.1)).1;rw [zcl zaa hx (by omega) (show az4 ⟨(z.c.1,x.c.2),x.A,x.k,x.L⟩=_ from rfl)] at h1;have h2:=(h1.stored (k*4+1) (.int .i64 z.c.2.1)).1;rw [zcl zaa (List.getElem?_set_self hk) (by omega) (show az4 ⟨(z.c.1,z.c.2.1,x.c.2.2),x.A,x.k,x.L⟩=_ from rfl),List.set_set] at h2;have h3:=(h2.stored (k*4+2) (.int .i64 z.c.2.2)).1;rw [zcl zaa (List.getElem?_set_self hk) (by omega) (show az4 ⟨(z.c.1,z.c.2.1,z.c.2.2),x.A,x.k,x.L⟩=_ from rfl),List.set_set] at h3;have h4:=(h3.stored (k*4+3) (.slice z.A z.L.length z.k)).1;rw [zcl zaa (List.getElem?_set_self hk) (by omega) (show az4 z=_ from rfl),List.set_set] at h4;exact h4
theorem Az.ok.other {w:World} {z:Az} (h:z.ok w) {p:Addr} (hp:∀ad,z.A=some ad→ad.block≠p.block) (u:Value):z.ok (w.setCell p u):=by
 refine ⟨h.1,h.2.1,?_⟩;rcases h.2.2 with h1 | ⟨g,hA,hg,hc⟩
 ·exact .inl h1
 ·refine .inr ⟨g,hA,by simpa using hg,fun j v hj=>?_⟩;rw [World.cell?_setCell_other _ _ _ _ (fun e=>by have:=hp _ hA;rw [e] at this;exact this rfl)];exact hc j v hj
def qfg (w w':World) (d:Md) (r:Ending):Prop:=
 (jj d d.s.length≠0∧r=.returned (.tuple #[.slice none 0 0,.int .i64 (jj d d.s.length)])∧Below w.heap.size w w') ∨
 (jj d d.s.length=0∧∃A c Z,r=.returned (.tuple #[.slice A d.s.length c,.int .i64 0])∧Rg az4 4 w' A c Z∧Z.length=d.s.length∧(∀j z,Z[j]?=some z→z.c=zkc d j∧z.L=ziy d j∧z.ok w')∧Below w.heap.size w w')
theorem zux (y:Ma) (d:Md) (w:World) (hq:Hq w y d) (hg:qG d=false):Calls Tryz.prog 57 #[dv y d] w fun r w'=>qfg w w' d r:=by
 obtain ⟨hs40,-⟩:=zci hg;have HG:=zhy hg;obtain ⟨sn,hsn⟩:∃sn,d.s.length=sn:=⟨_,rfl⟩;have HSN:=zhy hsn;rw [hsn] at hs40;obtain ⟨B,hB⟩:∃B,w.heap.size=B:=⟨_,rfl⟩;have S0:=zhy ((((Sx.start w).add (fQm y d) hq).mkD y d));rw [hB] at S0;have HBB:=zhy hB;have hs1:(w.alloc (zn y d)).heap.size=B+1:=by rw [qn,hB]
 obtain ⟨cs,hmk,hcs⟩:=qbt sn (by omega) (w.alloc (zn y d));rw [hs1] at hmk;have HCS:=zhy hcs;clear hq hg hsn hcs;go_enter Tryz.func57,Tryz.ntmps57;go_upto_region 1 with (fail);change Code.wp _ _ _ _ (w.alloc (zn y d));generalize w.alloc (zn y d)=w1 at S0 hs1 hmk ⊢;clear hB;obtain ⟨-,⟨d0,d1,d2,d3,d4⟩,-⟩:=S0.o;rw [HSN.o] at d3;go_upto_region 2 with (fail)
 have HO2:Hid ((w1.alloc (.cells cs 105)).ownsRow (B+1) 105 4 (.slice (some ⟨B+1,0,none⟩) sn sn) sn (clr az4 (List.replicate sn z12))):=zhy (by
  have:=World.ownsRow_lit (base:=B+1) (e:=105) (size:=4) w1 cs sn (by omega) (by unfold maxLen;omega) (by
   have:=congrArg List.length HCS.o;rw [za7 zaa,List.length_replicate,Array.length_toList] at this;exact this)
  rw [HCS.o,hs1] at this;exact this)
 have HB2:Hid (Below (B+1) w1 (w1.alloc (.cells cs 105))):=zhy (by rw [←hs1];exact qh);have S1:=S0;clear d0 d1 d2 d3 d4 hmk S0;generalize w1.alloc (.cells cs 105)=w2 at HO2 HB2 ⊢;go_wp2_with fail;go_loopw [14] (fun iv wq=>∃(k:Nat) (Zs:List Az),k≤sn∧iv=.int .i64 k∧Hid (jj d k=0)∧Hid (Zs.length=sn)∧Hid (∀j z,Zs[j]?=some z→(j<k→z.c=zkc d j∧z.L=ziy d j)∧z.ok wq∧∀ad,z.A=some ad→B+1<ad.block)∧Hid (wq.ownsRow (B+1) 105 4 (.slice (some ⟨B+1,0,none⟩) sn sn) sn (clr az4 Zs))∧Hid (Below (B+1) w1 wq)) (fun iv _=>sn-(intOf iv).toNat)
 case atStart=>exact ⟨0,List.replicate sn z12,by omega,rfl,zhy rfl,zhy (by simp),zhy (fun j z hz=>by
   rw [List.getElem?_replicate] at hz;split at hz
   ·injection hz with hz;subst hz;exact ⟨fun h=>by omega,qav _,fun ad e=>by cases e⟩
   ·cases hz),HO2,HB2⟩
 case round =>
  obtain ⟨k,Zs,hk,rfl,HER,HZL,HZ,HO,HB⟩:=hrel;rename World=>wq;clear HO2 HB2;have SQ:=zhy (S1.o.call (w':=wq) (by rw [hs1];exact HB.o));have hgM:B+1<wq.heap.size:=(HO.o.lt (B+1) rfl).2;obtain ⟨-,⟨d0,d1,d2,d3,d4⟩,-⟩:=SQ.o;rw [HSN.o] at d3;by_cases h1:k<sn
  ·have HOW:=zhy (zzf y d k wq SQ.o.2.2.1 HG.o (by rw [HSN.o];exact h1));rw [dv,HSN.o] at HOW;go_wp2_with fail;refine HOW.o.mono ?_;rintro r w3 h;clear HOW d0 d1 d2 d3 d4;rcases h with ⟨h0,rfl,hb⟩ | ⟨h0,z,rfl,hzc,hzl,hzo,hza,hb⟩
   ·have HE:Hid (jj d d.s.length=(ql d k).2):=zhy (zav HER.o h0 _ (by rw [HSN.o];exact h1));have HNE:=zhy h0;have hne:((ql d k).2 != 0)=true:=by simpa using h0
    have HBE:=zhy (SQ.o.call hb).1;have HBE2:Hid (Below w.heap.size w (w3.alloc (.cells #[.int .i64 0,.int .i64 0,.int .i64 0,.slice none 0 0] 105))):=zhy (qc HBE.o qh);clear h0 hb SQ HO HB;generalize (ql d k).2=E at *;go_wp2_with fail;go_ret2;exact .inl ⟨by rw [HE.o];exact HNE.o,by rw [HE.o];rfl,HBE2.o⟩
   ·have HE0:Hid (jj d (k+1)=0):=zhy (by rw [jj,if_pos HER.o];exact h0);obtain ⟨⟨zf,zs,zh⟩,zA,zk,zL⟩:=z;dsimp only at hzc hzl hza;obtain ⟨wa,hwa⟩:∃wa,w3.alloc (.cells #[.int .i64 zf,.int .i64 zs,.int .i64 zh,.slice zA zL.length zk] 105)=wa:=⟨_,rfl⟩;have hb3:Below wq.heap.size wq wa:=by rw [←hwa];exact qc hb qh
    have HOA:Hid (wa.ownsRow (B+1) 105 4 (.slice (some ⟨B+1,0,none⟩) sn sn) sn (clr az4 Zs)):=zhy (qb HO.o hb3 (Nat.le_refl _));have HBA:Hid (Below (B+1) w1 wa):=zhy (HB.o.trans (hb3.mono (by omega)));have hAx:Ax wa w3.heap.size (zf,zs,zh) (.slice zA zL.length zk):=by rw [←hwa];exact Ax.new w3 (zf,zs,zh) _
    have hok3:∀j z,Zs[j]?=some z→(j<k→z.c=zkc d j∧z.L=ziy d j)∧z.ok wa∧∀ad,z.A=some ad→B+1<ad.block:=fun j z hz=>by
     obtain ⟨a1,a2,a3⟩:=HZ.o j z hz;exact ⟨a1,a2.keep hb3,a3⟩
    have hzo3:(⟨(zf,zs,zh),zA,zk,zL⟩:Az).ok wa:=by
     rw [←hwa];exact Az.ok.keep hzo qh
    obtain ⟨x,hx⟩:∃x,Zs[k]?=some x:=⟨_,zg7 (by rw [HZL.o];exact h1)⟩;have HST:=zhy (zsl (z:=⟨(zf,zs,zh),zA,zk,zL⟩) HOA.o hx)
    have HZN:Hid (∀j z,(Zs.set k ⟨(zf,zs,zh),zA,zk,zL⟩)[j]?=some z→(j<k+1→z.c=zkc d j∧z.L=ziy d j)∧z.ok wa∧∀ad,z.A=some ad→B+1<ad.block):=zhy (fun j z hz=>by
     by_cases hjk:j=k
     ·subst hjk;rw [List.getElem?_set_self (by rw [HZL.o];exact h1)] at hz;injection hz with hz;subst hz;exact ⟨fun _=>⟨hzc,hzl⟩,hzo3,fun ad e=>by have:=hza ad e;omega⟩
     ·rw [List.getElem?_set_ne (fun e=>hjk e.symm)] at hz;obtain ⟨a1,a2,a3⟩:=hok3 j z hz;exact ⟨fun h=>a1 (by omega),a2,a3⟩)
    have hb0:Below w.heap.size w wa:=qc SQ.o.1 hb3;have hI:∃I,w3.heap.size=I:=⟨_,rfl⟩;obtain ⟨I,hI⟩:=hI;rw [hI] at hAx;have f0:=HOA.o.frozenAt (k*4);have f1:=HOA.o.frozenAt (k*4+1);have f2:=HOA.o.frozenAt (k*4+2);have f3:=HOA.o.frozenAt (k*4+3);have c0:=(HOA.o.cellAt (k*4) (by omega)).trans (show (clr az4 Zs)[k*4]?=_ from jb zaa (j:=0) (by omega) hx);have c1:=(HOA.o.cellAt (k*4+1) (by omega)).trans (jb zaa (j:=1) (by omega) hx);have c2:=(HOA.o.cellAt (k*4+2) (by omega)).trans (jb zaa (j:=2) (by omega) hx);have c3:=(HOA.o.cellAt (k*4+3) (by omega)).trans (jb zaa (j:=3) (by omega) hx);simp only [az4,List.getElem?_cons_zero,List.getElem?_cons_succ] at c0 c1 c2 c3;obtain ⟨b0,b1,b2,b3,-⟩:=hAx.cells;dsimp only at b0 b1 b2;clear hzc hzl hzo hza hb hok3 hzo3 hx HZ HO HB SQ hAx hb3;go_upto_region 8 with (fail);clear hI hwa;go_wp2_with fail;refine ⟨⟨k+1,Zs.set k ⟨(zf,zs,zh),zA,zk,zL⟩,by omega,by go_num,HE0,zhy (by rw [List.length_set];exact HZL.o),zhy (fun j z hz=>?_),HST,zhy ((((HBA.o.setCell (p:=⟨B+1,k*4,none⟩) (Nat.le_refl _) _).setCell (p:=⟨B+1,k*4+1,none⟩) (Nat.le_refl _) _).setCell (p:=⟨B+1,k*4+2,none⟩) (Nat.le_refl _) _).setCell (p:=⟨B+1,k*4+3,none⟩) (Nat.le_refl _) _)⟩,by simp [intOf];omega⟩;obtain ⟨a1,a2,a3⟩:=HZN.o j z hz;have ne:∀ad:Addr,z.A=some ad→ad.block≠B+1:=fun ad e=>by have:=a3 ad e;omega
    exact ⟨a1,((((a2.other (p:=⟨B+1,k*4,none⟩) ne _).other (p:=⟨B+1,k*4+1,none⟩) ne _).other (p:=⟨B+1,k*4+2,none⟩) ne _).other (p:=⟨B+1,k*4+3,none⟩) ne _),a3⟩
  ·obtain rfl:sn=k:=by omega
   have HBW:=zhy SQ.o.1;have HRG:=zhy (Rg.of_own zaa (by omega) HO.o);go_wp2_with fail;go_ret2;refine .inr ⟨by rw [HSN.o];exact HER.o,some ⟨B+1,0,none⟩,sn,Zs,by rw [HSN.o];rfl,HRG.o.1,by rw [HZL.o,HSN.o],fun j z hz=>?_,HBW.o⟩;have hj:=(zg8.1 hz).1;rw [HZL.o] at hj;obtain ⟨a1,a2,-⟩:=HZ.o j z hz;exact ⟨(a1 hj).1,(a1 hj).2,a2⟩
structure qai (C:Nat→Ce) (n:Nat) (x:zkd):Prop where
 nn:0≤x.1
 lt:x.1<n
 t0:0≤x.2.1
 t1:x.2.1≤100000000
 b0:-1000000≤x.2.2.2
 b1:x.2.2.2≤1000000
 c:0≤(C x.1.toNat).1∧(C x.1.toNat).1≤1048576∧0≤(C x.1.toNat).2.1∧(C x.1.toNat).2.1≤256∧0≤(C x.1.toNat).2.2∧(C x.1.toNat).2.2≤1024
theorem zjk {C:Nat→Ce} {l:List zkd} {s:Ce} {i:Nat} {x:zkd} (h:l[i]?=some x):zdn C (l.take (i+1)) s=zvr C (zdn C (l.take i) s) x:=by
 unfold zdn;rw [List.take_add_one,h,List.foldl_append];rfl
theorem zqo {C:Nat→Ce} {n:Nat} {l:List zkd} {s:Ce} (hl:∀x∈l,qai C n x) (h0:0≤s.1∧s.1≤100000000000∧-1000000≤s.2.1∧s.2.1≤2000000∧0≤s.2.2∧s.2.2≤100000000000000000):∀i:Nat,i≤l.length →
  0≤(zdn C (l.take i) s).1∧(zdn C (l.take i) s).1≤100000000000+104857600000000*i∧-1000000≤(zdn C (l.take i) s).2.1∧(zdn C (l.take i) s).2.1≤2000000∧0≤(zdn C (l.take i) s).2.2∧(zdn C (l.take i) s).2.2≤100000000000000000+102400000000*i
 | 0,_=>by
  have e:zdn C (l.take 0) s=s:=rfl;rw [e];omega
 | i+1,hi=>by
  obtain ⟨a1,a2,a3,a4,a5,a6⟩:=zqo hl h0 i (by omega);obtain ⟨x,hx⟩:∃x,l[i]?=some x:=⟨_,zg7 (by omega)⟩;obtain ⟨b1,b2,b3,b4,b5,b6,c1,c2,c3,c4,c5,c6⟩:=hl x (List.mem_of_getElem? hx);rw [zjk hx];have d1:0≤(C x.1.toNat).1*x.2.1:=Int.mul_nonneg c1 b3;have d2:(C x.1.toNat).1*x.2.1≤1048576*100000000:=Int.mul_le_mul c2 b4 b3 (by omega);have d3:0≤(C x.1.toNat).2.2*x.2.1:=Int.mul_nonneg c5 b3;have d4:(C x.1.toNat).2.2*x.2.1≤1024*100000000:=Int.mul_le_mul c6 b4 b3 (by omega);generalize zdn C (l.take i) s=u at *;simp only [zvr];refine ⟨by omega,by omega,?_,?_,by omega,by omega⟩
  ·split<;>omega
  ·split<;>omega
theorem zpo (z:Az) (D:Option Addr) (dc n:Nat) (C:Nat→Ce) (w:World) (hz:z.ok w) (hd:Rg ce3 3 w D dc ((List.range n).map C)) (hn:n≤1000) (hl:∀x∈z.L,qai C n x) (hlen:z.L.length≤300)
  (h0:0≤z.c.1∧z.c.1≤100000000000∧-1000000≤z.c.2.1∧z.c.2.1≤2000000∧0≤z.c.2.2∧z.c.2.2≤100000000000000000) :
  Calls Tryz.prog 58 #[azv z.c (.slice z.A z.L.length z.k),.slice D n dc] w fun r w'=>r=.returned (cv (zdn C z.L z.c))∧Below w.heap.size w w':=by
 obtain ⟨c,A,k,L⟩:=z;dsimp only at hz hl hlen h0 ⊢;obtain ⟨X,hX⟩:∃X,w.heap.size=X:=⟨_,rfl⟩;obtain ⟨m,hm⟩:∃m,L.length=m:=⟨_,rfl⟩;have HLM:=zhy hm;rw [hm] at hlen ⊢;have HZ:=zhy hz;have HD:=zhy hd;have HL:=zhy hl;have HBD:=zhy (zqo hl h0);have HXX:=zhy hX;clear hz hd hl h0 hm;obtain ⟨⟨vf,vs,vh⟩,hV⟩:∃v,zdn C L c=v:=⟨_,rfl⟩;have HV:=zhy hV;rw [hV];clear hV;go_enter Tryz.func58,Tryz.ntmps58;go_upto_region 1 with (fail);have hX1:(w.alloc (.cells #[.int .i64 c.1,.int .i64 c.2.1,.int .i64 c.2.2,.slice A m k] 105)).heap.size=X+1:=by rw [qn,hX]
 have hA0:Ax ((w.alloc (.cells #[.int .i64 c.1,.int .i64 c.2.1,.int .i64 c.2.2,.slice A m k] 105)).alloc (.cells #[.int .i64 0,.int .i64 0,.int .i64 0] 39)) X c (.slice A m k):=(by have:=(Ax.new w c (.slice A m k)).keep (w':=(w.alloc (.cells #[.int .i64 c.1,.int .i64 c.2.1,.int .i64 c.2.2,.slice A m k] 105)).alloc (.cells #[.int .i64 0,.int .i64 0,.int .i64 0] 39)) qh;rw [hX] at this;exact this);have hR0:js ((w.alloc (.cells #[.int .i64 c.1,.int .i64 c.2.1,.int .i64 c.2.2,.slice A m k] 105)).alloc (.cells #[.int .i64 0,.int .i64 0,.int .i64 0] 39)) (X+1) (0,0,0):=(by rw [←hX1];exact js.new _ (0,0,0));have hB0:Below X w ((w.alloc (.cells #[.int .i64 c.1,.int .i64 c.2.1,.int .i64 c.2.2,.slice A m k] 105)).alloc (.cells #[.int .i64 0,.int .i64 0,.int .i64 0] 39)):=(by rw [←hX];exact qh.trans (qh.mono (by simp)));have HA0:=zhy hA0;have HR0:=zhy hR0;have HB0:=zhy hB0;clear hA0 hR0 hB0 hX1 hX;generalize (w.alloc (.cells #[.int .i64 c.1,.int .i64 c.2.1,.int .i64 c.2.2,.slice A m k] 105)).alloc (.cells #[.int .i64 0,.int .i64 0,.int .i64 0] 39)=w1 at HA0 HR0 HB0 ⊢;obtain ⟨-,-,-,x3,-⟩:=HA0.o.cells;go_wp2_with fail;clear x3;go_loopw [11] (fun iv wq=>∃i:Nat,i≤m∧iv=.int .i64 i∧Hid (Ax wq X (zdn C (L.take i) c) (.slice A m k))∧Hid (js wq (X+1) (0,0,0))∧Hid (Below X w wq)) (fun iv _=>m-(intOf iv).toNat)
 case atStart=>exact ⟨0,by omega,rfl,HA0,HR0,HB0⟩
 case round =>
  obtain ⟨i,hi,rfl,HX,HR,HB⟩:=hrel;rename World=>wq;clear HA0 HR0 HB0;have hXq:X<wq.heap.size:=HX.o.lt;have hRq:X+1<wq.heap.size:=HR.o.lt;by_cases h1:i<m
  ·obtain ⟨x,hx⟩:∃x,L[i]?=some x:=⟨_,zg7 (by rw [HLM.o];exact h1)⟩;have HST:=zhy (zjk (C:=C) (s:=c) hx);obtain ⟨b1,b2,b3,b4,b5,b6,q1,q2,q3,q4,q5,q6⟩:=HL.o x (List.mem_of_getElem? hx);obtain ⟨t1,t2,t3,t4,t5,t6⟩:=HBD.o i (by rw [HLM.o];exact hi);obtain ⟨g,hA,hg,hc⟩:=(HZ.o.keep (w':=wq) (by rw [HXX.o];exact HB.o)).at_ zkm hx;obtain ⟨⟨xw,xt,xr,xb⟩,rfl⟩:∃y:zkd,x=y:=⟨x,rfl⟩;dsimp only at b1 b2 b3 b4 b5 b6 q1 q2 q3 q4 q5 q6;obtain ⟨j,rfl⟩:∃j:Nat,xw=j:=⟨xw.toNat,by omega⟩;rw [Int.toNat_natCast] at q1 q2 q3 q4 q5 q6;have hj:j<n:=by omega
   have hcj:((List.range n).map C)[j]?=some (C j):=by rw [List.getElem?_map,List.getElem?_range hj];rfl
   obtain ⟨gd,hD,hgd,hcd⟩:=(HD.o.keep (w':=wq) (by rw [HXX.o];exact HB.o)).at_ q9 hcj;dsimp only at hA;subst hA hD;have k0:=hc 0 (by omega);have k1:=hc 1 (by omega);have k2:=hc 2 (by omega);have k3:=hc 3 (by omega);have d0:=hcd 0 (by omega);have d1:=hcd 1 (by omega);have d2:=hcd 2 (by omega);simp only [cl4,ce3,List.getElem?_cons_zero,List.getElem?_cons_succ,Nat.add_zero] at k0 k1 k2 k3 d0 d1 d2;obtain ⟨⟨cf,cs,ch⟩,hC⟩:∃v,C j=v:=⟨_,rfl⟩;rw [hC] at d0 d1 d2 q1 q2 q3 q4 q5 q6;have HCJ:=zhy hC;dsimp only at d0 d1 d2 q1 q2 q3 q4 q5 q6;obtain ⟨⟨uf,us,uh⟩,hu⟩:∃v,zdn C (L.take i) c=v:=⟨_,rfl⟩;rw [hu] at t1 t2 t3 t4 t5 t6 HX;have HU:=zhy hu;dsimp only at t1 t2 t3 t4 t5 t6;have m1:0≤cf*xt:=Int.mul_nonneg q1 b3;have m2:cf*xt≤1048576*100000000:=Int.mul_le_mul q2 b4 b3 (by omega);have m3:0≤ch*xt:=Int.mul_nonneg q5 b3;have m4:ch*xt≤1024*100000000:=Int.mul_le_mul q6 b4 b3 (by omega);have wr:IntKind.i64.wrap (xb+cs)=xb+cs:=qm (by omega);obtain ⟨P,hP⟩:∃P,wq.heap.size=P:=⟨_,rfl⟩;have hP1:(wq.alloc (.cells #[.int .i64 (j:Int),.int .i64 xt,.bool xr,.int .i64 xb] 183)).heap.size=P+1:=by rw [qn,hP]
   rw [hP] at hg hgd hXq hRq;have hg1:g<P+1:=by omega
   have hgd1:gd<P+1:=by omega
   clear hC hu hx hc hcd hcj;have hbq:Below wq.heap.size wq ((wq.alloc (.cells #[.int .i64 (j:Int),.int .i64 xt,.bool xr,.int .i64 xb] 183)).alloc (.cells #[.int .i64 cf,.int .i64 cs,.int .i64 ch] 39)):=qh.trans (qh.mono (by rw [hP1,hP];omega));have HX2:=zhy (HX.o.keep hbq);have HR2:=zhy (HR.o.keep hbq);have HB2:=zhy (HB.o.trans (hbq.mono (by rw [hP];omega)));have HQ2:Hid (js ((wq.alloc (.cells #[.int .i64 (j:Int),.int .i64 xt,.bool xr,.int .i64 xb] 183)).alloc (.cells #[.int .i64 cf,.int .i64 cs,.int .i64 ch] 39)) (P+1) (cf,cs,ch)):=zhy (by rw [←hP1];exact js.new _ (cf,cs,ch))
   have HK2:Hid (((wq.alloc (.cells #[.int .i64 (j:Int),.int .i64 xt,.bool xr,.int .i64 xb] 183)).alloc (.cells #[.int .i64 cf,.int .i64 cs,.int .i64 ch] 39)).heap[P]?=some (.cells #[.int .i64 (j:Int),.int .i64 xt,.bool xr,.int .i64 xb] 183 (0,0))):=zhy (by
    have h1:=heap_alloc_last wq (.cells #[.int .i64 (j:Int),.int .i64 xt,.bool xr,.int .i64 xb] 183);rw [hP] at h1;exact ((qh (w:=wq.alloc (.cells #[.int .i64 (j:Int),.int .i64 xt,.bool xr,.int .i64 xb] 183)) (a:=.cells #[.int .i64 cf,.int .i64 cs,.int .i64 ch] 39)).block P (by rw [hP1];omega)).trans h1)
   clear hbq HX HR HB;go_upto_region 5 with (fail);clear k0 k1 k2 k3 d0 d1 d2 hP hP1;generalize (wq.alloc (.cells #[.int .i64 (j:Int),.int .i64 xt,.bool xr,.int .i64 xb] 183)).alloc (.cells #[.int .i64 cf,.int .i64 cs,.int .i64 ch] 39)=w2 at HX2 HR2 HB2 HQ2 HK2 ⊢;have c1:w2.cell? ⟨P,1,none⟩=some (.int .i64 xt):=by rw [cell_of_row w2 P _ _ _ (0,0) HK2.o];rfl
   have c2:w2.cell? ⟨P,2,none⟩=some (.bool xr):=by rw [cell_of_row w2 P _ _ _ (0,0) HK2.o];rfl
   have c3:w2.cell? ⟨P,3,none⟩=some (.int .i64 xb):=by rw [cell_of_row w2 P _ _ _ (0,0) HK2.o];rfl
   obtain ⟨e0,e1,e2,-⟩:=HQ2.o.cells;dsimp only at e0 e1 e2;have HAD:=zhy (zh5 X (uf,us,uh) (.slice (some ⟨g,0,none⟩) m k) cf cs ch xt w2 HX2.o (by omega) (by omega) (by show 0≤uf∧uf≤_;omega) (by show 0≤uh∧uh≤_;omega));go_wp2_with fail;refine HAD.o.mono ?_;rintro r w3 ⟨rfl,hx3,hf3⟩;have HX3:=zhy hx3;have HR3:=zhy (hf3.cx (by omega) HR2.o);have HB3:=zhy (HB2.o.trans (hf3.below (Nat.le_refl _) (by have:=HX2.o.lt;omega)));have c2':=hf3.cell (by show P≠X;omega) c2;have c3':=hf3.cell (by show P≠X;omega) c3;have e1':=hf3.cell (by show P+1≠X;omega) e1;clear HAD hx3 hf3 c1 c2 c3 e0 e1 e2 HX2 HR2 HB2 HQ2 HK2;cases xr with
   | false =>
    have HXN:Hid (Ax w3 X (zdn C (L.take (i+1)) c) (.slice (some ⟨g,0,none⟩) m k)):=zhy (by
     rw [HST.o,HU.o];simp only [zvr,Int.toNat_natCast,HCJ.o];exact HX3.o)
    go_wp2_with fail;exact ⟨⟨i+1,by omega,by go_num,HXN,HR3,HB3⟩,by simp [intOf];omega⟩
   | true =>
    have HRI:=zhy (zmy X _ (.slice (some ⟨g,0,none⟩) m k) (xb+cs) w3 HX3.o (by omega));go_wp2_with fail;refine HRI.o.mono ?_;rintro r w4 ⟨rfl,hx4,hf4⟩
    have HXN:Hid (Ax w4 X (zdn C (L.take (i+1)) c) (.slice (some ⟨g,0,none⟩) m k)):=zhy (by
     rw [HST.o,HU.o];simp only [zvr,Int.toNat_natCast,HCJ.o];exact hx4)
    have HR4:=zhy (hf4.cx (by omega) HR3.o);have HB4:=zhy (HB3.o.trans (hf4.below (Nat.le_refl _) (by have:=HX3.o.lt;omega)));clear HRI hx4 hf4 HX3 HR3 HB3 c2' c3' e1';go_wp2_with fail;exact ⟨⟨i+1,by omega,by go_num,HXN,HR4,HB4⟩,by simp [intOf];omega⟩
  ·obtain rfl:m=i:=by omega
   have HTA:Hid (L.take m=L):=zhy (List.take_of_length_le (by rw [HLM.o];exact Nat.le_refl _));rw [HTA.o,HV.o] at HX;obtain ⟨x0,x1,x2,x3,-⟩:=HX.o.cells;obtain ⟨r0,r1,r2,f0,f1,f2⟩:=HR.o.cells;dsimp only at x0 x1 x2 r0 r1 r2;have HX2:=HX;have HR2:=HR;have HB2:=HB;clear HX HR HB;have HS:=zhy (HB2.o);have hb:w.heap.size≤X:=by rw [HXX.o];exact Nat.le_refl _
   have HBF:Hid (Below w.heap.size w (((wq.setCell ⟨X+1,0,none⟩ (.int .i64 vf)).setCell ⟨X+1,1,none⟩ (.int .i64 vs)).setCell ⟨X+1,2,none⟩ (.int .i64 vh))):=zhy (by
    have:=(((HB2.o.mono hb).setCell (p:=⟨X+1,0,none⟩) (by show w.heap.size≤X+1;omega) (.int .i64 vf)).setCell (p:=⟨X+1,1,none⟩) (by show w.heap.size≤X+1;omega) (.int .i64 vs)).setCell (p:=⟨X+1,2,none⟩) (by show w.heap.size≤X+1;omega) (.int .i64 vh);exact this)
   go_wp2_with fail;refine bodyPost_ret (v:=cv (vf,vs,vh)) (by simp [results,Tryz.results58,go_sem,r0,r1,r2]) rfl ⟨rfl,HBF.o⟩
theorem Tryz.infoCe:(Tryz.prog.info? 39).map (fun i=>(i.zero,i.size,i.bytes))=some (some (.agg #[.int .i64 0,.int .i64 0,.int .i64 0]),3,24):=by kernel_rfl
theorem zwj (n:Nat) (hn:n≤1000) (w:World):∃cs,(Instr.makeSlice 28 (.int .i64 (n:Int)) (.int .i64 (n:Int))).run Tryz.prog w=.ok (.slice (some ⟨w.heap.size,0,none⟩) n n) (w.alloc (.cells cs 39))∧cs.toList=clr ce3 (List.replicate n zd4):=by
 have hinfo:=Tryz.infoCe;rw [Option.map_eq_some_iff] at hinfo;obtain ⟨i,hi,hz⟩:=hinfo;simp only [Prod.mk.injEq] at hz;obtain ⟨hz0,hz1,hz2⟩:=hz;have hr:=run_make (P:=Tryz.prog) w 28 39 i _ Tryz.underlying28 hi hz0 .i64 .i64 n n (by omega) (Int.le_refl _) (by rw [hz2];omega) (by omega);rw [hz1,Int.toNat_natCast] at hr;refine ⟨_,hr,?_⟩;have hl:(clr ce3 (List.replicate n zd4)).length=n*3:=by rw [za7 q9,List.length_replicate]
 apply List.ext_getElem?;intro j;by_cases hj:j<n*3
 ·have h1:j / 3<n:=by omega
  have h2:(List.replicate n zd4)[j / 3]?=some zd4:=by rw [List.getElem?_replicate,if_pos h1]
  have h3:=jb q9 (Nat.mod_lt j (by omega)) h2;rw [show j / 3*3+j % 3=j by omega] at h3;rw [h3,Array.getElem?_toList,madeCells,Array.getElem?_map];rw [Array.getElem?_range,if_pos hj];have h4:j % 3=0∨j % 3=1∨j % 3=2:=by omega
  rcases h4 with h4 | h4 | h4<;>simp [h4,ce3,zd4,Value.cells]
 ·rw [List.getElem?_eq_none (by simp [madeCells];omega),List.getElem?_eq_none (by rw [hl];omega)]
theorem zin {w:World} {base M n c k:Nat} {Z:List Ce} {x z:Ce} (h:w.ownsRow base 39 3 (.slice (some ⟨M,0,none⟩) n c) n (clr ce3 Z)) (hx:Z[k]?=some x) :
  (((w.setCell ⟨M,k*3,none⟩ (.int .i64 z.1)).setCell ⟨M,k*3+1,none⟩ (.int .i64 z.2.1)).setCell ⟨M,k*3+2,none⟩ (.int .i64 z.2.2)).ownsRow base 39 3 (.slice (some ⟨M,0,none⟩) n c) n (clr ce3 (Z.set k z)):=by
 have hk:=(zg8.1 hx).1;have h1:=(h.stored (k*3+0) (.int .i64 z.1)).1;rw [zcl q9 hx (by omega) (show ce3 (z.1,x.2)=_ from rfl)] at h1;have h2:=(h1.stored (k*3+1) (.int .i64 z.2.1)).1;rw [zcl q9 (List.getElem?_set_self hk) (by omega) (show ce3 (z.1,z.2.1,x.2.2)=_ from rfl),List.set_set] at h2;have h3:=(h2.stored (k*3+2) (.int .i64 z.2.2)).1;rw [zcl q9 (List.getElem?_set_self hk) (by omega) (show ce3 z=_ from rfl),List.set_set] at h3;exact h3
theorem zjz (C:Nat→Ce) (n k:Nat) (v:Ce):((List.range n).map C).set k v=(List.range n).map (zp6 C k v):=by
 apply List.ext_getElem?;intro j;by_cases hj:j<n
 ·by_cases hk:j=k
  ·subst hk;rw [List.getElem?_set_self (by simpa using hj),List.getElem?_map,List.getElem?_range hj];simp [zp6]
  ·rw [List.getElem?_set_ne (fun e=>hk e.symm),List.getElem?_map,List.getElem?_map,List.getElem?_range hj];simp [zp6,hk]
 ·rw [List.getElem?_eq_none (by simp;omega),List.getElem?_eq_none (by simp;omega)]
theorem qfc {d:Md} (hg:qG d=false) (hr:(jg d).2=0) (he:jj d d.s.length=0) {i k:Nat} (hf:zlg d i=true) (hk:(zdo d)[i]?=some k) :
  k<d.s.length∧(∀x∈ziy d k,qai (zbl d i) d.s.length x)∧(ziy d k).length≤300∧(0≤(zkc d k).1∧(zkc d k).1≤100000000000∧-1000000≤(zkc d k).2.1∧(zkc d k).2.1≤2000000∧0≤(zkc d k).2.2∧(zkc d k).2.2≤100000000000000000):=by
 obtain ⟨-,-,ho,hl,hb⟩:=qc5 hr;have hkn:k<d.s.length:=ho.lt k (List.mem_of_getElem? hk);obtain ⟨n',h',c',e1,e2,e3,hfl,hth,hln,hin⟩:=zib (zfg he k hkn);obtain rfl:k=n':=by omega
 have hcc:zl d k=c':=by rw [zl,e3];rfl
 have hhh:ji d k=h':=by rw [ji,e3];rfl
 obtain ⟨-,hbd⟩:=zci hg;obtain ⟨b1,b2,b3⟩:=hbd _ (List.mem_of_getElem? e3);dsimp only at b1 b2 b3
 have hrow:∀p,p<c'.length→(zle (ql d k).1 p).2.length≤600:=fun p hp=>by
  have:=zcw hin p;unfold zle;omega
 refine ⟨hkn,fun x hx=>?_,?_,?_⟩
 ·obtain ⟨x1,x2⟩:=zu8 hb hkn hx;unfold ziy zf4 at hx;obtain ⟨p,hp,rfl⟩:=List.mem_map.1 hx;obtain ⟨hp1,hp2⟩:=List.mem_filter.1 hp;have hp1:=List.mem_range.1 hp1;obtain ⟨j,c1,c2,c3⟩:=zr8 hb hkn hp1 (by simpa using hp2);obtain ⟨m,hm,hj⟩:=ho.be i k hk j c2 c3
  have hfit:zew (zbl d i j) (ji d j)=true:=by
   rw [zir ho.nd hj hm,zb0 hr hj];unfold zlg at hf;rw [List.all_eq_true] at hf;refine hf j ?_;rw [List.mem_take_iff_getElem];obtain ⟨q1,q2⟩:=zg8.1 hj;exact ⟨m,by omega,q2⟩
  have hfit:=zh7.1 hfit;have ht:=zi2 hfl (p:=p) (by rw [←hcc];exact hp1);have hro:=hrow p (by rw [←hcc];exact hp1)
  have har:(zra d (zl d k) p:Int)≤100:=by
   rw [zra,c1,Int.toNat_natCast,ji,zg7 c2];have:=(hbd _ (List.getElem_mem c2)).1;rw [Option.getD_some];omega
  have htm:zec (zl d k) p=tm9 (qy c' c'.length) p:=by rw [zec,hcc]
  refine ⟨?_,?_,?_,?_,?_,?_,?_⟩
  ·show 0≤iA9 (zl d k) p;omega
  ·show iA9 (zl d k) p<_;omega
  ·show 0≤zec (zl d k) p;omega
  ·show zec (zl d k) p≤_;omega
  ·show -1000000≤zgm (ji d k)+(zle (ql d k).1 p).2.length-zra d (zl d k) p;unfold zgm;omega
  ·show zgm (ji d k)+(zle (ql d k).1 p).2.length-zra d (zl d k) p≤1000000;rw [hhh];unfold zgm;omega
  ·show 0≤(zbl d i (iA9 (zl d k) p).toNat).1∧_;simp only [zqg,c1,Int.toNat_natCast];omega
 ·have:=zvm d (ji d k) (zl d k) (ql d k).1 (zl d k).length;rw [hcc] at this;unfold ziy;rw [hcc];omega
 ·have f1:=zh4 hfl c'.length (Nat.le_refl _);have f2:=zgx hfl c'.length (Nat.le_refl _)
  have f3:zc8 (ql d k).1≤600:=zkv fun z hz=>by
   obtain ⟨i,hi⟩:=List.getElem?_of_mem hz;have h1:=(zg8.1 hi).1;have:=hrow i (by omega);rw [zle,hi] at this;exact this
  unfold zkc qc6 zgm;rw [hcc,hhh];dsimp only;omega
def zom (w w':World) (d:Md) (r:Ending):Prop:=∃A c,r=.returned (.tuple #[.slice A (zap d).1.length c,.int .i64 (zap d).2])∧w'.ownsRow w.heap.size 39 3 (.slice A (zap d).1.length c) (zap d).1.length (clr ce3 (zap d).1)∧Below w.heap.size w w'
theorem zom.err {w w':World} {d:Md} {e:Int} (hT:zap d=([],e)) (hb:Below w.heap.size w w'):zom w w' d (.returned (.tuple #[.slice none 0 0,.int .i64 e])):=by
 unfold zom;rw [hT];exact ⟨none,0,rfl,World.ownsRow_nil _ _ _ _,hb⟩
abbrev zev (p:Addr) (v:Value):Fct:=⟨fun w=>w.cell? p=some v,fun _ _ h hb=>(hb.cell (qi h)).trans h⟩
abbrev zn4 (p:Addr) (z:Me):Fct:=⟨fun w=>At8 w p z,fun _ _ h hb=>h.keep hb⟩
abbrev fRg {α:Type} (f:α→List Value) (m:Nat) (A:Option Addr) (c:Nat) (L:List α):Fct:=⟨fun w=>Rg f m w A c L,fun _ _ h hb=>h.keep hb⟩
theorem zp2 (y:Ma) (d:Md) (w:World) (hq:Hq w y d) (hg:qG d=false):Calls Tryz.prog 28 #[dv y d] w fun r w'=>zom w w' d r:=by
 obtain ⟨G,gc,P,pc,AA,cc,Zm⟩:=y;have hzl:=hq.zlen;dsimp only at hzl;obtain ⟨hs40,hbd⟩:=zci hg;have HG:=zhy hg;have HBL:Hid (∀z∈d.s,z.2.length≤1000):=zhy fun z hz=>by have:=hbd z hz;omega
 obtain ⟨sn,hsn⟩:∃sn,d.s.length=sn:=⟨_,rfl⟩;have HSN:=zhy hsn;have HZL:=zhy (hzl.trans hsn);rw [hsn] at hs40;obtain ⟨B,hB⟩:∃B,w.heap.size=B:=⟨_,rfl⟩;have S0:=zhy ((((Sx.start w).add (fQm ⟨G,gc,P,pc,AA,cc,Zm⟩ d) hq).mkD ⟨G,gc,P,pc,AA,cc,Zm⟩ d));rw [hB] at S0;have HBB:=zhy hB;clear hq hg hbd hzl hsn;go_enter Tryz.func28,Tryz.ntmps28;go_upto_region 1 with (fail);change Code.wp _ _ _ _ (w.alloc (zn ⟨G,gc,P,pc,AA,cc,Zm⟩ d));generalize w.alloc (zn ⟨G,gc,P,pc,AA,cc,Zm⟩ d)=w1 at S0 ⊢;clear hB;obtain ⟨-,⟨d0,d1,d2,d3,d4⟩,-⟩:=S0.o;dsimp only at d1 d2 d3;rw [HSN.o] at d3;have HOR:=zhy (zsg ⟨G,gc,P,pc,AA,cc,Zm⟩ d w1 S0.o.2.2.1 (by rw [HSN.o];omega) HBL.o);rw [dv,HSN.o] at HOR;dsimp only at HOR;go_wp2_with fail;refine HOR.o.mono ?_;rintro r w2 ⟨AO,cO,rfl,ho,hb⟩;have S2:=zhy ((S0.o.call hb).add (fRn AO cO (jg d).1) (Rn.of_own ho).1);clear HOR hb ho S0 d0 d1 d2 d3 d4;by_cases h0:(jg d).2=0
 case neg =>
  have hne:((jg d).2 != 0)=true:=by simpa using h0
  have HE:=zhy (zom.err (w:=w) (w':=w2) (d:=d) (e:=(jg d).2) (by rw [zap,if_neg h0]) S2.o.1);generalize (jg d).2=E at *;go_wp2_with fail;go_ret2;exact HE.o
 case pos =>
 have HRO:=zhy h0;obtain ⟨ol,hol⟩:∃ol,(jg d).1.length=ol:=⟨_,rfl⟩;obtain ⟨-,hor,hok11,hlen,-⟩:=qc5 h0;have holn:ol=sn:=by rw [←hol,hor,qx,List.length_map,hlen,HSN.o]
 have HOO:Hid (∀(i k:Nat),(zdo d)[i]?=some k→(jg d).1[i]?=some (k:Int)):=zhy fun i k hk=>by rw [hor,qx,List.getElem?_map,hk];rfl
 have HOL:Hid ((zdo d).length=sn):=zhy (by rw [hlen,HSN.o]);rw [h0,hol,holn];clear h0 hol hor hok11 hlen holn;obtain ⟨-,-,⟨d0,d1,d2,d3,d4⟩,-⟩:=S2.o;dsimp only at d1 d2 d3;rw [HSN.o] at d3;have HOW:=zhy (zux ⟨G,gc,P,pc,AA,cc,Zm⟩ d w2 S2.o.2.2.2.1 HG.o);rw [dv,HSN.o] at HOW;dsimp only at HOW;go_wp2_with fail;refine HOW.o.mono ?_;rintro r w3 h;clear HOW d0 d1 d2 d3 d4;rcases h with ⟨h1,rfl,hb⟩ | ⟨h1,AZ,cZ,ZZ,rfl,hrg,hzl,hze,hb⟩
 ·have hne:(jj d d.s.length != 0)=true:=by simpa using h1
  have HE:=zhy (zom.err (w:=w) (w':=w3) (d:=d) (e:=jj d d.s.length) (by rw [zap,if_pos HRO.o,if_neg h1]) (S2.o.call hb).1);clear h1 hb S2;generalize jj d d.s.length=E at *;go_wp2_with fail;go_ret2;exact HE.o
 ·have S3:=zhy ((S2.o.call hb).add (fRg az4 4 AZ cZ ZZ) hrg);have HER:=zhy h1;rw [HSN.o] at hzl ⊢;have HZZ:=zhy hzl;obtain ⟨M,hM⟩:∃M,w3.heap.size=M:=⟨_,rfl⟩;obtain ⟨cs,hmk,hcs⟩:=zwj sn (by omega) w3;rw [hM] at hmk
  have HO4:Hid ((w3.alloc (.cells cs 39)).ownsRow M 39 3 (.slice (some ⟨M,0,none⟩) sn sn) sn (clr ce3 ((List.range sn).map (zbl d 0)))):=zhy (by
   have:=World.ownsRow_lit (base:=M) (e:=39) (size:=3) w3 cs sn (by omega) (by unfold maxLen;omega) (by
    have:=congrArg List.length hcs;rw [za7 q9,List.length_replicate,Array.length_toList] at this;exact this)
   rw [hcs,hM] at this
   have e:(List.range sn).map (zbl d 0)=List.replicate sn zd4:=by
    apply List.ext_getElem?;intro j;rw [List.getElem?_map,List.getElem?_replicate];split
    ·rename_i h;rw [List.getElem?_range h];rfl
    ·rename_i h;rw [List.getElem?_eq_none (by simp;omega)];rfl
   rw [e];exact this)
  have HB4:Hid (Below M w3 (w3.alloc (.cells cs 39))):=zhy (by rw [←hM];exact qh);have HZE:Hid (∀j z,ZZ[j]?=some z→z.c=zkc d j∧z.L=ziy d j∧z.ok w3):=zhy hze;have HMM:=zhy hM;clear h1 hb hrg hzl hze hcs S2;go_upto_region 9 with (fail);clear hmk hM;generalize w3.alloc (.cells cs 39)=w4 at HO4 HB4 ⊢;go_loopw [31] (fun iv wq=>∃i:Nat,i≤sn∧iv=.int .i64 i∧Hid (zlg d i=true)∧Hid (wq.ownsRow M 39 3 (.slice (some ⟨M,0,none⟩) sn sn) sn (clr ce3 ((List.range sn).map (zbl d i))))∧Hid (Below M w3 wq)) (fun iv _=>sn-(intOf iv).toNat)
  case atStart=>exact ⟨0,by omega,rfl,zhy rfl,HO4,HB4⟩
  case round =>
   obtain ⟨i,hi,rfl,HF,HO,HB⟩:=hrel;rename World=>wq;clear HO4 HB4;have SQ:=zhy (S3.o.call (w':=wq) (by rw [HMM.o];exact HB.o));have hgM:M<wq.heap.size:=(HO.o.lt M rfl).2;by_cases h1:i<sn
   ·obtain ⟨k,hk⟩:∃k,(zdo d)[i]?=some k:=⟨_,zg7 (by rw [HOL.o];exact h1)⟩;obtain ⟨ad,hAO,o1⟩:=SQ.o.2.2.1.at_ (HOO.o i k hk);obtain ⟨hkn,hbd,hal,haw⟩:=qfc HG.o HRO.o HER.o HF.o hk;rw [HSN.o] at hkn hbd;obtain ⟨z,hz⟩:∃z,ZZ[k]?=some z:=⟨_,zg7 (by rw [HZZ.o];exact hkn)⟩;obtain ⟨hzc,hzl,hzo⟩:=HZE.o k z hz;have HZO:=zhy (hzo.keep (w':=wq) (by rw [HMM.o];exact HB.o));obtain ⟨g,hAZ,hg,hcz⟩:=SQ.o.2.1.at_ zaa hz;subst hAO hAZ;have z0:=hcz 0 (by omega);have z1:=hcz 1 (by omega);have z2:=hcz 2 (by omega);have z3:=hcz 3 (by omega);simp only [az4,List.getElem?_cons_zero,List.getElem?_cons_succ,Nat.add_zero] at z0 z1 z2 z3;have hx:((List.range sn).map (zbl d i))[k]?=some (zbl d i k):=by rw [List.getElem?_map,List.getElem?_range hkn];rfl
    have HTOT:=zhy (zpo z (some ⟨M,0,none⟩) sn sn (zbl d i) wq HZO.o (Rg.of_own q9 (by omega) HO.o).1 (by omega) (by rw [hzl];exact hbd) (by rw [hzl];exact hal) (by rw [hzc];exact haw));have HOF:Hid (zdn (zbl d i) z.L z.c=zls d k):=zhy (by rw [hzl,hzc];exact zb0 HRO.o hk);have HCI:Hid (zbl d (i+1)=zp6 (zbl d i) k (zls d k)):=zhy (by rw [zc3 hk,zb0 HRO.o hk]);have HKK:=zhy hk;have HOK2:Hid (zlg d (i+1)=zew (zls d k) (ji d k)):=zhy (by rw [zis hk,HF.o,Bool.true_and]);rw [HOF.o] at HTOT;obtain ⟨⟨vf,vs,vh⟩,hv⟩:∃v,zls d k=v:=⟨_,rfl⟩;rw [hv] at HTOT HCI HOK2;clear hk hbd hal haw hz hzc hzl hzo hcz hv;obtain ⟨⟨zf,zs,zh⟩,zA,zk,zL⟩:=z;dsimp only at z0 z1 z2 z3 HTOT;go_wp2_with fail;refine HTOT.o.mono ?_;rintro r w5 ⟨rfl,hb⟩;have HO5:=zhy (qb HO.o hb (Nat.le_refl _));have HB5:=zhy (HB.o.trans (hb.mono (by omega)));clear HTOT hb HO HB SQ z0 z1 z2 z3 o1;have f0:=HO5.o.frozenAt (k*3);have f1:=HO5.o.frozenAt (k*3+1);have f2:=HO5.o.frozenAt (k*3+2);have c0:=(HO5.o.cellAt (k*3) (by omega)).trans (show (clr ce3 ((List.range sn).map (zbl d i)))[k*3]?=_ from jb q9 (j:=0) (by omega) hx);have c1:=(HO5.o.cellAt (k*3+1) (by omega)).trans (jb q9 (j:=1) (by omega) hx);have c2:=(HO5.o.cellAt (k*3+2) (by omega)).trans (jb q9 (j:=2) (by omega) hx);simp only [ce3,List.getElem?_cons_zero,List.getElem?_cons_succ] at c0 c1 c2;have HO6:=zhy (zin (z:=(vf,vs,vh)) HO5.o hx);have HB6:=zhy (((HB5.o.setCell (p:=⟨M,k*3,none⟩) (Nat.le_refl _) (.int .i64 vf)).setCell (p:=⟨M,k*3+1,none⟩) (Nat.le_refl _) (.int .i64 vs)).setCell (p:=⟨M,k*3+2,none⟩) (Nat.le_refl _) (.int .i64 vh));rw [zjz,←HCI.o] at HO6;dsimp only at HO6;clear HO5 HB5 hx;go_upto_region 12 with (fail);generalize (((w5.setCell ⟨M,k*3,none⟩ (.int .i64 vf)).setCell ⟨M,k*3+1,none⟩ (.int .i64 vs)).setCell ⟨M,k*3+2,none⟩ (.int .i64 vh))=w6 at HO6 HB6 ⊢;clear c0 c1 c2 f0 f1 f2;have SQ:=zhy (S3.o.call (w':=w6) (by rw [HMM.o];exact HB6.o));have hx:((List.range sn).map (zbl d (i+1)))[k]?=some (vf,vs,vh):=by rw [List.getElem?_map,List.getElem?_range hkn,HCI.o];simp [zp6]
    have c0:=(HO6.o.cellAt (k*3) (by omega)).trans (show (clr ce3 ((List.range sn).map (zbl d (i+1))))[k*3]?=_ from jb q9 (j:=0) (by omega) hx);have c1:=(HO6.o.cellAt (k*3+1) (by omega)).trans (jb q9 (j:=1) (by omega) hx);have c2:=(HO6.o.cellAt (k*3+2) (by omega)).trans (jb q9 (j:=2) (by omega) hx);simp only [ce3,List.getElem?_cons_zero,List.getElem?_cons_succ] at c0 c1 c2;obtain ⟨-,-,-,⟨d0,d1,d2,d3,d4⟩,-⟩:=SQ.o;dsimp only at d3;rw [HSN.o] at d3;obtain ⟨ad8,e8,hat,-⟩:=SQ.o.2.2.2.2.1.2.2.1.at_ (i:=k) (by rw [HZL.o];exact hkn);have hme:=SQ.o.2.2.2.2.1.zat (i:=k) (by rw [HZL.o];exact hkn) (by rw [HSN.o];exact hkn);dsimp only at e8 hat hme;obtain ⟨zm,hzm⟩:∃zm,Zm[k]'(by rw [HZL.o];exact hkn)=zm:=⟨_,rfl⟩;rw [hzm] at hat hme;have HME:Hid (ji d k=zm.m):=zhy (by rw [ji,zg7 (by rw [HSN.o];exact hkn),hme];rfl);rw [HME.o] at HOK2;obtain ⟨xm,hm,Lm⟩:=zm;dsimp only at HOK2;subst e8;have SF:Hid (Sx w6 w6.drew [zev ⟨M,k*3,none⟩ (.int .i64 vf),zev ⟨M,k*3+1,none⟩ (.int .i64 vs),zev ⟨M,k*3+2,none⟩ (.int .i64 vh),zev ⟨B,2,none⟩ (.slice (some ad8) sn cc),zn4 (ad8.add (k*8)) ⟨xm,hm,Lm⟩]):=Hsx.drew (zhy ((((((Sx.start w6).add (zn4 (ad8.add (k*8)) ⟨xm,hm,Lm⟩) hat).add (zev ⟨B,2,none⟩ (.slice (some ad8) sn cc)) d3).add (zev ⟨M,k*3+2,none⟩ (.int .i64 vh)) c2).add (zev ⟨M,k*3+1,none⟩ (.int .i64 vs)) c1).add (zev ⟨M,k*3,none⟩ (.int .i64 vf)) c0));obtain ⟨v,hv⟩:∃v,zew (vf,vs,vh) hm=v:=⟨_,rfl⟩;have HFI:=zhy hv;rw [hv] at HOK2;clear hv hx c0 c1 c2 d0 d1 d2 d3 d4 hat hme hzm SQ;refine wp_region_held_drew (S:=fun w'=>Hid (Sx w6 w' [zev ⟨M,k*3,none⟩ (.int .i64 vf),zev ⟨M,k*3+1,none⟩ (.int .i64 vs),zev ⟨M,k*3+2,none⟩ (.int .i64 vh),zev ⟨B,2,none⟩ (.slice (some ad8) sn cc),zn4 (ad8.add (k*8)) ⟨xm,hm,Lm⟩])) (by kernel_rfl) (SF) (fun hHeld=>?_);refine zq 0 (h:=?_);refine zq 1 (h:=?_);refine zq 2 (h:=?_);refine zq 3 (hy:=fun w hSw=>by (try dsimp only at hSw);obtain ⟨-,s0,s1,s2,s3,⟨a0,a1,a2,a3,a4,a5,a6,a7⟩,-⟩:=hSw.o;dsimp only at s0 s1 s2 s3;go_simp;try with_reducible rfl) (h:=?_);refine zq 4 (h:=?_);refine zq 5 (hy:=fun w hSw=>by (try dsimp only at hSw);obtain ⟨-,s0,s1,s2,s3,⟨a0,a1,a2,a3,a4,a5,a6,a7⟩,-⟩:=hSw.o;dsimp only at s0 s1 s2 s3;go_simp;try with_reducible rfl) (h:=?_);refine zq 6 (h:=?_);refine zq 7 (h:=?_);refine zq 8 (hy:=fun w hSw=>by (try dsimp only at hSw);obtain ⟨-,s0,s1,s2,s3,⟨a0,a1,a2,a3,a4,a5,a6,a7⟩,-⟩:=hSw.o;dsimp only at s0 s1 s2 s3;go_simp;try with_reducible rfl) (h:=?_);refine wpAnyH_ready (rs:=[9]) (by kernel_rfl) (by simp) ?_;refine AllReadyH.cons rfl (fun K hK=>?_) AllReadyH.nil;go_simp;refine (ztr (vf,vs,vh) xm hm _).mono ?_;rintro r1 wb ⟨rfl,hb⟩;rw [HFI.o];go_wp2_with fail;refine hK.out _ _ (Hsx.call hb hHeld) (fun hHeld=>?_);clear hK K;(try simp only [Act.put,zg1,zg2,zg3,zg4,zg5,zg6]);refine zq 10 (h:=?_);refine wpAnyH_done (by kernel_rfl) ?_ _;have HO7:=zhy (qb HO6.o hHeld.o.1 (Nat.le_refl _));have HB7:=zhy (HB6.o.trans (hHeld.o.1.mono (have:=HO6.o.lt M rfl;Nat.le_of_lt this.2)));clear SF HO6 HB6 hHeld;cases v with
    | false =>
     have HE:Hid (zap d=([],120)):=zhy (by rw [zap,if_pos HRO.o,if_pos HER.o,if_neg (by rw [HSN.o,zr6 HOK2.o (show i+1≤sn by omega)];decide)]);have HEE:=zhy (zom.err HE.o (S3.o.call (by rw [HMM.o];exact HB7.o)).1);go_wp2_with fail;go_ret2;exact HEE.o
    | true =>
     go_wp2_with fail;exact ⟨⟨i+1,by omega,by go_num,HOK2,HO7,HB7⟩,by simp [intOf];omega⟩
   ·obtain rfl:sn=i:=by omega
    have HBW:=zhy SQ.o.1;have HALL:Hid (zap d=(zig d,0)):=zhy (by rw [zap,if_pos HRO.o,if_pos HER.o,if_pos (by rw [HSN.o];exact HF.o)]);have HCS:Hid ((List.range sn).map (zbl d sn)=zig d):=zhy (by rw [zhm (by rw [HOL.o];exact Nat.le_refl _),zig,HSN.o]);have HCL:Hid ((zig d).length=sn):=zhy (by rw [zhs,HSN.o]);have hwM:w.heap.size≤M:=by rw [←HMM.o];exact S3.o.1.size
    go_wp2_with fail;go_ret2;refine ⟨some ⟨M,0,none⟩,sn,by rw [HALL.o,HCL.o];rfl,?_,HBW.o⟩;rw [HALL.o,HCL.o,←HCS.o];exact qg HO.o hwM
def zgi (L:List Ins):Bool:=L.any fun x=>x.1==5
def zvk (d:Md) (k:Nat):Bool:=zgi (zl d k)
def qaq (d:Md) (k:Nat):Mh:=(d.s[k]?.getD (Mh.zero,[])).1
def za5 (d:Md) (k:Nat):Bool:=(qaq d k).q
def qbe (d:Md):Bool:=(List.range d.s.length).all fun k=>!za5 d k||(!zvk d k&&(List.range d.s.length).all fun i=>!e11 d k i||za5 d i)
theorem zmm {d:Md}:qbe d=true↔∀k,k<d.s.length→za5 d k=true→zvk d k=false∧∀i,i<d.s.length→e11 d k i=true→za5 d i=true:=by
 unfold qbe;simp only [List.all_eq_true,List.mem_range,Bool.or_eq_true,Bool.not_eq_true',Bool.and_eq_true];constructor
 ·intro h k hk hr;rcases h k hk with h1 | ⟨h1,h2⟩
  ·rw [hr] at h1;cases h1
  ·refine ⟨h1,fun i hi he=>?_⟩;rcases h2 i hi with h3 | h3
   ·rw [he] at h3;cases h3
   ·exact h3
 ·intro h k hk;cases hr:za5 d k with
  | false=>exact .inl rfl
  | true =>
   obtain ⟨h1,h2⟩:=h k hk hr;refine .inr ⟨h1,fun i hi=>?_⟩;cases he:e11 d k i with
   | false=>exact .inl rfl
   | true=>exact .inr (h2 i hi he)
def zof (d:Md) (k:Int):Bool×Int:=if k<0∨(d.s.length:Int)≤k then (false,2) else (zvk d k.toNat,0)
def zct (d:Md):Int:=if zcm d=true then 2 else if qbe d=true then 0 else 130
end Go.Proofs.YtnjgkkoiamiaaaaGreatDoor
