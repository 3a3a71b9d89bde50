import Derived.Test.YtnjgkkoiamiaaaaGreatDoorVma1
import Derived.Test.YtnjgkkoiamiaaaaGreatDoorVma23
import Derived.Test.YtnjgkkoiamiaaaaGreatDoorVma16
import Derived.Test.YtnjgkkoiamiaaaaGreatDoorVma4
import Derived.Test.YtnjgkkoiamiaaaaGreatDoorVma2
import Derived.OwnWalk
import Derived.Laws.OwnMore
set_option maxRecDepth 100000
set_option maxHeartbeats 16000000
set_option linter.unusedSimpArgs false
set_option linter.unusedVariables false
namespace Go.Proofs.YtnjgkkoiamiaaaaGreatDoor
open Go.RowKit
def z12:Az:=⟨c012,none,0,[]⟩
theorem Az.ok.keep {w w':World} {z:Az} (h:z.ok w) (hb:Below w.heap.size w w'):z.ok w':=Rg.keep h hb
theorem z12_ok (w:World):z12.ok w:=⟨Nat.zero_le _,Nat.zero_le _,.inl ⟨rfl,rfl⟩⟩
theorem Tryz.infoAz:(Tryz.prog.info? 105).map (fun i=>(i.zero,i.size,i.bytes))=some (some (.agg #[.int .i64 0,.int .i64 0,.int .i64 0,.slice none 0 0]),4,48):=by kernel_rfl
theorem madeAz (n:Nat) (hn:n≤1000) (w:World):∃cs,(Instr.makeSlice 98 (.int .i64 (n:Int)) (.int .i64 (n:Int))).run Tryz.prog w=.ok (.slice (some ⟨w.heap.size,0,none⟩) n n) (w.alloc (.cells cs 105))∧cs.toList=clr az4 (List.replicate n z12):=by
 have hinfo:=Tryz.infoAz;rw [Option.map_eq_some_iff] at hinfo;obtain ⟨i,hi,hz⟩:=hinfo;simp only [Prod.mk.injEq] at hz;obtain ⟨hz0,hz1,hz2⟩:=hz;have hr:=run_make (P:=Tryz.prog) w 98 105 i _ Tryz.underlying98 hi hz0 .i64 .i64 n n (by omega) (Int.le_refl _) (by rw [hz2];omega) (by omega);rw [hz1,Int.toNat_natCast] at hr;refine ⟨_,hr,?_⟩;have hl:(clr az4 (List.replicate n z12)).length=n*4:=by rw [clr_len az4_len,List.length_replicate]
 apply List.ext_getElem?;intro j;by_cases hj:j<n*4
 ·have h1:j / 4<n:=by omega
  have h2:(List.replicate n z12)[j / 4]?=some z12:=by rw [List.getElem?_replicate,if_pos h1]
  have h3:=clr_at az4_len (Nat.mod_lt j (by omega)) h2;rw [show j / 4*4+j % 4=j by omega] at h3;rw [h3,Array.getElem?_toList,madeCells,Array.getElem?_map];rw [Array.getElem?_range,if_pos hj];have h4:j % 4=0∨j % 4=1∨j % 4=2∨j % 4=3:=by omega
  rcases h4 with h4 | h4 | h4 | h4<;>simp [h4,az4,z12,c012,Value.cells]
 ·rw [List.getElem?_eq_none (by simp [madeCells];omega),List.getElem?_eq_none (by rw [hl];omega)]
theorem az4_store {w:World} {base M n c k:Nat} {Z:List Az} {x z:Az} (h:w.ownsRow base 105 4 (.slice (some ⟨M,0,none⟩) n c) n (clr az4 Z)) (hx:Z[k]?=some x) :
  ((((w.setCell ⟨M,k*4,none⟩ (.int .i64 z.c.1)).setCell ⟨M,k*4+1,none⟩ (.int .i64 z.c.2.1)).setCell ⟨M,k*4+2,none⟩ (.int .i64 z.c.2.2)).setCell ⟨M,k*4+3,none⟩ (.slice z.A z.L.length z.k)).ownsRow base 105 4 (.slice (some ⟨M,0,none⟩) n c) n (clr az4 (Z.set k z)):=by
 have hk:=(zg8.1 hx).1
 have h1:=(h.stored (k*4+0) (.int .i64 z.c.1)).1
 rw [clr_set az4_len hx (by omega) (show az4 ⟨(z.c.1,x.c.2),x.A,x.k,x.L⟩=_ from rfl)] at h1
 have h2:=(h1.stored (k*4+1) (.int .i64 z.c.2.1)).1
 rw [clr_set az4_len (List.getElem?_set_self hk) (by omega) (show az4 ⟨(z.c.1,z.c.2.1,x.c.2.2),x.A,x.k,x.L⟩=_ from rfl),List.set_set] at h2
 have h3:=(h2.stored (k*4+2) (.int .i64 z.c.2.2)).1
 rw [clr_set az4_len (List.getElem?_set_self hk) (by omega) (show az4 ⟨(z.c.1,z.c.2.1,z.c.2.2),x.A,x.k,x.L⟩=_ from rfl),List.set_set] at h3
 have h4:=(h3.stored (k*4+3) (.slice z.A z.L.length z.k)).1
 rw [clr_set az4_len (List.getElem?_set_self hk) (by omega) (show az4 z=_ from rfl),List.set_set] at h4
 exact h4
theorem Az.ok.other {w:World} {z:Az} (h:z.ok w) {p:Addr} (hp:∀ad,z.A=some ad→ad.block≠p.block) (u:Value):z.ok (w.setCell p u):=by
 refine ⟨h.1,h.2.1,?_⟩;rcases h.2.2 with h1 | ⟨g,hA,hg,hc⟩
 ·exact .inl h1
 ·refine .inr ⟨g,hA,by simpa using hg,fun j v hj=>?_⟩;rw [World.cell?_setCell_other _ _ _ _ (fun e=>by have:=hp _ hA;rw [e] at this;exact this rfl)];exact hc j v hj
def Os12 (w w':World) (d:Md) (r:Ending):Prop:=
 (er12 d d.s.length≠0∧r=.returned (.tuple #[.slice none 0 0,.int .i64 (er12 d d.s.length)])∧Below w.heap.size w w') ∨
 (er12 d d.s.length=0∧∃A c Z,r=.returned (.tuple #[.slice A d.s.length c,.int .i64 0])∧Rg az4 4 w' A c Z∧Z.length=d.s.length∧(∀j z,Z[j]?=some z→z.c=aw12 d j∧z.L=al12 d j∧z.ok w')∧Below w.heap.size w w')
theorem owns12_v (y:Ma) (d:Md) (w:World) (hq:Hq w y d) (hg:qG d=false):Calls Tryz.prog 57 #[dv y d] w fun r w'=>Os12 w w' d r:=by
 obtain ⟨hs40,-⟩:=qG_b12 hg;have HG:=zhy hg;obtain ⟨sn,hsn⟩:∃sn,d.s.length=sn:=⟨_,rfl⟩;have HSN:=zhy hsn;rw [hsn] at hs40;obtain ⟨B,hB⟩:∃B,w.heap.size=B:=⟨_,rfl⟩;have S0:=zhy ((((Sx.start w).add (fQm y d) hq).mkD y d));rw [hB] at S0;have HBB:=zhy hB;have hs1:(w.alloc (dcel y d)).heap.size=B+1:=by rw [size1,hB]
 obtain ⟨cs,hmk,hcs⟩:=madeAz sn (by omega) (w.alloc (dcel y d));rw [hs1] at hmk;have HCS:=zhy hcs;clear hq hg hsn hcs;go_enter Tryz.func57,Tryz.ntmps57;go_upto_region 1 with (fail);change Code.wp _ _ _ _ (w.alloc (dcel y d));generalize w.alloc (dcel y d)=w1 at S0 hs1 hmk ⊢;clear hB;obtain ⟨-,⟨d0,d1,d2,d3,d4⟩,-⟩:=S0.out;rw [HSN.out] at d3;go_upto_region 2 with (fail)
 have HO2:Hid ((w1.alloc (.cells cs 105)).ownsRow (B+1) 105 4 (.slice (some ⟨B+1,0,none⟩) sn sn) sn (clr az4 (List.replicate sn z12))):=zhy (by
  have:=World.ownsRow_lit (base:=B+1) (e:=105) (size:=4) w1 cs sn (by omega) (by unfold maxLen;omega) (by
   have:=congrArg List.length HCS.out;rw [clr_len az4_len,List.length_replicate,Array.length_toList] at this;exact this)
  rw [HCS.out,hs1] at this;exact this)
 have HB2:Hid (Below (B+1) w1 (w1.alloc (.cells cs 105))):=zhy (by rw [←hs1];exact new1);have S1:=S0;clear d0 d1 d2 d3 d4 hmk S0;generalize w1.alloc (.cells cs 105)=w2 at HO2 HB2 ⊢;go_wp2_with fail;go_loopw [14] (fun iv wq=>∃(k:Nat) (Zs:List Az),k≤sn∧iv=.int .i64 k∧Hid (er12 d k=0)∧Hid (Zs.length=sn)∧Hid (∀j z,Zs[j]?=some z→(j<k→z.c=aw12 d j∧z.L=al12 d j)∧z.ok wq∧∀ad,z.A=some ad→B+1<ad.block)∧Hid (wq.ownsRow (B+1) 105 4 (.slice (some ⟨B+1,0,none⟩) sn sn) sn (clr az4 Zs))∧Hid (Below (B+1) w1 wq)) (fun iv _=>sn-(intOf iv).toNat)
 case atStart=>exact ⟨0,List.replicate sn z12,by omega,rfl,zhy rfl,zhy (by simp),zhy (fun j z hz=>by
   rw [List.getElem?_replicate] at hz;split at hz
   ·injection hz with hz;subst hz;exact ⟨fun h=>by omega,z12_ok _,fun ad e=>by cases e⟩
   ·cases hz),HO2,HB2⟩
 case round =>
  obtain ⟨k,Zs,hk,rfl,HER,HZL,HZ,HO,HB⟩:=hrel;rename World=>wq;clear HO2 HB2;have SQ:=zhy (S1.out.call (w':=wq) (by rw [hs1];exact HB.out));have hgM:B+1<wq.heap.size:=(HO.out.lt (B+1) rfl).2;obtain ⟨-,⟨d0,d1,d2,d3,d4⟩,-⟩:=SQ.out;rw [HSN.out] at d3;by_cases h1:k<sn
  ·have HOW:=zhy (own12_v y d k wq SQ.out.2.2.1 HG.out (by rw [HSN.out];exact h1));rw [dv,HSN.out] at HOW;go_wp2_with fail;refine HOW.out.mono ?_;rintro r w3 h;clear HOW d0 d1 d2 d3 d4;rcases h with ⟨h0,rfl,hb⟩ | ⟨h0,z,rfl,hzc,hzl,hzo,hza,hb⟩
   ·have HE:Hid (er12 d d.s.length=(rw10s d k).2):=zhy (er12_stop HER.out h0 _ (by rw [HSN.out];exact h1));have HNE:=zhy h0;have hne:((rw10s d k).2 != 0)=true:=by simpa using h0
    have HBE:=zhy (SQ.out.call hb).1;have HBE2:Hid (Below w.heap.size w (w3.alloc (.cells #[.int .i64 0,.int .i64 0,.int .i64 0,.slice none 0 0] 105))):=zhy (below_on HBE.out new1);clear h0 hb SQ HO HB;generalize (rw10s d k).2=E at *;go_wp2_with fail;go_ret2;exact .inl ⟨by rw [HE.out];exact HNE.out,by rw [HE.out];rfl,HBE2.out⟩
   ·have HE0:Hid (er12 d (k+1)=0):=zhy (by rw [er12,if_pos HER.out];exact h0);obtain ⟨⟨zf,zs,zh⟩,zA,zk,zL⟩:=z;dsimp only at hzc hzl hza;obtain ⟨wa,hwa⟩:∃wa,w3.alloc (.cells #[.int .i64 zf,.int .i64 zs,.int .i64 zh,.slice zA zL.length zk] 105)=wa:=⟨_,rfl⟩;have hb3:Below wq.heap.size wq wa:=by rw [←hwa];exact below_on hb new1
    have HOA:Hid (wa.ownsRow (B+1) 105 4 (.slice (some ⟨B+1,0,none⟩) sn sn) sn (clr az4 Zs)):=zhy (own_below HO.out hb3 (Nat.le_refl _));have HBA:Hid (Below (B+1) w1 wa):=zhy (HB.out.trans (hb3.mono (by omega)));have hAx:Ax wa w3.heap.size (zf,zs,zh) (.slice zA zL.length zk):=by rw [←hwa];exact Ax.new w3 (zf,zs,zh) _
    have hok3:∀j z,Zs[j]?=some z→(j<k→z.c=aw12 d j∧z.L=al12 d j)∧z.ok wa∧∀ad,z.A=some ad→B+1<ad.block:=fun j z hz=>by
     obtain ⟨a1,a2,a3⟩:=HZ.out j z hz;exact ⟨a1,a2.keep hb3,a3⟩
    have hzo3:(⟨(zf,zs,zh),zA,zk,zL⟩:Az).ok wa:=by
     rw [←hwa];exact Az.ok.keep hzo new1
    obtain ⟨x,hx⟩:∃x,Zs[k]?=some x:=⟨_,zg7 (by rw [HZL.out];exact h1)⟩;have HST:=zhy (az4_store (z:=⟨(zf,zs,zh),zA,zk,zL⟩) HOA.out hx)
    have HZN:Hid (∀j z,(Zs.set k ⟨(zf,zs,zh),zA,zk,zL⟩)[j]?=some z→(j<k+1→z.c=aw12 d j∧z.L=al12 d j)∧z.ok wa∧∀ad,z.A=some ad→B+1<ad.block):=zhy (fun j z hz=>by
     by_cases hjk:j=k
     ·subst hjk;rw [List.getElem?_set_self (by rw [HZL.out];exact h1)] at hz;injection hz with hz;subst hz;exact ⟨fun _=>⟨hzc,hzl⟩,hzo3,fun ad e=>by have:=hza ad e;omega⟩
     ·rw [List.getElem?_set_ne (fun e=>hjk e.symm)] at hz;obtain ⟨a1,a2,a3⟩:=hok3 j z hz;exact ⟨fun h=>a1 (by omega),a2,a3⟩)
    have hb0:Below w.heap.size w wa:=below_on SQ.out.1 hb3;have hI:∃I,w3.heap.size=I:=⟨_,rfl⟩;obtain ⟨I,hI⟩:=hI;rw [hI] at hAx;have f0:=HOA.out.frozenAt (k*4);have f1:=HOA.out.frozenAt (k*4+1);have f2:=HOA.out.frozenAt (k*4+2);have f3:=HOA.out.frozenAt (k*4+3);have c0:=(HOA.out.cellAt (k*4) (by omega)).trans (show (clr az4 Zs)[k*4]?=_ from clr_at az4_len (j:=0) (by omega) hx);have c1:=(HOA.out.cellAt (k*4+1) (by omega)).trans (clr_at az4_len (j:=1) (by omega) hx);have c2:=(HOA.out.cellAt (k*4+2) (by omega)).trans (clr_at az4_len (j:=2) (by omega) hx);have c3:=(HOA.out.cellAt (k*4+3) (by omega)).trans (clr_at az4_len (j:=3) (by omega) hx);simp only [az4,List.getElem?_cons_zero,List.getElem?_cons_succ] at c0 c1 c2 c3;obtain ⟨b0,b1,b2,b3,-⟩:=hAx.cells;dsimp only at b0 b1 b2;clear hzc hzl hzo hza hb hok3 hzo3 hx HZ HO HB SQ hAx hb3;go_upto_region 8 with (fail);clear hI hwa;go_wp2_with fail;refine ⟨⟨k+1,Zs.set k ⟨(zf,zs,zh),zA,zk,zL⟩,by omega,by go_num,HE0,zhy (by rw [List.length_set];exact HZL.out),zhy (fun j z hz=>?_),HST,zhy ((((HBA.out.setCell (p:=⟨B+1,k*4,none⟩) (Nat.le_refl _) _).setCell (p:=⟨B+1,k*4+1,none⟩) (Nat.le_refl _) _).setCell (p:=⟨B+1,k*4+2,none⟩) (Nat.le_refl _) _).setCell (p:=⟨B+1,k*4+3,none⟩) (Nat.le_refl _) _)⟩,by simp [intOf];omega⟩;obtain ⟨a1,a2,a3⟩:=HZN.out j z hz;have ne:∀ad:Addr,z.A=some ad→ad.block≠B+1:=fun ad e=>by have:=a3 ad e;omega
    exact ⟨a1,((((a2.other (p:=⟨B+1,k*4,none⟩) ne _).other (p:=⟨B+1,k*4+1,none⟩) ne _).other (p:=⟨B+1,k*4+2,none⟩) ne _).other (p:=⟨B+1,k*4+3,none⟩) ne _),a3⟩
  ·obtain rfl:sn=k:=by omega
   have HBW:=zhy SQ.out.1;have HRG:=zhy (Rg.of_own az4_len (by omega) HO.out);go_wp2_with fail;go_ret2;refine .inr ⟨by rw [HSN.out];exact HER.out,some ⟨B+1,0,none⟩,sn,Zs,by rw [HSN.out];rfl,HRG.out.1,by rw [HZL.out,HSN.out],fun j z hz=>?_,HBW.out⟩;have hj:=(zg8.1 hz).1;rw [HZL.out] at hj;obtain ⟨a1,a2,-⟩:=HZ.out j z hz;exact ⟨(a1 hj).1,(a1 hj).2,a2⟩
structure Bd12 (C:Nat→Ce) (n:Nat) (x:Kl12):Prop where
 nn:0≤x.1
 lt:x.1<n
 t0:0≤x.2.1
 t1:x.2.1≤100000000
 b0:-1000000≤x.2.2.2
 b1:x.2.2.2≤1000000
 c:0≤(C x.1.toNat).1∧(C x.1.toNat).1≤1048576∧0≤(C x.1.toNat).2.1∧(C x.1.toNat).2.1≤256∧0≤(C x.1.toNat).2.2∧(C x.1.toNat).2.2≤1024
theorem to12_take {C:Nat→Ce} {l:List Kl12} {s:Ce} {i:Nat} {x:Kl12} (h:l[i]?=some x):to12 C (l.take (i+1)) s=st12 C (to12 C (l.take i) s) x:=by
 unfold to12;rw [List.take_add_one,h,List.foldl_append];rfl
theorem to12_bd {C:Nat→Ce} {n:Nat} {l:List Kl12} {s:Ce} (hl:∀x∈l,Bd12 C n x) (h0:0≤s.1∧s.1≤100000000000∧-1000000≤s.2.1∧s.2.1≤2000000∧0≤s.2.2∧s.2.2≤100000000000000000):∀i:Nat,i≤l.length →
  0≤(to12 C (l.take i) s).1∧(to12 C (l.take i) s).1≤100000000000+104857600000000*i∧-1000000≤(to12 C (l.take i) s).2.1∧(to12 C (l.take i) s).2.1≤2000000∧0≤(to12 C (l.take i) s).2.2∧(to12 C (l.take i) s).2.2≤100000000000000000+102400000000*i
 | 0,_=>by
  have e:to12 C (l.take 0) s=s:=rfl;rw [e];omega
 | i+1,hi=>by
  obtain ⟨a1,a2,a3,a4,a5,a6⟩:=to12_bd hl h0 i (by omega);obtain ⟨x,hx⟩:∃x,l[i]?=some x:=⟨_,zg7 (by omega)⟩;obtain ⟨b1,b2,b3,b4,b5,b6,c1,c2,c3,c4,c5,c6⟩:=hl x (List.mem_of_getElem? hx);rw [to12_take hx];have d1:0≤(C x.1.toNat).1*x.2.1:=Int.mul_nonneg c1 b3;have d2:(C x.1.toNat).1*x.2.1≤1048576*100000000:=Int.mul_le_mul c2 b4 b3 (by omega);have d3:0≤(C x.1.toNat).2.2*x.2.1:=Int.mul_nonneg c5 b3;have d4:(C x.1.toNat).2.2*x.2.1≤1024*100000000:=Int.mul_le_mul c6 b4 b3 (by omega);generalize to12 C (l.take i) s=u at *;simp only [st12];refine ⟨by omega,by omega,?_,?_,by omega,by omega⟩
  ·split<;>omega
  ·split<;>omega
theorem total12_v (z:Az) (D:Option Addr) (dc n:Nat) (C:Nat→Ce) (w:World) (hz:z.ok w) (hd:Rg ce3 3 w D dc ((List.range n).map C)) (hn:n≤1000) (hl:∀x∈z.L,Bd12 C n x) (hlen:z.L.length≤300)
  (h0:0≤z.c.1∧z.c.1≤100000000000∧-1000000≤z.c.2.1∧z.c.2.1≤2000000∧0≤z.c.2.2∧z.c.2.2≤100000000000000000) :
  Calls Tryz.prog 58 #[azv z.c (.slice z.A z.L.length z.k),.slice D n dc] w fun r w'=>r=.returned (cv (to12 C z.L z.c))∧Below w.heap.size w w':=by
 obtain ⟨c,A,k,L⟩:=z
 dsimp only at hz hl hlen h0 ⊢
 obtain ⟨X,hX⟩:∃X,w.heap.size=X:=⟨_,rfl⟩
 obtain ⟨m,hm⟩:∃m,L.length=m:=⟨_,rfl⟩
 have HLM:=zhy hm
 rw [hm] at hlen ⊢
 have HZ:=zhy hz
 have HD:=zhy hd
 have HL:=zhy hl
 have HBD:=zhy (to12_bd hl h0)
 have HXX:=zhy hX
 clear hz hd hl h0 hm
 obtain ⟨⟨vf,vs,vh⟩,hV⟩:∃v,to12 C L c=v:=⟨_,rfl⟩
 have HV:=zhy hV
 rw [hV]
 clear hV
 go_enter Tryz.func58,Tryz.ntmps58
 go_upto_region 1 with (fail)
 have hX1:(w.alloc (.cells #[.int .i64 c.1,.int .i64 c.2.1,.int .i64 c.2.2,.slice A m k] 105)).heap.size=X+1:=by rw [size1,hX]
 have hA0:Ax ((w.alloc (.cells #[.int .i64 c.1,.int .i64 c.2.1,.int .i64 c.2.2,.slice A m k] 105)).alloc (.cells #[.int .i64 0,.int .i64 0,.int .i64 0] 39)) X c (.slice A m k):=(by have:=(Ax.new w c (.slice A m k)).keep (w':=(w.alloc (.cells #[.int .i64 c.1,.int .i64 c.2.1,.int .i64 c.2.2,.slice A m k] 105)).alloc (.cells #[.int .i64 0,.int .i64 0,.int .i64 0] 39)) new1;rw [hX] at this;exact this)
 have hR0:Cx12 ((w.alloc (.cells #[.int .i64 c.1,.int .i64 c.2.1,.int .i64 c.2.2,.slice A m k] 105)).alloc (.cells #[.int .i64 0,.int .i64 0,.int .i64 0] 39)) (X+1) (0,0,0):=(by rw [←hX1];exact Cx12.new _ (0,0,0))
 have hB0:Below X w ((w.alloc (.cells #[.int .i64 c.1,.int .i64 c.2.1,.int .i64 c.2.2,.slice A m k] 105)).alloc (.cells #[.int .i64 0,.int .i64 0,.int .i64 0] 39)):=(by rw [←hX];exact new1.trans (new1.mono (by simp)))
 have HA0:=zhy hA0
 have HR0:=zhy hR0
 have HB0:=zhy hB0
 clear hA0 hR0 hB0 hX1 hX
 generalize (w.alloc (.cells #[.int .i64 c.1,.int .i64 c.2.1,.int .i64 c.2.2,.slice A m k] 105)).alloc (.cells #[.int .i64 0,.int .i64 0,.int .i64 0] 39)=w1 at HA0 HR0 HB0 ⊢
 obtain ⟨-,-,-,x3,-⟩:=HA0.out.cells
 go_wp2_with fail
 clear x3
 go_loopw [11] (fun iv wq=>∃i:Nat,i≤m∧iv=.int .i64 i∧Hid (Ax wq X (to12 C (L.take i) c) (.slice A m k))∧Hid (Cx12 wq (X+1) (0,0,0))∧Hid (Below X w wq)) (fun iv _=>m-(intOf iv).toNat)
 case atStart=>exact ⟨0,by omega,rfl,HA0,HR0,HB0⟩
 case round =>
  obtain ⟨i,hi,rfl,HX,HR,HB⟩:=hrel
  rename World=>wq
  clear HA0 HR0 HB0
  have hXq:X<wq.heap.size:=HX.out.lt
  have hRq:X+1<wq.heap.size:=HR.out.lt
  by_cases h1:i<m
  ·obtain ⟨x,hx⟩:∃x,L[i]?=some x:=⟨_,zg7 (by rw [HLM.out];exact h1)⟩
   have HST:=zhy (to12_take (C:=C) (s:=c) hx)
   obtain ⟨b1,b2,b3,b4,b5,b6,q1,q2,q3,q4,q5,q6⟩:=HL.out x (List.mem_of_getElem? hx)
   obtain ⟨t1,t2,t3,t4,t5,t6⟩:=HBD.out i (by rw [HLM.out];exact hi)
   obtain ⟨g,hA,hg,hc⟩:=(HZ.out.keep (w':=wq) (by rw [HXX.out];exact HB.out)).at_ cl4_len hx
   obtain ⟨⟨xw,xt,xr,xb⟩,rfl⟩:∃y:Kl12,x=y:=⟨x,rfl⟩
   dsimp only at b1 b2 b3 b4 b5 b6 q1 q2 q3 q4 q5 q6
   obtain ⟨j,rfl⟩:∃j:Nat,xw=j:=⟨xw.toNat,by omega⟩
   rw [Int.toNat_natCast] at q1 q2 q3 q4 q5 q6
   have hj:j<n:=by omega
   have hcj:((List.range n).map C)[j]?=some (C j):=by rw [List.getElem?_map,List.getElem?_range hj];rfl
   obtain ⟨gd,hD,hgd,hcd⟩:=(HD.out.keep (w':=wq) (by rw [HXX.out];exact HB.out)).at_ ce3_len hcj
   dsimp only at hA
   subst hA hD
   have k0:=hc 0 (by omega)
   have k1:=hc 1 (by omega)
   have k2:=hc 2 (by omega)
   have k3:=hc 3 (by omega)
   have d0:=hcd 0 (by omega)
   have d1:=hcd 1 (by omega)
   have d2:=hcd 2 (by omega)
   simp only [cl4,ce3,List.getElem?_cons_zero,List.getElem?_cons_succ,Nat.add_zero] at k0 k1 k2 k3 d0 d1 d2
   obtain ⟨⟨cf,cs,ch⟩,hC⟩:∃v,C j=v:=⟨_,rfl⟩
   rw [hC] at d0 d1 d2 q1 q2 q3 q4 q5 q6
   have HCJ:=zhy hC
   dsimp only at d0 d1 d2 q1 q2 q3 q4 q5 q6
   obtain ⟨⟨uf,us,uh⟩,hu⟩:∃v,to12 C (L.take i) c=v:=⟨_,rfl⟩
   rw [hu] at t1 t2 t3 t4 t5 t6 HX
   have HU:=zhy hu
   dsimp only at t1 t2 t3 t4 t5 t6
   have m1:0≤cf*xt:=Int.mul_nonneg q1 b3
   have m2:cf*xt≤1048576*100000000:=Int.mul_le_mul q2 b4 b3 (by omega)
   have m3:0≤ch*xt:=Int.mul_nonneg q5 b3
   have m4:ch*xt≤1024*100000000:=Int.mul_le_mul q6 b4 b3 (by omega)
   have wr:IntKind.i64.wrap (xb+cs)=xb+cs:=wrap_small (by omega)
   obtain ⟨P,hP⟩:∃P,wq.heap.size=P:=⟨_,rfl⟩
   have hP1:(wq.alloc (.cells #[.int .i64 (j:Int),.int .i64 xt,.bool xr,.int .i64 xb] 183)).heap.size=P+1:=by rw [size1,hP]
   rw [hP] at hg hgd hXq hRq
   have hg1:g<P+1:=by omega
   have hgd1:gd<P+1:=by omega
   clear hC hu hx hc hcd hcj
   have hbq:Below wq.heap.size wq ((wq.alloc (.cells #[.int .i64 (j:Int),.int .i64 xt,.bool xr,.int .i64 xb] 183)).alloc (.cells #[.int .i64 cf,.int .i64 cs,.int .i64 ch] 39)):=new1.trans (new1.mono (by rw [hP1,hP];omega))
   have HX2:=zhy (HX.out.keep hbq)
   have HR2:=zhy (HR.out.keep hbq)
   have HB2:=zhy (HB.out.trans (hbq.mono (by rw [hP];omega)))
   have HQ2:Hid (Cx12 ((wq.alloc (.cells #[.int .i64 (j:Int),.int .i64 xt,.bool xr,.int .i64 xb] 183)).alloc (.cells #[.int .i64 cf,.int .i64 cs,.int .i64 ch] 39)) (P+1) (cf,cs,ch)):=zhy (by rw [←hP1];exact Cx12.new _ (cf,cs,ch))
   have HK2:Hid (((wq.alloc (.cells #[.int .i64 (j:Int),.int .i64 xt,.bool xr,.int .i64 xb] 183)).alloc (.cells #[.int .i64 cf,.int .i64 cs,.int .i64 ch] 39)).heap[P]?=some (.cells #[.int .i64 (j:Int),.int .i64 xt,.bool xr,.int .i64 xb] 183 (0,0))):=zhy (by
    have h1:=heap_alloc_last wq (.cells #[.int .i64 (j:Int),.int .i64 xt,.bool xr,.int .i64 xb] 183);rw [hP] at h1;exact ((new1 (w:=wq.alloc (.cells #[.int .i64 (j:Int),.int .i64 xt,.bool xr,.int .i64 xb] 183)) (a:=.cells #[.int .i64 cf,.int .i64 cs,.int .i64 ch] 39)).block P (by rw [hP1];omega)).trans h1)
   clear hbq HX HR HB
   go_upto_region 5 with (fail)
   clear k0 k1 k2 k3 d0 d1 d2 hP hP1
   generalize (wq.alloc (.cells #[.int .i64 (j:Int),.int .i64 xt,.bool xr,.int .i64 xb] 183)).alloc (.cells #[.int .i64 cf,.int .i64 cs,.int .i64 ch] 39)=w2 at HX2 HR2 HB2 HQ2 HK2 ⊢
   have c1:w2.cell? ⟨P,1,none⟩=some (.int .i64 xt):=by rw [cell_of_row w2 P _ _ _ (0,0) HK2.out];rfl
   have c2:w2.cell? ⟨P,2,none⟩=some (.bool xr):=by rw [cell_of_row w2 P _ _ _ (0,0) HK2.out];rfl
   have c3:w2.cell? ⟨P,3,none⟩=some (.int .i64 xb):=by rw [cell_of_row w2 P _ _ _ (0,0) HK2.out];rfl
   obtain ⟨e0,e1,e2,-⟩:=HQ2.out.cells
   dsimp only at e0 e1 e2
   have HAD:=zhy (add12_v X (uf,us,uh) (.slice (some ⟨g,0,none⟩) m k) cf cs ch xt w2 HX2.out (by omega) (by omega) (by show 0≤uf∧uf≤_;omega) (by show 0≤uh∧uh≤_;omega))
   go_wp2_with fail
   refine HAD.out.mono ?_
   rintro r w3 ⟨rfl,hx3,hf3⟩
   have HX3:=zhy hx3
   have HR3:=zhy (hf3.cx (by omega) HR2.out)
   have HB3:=zhy (HB2.out.trans (hf3.below (Nat.le_refl _) (by have:=HX2.out.lt;omega)))
   have c2':=hf3.cell (by show P≠X;omega) c2
   have c3':=hf3.cell (by show P≠X;omega) c3
   have e1':=hf3.cell (by show P+1≠X;omega) e1
   clear HAD hx3 hf3 c1 c2 c3 e0 e1 e2 HX2 HR2 HB2 HQ2 HK2
   cases xr with
   | false =>
    have HXN:Hid (Ax w3 X (to12 C (L.take (i+1)) c) (.slice (some ⟨g,0,none⟩) m k)):=zhy (by
     rw [HST.out,HU.out];simp only [st12,Int.toNat_natCast,HCJ.out];exact HX3.out)
    go_wp2_with fail
    exact ⟨⟨i+1,by omega,by go_num,HXN,HR3,HB3⟩,by simp [intOf];omega⟩
   | true =>
    have HRI:=zhy (rise12_v X _ (.slice (some ⟨g,0,none⟩) m k) (xb+cs) w3 HX3.out (by omega))
    go_wp2_with fail
    refine HRI.out.mono ?_
    rintro r w4 ⟨rfl,hx4,hf4⟩
    have HXN:Hid (Ax w4 X (to12 C (L.take (i+1)) c) (.slice (some ⟨g,0,none⟩) m k)):=zhy (by
     rw [HST.out,HU.out];simp only [st12,Int.toNat_natCast,HCJ.out];exact hx4)
    have HR4:=zhy (hf4.cx (by omega) HR3.out)
    have HB4:=zhy (HB3.out.trans (hf4.below (Nat.le_refl _) (by have:=HX3.out.lt;omega)))
    clear HRI hx4 hf4 HX3 HR3 HB3 c2' c3' e1'
    go_wp2_with fail
    exact ⟨⟨i+1,by omega,by go_num,HXN,HR4,HB4⟩,by simp [intOf];omega⟩
  ·obtain rfl:m=i:=by omega
   have HTA:Hid (L.take m=L):=zhy (List.take_of_length_le (by rw [HLM.out];exact Nat.le_refl _))
   rw [HTA.out,HV.out] at HX
   obtain ⟨x0,x1,x2,x3,-⟩:=HX.out.cells
   obtain ⟨r0,r1,r2,f0,f1,f2⟩:=HR.out.cells
   dsimp only at x0 x1 x2 r0 r1 r2
   have HX2:=HX
   have HR2:=HR
   have HB2:=HB
   clear HX HR HB
   have HS:=zhy (HB2.out)
   have hb:w.heap.size≤X:=by rw [HXX.out];exact Nat.le_refl _
   have HBF:Hid (Below w.heap.size w (((wq.setCell ⟨X+1,0,none⟩ (.int .i64 vf)).setCell ⟨X+1,1,none⟩ (.int .i64 vs)).setCell ⟨X+1,2,none⟩ (.int .i64 vh))):=zhy (by
    have:=(((HB2.out.mono hb).setCell (p:=⟨X+1,0,none⟩) (by show w.heap.size≤X+1;omega) (.int .i64 vf)).setCell (p:=⟨X+1,1,none⟩) (by show w.heap.size≤X+1;omega) (.int .i64 vs)).setCell (p:=⟨X+1,2,none⟩) (by show w.heap.size≤X+1;omega) (.int .i64 vh);exact this)
   go_wp2_with fail
   refine bodyPost_ret (v:=cv (vf,vs,vh)) (by simp [results,Tryz.results58,go_sem,r0,r1,r2]) rfl ⟨rfl,HBF.out⟩
theorem Tryz.infoCe:(Tryz.prog.info? 39).map (fun i=>(i.zero,i.size,i.bytes))=some (some (.agg #[.int .i64 0,.int .i64 0,.int .i64 0]),3,24):=by kernel_rfl
theorem madeCe (n:Nat) (hn:n≤1000) (w:World):∃cs,(Instr.makeSlice 28 (.int .i64 (n:Int)) (.int .i64 (n:Int))).run Tryz.prog w=.ok (.slice (some ⟨w.heap.size,0,none⟩) n n) (w.alloc (.cells cs 39))∧cs.toList=clr ce3 (List.replicate n c012):=by
 have hinfo:=Tryz.infoCe;rw [Option.map_eq_some_iff] at hinfo;obtain ⟨i,hi,hz⟩:=hinfo;simp only [Prod.mk.injEq] at hz;obtain ⟨hz0,hz1,hz2⟩:=hz;have hr:=run_make (P:=Tryz.prog) w 28 39 i _ Tryz.underlying28 hi hz0 .i64 .i64 n n (by omega) (Int.le_refl _) (by rw [hz2];omega) (by omega);rw [hz1,Int.toNat_natCast] at hr;refine ⟨_,hr,?_⟩;have hl:(clr ce3 (List.replicate n c012)).length=n*3:=by rw [clr_len ce3_len,List.length_replicate]
 apply List.ext_getElem?;intro j;by_cases hj:j<n*3
 ·have h1:j / 3<n:=by omega
  have h2:(List.replicate n c012)[j / 3]?=some c012:=by rw [List.getElem?_replicate,if_pos h1]
  have h3:=clr_at ce3_len (Nat.mod_lt j (by omega)) h2;rw [show j / 3*3+j % 3=j by omega] at h3;rw [h3,Array.getElem?_toList,madeCells,Array.getElem?_map];rw [Array.getElem?_range,if_pos hj];have h4:j % 3=0∨j % 3=1∨j % 3=2:=by omega
  rcases h4 with h4 | h4 | h4<;>simp [h4,ce3,c012,Value.cells]
 ·rw [List.getElem?_eq_none (by simp [madeCells];omega),List.getElem?_eq_none (by rw [hl];omega)]
theorem ce3_store {w:World} {base M n c k:Nat} {Z:List Ce} {x z:Ce} (h:w.ownsRow base 39 3 (.slice (some ⟨M,0,none⟩) n c) n (clr ce3 Z)) (hx:Z[k]?=some x) :
  (((w.setCell ⟨M,k*3,none⟩ (.int .i64 z.1)).setCell ⟨M,k*3+1,none⟩ (.int .i64 z.2.1)).setCell ⟨M,k*3+2,none⟩ (.int .i64 z.2.2)).ownsRow base 39 3 (.slice (some ⟨M,0,none⟩) n c) n (clr ce3 (Z.set k z)):=by
 have hk:=(zg8.1 hx).1
 have h1:=(h.stored (k*3+0) (.int .i64 z.1)).1
 rw [clr_set ce3_len hx (by omega) (show ce3 (z.1,x.2)=_ from rfl)] at h1
 have h2:=(h1.stored (k*3+1) (.int .i64 z.2.1)).1
 rw [clr_set ce3_len (List.getElem?_set_self hk) (by omega) (show ce3 (z.1,z.2.1,x.2.2)=_ from rfl),List.set_set] at h2
 have h3:=(h2.stored (k*3+2) (.int .i64 z.2.2)).1
 rw [clr_set ce3_len (List.getElem?_set_self hk) (by omega) (show ce3 z=_ from rfl),List.set_set] at h3
 exact h3
theorem map_set12 (C:Nat→Ce) (n k:Nat) (v:Ce):((List.range n).map C).set k v=(List.range n).map (pu12 C k v):=by
 apply List.ext_getElem?;intro j;by_cases hj:j<n
 ·by_cases hk:j=k
  ·subst hk;rw [List.getElem?_set_self (by simpa using hj),List.getElem?_map,List.getElem?_range hj];simp [pu12]
  ·rw [List.getElem?_set_ne (fun e=>hk e.symm),List.getElem?_map,List.getElem?_map,List.getElem?_range hj];simp [pu12,hk]
 ·rw [List.getElem?_eq_none (by simp;omega),List.getElem?_eq_none (by simp;omega)]
theorem bd12 {d:Md} (hg:qG d=false) (hr:(ro11 d).2=0) (he:er12 d d.s.length=0) {i k:Nat} (hf:ok12 d i=true) (hk:(oo12 d)[i]?=some k) :
  k<d.s.length∧(∀x∈al12 d k,Bd12 (ci12 d i) d.s.length x)∧(al12 d k).length≤300∧(0≤(aw12 d k).1∧(aw12 d k).1≤100000000000∧-1000000≤(aw12 d k).2.1∧(aw12 d k).2.1≤2000000∧0≤(aw12 d k).2.2∧(aw12 d k).2.2≤100000000000000000):=by
 obtain ⟨-,-,ho,hl,hb⟩:=or12 hr
 have hkn:k<d.s.length:=ho.lt k (List.mem_of_getElem? hk)
 obtain ⟨n',h',c',e1,e2,e3,hfl,hth,hln,hin⟩:=rw10s_ok (er12_at he k hkn)
 obtain rfl:k=n':=by omega
 have hcc:co11 d k=c':=by rw [co11,e3];rfl
 have hhh:me10 d k=h':=by rw [me10,e3];rfl
 obtain ⟨-,hbd⟩:=qG_b12 hg
 obtain ⟨b1,b2,b3⟩:=hbd _ (List.mem_of_getElem? e3)
 dsimp only at b1 b2 b3
 have hrow:∀p,p<c'.length→(zr12 (rw10s d k).1 p).2.length≤600:=fun p hp=>by
  have:=in10s_len hin p;unfold zr12;omega
 refine ⟨hkn,fun x hx=>?_,?_,?_⟩
 ·obtain ⟨x1,x2⟩:=al12_mem hb hkn hx
  unfold al12 ca12 at hx
  obtain ⟨p,hp,rfl⟩:=List.mem_map.1 hx
  obtain ⟨hp1,hp2⟩:=List.mem_filter.1 hp
  have hp1:=List.mem_range.1 hp1
  obtain ⟨j,c1,c2,c3⟩:=call12 hb hkn hp1 (by simpa using hp2)
  obtain ⟨m,hm,hj⟩:=ho.be i k hk j c2 c3
  have hfit:fi12 (ci12 d i j) (me10 d j)=true:=by
   rw [ci12_stay ho.nd hj hm,ce12_step hr hj];unfold ok12 at hf;rw [List.all_eq_true] at hf;refine hf j ?_;rw [List.mem_take_iff_getElem];obtain ⟨q1,q2⟩:=zg8.1 hj;exact ⟨m,by omega,q2⟩
  have hfit:=fi12_iff.1 hfit
  have ht:=tm9_bd hfl (p:=p) (by rw [←hcc];exact hp1)
  have hro:=hrow p (by rw [←hcc];exact hp1)
  have har:(ar12 d (co11 d k) p:Int)≤100:=by
   rw [ar12,c1,Int.toNat_natCast,me10,zg7 c2];have:=(hbd _ (List.getElem_mem c2)).1;rw [Option.getD_some];omega
  have htm:tm12 (co11 d k) p=tm9 (lpU9 c' c'.length) p:=by rw [tm12,hcc]
  refine ⟨?_,?_,?_,?_,?_,?_,?_⟩
  ·show 0≤iA9 (co11 d k) p;omega
  ·show iA9 (co11 d k) p<_;omega
  ·show 0≤tm12 (co11 d k) p;omega
  ·show tm12 (co11 d k) p≤_;omega
  ·show -1000000≤lc12 (me10 d k)+(zr12 (rw10s d k).1 p).2.length-ar12 d (co11 d k) p
   unfold lc12
   omega
  ·show lc12 (me10 d k)+(zr12 (rw10s d k).1 p).2.length-ar12 d (co11 d k) p≤1000000
   rw [hhh]
   unfold lc12
   omega
  ·show 0≤(ci12 d i (iA9 (co11 d k) p).toNat).1∧_
   simp only [mk12,c1,Int.toNat_natCast]
   omega
 ·have:=ca12_len d (me10 d k) (co11 d k) (rw10s d k).1 (co11 d k).length
  rw [hcc] at this
  unfold al12
  rw [hcc]
  omega
 ·have f1:=fu12_bd hfl c'.length (Nat.le_refl _)
  have f2:=he12_bd hfl c'.length (Nat.le_refl _)
  have f3:hg10 (rw10s d k).1≤600:=hg10_le fun z hz=>by
   obtain ⟨i,hi⟩:=List.getElem?_of_mem hz;have h1:=(zg8.1 hi).1;have:=hrow i (by omega);rw [zr12,hi] at this;exact this
  unfold aw12 ow12 lc12
  rw [hcc,hhh]
  dsimp only
  omega
def Co12 (w w':World) (d:Md) (r:Ending):Prop:=∃A c,r=.returned (.tuple #[.slice A (co12 d).1.length c,.int .i64 (co12 d).2])∧w'.ownsRow w.heap.size 39 3 (.slice A (co12 d).1.length c) (co12 d).1.length (clr ce3 (co12 d).1)∧Below w.heap.size w w'
theorem Co12.err {w w':World} {d:Md} {e:Int} (hT:co12 d=([],e)) (hb:Below w.heap.size w w'):Co12 w w' d (.returned (.tuple #[.slice none 0 0,.int .i64 e])):=by
 unfold Co12;rw [hT];exact ⟨none,0,rfl,World.ownsRow_nil _ _ _ _,hb⟩
abbrev fC12 (p:Addr) (v:Value):Fct:=⟨fun w=>w.cell? p=some v,fun _ _ h hb=>(hb.cell (cell_lt h)).trans h⟩
abbrev fA812 (p:Addr) (z:Me):Fct:=⟨fun w=>At8 w p z,fun _ _ h hb=>h.keep hb⟩
abbrev fRg {α:Type} (f:α→List Value) (m:Nat) (A:Option Addr) (c:Nat) (L:List α):Fct:=⟨fun w=>Rg f m w A c L,fun _ _ h hb=>h.keep hb⟩
theorem costs12_v (y:Ma) (d:Md) (w:World) (hq:Hq w y d) (hg:qG d=false):Calls Tryz.prog 28 #[dv y d] w fun r w'=>Co12 w w' d r:=by
 obtain ⟨G,gc,P,pc,AA,cc,Zm⟩:=y;have hzl:=hq.zlen;dsimp only at hzl;obtain ⟨hs40,hbd⟩:=qG_b12 hg;have HG:=zhy hg;have HBL:Hid (∀z∈d.s,z.2.length≤1000):=zhy fun z hz=>by have:=hbd z hz;omega
 obtain ⟨sn,hsn⟩:∃sn,d.s.length=sn:=⟨_,rfl⟩;have HSN:=zhy hsn;have HZL:=zhy (hzl.trans hsn);rw [hsn] at hs40;obtain ⟨B,hB⟩:∃B,w.heap.size=B:=⟨_,rfl⟩;have S0:=zhy ((((Sx.start w).add (fQm ⟨G,gc,P,pc,AA,cc,Zm⟩ d) hq).mkD ⟨G,gc,P,pc,AA,cc,Zm⟩ d));rw [hB] at S0;have HBB:=zhy hB;clear hq hg hbd hzl hsn;go_enter Tryz.func28,Tryz.ntmps28;go_upto_region 1 with (fail);change Code.wp _ _ _ _ (w.alloc (dcel ⟨G,gc,P,pc,AA,cc,Zm⟩ d));generalize w.alloc (dcel ⟨G,gc,P,pc,AA,cc,Zm⟩ d)=w1 at S0 ⊢;clear hB;obtain ⟨-,⟨d0,d1,d2,d3,d4⟩,-⟩:=S0.out;dsimp only at d1 d2 d3;rw [HSN.out] at d3;have HOR:=zhy (order11_v ⟨G,gc,P,pc,AA,cc,Zm⟩ d w1 S0.out.2.2.1 (by rw [HSN.out];omega) HBL.out);rw [dv,HSN.out] at HOR;dsimp only at HOR;go_wp2_with fail;refine HOR.out.mono ?_;rintro r w2 ⟨AO,cO,rfl,ho,hb⟩;have S2:=zhy ((S0.out.call hb).add (fRn AO cO (ro11 d).1) (Rn.of_own ho).1);clear HOR hb ho S0 d0 d1 d2 d3 d4;by_cases h0:(ro11 d).2=0
 case neg =>
  have hne:((ro11 d).2 != 0)=true:=by simpa using h0
  have HE:=zhy (Co12.err (w:=w) (w':=w2) (d:=d) (e:=(ro11 d).2) (by rw [co12,if_neg h0]) S2.out.1);generalize (ro11 d).2=E at *;go_wp2_with fail;go_ret2;exact HE.out
 case pos =>
 have HRO:=zhy h0;obtain ⟨ol,hol⟩:∃ol,(ro11 d).1.length=ol:=⟨_,rfl⟩;obtain ⟨-,hor,hok11,hlen,-⟩:=or12 h0;have holn:ol=sn:=by rw [←hol,hor,ns11,List.length_map,hlen,HSN.out]
 have HOO:Hid (∀(i k:Nat),(oo12 d)[i]?=some k→(ro11 d).1[i]?=some (k:Int)):=zhy fun i k hk=>by rw [hor,ns11,List.getElem?_map,hk];rfl
 have HOL:Hid ((oo12 d).length=sn):=zhy (by rw [hlen,HSN.out]);rw [h0,hol,holn];clear h0 hol hor hok11 hlen holn;obtain ⟨-,-,⟨d0,d1,d2,d3,d4⟩,-⟩:=S2.out;dsimp only at d1 d2 d3;rw [HSN.out] at d3;have HOW:=zhy (owns12_v ⟨G,gc,P,pc,AA,cc,Zm⟩ d w2 S2.out.2.2.2.1 HG.out);rw [dv,HSN.out] at HOW;dsimp only at HOW;go_wp2_with fail;refine HOW.out.mono ?_;rintro r w3 h;clear HOW d0 d1 d2 d3 d4;rcases h with ⟨h1,rfl,hb⟩ | ⟨h1,AZ,cZ,ZZ,rfl,hrg,hzl,hze,hb⟩
 ·have hne:(er12 d d.s.length != 0)=true:=by simpa using h1
  have HE:=zhy (Co12.err (w:=w) (w':=w3) (d:=d) (e:=er12 d d.s.length) (by rw [co12,if_pos HRO.out,if_neg h1]) (S2.out.call hb).1);clear h1 hb S2;generalize er12 d d.s.length=E at *;go_wp2_with fail;go_ret2;exact HE.out
 ·have S3:=zhy ((S2.out.call hb).add (fRg az4 4 AZ cZ ZZ) hrg);have HER:=zhy h1;rw [HSN.out] at hzl ⊢;have HZZ:=zhy hzl;obtain ⟨M,hM⟩:∃M,w3.heap.size=M:=⟨_,rfl⟩;obtain ⟨cs,hmk,hcs⟩:=madeCe sn (by omega) w3;rw [hM] at hmk
  have HO4:Hid ((w3.alloc (.cells cs 39)).ownsRow M 39 3 (.slice (some ⟨M,0,none⟩) sn sn) sn (clr ce3 ((List.range sn).map (ci12 d 0)))):=zhy (by
   have:=World.ownsRow_lit (base:=M) (e:=39) (size:=3) w3 cs sn (by omega) (by unfold maxLen;omega) (by
    have:=congrArg List.length hcs;rw [clr_len ce3_len,List.length_replicate,Array.length_toList] at this;exact this)
   rw [hcs,hM] at this
   have e:(List.range sn).map (ci12 d 0)=List.replicate sn c012:=by
    apply List.ext_getElem?;intro j;rw [List.getElem?_map,List.getElem?_replicate];split
    ·rename_i h;rw [List.getElem?_range h];rfl
    ·rename_i h;rw [List.getElem?_eq_none (by simp;omega)];rfl
   rw [e];exact this)
  have HB4:Hid (Below M w3 (w3.alloc (.cells cs 39))):=zhy (by rw [←hM];exact new1);have HZE:Hid (∀j z,ZZ[j]?=some z→z.c=aw12 d j∧z.L=al12 d j∧z.ok w3):=zhy hze;have HMM:=zhy hM;clear h1 hb hrg hzl hze hcs S2;go_upto_region 9 with (fail);clear hmk hM;generalize w3.alloc (.cells cs 39)=w4 at HO4 HB4 ⊢;go_loopw [31] (fun iv wq=>∃i:Nat,i≤sn∧iv=.int .i64 i∧Hid (ok12 d i=true)∧Hid (wq.ownsRow M 39 3 (.slice (some ⟨M,0,none⟩) sn sn) sn (clr ce3 ((List.range sn).map (ci12 d i))))∧Hid (Below M w3 wq)) (fun iv _=>sn-(intOf iv).toNat)
  case atStart=>exact ⟨0,by omega,rfl,zhy rfl,HO4,HB4⟩
  case round =>
   obtain ⟨i,hi,rfl,HF,HO,HB⟩:=hrel;rename World=>wq;clear HO4 HB4;have SQ:=zhy (S3.out.call (w':=wq) (by rw [HMM.out];exact HB.out));have hgM:M<wq.heap.size:=(HO.out.lt M rfl).2;by_cases h1:i<sn
   ·obtain ⟨k,hk⟩:∃k,(oo12 d)[i]?=some k:=⟨_,zg7 (by rw [HOL.out];exact h1)⟩;obtain ⟨ad,hAO,o1⟩:=SQ.out.2.2.1.at_ (HOO.out i k hk);obtain ⟨hkn,hbd,hal,haw⟩:=bd12 HG.out HRO.out HER.out HF.out hk;rw [HSN.out] at hkn hbd;obtain ⟨z,hz⟩:∃z,ZZ[k]?=some z:=⟨_,zg7 (by rw [HZZ.out];exact hkn)⟩;obtain ⟨hzc,hzl,hzo⟩:=HZE.out k z hz;have HZO:=zhy (hzo.keep (w':=wq) (by rw [HMM.out];exact HB.out));obtain ⟨g,hAZ,hg,hcz⟩:=SQ.out.2.1.at_ az4_len hz;subst hAO hAZ;have z0:=hcz 0 (by omega);have z1:=hcz 1 (by omega);have z2:=hcz 2 (by omega);have z3:=hcz 3 (by omega);simp only [az4,List.getElem?_cons_zero,List.getElem?_cons_succ,Nat.add_zero] at z0 z1 z2 z3;have hx:((List.range sn).map (ci12 d i))[k]?=some (ci12 d i k):=by rw [List.getElem?_map,List.getElem?_range hkn];rfl
    have HTOT:=zhy (total12_v z (some ⟨M,0,none⟩) sn sn (ci12 d i) wq HZO.out (Rg.of_own ce3_len (by omega) HO.out).1 (by omega) (by rw [hzl];exact hbd) (by rw [hzl];exact hal) (by rw [hzc];exact haw));have HOF:Hid (to12 (ci12 d i) z.L z.c=ce12 d k):=zhy (by rw [hzl,hzc];exact ce12_step HRO.out hk);have HCI:Hid (ci12 d (i+1)=pu12 (ci12 d i) k (ce12 d k)):=zhy (by rw [ci12_succ hk,ce12_step HRO.out hk]);have HKK:=zhy hk;have HOK2:Hid (ok12 d (i+1)=fi12 (ce12 d k) (me10 d k)):=zhy (by rw [ok12_succ hk,HF.out,Bool.true_and]);rw [HOF.out] at HTOT;obtain ⟨⟨vf,vs,vh⟩,hv⟩:∃v,ce12 d k=v:=⟨_,rfl⟩;rw [hv] at HTOT HCI HOK2;clear hk hbd hal haw hz hzc hzl hzo hcz hv;obtain ⟨⟨zf,zs,zh⟩,zA,zk,zL⟩:=z;dsimp only at z0 z1 z2 z3 HTOT;go_wp2_with fail;refine HTOT.out.mono ?_;rintro r w5 ⟨rfl,hb⟩;have HO5:=zhy (own_below HO.out hb (Nat.le_refl _));have HB5:=zhy (HB.out.trans (hb.mono (by omega)));clear HTOT hb HO HB SQ z0 z1 z2 z3 o1;have f0:=HO5.out.frozenAt (k*3);have f1:=HO5.out.frozenAt (k*3+1);have f2:=HO5.out.frozenAt (k*3+2);have c0:=(HO5.out.cellAt (k*3) (by omega)).trans (show (clr ce3 ((List.range sn).map (ci12 d i)))[k*3]?=_ from clr_at ce3_len (j:=0) (by omega) hx);have c1:=(HO5.out.cellAt (k*3+1) (by omega)).trans (clr_at ce3_len (j:=1) (by omega) hx);have c2:=(HO5.out.cellAt (k*3+2) (by omega)).trans (clr_at ce3_len (j:=2) (by omega) hx);simp only [ce3,List.getElem?_cons_zero,List.getElem?_cons_succ] at c0 c1 c2;have HO6:=zhy (ce3_store (z:=(vf,vs,vh)) HO5.out hx);have HB6:=zhy (((HB5.out.setCell (p:=⟨M,k*3,none⟩) (Nat.le_refl _) (.int .i64 vf)).setCell (p:=⟨M,k*3+1,none⟩) (Nat.le_refl _) (.int .i64 vs)).setCell (p:=⟨M,k*3+2,none⟩) (Nat.le_refl _) (.int .i64 vh));rw [map_set12,←HCI.out] at HO6;dsimp only at HO6;clear HO5 HB5 hx;go_upto_region 12 with (fail);generalize (((w5.setCell ⟨M,k*3,none⟩ (.int .i64 vf)).setCell ⟨M,k*3+1,none⟩ (.int .i64 vs)).setCell ⟨M,k*3+2,none⟩ (.int .i64 vh))=w6 at HO6 HB6 ⊢;clear c0 c1 c2 f0 f1 f2;have SQ:=zhy (S3.out.call (w':=w6) (by rw [HMM.out];exact HB6.out));have hx:((List.range sn).map (ci12 d (i+1)))[k]?=some (vf,vs,vh):=by rw [List.getElem?_map,List.getElem?_range hkn,HCI.out];simp [pu12]
    have c0:=(HO6.out.cellAt (k*3) (by omega)).trans (show (clr ce3 ((List.range sn).map (ci12 d (i+1))))[k*3]?=_ from clr_at ce3_len (j:=0) (by omega) hx);have c1:=(HO6.out.cellAt (k*3+1) (by omega)).trans (clr_at ce3_len (j:=1) (by omega) hx);have c2:=(HO6.out.cellAt (k*3+2) (by omega)).trans (clr_at ce3_len (j:=2) (by omega) hx);simp only [ce3,List.getElem?_cons_zero,List.getElem?_cons_succ] at c0 c1 c2;obtain ⟨-,-,-,⟨d0,d1,d2,d3,d4⟩,-⟩:=SQ.out;dsimp only at d3;rw [HSN.out] at d3;obtain ⟨ad8,e8,hat,-⟩:=SQ.out.2.2.2.2.1.2.2.1.at_ (i:=k) (by rw [HZL.out];exact hkn);have hme:=SQ.out.2.2.2.2.1.zat (i:=k) (by rw [HZL.out];exact hkn) (by rw [HSN.out];exact hkn);dsimp only at e8 hat hme;obtain ⟨zm,hzm⟩:∃zm,Zm[k]'(by rw [HZL.out];exact hkn)=zm:=⟨_,rfl⟩;rw [hzm] at hat hme;have HME:Hid (me10 d k=zm.m):=zhy (by rw [me10,zg7 (by rw [HSN.out];exact hkn),hme];rfl);rw [HME.out] at HOK2;obtain ⟨xm,hm,Lm⟩:=zm;dsimp only at HOK2;subst e8;have SF:Hid (Sx w6 w6.drew [fC12 ⟨M,k*3,none⟩ (.int .i64 vf),fC12 ⟨M,k*3+1,none⟩ (.int .i64 vs),fC12 ⟨M,k*3+2,none⟩ (.int .i64 vh),fC12 ⟨B,2,none⟩ (.slice (some ad8) sn cc),fA812 (ad8.add (k*8)) ⟨xm,hm,Lm⟩]):=Hsx.drew (zhy ((((((Sx.start w6).add (fA812 (ad8.add (k*8)) ⟨xm,hm,Lm⟩) hat).add (fC12 ⟨B,2,none⟩ (.slice (some ad8) sn cc)) d3).add (fC12 ⟨M,k*3+2,none⟩ (.int .i64 vh)) c2).add (fC12 ⟨M,k*3+1,none⟩ (.int .i64 vs)) c1).add (fC12 ⟨M,k*3,none⟩ (.int .i64 vf)) c0));obtain ⟨v,hv⟩:∃v,fi12 (vf,vs,vh) hm=v:=⟨_,rfl⟩;have HFI:=zhy hv;rw [hv] at HOK2;clear hv hx c0 c1 c2 d0 d1 d2 d3 d4 hat hme hzm SQ;refine wp_region_held_drew (S:=fun w'=>Hid (Sx w6 w' [fC12 ⟨M,k*3,none⟩ (.int .i64 vf),fC12 ⟨M,k*3+1,none⟩ (.int .i64 vs),fC12 ⟨M,k*3+2,none⟩ (.int .i64 vh),fC12 ⟨B,2,none⟩ (.slice (some ad8) sn cc),fA812 (ad8.add (k*8)) ⟨xm,hm,Lm⟩])) (by kernel_rfl) (SF) (fun hHeld=>?_);refine zq 0 (h:=?_);refine zq 1 (h:=?_);refine zq 2 (h:=?_);refine zq 3 (hy:=fun w hSw=>by (try dsimp only at hSw);obtain ⟨-,s0,s1,s2,s3,⟨a0,a1,a2,a3,a4,a5,a6,a7⟩,-⟩:=hSw.out;dsimp only at s0 s1 s2 s3;go_simp;try with_reducible rfl) (h:=?_);refine zq 4 (h:=?_);refine zq 5 (hy:=fun w hSw=>by (try dsimp only at hSw);obtain ⟨-,s0,s1,s2,s3,⟨a0,a1,a2,a3,a4,a5,a6,a7⟩,-⟩:=hSw.out;dsimp only at s0 s1 s2 s3;go_simp;try with_reducible rfl) (h:=?_);refine zq 6 (h:=?_);refine zq 7 (h:=?_);refine zq 8 (hy:=fun w hSw=>by (try dsimp only at hSw);obtain ⟨-,s0,s1,s2,s3,⟨a0,a1,a2,a3,a4,a5,a6,a7⟩,-⟩:=hSw.out;dsimp only at s0 s1 s2 s3;go_simp;try with_reducible rfl) (h:=?_);refine wpAnyH_ready (rs:=[9]) (by kernel_rfl) (by simp) ?_;refine AllReadyH.cons rfl (fun K hK=>?_) AllReadyH.nil;go_simp;refine (fits12_v (vf,vs,vh) xm hm _).mono ?_;rintro r1 wb ⟨rfl,hb⟩;rw [HFI.out];go_wp2_with fail;refine hK.out _ _ (Hsx.call hb hHeld) (fun hHeld=>?_);clear hK K;(try simp only [Act.put,zg1,zg2,zg3,zg4,zg5,zg6]);refine zq 10 (h:=?_);refine wpAnyH_done (by kernel_rfl) ?_ _;have HO7:=zhy (own_below HO6.out hHeld.out.1 (Nat.le_refl _));have HB7:=zhy (HB6.out.trans (hHeld.out.1.mono (have:=HO6.out.lt M rfl;Nat.le_of_lt this.2)));clear SF HO6 HB6 hHeld;cases v with
    | false =>
     have HE:Hid (co12 d=([],120)):=zhy (by rw [co12,if_pos HRO.out,if_pos HER.out,if_neg (by rw [HSN.out,ok12_no HOK2.out (show i+1≤sn by omega)];decide)]);have HEE:=zhy (Co12.err HE.out (S3.out.call (by rw [HMM.out];exact HB7.out)).1);go_wp2_with fail;go_ret2;exact HEE.out
    | true =>
     go_wp2_with fail;exact ⟨⟨i+1,by omega,by go_num,HOK2,HO7,HB7⟩,by simp [intOf];omega⟩
   ·obtain rfl:sn=i:=by omega
    have HBW:=zhy SQ.out.1;have HALL:Hid (co12 d=(cs12 d,0)):=zhy (by rw [co12,if_pos HRO.out,if_pos HER.out,if_pos (by rw [HSN.out];exact HF.out)]);have HCS:Hid ((List.range sn).map (ci12 d sn)=cs12 d):=zhy (by rw [ci12_all (by rw [HOL.out];exact Nat.le_refl _),cs12,HSN.out]);have HCL:Hid ((cs12 d).length=sn):=zhy (by rw [cs12_len,HSN.out]);have hwM:w.heap.size≤M:=by rw [←HMM.out];exact S3.out.1.size
    go_wp2_with fail;go_ret2;refine ⟨some ⟨M,0,none⟩,sn,by rw [HALL.out,HCL.out];rfl,?_,HBW.out⟩;rw [HALL.out,HCL.out,←HCS.out];exact own_base HO.out hwM
theorem pmay_any (A:Option Addr) (c m:Nat) (L:List Vlu) (w:World) (hr:Rv w A c L) (hm:L.length=m):Calls Tryz.prog 106 #[.slice A m c] w fun e w'=>e=.returned (.bool (poM L))∧Below w.heap.size w w':=by
 subst hm;have hlen:=hr.len;have HR:=zhy hr;clear hr;by_cases h0:L.length≤32
 ·have HC:Hid (poM L=L.all vM):=by rw [Hid,poM,decide_eq_true h0,Bool.true_and]
  go_enter Tryz.func106,Tryz.ntmps106;go_wp2_with fail;go_loopw [10] (fun i wr=>∃j:Nat,j≤L.length∧i=.int .i64 j∧Hid ((L.take j).all vM=true)∧Hid (Below w.heap.size w wr)) (fun i _=>L.length-(intOf i).toNat)
  case atStart=>exact ⟨0,by omega,rfl,rfl,zhy (Below.refl _ _)⟩
  case round =>
   obtain ⟨j,hj,rfl,HA,HB⟩:=hrel;by_cases h1:j<L.length
   ·obtain ⟨ad,rfl,hc0,hc1,hc2⟩:=(HR.out.keep HB.out).at_ h1;go_wp2_with fail;refine (vmay_v L[j].1 L[j].2.1 L[j].2.2 _ _ rfl).mono ?_;rintro e w1 ⟨rfl,hb1⟩;have HB1:=zhy (below_on (below_on HB.out new1) hb1);clear hb1 hc0 hc1 hc2 HB;cases hv:mayB L[j].1 L[j].2.1 L[j].2.2 with
    | true =>
     have HN:Hid ((L.take (j+1)).all vM=true):=by
      rw [Hid,List.take_add_one,zg7 h1];simp only [Option.toList_some,List.all_append,HA.out,List.all_cons,List.all_nil,Bool.and_true,Bool.true_and];exact hv
     clear HA;go_wp2_with fail;go_roundw
     case rel=>exact ⟨j+1,by omega,by go_num,HN,HB1⟩
     case measure=>simp [intOf];omega
    | false =>
     have HN:Hid (poM L=false):=by
      have:L.all vM=false:=List.all_eq_false.2 ⟨L[j],List.getElem_mem h1,by simp [vM,hv]⟩;rw [Hid,HC.out,this]
     go_wp2_with fail;go_ret;exact ⟨by rw [HN.out];rfl,HB1.out⟩
   ·obtain rfl:j=L.length:=by omega
    have HN:Hid (poM L=true):=by
     have h2:=HA.out;rw [List.take_length] at h2;rw [Hid,HC.out,h2]
    clear HA;go_wp2_with fail;go_ret;exact ⟨by rw [HN.out];rfl,HB.out⟩
 ·have HN:Hid (poM L=false):=by rw [Hid,poM,decide_eq_false h0];rfl
  go_enter Tryz.func106,Tryz.ntmps106;go_wp2_with fail;go_ret;exact ⟨by rw [HN.out];rfl,Below.refl _ _⟩
theorem put_1 {n:Int} (h0:0≤n) (h:n<256):putL 1 n=[n]∧putE 1 n=0:=by
 have:=put_yes (k:=1) (n:=n) (by omega) (by omega) h0 (by simpa [p256] using h);rw [show ((1:Nat):Int)=1 from rfl] at this;refine ⟨?_,this.1⟩;rw [this.2];simp [digs];omega
theorem kpbytes:KPBytes fG:=by
 intro A c m L w hw hr hm _;subst hm;obtain ⟨i0,hi,hz0,hz1,hz2⟩:=info_parts Tryz.info5;cases hc:poM L with
 | false =>
  have HC:=zhy hc;rw [poL,if_neg (by rw [hc];decide),poE,if_neg (by rw [hc];decide)];clear hc;go_enter Tryz.func64,Tryz.ntmps64;go_wp2_with fail;refine (pmay_any A c _ L _ hr rfl).mono ?_;rintro e w1 ⟨rfl,hb1⟩;rw [HC.out];go_wp2_with fail;go_ret2;exact ⟨none,0,rfl,World.ownsRow_nil _ _ _ _,hb1⟩
 | true =>
  have HC:=zhy hc;rw [poL,if_pos hc,poE,if_pos hc];have hl2:=poM_le hc;have HALL:=zhy (poM_at hc);have HOK:=zhy hr.1;have S0:=zhy (((Sx.start w).add fG hw).add (fW A c L) hr);have S00:Hid (∀w',Below w.heap.size w w'→Sx w w' [fW A c L,fG]):=zhy fun w' hb=>S0.out.call hb;obtain ⟨hp1,hp2⟩:=put_1 (n:=L.length) (by omega) (by omega);have P:=fun w=>zhy (put_any 1 L.length w);rw [hp1,hp2] at P;clear hc hr hw hp1 hp2;go_enter Tryz.func64,Tryz.ntmps64;go_wp2_with fail;refine (pmay_any A c _ L _ S0.out.2.1 rfl).mono ?_;rintro e w1 ⟨rfl,hb1⟩;rw [HC.out];have S1:=zhy (S0.out.call hb1);clear hb1 S0;go_wp2_with fail;refine (P _).out.mono ?_;rintro e w2 ⟨A2,c2,rfl,ho2,hb2⟩;have S2:=zhy (S1.out.call hb2);have HO2:=zhy (own_base ho2 S1.out.1.size);clear ho2 hb2 S1 P;go_wp2_with fail
  go_loopw [4,21] (fun o i wr=>∃(j:Nat) (A':Option Addr) (c':Nat) (X:List Int) (N:Nat),j≤L.length∧i=.int .i64 j∧o=.slice A' N c'∧N≤1+9*j∧Hid (X=(L.length:Int)::(L.take j).flatMap vB∧X.length=N∧wr.ownsRow w.heap.size 5 1 (.slice A' N c') N (cel X))∧Hid (Sx w wr [fW A c L,fG]))
   (fun _ i _=>L.length-(intOf i).toNat)
  case atStart=>exact ⟨0,_,_,[(L.length:Int)],1,by omega,rfl,rfl,by omega,zhy ⟨by simp,rfl,HO2.out⟩,S2⟩
  case round =>
   obtain ⟨j,A',c',X,N,hj,rfl,rfl,hN,HX,S3⟩:=hrel;clear HO2 S2;by_cases h1:j<L.length
   ·obtain ⟨ad,rfl,x0,x1,x2⟩:=S3.out.2.1.at_ h1;have HV:=zhy (HALL.out _ (List.getElem_mem h1));have HQ:=zhy (HOK.out _ (List.getElem_mem h1));have HL:Hid (L.take (j+1)=L.take j++[L[j]]):=by rw [Hid,List.take_add_one,zg7 h1];rfl
    generalize L[j]=x at *;have hbl:=vB_len x;have S4:=zhy (S3.out.mk1 (.cells #[.int .u8 x.1,.int .i64 x.2.1,.int .i64 x.2.2] 139));have HO4:=zhy (own_below HX.out.2.2 (new1 (a:=.cells #[.int .u8 x.1,.int .i64 x.2.1,.int .i64 x.2.2] 139)) (Nat.le_refl _));have HX1:=zhy HX.out.1;have HX2:=zhy HX.out.2.1;clear HX S3;go_wp2_with fail;refine (vbytes_v x.1 x.2.1 x.2.2 0 (vB x) _ _ S4.out.2.2.1 ⟨bytE_of HV.out,bytL_of HV.out,rfl⟩).mono ?_;rintro e w3 ⟨A3,c3,rfl,ho3,hb3⟩;have HR1:=zhy (own_rd ho3 (vB_byt x));have HO5:=zhy (own_below HO4.out hb3 (Nat.le_refl _));have S5:=zhy (S4.out.call hb3);clear ho3 hb3 x0 x1 x2 S4 HO4;go_wp2_with (at_builtin;refine wpList_append_rd _ rfl _ _ 40 rfl w.heap.size 5 i0 Tryz.underlying40 hi hz0 hz1 hz2 _ N X rfl HO5.out _ _ _ (vB x) rfl HR1.out rfl (by omega) S5.out.1.size ?_);intro A2 c2 w4 ho4 hg4 hb4 _;have HO6:=zhy ho4;have S6:=zhy (show Sx w w4 [fW (some ad) c L,fG] from S00.out w4 (S5.out.1.trans hb4));clear ho4 hg4 hb4 HO5 HR1 S5;go_wp2_with fail;go_roundw
    case rel=>exact ⟨j+1,A2,c2,_,N+(vB x).length,by omega,by go_num,rfl,by omega,zhy ⟨by rw [HX1.out,HL.out,List.flatMap_append,List.flatMap_cons,List.flatMap_nil,List.append_nil,List.cons_append],by rw [List.length_append,HX2.out],HO6.out⟩,S6⟩
    case measure=>simp [intOf];omega
   ·obtain rfl:j=L.length:=by omega
    have hx:=HX.out;rw [List.take_length,←poB] at hx;obtain ⟨rfl,rfl,ho⟩:=hx;have HO:=zhy ho;clear ho HX;go_wp2_with fail;go_ret2;exact ⟨A',c',rfl,HO.out,S3.out.1⟩
theorem cev_put {xs:List Value} {K:List Vlu} {j:Nat} (hj:K.length=j) (hx:xs.take (j*3)=cev K) (hl:j*3+3≤xs.length) (y:Vlu) :
  (((xs.set (j*3) (.int .u8 y.1)).set (j*3+1) (.int .i64 y.2.1)).set (j*3+2) (.int .i64 y.2.2)).take ((j+1)*3)=cev (K++[y]):=by
 have h3:(cev K).length=j*3:=by rw [length_cev,hj]
 have hd:xs=cev K++xs.drop (j*3):=by rw [←hx,List.take_append_drop]
 have hdl:3≤(xs.drop (j*3)).length:=by rw [List.length_drop];omega
 match hr:xs.drop (j*3),hdl with
 | u::v::t::r,_ =>
  rw [hr] at hd
  rw [hd,List.set_append_right _ _ (by omega),h3,Nat.sub_self,List.set_cons_zero,List.set_append_right _ _ (by omega),h3,show j*3+1-j*3=0+1 by omega,List.set_cons_succ,List.set_cons_zero,
   List.set_append_right _ _ (by omega),h3,show j*3+2-j*3=0+1+1 by omega,List.set_cons_succ,List.set_cons_succ,List.set_cons_zero,List.take_append,h3,List.take_of_length_le (by omega),
   show (j+1)*3-j*3=3 by omega,cev_append,cev_cons]
  rfl
theorem preadw_any (A:Option Addr) (c n:Nat) (l:List Int) (p:Int) (w:World) (hw:GW w) (hr:Rd w A c l) (hn:l.length=n) :
  Calls Tryz.prog 135 #[.slice A n c,.int .i64 p] w fun e w'=>∃A' c',e=.returned (.tuple #[.slice A' (rdP l p).1.length c',.int .i64 (rdP l p).2.1,.int .i64 (rdP l p).2.2]) ∧
   Rv w' A' c' (rdP l p).1∧w'.ownsRow w.heap.size 139 3 (.slice A' (rdP l p).1.length c') (rdP l p).1.length (cev (rdP l p).1)∧Below w.heap.size w w':=by
 subst hn
 have hlen:=hr.len
 have S00:Hid (∀w',Below w.heap.size w w'→Rd w' A c l∧GW w'):=zhy fun w' hb=>⟨hr.keep hb,fG.keep w w' hw hb⟩
 have HBY:=zhy hr.byt
 have HG:=zhy (get_any A c l p 1 w hr)
 have HGb:Hid (getE l p 1=0→0≤getV l p 1):=fun h=>by rw [getV,if_pos h];exact num_nonneg (byt_cut hr.byt _ _)
 have HE:Hid (getE l p 1≠0→rdP l p=([],0,getE l p 1)):=fun h=>by rw [rdP,if_neg h]
 have HL:Hid (getE l p 1=0→32<getV l p 1→rdP l p=([],0,60)):=fun h h2=>by rw [rdP,if_pos h,if_pos h2]
 have HS:Hid (getE l p 1=0→¬32<getV l p 1→rdP l p=rpS l (getV l p 1).toNat (getN l p 1)):=fun h h2=>by rw [rdP,if_pos h,if_neg h2]
 generalize rdP l p=R at *
 generalize getE l p 1=e0 at *
 generalize getV l p 1=many at *
 generalize getN l p 1=q0 at *
 clear hr hw
 go_enter Tryz.func135,Tryz.ntmps135
 go_wp2_with fail
 refine HG.out.mono ?_
 rintro e w1 ⟨rfl,hb1⟩
 have HB1:=zhy hb1
 clear HG hb1
 by_cases he:e0=0
 ·subst he
  by_cases hm:32<many
  ·have HN:=zhy (HL.out rfl hm)
   clear HE HL HS HGb
   go_wp2_with fail
   go_ret3
   obtain rfl:=HN.out
   exact ⟨none,0,rfl,Rv.none_ _,World.ownsRow_nil _ _ _ _,HB1.out⟩
  ·have hm0:=HGb.out rfl
   obtain ⟨M,rfl⟩:∃M:Nat,many=M:=⟨many.toNat,by omega⟩
   have HI:Hid (R=apV [] (rpS l (M-0) q0)):=by rw [Hid,rpS_form];exact HS.out rfl (by omega)
   have hsz1:=HB1.out.size
   clear HE HL HS HGb
   have hinfo:=Tryz.infoV
   rw [Option.map_eq_some_iff] at hinfo
   obtain ⟨i0,hi,hz⟩:=hinfo
   simp only [Prod.mk.injEq] at hz
   obtain ⟨hz0,hz1,hz2⟩:=hz
   go_wp2_with (at_make;refine wpList_make_full _ rfl _ _ 22 rfl w.heap.size 139 i0 _ 3 Tryz.underlying22 hi hz0 hz1 .i64 .i64 M M M rfl rfl rfl rfl (by rw [hz2];omega) (by unfold maxLen;omega) hsz1 ?_)
   intro w2 ho2 hg2
   obtain ⟨xs0,hx0⟩:∃xs0,(madeCells #[.int .u8 0,.int .i64 0,.int .i64 0] (M*3)).toList=xs0:=⟨_,rfl⟩
   rw [hx0] at ho2
   have HO2:=zhy ho2
   have HB2:=zhy (below_on HB1.out ⟨hg2.os,hg2.tape,hg2.output,hg2.size,fun i hi=>hg2.block i hi (by simp)⟩)
   clear ho2 hg2 hx0 hi hz0 hz1 hz2 i0
   generalize hg:w1.heap.size=g at *
   have hwg:w.heap.size≤g:=by omega
   clear hg hsz1
   go_wp2_with fail
   go_loopw [4,5,25] (fun r o i wr=>∃(j:Nat) (q:Int) (K:List Vlu) (xs:List Value),j≤M∧i=.int .i64 j∧o=.int .i64 q∧r=.slice (some ⟨g,0,none⟩) M M∧Hid (R=apV K (rpS l (M-j) q)∧K.length=j∧(∀x∈K,VlOk x))∧Hid (wr.ownsRow w.heap.size 139 3 (.slice (some ⟨g,0,none⟩) M M) M xs∧xs.take (j*3)=cev K)∧Hid (Below w.heap.size w wr)) (fun _ _ i _=>M-(intOf i).toNat)
   case atStart=>exact ⟨0,q0,[],xs0,by omega,rfl,rfl,rfl,zhy ⟨HI.out,rfl,fun x hx=>(by cases hx)⟩,zhy ⟨HO2.out,by simp [cev]⟩,HB2⟩
   case round =>
    obtain ⟨j,q,K,xs,hj,rfl,rfl,rfl,HX,HO,HB⟩:=hrel
    clear HI HO2 HB2
    by_cases h1:j<M
    ·obtain ⟨x,a,b,n2,e2,hrd⟩:∃x a b n2 e2,rdT l q=(x,a,b,n2,e2):=⟨_,_,_,_,_,rfl⟩
     have HRD:=zhy hrd
     have hok:=rdT_vok HBY.out hrd
     have HOK:=zhy hok
     have HK:=fun w hr hw=>zhy (vread_v A c l q x a b n2 e2 w hr hw hrd)
     clear hrd hok
     go_wp2_with fail
     refine (HK _ (S00.out _ HB.out).1 (S00.out _ HB.out).2).out.mono ?_
     rintro e w3 ⟨rfl,hb3⟩
     have HB3:=zhy (below_on HB.out hb3)
     have HO3:=zhy (own_below HO.out.1 hb3 (Nat.le_refl _))
     clear HK hb3 HB
     have hxl:xs.length=M*3:=by simpa using HO3.out.1
     have c0:=HO3.out.cellAt (j*3) (by omega)
     have c1:=HO3.out.cellAt (j*3+1) (by omega)
     have c2:=HO3.out.cellAt (j*3+2) (by omega)
     have f0:=HO3.out.frozenAt (j*3)
     have f1:=HO3.out.frozenAt (j*3+1)
     have f2:=HO3.out.frozenAt (j*3+2)
     rw [zg7 (by omega)] at c0 c1 c2
     have HO8:=zhy (((((HO3.out.stored (j*3) (.int .u8 x)).1).stored (j*3+1) (.int .i64 a)).1).stored (j*3+2) (.int .i64 b)).1
     have HP:=zhy (cev_put HX.out.2.1 HO.out.2 (by omega) (x,a,b))
     have HB8:=zhy (((HB3.out.setCell (p:=⟨g,j*3,none⟩) hwg (.int .u8 x)).setCell (p:=⟨g,j*3+1,none⟩) hwg (.int .i64 a)).setCell (p:=⟨g,j*3+2,none⟩) hwg (.int .i64 b))
     by_cases he2:e2=0
     ·subst he2
      have HX8:Hid (R=apV (K++[(x,a,b)]) (rpS l (M-(j+1)) n2)∧(K++[(x,a,b)]).length=j+1∧∀y∈K++[(x,a,b)],VlOk y):=by
       refine ⟨by rw [HX.out.1,show M-j=(M-(j+1))+1 by omega,rpS_yes HRD.out,apV_apV],by rw [List.length_append,HX.out.2.1];rfl,fun y hy=>?_⟩;rcases List.mem_append.1 hy with hy | hy
       ·exact HX.out.2.2 y hy
       ·rw [List.mem_singleton.1 hy];exact HOK.out
      clear HX HO HO3 HB3 HRD
      go_wp2_with fail
      go_roundw
      case rel=>exact ⟨j+1,n2,K++[(x,a,b)],_,by omega,by go_num,rfl,rfl,HX8,zhy ⟨HO8.out,HP.out⟩,HB8⟩
      case measure=>simp [intOf];omega
     ·have HN:Hid (R=([],0,e2)):=by
       rw [Hid,HX.out.1,show M-j=(M-(j+1))+1 by omega,rpS_no HRD.out he2,apV_no _ he2]
      clear HX HRD HO HO3 HB3
      go_wp2_with fail
      go_ret3
      obtain rfl:=HN.out
      exact ⟨none,0,rfl,Rv.none_ _,World.ownsRow_nil _ _ _ _,HB8.out⟩
    ·obtain rfl:j=M:=by omega
     have hxl:xs.length=j*3:=by simpa using HO.out.1.1
     have hxs:xs=cev K:=by rw [←HO.out.2,List.take_of_length_le (by omega)]
     have HRv:=zhy (Rv.of_own (L:=K) (by have:=HO.out.1;rwa [hxs] at this) HX.out.2.2).1
     have HOw:Hid (wr.ownsRow w.heap.size 139 3 (.slice (some ⟨g,0,none⟩) K.length j) K.length (cev K)):=by
      have:=HO.out.1;rw [hxs] at this;rw [HX.out.2.1];exact this
     have HN:Hid (R=(K,q,0)):=by
      rw [Hid,HX.out.1,Nat.sub_self,rpS,apV,if_pos rfl,List.append_nil]
     have HL:=zhy HX.out.2.1
     clear HX HO hxl hxs
     go_wp2_with fail
     go_ret3
     obtain rfl:=HN.out
     exact ⟨some ⟨g,0,none⟩,j,by simp [HL.out],HRv.out,HOw.out,HB.out⟩
 ·have HN:=zhy (HE.out he)
  clear HE HL HS HGb
  go_wp2_with fail
  go_ret3
  obtain rfl:=HN.out
  exact ⟨none,0,rfl,Rv.none_ _,World.ownsRow_nil _ _ _ _,HB1.out⟩
end Go.Proofs.YtnjgkkoiamiaaaaGreatDoor
