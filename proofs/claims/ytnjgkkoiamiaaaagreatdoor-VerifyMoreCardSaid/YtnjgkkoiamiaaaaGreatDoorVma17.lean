import Derived.Test.YtnjgkkoiamiaaaaGreatDoorVma1
import Derived.Test.YtnjgkkoiamiaaaaGreatDoorVma16
import Derived.Test.YtnjgkkoiamiaaaaGreatDoorVma12
import Derived.Laws.CopyOwn
import Derived.Deep.RegionLaw
import Derived.Test.YtnjgkkoiamiaaaaGreatDoorVma13
import Derived.Test.YtnjgkkoiamiaaaaGreatDoorVma10
import Derived.Test.YtnjgkkoiamiaaaaGreatDoorVma2
set_option maxRecDepth 100000
set_option maxHeartbeats 16000000
set_option linter.unusedSimpArgs false
set_option linter.unusedVariables false
namespace Go.Proofs.YtnjgkkoiamiaaaaGreatDoor
open Go.RowKit
section
open Go.RowKit Go.Conc
open Go.RowKit Go.Conc
open Go.RowKit Go.Conc
open Go.RowKit Go.Conc
def ck13 (d:Md) (k:Nat):Bool:=(re13 d k&&so13 d k)||(!re13 d k&&(List.range d.s.length).any fun i=>e11 d i k&&re13 d i)
theorem sd13_ck (d:Md):sd13 d=(List.range d.s.length).all fun k=>!ck13 d k:=by
 rw [Bool.eq_iff_iff,sd13_iff,List.all_eq_true];simp only [List.mem_range,ck13,Bool.not_eq_true',Bool.or_eq_false_iff,Bool.and_eq_false_iff,Bool.not_eq_false',List.any_eq_false,Bool.and_eq_true,not_and,Bool.not_eq_true];constructor
 ·intro h k hk;cases hr:re13 d k with
  | true=>exact ⟨.inr (h k hk hr).1,.inl rfl⟩
  | false =>
   refine ⟨.inl rfl,.inr fun i hi he=>?_⟩;cases hi2:re13 d i with
   | false=>rfl
   | true =>
    have:=(h i hi hi2).2 k hk he;rw [hr] at this;cases this
 ·intro h k hk hr;refine ⟨?_,fun i hi he=>?_⟩
  ·rcases (h k hk).1 with h1 | h1
   ·rw [hr] at h1;cases h1
   ·exact h1
  ·rcases (h i hi).2 with h1 | h1
   ·exact h1
   ·have:=h1 k hk he;rw [hr] at this;cases this
theorem any13 (d:Md) (n k:Nat):(ns11 ((List.range n).filter fun j=>e11 d j k)).any (fun x=>re13 d x.toNat)=(List.range n).any fun i=>e11 d i k&&re13 d i:=by
 rw [ns11,List.any_map,List.any_filter];congr 1
theorem reads13_v (y:Ma) (d:Md) (B k:Nat) (w:World) (hq:Hq w y d) (hd:Db w B y d) (hk:k<d.s.length):Calls Tryz.prog 53 #[.int .i64 (k:Int),.pointer (some ⟨B,0,none⟩)] w fun r w'=>r=.returned (.bool (re13 d k))∧w=w':=by
 obtain ⟨d0,d1,d2,d3,d4⟩:=hd;have hzl:=hq.zlen;obtain ⟨ad8,hA8,hat,hok⟩:=hq.2.2.1.at_ (i:=k) (by omega);have hme:=hq.zat (i:=k) (by omega) hk;obtain ⟨zz,hzz⟩:∃zz,y.Z[k]'(by omega)=zz:=⟨_,rfl⟩;rw [hzz] at hat hok hme;obtain ⟨⟨XA,xc,XB,xd,XD,xk,xe⟩,h,L⟩:=zz;have HR:Hid (re13 d k=h.q):=zhy (by rw [re13,hd13,zg7 hk,hme];rfl);obtain ⟨-,-,-,g3,-⟩:=hat;dsimp only at g3;rw [hA8] at d3;clear hq hme hzz hok hA8;go_enter Tryz.func53,Tryz.ntmps53;go_wp2_with fail;go_ret;exact ⟨by rw [HR.out];rfl,rfl⟩
theorem indexN13_v (y:Ma) (d:Md) (B:Nat) (A:Option Addr) (c m:Nat) (K:List Int) (w:World) (hq:Hq w y d) (hd:Db w B y d) (hr:Rn w A c K) (hm:K.length=m) (hK:∀x∈K,∃j:Nat,x=(j:Int)∧j<d.s.length) :
  Calls Tryz.prog 101 #[.slice A m c,.func (.func 53) #[] #[.pointer (some ⟨B,0,none⟩)]] w fun r w'=>∃i:Int,r=.returned (.int .i64 i)∧decide (0≤i)=(K.any fun x=>re13 d x.toNat)∧w=w':=by
 have HR:=zhy hr
 have HM:=zhy hm
 have HK:=zhy hK
 have HQ:=zhy hq
 have HD:=zhy hd
 have hm9:m≤9223372036854775807:=by have:=hr.1;have:=hr.2.1;unfold maxLen at this;omega
 clear hr hm hK hq hd
 go_enter Tryz.func101,Tryz.ntmps101
 go_wp2_with fail
 go_loopw [8] (fun iv wr=>∃i:Nat,i≤m∧iv=.int .i64 i∧Hid (((K.take i).any fun x=>re13 d x.toNat)=false)∧w=wr) (fun iv _=>m-(intOf iv).toNat)
 case atStart=>exact ⟨0,by omega,rfl,zhy (by simp),rfl⟩
 case round =>
  obtain ⟨i,hi,rfl,HI,rfl⟩:=hrel
  by_cases h1:i<m
  ·obtain ⟨x,hx⟩:∃x,K[i]?=some x:=⟨_,zg7 (by rw [HM.out];exact h1)⟩
   obtain ⟨ad,hA,k1⟩:=HR.out.at_ hx
   obtain ⟨j,rfl,hj⟩:=HK.out x (List.mem_of_getElem? hx)
   subst hA
   have HX:=zhy hx
   have HC:=zhy (reads13_v y d B j w HQ.out HD.out hj)
   obtain ⟨v,hv⟩:∃v,re13 d j=v:=⟨_,rfl⟩
   have HV:=zhy hv
   rw [hv] at HC
   clear hx hv
   go_wp2_with fail
   refine HC.out.mono ?_
   rintro r w2 ⟨rfl,rfl⟩
   clear HC
   cases v with
   | true =>
    have HS:Hid ((K.any fun x=>re13 d x.toNat)=true):=zhy (by
     rw [List.any_eq_true];exact ⟨_,List.mem_of_getElem? HX.out,HV.out⟩)
    go_wp2_with fail
    go_ret
    exact ⟨_,rfl,by rw [HS.out];simp,rfl⟩
   | false =>
    have HI2:Hid (((K.take (i+1)).any fun x=>re13 d x.toNat)=false):=zhy (by
     rw [List.take_add_one,HX.out,List.any_append,HI.out];simpa using HV.out)
    go_wp2_with fail
    go_roundw
    case rel=>exact ⟨i+1,by omega,by go_num,HI2,trivial⟩
    case measure=>simp [intOf];omega
  ·obtain rfl:m=i:=by omega
   have HS:Hid ((K.any fun x=>re13 d x.toNat)=false):=zhy (by
    have:=HI.out;rwa [List.take_of_length_le (by rw [HM.out];exact Nat.le_refl _)] at this)
   go_wp2_with fail
   go_ret
   exact ⟨_,rfl,by rw [HS.out];rfl,rfl⟩
theorem containsN13_v (y:Ma) (d:Md) (B:Nat) (A:Option Addr) (c m:Nat) (K:List Int) (w:World) (hq:Hq w y d) (hd:Db w B y d) (hr:Rn w A c K) (hm:K.length=m) (hK:∀x∈K,∃j:Nat,x=(j:Int)∧j<d.s.length) :
  Calls Tryz.prog 55 #[.slice A m c,.func (.func 53) #[] #[.pointer (some ⟨B,0,none⟩)]] w fun r w'=>r=.returned (.bool (K.any fun x=>re13 d x.toNat))∧w=w':=by
 have HC:=zhy (indexN13_v y d B A c m K w hq hd hr hm hK)
 clear hr hm hq hd hK
 go_enter Tryz.func55,Tryz.ntmps55
 go_wp2_with fail
 refine HC.out.mono ?_
 rintro r w2 ⟨i,rfl,hi,rfl⟩
 have HI:=zhy hi
 clear hi HC
 go_wp2_with fail
 go_ret
 exact ⟨by rw [←HI.out];rfl,rfl⟩
theorem check13_v (y:Ma) (d:Md) (w:World) (hq:Hq w y d) (bs:d.s.length≤1000) (bl:∀z∈d.s,z.2.length≤1000):Calls Tryz.prog 27 #[dv y d] w fun r w'=>r=.returned (.int .i64 (ch13 d))∧Below w.heap.size w w':=by
 have hzl:=hq.zlen;have HZL:=zhy hzl;have S0:=zhy ((((Sx.start w).add (fQm y d) hq).mkD y d));obtain ⟨B,hB⟩:∃B,w.heap.size=B:=⟨_,rfl⟩;have HBB:=zhy hB;rw [hB] at S0;have HBS:=zhy bs;have HBL:=zhy bl;clear hq bl hzl;go_enter Tryz.func27,Tryz.ntmps27;go_upto_region 1 with (fail);change Code.wp _ _ _ _ (w.alloc (dcel y d));generalize w.alloc (dcel y d)=w1 at S0 ⊢;clear hB;have HGR:=zhy (callersOf_v y d w1 S0.out.2.2.1 HBS.out HBL.out);obtain ⟨-,⟨d0,d1,d2,d3,d4⟩,-⟩:=S0.out;go_wp2_with fail;refine HGR.out.mono ?_;clear HGR d0 d1 d2 d3 d4;rintro r w2 h;rcases h with ⟨hba,rfl,hb⟩ | ⟨hba,A,c,Y,rfl,hgo,hyl,hgr,hb⟩
 ·have HE:Hid (ch13 d=2):=zhy (by rw [ch13,if_pos hba]);have HB:=zhy (S0.out.call hb).1;clear hb hba S0;go_wp2_with fail;go_ret;exact ⟨by rw [HE.out];rfl,HB.out⟩
 ·have S2:=zhy ((S0.out.call hb).add (fGw A c Y) hgo.gw);have HBA:=zhy hba;obtain ⟨n,hn⟩:∃n,d.s.length=n:=⟨_,rfl⟩;have HN:=zhy hn;rw [hn] at hyl hgr bs ⊢;have HYL:=zhy hyl;have HGR:=zhy hgr;have HCK:Hid (ch13 d=if ((List.range n).all fun k=>!ck13 d k)=true then 0 else 130):=zhy (by rw [ch13,if_neg (by rw [hba];simp),sd13_ck,hn]);clear hb hba hgo hyl hgr S0 hn;obtain ⟨-,-,⟨d0,d1,d2,d3,d4⟩,-⟩:=S2.out;rw [HN.out] at d3;go_wp2_with fail;clear d0 d1 d2 d3 d4;go_loopw [20] (fun iv wr=>∃k:Nat,k≤n∧iv=.int .i64 k∧Hid (∀j,j<k→ck13 d j=false)∧Hid (Sx w wr [fGw A c Y,fD B y d,fQm y d])) (fun iv _=>n-(intOf iv).toNat)
  case atStart=>exact ⟨0,by omega,rfl,zhy (fun j hj=>by omega),S2⟩
  case round =>
   clear S2;obtain ⟨k,hk,rfl,HC,SR⟩:=hrel;rename World=>wr;by_cases h1:k<n
   ·obtain ⟨ad8,hA8,hat,hok⟩:=SR.out.2.2.2.1.2.2.1.at_ (i:=k) (by rw [HZL.out,HN.out];exact h1);have hme:=SR.out.2.2.2.1.zat (i:=k) (by rw [HZL.out,HN.out];exact h1) (by rw [HN.out];exact h1);obtain ⟨zz,hzz⟩:∃zz,y.Z[k]'(by rw [HZL.out,HN.out];exact h1)=zz:=⟨_,rfl⟩;rw [hzz] at hat hok hme;obtain ⟨⟨XA,xc,XB,xd,XD,xk,xe⟩,h,L⟩:=zz
    have HSO:Hid (so13 d k=st13 L):=zhy (by
     rw [so13,co11,zg7 (by rw [HN.out];exact h1),hme];rfl)
    have HRE:Hid (re13 d k=h.q):=zhy (by rw [re13,hd13,zg7 (by rw [HN.out];exact h1),hme];rfl);obtain ⟨hH,hRi,hxk⟩:=hok;dsimp only at hH hRi hxk;obtain ⟨g0,g1,g2,g3,g4,g5,g6,g7⟩:=hat;dsimp only at g0 g1 g2 g3 g4 g5 g6 g7;clear hzz hme;rw [hA8];go_upto_region 8 with (fail);have HM:=zhy (Mb.new wr ⟨XA,xc,XB,xd,XD,xk,xe⟩ h);have SR1:=zhy (SR.out.call (new1 (w:=wr) (a:=hcel ⟨XA,xc,XB,xd,XD,xk,xe⟩ h)));have HR1:=zhy (hRi.keep (new1 (w:=wr) (a:=hcel ⟨XA,xc,XB,xd,XD,xk,xe⟩ h)));obtain ⟨D,hD⟩:∃D,wr.heap.size=D:=⟨_,rfl⟩;rw [hD] at HM ⊢;change Code.wp _ _ _ _ (wr.alloc (hcel ⟨XA,xc,XB,xd,XD,xk,xe⟩ h));generalize wr.alloc (hcel ⟨XA,xc,XB,xd,XD,xk,xe⟩ h)=w3 at HM SR1 HR1 ⊢;clear g0 g1 g2 g3 g4 g5 g6 g7 hD hH hRi SR;obtain ⟨m0,m1,m2,m3,m4,m5,m6,m7,m8⟩:=HM.out;dsimp only at m4 m8;obtain ⟨u,hu⟩:∃u,h.q=u:=⟨_,rfl⟩;have HU:Hid (re13 d k=u):=zhy (by rw [HRE.out,hu]);rw [hu] at m4;have HHQ:=zhy hu;clear hu;cases u with
    | true =>
     have HST:=zhy (stores_v XD xe xk L w3 HR1.out hxk);obtain ⟨v,hv⟩:∃v,st13 L=v:=⟨_,rfl⟩;rw [hv] at HST;have HV:=zhy hv;clear hv hxk;go_wp2_with fail;refine HST.out.mono ?_;rintro r w4 ⟨rfl,hb⟩;have S4:=zhy (SR1.out.call hb);have HM4:=zhy (HM.out.keep hb);clear hb HST m0 m1 m2 m3 m4 m5 m6 m7 m8 HM SR1 HR1;have m4:=HM4.out.2.2.2.2.1;rw [HHQ.out] at m4;cases v with
     | true =>
      have HE:Hid (ch13 d=130):=zhy (by
       rw [HCK.out,if_neg];intro h;rw [List.all_eq_true] at h;have:=h k (List.mem_range.2 h1);rw [ck13,HU.out,HSO.out,HV.out] at this;simp at this)
      go_wp2_with fail;go_ret;exact ⟨by rw [HE.out];rfl,S4.out.1⟩
     | false =>
      have HC2:Hid (∀j,j<k+1→ck13 d j=false):=zhy fun j hj=>by
       by_cases e:j=k
       ·rw [e,ck13,HU.out,HSO.out,HV.out];simp
       ·exact HC.out j (by omega)
      go_wp2_with fail;go_roundw
      case rel=>exact ⟨k+1,by omega,by go_num,HC2,S4⟩
      case measure=>simp [intOf];omega
    | false =>
     obtain ⟨⟨Ak,ck,K⟩,hyk,hyl⟩:=rel_at11 HYL.out HGR.out h1;dsimp only at hyl;obtain ⟨ad,hA,y0,hrk⟩:=SR1.out.2.1.at_ hyk;subst hA;rw [gv11] at y0;dsimp only at y0 hrk
     have HCO:=zhy (containsN13_v y d B Ak ck K.length K w3 SR1.out.2.2.2.1 SR1.out.2.2.1 hrk rfl (fun x hx=>by
      rw [hyl,ns11,List.mem_map] at hx;obtain ⟨j,hj,rfl⟩:=hx;rw [List.mem_filter,List.mem_range] at hj;exact ⟨j,rfl,by rw [HN.out];exact hj.1⟩))
     obtain ⟨v,hv⟩:∃v,(K.any fun x=>re13 d x.toNat)=v:=⟨_,rfl⟩;rw [hv] at HCO;have HV:Hid (((List.range n).any fun i=>e11 d i k&&re13 d i)=v):=zhy (by rw [←any13,←hv,hyl]);clear hv hyl hyk hrk hxk;go_wp2_with fail;refine HCO.out.mono ?_;rintro r w4 ⟨rfl,rfl⟩;clear HCO m0 m1 m2 m3 m4 m5 m6 m7 m8;cases v with
     | true =>
      have HE:Hid (ch13 d=130):=zhy (by
       rw [HCK.out,if_neg];intro h;rw [List.all_eq_true] at h;have:=h k (List.mem_range.2 h1);rw [ck13,HU.out,HN.out,HV.out] at this;simp at this)
      go_wp2_with fail;go_ret;exact ⟨by rw [HE.out];rfl,SR1.out.1⟩
     | false =>
      have HC2:Hid (∀j,j<k+1→ck13 d j=false):=zhy fun j hj=>by
       by_cases e:j=k
       ·rw [e,ck13,HU.out,HN.out,HV.out];simp
       ·exact HC.out j (by omega)
      go_wp2_with fail;go_roundw
      case rel=>exact ⟨k+1,by omega,by go_num,HC2,SR1⟩
      case measure=>simp [intOf];omega
   ·obtain rfl:n=k:=by omega
    have HE:Hid (ch13 d=0):=zhy (by
     rw [HCK.out,if_pos];rw [List.all_eq_true];intro j hj;rw [HC.out j (List.mem_range.1 hj)];rfl)
    go_wp2_with fail;go_ret;exact ⟨by rw [HE.out];rfl,SR.out.1⟩
end
def Dc (w:World) (T:Nat) (A1 A2 A3:Option Addr) (c1 c2 c3:Nat) (d:Md) (n:Nat):Prop:=T<w.heap.size∧w.cell? ⟨T,0,none⟩=some (.slice A1 d.g.length c1)∧w.cell? ⟨T,1,none⟩=some (.slice A2 d.p.length c2)∧w.cell? ⟨T,2,none⟩=some (.slice A3 n c3)∧w.cell? ⟨T,3,none⟩=some (.int .i64 d.i)
def T8 (w:World) (T:Nat):Prop:=Mf w T∧Db w T Ma.zero Md.zero∧Bk w T 25 4
theorem T8.new (w:World):T8 (w.alloc (.cells #[.slice none 0 0,.slice none 0 0,.slice none 0 0,.int .i64 0] 25)) w.heap.size:=⟨Mf.new w _ _,Db.new w Ma.zero Md.zero,Bk.new w _ _⟩
theorem T8.keep {w w':World} {T:Nat} (h:T8 w T) (hb:Below w.heap.size w w'):T8 w' T:=⟨h.1.keep hb,h.2.1.keep hb,h.2.2.keep hb⟩
def Tz (wr w':World) (Tb:Nat) (x:Mc) (m:Mh):Prop:=Below Tb wr w'∧Mf w' Tb∧Mb w' Tb x m
section
variable {wr w1 w2 : World} {Tb : Nat} {x : Mc} {m : Mh}
theorem Tz.new (w:World) (x:Mc) (m:Mh):Tz w (w.alloc (hcel x m)) w.heap.size x m:=⟨new1,Mf.new w _ _,Mb.new w x m⟩
theorem Tz.call (h:Tz wr w1 Tb x m) (hb:Below w1.heap.size w1 w2):Tz wr w2 Tb x m:=⟨h.1.trans (hb.mono (Nat.le_of_lt h.2.1.1)),h.2.1.keep hb,h.2.2.keep hb⟩
theorem Tz.set (h:Tz wr w1 Tb x m) {x2:Mc} (i:Nat) (v:Value) (hm:Mb (w1.setCell ⟨Tb,i,none⟩ v) Tb x2 m):Tz wr (w1.setCell ⟨Tb,i,none⟩ v) Tb x2 m:=⟨h.1.setCell (Nat.le_refl _) _,h.2.1.set _ _,hm⟩
end
theorem ce8_new (w:World) (z:Me) (t:Nat):∀j u,(ce8 z)[j]?=some u→(w.alloc (.cells (ce8 z).toArray t)).cell? ((⟨w.heap.size,0,none⟩:Addr).add j)=some u:=by
 intro j u h
 have e:(⟨w.heap.size,0,none⟩:Addr).add j=⟨w.heap.size,j,none⟩:=by
  unfold Addr.add;split
  ·rename_i h0;simp [h0]
  ·simp
 rw [e];simp [go_sem,h]
theorem Bk.grownEq {w w':World} {B t n base2 e2 size2 n2:Nat} {v2:Value} {xs2:List Value} (h:Bk w B t n) (h2:w.ownsRow base2 e2 size2 v2 n2 xs2) (hne:t≠e2) (hg:w.grownBy w' v2.ownBlock):w'.heap[B]?=w.heap[B]?:=by
 have hlt:=h.lt;obtain ⟨cur,hh,hn⟩:=h;refine hg.block B hlt fun e'=>?_;rcases h2.2 with ⟨rfl,_⟩ | ⟨g2,cap2,cur2,rfl,_,hh2,_⟩
 ·simp [Value.ownBlock] at e'
 ·simp [Value.ownBlock] at e';subst e';rw [hh] at hh2;injection hh2 with hh2;injection hh2 with _ h3 _;exact hne h3
theorem Wz.grown {w w':World} {lo base n:Nat} {z:Me} {v:Value} {xs:List Value} (h:Wz w lo z) (h2:w.ownsRow base 50 8 v n xs) (hg:w.grownBy w' v.ownBlock):Wz w' lo z:=⟨h.1,own_grown h.2.1 h2 (by decide) hg,own_grown h.2.2.1 h2 (by decide) hg,own_grown h.2.2.2 h2 (by decide) hg⟩
theorem Wz.based {w:World} {lo lo2:Nat} {z:Me} (h:Wz w lo z) (hl:lo2≤lo):Wz w lo2 z:=⟨h.1,own_base h.2.1 hl,own_base h.2.2.1 hl,own_base h.2.2.2 hl⟩
def Rc8 (w:World) (B1 T:Nat) (y:Ma) (d:Md) (A1 A2:Option Addr) (c1 c2:Nat) (Zs:List Me) (A3:Option Addr) (c3 n:Nat) (wr:World):Prop:=
 Below w.heap.size w wr∧Db wr B1 y d∧(Mf wr (B1+1)∧Db wr (B1+1) Ma.zero Md.zero)∧Mf wr T∧Dc wr T A1 A2 A3 c1 c2 c3 d n∧Bk wr T 25 4 ∧
 wr.ownsRow (B1+2) 139 3 (.slice A1 d.g.length c1) d.g.length (cev d.g)∧wr.ownsRow (B1+2) 139 3 (.slice A2 d.p.length c2) d.p.length (cev d.p) ∧
 wr.ownsRow (B1+2) 50 8 (.slice A3 n c3) n (cem Zs)∧((∀z∈Zs,Wz wr (B1+2) z)∧Zs.map ze=d.s.take n∧w.heap.size=B1)∧B1+2≤T
section
variable {w wr w' : World} {B1 T : Nat} {y : Ma} {d : Md} {A1 A2 A3 : Option Addr} {c1 c2 c3 n : Nat} {Zs : List Me}
theorem Dc.keep (h:Dc wr T A1 A2 A3 c1 c2 c3 d n) (hb:Below wr.heap.size wr w'):Dc w' T A1 A2 A3 c1 c2 c3 d n:=by
 obtain ⟨h0,h1,h2,h3,h4⟩:=h;obtain ⟨hc,hf⟩:=bcell hb;exact ⟨Nat.lt_of_lt_of_le h0 hb.size,(hc _ _ h0).trans h1,(hc _ _ h0).trans h2,(hc _ _ h0).trans h3,(hc _ _ h0).trans h4⟩
theorem Rc8.call (h:Rc8 w B1 T y d A1 A2 c1 c2 Zs A3 c3 n wr) (hb:Below wr.heap.size wr w'):Rc8 w B1 T y d A1 A2 c1 c2 Zs A3 c3 n w':=by
 obtain ⟨h1,h2,h3,h4,h5,h6,h7,h8,h9,⟨ha,hb2,hc⟩,hd⟩:=h;exact ⟨h1.trans (hb.mono h1.size),h2.keep hb,⟨h3.1.keep hb,h3.2.keep hb⟩,h4.keep hb,h5.keep hb,h6.keep hb,own_below h7 hb (Nat.le_refl _),own_below h8 hb (Nat.le_refl _),own_below h9 hb (Nat.le_refl _),⟨fun z hz=>(ha z hz).keep hb,hb2,hc⟩,hd⟩
def Rg8 (w:World) (B1 T:Nat) (y:Ma) (d:Md) (A1 A2:Option Addr) (c1 c2:Nat) (Zs:List Me) (A3:Option Addr) (c3 n:Nat) (z:Me) (A7:Option Addr) (c7:Nat) (wr:World):Prop:=
 Below w.heap.size w wr∧Db wr B1 y d∧(Mf wr (B1+1)∧Db wr (B1+1) Ma.zero Md.zero)∧Mf wr T∧Dc wr T A1 A2 A3 c1 c2 c3 d n∧Bk wr T 25 4 ∧
 wr.ownsRow (B1+2) 139 3 (.slice A1 d.g.length c1) d.g.length (cev d.g)∧wr.ownsRow (B1+2) 139 3 (.slice A2 d.p.length c2) d.p.length (cev d.p) ∧
 wr.ownsRow (B1+2) 50 8 (.slice A7 (n+1) c7) (n+1) (cem (Zs++[z]))∧((∀t∈Zs++[z],Wz wr (B1+2) t)∧(Zs++[z]).map ze=d.s.take (n+1)∧w.heap.size=B1)∧B1+2≤T
theorem Db.belowB {B k:Nat} (h:Db wr B y d) (hb:Below k wr w') (hk:B<k):Db w' B y d:=by
 obtain ⟨h0,h1,h2,h3,h4⟩:=h;have hc:∀i,w'.cell? ⟨B,i,none⟩=wr.cell? ⟨B,i,none⟩:=fun i=>hb.cell (p:=⟨B,i,none⟩) (show B<k from hk);exact ⟨Nat.lt_of_lt_of_le h0 hb.size,(hc _).trans h1,(hc _).trans h2,(hc _).trans h3,(hc _).trans h4⟩
theorem Mf.belowB {B k:Nat} (h:Mf wr B) (hb:Below k wr w') (hk:B<k):Mf w' B:=⟨Nat.lt_of_lt_of_le h.1 hb.size,fun i=>(hb.frozen (p:=⟨B,i,none⟩) (show B<k from hk)).trans (h.2 i)⟩
theorem Rc8.grow {z:Me} {A7:Option Addr} {c7:Nat} (h:Rc8 w B1 T y d A1 A2 c1 c2 Zs A3 c3 n wr) (hg:wr.grownBy w' (Value.slice A3 n c3).ownBlock) (hb:Below (B1+2) wr w') (hw:Wz wr (B1+2) z)
  (ho:w'.ownsRow (B1+2) 50 8 (.slice A7 (n+1) c7) (n+1) (cem (Zs++[z]))) (hz:(d.s)[n]?=some (ze z)):Rg8 w B1 T y d A1 A2 c1 c2 Zs A3 c3 n z A7 c7 w':=by
 obtain ⟨h1,h2,h3,h4,h5,h6,h7,h8,h9,⟨ha,hb2,hc⟩,hd⟩:=h
 have he:=h6.grownEq h9 (by decide) hg
 have hs:=hb.size
 have kc:∀i,w'.cell? ⟨T,i,none⟩=wr.cell? ⟨T,i,none⟩:=fun i=>World.cell?_of_block (w:=wr) he
 have kf:∀i,w'.frozen? ⟨T,i,none⟩=wr.frozen? ⟨T,i,none⟩:=fun i=>World.frozen?_of_block (w:=wr) he
 refine ⟨h1.trans (hb.mono (by omega)),h2.belowB hb (by omega),⟨h3.1.belowB hb (by omega),h3.2.belowB hb (by omega)⟩,⟨Nat.lt_of_lt_of_le h4.1 hs,fun i=>(kf i).trans (h4.2 i)⟩,
  ⟨Nat.lt_of_lt_of_le h5.1 hs,(kc 0).trans h5.2.1,(kc 1).trans h5.2.2.1,(kc 2).trans h5.2.2.2.1,(kc 3).trans h5.2.2.2.2⟩,h6.grown h9 (by decide) hg,own_grown h7 h9 (by decide) hg,own_grown h8 h9 (by decide) hg,ho,⟨fun t ht=>?_,?_,hc⟩,hd⟩
 ·rcases List.mem_append.1 ht with ht | ht
  ·exact (ha t ht).grown h9 hg
  ·rw [List.mem_singleton.1 ht];exact hw.grown h9 hg
 ·rw [List.map_append,hb2,List.take_add_one,hz]
  rfl
theorem Rg8.put {z:Me} {A7:Option Addr} {c7:Nat} (h:Rg8 w B1 T y d A1 A2 c1 c2 Zs A3 c3 n z A7 c7 wr):Rc8 w B1 T y d A1 A2 c1 c2 (Zs++[z]) A7 c7 (n+1) (wr.setCell ⟨T,2,none⟩ (.slice A7 (n+1) c7)):=by
 obtain ⟨h1,h2,h3,h4,h5,h6,h7,h8,h9,⟨ha,hb2,hc⟩,hd⟩:=h;refine ⟨h1.setCell (show w.heap.size≤T by omega) _,h2.other (show T≠B1 by omega) _,⟨h3.1.set _ _,h3.2.other (show T≠B1+1 by omega) _⟩,h4.set _ _,?_,h6.set _ _ _,own_tag h7 h6 (by decide) _ _,own_tag h8 h6 (by decide) _ _,own_tag h9 h6 (by decide) _ _,⟨fun t ht=>?_,hb2,hc⟩,hd⟩
 ·obtain ⟨i0,i1,i2,i3,i4⟩:=h5;refine ⟨by simpa using i0,?_,?_,?_,?_⟩<;>simp [go_sem,i1,i2,i3,i4]
 ·obtain ⟨j1,j2,j3,j4⟩:=ha t ht;exact ⟨j1,own_tag j2 h6 (by decide) _ _,own_tag j3 h6 (by decide) _ _,own_tag j4 h6 (by decide) _ _⟩
theorem Rc8.fin (h:Rc8 w B1 T y d A1 A2 c1 c2 Zs A3 c3 d.s.length wr) (hq:Hq w y d) :
  Db (put4 wr (B1+1) ⟨A1,c1,A2,c2,A3,c3,Zs⟩ d) (B1+1) ⟨A1,c1,A2,c2,A3,c3,Zs⟩ d∧Hq (put4 wr (B1+1) ⟨A1,c1,A2,c2,A3,c3,Zs⟩ d) ⟨A1,c1,A2,c2,A3,c3,Zs⟩ d ∧
   Ow (put4 wr (B1+1) ⟨A1,c1,A2,c2,A3,c3,Zs⟩ d) w.heap.size (put4 wr (B1+1) ⟨A1,c1,A2,c2,A3,c3,Zs⟩ d).heap.size ⟨A1,c1,A2,c2,A3,c3,Zs⟩ d∧Below w.heap.size w (put4 wr (B1+1) ⟨A1,c1,A2,c2,A3,c3,Zs⟩ d):=by
 obtain ⟨h1,h2,h3,h4,h5,h6,h7,h8,h9,⟨ha,hb2,hc⟩,hd⟩:=h
 rw [List.take_of_length_le (Nat.le_refl _)] at hb2
 have k4:=put4_ownN h7 (show B1+1<B1+2 by omega) ⟨A1,c1,A2,c2,A3,c3,Zs⟩ d
 have k5:=put4_ownN h8 (show B1+1<B1+2 by omega) ⟨A1,c1,A2,c2,A3,c3,Zs⟩ d
 have k6:=put4_ownN h9 (show B1+1<B1+2 by omega) ⟨A1,c1,A2,c2,A3,c3,Zs⟩ d
 have k7:∀z∈Zs,Wz (put4 wr (B1+1) ⟨A1,c1,A2,c2,A3,c3,Zs⟩ d) (B1+2) z:=fun z hz=>(ha z hz).put4 (by omega) _ d
 exact ⟨put4_db h3.2 _ d,⟨(Rv.of_own k4 hq.1.1).1,(Rv.of_own k5 hq.2.1.1).1,(Rm.of_own k6 (fun z hz=>(k7 z hz).ok)).1,hb2,hq.2.2.2.2⟩,⟨Rs.of_own k4 (by omega) (Nat.le_refl _),Rs.of_own k5 (by omega) (Nat.le_refl _),Rs.of_own k6 (by omega) (Nat.le_refl _),fun z hz=>(k7 z hz).ow (by omega) (Nat.le_refl _)⟩,put4_below h1 (by omega) _ d⟩
end
theorem rc8_start {w wE:World} {B1 T:Nat} {y:Ma} {d:Md} {A1 A2:Option Addr} {c1 c2:Nat} (hS:Sx w wE [fF B1,fD B1 y d,fMz (B1+1),fQm y d]) (hB:w.heap.size=B1) (hT:T8 wE T) (hTB:B1+2≤T)
  (o1:wE.ownsRow (B1+2) 139 3 (.slice A1 d.g.length c1) d.g.length (cev d.g)) (o2:wE.ownsRow (B1+2) 139 3 (.slice A2 d.p.length c2) d.p.length (cev d.p)) :
  Hid (Rc8 w B1 T y d A1 A2 c1 c2 [] none 0 0 ((((wE.setCell ⟨T,0,none⟩ (.slice A1 d.g.length c1)).setCell ⟨T,1,none⟩ (.slice A2 d.p.length c2)).setCell ⟨T,2,none⟩ (.slice none 0 0)).setCell ⟨T,3,none⟩ (.int .i64 d.i))):=by
 obtain ⟨s1,s2,s3,s4,-⟩:=hS
 obtain ⟨t1,t2,t3⟩:=hT
 have hne:∀i,(⟨T,i,none⟩:Addr).block≠B1:=fun i=>by show T≠B1;omega
 have hne2:∀i,(⟨T,i,none⟩:Addr).block≠B1+1:=fun i=>by show T≠B1+1;omega
 have hle:∀i,w.heap.size≤(⟨T,i,none⟩:Addr).block:=fun i=>by show w.heap.size≤T;omega
 have b0:=t3.set T 0 (.slice A1 d.g.length c1)
 have b1:=b0.set T 1 (.slice A2 d.p.length c2)
 have b2:=b1.set T 2 (.slice none 0 0)
 refine ⟨(((s1.setCell (hle 0) _).setCell (hle 1) _).setCell (hle 2) _).setCell (hle 3) _,(((s3.other (hne 0) _).other (hne 1) _).other (hne 2) _).other (hne 3) _,⟨(((s4.1.set _ _).set _ _).set _ _).set _ _,(((s4.2.other (hne2 0) _).other (hne2 1) _).other (hne2 2) _).other (hne2 3) _⟩,
  (((t1.set _ _).set _ _).set _ _).set _ _,?_,b2.set _ _ _,own_tag (own_tag (own_tag (own_tag o1 t3 (by decide) _ _) b0 (by decide) _ _) b1 (by decide) _ _) b2 (by decide) _ _,own_tag (own_tag (own_tag (own_tag o2 t3 (by decide) _ _) b0 (by decide) _ _) b1 (by decide) _ _) b2 (by decide) _ _,World.ownsRow_nil _ _ _ _,⟨fun z hz=>(by cases hz),by simp,hB⟩,hTB⟩
 obtain ⟨i0,i1,i2,i3,i4⟩:=t2
 refine ⟨by simpa using i0,?_,?_,?_,?_⟩<;>simp [go_sem,i1,i2,i3,i4]
theorem rcopy_end (tm:Array Value) (w':World) (T:Nat) (y:Ma) (d:Md) (hT:tm[2]?.getD undef=.pointer (some ⟨T,0,none⟩)) (hM:Db w' T y d) (R:Ending→World→Prop)
  (hR:R (.returned (dv y d)) w'):bodyPost Tryz.prog Tryz.f10 R .ret { tmps:=tm,defers:=[]} w':=by
 obtain ⟨h0,c1,c2,c3,c4⟩:=hM
 exact bodyPost_ret (v:=dv y d) (by simp [results,Tryz.results10,go_sem,hT,c1,c2,c3,c4]) rfl hR
def cbk13 (z:Me):Option Nat:=(Value.slice z.x.D z.x.k z.x.e).ownBlock
def Dj13 (Zs:List Me):Prop:=Zs.Pairwise fun a b=>∀g,cbk13 a=some g→cbk13 b≠some g
theorem dj13_snoc {Zs:List Me} {wr w6:World} {lo Tb:Nat} {z:Me} (h:Dj13 Zs) (hw:∀a∈Zs,Wz wr lo a) (hT:wr.heap.size=Tb) (hz:Wz w6 (Tb+1) z):Dj13 (Zs++[z]):=by
 refine List.pairwise_append.2 ⟨h,List.pairwise_singleton _ _,fun a ha b hb g e1 e2=>?_⟩;rw [List.mem_singleton.1 hb] at e2;have h1:=((hw a ha).2.2.2.lt g e1).2;have h2:=(hz.2.2.2.lt g e2).1;omega
structure Oc13 (w:World) (lo:Nat) (t:Ma) (d:Md):Prop where
 g:w.ownsRow lo 139 3 (.slice t.G d.g.length t.gc) d.g.length (cev d.g)
 p:w.ownsRow lo 139 3 (.slice t.P d.p.length t.pc) d.p.length (cev d.p)
 z:∀z∈t.Z,Wz w lo z
 dj:Dj13 t.Z
 r:w.ownsRow lo 50 8 (.slice t.A d.s.length t.c) d.s.length (cem t.Z)
section
variable {w w' w9 : World} {lo hi g : Nat} {t : Ma} {d : Md}
theorem Oc13.keep (h:Oc13 w lo t d) (hb:Below w.heap.size w w'):Oc13 w' lo t d:=⟨own_below h.g hb (Nat.le_refl _),own_below h.p hb (Nat.le_refl _),fun z hz=>(h.z z hz).keep hb,h.dj,own_below h.r hb (Nat.le_refl _)⟩
end
section
variable {w wr : World} {B1 T : Nat} {y : Ma} {d : Md} {A1 A2 A3 : Option Addr} {c1 c2 c3 : Nat} {Zs : List Me}
theorem Rc8.finz (h:Rc8 w B1 T y d A1 A2 c1 c2 Zs A3 c3 d.s.length wr) (hq:Hq w y d) (hp:Dj13 Zs) :
  (Db (put4 wr (B1+1) ⟨A1,c1,A2,c2,A3,c3,Zs⟩ d) (B1+1) ⟨A1,c1,A2,c2,A3,c3,Zs⟩ d∧Hq (put4 wr (B1+1) ⟨A1,c1,A2,c2,A3,c3,Zs⟩ d) ⟨A1,c1,A2,c2,A3,c3,Zs⟩ d ∧
   Ow (put4 wr (B1+1) ⟨A1,c1,A2,c2,A3,c3,Zs⟩ d) w.heap.size (put4 wr (B1+1) ⟨A1,c1,A2,c2,A3,c3,Zs⟩ d).heap.size ⟨A1,c1,A2,c2,A3,c3,Zs⟩ d∧Below w.heap.size w (put4 wr (B1+1) ⟨A1,c1,A2,c2,A3,c3,Zs⟩ d)) ∧
   Oc13 (put4 wr (B1+1) ⟨A1,c1,A2,c2,A3,c3,Zs⟩ d) w.heap.size ⟨A1,c1,A2,c2,A3,c3,Zs⟩ d:=by
 refine ⟨h.fin hq,?_⟩
 obtain ⟨h1,h2,h3,h4,h5,h6,h7,h8,h9,⟨ha,hb2,hc⟩,hd⟩:=h
 have k4:=put4_ownN h7 (show B1+1<B1+2 by omega) ⟨A1,c1,A2,c2,A3,c3,Zs⟩ d
 have k5:=put4_ownN h8 (show B1+1<B1+2 by omega) ⟨A1,c1,A2,c2,A3,c3,Zs⟩ d
 have k6:=put4_ownN h9 (show B1+1<B1+2 by omega) ⟨A1,c1,A2,c2,A3,c3,Zs⟩ d
 have k7:∀z∈Zs,Wz (put4 wr (B1+1) ⟨A1,c1,A2,c2,A3,c3,Zs⟩ d) (B1+2) z:=fun z hz=>(ha z hz).put4 (by omega) _ d
 exact ⟨own_base k4 (by omega),own_base k5 (by omega),fun z hz=>(k7 z hz).based (by omega),hp,own_base k6 (by omega)⟩
end
theorem r8copyz_v (y:Ma) (d:Md) (w:World) (hq:Hq w y d) (bb1:d.g.length≤1000) (bb2:d.p.length≤1000) (bb3:d.s.length≤1000) (bb4:∀z∈y.Z,z.m.a.length≤1000∧z.m.l.length≤1000∧z.x.k≤1000) :
  Calls Tryz.prog 10 #[dv y d] w fun r w'=>∃t,r=.returned (dv t d)∧Hq w' t d∧Ow w' w.heap.size w'.heap.size t d∧Below w.heap.size w w'∧Oc13 w' w.heap.size t d:=by
 obtain ⟨i0,hi,hz0,hz1,hz2⟩:=info_parts Tryz.info5
 obtain ⟨G,gc,P,pc,A,c,Z⟩:=y
 have HZL:=zhy hq.zlen
 have HZA:=zhy (fun (i:Nat) (h1:i<Z.length) (h2:i<d.s.length)=>hq.zat h1 h2)
 dsimp only at HZL HZA bb4
 have HQ0:=zhy hq
 have HB4:=zhy bb4
 have S0:Hid (Sx w ((w.alloc (dcel ⟨G,gc,P,pc,A,c,Z⟩ d)).alloc (dcel Ma.zero Md.zero)) [fF w.heap.size,fD w.heap.size ⟨G,gc,P,pc,A,c,Z⟩ d,fMz (w.heap.size+1),fQm ⟨G,gc,P,pc,A,c,Z⟩ d]):=by
  have h1:=(((Sx.start w).add (fQm ⟨G,gc,P,pc,A,c,Z⟩ d) hq).mkD ⟨G,gc,P,pc,A,c,Z⟩ d).mkD Ma.zero Md.zero;have h2:=Db.new (w.alloc (dcel ⟨G,gc,P,pc,A,c,Z⟩ d)) Ma.zero Md.zero;have h3:=Mf.new (w.alloc (dcel ⟨G,gc,P,pc,A,c,Z⟩ d)) #[.slice none 0 0,.slice none 0 0,.slice none 0 0,.int .i64 0] 25;rw [size1] at h1 h2 h3;exact ⟨h1.1,(Mf.new w _ _).keep new1,h1.2.2.1,⟨h3,h2⟩,h1.2.2.2⟩
 clear hq bb4
 go_enter Tryz.func10,Tryz.ntmps10
 go_upto_region 1 with (fail)
 have S0':Hid (Sx w ((w.alloc (.cells #[.slice G d.g.length gc,.slice P d.p.length pc,.slice A d.s.length c,.int .i64 d.i] 25)).alloc (.cells #[.slice none 0 0,.slice none 0 0,.slice none 0 0,.int .i64 0] 25)) [fF w.heap.size,fD w.heap.size ⟨G,gc,P,pc,A,c,Z⟩ d,fMz (w.heap.size+1),fQm ⟨G,gc,P,pc,A,c,Z⟩ d]):=S0
 clear S0
 generalize (w.alloc (.cells #[.slice G d.g.length gc,.slice P d.p.length pc,.slice A d.s.length c,.int .i64 d.i] 25)).alloc (.cells #[.slice none 0 0,.slice none 0 0,.slice none 0 0,.int .i64 0] 25)=w0 at *
 have S0:=S0'
 clear S0'
 obtain ⟨B1,hB1⟩:∃B,w.heap.size=B:=⟨_,rfl⟩
 have HBQ:=zhy hB1
 rw [hB1] at S0 ⊢
 clear hB1
 rename_i Qx Kx hKx
 have TAIL:∀(T:Nat) (A1:Option Addr) (c1:Nat) (A2:Option Addr) (c2:Nat) (wE:World) (HC:Hid (Rc8 w B1 T ⟨G,gc,P,pc,A,c,Z⟩ d A1 A2 c1 c2 [] none 0 0 wE)) (u4 u5 u6 u7 u8 u9 u10 u11 u12 u13 u14:Value),
   Exit.then Kx Qx .normal { tmps:=#[dv ⟨G,gc,P,pc,A,c,Z⟩ d,.pointer (some ⟨B1,0,none⟩),.pointer (some ⟨B1+1,0,none⟩),.pointer (some ⟨T,0,none⟩),u4,u5,u6,u7,u8,u9,u10,u11,u12,u13,u14,undef,undef,undef,undef,undef,undef,undef,undef,undef,undef,undef,undef,undef,undef,undef,undef,undef,undef,undef,undef,undef,undef,undef,undef,undef,undef,undef,undef,undef,undef,undef,undef,undef],defers:=[]} wE:=by
  intro T A1 c1 A2 c2 wE HC u4 u5 u6 u7 u8 u9 u10 u11 u12 u13 u14
  clear S0
  go_wp2_with fail
  go_loopw [4] (fun i wr=>∃(j:Nat) (Zs:List Me) (A3:Option Addr) (c3:Nat),j≤d.s.length∧i=.int .i64 j∧Hid (Rc8 w B1 T ⟨G,gc,P,pc,A,c,Z⟩ d A1 A2 c1 c2 Zs A3 c3 j wr)∧Hid (Dj13 Zs)) (fun i _=>d.s.length-(intOf i).toNat)
  case atStart=>exact ⟨0,[],none,0,by omega,rfl,HC,zhy List.Pairwise.nil⟩
  case round =>
   obtain ⟨j,Zs,A3,c3,hj,rfl,HR,HPW⟩:=hrel
   clear HC
   obtain ⟨y0,y1,y2,y3,y4⟩:=HR.out.2.1
   dsimp only at y1 y2 y3
   by_cases h1:j<d.s.length
   ·have h1z:j<Z.length:=by rw [HZL.out];exact h1
    have hq:=HQ0.out.keep HR.out.1
    obtain ⟨ad,hA,h8,hok⟩:=hq.2.2.1.at_ h1z
    dsimp only at hA h8 hok
    subst hA
    have HZE:Hid (ze Z[j]=d.s[j]):=zhy (HZA.out j h1z h1).symm
    have HZB:=zhy (HB4.out Z[j] (List.getElem_mem h1z))
    clear hq
    generalize Z[j]=z at *
    obtain ⟨x,m,k⟩:=z
    obtain ⟨q1,q2,q3⟩:=HZB.out
    dsimp only at q1 q2 q3
    have HOK:=zhy hok
    clear hok HZB
    obtain ⟨x0,x1,x2,x3,x4,x5,x6,x7⟩:=h8
    dsimp only at x0 x1 x2 x3 x4 x5 x6 x7
    have Q1:=zhy (Tz.new wr x m)
    go_upto_region 6 with (fail)
    obtain ⟨wb,hwb⟩:∃wb,wr.alloc (hcel x m)=wb:=⟨_,rfl⟩
    rw [hwb] at Q1
    rw [hcel] at hwb
    rw [hwb]
    clear hwb x0 x1 x2 x3 x4 x5 x6 x7 y0 y1 y2 y3 y4
    obtain ⟨Tb,hTb⟩:∃Tb,wr.heap.size=Tb:=⟨_,rfl⟩
    have HTb:=zhy hTb
    rw [hTb] at Q1 ⊢
    clear hTb
    obtain ⟨z0,z1,z2,z3,z4,z5,z6,z7,z8⟩:=Q1.out.2.2
    go_wp2_with (at_builtin;refine wpList_append_rd _ rfl (.tmp 27) (.tmp 29) 40 rfl wb.heap.size 5 i0 Tryz.underlying40 hi hz0 hz1 hz2 _ 0 [] rfl (World.ownsRow_lit wb #[] 0 (Nat.le_refl _) (Nat.zero_le _) rfl) x.A m.a.length x.c m.a rfl (Rd.alloc (HOK.out.1.1.keep (HTb.out▸Q1.out.1)) _) rfl (by omega) (by simp) ?_)
    intro A4 c4 w1 ho1 hg1 hb1 _
    have Q2:=zhy (Q1.out.call (new1.trans hb1))
    have HO4:Hid (w1.ownsRow (Tb+1) 5 1 (.slice A4 m.a.length c4) m.a.length (cel m.a)):=own_base (by simpa using ho1) (Nat.succ_le_of_lt Q1.out.2.1.1)
    have Q3:=zhy (Q2.out.set 0 (.slice A4 m.a.length c4) (Q2.out.2.2.setA A4 c4 m.a _ rfl))
    have HO4b:Hid ((w1.setCell ⟨Tb,0,none⟩ (.slice A4 m.a.length c4)).ownsRow (Tb+1) 5 1 (.slice A4 m.a.length c4) m.a.length (cel m.a)):=ownsRow_setCell_below HO4.out (by show Tb<_;omega) _
    clear ho1 hg1 hb1 Q1 HO4 z0 z1 z2 z3 z4 z5 z6 z7 z8
    obtain ⟨f0,f1,f2,f3,f4,f5,f6,f7⟩:=Q2.out.2.1.keepM
    obtain ⟨z0,z1,z2,z3,z4,z5,z6,z7,z8⟩:=Q2.out.2.2
    go_upto_region 7 with (fail)
    clear f0 f1 f2 f3 f4 f5 f6 f7 z0 z1 z2 z3 z4 z5 z6 z7 z8 Q2
    generalize w1.setCell ⟨Tb,0,none⟩ (.slice A4 m.a.length c4)=w2 at Q3 HO4b ⊢
    obtain ⟨z0,z1,z2,z3,z4,z5,z6,z7,z8⟩:=Q3.out.2.2
    dsimp only at z1 z2 z8
    go_wp2_with (at_builtin;refine wpList_append_rd _ rfl (.tmp 32) (.tmp 34) 40 rfl w2.heap.size 5 i0 Tryz.underlying40 hi hz0 hz1 hz2 _ 0 [] rfl (World.ownsRow_lit w2 #[] 0 (Nat.le_refl _) (Nat.zero_le _) rfl) x.B m.l.length x.d m.l rfl (Rd.alloc (HOK.out.1.2.1.keep (HTb.out▸Q3.out.1)) _) rfl (by omega) (by simp) ?_)
    intro A5 c5 w3 ho1 hg1 hb1 _
    have Q4:=zhy (Q3.out.call (new1.trans hb1))
    have HO5:Hid (w3.ownsRow (Tb+1) 5 1 (.slice A5 m.l.length c5) m.l.length (cel m.l)):=own_base (by simpa using ho1) (Nat.succ_le_of_lt Q3.out.2.1.1)
    have HO4c:=zhy (own_below HO4b.out (new1.trans hb1) (Nat.le_refl _))
    have Q5:=zhy (Q4.out.set 1 (.slice A5 m.l.length c5) (Q4.out.2.2.setB A5 c5 m.l _ rfl))
    have HO4d:Hid ((w3.setCell ⟨Tb,1,none⟩ (.slice A5 m.l.length c5)).ownsRow (Tb+1) 5 1 (.slice A4 m.a.length c4) m.a.length (cel m.a)):=ownsRow_setCell_below HO4c.out (by show Tb<_;omega) _
    have HO5b:Hid ((w3.setCell ⟨Tb,1,none⟩ (.slice A5 m.l.length c5)).ownsRow (Tb+1) 5 1 (.slice A5 m.l.length c5) m.l.length (cel m.l)):=ownsRow_setCell_below HO5.out (by show Tb<_;omega) _
    clear ho1 hg1 hb1 Q3 HO4b HO4c HO5 z0 z1 z2 z3 z4 z5 z6 z7 z8
    obtain ⟨f0,f1,f2,f3,f4,f5,f6,f7⟩:=Q4.out.2.1.keepM
    obtain ⟨z0,z1,z2,z3,z4,z5,z6,z7,z8⟩:=Q4.out.2.2
    dsimp only at z1 z2 z8
    go_upto_region 8 with (fail)
    clear f0 f1 f2 f3 f4 f5 f6 f7 z0 z1 z2 z3 z4 z5 z6 z7 z8 Q4
    generalize w3.setCell ⟨Tb,1,none⟩ (.slice A5 m.l.length c5)=w4 at Q5 HO4d HO5b ⊢
    obtain ⟨z0,z1,z2,z3,z4,z5,z6,z7,z8⟩:=Q5.out.2.2
    dsimp only at z1 z2 z8
    go_wp2_with fail
    refine (rcopy_any x.D x.e x.k k _ (HOK.out.2.1.keep (HTb.out▸Q5.out.1)) HOK.out.2.2 (by omega)).mono ?_
    rintro r w5 ⟨A6,c6,rfl,ho1,hb1⟩
    have Q6:=zhy (Q5.out.call hb1)
    have HO6:=zhy (own_base ho1 (Nat.succ_le_of_lt Q5.out.2.1.1))
    have HO4e:=zhy (own_below HO4d.out hb1 (Nat.le_refl _))
    have HO5c:=zhy (own_below HO5b.out hb1 (Nat.le_refl _))
    have Q7:=zhy (Q6.out.set (x2:=⟨A4,c4,A5,c5,A6,x.k,c6⟩) 7 (.slice A6 x.k c6) (Q6.out.2.2.setD A6 x.k c6))
    have HW:Hid (Wz (w5.setCell ⟨Tb,7,none⟩ (.slice A6 x.k c6)) (Tb+1) ⟨⟨A4,c4,A5,c5,A6,x.k,c6⟩,m,k⟩):=
     zhy ⟨⟨HOK.out.1.1.byt,HOK.out.1.2.1.byt,HOK.out.1.2.2,HOK.out.2.1.1,HOK.out.2.2⟩,ownsRow_setCell_below HO4e.out (by show Tb<_;omega) _,ownsRow_setCell_below HO5c.out (by show Tb<_;omega) _,ownsRow_setCell_below HO6.out (by show Tb<_;omega) _⟩
    clear ho1 hb1 Q5 HO4d HO5b HO4e HO5c HO6 z0 z1 z2 z3 z4 z5 z6 z7 z8
    obtain ⟨f0,f1,f2,f3,f4,f5,f6,f7⟩:=Q6.out.2.1.keepM
    obtain ⟨z0,z1,z2,z3,z4,z5,z6,z7,z8⟩:=Q6.out.2.2
    dsimp only at z1 z2 z8
    go_upto_region 9 with (fail)
    clear f0 f1 f2 f3 f4 f5 f6 f7 z0 z1 z2 z3 z4 z5 z6 z7 z8 Q6
    generalize w5.setCell ⟨Tb,7,none⟩ (.slice A6 x.k c6)=w6 at Q7 HW ⊢
    have hTB:=HR.out.2.2.2.2.2.2.2.2.2.2
    have hTw:B1+2≤Tb:=by have:=HR.out.2.2.2.1.1;rw [HTb.out] at this;omega
    have HR2:=zhy (HR.out.call (w':=w6) (HTb.out▸Q7.out.1))
    have HW2:=zhy (HW.out.based (Nat.le_succ_of_le hTw))
    have HPW2:=zhy (dj13_snoc HPW.out HR.out.2.2.2.2.2.2.2.2.2.1.1 HTb.out HW.out)
    clear HW HR HOK HPW
    have HR3:=zhy (HR2.out.call (new1 (a:=.cells (ce8 ⟨⟨A4,c4,A5,c5,A6,x.k,c6⟩,m,k⟩).toArray 50)))
    have HW3:=zhy (HW2.out.keep (new1 (a:=.cells (ce8 ⟨⟨A4,c4,A5,c5,A6,x.k,c6⟩,m,k⟩).toArray 50)))
    obtain ⟨z0,z1,z2,z3,z4,z5,z6,z7,z8⟩:=Q7.out.2.2
    dsimp only at z1 z2 z8
    obtain ⟨t0,t1,t2,t3,t4⟩:=HR2.out.2.2.2.2.1
    go_wp2_with (at_builtin;refine wpList_append_rm _ rfl (.tmp 42) (.tmp 44) rfl (B1+2) (.slice A3 j c3) j Zs rfl HR3.out.2.2.2.2.2.2.2.2.1 ⟨w6.heap.size,0,none⟩ ⟨⟨A4,c4,A5,c5,A6,x.k,c6⟩,m,k⟩ rfl (ce8_new w6 _ _) (by omega) (Nat.le_trans hTB (Nat.le_of_lt HR3.out.2.2.2.1.1)) ?_)
    intro A7 c7 w7 ho1 hg1 hb1 _
    have HR4:=zhy (HR3.out.grow hg1 hb1 HW3.out ho1 (by rw [zg7 h1];exact congrArg some HZE.out.symm))
    have HR5:=zhy (HR4.out.put)
    clear ho1 hg1 hb1 HR2 HR3 HW2 HW3 Q7 z0 z1 z2 z3 z4 z5 z6 z7 z8 t0 t1 t2 t3 t4
    obtain ⟨t0,t1,t2,t3,t4⟩:=HR4.out.2.2.2.2.1
    have f2:=HR4.out.2.2.2.1.2 2
    go_wp2_with fail
    go_roundw
    case rel=>exact ⟨j+1,Zs++[⟨⟨A4,c4,A5,c5,A6,x.k,c6⟩,m,k⟩],A7,c7,by omega,by go_num,HR5,HPW2⟩
    case measure=>simp [intOf];omega
   ·obtain rfl:j=d.s.length:=by omega
    have HF:=zhy (HR.out.finz HQ0.out HPW.out)
    obtain ⟨t0,t1,t2,t3,t4⟩:=HR.out.2.2.2.2.1
    obtain ⟨⟨e0,ef⟩,⟨e1,e2,e3,e4,e5⟩⟩:=HR.out.2.2.1
    have f0:=ef 0
    have f1:=ef 1
    have f2:=ef 2
    have f3:=ef 3
    clear HR ef
    go_wp2_with fail
    obtain ⟨⟨h1,h2,h3,h4⟩,h5⟩:=HF.out
    exact rcopy_end _ _ (B1+1) ⟨A1,c1,A2,c2,A3,c3,Zs⟩ d rfl h1 _ ⟨_,rfl,h2,h3,h4,h5⟩
 refine wp_region_L [10] (S:=fun w'=>Hid (Sx w w' [fF B1,fD B1 ⟨G,gc,P,pc,A,c,Z⟩ d,fMz (B1+1),fQm ⟨G,gc,P,pc,A,c,Z⟩ d])) (by kernel_rfl) (Hsx.drew S0) (fun hHeld=>?_)
 refine wpL_reckon (i:=0) (v:=?_) rfl (by kernel_rfl) (fun _ _ _ h=>h) (Or.inl ⟨by rfl,?_⟩) (Or.inr (by assumption)) ?_
 rotate_left 1
 ·intro w _;go_simp;try with_reducible rfl
 (try simp only [Act.put,zg1,zg2,zg3,zg4,zg5,zg6])
 refine wpL_take (i:=1) (v:=?_) rfl (by kernel_rfl) (fun _ _ _ h=>h) (Or.inl ⟨by rfl,?_⟩) (by assumption) ?_
 rotate_left 1
 ·intro w hSw;(try dsimp only at hSw);obtain ⟨-,-,⟨y0,y1,y2,y3,y4⟩,-⟩:=hSw.out;go_simp;try with_reducible rfl
 (try simp only [Act.put,zg1,zg2,zg3,zg4,zg5,zg6])
 refine wpL_reckon (i:=3) (v:=?_) rfl (by kernel_rfl) (fun _ _ _ h=>h) (Or.inl ⟨by rfl,?_⟩) (Or.inr (by assumption)) ?_
 rotate_left 1
 ·intro w _;go_simp;try with_reducible rfl
 (try simp only [Act.put,zg1,zg2,zg3,zg4,zg5,zg6])
 refine wpL_take (i:=4) (v:=?_) rfl (by kernel_rfl) (fun _ _ _ h=>h) (Or.inl ⟨by rfl,?_⟩) (by assumption) ?_
 rotate_left 1
 ·intro w hSw;(try dsimp only at hSw);obtain ⟨-,-,⟨y0,y1,y2,y3,y4⟩,-⟩:=hSw.out;go_simp;try with_reducible rfl
 (try simp only [Act.put,zg1,zg2,zg3,zg4,zg5,zg6])
 refine wpL_reckon (i:=6) (v:=?_) rfl (by kernel_rfl) (fun _ _ _ h=>h) (Or.inl ⟨by rfl,?_⟩) (Or.inr (by assumption)) ?_
 rotate_left 1
 ·intro w _;go_simp;try with_reducible rfl
 (try simp only [Act.put,zg1,zg2,zg3,zg4,zg5,zg6])
 refine wpL_take (i:=7) (v:=?_) rfl (by kernel_rfl) (fun _ _ _ h=>h) (Or.inl ⟨by rfl,?_⟩) (by assumption) ?_
 rotate_left 1
 ·intro w hSw;(try dsimp only at hSw);obtain ⟨-,-,⟨y0,y1,y2,y3,y4⟩,-⟩:=hSw.out;go_simp;try with_reducible rfl
 (try simp only [Act.put,zg1,zg2,zg3,zg4,zg5,zg6])
 refine wpL_ready (rs:=[2,9]) (by kernel_rfl) (by simp) ?_
 refine AllL.cons rfl (fun K hK=>?_) ?_
 ·skip
  go_simp
  refine (r3copy_any G gc d.g.length d.g _ hHeld.out.2.2.2.2.1.1 rfl (by omega)).mono ?_
  rintro r wb1 ⟨A1,c1,rfl,ho,hb⟩
  have HO1:=zhy (own_base ho (Nat.succ_le_of_lt hHeld.out.2.2.2.1.1.1))
  have HB1:=zhy hb
  clear ho hb
  go_wp2_with fail
  refine hK.out _ _ (Hsx.call HB1.out hHeld) (fun hHeld=>?_)
  clear hK K
  (try simp only [Act.put,zg1,zg2,zg3,zg4,zg5,zg6])
  refine wpL_ready (rs:=[5,9]) (by kernel_rfl) (by simp) ?_
  refine AllL.cons rfl (fun K hK=>?_) ?_
  ·skip
   go_simp
   refine (r3copy_any P pc d.p.length d.p _ hHeld.out.2.2.2.2.1.2.1 rfl (by omega)).mono ?_
   rintro r wb2 ⟨A2,c2,rfl,ho,hb⟩
   have HO2:=zhy (own_base ho (Nat.succ_le_of_lt hHeld.out.2.2.2.1.1.1))
   have HB2:=zhy hb
   clear ho hb
   replace HO1:=zhy (own_below HO1.out HB2.out (Nat.le_refl _))
   go_wp2_with fail
   refine hK.out _ _ (Hsx.call HB2.out hHeld) (fun hHeld=>?_)
   clear hK K
   (try simp only [Act.put,zg1,zg2,zg3,zg4,zg5,zg6])
   refine wpL_reckon (i:=8) (v:=?_) rfl (by kernel_rfl) (fun _ _ _ h=>h) (Or.inl ⟨by rfl,?_⟩) (Or.inr (by assumption)) ?_
   rotate_left 1
   ·intro w _;go_simp;try with_reducible rfl
   (try simp only [Act.put,zg1,zg2,zg3,zg4,zg5,zg6])
   refine wpL_ready (rs:=[9]) (by kernel_rfl) (by simp) ?_
   refine AllL.cons rfl (fun K hK=>?_) AllL.nil
   go_simp
   have HT:=zhy (T8.new wb2)
   have SA:=zhy (hHeld.out.call (new1 (w:=wb2) (a:=.cells #[.slice none 0 0,.slice none 0 0,.slice none 0 0,.int .i64 0] 25)))
   show K _ (wb2.alloc (.cells #[.slice none 0 0,.slice none 0 0,.slice none 0 0,.int .i64 0] 25))
   obtain ⟨T,hT⟩:∃T,wb2.heap.size=T:=⟨_,rfl⟩
   have hTB:B1+2≤T:=by rw [←hT];exact Nat.succ_le_of_lt hHeld.out.2.2.2.1.1.1
   have HT:Hid (T8 (wb2.alloc (.cells #[.slice none 0 0,.slice none 0 0,.slice none 0 0,.int .i64 0] 25)) T):=hT▸HT
   rw [hT]
   clear hT
   replace HO1:=zhy (own_below HO1.out (new1 (w:=wb2) (a:=.cells #[.slice none 0 0,.slice none 0 0,.slice none 0 0,.int .i64 0] 25)) (Nat.le_refl _))
   replace HO2:=zhy (own_below HO2.out (new1 (w:=wb2) (a:=.cells #[.slice none 0 0,.slice none 0 0,.slice none 0 0,.int .i64 0] 25)) (Nat.le_refl _))
   generalize wb2.alloc (.cells #[.slice none 0 0,.slice none 0 0,.slice none 0 0,.int .i64 0] 25)=wa2 at *
   refine hK.out _ _ (SA) (fun hHeld=>?_)
   clear hK K
   (try simp only [Act.put,zg1,zg2,zg3,zg4,zg5,zg6])
   refine wpL_ready (rs:=[10]) (by kernel_rfl) (by simp) ?_
   refine AllL.late rfl (by kernel_rfl) (fun K hK=>?_) AllL.nil
   have SZ:=hHeld
   obtain ⟨⟨h20,h21⟩,⟨h10,h11,h12,h13,h14⟩,-⟩:=HT.out
   have h30:=h21 0
   have h31:=h21 1
   have h32:=h21 2
   have h33:=h21 3
   clear h21
   go_simp
   refine hK.out _ _ ?_
   clear hK K
   (try simp only [Act.put,zg1,zg2,zg3,zg4,zg5,zg6])
   refine wpL_done (by kernel_rfl) ?_ _
   exact TAIL _ _ _ _ _ _ (rc8_start SZ.out HBQ.out HT.out hTB HO1.out HO2.out) _ _ _ _ _ _ _ _ _ _ _
  refine AllL.cons rfl (fun K hK=>?_) AllL.nil
  go_simp
  have HT:=zhy (T8.new wb1)
  have SA:=zhy (hHeld.out.call (new1 (w:=wb1) (a:=.cells #[.slice none 0 0,.slice none 0 0,.slice none 0 0,.int .i64 0] 25)))
  show K _ (wb1.alloc (.cells #[.slice none 0 0,.slice none 0 0,.slice none 0 0,.int .i64 0] 25))
  obtain ⟨T,hT⟩:∃T,wb1.heap.size=T:=⟨_,rfl⟩
  have hTB:B1+2≤T:=by rw [←hT];exact Nat.succ_le_of_lt hHeld.out.2.2.2.1.1.1
  have HT:Hid (T8 (wb1.alloc (.cells #[.slice none 0 0,.slice none 0 0,.slice none 0 0,.int .i64 0] 25)) T):=hT▸HT
  rw [hT]
  clear hT
  replace HO1:=zhy (own_below HO1.out (new1 (w:=wb1) (a:=.cells #[.slice none 0 0,.slice none 0 0,.slice none 0 0,.int .i64 0] 25)) (Nat.le_refl _))
  generalize wb1.alloc (.cells #[.slice none 0 0,.slice none 0 0,.slice none 0 0,.int .i64 0] 25)=wa1 at *
  refine hK.out _ _ (SA) (fun hHeld=>?_)
  clear hK K
  (try simp only [Act.put,zg1,zg2,zg3,zg4,zg5,zg6])
  refine wpL_ready (rs:=[5]) (by kernel_rfl) (by simp) ?_
  refine AllL.cons rfl (fun K hK=>?_) AllL.nil
  go_simp
  refine (r3copy_any P pc d.p.length d.p _ hHeld.out.2.2.2.2.1.2.1 rfl (by omega)).mono ?_
  rintro r wb2 ⟨A2,c2,rfl,ho,hb⟩
  have HO2:=zhy (own_base ho (Nat.succ_le_of_lt hHeld.out.2.2.2.1.1.1))
  have HB2:=zhy hb
  clear ho hb
  replace HT:=zhy (HT.out.keep HB2.out)
  replace HO1:=zhy (own_below HO1.out HB2.out (Nat.le_refl _))
  go_wp2_with fail
  refine hK.out _ _ (Hsx.call HB2.out hHeld) (fun hHeld=>?_)
  clear hK K
  (try simp only [Act.put,zg1,zg2,zg3,zg4,zg5,zg6])
  refine wpL_reckon (i:=8) (v:=?_) rfl (by kernel_rfl) (fun _ _ _ h=>h) (Or.inl ⟨by rfl,?_⟩) (Or.inr (by assumption)) ?_
  rotate_left 1
  ·intro w _;go_simp;try with_reducible rfl
  (try simp only [Act.put,zg1,zg2,zg3,zg4,zg5,zg6])
  refine wpL_ready (rs:=[10]) (by kernel_rfl) (by simp) ?_
  refine AllL.late rfl (by kernel_rfl) (fun K hK=>?_) AllL.nil
  have SZ:=hHeld
  obtain ⟨⟨h20,h21⟩,⟨h10,h11,h12,h13,h14⟩,-⟩:=HT.out
  have h30:=h21 0
  have h31:=h21 1
  have h32:=h21 2
  have h33:=h21 3
  clear h21
  go_simp
  refine hK.out _ _ ?_
  clear hK K
  (try simp only [Act.put,zg1,zg2,zg3,zg4,zg5,zg6])
  refine wpL_done (by kernel_rfl) ?_ _
  exact TAIL _ _ _ _ _ _ (rc8_start SZ.out HBQ.out HT.out hTB HO1.out HO2.out) _ _ _ _ _ _ _ _ _ _ _
 refine AllL.cons rfl (fun K hK=>?_) AllL.nil
 go_simp
 have HT:=zhy (T8.new w0.drew)
 have SA:=zhy (hHeld.out.call (new1 (w:=w0.drew) (a:=.cells #[.slice none 0 0,.slice none 0 0,.slice none 0 0,.int .i64 0] 25)))
 show K _ (w0.drew.alloc (.cells #[.slice none 0 0,.slice none 0 0,.slice none 0 0,.int .i64 0] 25))
 obtain ⟨T,hT⟩:∃T,w0.heap.size=T:=⟨_,rfl⟩
 have hTB:B1+2≤T:=by rw [←hT];exact Nat.succ_le_of_lt hHeld.out.2.2.2.1.1.1
 have HT:Hid (T8 (w0.drew.alloc (.cells #[.slice none 0 0,.slice none 0 0,.slice none 0 0,.int .i64 0] 25)) T):=hT▸HT
 rw [hT]
 clear hT
 generalize w0.drew.alloc (.cells #[.slice none 0 0,.slice none 0 0,.slice none 0 0,.int .i64 0] 25)=wa0 at *
 refine hK.out _ _ (SA) (fun hHeld=>?_)
 clear hK K
 (try simp only [Act.put,zg1,zg2,zg3,zg4,zg5,zg6])
 refine wpL_ready (rs:=[2]) (by kernel_rfl) (by simp) ?_
 refine AllL.cons rfl (fun K hK=>?_) AllL.nil
 go_simp
 refine (r3copy_any G gc d.g.length d.g _ hHeld.out.2.2.2.2.1.1 rfl (by omega)).mono ?_
 rintro r wb1 ⟨A1,c1,rfl,ho,hb⟩
 have HO1:=zhy (own_base ho (Nat.succ_le_of_lt hHeld.out.2.2.2.1.1.1))
 have HB1:=zhy hb
 clear ho hb
 replace HT:=zhy (HT.out.keep HB1.out)
 go_wp2_with fail
 refine hK.out _ _ (Hsx.call HB1.out hHeld) (fun hHeld=>?_)
 clear hK K
 (try simp only [Act.put,zg1,zg2,zg3,zg4,zg5,zg6])
 refine wpL_ready (rs:=[5]) (by kernel_rfl) (by simp) ?_
 refine AllL.cons rfl (fun K hK=>?_) AllL.nil
 go_simp
 refine (r3copy_any P pc d.p.length d.p _ hHeld.out.2.2.2.2.1.2.1 rfl (by omega)).mono ?_
 rintro r wb2 ⟨A2,c2,rfl,ho,hb⟩
 have HO2:=zhy (own_base ho (Nat.succ_le_of_lt hHeld.out.2.2.2.1.1.1))
 have HB2:=zhy hb
 clear ho hb
 replace HT:=zhy (HT.out.keep HB2.out)
 replace HO1:=zhy (own_below HO1.out HB2.out (Nat.le_refl _))
 go_wp2_with fail
 refine hK.out _ _ (Hsx.call HB2.out hHeld) (fun hHeld=>?_)
 clear hK K
 (try simp only [Act.put,zg1,zg2,zg3,zg4,zg5,zg6])
 refine wpL_reckon (i:=8) (v:=?_) rfl (by kernel_rfl) (fun _ _ _ h=>h) (Or.inl ⟨by rfl,?_⟩) (Or.inr (by assumption)) ?_
 rotate_left 1
 ·intro w _;go_simp;try with_reducible rfl
 (try simp only [Act.put,zg1,zg2,zg3,zg4,zg5,zg6])
 refine wpL_ready (rs:=[10]) (by kernel_rfl) (by simp) ?_
 refine AllL.late rfl (by kernel_rfl) (fun K hK=>?_) AllL.nil
 have SZ:=hHeld
 obtain ⟨⟨h20,h21⟩,⟨h10,h11,h12,h13,h14⟩,-⟩:=HT.out
 have h30:=h21 0
 have h31:=h21 1
 have h32:=h21 2
 have h33:=h21 3
 clear h21
 go_simp
 refine hK.out _ _ ?_
 clear hK K
 (try simp only [Act.put,zg1,zg2,zg3,zg4,zg5,zg6])
 refine wpL_done (by kernel_rfl) ?_ _
 exact TAIL _ _ _ _ _ _ (rc8_start SZ.out HBQ.out HT.out hTB HO1.out HO2.out) _ _ _ _ _ _ _ _ _ _ _
theorem r8copyz (y:Ma) (d:Md) (w:World) (hq:Hq w y d) (hg:qG d=false):Calls Tryz.prog 10 #[dv y d] w fun r w'=>∃t,r=.returned (dv t d)∧Hq w' t d∧Ow w' w.heap.size w'.heap.size t d∧Below w.heap.size w w'∧Oc13 w' w.heap.size t d:=by
 obtain ⟨h1,h2,h3,h4⟩:=qG_bd hq hg;exact r8copyz_v y d w hq (by omega) (by omega) (by omega) (fun z hz=>by have:=h4 z hz;omega)
theorem gr14_db {w w':World} {lo M:Nat} {t:Ma} {d:Md} (ho:Oc13 w lo t d) (hd:Db w M t d) (hM:Bk w M 25 4) (hg:w.grownBy w' (Value.slice t.A d.s.length t.c).ownBlock):w'.heap[M]?=w.heap[M]?:=by
 refine hg.block M hd.1 fun e=>?_;rcases ho.r.2 with ⟨hv,-⟩ | ⟨g,cap,cur,hv,hgl,hh,-⟩
 ·injection hv with hv;rw [hv] at e;cases e
 ·injection hv with hv;rw [hv] at e;simp [Value.ownBlock] at e;subst e;obtain ⟨cs,hc,-⟩:=hM;rw [hh] at hc;injection hc with hc;injection hc with _ hc;exact absurd hc (by decide)
theorem app14 {w w':World} {lo M:Nat} {t:Ma} {d:Md} {z:Me} {A':Option Addr} {c':Nat} (hq:Hq w t d) (ho:Oc13 w lo t d) (hd:Db w M t d) (hM:Bk w M 25 4) (hlo:lo≤M) (hz:∀W,Below lo w W→z.ok W)
  (hown:w'.ownsRow lo 50 8 (.slice A' (d.s.length+1) c') (d.s.length+1) (cem (t.Z++[z]))) (hg:w.grownBy w' (Value.slice t.A d.s.length t.c).ownBlock) (hb:Below lo w w') :
  Hq (w'.setCell ⟨M,2,none⟩ (.slice A' (d.s.length+1) c')) ⟨t.G,t.gc,t.P,t.pc,A',c',t.Z++[z]⟩ (ad14 d (ze z))∧Db (w'.setCell ⟨M,2,none⟩ (.slice A' (d.s.length+1) c')) M ⟨t.G,t.gc,t.P,t.pc,A',c',t.Z++[z]⟩ (ad14 d (ze z))∧Below lo w (w'.setCell ⟨M,2,none⟩ (.slice A' (d.s.length+1) c')):=by
 have hMb:=gr14_db ho hd hM hg
 obtain ⟨cs,hc,hk⟩:=hM
 have hM':Bk w' M 25 4:=⟨cs,hMb.trans hc,hk⟩
 have hbW:Below lo w (w'.setCell ⟨M,2,none⟩ (.slice A' (d.s.length+1) c')):=hb.setCell hlo _
 have kG:=own_tag (own_grown ho.g ho.r (by decide) hg) hM' (by decide) 2 (.slice A' (d.s.length+1) c')
 have kP:=own_tag (own_grown ho.p ho.r (by decide) hg) hM' (by decide) 2 (.slice A' (d.s.length+1) c')
 have kZ:=own_tag hown hM' (by decide) 2 (.slice A' (d.s.length+1) c')
 have kz:∀u∈t.Z,u.ok (w'.setCell ⟨M,2,none⟩ (.slice A' (d.s.length+1) c')):=fun u hu=>by
  have h1:=(ho.z u hu).grown ho.r hg;exact Wz.ok (lo:=lo) ⟨h1.1,own_tag h1.2.1 hM' (by decide) 2 _,own_tag h1.2.2.1 hM' (by decide) 2 _,own_tag h1.2.2.2 hM' (by decide) 2 _⟩
 have hl:(ad14 d (ze z)).s.length=d.s.length+1:=ad14_len
 obtain ⟨hm0,c0,c1,c2,c3⟩:=hd
 have ck:∀{i:Nat} {v:Value},w.cell? ⟨M,i,none⟩=some v→w'.cell? ⟨M,i,none⟩=some v:=fun hv=>(World.cell?_of_block (a:=⟨M,_,none⟩) hMb).trans hv
 have ne:∀{i:Nat} {v:Value},i≠2→w.cell? ⟨M,i,none⟩=some v→(w'.setCell ⟨M,2,none⟩ (.slice A' (d.s.length+1) c')).cell? ⟨M,i,none⟩=some v:=fun hi hv=>by
  rw [World.cell?_setCell_other _ _ _ _ (fun e=>hi (by injection e with _ e2;exact e2.symm))];exact ck hv
 refine ⟨⟨(Rv.of_own kG hq.1.1).1,(Rv.of_own kP hq.2.1.1).1,(Rm.of_own kZ fun u hu=>?_).1,?_,hq.2.2.2.2⟩,⟨?_,ne (by decide) c0,ne (by decide) c1,?_,ne (by decide) c3⟩,hbW⟩
 ·rcases List.mem_append.1 hu with hu | hu
  ·exact kz u hu
  ·rw [List.mem_singleton.1 hu]
   exact hz _ hbW
 ·show (t.Z++[z]).map ze=d.s++[ze z]
  rw [List.map_append,hq.2.2.2.1]
  rfl
 ·have:=hb.size
  simp [World.setCell]
  omega
 ·rw [hl]
  exact World.cell?_setCell_same _ _ _ (ck c2)
end Go.Proofs.YtnjgkkoiamiaaaaGreatDoor
