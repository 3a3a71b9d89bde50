import Derived.Test.YtnjgkkoiamiaaaaGreatDoorVta1
import Derived.Test.YtnjgkkoiamiaaaaGreatDoorVta16
import Derived.Test.YtnjgkkoiamiaaaaGreatDoorVta14
import Derived.Maps.Ext
set_option maxRecDepth 100000
set_option maxHeartbeats 16000000
set_option linter.unusedSimpArgs false
set_option linter.unusedVariables false
namespace Go.Proofs.YtnjgkkoiamiaaaaGreatDoor
open Go.RowKit
section
abbrev Gz:=Option Addr×Nat×List Int
def zbr (z:Gz):Value:=.slice z.1 z.2.2.length z.2.1
def zel (Z:List Gz):List Value:=Z.map zbr
structure zi3 (w:World) (base:Nat) (A:Option Addr) (c:Nat) (Z:List Gz):Prop where
 row:w.ownsRow base 59 1 (.slice A Z.length c) Z.length (zel Z)
 each:∀z∈Z,w.ownsRow base 3 1 (zbr z) z.2.2.length (ci9 z.2.2)
structure zu2 (w:World) (A:Option Addr) (c:Nat) (Z:List Gz):Prop where
 cap:Z.length≤c
 max:c≤maxLen
 cells:(A=none∧c=0)∨∃ad:Addr,A=some ad∧∀i z,Z[i]?=some z→w.cell? (ad.add i)=some (zbr z)
 each:∀z∈Z,Rn w z.1 z.2.1 z.2.2
section
variable {w w' : World} {A : Option Addr} {c base : Nat} {Z : List Gz}
theorem zi3.gw (h:zi3 w base A c Z):zu2 w A c Z:=by
 have hcell:=fun g=>h.row.cells (g:=g);have he:∀z∈Z,Rn w z.1 z.2.1 z.2.2:=fun z hz=>(Rn.of_own (h.each z hz)).1;rcases h.row.2 with ⟨hv,h0⟩ | ⟨g,cap,cur,hv,_,_,hcap,hm,_⟩
 ·injection hv with e1 e2 e3;exact ⟨by omega,by omega,.inl ⟨e1,e3⟩,he⟩
 ·injection hv with e1 e2 e3;subst e1 e3;exact ⟨hcap,hm,.inr ⟨_,rfl,fun i z hz=>hcell g rfl _ _ (by simp [zel,hz])⟩,he⟩
theorem zu2.keep (h:zu2 w A c Z) (hb:Below w.heap.size w w'):zu2 w' A c Z:=by
 refine ⟨h.cap,h.max,?_,fun z hz=>(h.each z hz).keep hb⟩;rcases h.cells with hn | ⟨ad,ha,hc⟩
 ·exact .inl hn
 ·exact .inr ⟨ad,ha,fun i z hz=>(hb.cell (qi (hc i z hz))).trans (hc i z hz)⟩
theorem zu2.at_ (h:zu2 w A c Z) {i:Nat} {z:Gz} (hi:Z[i]?=some z):∃ad:Addr,A=some ad∧w.cell? (ad.add i)=some (zbr z)∧Rn w z.1 z.2.1 z.2.2:=by
 have h1:=(zg8.1 hi).1;rcases h.cells with ⟨_,hc⟩ | ⟨ad,ha,hc⟩
 ·have:=h.cap;omega
 ·exact ⟨ad,ha,hc i z hi,h.each z (List.mem_of_getElem? hi)⟩
end
abbrev fGw (A:Option Addr) (c:Nat) (Z:List Gz):Fct:=⟨fun w=>zu2 w A c Z,fun _ _ h hb=>h.keep hb⟩
def qbs (d:Md):List (List Int):=(List.range d.s.length).map fun k=>qx ((List.range d.s.length).filter (e11 d k))
def qfn (w w':World) (d:Md) (e:Ending):Prop:=
 (zcm d=true∧e=.returned (.tuple #[.slice none 0 0,.int .i64 2])∧Below w.heap.size w w') ∨
 (zcm d=false∧∃A c Z,e=.returned (.tuple #[.slice A d.s.length c,.int .i64 0])∧zi3 w' w.heap.size A c Z∧Z.map (·.2.2)=qbs d∧Below w.heap.size w w')
theorem Tryz.infoS11:(Tryz.prog.info? 59).map (fun i=>(i.zero,i.size,i.bytes))=some (some (.slice none 0 0),1,24):=by kernel_rfl
theorem zw7 (n:Nat) (hn:n≤1000) (w:World):(Instr.makeSlice 89 (.int .i64 (n:Int)) (.int .i64 (n:Int))).run Tryz.prog w=.ok (.slice (some ⟨w.heap.size,0,none⟩) n n) (w.alloc (.cells (List.replicate n (.slice none 0 0)).toArray 59)):=by
 have hinfo:=Tryz.infoS11;rw [Option.map_eq_some_iff] at hinfo;obtain ⟨i,hi,hz⟩:=hinfo;simp only [Prod.mk.injEq] at hz;obtain ⟨hz0,hz1,hz2⟩:=hz;have hr:=run_make (P:=Tryz.prog) w 89 59 i (.slice none 0 0) Tryz.underlying89 hi hz0 .i64 .i64 n n (by omega) (Int.le_refl _) (by rw [hz2];omega) (by omega);rw [hr,hz1,Int.toNat_natCast,Nat.mul_one]
 have e:madeCells #[Value.slice none 0 0] n=(List.replicate n (Value.slice none 0 0)).toArray:=by
  rw [←toList_madeCells_one,Array.toArray_toList]
 rw [←e];rfl
theorem zop {d:Md} {i sn:Nat}:((List.range (i+1)).map fun k=>qx ((List.range sn).filter (e11 d k)))=((List.range i).map fun k=>qx ((List.range sn).filter (e11 d k)))++[qx ((List.range sn).filter (e11 d i))]:=by
 rw [List.range_succ,List.map_append];rfl
theorem zvh {Z:List Gz} {z:Gz} {n i:Nat} (hi:Z.length=i) (hn:i<n):(zel Z++List.replicate (n-i) (Value.slice none 0 0)).set i (zbr z)=zel (Z++[z])++List.replicate (n-(i+1)) (Value.slice none 0 0):=by
 rw [List.set_append,if_neg (by rw [zel,List.length_map];omega),zel,List.length_map,hi,Nat.sub_self,show n-i=(n-(i+1))+1 by omega,List.replicate_succ,List.set_cons_zero,zel,List.map_append];simp
theorem zm3 {w:World} {base e n g c:Nat} {xs:List Value} (h:w.ownsRow base e 1 (.slice (some ⟨g,0,none⟩) n c) n xs):Bk w g e c:=by
 rcases h.2 with ⟨h2,_⟩ | ⟨g',cap,cur,hv,hg,hh,h3,h4,h5,h6⟩
 ·cases h2
 ·injection hv with e1 e2 e3;injection e1 with e1;injection e1 with e1;subst e1 e3;exact ⟨cur,hh,by rw [h5,Nat.mul_one]⟩
theorem zsp (y:Ma) (d:Md) (w:World) (hq:Hq w y d) (bs:d.s.length≤1000) (bl:∀z∈d.s,z.2.length≤1000):Calls Tryz.prog 97 #[dv y d] w fun e w'=>qfn w w' d e:=by
 obtain ⟨G,gc,P,pc,AA,cc,Z⟩:=y;have hzl:=hq.zlen;dsimp only at hzl;obtain ⟨sn,hsn⟩:∃sn,d.s.length=sn:=⟨_,rfl⟩;have HSN:=zhy hsn;rw [hsn] at bs;have S0:=zhy ((((Sx.start w).add (fQm ⟨G,gc,P,pc,AA,cc,Z⟩ d) hq).mkD ⟨G,gc,P,pc,AA,cc,Z⟩ d));have HZL:=zhy (hzl.trans hsn);have HBL:=zhy bl;obtain ⟨B,hB⟩:∃B,w.heap.size=B:=⟨_,rfl⟩;have HBB:=zhy hB;rw [hB] at S0;have hmk:=zw7 sn bs;clear hq hzl hsn bl;go_enter Tryz.func97,Tryz.ntmps97;go_upto_region 1 with (fail);change Code.wp _ _ _ _ (w.alloc (zn ⟨G,gc,P,pc,AA,cc,Z⟩ d));generalize w.alloc (zn ⟨G,gc,P,pc,AA,cc,Z⟩ d)=w1 at S0 ⊢;have S1:=S0;clear S0 hB;obtain ⟨-,⟨d0,d1,d2,d3,d4⟩,-⟩:=S1.o;dsimp only at d1 d2 d3;rw [HSN.o] at d3;go_wp2_with fail;clear d0 d1 d2 d3 d4;obtain ⟨g,hg⟩:∃g,w1.heap.size=g:=⟨_,rfl⟩;have HG1:=zhy hg;rw [hg]
 have HO0:Hid ((w1.alloc (.cells (List.replicate sn (Value.slice none 0 0)).toArray 59)).ownsRow w1.heap.size 59 1 (.slice (some ⟨g,0,none⟩) sn sn) sn (zel []++List.replicate (sn-0) (.slice none 0 0))):=zhy (by
  have:=World.ownsRow_lit (base:=w1.heap.size) (size:=1) (e:=59) w1 (List.replicate sn (Value.slice none 0 0)).toArray sn (Nat.le_refl _) (by unfold maxLen;omega) (by simp);rw [←hg];simpa [zel] using this)
 go_loopw [16] (fun iv wr=>∃(i:Nat) (R:List Gz),i≤sn∧iv=.int .i64 i∧Hid (R.length=i)∧Hid (wr.ownsRow w1.heap.size 59 1 (.slice (some ⟨g,0,none⟩) sn sn) sn (zel R++List.replicate (sn-i) (.slice none 0 0)))∧Hid (∀z∈R,wr.ownsRow w1.heap.size 3 1 (zbr z) z.2.2.length (ci9 z.2.2))∧Hid (R.map (·.2.2)=(List.range i).map fun k=>qx ((List.range sn).filter (e11 d k)))∧Hid (∀k,k<i→za3 (zl d k) sn=false)∧Hid (Below w1.heap.size w1 wr)) (fun iv _=>sn-(intOf iv).toNat)
 case atStart=>exact ⟨0,[],by omega,rfl,zhy rfl,HO0,zhy (fun z hz=>by cases hz),zhy rfl,zhy (fun k hk=>by omega),zhy (qh)⟩
 case round =>
  clear HO0;obtain ⟨i,R,hi,rfl,HRL,HO,HE,HM,HBD,HB⟩:=hrel;rename World=>wr;have SR:=zhy (S1.o.call HB.o);by_cases h1:i<sn
  ·obtain ⟨ad8,hA8,hat,hok⟩:=SR.o.2.2.1.2.2.1.at_ (i:=i) (by rw [HZL.o];exact h1);have hme:=SR.o.2.2.1.zat (i:=i) (by rw [HZL.o];exact h1) (by rw [HSN.o];exact h1);dsimp only at hA8 hat hok hme;obtain ⟨zz,hzz⟩:∃zz,Z[i]'(by rw [HZL.o];exact h1)=zz:=⟨_,rfl⟩;rw [hzz] at hat hok hme;obtain ⟨⟨XA,xc,XB,xd,XD,xk,xe⟩,h,L⟩:=zz;subst hA8;have HCO:Hid (zl d i=L):=zhy (by rw [zl,zg7 (by rw [HSN.o];exact h1),hme];rfl)
   have HLL:Hid (L.length≤1000):=zhy (HBL.o (h,L) (by
    have h2:=hme;dsimp only at h2;rw [←h2];exact List.getElem_mem _))
   obtain ⟨hH,hRi,hxk⟩:=hok;dsimp only at hH hRi hxk;obtain ⟨g0,g1,g2,g3,g4,g5,g6,g7⟩:=hat;dsimp only at g0 g1 g2 g3 g4 g5 g6 g7;obtain ⟨m,hm⟩:∃m,L.length=m:=⟨_,rfl⟩;obtain rfl:m=xk:=by rw [←hm];exact hxk
   have HLm:=zhy hm;have hm9:m≤1000:=by rw [←hm];exact HLL.o
   clear hzz hme hxk hm;go_upto_region 5 with (fail);have S2:=zhy ((SR.o.add (fT XD xe L) hRi).mkM ⟨XA,xc,XB,xd,XD,m,xe⟩ h);have HBA:Hid (Below wr.heap.size wr (wr.alloc (zbk ⟨XA,xc,XB,xd,XD,m,xe⟩ h))):=zhy qh;obtain ⟨D,hD⟩:∃D,wr.heap.size=D:=⟨_,rfl⟩;have HDD:=zhy hD;rw [hD] at S2 ⊢;change Code.wp _ _ _ _ (wr.alloc (zbk ⟨XA,xc,XB,xd,XD,m,xe⟩ h));generalize wr.alloc (zbk ⟨XA,xc,XB,xd,XD,m,xe⟩ h)=w2 at S2 HBA ⊢;clear g0 g1 g2 g3 g4 g5 g6 g7 hD hH hRi SR;obtain ⟨-,⟨m0,m1,m2,m3,m4,m5,m6,m7,m8⟩,-⟩:=S2.o;dsimp only at m8;have HO2:=zhy (qb HO.o HBA.o (Nat.le_refl _));have HE2:Hid (∀z∈R,w2.ownsRow w1.heap.size 3 1 (zbr z) z.2.2.length (ci9 z.2.2)):=zhy fun z hz=>qb (HE.o z hz) HBA.o (Nat.le_refl _);have HB2:Hid (Below w1.heap.size w1 w2):=zhy (qc HB.o HBA.o);have HCA:=zhy (zgn XD xe m sn L w2 S2.o.2.2.1 HLm.o hm9 bs);obtain ⟨T,hT⟩:∃T,zm8 L sn=T:=⟨_,rfl⟩;have HT:=zhy hT;rw [hT] at HCA;clear HO HE HB HBA hT;go_wp2_with fail;refine HCA.o.mono ?_;rintro r w3 ⟨A3,c3,rfl,ho,hb⟩;have HB3:=zhy (qc HB2.o hb);have HO3:=zhy (qb HO2.o hb (Nat.le_refl _));have HE3:Hid (∀z∈R,w3.ownsRow w1.heap.size 3 1 (zbr z) z.2.2.length (ci9 z.2.2)):=zhy fun z hz=>qb (HE2.o z hz) hb (Nat.le_refl _);have HN3:=zhy (qg ho HB2.o.size);clear ho hb HO2 HE2 HB2 HCA m0 m1 m2 m3 m4 m5 m6 m7 m8 S2;cases hbd:za3 L sn with
   | true =>
    have hTE:T=([],2):=by rw [←HT.o,zm8,if_pos hbd]
    subst hTE
    have HBA:Hid (zcm d=true):=zhy (by
     cases h:zcm d with
     | true=>rfl
     | false =>
      have:=zfm h (k:=i) (by rw [HSN.o];exact h1);rw [HCO.o,HSN.o,hbd] at this;cases this)
    have HBF:=zhy (S1.o.1.trans (HB3.o.mono S1.o.1.size));clear hbd;go_wp2_with fail;go_ret2;exact .inl ⟨HBA.o,rfl,HBF.o⟩
   | false =>
    have hTE:T=(qx ((List.range sn).filter (e11 d i)),0):=by
     rw [←HT.o,zm8,if_neg (by rw [hbd];simp)];congr 2;refine List.filter_congr fun j _=>?_;rw [e11,HCO.o]
    subst hTE
    have HBD2:Hid (∀k,k<i+1→za3 (zl d k) sn=false):=zhy (fun k hk=>by
     by_cases hki:k=i
     ·rw [hki,HCO.o];exact hbd
     ·exact HBD.o k (by omega))
    obtain ⟨K,hK⟩:∃K,qx ((List.range sn).filter (e11 d i))=K:=⟨_,rfl⟩;have HK:=zhy hK;rw [hK] at HN3 ⊢;obtain ⟨kn,hkn⟩:∃kn,K.length=kn:=⟨_,rfl⟩;have HKN:=zhy hkn;dsimp only at HN3 ⊢;rw [hkn] at HN3 ⊢;have hci:∃u,w3.cell? ⟨g,i,none⟩=some u:=⟨_,(HO3.o.cellAt i (by omega)).trans (zg7 (by rw [List.length_append,zel,List.length_map,HRL.o,List.length_replicate];omega))⟩;obtain ⟨u,hci⟩:=hci;have hcf:=HO3.o.frozenAt i;have HBK:=zhy (zm3 HO3.o)
    have HO4:Hid ((w3.setCell ⟨g,i,none⟩ (.slice A3 kn c3)).ownsRow w1.heap.size 59 1 (.slice (some ⟨g,0,none⟩) sn sn) sn (zel (R++[(A3,c3,K)])++List.replicate (sn-(i+1)) (.slice none 0 0))):=zhy (by
     have:=(HO3.o.stored i (.slice A3 kn c3)).1;rw [←zvh HRL.o h1,zbr,HKN.o];exact this)
    have HE4:Hid (∀z∈R++[(A3,c3,K)],(w3.setCell ⟨g,i,none⟩ (.slice A3 kn c3)).ownsRow w1.heap.size 3 1 (zbr z) z.2.2.length (ci9 z.2.2)):=zhy (by
     intro z hz;rcases List.mem_append.1 hz with hz | hz
     ·exact zt (HE3.o z hz) HBK.o (by decide) i _
     ·rw [List.mem_singleton.1 hz,zbr];dsimp only;rw [HKN.o];exact zt HN3.o HBK.o (by decide) i _)
    have HM4:Hid ((R++[(A3,c3,K)]).map (·.2.2)=(List.range (i+1)).map fun k=>qx ((List.range sn).filter (e11 d k))):=zhy (by rw [zop,List.map_append,HM.o,HK.o];rfl);have HL4:Hid ((R++[(A3,c3,K)]).length=i+1):=zhy (by rw [List.length_append,HRL.o];rfl);have HB4:=zhy (HB3.o.setCell (p:=⟨g,i,none⟩) (by rw [HG1.o];exact Nat.le_refl _) (.slice A3 kn c3));clear hbd hK hkn HO3 HE3 HN3 HB3 HBK;go_wp2_with fail;go_roundw
    case rel=>exact ⟨i+1,_,by omega,by go_num,HL4,HO4,HE4,HM4,HBD2,HB4⟩
    case measure=>simp [intOf];omega
  ·obtain rfl:sn=i:=by omega
   have HBF:=zhy (S1.o.1.trans (HB.o.mono S1.o.1.size));have HBA:Hid (zcm d=false):=zhy (zhz fun k hk=>by rw [HSN.o];exact HBD.o k (by rw [←HSN.o];exact hk))
   have HGO:Hid (zi3 wr w.heap.size (some ⟨g,0,none⟩) sn R):=zhy ⟨by
    have:=qg HO.o S1.o.1.size;rw [HRL.o];simpa using this,fun z hz=>qg (HE.o z hz) S1.o.1.size⟩
   have HGR:Hid (R.map (·.2.2)=qbs d):=zhy (by rw [HM.o,qbs,HSN.o]);go_wp2_with fail;go_ret2;exact .inr ⟨HBA.o,_,_,R,by rw [HSN.o];rfl,HGO.o,HGR.o,HBF.o⟩
def zfo (e:Nat→Nat→Bool) (n:Nat):List (List Int):=(List.range n).map fun k=>qx ((List.range n).filter (e k))
structure zms (w:World) (base g n:Nat) (Y:List Gz):Prop where
 len:Y.length=n
 row:w.ownsRow base 59 1 (.slice (some ⟨g,0,none⟩) n n) n (zel Y)
 each:∀z∈Y,w.ownsRow base 3 1 (zbr z) z.2.2.length (ci9 z.2.2)
 dj:∀(i j:Nat) (y z:Gz),i≠j→Y[i]?=some y→Y[j]?=some z→∀b,(zbr y).ownBlock=some b→(zbr z).ownBlock≠some b
section
variable {w w' : World} {base g n : Nat} {Y : List Gz}
theorem zms.keep (h:zms w base g n Y) (hb:Below w.heap.size w w'):zms w' base g n Y:=⟨h.len,qb h.row hb (Nat.le_refl _),fun z hz=>qb (h.each z hz) hb (Nat.le_refl _),h.dj⟩
theorem zms.put (h:zms w base g n Y) {t g' c' m:Nat} {y:Gz} {x:Int} (ht:Y[t]?=some y) (hm:y.2.2.length=m) {o:Obj}
  (ho:w'.ownsRow base 3 1 (.slice (some ⟨g',0,none⟩) (m+1) c') (m+1) (ci9 (y.2.2++[x]))) (hg:(w.alloc o).grownBy w' (zbr y).ownBlock) (hl:(zbr y).ownBlock=some g'∨g'=(w.alloc o).heap.size) :
  zms (w'.setCell ⟨g,t,none⟩ (.slice (some ⟨g',0,none⟩) (m+1) c')) base g n (Y.set t (some ⟨g',0,none⟩,c',y.2.2++[x])):=by
 have htl:=(zg8.1 ht).1;have hy:=(h.each y (List.mem_of_getElem? ht)).alloc o;have hrow:=zak (h.row.alloc o) hy (by decide) hg;have hbk:=zm3 hrow;have hzv:zbr (some ⟨g',0,none⟩,c',y.2.2++[x])=.slice (some ⟨g',0,none⟩) (m+1) c':=by rw [zbr,List.length_append,hm];rfl
 refine ⟨by rw [List.length_set,h.len],?_,fun z hz=>?_,fun i j a b hij ha hb k hk=>?_⟩
 ·have:=(hrow.stored t (.slice (some ⟨g',0,none⟩) (m+1) c')).1;rw [zel,List.map_set,hzv];exact this
 ·obtain ⟨j,hj⟩:=List.getElem?_of_mem hz;by_cases hjt:j=t
  ·subst hjt;rw [List.getElem?_set_self htl] at hj;injection hj with hj;subst hj;rw [hzv,List.length_append,hm];exact zt ho hbk (by decide) j _
  ·rw [List.getElem?_set_ne (fun e=>hjt e.symm)] at hj;refine zt (((h.each z (List.mem_of_getElem? hj)).alloc o).kept hg ?_) hbk (by decide) t _;cases hv:(zbr z).ownBlock with
   | none=>exact .inl rfl
   | some b =>
    refine .inr fun e=>?_;exact h.dj j t z y hjt hj ht b hv e.symm
 ·have hlt:∀(q:Nat) (z:Gz),Y[q]?=some z→∀b,(zbr z).ownBlock=some b→b<(w.alloc o).heap.size:=fun q z hz b hb=>(((h.each z (List.mem_of_getElem? hz)).alloc o).lt b hb).2;by_cases hit:i=t
  ·subst hit;rw [List.getElem?_set_self htl] at ha;injection ha with ha;subst ha;rw [List.getElem?_set_ne hij] at hb;rw [hzv] at hk;injection hk with hk;dsimp only at hk;subst hk;intro e;rcases hl with hl | hl
   ·exact h.dj i j y b hij ht hb g' hl e
   ·have:=hlt j b hb g' e;omega
  ·rw [List.getElem?_set_ne (fun e=>hit e.symm)] at ha;by_cases hjt:j=t
   ·subst hjt;rw [List.getElem?_set_self htl] at hb;injection hb with hb;subst hb;rw [hzv];intro e;injection e with e;dsimp only at e;subst e;rcases hl with hl | hl
    ·exact h.dj i j a y hij ha ht g' hk hl
    ·have:=hlt i a ha g' hk;omega
   ·rw [List.getElem?_set_ne (fun e=>hjt e.symm)] at hb;exact h.dj i j a b hij ha hb k hk
theorem zms.go (h:zms w base g n Y):zi3 w base (some ⟨g,0,none⟩) n Y:=⟨by rw [h.len];exact h.row,h.each⟩
end
def zfy (e:Nat→Nat→Bool) (n k i t:Nat):List Int:=qx ((List.range k).filter fun j=>e j t)++if (((List.range n).filter (e k)).take i).contains t then [(k:Int)] else []
theorem zbw (e:Nat→Nat→Bool) (n k t:Nat):zfy e n k 0 t=qx ((List.range k).filter fun j=>e j t):=by simp [zfy]
theorem zi0 {e:Nat→Nat→Bool} {n k t i:Nat} (hi:((List.range n).filter (e k)).length≤i) (ht:t<n):zfy e n k i t=zfy e n (k+1) 0 t:=by
 rw [zbw,zf7,zfy,List.take_of_length_le hi];congr 1
 have:((List.range n).filter (e k)).contains t=e k t:=by
  cases he:e k t with
  | true=>rw [List.contains_iff_mem,List.mem_filter,List.mem_range];exact ⟨ht,he⟩
  | false=>rw [←Bool.not_eq_true,List.contains_iff_mem,List.mem_filter,he];simp
 rw [this]
theorem zcv {e:Nat→Nat→Bool} {n k t i x:Nat} (hx:((List.range n).filter (e k))[i]?=some x):zfy e n k (i+1) t=if t=x then zfy e n k i t++[(k:Int)] else zfy e n k i t:=by
 have hl:=(zg8.1 hx).1;have hp:=zgw (e k) n;rw [zfy,zfy,List.take_add_one,hx]
 have hnot:(((List.range n).filter (e k)).take i).contains x=false:=by
  rw [←Bool.not_eq_true,List.contains_iff_mem];intro hm;obtain ⟨j,hj⟩:=List.getElem?_of_mem hm;have hj1:=(zg8.1 hj).1;rw [List.length_take] at hj1;rw [List.getElem?_take_of_lt (by omega)] at hj;have:=List.pairwise_iff_getElem.1 hp j i (by omega) hl (by omega);rw [(zg8.1 hx).2,(zg8.1 hj).2] at this;omega
 have hap:((((List.range n).filter (e k)).take i)++(some x).toList).contains t=((((List.range n).filter (e k)).take i).contains t||t==x):=by
  rw [Bool.eq_iff_iff,List.contains_iff_mem,List.mem_append,Bool.or_eq_true,List.contains_iff_mem];simp
 rw [hap];by_cases htx:t=x
 ·subst htx;rw [if_pos rfl,hnot];simp
 ·have:(t==x)=false:=by simpa using htx
  rw [if_neg htx,this,Bool.or_false]
theorem zhe {l:List Nat} {i x:Nat} (h:l[i]?=some x):(qx l)[i]?=some (x:Int):=by rw [qx,List.getElem?_map,h];rfl
theorem zcb {Y:List Gz} {n t:Nat} {f:Nat→List Int} (hl:Y.length=n) (h:Y.map (·.2.2)=(List.range n).map f) (ht:t<n):∃y,Y[t]?=some y∧y.2.2=f t:=by
 refine ⟨Y[t],zg7 (by omega),?_⟩;have:=congrArg (·[t]?) h;simp only [List.getElem?_map,List.getElem?_range ht,zg7 (show t<Y.length by omega),Option.map_some] at this;injection this
theorem zjr {Y:List Gz} {n t:Nat} {f f':Nat→List Int} {z:Gz} (h:Y.map (·.2.2)=(List.range n).map f) (ht:t<n) (hz:z.2.2=f' t) (he:∀j,j≠t→f' j=f j):(Y.set t z).map (·.2.2)=(List.range n).map f':=by
 rw [List.map_set,h,hz];apply List.ext_getElem?;intro j;by_cases hj:j=t
 ·subst hj;rw [List.getElem?_set_self (by simpa using ht),List.getElem?_map,List.getElem?_range ht];rfl
 ·rw [List.getElem?_set_ne (fun e=>hj e.symm),List.getElem?_map,List.getElem?_map];by_cases hjn:j<n
  ·rw [List.getElem?_range hjn,Option.map_some,Option.map_some,he j hj]
  ·rw [List.getElem?_eq_none (by simpa using hjn)];rfl
theorem zpa (A:Option Addr) (c n:Nat) (Z:List Gz) (e:Nat→Nat→Bool) (w:World) (hg:zu2 w A c Z) (hz:Z.map (·.2.2)=zfo e n) (hn:n≤1000) :
  Calls Tryz.prog 162 #[.slice A n c] w fun r w'=>∃A' c' Y,r=.returned (.slice A' n c')∧zi3 w' w.heap.size A' c' Y∧Y.length=n∧Y.map (·.2.2)=zfo (fun t k=>e k t) n∧Below w.heap.size w w':=by
 have hzl:Z.length=n:=by have:=congrArg List.length hz;simpa [zfo] using this
 have HG:=zhy hg;have HZ:=zhy hz;have HZL:=zhy hzl;have hmk:=zw7 n hn;clear hg hz hzl;obtain ⟨g,hg⟩:∃g,w.heap.size=g:=⟨_,rfl⟩;have HG1:=zhy hg
 have HC0:Hid (zms (w.alloc (.cells (List.replicate n (Value.slice none 0 0)).toArray 59)) w.heap.size g n (List.replicate n (none,0,[]))):=zhy ⟨by simp,by
   have:=World.ownsRow_lit (base:=w.heap.size) (size:=1) (e:=59) w (List.replicate n (Value.slice none 0 0)).toArray n (Nat.le_refl _) (by unfold maxLen;omega) (by simp);rw [←hg]
   simpa [zel,zbr] using this,fun z hz=>by
   rw [List.mem_replicate] at hz;rw [hz.2]
   exact World.ownsRow_nil _ _ _ _,fun i j y z _ hy hz b hb=>by
   have:=List.mem_of_getElem? hy;rw [List.mem_replicate] at this;rw [this.2] at hb;cases hb⟩
 have HM0:Hid ((List.replicate n ((none,0,[]):Gz)).map (·.2.2)=(List.range n).map fun t=>zfy e n 0 0 t):=zhy (by
  rw [List.map_replicate];apply List.ext_getElem?;intro j;by_cases hj:j<n
  ·rw [List.getElem?_replicate_of_lt hj,List.getElem?_map,List.getElem?_range hj,Option.map_some,zbw];rfl
  ·rw [List.getElem?_eq_none (by simpa using hj),List.getElem?_eq_none (by simpa using hj)])
 go_enter Tryz.func162,Tryz.ntmps162;go_wp2_with fail;clear hg;go_loopw [13] (fun iv wr=>∃(k:Nat) (Y:List Gz),k≤n∧iv=.int .i64 k∧Hid (zms wr w.heap.size g n Y)∧Hid (Y.map (·.2.2)=(List.range n).map fun t=>zfy e n k 0 t)∧Hid (Below w.heap.size w wr)) (fun iv _=>n-(intOf iv).toNat)
 case atStart=>exact ⟨0,_,by omega,rfl,HC0,HM0,zhy qh⟩
 case round =>
  clear HC0 HM0;obtain ⟨k,Y,hk,rfl,HC,HM,HB⟩:=hrel;rename World=>wr;by_cases h1:k<n
  ·obtain ⟨⟨Ak,ck,K⟩,hzk⟩:∃z,Z[k]?=some z:=⟨_,zg7 (by rw [HZL.o];exact h1)⟩
   have hKE:K=qx ((List.range n).filter (e k)):=by
    obtain ⟨y,hy,hy2⟩:=zcb HZL.o HZ.o h1;rw [hzk] at hy;injection hy with hy;rw [←hy] at hy2;exact hy2
   obtain ⟨ad,hA,y0,hrk⟩:=(HG.o.keep HB.o).at_ hzk;subst hA;rw [zbr] at y0;dsimp only at y0 hrk;obtain ⟨kn,hkn⟩:∃kn,K.length=kn:=⟨_,rfl⟩;rw [hkn] at y0;have hkn9:kn≤n:=by rw [←hkn,hKE];exact zal _ _
   have HKN:=zhy hkn;have HKE:=zhy hKE;have HZK:=zhy hzk;clear hrk hzk hkn hKE;go_wp2_with fail;clear y0;go_loopw [20] (fun jv wq=>∃(i:Nat) (Y:List Gz),i≤kn∧jv=.int .i64 i∧Hid (zms wq w.heap.size g n Y)∧Hid (Y.map (·.2.2)=(List.range n).map fun t=>zfy e n k i t)∧Hid (Below w.heap.size w wq)) (fun jv _=>kn-(intOf jv).toNat)
   case atStart=>exact ⟨0,Y,by omega,rfl,HC,HM,HB⟩
   case round =>
    clear HC HM HB;obtain ⟨i,Y2,hi,rfl,HC,HM,HB⟩:=hrel;rename World=>wq;by_cases h2:i<kn
    ·obtain ⟨t,ht⟩:∃t,((List.range n).filter (e k))[i]?=some t:=⟨_,zg7 (by have:=HKN.o;rw [HKE.o,qx,List.length_map] at this;omega)⟩;have htn:t<n:=by have:=List.mem_of_getElem? ht;rw [List.mem_filter,List.mem_range] at this;exact this.1
     have hrk:Rn wq Ak ck K:=(HG.o.keep HB.o).each _ (List.mem_of_getElem? HZK.o);obtain ⟨bd,hAk,z0⟩:=hrk.at_ (show K[i]?=some (t:Int) by rw [HKE.o];exact zhe ht);subst hAk;obtain ⟨⟨At,ct,Lt⟩,hyt,hyl⟩:=zcb HC.o.len HM.o htn;dsimp only at hyl;obtain ⟨m,hm⟩:∃m,Lt.length=m:=⟨_,rfl⟩;have x0:=(HC.o.row.cellAt t (by rw [Nat.mul_one];exact htn)).trans (show (zel Y2)[t]?=some (zbr (At,ct,Lt)) by rw [zel,List.getElem?_map,hyt];rfl);rw [zbr] at x0;dsimp only at x0;rw [hm] at x0;have xf:=HC.o.row.frozenAt t;have HT:=zhy ht;have HYT:=zhy hyt;have HYL:=zhy hyl;have HMM:=zhy hm
     have hm9:m≤2000:=by
      rw [←hm,hyl,zfy,List.length_append];have:=zal (fun j=>e j t) k;rw [List.length_map] at this ⊢;split<;>simp<;>omega
     have HOT:Hid ((wq.alloc (.cells #[.int .i64 (k:Int)] 3)).ownsRow w.heap.size 3 1 (.slice At m ct) m (ci9 Lt)):=zhy (by
      have:=(HC.o.each _ (List.mem_of_getElem? hyt)).alloc (.cells #[.int .i64 (k:Int)] 3);rw [zbr] at this;dsimp only at this;rwa [hm] at this)
     have hc1:(wq.alloc (.cells #[.int .i64 (k:Int)] 3)).cell? ((⟨wq.heap.size,0,none⟩:Addr).add 0)=some (.int .i64 (k:Int)):=by simp [go_sem,Addr.add]
     have HGV:Hid (zbr (At,ct,Lt)=.slice At m ct):=zhy (by rw [zbr,HMM.o]);have HHN:=zhy (show (zel Y2).length=n by rw [zel,List.length_map,HC.o.len]);clear hrk ht hyt hyl hm;go_wp2_with (at_builtin;refine zaq rfl (.tmp 29) (.tmp 31) 59 Tryz.underlying59 rfl w.heap.size _ m Lt rfl HOT.o _ (k:Int) rfl hc1 (by omega) (by have:=HB.o.size;simp;omega) ?_;intro g' c' w9 ho9 hg9 hl9;have hrow9:=zak (HC.o.row.alloc _) HOT.o (by decide) hg9;have x9:=(hrow9.cellAt t (by omega)).trans (zg7 (by rw [HHN.o];omega));have xf9:=hrow9.frozenAt t;have HC9:=zhy (HC.o.put HYT.o HMM.o (w':=w9) (x:=(k:Int)) (g':=g') (c':=c') ho9 (by rw [HGV.o];exact hg9) (by rw [HGV.o];exact hl9));have HB9:=zhy (((HB.o.alloc HB.o.size (.cells #[.int .i64 (k:Int)] 3)).grown hg9 (by have:=HB.o.size;rw [qn];omega) (fun q hq=>(HOT.o.lt q hq).1)).setCell (p:=⟨g,t,none⟩) (by rw [HG1.o];exact Nat.le_refl _) (.slice (some ⟨g',0,none⟩) (m+1) c'));clear ho9 hg9 hl9 hrow9);have HM9:Hid ((Y2.set t (some ⟨g',0,none⟩,c',Lt++[(k:Int)])).map (·.2.2)=(List.range n).map fun t=>zfy e n k (i+1) t):=zhy (zjr HM.o htn (by dsimp only;rw [zcv HT.o,if_pos rfl,HYL.o]) fun j hj=>by rw [zcv HT.o,if_neg hj]);go_roundw
     case rel=>exact ⟨i+1,_,by omega,by go_num,HC9,HM9,HB9⟩
     case measure=>simp [intOf];omega
    ·obtain rfl:kn=i:=by omega
     have HM2:Hid (Y2.map (·.2.2)=(List.range n).map fun t=>zfy e n (k+1) 0 t):=zhy (by
      rw [HM.o];refine List.map_congr_left fun t ht=>?_;exact zi0 (by have:=HKN.o;rw [HKE.o,qx,List.length_map] at this;omega) (List.mem_range.1 ht))
     go_wp2_with fail;go_roundw
     case rel=>exact ⟨k+1,Y2,by omega,by go_num,HC,HM2,HB⟩
     case measure=>simp [intOf];omega
  ·obtain rfl:n=k:=by omega
   have HMM:Hid (Y.map (·.2.2)=zfo (fun t k=>e k t) n):=zhy (by
    rw [HM.o,zfo];refine List.map_congr_left fun t _=>?_;rw [zbw])
   go_wp2_with fail;go_ret;exact ⟨_,_,Y,rfl,HC.o.go,HC.o.len,HMM.o,HB.o⟩
open Go.RowKit Go.Maps
def zc4 (t:Nat):Lit:=.int .i64 (t:Int)
def zhq (n:Nat) (p:Nat→Bool):Nat:=((List.range n).filter p).length
theorem zca {n:Nat} {p q:Nat→Bool} (h:∀t,t<n→p t=q t):zhq n p=zhq n q:=by
 rw [zhq,zhq];congr 1;exact List.filter_congr fun t ht=>h t (List.mem_range.1 ht)
theorem zes:∀{n t:Nat} {p q:Nat→Bool},t<n→p t=false→q t=true→(∀j,j≠t→q j=p j)→zhq n q=zhq n p+1
 | 0,t,p,q,ht,_,_,_=>by omega
 | n+1,t,p,q,ht,hp,hq,h=>by
  have e:∀r:Nat→Bool,zhq (n+1) r=zhq n r+(if r n then 1 else 0):=fun r=>by
   rw [zhq,List.range_succ,List.filter_append,List.length_append,←zhq];congr 1;cases hr:r n<;>simp [hr]
  rw [e,e];by_cases htn:t=n
  ·subst htn;rw [hp,hq,zca (q:=p) fun j hj=>h j (by omega)];simp
  ·rw [zes (t:=t) (by omega) hp hq h,h n (fun e=>htn e.symm)];omega
theorem zdd {n:Nat} {p:Nat→Bool}:zhq n p=0↔∀t,t<n→p t=false:=by
 rw [zhq,List.length_eq_zero_iff,List.filter_eq_nil_iff];simp
structure zkb {H:Type} (D:DataW H) (n:Nat) (p:Nat→Bool):Prop where
 tidy:Tidy D
 has:∀t,has D (zc4 t)=p t
 lt:∀t,p t=true→t<n
 size:size D=zhq n p
theorem zhb (t:Nat):WideAt.IsKeyLit (zc4 t):=by simp [zc4,WideAt.IsKeyLit]
theorem zhk {s t:Nat} (h:s≠t):zc4 s≠zc4 t:=by
 intro e;simp only [zc4,Lit.int.injEq,true_and] at e;omega
section
variable {H : Type} {D : DataW H} {n t : Nat} {p q : Nat → Bool}
theorem zkb.nil (n:Nat):zkb (.map []:DataW H) n fun _=>false:=⟨tidy_empty,fun _=>rfl,fun _ h=>(by cases h),by rw [zdd.2 fun _ _=>rfl];rfl⟩
theorem zkb.put (h:zkb D n p) (ht:t<n) (d:DataW H) (hq:q t=true) (hj:∀j,j≠t→q j=p j):zkb (D.put (zc4 t) d) n q:=by
 refine ⟨h.tidy.put (zhb t) d,fun j=>?_,fun j hjq=>?_,?_⟩
 ·by_cases e:j=t
  ·subst e;rw [has_put_same h.tidy.isMap (zhb j),hq]
  ·rw [has_put_other (zhk e),h.has,hj j e]
 ·by_cases e:j=t
  ·rw [e];exact ht
  ·rw [hj j e] at hjq;exact h.lt j hjq
 ·rw [size_put h.tidy,h.has,h.size];cases hp:p t with
  | true =>
   rw [if_pos rfl]
   exact zca fun j _=>by
    by_cases e:j=t
    ·rw [e,hp,hq]
    ·rw [hj j e]
  | false =>
   rw [if_neg (by simp)];exact (zes ht hp hq hj).symm
theorem zkb.del (h:zkb D n p) (hp:p t=true) (hq:q t=false) (hj:∀j,j≠t→q j=p j):zkb (D.del (zc4 t)) n q:=by
 refine ⟨h.tidy.del _,fun j=>?_,fun j hjq=>?_,?_⟩
 ·by_cases e:j=t
  ·subst e;rw [has_del_same,hq]
  ·rw [has_del_other (zhk e),h.has,hj j e]
 ·by_cases e:j=t
  ·rw [e,hq] at hjq;cases hjq
  ·rw [hj j e] at hjq;exact h.lt j hjq
 ·have h1:=size_del (k:=zc4 t) h.tidy;rw [h.has,hp,h.size] at h1;have h2:=zes (h.lt t hp) hq hp fun j e=>(hj j e).symm;simp at h1;omega
end
def zon (w:World) (b:Nat) (D:DataW Unit):Prop:=w.ownsMap Tryz.prog 3 (plainElem Tryz.prog 3) b (size D) D
theorem zon.of {w:World} {b n:Nat} {D:DataW Unit} (h:w.ownsMap Tryz.prog 3 (plainElem Tryz.prog 3) b n D):zon w b D:=by
 obtain ⟨es,clock,hb,F,hs,rfl⟩:=h;exact ⟨es,clock,hb,F,by rw [Maps.size,length_sorted];simp,rfl⟩
def zol (D:DataW Unit) (p:Nat→Bool) (f:Nat→Int):Prop:=∀t,p t=true→D.atKey (zc4 t) (.lit (.int .i64 0))=.lit (.int .i64 (f t))
theorem zol.put {D:DataW Unit} {n t:Nat} {p q:Nat→Bool} {f f':Nat→Int} {v:Int} (h:zol D p f) (hm:zkb D n p) (hv:f' t=v) (hq:∀j,j≠t→q j=true→p j=true∧f' j=f j):zol (D.put (zc4 t) (.lit (.int .i64 v))) q f':=by
 intro j hj;by_cases e:j=t
 ·subst e;rw [atKey_put_same hm.tidy.isMap (zhb j),hv]
 ·obtain ⟨h1,h2⟩:=hq j e hj;rw [atKey_put_other (zhk e),h j h1,h2]
theorem zol.del {D:DataW Unit} {t:Nat} {p q:Nat→Bool} {f:Nat→Int} (h:zol D p f) (hq:∀j,q j=true→j≠t∧p j=true):zol (D.del (zc4 t)) q f:=by
 intro j hj;obtain ⟨h1,h2⟩:=hq j hj;rw [atKey_del_other (zhk h1),h j h2]
theorem znc:Keyed Tryz.prog 3:=int_keyed Tryz.underlying3
theorem zw2 (w:World):(zeroValue 3).run Tryz.prog w=.ok (.int .i64 0) w:=by kernel_rfl
theorem qc4 {x:Int} (h0:-1000000≤x) (h1:x≤1000000):(Lit.int .i64 x).wf=true:=WalkArith.wf_i64 (by omega)
theorem znq {t:Nat} (h:t≤1000000):keyOf Tryz.prog 3 (.int .i64 (t:Int))=some (zc4 t):=keyOf_int_mk Tryz.underlying3 (qc4 (by omega) (by omega))
def zdg (e:Nat→Nat→Bool) (n:Nat) (o:List Nat) (t:Nat):Nat:=zhq n fun j=>e t j&&!o.contains j
section
variable {e : Nat → Nat → Bool} {n t k : Nat} {o : List Nat}
theorem zlo (ht:t∉o):zih e n o t=(zdg e n o t==0):=by
 rw [Bool.eq_iff_iff,zbo,beq_iff_eq,zdg,zdd];simp only [Bool.and_eq_false_iff,Bool.not_eq_false',List.contains_iff_mem];constructor
 ·rintro ⟨_,h⟩ j hj;cases he:e t j with
  | false=>exact .inl rfl
  | true=>exact .inr (h j hj he)
 ·intro h;exact ⟨ht,fun j hj he=>(h j hj).resolve_left (by rw [he];simp)⟩
theorem zay (o:List Nat) (k j:Nat):(o++[k]).contains j=(o.contains j||j==k):=by
 rw [Bool.eq_iff_iff,List.contains_iff_mem,List.mem_append,Bool.or_eq_true,List.contains_iff_mem];simp
theorem zj8 (hk:k<n) (hko:k∉o):zdg e n o t=zdg e n (o++[k]) t+if e t k=true then 1 else 0:=by
 have hkc:o.contains k=false:=by rw [←Bool.not_eq_true,List.contains_iff_mem];exact hko
 rw [zdg,zdg];cases he:e t k with
 | true =>
  rw [if_pos rfl];refine zes hk ?_ ?_ fun j hj=>?_
  ·rw [zay];simp
  ·rw [he,hkc];rfl
  ·rw [zay,show (j==k)=false by simpa using hj,Bool.or_false]
 | false =>
  rw [if_neg (by simp),Nat.add_zero];refine zca fun j _=>?_;by_cases hj:j=k
  ·subst hj;rw [he];rfl
  ·rw [zay,show (j==k)=false by simpa using hj,Bool.or_false]
theorem zyt:zdg e n o t≤n:=by
 rw [zdg,zhq];have:=List.length_filter_le (fun j=>e t j&&!o.contains j) (List.range n);rwa [List.length_range] at this
end
open Go.RowKit Go.Maps
theorem zh0:∀{l k:List Int},l.Nodup→(∀x∈l,x∈k)→l.length≤k.length
 | [],_,_,_=>Nat.zero_le _
 | x::l,k,hl,h=>by
  obtain ⟨h1,h2⟩:=List.nodup_cons.1 hl;have hx:=h x (List.mem_cons_self ..);have h3:=zh0 (k:=k.erase x) h2 fun y hy=>(List.mem_erase_of_ne (fun e=>h1 (by rw [←e];exact hy))).2 (h y (List.mem_cons_of_mem _ hy));rw [List.length_erase_of_mem hx] at h3;have:=List.length_pos_of_mem hx;rw [List.length_cons];omega
structure ze0 (w:World) (N B:Nat) (A:Option Addr) (c:Nat) (l:List Int) (S:Nat→Prop):Prop where
 hb:zc2 w N B A c l
 nd:l.Nodup
 hp:zgs l l.length
 mem:∀x,x∈l↔∃t,S t∧x=(t:Int)
section
variable {w w' : World} {N B c n : Nat} {A : Option Addr} {l : List Int} {S : Nat → Prop}
theorem ze0.len (h:ze0 w N B A c l S) (hS:∀t,S t→t<n):l.length≤n:=by
 have:=zh0 (k:=qx (List.range n)) h.nd fun x hx=>by
  obtain ⟨t,ht,rfl⟩:=(h.mem x).1 hx;rw [qx,List.mem_map];exact ⟨t,List.mem_range.2 (hS t ht),rfl⟩
 rwa [qx,List.length_map,List.length_range] at this
theorem ze0.keep (h:ze0 w N B A c l S) (hb:Below w.heap.size w w'):ze0 w' N B A c l S:=⟨⟨(hb.block _ h.hb.box.lt).trans h.hb.box,qb h.hb.own hb (Nat.le_refl _)⟩,h.nd,h.hp,h.mem⟩
theorem ze0.grown (h:ze0 w N B A c l S) {row:Option Nat} (hg:w.grownBy w' row) (h1:some B≠row) (h2:∀b,zie A b→some b≠row):ze0 w' N B A c l S:=by
 refine ⟨⟨h.hb.box.kept hg h1,h.hb.own.kept hg ?_⟩,h.nd,h.hp,h.mem⟩;cases hv:(Value.slice A l.length c).ownBlock with
 | none=>exact .inl rfl
 | some b=>exact .inr (h2 b (zbp hv.symm))
theorem ze0.congr (h:ze0 w N B A c l S) {S':Nat→Prop} (hS:∀t,S t↔S' t):ze0 w N B A c l S':=⟨h.hb,h.nd,h.hp,fun x=>by rw [h.mem];exact ⟨fun ⟨t,a,b⟩=>⟨t,(hS t).1 a,b⟩,fun ⟨t,a,b⟩=>⟨t,(hS t).2 a,b⟩⟩⟩
theorem ze0.xr (h:ze0 w N B A c l S):∀b,zie A b→N≤b∧b<w.heap.size:=fun b ⟨ad,hA,hb⟩=>by
 subst hA;exact h.hb.own.lt b (by rw [hb];rfl)
theorem ze0.push (h:ze0 w N B A c l S) {l':List Int} {g' c' t:Nat} (hb:zc2 w' N B (some ⟨g',0,none⟩) c' l') (hp:l'.Perm (l++[(t:Int)])) (hh:zgs l' (l.length+1)) (ht:¬S t):ze0 w' N B (some ⟨g',0,none⟩) c' l' (fun j=>S j∨j=t):=by
 refine ⟨hb,hp.nodup_iff.2 ?_,by rw [hp.length_eq,List.length_append];exact hh,fun x=>?_⟩
 ·rw [List.nodup_append];refine ⟨h.nd,by simp,fun a ha b hb e=>?_⟩;rw [List.mem_singleton] at hb;obtain ⟨j,hj,e2⟩:=(h.mem a).1 ha;have:j=t:=by omega
  exact ht (this▸hj)
 ·rw [hp.mem_iff,List.mem_append,h.mem,List.mem_singleton];constructor
  ·rintro (⟨j,hj,e⟩ | e)
   ·exact ⟨j,.inl hj,e⟩
   ·exact ⟨t,.inr rfl,e⟩
  ·rintro ⟨j,hj | hj,e⟩
   ·exact .inl ⟨j,hj,e⟩
   ·exact .inr (by rw [e,hj])
theorem ze0.pop (h:ze0 w N B A c l S) {l':List Int} {x:Int} (hb:zc2 w' N B A c l') (hp:(x::l').Perm l) (hh:zgs l' l'.length):ze0 w' N B A c l' (fun j=>S j∧(j:Int)≠x):=by
 have hnd:=hp.nodup_iff.2 h.nd;obtain ⟨h1,h2⟩:=List.nodup_cons.1 hnd;refine ⟨hb,h2,hh,fun y=>?_⟩;have hm:=hp.mem_iff (a:=y);rw [h.mem,List.mem_cons] at hm;constructor
 ·intro hy;obtain ⟨j,hj,e⟩:=hm.1 (.inr hy);exact ⟨j,⟨hj,fun e2=>h1 (by rw [←e2,←e];exact hy)⟩,e⟩
 ·rintro ⟨j,⟨hj,hne⟩,e⟩;exact (hm.2 ⟨j,hj,e⟩).resolve_left (by omega)
end
structure zei (M B N1 N2 n:Nat) (w3 w:World) (o:List Nat) (p:Nat→Bool) (f:Nat→Int) (S:Nat→Prop) (D:DataW Unit) (A:Option Addr) (c:Nat) (l:List Int) (Ao:Option Addr) (co no:Nat):Prop where
 mo:zon w M D
 mf:zkb D n p
 at_:zol D p f
 hx:ze0 w (M+2) B A c l S
 ord:w.ownsRow N2 3 1 (.slice Ao no co) no (ci9 (qx o))
 dj:∀b,zie A b→¬zie Ao b
 fr:zv (fun j=>M≤j∧j<N1) w3 w
 xb:∀b,zie A b→b<N1∨N2≤b
 sz:N2≤w.heap.size
structure qbl (M B N1 N2:Nat) (w3:World):Prop where
 b:M+1=B
 n1:M+2≤N1
 n2:N1≤N2
 w:w3.heap.size=N2
theorem zsw {A:Option Addr} {n c b:Nat} (h:zie A b):(Value.slice A n c).ownBlock=some b:=by
 obtain ⟨ad,rfl,e⟩:=h;rw [e];rfl
section
variable {M B N1 N2 n : Nat} {w3 w w' : World} {o : List Nat} {p : Nat → Bool} {f : Nat → Int} {S : Nat → Prop} {D : DataW Unit} {A : Option Addr} {c : Nat} {l : List Int} {Ao : Option Addr} {co no : Nat}
theorem zei.keep (h:zei M B N1 N2 n w3 w o p f S D A c l Ao co no) (hb:Below w.heap.size w w'):zei M B N1 N2 n w3 w' o p f S D A c l Ao co no:=
 ⟨(zv.of_below (X:=fun _=>False) hb (fun j h1 h2=>by omega)).map h.mo id,h.mf,h.at_,h.hx.keep hb,qb h.ord hb (Nat.le_refl _),h.dj,h.fr.trans (zv.of_below (X:=fun _=>False) hb (fun j h1 h2=>by omega)) (fun _ _ h=>h.elim),h.xb,Nat.le_trans h.sz hb.size⟩
theorem zei.congr (h:zei M B N1 N2 n w3 w o p f S D A c l Ao co no) {f':Nat→Int} {S':Nat→Prop} (hf:∀t,p t=true→f t=f' t) (hS:∀t,S t↔S' t):zei M B N1 N2 n w3 w o p f' S' D A c l Ao co no:=
 ⟨h.mo,h.mf,fun t ht=>by rw [h.at_ t ht,hf t ht],h.hx.congr hS,h.ord,h.dj,h.fr,h.xb,h.sz⟩
theorem zei.turn (K:qbl M B N1 N2 w3) (h:zei M B N1 N2 n w3 w o p f S D A c l Ao co no) (hg:w.grownBy w' (some M)) {D':DataW Unit} {p':Nat→Bool} {f':Nat→Int} (hm:zon w' M D') (hf:zkb D' n p') (ha:zol D' p' f'):zei M B N1 N2 n w3 w' o p' f' S D' A c l Ao co no:=by
 obtain ⟨k1,k2,k3,k4⟩:=K;refine ⟨hm,hf,ha,h.hx.grown hg (by simp;omega) (fun b hb=>by have:=(h.hx.xr b hb).1;simp;omega),h.ord.kept hg ?_,h.dj,h.fr.trans (zv.of_grown (X:=fun j=>j=M) hg (fun j e=>by injection e)) (fun j _ e=>by omega),h.xb,Nat.le_trans h.sz hg.size⟩;cases hv:(Value.slice Ao no co).ownBlock with
 | none=>exact .inl rfl
 | some b=>exact .inr fun e=>by injection e with e;have:=(h.ord.lt b hv).1;omega
theorem zei.pop {g:Nat} {y:Int} (K:qbl M B N1 N2 w3) (h:zei M B N1 N2 n w3 w o p f S D (some ⟨g,0,none⟩) c l Ao co no) {l':List Int} (hb:zc2 w' (M+2) B (some ⟨g,0,none⟩) c l') (hp:(y::l').Perm l) (hh:zgs l' l'.length) (hf:zv (fun k=>k=B∨k=g) w w') :
  zei M B N1 N2 n w3 w' o p f (fun j=>S j∧(j:Int)≠y) D (some ⟨g,0,none⟩) c l' Ao co no:=by
 obtain ⟨k1,k2,k3,k4⟩:=K;have hx:=h.hx.xr g ⟨_,rfl,rfl⟩;have hxb:=h.xb g ⟨_,rfl,rfl⟩;refine ⟨hf.map h.mo (by omega),h.mf,h.at_,h.hx.pop hb hp hh,hf.own h.ord (fun b hb2 e=>?_),h.dj,h.fr.trans hf (fun j hj e=>by omega),h.xb,Nat.le_trans h.sz hf.size⟩;have:=(h.ord.lt b hb2).1;rcases e with e | e
 ·omega
 ·subst e;exact h.dj b ⟨_,rfl,rfl⟩ (zbp hb2.symm)
theorem zei.push {g' c' t:Nat} (K:qbl M B N1 N2 w3) (h:zei M B N1 N2 n w3 w o p f S D A c l Ao co no) {l':List Int} (hb:zc2 w' (M+2) B (some ⟨g',0,none⟩) c' l') (hp:l'.Perm (l++[(t:Int)])) (hh:zgs l' (l.length+1)) (ht:¬S t) (hf:zv (fun k=>k=B∨zie A k) w w') (hg:zie A g'∨w.heap.size≤g') :
  zei M B N1 N2 n w3 w' o p f (fun j=>S j∨j=t) D (some ⟨g',0,none⟩) c' l' Ao co no:=by
 obtain ⟨k1,k2,k3,k4⟩:=K;refine ⟨hf.map h.mo (fun e=>?_),h.mf,h.at_,h.hx.push hb hp hh ht,hf.own h.ord (fun b hb2 e=>?_),fun b hb2 ha=>?_,h.fr.trans hf (fun j hj e=>?_),fun b hb2=>?_,Nat.le_trans h.sz hf.size⟩
 ·rcases e with e | e
  ·omega
  ·have:=(h.hx.xr _ e).1;omega
 ·have:=(h.ord.lt b hb2).1;rcases e with e | e
  ·omega
  ·exact h.dj b e (zbp hb2.symm)
 ·obtain ⟨ad,e1,e2⟩:=hb2;injection e1 with e1;subst e1;dsimp only at e2;subst e2;rcases hg with hg | hg
  ·exact h.dj _ hg ha
  ·have:=(h.ord.lt _ (zsw ha)).2;omega
 ·rcases e with e | e
  ·omega
  ·have:=(h.hx.xr _ e).1;have:=h.xb _ e;omega
 ·obtain ⟨ad,e1,e2⟩:=hb2;injection e1 with e1;subst e1;dsimp only at e2;subst e2;rcases hg with hg | hg
  ·exact h.xb _ hg
  ·have:=h.sz;omega
theorem zei.app {g' c' t:Nat} (K:qbl M B N1 N2 w3) (h:zei M B N1 N2 n w3 w o p f S D A c l Ao co no) {ob:Obj} (ho:w'.ownsRow N2 3 1 (.slice (some ⟨g',0,none⟩) (no+1) c') (no+1) (ci9 (qx o++[(t:Int)]))) (hg:(w.alloc ob).grownBy w' (Value.slice Ao no co).ownBlock) (hl:(Value.slice Ao no co).ownBlock=some g'∨g'=(w.alloc ob).heap.size) :
  zei M B N1 N2 n w3 w' (o++[t]) p f S D A c l (some ⟨g',0,none⟩) c' (no+1):=by
 have h':=h.keep (qh (a:=ob));obtain ⟨k1,k2,k3,k4⟩:=K;have hlt:∀b,(Value.slice Ao no co).ownBlock=some b→N2≤b:=fun b hb=>(h.ord.lt b hb).1;have hfr:zv (fun j=>(Value.slice Ao no co).ownBlock=some j) (w.alloc ob) w':=zv.of_grown hg fun j e=>e.symm;refine ⟨hfr.map h'.mo (fun e=>by have:=hlt _ e;omega),h.mf,h.at_,h'.hx.grown hg (fun e=>by have:=hlt _ e.symm;omega) (fun b hb e=>h.dj b hb (zbp e)),by rw [qx,List.map_append];exact ho,fun b hb ha=>?_,h'.fr.trans hfr (fun j hj e=>by have:=hlt _ e;omega),h.xb,Nat.le_trans h'.sz hg.size⟩;obtain ⟨ad,e1,e2⟩:=ha;injection e1 with e1;subst e1;dsimp only at e2;subst e2;rcases hl with hl | hl
 ·exact h.dj b hb (zbp hl.symm)
 ·have:=(h'.hx.xr b hb).2;omega
end
end
end Go.Proofs.YtnjgkkoiamiaaaaGreatDoor
