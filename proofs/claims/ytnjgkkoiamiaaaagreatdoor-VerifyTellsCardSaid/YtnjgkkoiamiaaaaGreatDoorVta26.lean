import Derived.Test.YtnjgkkoiamiaaaaGreatDoorVta1
import Derived.Conc.LoneCalls
import Derived.Conc.LoneSelectN
import Derived.Test.YtnjgkkoiamiaaaaGreatDoorVta19
import Derived.Test.YtnjgkkoiamiaaaaGreatDoorVta25
import Derived.Test.YtnjgkkoiamiaaaaGreatDoorVta10
import Derived.Laws.CopyOwn
import Derived.Deep.RegionLaw
import Derived.Test.YtnjgkkoiamiaaaaGreatDoorVta14
import Derived.Test.YtnjgkkoiamiaaaaGreatDoorVta2
import Derived.Test.YtnjgkkoiamiaaaaGreatDoorVta4
import Derived.OwnWalk
import Derived.Laws.OwnMore
import Derived.Test.YtnjgkkoiamiaaaaGreatDoorVta3
import Derived.Recover
import Derived.Laws.Pointers
set_option maxRecDepth 100000
set_option maxHeartbeats 16000000
set_option linter.unusedSimpArgs false
set_option linter.unusedVariables false
namespace Go.Proofs.YtnjgkkoiamiaaaaGreatDoor
open Go.RowKit
section
open Go.RowKit Go.Conc
theorem zjj {L:List Ins} {i:Nat} {x:Ins} (h:L[i]?=some x):zgi (L.take (i+1))=(zgi (L.take i)||x.1==5):=by
 unfold zgi;rw [List.take_add_one,h,List.any_append];simp
theorem zl8 {L:List Ins} {i:Nat} {x:Ins} (h:L[i]?=some x) (hx:(x.1==5)=true):zgi L=true:=by
 unfold zgi;rw [List.any_eq_true];exact ⟨x,List.mem_of_getElem? h,hx⟩
theorem zqm (o a b:Int) (w:World):Calls Tryz.prog 100 #[.agg #[.int .u8 o,.int .i64 a,.int .i64 b]] w fun r w'=>r=.returned (.bool (o==5))∧Below w.heap.size w w':=by
 go_enter Tryz.func100,Tryz.ntmps100;go_wp2_with fail;go_ret;exact ⟨rfl,qh⟩
theorem zvq (A:Option Addr) (c m:Nat) (L:List Ins) (w:World) (hr:Ri w A c L) (hm:L.length=m):Calls Tryz.prog 165 #[.slice A m c,.func (.func 100) #[] #[]] w fun r w'=>∃i:Int,r=.returned (.int .i64 i)∧decide (0≤i)=zgi L∧Below w.heap.size w w':=by
 have HR:=zhy hr;have HM:=zhy hm;have hm9:m≤9223372036854775807:=by have:=hr.len;omega
 clear hr hm;go_enter Tryz.func165,Tryz.ntmps165;go_wp2_with fail;go_loopw [8] (fun iv wr=>∃i:Nat,i≤m∧iv=.int .i64 i∧Hid (zgi (L.take i)=false)∧Hid (Below w.heap.size w wr)) (fun iv _=>m-(intOf iv).toNat)
 case atStart=>exact ⟨0,by omega,rfl,zhy (by simp [zgi]),zhy (Below.refl _ _)⟩
 case round =>
  obtain ⟨i,hi,rfl,HI,HB⟩:=hrel;rename World=>wr;by_cases h1:i<m
  ·obtain ⟨⟨o,a,z⟩,hx⟩:∃x,L[i]?=some x:=⟨_,zg7 (by rw [HM.o];exact h1)⟩;obtain ⟨al,hA,k1,k2,k3⟩:=(HR.o.keep HB.o).at9 hx;subst hA;have HX:=zhy hx;have HC:=zhy (zqm o a z wr);obtain ⟨v,hv⟩:∃v,(o==5)=v:=⟨_,rfl⟩;have HV:=zhy hv;rw [hv] at HC;clear hx hv;go_wp2_with fail;refine HC.o.mono ?_;rintro r w2 ⟨rfl,hb⟩;have HB2:=zhy (qc HB.o hb);clear hb HC k1 k2 k3;cases v with
   | true =>
    have HS:=zhy (zl8 HX.o HV.o);go_wp2_with fail;go_ret;exact ⟨_,rfl,by rw [HS.o];simp,HB2.o⟩
   | false =>
    have HI2:Hid (zgi (L.take (i+1))=false):=zhy (by rw [zjj HX.o,HI.o,HV.o];rfl);go_wp2_with fail;go_roundw
    case rel=>exact ⟨i+1,by omega,by go_num,HI2,HB2⟩
    case measure=>simp [intOf];omega
  ·obtain rfl:m=i:=by omega
   have HS:Hid (zgi L=false):=zhy (by
    have:=HI.o;rwa [List.take_of_length_le (by rw [HM.o];exact Nat.le_refl _)] at this)
   go_wp2_with fail;go_ret;exact ⟨_,rfl,by rw [HS.o];rfl,HB.o⟩
theorem zkw (A:Option Addr) (c m:Nat) (L:List Ins) (w:World) (hr:Ri w A c L) (hm:L.length=m):Calls Tryz.prog 99 #[.slice A m c,.func (.func 100) #[] #[]] w fun r w'=>r=.returned (.bool (zgi L))∧Below w.heap.size w w':=by
 have HC:=zhy (zvq A c m L w hr hm);clear hr hm;go_enter Tryz.func99,Tryz.ntmps99;go_wp2_with fail;refine HC.o.mono ?_;rintro r w2 ⟨i,rfl,hi,hb⟩;have HI:=zhy hi;have HB:=zhy hb;clear hi hb HC;go_wp2_with fail;go_ret;exact ⟨by rw [←HI.o];rfl,HB.o⟩
theorem zuo (A:Option Addr) (c m:Nat) (L:List Ins) (w:World) (hr:Ri w A c L) (hm:L.length=m):Calls Tryz.prog 54 #[.slice A m c] w fun r w'=>r=.returned (.bool (zgi L))∧Below w.heap.size w w':=by
 have HC:=zhy (zkw A c m L w hr hm);clear hr hm;go_enter Tryz.func54,Tryz.ntmps54;go_wp2_with fail;refine HC.o.mono ?_;rintro r w2 ⟨rfl,hb⟩;have HB:=zhy hb;clear hb HC;go_wp2_with fail;go_ret;exact ⟨rfl,HB.o⟩
def qfk (w w':World) (T:Bool×Int) (r:Ending):Prop:=r=.returned (.tuple #[.bool T.1,.int .i64 T.2])∧Below w.heap.size w w'
theorem zhr {w:World} {base e n c:Nat} {A:Option Addr} {xs:List Value} (h:w.ownsRow base e 1 (.slice A n c) n xs):∀ad:Addr,A=some ad→base≤ad.block:=by
 intro ad ha;subst ha;rcases h.2 with ⟨hv,-⟩ | ⟨g,cap,cur,hv,hg,-⟩
 ·cases hv
 ·injection hv with e1 e2 e3;injection e1 with e1;subst e1;exact hg
theorem qb9 (n:Nat) (hn:n≤1000) (w:World):(Instr.makeSlice 88 (.int .i64 (n:Int)) (.int .i64 (n:Int))).run Tryz.prog w=.ok (.slice (some ⟨w.heap.size,0,none⟩) n n) (w.alloc (.cells (List.replicate n (.slice none 0 0)).toArray 59)):=by
 have hinfo:=Tryz.infoS11;rw [Option.map_eq_some_iff] at hinfo;obtain ⟨i,hi,hz⟩:=hinfo;simp only [Prod.mk.injEq] at hz;obtain ⟨hz0,hz1,hz2⟩:=hz;have hr:=run_make (P:=Tryz.prog) w 88 59 i (.slice none 0 0) Tryz.underlying88 hi hz0 .i64 .i64 n n (by omega) (Int.le_refl _) (by rw [hz2];omega) (by omega);rw [hr,hz1,Int.toNat_natCast,Nat.mul_one]
 have e:madeCells #[Value.slice none 0 0] n=(List.replicate n (Value.slice none 0 0)).toArray:=by
  rw [←toList_madeCells_one,Array.toArray_toList]
 rw [←e];rfl
def qfx (w w':World) (d:Md) (r:Ending):Prop:=
 (zcm d=true∧r=.returned (.tuple #[.slice none 0 0,.int .i64 2])∧Below w.heap.size w w') ∨
 (zcm d=false∧∃A c Y,r=.returned (.tuple #[.slice A d.s.length c,.int .i64 0])∧zi3 w' w.heap.size A c Y∧Y.length=d.s.length∧Y.map (·.2.2)=zfo (fun t k=>e11 d k t) d.s.length∧Below w.heap.size w w')
def qci (Y:List Gz) (A:Option Addr):Prop:=∀z∈Y,∀b,(zbr z).ownBlock=some b→∀ad:Addr,A=some ad→ad.block≠b
theorem qci.put {Y:List Gz} {A:Option Addr} (h:qci Y A) {t g':Nat} {y z:Gz} (ht:Y[t]?=some y) (hz:(zbr z).ownBlock=some g') {w:World} (hl:(zbr y).ownBlock=some g'∨g'=w.heap.size) (ha:∀ad:Addr,A=some ad→ad.block<w.heap.size):qci (Y.set t z) A:=by
 intro x hx b hb ad hA;rcases List.mem_or_eq_of_mem_set hx with hx | hx
 ·exact h x hx b hb ad hA
 ·subst hx;rw [hz] at hb;injection hb with hb;subst hb;rcases hl with hl | hl
  ·exact h y (List.mem_of_getElem? ht) g' hl ad hA
  ·have:=ha ad hA;omega
theorem zqa {w w':World} {A:Option Addr} {c:Nat} {K:List Int} (hr:Rn w A c K) {o:Obj} {row:Option Nat} (hg:(w.alloc o).grownBy w' row) (h1:∀b,row=some b→∀ad:Addr,A=some ad→ad.block≠b) {g t:Nat} (h2:∀ad:Addr,A=some ad→ad.block≠g) (v:Value):Rn (w'.setCell ⟨g,t,none⟩ v) A c K:=by
 have h0:Rn (w.alloc o) A c K:=hr.keep qh;have h3:=(zv.of_grown (X:=fun j=>some j=row∨j=g) hg (fun j hj=>.inl hj)).set (p:=⟨g,t,none⟩) (.inr (.inr rfl)) v;refine h3.rn h0 fun ad ha _=>?_;rintro (h | h)
 ·exact h1 _ h.symm ad ha rfl
 ·exact h2 ad ha h
theorem zns {w:World} {A:Option Addr} {c:Nat} {K:List Int} (hr:Rn w A c K) (hk:0<K.length):∀ad:Addr,A=some ad→ad.block<w.heap.size:=by
 intro ad ha;subst ha;rcases hr.2.2 with ⟨h,-⟩ | ⟨ad',h,hc⟩
 ·cases h
 ·injection h with h;subst h;have:=qi (hc 0 _ (zg7 hk));rwa [zbh] at this
theorem zlp (y:Ma) (d:Md) (w:World) (hq:Hq w y d) (bs:d.s.length≤1000) (bl:∀z∈d.s,z.2.length≤1000):Calls Tryz.prog 52 #[dv y d] w fun r w'=>qfx w w' d r:=by
 have S0:=zhy ((((Sx.start w).add (fQm y d) hq).mkD y d));obtain ⟨B,hB⟩:∃B,w.heap.size=B:=⟨_,rfl⟩;have HBB:=zhy hB;rw [hB] at S0;have HBS:=zhy bs;have HBL:=zhy bl;have hmk:=qb9 d.s.length bs;clear hq bl;go_enter Tryz.func52,Tryz.ntmps52;go_upto_region 1 with (fail);change Code.wp _ _ _ _ (w.alloc (zn y d));generalize w.alloc (zn y d)=w1 at S0 ⊢;clear hB;obtain ⟨-,⟨d0,d1,d2,d3,d4⟩,-⟩:=S0.o;go_wp2_with fail;clear d0 d1 d2 d3 d4;obtain ⟨g,hg⟩:∃g,w1.heap.size=g:=⟨_,rfl⟩;have HG1:=zhy hg;rw [hg];obtain ⟨n,hn⟩:∃n,d.s.length=n:=⟨_,rfl⟩;have HN:=zhy hn;rw [hn] at bs ⊢
 have HC0:Hid (zms (w1.alloc (.cells (List.replicate n (Value.slice none 0 0)).toArray 59)) w1.heap.size g n (List.replicate n (none,0,[]))):=zhy ⟨by simp,by
   have:=World.ownsRow_lit (base:=w1.heap.size) (size:=1) (e:=59) w1 (List.replicate n (Value.slice none 0 0)).toArray n (Nat.le_refl _) (by unfold maxLen;omega) (by simp);rw [←hg]
   simpa [zel,zbr] using this,fun z hz=>by
   rw [List.mem_replicate] at hz;rw [hz.2]
   exact World.ownsRow_nil _ _ _ _,fun i j y z _ hy hz b hb=>by
   have:=List.mem_of_getElem? hy;rw [List.mem_replicate] at this;rw [this.2] at hb;cases hb⟩
 have HM0:Hid ((List.replicate n ((none,0,[]):Gz)).map (·.2.2)=(List.range n).map fun t=>zfy (e11 d) n 0 0 t):=zhy (by
  rw [List.map_replicate];apply List.ext_getElem?;intro j;by_cases hj:j<n
  ·rw [List.getElem?_replicate_of_lt hj,List.getElem?_map,List.getElem?_range hj,Option.map_some,zbw];rfl
  ·rw [List.getElem?_eq_none (by simpa using hj),List.getElem?_eq_none (by simpa using hj)])
 clear hg hmk hn;go_loopw [16] (fun iv wr=>∃(k:Nat) (Y:List Gz),k≤n∧iv=.int .i64 k∧Hid (zms wr w1.heap.size g n Y)∧Hid (Y.map (·.2.2)=(List.range n).map fun t=>zfy (e11 d) n k 0 t)∧Hid (∀j,j<k→za3 (zl d j) n=false)∧Hid (Below w1.heap.size w1 wr)) (fun iv _=>n-(intOf iv).toNat)
 case atStart=>exact ⟨0,_,by omega,rfl,HC0,HM0,zhy (fun j hj=>by omega),zhy qh⟩
 case round =>
  clear HC0 HM0;obtain ⟨k,Y,hk,rfl,HC,HM,HBD,HB⟩:=hrel;rename World=>wr;have SR:=zhy (S0.o.call HB.o);by_cases h1:k<n
  ·have HWH:=zhy (zvn y d (k:Int) wr SR.o.2.2.1 HBS.o HBL.o);rw [Hid,zrk (by rw [HN.o];exact h1),HN.o] at HWH;have HWH:=zhy HWH;obtain ⟨-,⟨d0,d1,d2,d3,d4⟩,-⟩:=SR.o;go_wp2_with fail;refine HWH.o.mono ?_;rintro r w3 ⟨A3,c3,rfl,ho,hb⟩;cases hbd:za3 (zl d k) n with
   | true =>
    have hT:zm8 (zl d k) n=([],2):=by rw [zm8,if_pos hbd]
    have HBA:Hid (zcm d=true):=zhy (by
     cases h:zcm d with
     | true=>rfl
     | false =>
      have:=zfm h (k:=k) (by rw [HN.o];exact h1);rw [HN.o,hbd] at this;cases this)
    have HBF:=zhy (SR.o.call hb).1;rw [hT];clear ho hb hbd hT HWH d0 d1 d2 d3 d4;go_wp2_with fail;go_ret2;exact .inl ⟨HBA.o,rfl,HBF.o⟩
   | false =>
    obtain ⟨K,hK⟩:∃K,qx ((List.range n).filter (e11 d k))=K:=⟨_,rfl⟩
    have hT:zm8 (zl d k) n=(K,0):=by
     rw [zm8,if_neg (by rw [hbd];simp),←hK];rfl
    rw [hT] at ho ⊢
    have HBD2:Hid (∀j,j<k+1→za3 (zl d j) n=false):=zhy (fun j hj=>by
     by_cases hjk:j=k
     ·rw [hjk];exact hbd
     ·exact HBD.o j (by omega))
    obtain ⟨kn,hkn⟩:∃kn,K.length=kn:=⟨_,rfl⟩;dsimp only at ho ⊢;rw [hkn] at ho ⊢;have HKN:=zhy hkn;have HKE:=zhy hK;have hkn9:kn≤n:=by rw [←hkn,←hK];exact zal _ _
    have HC3:=zhy (HC.o.keep hb);have HB3:=zhy (qc HB.o hb);have HR3:=zhy (Rn.of_own ho).1;have HAT:=zhy (zhr ho)
    have HNP:Hid (qci Y A3):=zhy fun z hz b hzb ad ha e=>by
     have h2:=((HC.o.each z hz).lt b hzb).2;have h3:=zhr ho ad ha;omega
    have HGN:Hid (∀ad:Addr,A3=some ad→ad.block≠g):=zhy fun ad ha e=>by
     have h2:=(HC.o.row.lt g rfl).2;have h3:=zhr ho ad ha;omega
    clear ho hb hbd hT HWH d0 d1 d2 d3 d4 hK hkn SR HC HB HBD;go_wp2_with fail;go_loopw [30] (fun jv wq=>∃(i:Nat) (Y:List Gz),i≤kn∧jv=.int .i64 i∧Hid (zms wq w1.heap.size g n Y)∧Hid (Y.map (·.2.2)=(List.range n).map fun t=>zfy (e11 d) n k i t)∧Hid (Below w1.heap.size w1 wq)∧Hid (Rn wq A3 c3 K)∧Hid (qci Y A3)) (fun jv _=>kn-(intOf jv).toNat)
    case atStart=>exact ⟨0,Y,by omega,rfl,HC3,HM,HB3,HR3,HNP⟩
    case round =>
     clear HC3 HM HB3 HR3 HNP;obtain ⟨i,Y2,hi,rfl,HC,HM,HB,HR,HNP⟩:=hrel;rename World=>wq;by_cases h2:i<kn
     ·obtain ⟨t,ht⟩:∃t,((List.range n).filter (e11 d k))[i]?=some t:=⟨_,zg7 (by have:=HKN.o;rw [←HKE.o,qx,List.length_map] at this;omega)⟩;have htn:t<n:=by have:=List.mem_of_getElem? ht;rw [List.mem_filter,List.mem_range] at this;exact this.1
      obtain ⟨bd,hAk,z0⟩:=HR.o.at_ (show K[i]?=some (t:Int) by rw [←HKE.o];exact zhe ht);have HLT:=zhy (zns HR.o (by rw [HKN.o];omega));subst hAk;obtain ⟨⟨At,ct,Lt⟩,hyt,hyl⟩:=zcb HC.o.len HM.o htn;dsimp only at hyl;obtain ⟨m,hm⟩:∃m,Lt.length=m:=⟨_,rfl⟩;have x0:=(HC.o.row.cellAt t (by rw [Nat.mul_one];exact htn)).trans (show (zel Y2)[t]?=some (zbr (At,ct,Lt)) by rw [zel,List.getElem?_map,hyt];rfl);rw [zbr] at x0;dsimp only at x0;rw [hm] at x0;have xf:=HC.o.row.frozenAt t;have HT:=zhy ht;have HYT:=zhy hyt;have HYL:=zhy hyl;have HMM:=zhy hm
      have hm9:m≤2000:=by
       rw [←hm,hyl,zfy,List.length_append];have:=zal (fun j=>e11 d j t) k;rw [List.length_map] at this ⊢;split<;>simp<;>omega
      have HOT:Hid ((wq.alloc (.cells #[.int .i64 (k:Int)] 3)).ownsRow w1.heap.size 3 1 (.slice At m ct) m (ci9 Lt)):=zhy (by
       have:=(HC.o.each _ (List.mem_of_getElem? hyt)).alloc (.cells #[.int .i64 (k:Int)] 3);rw [zbr] at this;dsimp only at this;rwa [hm] at this)
      have hc1:(wq.alloc (.cells #[.int .i64 (k:Int)] 3)).cell? ((⟨wq.heap.size,0,none⟩:Addr).add 0)=some (.int .i64 (k:Int)):=by simp [go_sem,Addr.add]
      have HGV:Hid (zbr (At,ct,Lt)=.slice At m ct):=zhy (by rw [zbr,HMM.o]);have HHN:=zhy (show (zel Y2).length=n by rw [zel,List.length_map,HC.o.len]);clear ht hyt hyl hm;go_wp2_with (at_builtin;refine zaq rfl (.tmp 39) (.tmp 41) 59 Tryz.underlying59 rfl w1.heap.size _ m Lt rfl HOT.o _ (k:Int) rfl hc1 (by omega) (by have:=HB.o.size;simp;omega) ?_;intro g' c' w9 ho9 hg9 hl9;have hrow9:=zak (HC.o.row.alloc _) HOT.o (by decide) hg9;have x9:=(hrow9.cellAt t (by omega)).trans (zg7 (by rw [HHN.o];omega));have xf9:=hrow9.frozenAt t;have HC9:=zhy (HC.o.put HYT.o HMM.o (w':=w9) (x:=(k:Int)) (g':=g') (c':=c') ho9 (by rw [HGV.o];exact hg9) (by rw [HGV.o];exact hl9));have HB9:=zhy (((HB.o.alloc HB.o.size (.cells #[.int .i64 (k:Int)] 3)).grown hg9 (by have:=HB.o.size;rw [qn];omega) (fun q hq=>(HOT.o.lt q hq).1)).setCell (p:=⟨g,t,none⟩) (by rw [HG1.o];exact Nat.le_refl _) (.slice (some ⟨g',0,none⟩) (m+1) c'));have HR9:=zhy (zqa HR.o hg9 (fun b hb=>HNP.o _ (List.mem_of_getElem? HYT.o) b (by rw [HGV.o];exact hb)) HGN.o (t:=t) (.slice (some ⟨g',0,none⟩) (m+1) c'));have HNP9:=zhy (HNP.o.put (z:=(some ⟨g',0,none⟩,c',Lt++[(k:Int)])) HYT.o rfl (w:=wq.alloc (.cells #[.int .i64 (k:Int)] 3)) (by rw [HGV.o];exact hl9) (fun ad ha=>by have:=HLT.o ad ha;rw [qn];omega));clear ho9 hg9 hl9 hrow9);have HM9:Hid ((Y2.set t (some ⟨g',0,none⟩,c',Lt++[(k:Int)])).map (·.2.2)=(List.range n).map fun t=>zfy (e11 d) n k (i+1) t):=zhy (zjr HM.o htn (by dsimp only;rw [zcv HT.o,if_pos rfl,HYL.o]) fun j hj=>by rw [zcv HT.o,if_neg hj]);go_roundw
      case rel=>exact ⟨i+1,_,by omega,by go_num,HC9,HM9,HB9,HR9,HNP9⟩
      case measure=>simp [intOf];omega
     ·obtain rfl:kn=i:=by omega
      have HM2:Hid (Y2.map (·.2.2)=(List.range n).map fun t=>zfy (e11 d) n (k+1) 0 t):=zhy (by
       rw [HM.o];refine List.map_congr_left fun t ht=>?_;exact zi0 (by have:=HKN.o;rw [←HKE.o,qx,List.length_map] at this;omega) (List.mem_range.1 ht))
      go_wp2_with fail;go_roundw
      case rel=>exact ⟨k+1,Y2,by omega,by go_num,HC,HM2,HBD2,HB⟩
      case measure=>simp [intOf];omega
  ·obtain rfl:n=k:=by omega
   have HMM:Hid (Y.map (·.2.2)=zfo (fun t k=>e11 d k t) n):=zhy (by
    rw [HM.o,zfo];refine List.map_congr_left fun t _=>?_;rw [zbw])
   have HBA:Hid (zcm d=false):=zhy (zhz (by rw [HN.o];exact HBD.o));have HBF:=zhy SR.o.1;have hsz:w.heap.size≤w1.heap.size:=S0.o.1.size;go_wp2_with fail;go_ret2;exact .inr ⟨HBA.o,_,_,Y,by rw [HN.o];rfl,HC.o.go.base hsz,by rw [HN.o];exact HC.o.len,by rw [HN.o];exact HMM.o,HBF.o⟩
end
section
open Go.RowKit Go.Conc
open Go.RowKit Go.Conc
open Go.RowKit Go.Conc
open Go.RowKit Go.Conc
def zss (d:Md) (k:Nat):Bool:=(za5 d k&&zvk d k)||(!za5 d k&&(List.range d.s.length).any fun i=>e11 d i k&&za5 d i)
theorem zy8 (d:Md):qbe d=(List.range d.s.length).all fun k=>!zss d k:=by
 rw [Bool.eq_iff_iff,zmm,List.all_eq_true];simp only [List.mem_range,zss,Bool.not_eq_true',Bool.or_eq_false_iff,Bool.and_eq_false_iff,Bool.not_eq_false',List.any_eq_false,Bool.and_eq_true,not_and,Bool.not_eq_true];constructor
 ·intro h k hk;cases hr:za5 d k with
  | true=>exact ⟨.inr (h k hk hr).1,.inl rfl⟩
  | false =>
   refine ⟨.inl rfl,.inr fun i hi he=>?_⟩;cases hi2:za5 d i with
   | false=>rfl
   | true =>
    have:=(h i hi hi2).2 k hk he;rw [hr] at this;cases this
 ·intro h k hk hr;refine ⟨?_,fun i hi he=>?_⟩
  ·rcases (h k hk).1 with h1 | h1
   ·rw [hr] at h1;cases h1
   ·exact h1
  ·rcases (h i hi).2 with h1 | h1
   ·exact h1
   ·have:=h1 k hk he;rw [hr] at this;cases this
theorem qe4 (d:Md) (n k:Nat):(qx ((List.range n).filter fun j=>e11 d j k)).any (fun x=>za5 d x.toNat)=(List.range n).any fun i=>e11 d i k&&za5 d i:=by
 rw [qx,List.any_map,List.any_filter];congr 1
theorem zsk (y:Ma) (d:Md) (B k:Nat) (w:World) (hq:Hq w y d) (hd:Db w B y d) (hk:k<d.s.length):Calls Tryz.prog 53 #[.int .i64 (k:Int),.pointer (some ⟨B,0,none⟩)] w fun r w'=>r=.returned (.bool (za5 d k))∧w=w':=by
 obtain ⟨d0,d1,d2,d3,d4⟩:=hd;have hzl:=hq.zlen;obtain ⟨ad8,hA8,hat,hok⟩:=hq.2.2.1.at_ (i:=k) (by omega);have hme:=hq.zat (i:=k) (by omega) hk;obtain ⟨zz,hzz⟩:∃zz,y.Z[k]'(by omega)=zz:=⟨_,rfl⟩;rw [hzz] at hat hok hme;obtain ⟨⟨XA,xc,XB,xd,XD,xk,xe⟩,h,L⟩:=zz;have HR:Hid (za5 d k=h.q):=zhy (by rw [za5,qaq,zg7 hk,hme];rfl);obtain ⟨-,-,-,g3,-⟩:=hat;dsimp only at g3;rw [hA8] at d3;clear hq hme hzz hok hA8;go_enter Tryz.func53,Tryz.ntmps53;go_wp2_with fail;go_ret;exact ⟨by rw [HR.o];rfl,rfl⟩
theorem znm (y:Ma) (d:Md) (B:Nat) (A:Option Addr) (c m:Nat) (K:List Int) (w:World) (hq:Hq w y d) (hd:Db w B y d) (hr:Rn w A c K) (hm:K.length=m) (hK:∀x∈K,∃j:Nat,x=(j:Int)∧j<d.s.length) :
  Calls Tryz.prog 101 #[.slice A m c,.func (.func 53) #[] #[.pointer (some ⟨B,0,none⟩)]] w fun r w'=>∃i:Int,r=.returned (.int .i64 i)∧decide (0≤i)=(K.any fun x=>za5 d x.toNat)∧w=w':=by
 have HR:=zhy hr;have HM:=zhy hm;have HK:=zhy hK;have HQ:=zhy hq;have HD:=zhy hd;have hm9:m≤9223372036854775807:=by have:=hr.1;have:=hr.2.1;unfold maxLen at this;omega
 clear hr hm hK hq hd;go_enter Tryz.func101,Tryz.ntmps101;go_wp2_with fail;go_loopw [8] (fun iv wr=>∃i:Nat,i≤m∧iv=.int .i64 i∧Hid (((K.take i).any fun x=>za5 d x.toNat)=false)∧w=wr) (fun iv _=>m-(intOf iv).toNat)
 case atStart=>exact ⟨0,by omega,rfl,zhy (by simp),rfl⟩
 case round =>
  obtain ⟨i,hi,rfl,HI,rfl⟩:=hrel;by_cases h1:i<m
  ·obtain ⟨x,hx⟩:∃x,K[i]?=some x:=⟨_,zg7 (by rw [HM.o];exact h1)⟩;obtain ⟨ad,hA,k1⟩:=HR.o.at_ hx;obtain ⟨j,rfl,hj⟩:=HK.o x (List.mem_of_getElem? hx);subst hA;have HX:=zhy hx;have HC:=zhy (zsk y d B j w HQ.o HD.o hj);obtain ⟨v,hv⟩:∃v,za5 d j=v:=⟨_,rfl⟩;have HV:=zhy hv;rw [hv] at HC;clear hx hv;go_wp2_with fail;refine HC.o.mono ?_;rintro r w2 ⟨rfl,rfl⟩;clear HC;cases v with
   | true =>
    have HS:Hid ((K.any fun x=>za5 d x.toNat)=true):=zhy (by
     rw [List.any_eq_true];exact ⟨_,List.mem_of_getElem? HX.o,HV.o⟩)
    go_wp2_with fail;go_ret;exact ⟨_,rfl,by rw [HS.o];simp,rfl⟩
   | false =>
    have HI2:Hid (((K.take (i+1)).any fun x=>za5 d x.toNat)=false):=zhy (by
     rw [List.take_add_one,HX.o,List.any_append,HI.o];simpa using HV.o)
    go_wp2_with fail;go_roundw
    case rel=>exact ⟨i+1,by omega,by go_num,HI2,trivial⟩
    case measure=>simp [intOf];omega
  ·obtain rfl:m=i:=by omega
   have HS:Hid ((K.any fun x=>za5 d x.toNat)=false):=zhy (by
    have:=HI.o;rwa [List.take_of_length_le (by rw [HM.o];exact Nat.le_refl _)] at this)
   go_wp2_with fail;go_ret;exact ⟨_,rfl,by rw [HS.o];rfl,rfl⟩
theorem zhv (y:Ma) (d:Md) (B:Nat) (A:Option Addr) (c m:Nat) (K:List Int) (w:World) (hq:Hq w y d) (hd:Db w B y d) (hr:Rn w A c K) (hm:K.length=m) (hK:∀x∈K,∃j:Nat,x=(j:Int)∧j<d.s.length) :
  Calls Tryz.prog 55 #[.slice A m c,.func (.func 53) #[] #[.pointer (some ⟨B,0,none⟩)]] w fun r w'=>r=.returned (.bool (K.any fun x=>za5 d x.toNat))∧w=w':=by
 have HC:=zhy (znm y d B A c m K w hq hd hr hm hK);clear hr hm hq hd hK;go_enter Tryz.func55,Tryz.ntmps55;go_wp2_with fail;refine HC.o.mono ?_;rintro r w2 ⟨i,rfl,hi,rfl⟩;have HI:=zhy hi;clear hi HC;go_wp2_with fail;go_ret;exact ⟨by rw [←HI.o];rfl,rfl⟩
theorem zo2 (y:Ma) (d:Md) (w:World) (hq:Hq w y d) (bs:d.s.length≤1000) (bl:∀z∈d.s,z.2.length≤1000):Calls Tryz.prog 27 #[dv y d] w fun r w'=>r=.returned (.int .i64 (zct d))∧Below w.heap.size w w':=by
 have hzl:=hq.zlen;have HZL:=zhy hzl;have S0:=zhy ((((Sx.start w).add (fQm y d) hq).mkD y d));obtain ⟨B,hB⟩:∃B,w.heap.size=B:=⟨_,rfl⟩;have HBB:=zhy hB;rw [hB] at S0;have HBS:=zhy bs;have HBL:=zhy bl;clear hq bl hzl;go_enter Tryz.func27,Tryz.ntmps27;go_upto_region 1 with (fail);change Code.wp _ _ _ _ (w.alloc (zn y d));generalize w.alloc (zn y d)=w1 at S0 ⊢;clear hB;have HGR:=zhy (zlp y d w1 S0.o.2.2.1 HBS.o HBL.o);obtain ⟨-,⟨d0,d1,d2,d3,d4⟩,-⟩:=S0.o;go_wp2_with fail;refine HGR.o.mono ?_;clear HGR d0 d1 d2 d3 d4;rintro r w2 h;rcases h with ⟨hba,rfl,hb⟩ | ⟨hba,A,c,Y,rfl,hgo,hyl,hgr,hb⟩
 ·have HE:Hid (zct d=2):=zhy (by rw [zct,if_pos hba]);have HB:=zhy (S0.o.call hb).1;clear hb hba S0;go_wp2_with fail;go_ret;exact ⟨by rw [HE.o];rfl,HB.o⟩
 ·have S2:=zhy ((S0.o.call hb).add (fGw A c Y) hgo.gw);have HBA:=zhy hba;obtain ⟨n,hn⟩:∃n,d.s.length=n:=⟨_,rfl⟩;have HN:=zhy hn;rw [hn] at hyl hgr bs ⊢;have HYL:=zhy hyl;have HGR:=zhy hgr;have HCK:Hid (zct d=if ((List.range n).all fun k=>!zss d k)=true then 0 else 130):=zhy (by rw [zct,if_neg (by rw [hba];simp),zy8,hn]);clear hb hba hgo hyl hgr S0 hn;obtain ⟨-,-,⟨d0,d1,d2,d3,d4⟩,-⟩:=S2.o;rw [HN.o] at d3;go_wp2_with fail;clear d0 d1 d2 d3 d4;go_loopw [20] (fun iv wr=>∃k:Nat,k≤n∧iv=.int .i64 k∧Hid (∀j,j<k→zss d j=false)∧Hid (Sx w wr [fGw A c Y,fD B y d,fQm y d])) (fun iv _=>n-(intOf iv).toNat)
  case atStart=>exact ⟨0,by omega,rfl,zhy (fun j hj=>by omega),S2⟩
  case round =>
   clear S2;obtain ⟨k,hk,rfl,HC,SR⟩:=hrel;rename World=>wr;by_cases h1:k<n
   ·obtain ⟨ad8,hA8,hat,hok⟩:=SR.o.2.2.2.1.2.2.1.at_ (i:=k) (by rw [HZL.o,HN.o];exact h1);have hme:=SR.o.2.2.2.1.zat (i:=k) (by rw [HZL.o,HN.o];exact h1) (by rw [HN.o];exact h1);obtain ⟨zz,hzz⟩:∃zz,y.Z[k]'(by rw [HZL.o,HN.o];exact h1)=zz:=⟨_,rfl⟩;rw [hzz] at hat hok hme;obtain ⟨⟨XA,xc,XB,xd,XD,xk,xe⟩,h,L⟩:=zz
    have HSO:Hid (zvk d k=zgi L):=zhy (by
     rw [zvk,zl,zg7 (by rw [HN.o];exact h1),hme];rfl)
    have HRE:Hid (za5 d k=h.q):=zhy (by rw [za5,qaq,zg7 (by rw [HN.o];exact h1),hme];rfl);obtain ⟨hH,hRi,hxk⟩:=hok;dsimp only at hH hRi hxk;obtain ⟨g0,g1,g2,g3,g4,g5,g6,g7⟩:=hat;dsimp only at g0 g1 g2 g3 g4 g5 g6 g7;clear hzz hme;rw [hA8];go_upto_region 8 with (fail);have HM:=zhy (Mb.new wr ⟨XA,xc,XB,xd,XD,xk,xe⟩ h);have SR1:=zhy (SR.o.call (qh (w:=wr) (a:=zbk ⟨XA,xc,XB,xd,XD,xk,xe⟩ h)));have HR1:=zhy (hRi.keep (qh (w:=wr) (a:=zbk ⟨XA,xc,XB,xd,XD,xk,xe⟩ h)));obtain ⟨D,hD⟩:∃D,wr.heap.size=D:=⟨_,rfl⟩;rw [hD] at HM ⊢;change Code.wp _ _ _ _ (wr.alloc (zbk ⟨XA,xc,XB,xd,XD,xk,xe⟩ h));generalize wr.alloc (zbk ⟨XA,xc,XB,xd,XD,xk,xe⟩ h)=w3 at HM SR1 HR1 ⊢;clear g0 g1 g2 g3 g4 g5 g6 g7 hD hH hRi SR;obtain ⟨m0,m1,m2,m3,m4,m5,m6,m7,m8⟩:=HM.o;dsimp only at m4 m8;obtain ⟨u,hu⟩:∃u,h.q=u:=⟨_,rfl⟩;have HU:Hid (za5 d k=u):=zhy (by rw [HRE.o,hu]);rw [hu] at m4;have HHQ:=zhy hu;clear hu;cases u with
    | true =>
     have HST:=zhy (zuo XD xe xk L w3 HR1.o hxk);obtain ⟨v,hv⟩:∃v,zgi L=v:=⟨_,rfl⟩;rw [hv] at HST;have HV:=zhy hv;clear hv hxk;go_wp2_with fail;refine HST.o.mono ?_;rintro r w4 ⟨rfl,hb⟩;have S4:=zhy (SR1.o.call hb);have HM4:=zhy (HM.o.keep hb);clear hb HST m0 m1 m2 m3 m4 m5 m6 m7 m8 HM SR1 HR1;have m4:=HM4.o.2.2.2.2.1;rw [HHQ.o] at m4;cases v with
     | true =>
      have HE:Hid (zct d=130):=zhy (by
       rw [HCK.o,if_neg];intro h;rw [List.all_eq_true] at h;have:=h k (List.mem_range.2 h1);rw [zss,HU.o,HSO.o,HV.o] at this;simp at this)
      go_wp2_with fail;go_ret;exact ⟨by rw [HE.o];rfl,S4.o.1⟩
     | false =>
      have HC2:Hid (∀j,j<k+1→zss d j=false):=zhy fun j hj=>by
       by_cases e:j=k
       ·rw [e,zss,HU.o,HSO.o,HV.o];simp
       ·exact HC.o j (by omega)
      go_wp2_with fail;go_roundw
      case rel=>exact ⟨k+1,by omega,by go_num,HC2,S4⟩
      case measure=>simp [intOf];omega
    | false =>
     obtain ⟨⟨Ak,ck,K⟩,hyk,hyl⟩:=zcb HYL.o HGR.o h1;dsimp only at hyl;obtain ⟨ad,hA,y0,hrk⟩:=SR1.o.2.1.at_ hyk;subst hA;rw [zbr] at y0;dsimp only at y0 hrk
     have HCO:=zhy (zhv y d B Ak ck K.length K w3 SR1.o.2.2.2.1 SR1.o.2.2.1 hrk rfl (fun x hx=>by
      rw [hyl,qx,List.mem_map] at hx;obtain ⟨j,hj,rfl⟩:=hx;rw [List.mem_filter,List.mem_range] at hj;exact ⟨j,rfl,by rw [HN.o];exact hj.1⟩))
     obtain ⟨v,hv⟩:∃v,(K.any fun x=>za5 d x.toNat)=v:=⟨_,rfl⟩;rw [hv] at HCO;have HV:Hid (((List.range n).any fun i=>e11 d i k&&za5 d i)=v):=zhy (by rw [←qe4,←hv,hyl]);clear hv hyl hyk hrk hxk;go_wp2_with fail;refine HCO.o.mono ?_;rintro r w4 ⟨rfl,rfl⟩;clear HCO m0 m1 m2 m3 m4 m5 m6 m7 m8;cases v with
     | true =>
      have HE:Hid (zct d=130):=zhy (by
       rw [HCK.o,if_neg];intro h;rw [List.all_eq_true] at h;have:=h k (List.mem_range.2 h1);rw [zss,HU.o,HN.o,HV.o] at this;simp at this)
      go_wp2_with fail;go_ret;exact ⟨by rw [HE.o];rfl,SR1.o.1⟩
     | false =>
      have HC2:Hid (∀j,j<k+1→zss d j=false):=zhy fun j hj=>by
       by_cases e:j=k
       ·rw [e,zss,HU.o,HN.o,HV.o];simp
       ·exact HC.o j (by omega)
      go_wp2_with fail;go_roundw
      case rel=>exact ⟨k+1,by omega,by go_num,HC2,SR1⟩
      case measure=>simp [intOf];omega
   ·obtain rfl:n=k:=by omega
    have HE:Hid (zct d=0):=zhy (by
     rw [HCK.o,if_pos];rw [List.all_eq_true];intro j hj;rw [HC.o j (List.mem_range.1 hj)];rfl)
    go_wp2_with fail;go_ret;exact ⟨by rw [HE.o];rfl,SR.o.1⟩
end
theorem zlb (y:Ma) (d:Md) (k:Int) (w:World) (hq:Hq w y d) (bs:d.s.length≤1000):Calls Tryz.prog 81 #[dv y d,.int .i64 k] w fun r w'=>qfk w w' (zof d k) r:=by
 obtain ⟨G,gc,P,pc,AA,cc,Z⟩:=y;have hzl:=hq.zlen;dsimp only at hzl;obtain ⟨sn,hsn⟩:∃sn,d.s.length=sn:=⟨_,rfl⟩;have HSN:=zhy hsn;rw [hsn] at bs;have S0:=zhy ((((Sx.start w).add (fQm ⟨G,gc,P,pc,AA,cc,Z⟩ d) hq).mkD ⟨G,gc,P,pc,AA,cc,Z⟩ d));have HZL:=zhy (hzl.trans hsn);obtain ⟨T,hT⟩:∃T,zof d k=T:=⟨_,rfl⟩;have HT:=zhy hT;rw [hT];obtain ⟨B,hB⟩:∃B,w.heap.size=B:=⟨_,rfl⟩;have HBB:=zhy hB;rw [hB] at S0;clear hq hT hzl hsn;go_enter Tryz.func81,Tryz.ntmps81;go_upto_region 1 with (fail);change Code.wp _ _ _ _ (w.alloc (zn ⟨G,gc,P,pc,AA,cc,Z⟩ d));generalize w.alloc (zn ⟨G,gc,P,pc,AA,cc,Z⟩ d)=w1 at S0 ⊢;have S1:=S0;clear S0 hB;obtain ⟨-,⟨d0,d1,d2,d3,d4⟩,-⟩:=S1.o;dsimp only at d1 d2 d3;rw [HSN.o] at d3;by_cases hk0:k<0
 ·have HE:Hid (T=(false,2)):=zhy (by rw [←HT.o,zof,if_pos (.inl hk0)]);go_wp2_with fail;go_ret2;exact ⟨by rw [HE.o];rfl,S1.o.1⟩
 by_cases hks:(sn:Int)≤k
 ·have HE:Hid (T=(false,2)):=zhy (by rw [←HT.o,zof,if_pos (.inr (by rw [HSN.o];exact hks))]);go_wp2_with fail;go_ret2;exact ⟨by rw [HE.o];rfl,S1.o.1⟩
 obtain ⟨k,rfl⟩:∃k':Nat,k=k':=⟨k.toNat,by omega⟩;have hks2:k<sn:=by omega
 obtain ⟨ad8,hA8,hat,hok⟩:=S1.o.2.2.1.2.2.1.at_ (i:=k) (by rw [HZL.o];exact hks2);have hme:=S1.o.2.2.1.zat (i:=k) (by rw [HZL.o];exact hks2) (by rw [HSN.o];exact hks2);dsimp only at hA8 hat hok hme;obtain ⟨zz,hzz⟩:∃zz,Z[k]'(by rw [HZL.o];exact hks2)=zz:=⟨_,rfl⟩;rw [hzz] at hat hok hme;obtain ⟨⟨XA,xc,XB,xd,XD,xk,xe⟩,h,L⟩:=zz;subst hA8
 have HTM:Hid (T=(zgi L,0)):=zhy (by
  rw [←HT.o,zof,if_neg (by rw [HSN.o];omega),Int.toNat_natCast,zvk,zl,zg7 (by rw [HSN.o];exact hks2),hme];rfl)
 obtain ⟨hH,hRi,hxk⟩:=hok;dsimp only at hH hRi hxk;obtain ⟨-,-,-,-,-,-,-,g7⟩:=hat;dsimp only at g7;obtain ⟨m,hm⟩:∃m,L.length=m:=⟨_,rfl⟩;obtain rfl:m=xk:=by rw [←hm];exact hxk
 have HLm:=zhy hm;have hm9:m≤9223372036854775807:=by have:=hRi.len;omega
 have HRI:=zhy hRi;clear hzz hme hxk hRi hH hm;go_wp2_with fail;go_loopw [6] (fun iv wr=>∃i:Nat,i≤m∧iv=.int .i64 i∧Hid (zgi (L.take i)=false)∧w1=wr) (fun iv _=>m-(intOf iv).toNat)
 case atStart=>exact ⟨0,by omega,rfl,zhy (by simp [zgi]),rfl⟩
 case round =>
  obtain ⟨i,hi,rfl,HI,rfl⟩:=hrel;by_cases h1:i<m
  ·obtain ⟨⟨o,a,z⟩,hx⟩:∃x,L[i]?=some x:=⟨_,zg7 (by rw [HLm.o];exact h1)⟩;obtain ⟨al,hA,k1,k2,k3⟩:=HRI.o.at9 hx;subst hA;have HX:=zhy hx;clear hx;by_cases ho:o=5
   ·have HS:=zhy (zl8 HX.o (by simpa using ho));subst ho;go_wp2_with fail;go_ret2;exact ⟨by rw [HTM.o,HS.o];rfl,S1.o.1⟩
   ·have HI2:Hid (zgi (L.take (i+1))=false):=zhy (by
     have e1:(o==5)=false:=by simpa using ho
     rw [zjj HX.o,HI.o,e1];rfl)
    go_wp2_with fail;go_roundw
    case rel=>exact ⟨i+1,by omega,by go_num,HI2,trivial⟩
    case measure=>simp [intOf];omega
  ·obtain rfl:m=i:=by omega
   have HS:Hid (zgi L=false):=zhy (by
    have:=HI.o;rwa [List.take_of_length_le (by rw [HLm.o];exact Nat.le_refl _)] at this)
   go_wp2_with fail;go_ret2;exact ⟨by rw [HTM.o,HS.o];rfl,S1.o.1⟩
def zst (d:Md) (k:Nat):Bool:=za5 d k&&(zvk d k||((List.range d.s.length).filter (e11 d k)).any fun i=>!za5 d i)
theorem zx2 (d:Md):qbe d=(List.range d.s.length).all fun k=>!zst d k:=by
 rw [Bool.eq_iff_iff,zmm,List.all_eq_true];simp only [List.mem_range,zst,Bool.not_eq_true',Bool.and_eq_false_iff,Bool.or_eq_false_iff,List.any_eq_false,List.mem_filter,Bool.not_eq_false',and_imp];constructor
 ·intro h k hk;cases hr:za5 d k with
  | false=>exact .inl rfl
  | true =>
   obtain ⟨h1,h2⟩:=h k hk hr;exact .inr ⟨h1,fun i hi he=>by rw [h2 i hi he];decide⟩
 ·intro h k hk hr;rcases h k hk with h1 | ⟨h1,h2⟩
  ·rw [hr] at h1;cases h1
  ·refine ⟨h1,fun i hi he=>?_⟩;have:=h2 i hi he;cases hb:za5 d i with
   | true=>rfl
   | false=>rw [hb] at this;exact absurd rfl this
abbrev qfd (A:Option Addr) (c:Nat) (K:List Int):Fct:=⟨fun w=>Rn w A c K,fun _ _ h hb=>h.keep hb⟩
theorem zty {d:Md} {k:Nat} (hk:k<d.s.length) (h:za3 (zl d k) d.s.length=true):zcm d=true:=by
 cases hb:zcm d with
 | true=>rfl
 | false=>rw [zfm hb hk] at h;cases h
theorem zxn {d:Md} {k:Nat} (hk:k<d.s.length) (h:za3 (zl d k) d.s.length=true):zfv d k=([],2):=by
 rw [zfv,if_neg (by omega),Int.toNat_natCast,if_pos h]
theorem ztg {d:Md} {k:Nat} (hk:k<d.s.length) (h:za3 (zl d k) d.s.length=false):zfv d k=(qx ((List.range d.s.length).filter (e11 d k)),0):=by
 rw [zfv,if_neg (by omega),Int.toNat_natCast,if_neg (by rw [h];simp)]
theorem znt (y:Ma) (d:Md) (w:World) (hq:Hq w y d) (bs:d.s.length≤1000):Calls Tryz.prog 39 #[dv y d] w fun r w'=>r=.returned (.int .i64 (zct d))∧Below w.heap.size w w':=by
 have HZL:=zhy hq.zlen;have S0:=zhy ((((Sx.start w).add (fQm y d) hq).mkD y d));obtain ⟨B,hB⟩:∃B,w.heap.size=B:=⟨_,rfl⟩;have HBB:=zhy hB;rw [hB] at S0;have HBS:=zhy bs;obtain ⟨n,hn⟩:∃n,d.s.length=n:=⟨_,rfl⟩;have HN:=zhy hn;rw [hn] at bs;clear hq hn;go_enter Tryz.func39,Tryz.ntmps39;go_upto_region 1 with (fail);change Code.wp _ _ _ _ (w.alloc (zn y d));generalize w.alloc (zn y d)=w1 at S0 ⊢;clear hB;go_wp2_with fail;go_loopw [3] (fun iv wr=>∃k:Nat,k≤n∧iv=.int .i64 k∧Hid (∀j,j<k→za3 (zl d j) n=false)∧Hid (Sx w wr [fD B y d,fQm y d])) (fun iv _=>n-(intOf iv).toNat)
 case atStart=>exact ⟨0,by omega,rfl,zhy (fun j hj=>by omega),S0⟩
 case round =>
  clear S0;obtain ⟨k,hk,rfl,HB,SR⟩:=hrel;rename World=>wr;obtain ⟨-,⟨d0,d1,d2,d3,d4⟩,-⟩:=SR.o;by_cases h1:k<n
  ·have HWH:=zhy (zdj y d (k:Int) wr SR.o.2.2.1 HBS.o);have hkn:(k:Int)<(d.s.length:Int):=by rw [HN.o];omega
   go_wp2_with fail;refine HWH.o.mono ?_;rintro r w3 ⟨A3,c3,rfl,ho,hb⟩;have S3:=zhy (SR.o.call hb);clear HWH ho hb d0 d1 d2 d3 d4;cases hbd:za3 (zl d k) n with
   | true =>
    have HE:Hid (zct d=2):=zhy (by rw [zct,if_pos (zty (by rw [HN.o];exact h1) (by rw [HN.o];exact hbd))]);rw [zxn (by rw [HN.o];exact h1) (by rw [HN.o];exact hbd)];clear hbd;go_wp2_with fail;go_ret;exact ⟨by rw [HE.o];rfl,S3.o.1⟩
   | false =>
    have HB2:Hid (∀j,j<k+1→za3 (zl d j) n=false):=zhy (fun j hj=>by
     by_cases hjk:j=k
     ·rw [hjk];exact hbd
     ·exact HB.o j (by omega))
    rw [ztg (by rw [HN.o];exact h1) (by rw [HN.o];exact hbd)];clear hbd;go_wp2_with fail;go_roundw
    case rel=>exact ⟨k+1,by omega,by go_num,HB2,S3⟩
    case measure=>simp [intOf];omega
  ·obtain rfl:n=k:=by omega
   have hkn:¬(n:Int)<(d.s.length:Int):=by rw [HN.o];omega
   have HBA:Hid (zcm d=false):=zhy (zhz (by rw [HN.o];exact HB.o));have HCK:Hid (zct d=if ((List.range n).all fun k=>!zst d k)=true then 0 else 130):=zhy (by rw [zct,if_neg (by rw [HBA.o];simp),zx2,HN.o]);go_wp2_with fail;clear d0 d1 d2 d3 d4 hkn;go_loopw [6] (fun iv wr=>∃k:Nat,k≤n∧iv=.int .i64 k∧Hid (∀j,j<k→zst d j=false)∧Hid (Sx w wr [fD B y d,fQm y d])) (fun iv _=>n-(intOf iv).toNat)
   case atStart=>exact ⟨0,by omega,rfl,zhy (fun j hj=>by omega),SR⟩
   case round =>
    clear SR;obtain ⟨k,hk,rfl,HC,SR⟩:=hrel;rename World=>wz;obtain ⟨-,⟨d0,d1,d2,d3,d4⟩,-⟩:=SR.o;by_cases h1:k<n
    ·have hkn:(k:Int)<(d.s.length:Int):=by rw [HN.o];omega
     obtain ⟨ad8,hA8,hat,hok⟩:=SR.o.2.2.1.2.2.1.at_ (i:=k) (by rw [HZL.o,HN.o];exact h1);have hme:=SR.o.2.2.1.zat (i:=k) (by rw [HZL.o,HN.o];exact h1) (by rw [HN.o];exact h1);obtain ⟨zz,hzz⟩:∃zz,y.Z[k]'(by rw [HZL.o,HN.o];exact h1)=zz:=⟨_,rfl⟩;rw [hzz] at hat hok hme;obtain ⟨⟨XA,xc,XB,xd,XD,xk,xe⟩,h,L⟩:=zz;have hre:za5 d k=h.q:=by rw [za5,qaq,zg7 (by rw [HN.o];exact h1),hme];rfl
     obtain ⟨-,-,-,g3,-⟩:=hat;dsimp only at g3;rw [←hre] at g3;obtain ⟨u,hu⟩:∃u,za5 d k=u:=⟨_,rfl⟩;rw [hu] at g3;have HU:=zhy hu;have HA8:=zhy hA8;rw [hA8] at d3;clear hzz hme hok hre hu hA8;cases u with
     | false =>
      have HC2:Hid (∀j,j<k+1→zst d j=false):=zhy fun j hj=>by
       by_cases e:j=k
       ·rw [e,zst,HU.o];rfl
       ·exact HC.o j (by omega)
      go_wp2_with fail;go_roundw
      case rel=>exact ⟨k+1,by omega,by go_num,HC2,SR⟩
      case measure=>simp [intOf];omega
     | true =>
      have HST:=zhy (zlb y d (k:Int) wz SR.o.2.2.1 HBS.o);rw [Hid,zof,if_neg (by rw [HN.o];omega),Int.toNat_natCast] at HST;have HST:=zhy HST;rw [dv,HA8.o] at HST;go_wp2_with fail;refine HST.o.mono ?_;rintro r w3 ⟨rfl,hb⟩;have S3:=zhy (SR.o.call hb);obtain ⟨s,hs⟩:∃s,zvk d k=s:=⟨_,rfl⟩;have HSO:=zhy hs;rw [hs];have HWH:=zhy (zdj y d (k:Int) w3 S3.o.2.2.1 HBS.o);rw [dv,HA8.o] at HWH;clear HST hb hs d0 d1 d2 d3 d4 g3;obtain ⟨-,⟨d0,d1,d2,d3,d4⟩,-⟩:=S3.o;rw [HA8.o] at d3;dsimp only;go_wp2_with fail;refine HWH.o.mono ?_;rintro r w4 ⟨A3,c3,rfl,ho,hb⟩
      have hw:zfv d k=(qx ((List.range n).filter (e11 d k)),0):=by
       have:=zo0 HBA.o (k:=k) (by rw [HN.o];exact h1);rwa [HN.o] at this
      rw [hw] at ho ⊢;obtain ⟨F,hF⟩:∃F,(List.range n).filter (e11 d k)=F:=⟨_,rfl⟩;rw [hF] at ho ⊢;obtain ⟨kn,hkl⟩:∃kn,(qx F).length=kn:=⟨_,rfl⟩;dsimp only at ho ⊢;rw [hkl] at ho ⊢;have hkn9:kn≤n:=by rw [←hkl,←hF];exact zal _ _
      have HFL:Hid (F.length=kn):=zhy (by rw [←hkl,qx,List.length_map])
      have HFN:Hid (∀x∈F,x<n):=zhy fun x hx=>by
       rw [←hF,List.mem_filter,List.mem_range] at hx;exact hx.1
      have HCR:Hid (zst d k=(s||F.any fun i=>!za5 d i)):=zhy (by rw [zst,HU.o,HSO.o,HN.o,hF];rfl);have S4:=zhy ((S3.o.call hb).add (qfd A3 c3 (qx F)) (Rn.of_own ho).1);clear HWH ho hb hw hF hkl d0 d1 d2 d3 d4 SR S3;go_wp2_with fail;go_loopw [7,11] (fun sv jv wq=>∃(i:Nat) (v:Bool),i≤kn∧jv=.int .i64 i∧sv=.bool v∧Hid (v=(s||(F.take i).any fun i=>!za5 d i))∧Hid (Sx w wq [qfd A3 c3 (qx F),fD B y d,fQm y d])) (fun _ jv _=>kn-(intOf jv).toNat)
      case atStart=>exact ⟨0,s,by omega,rfl,rfl,zhy (by simp),S4⟩
      case round =>
       clear S4;obtain ⟨i,v,hi,rfl,rfl,HV,SQ⟩:=hrel;rename World=>wq;have SQD:=zhy (fun q=>SQ.o.drewN q);by_cases h2:i<kn
       ·obtain ⟨x,hx⟩:∃x,F[i]?=some x:=⟨_,zg7 (by rw [HFL.o];exact h2)⟩;have hxn:=HFN.o x (List.mem_of_getElem? hx)
        have HT:Hid ((F.take (i+1)).any (fun i=>!za5 d i)=((F.take i).any (fun i=>!za5 d i)||!za5 d x)):=zhy (by
         rw [List.take_add_one,hx,List.any_append];simp)
        cases v with
        | true =>
         have HV2:Hid (true=(s||(F.take (i+1)).any fun i=>!za5 d i)):=zhy (by
          rw [HT.o,←Bool.or_assoc,←HV.o];rfl)
         clear hx;go_wp2_with fail;go_quiet (fail);go_wp2_with fail;go_roundw
         case rel=>exact ⟨i+1,true,by omega,by go_num,rfl,HV2,zhy (SQD.o _)⟩
         case measure=>simp [intOf];omega
        | false =>
         obtain ⟨bd,hA3,z0⟩:=SQ.o.2.1.at_ (zhe hx);obtain ⟨ad8',hA8',hat,hok⟩:=SQ.o.2.2.2.1.2.2.1.at_ (i:=x) (by rw [HZL.o,HN.o];exact hxn);have hme:=SQ.o.2.2.2.1.zat (i:=x) (by rw [HZL.o,HN.o];exact hxn) (by rw [HN.o];exact hxn);rw [HA8.o] at hA8';injection hA8' with hA8';subst hA8';obtain ⟨-,-,-,g3,-⟩:=hat;have hre:za5 d x=(y.Z[x]'(by rw [HZL.o,HN.o];exact hxn)).m.q:=by rw [za5,qaq,zg7 (by rw [HN.o];exact hxn),hme];rfl
         rw [←hre] at g3;obtain ⟨u2,hu2⟩:∃u2,za5 d x=u2:=⟨_,rfl⟩;rw [hu2] at g3
         have HV2:Hid ((!u2)=(s||(F.take (i+1)).any fun i=>!za5 d i)):=zhy (by
          rw [HT.o,←Bool.or_assoc,←HV.o,hu2];rfl)
         obtain ⟨-,-,⟨d0,d1,d2,d3,d4⟩,-⟩:=SQ.o;rw [HA8.o] at d3;subst hA3;have hxs:(x:Int)<(d.s.length:Int):=by rw [HN.o];omega
         clear hx hok hme hre hu2;go_wp2_with fail;go_quiet (fail);go_wp2_with fail;go_roundw
         case rel=>exact ⟨i+1,!u2,by omega,by go_num,rfl,HV2,zhy (SQD.o _)⟩
         case measure=>simp [intOf];omega
       ·obtain rfl:kn=i:=by omega
        have HVC:Hid (zst d k=v):=zhy (by
         have h:=HV.o;rw [List.take_of_length_le (by rw [HFL.o];exact Nat.le_refl _)] at h;rw [HCR.o,h])
        cases v with
        | true =>
         have HE:Hid (zct d=130):=zhy (by
          rw [HCK.o,if_neg];intro h;rw [List.all_eq_true] at h;have:=h k (List.mem_range.2 h1);rw [HVC.o] at this;cases this)
         go_wp2_with fail;go_ret;exact ⟨by rw [HE.o];rfl,SQ.o.1⟩
        | false =>
         have HC2:Hid (∀j,j<k+1→zst d j=false):=zhy fun j hj=>by
          by_cases e:j=k
          ·rw [e,HVC.o]
          ·exact HC.o j (by omega)
         have SZ:Hid (Sx w wq [fD B y d,fQm y d]):=zhy ⟨SQ.o.1,SQ.o.2.2⟩;go_wp2_with fail;go_roundw
         case rel=>exact ⟨k+1,by omega,by go_num,HC2,SZ⟩
         case measure=>simp [intOf];omega
    ·obtain rfl:n=k:=by omega
     have hkn:¬(n:Int)<(d.s.length:Int):=by rw [HN.o];omega
     have HE:Hid (zct d=0):=zhy (by
      rw [HCK.o,if_pos];rw [List.all_eq_true];intro j hj;rw [HC.o j (List.mem_range.1 hj)];rfl)
     go_wp2_with fail;go_ret;exact ⟨by rw [HE.o];rfl,SR.o.1⟩
theorem zmg (A:Option Addr) (c m:Nat) (L:List Vlu) (w:World) (hr:Rv w A c L) (hm:L.length=m):Calls Tryz.prog 106 #[.slice A m c] w fun e w'=>e=.returned (.bool (poM L))∧Below w.heap.size w w':=by
 subst hm;have hlen:=hr.len;have HR:=zhy hr;clear hr;by_cases h0:L.length≤32
 ·have HC:Hid (poM L=L.all vM):=by rw [Hid,poM,decide_eq_true h0,Bool.true_and]
  go_enter Tryz.func106,Tryz.ntmps106;go_wp2_with fail;go_loopw [10] (fun i wr=>∃j:Nat,j≤L.length∧i=.int .i64 j∧Hid ((L.take j).all vM=true)∧Hid (Below w.heap.size w wr)) (fun i _=>L.length-(intOf i).toNat)
  case atStart=>exact ⟨0,by omega,rfl,rfl,zhy (Below.refl _ _)⟩
  case round =>
   obtain ⟨j,hj,rfl,HA,HB⟩:=hrel;by_cases h1:j<L.length
   ·obtain ⟨ad,rfl,hc0,hc1,hc2⟩:=(HR.o.keep HB.o).at_ h1;go_wp2_with fail;refine (zm2 L[j].1 L[j].2.1 L[j].2.2 _ _ rfl).mono ?_;rintro e w1 ⟨rfl,hb1⟩;have HB1:=zhy (qc (qc HB.o qh) hb1);clear hb1 hc0 hc1 hc2 HB;cases hv:zcj L[j].1 L[j].2.1 L[j].2.2 with
    | true =>
     have HN:Hid ((L.take (j+1)).all vM=true):=by
      rw [Hid,List.take_add_one,zg7 h1];simp only [Option.toList_some,List.all_append,HA.o,List.all_cons,List.all_nil,Bool.and_true,Bool.true_and];exact hv
     clear HA;go_wp2_with fail;go_roundw
     case rel=>exact ⟨j+1,by omega,by go_num,HN,HB1⟩
     case measure=>simp [intOf];omega
    | false =>
     have HN:Hid (poM L=false):=by
      have:L.all vM=false:=List.all_eq_false.2 ⟨L[j],List.getElem_mem h1,by simp [vM,hv]⟩;rw [Hid,HC.o,this]
     go_wp2_with fail;go_ret;exact ⟨by rw [HN.o];rfl,HB1.o⟩
   ·obtain rfl:j=L.length:=by omega
    have HN:Hid (poM L=true):=by
     have h2:=HA.o;rw [List.take_length] at h2;rw [Hid,HC.o,h2]
    clear HA;go_wp2_with fail;go_ret;exact ⟨by rw [HN.o];rfl,HB.o⟩
 ·have HN:Hid (poM L=false):=by rw [Hid,poM,decide_eq_false h0];rfl
  go_enter Tryz.func106,Tryz.ntmps106;go_wp2_with fail;go_ret;exact ⟨by rw [HN.o];rfl,Below.refl _ _⟩
theorem zpc {n:Int} (h0:0≤n) (h:n<256):zan 1 n=[n]∧zcn 1 n=0:=by
 have:=zy (k:=1) (n:=n) (by omega) (by omega) h0 (by simpa [zbb] using h);rw [show ((1:Nat):Int)=1 from rfl] at this;refine ⟨?_,this.1⟩;rw [this.2];simp [qu];omega
theorem zpk:zz7 fG:=by
 intro A c m L w hw hr hm _;subst hm;obtain ⟨i0,hi,hz0,hz1,hz2⟩:=info_parts Tryz.info5;cases hc:poM L with
 | false =>
  have HC:=zhy hc;rw [poL,if_neg (by rw [hc];decide),poE,if_neg (by rw [hc];decide)];clear hc;go_enter Tryz.func64,Tryz.ntmps64;go_wp2_with fail;refine (zmg A c _ L _ hr rfl).mono ?_;rintro e w1 ⟨rfl,hb1⟩;rw [HC.o];go_wp2_with fail;go_ret2;exact ⟨none,0,rfl,World.ownsRow_nil _ _ _ _,hb1⟩
 | true =>
  have HC:=zhy hc;rw [poL,if_pos hc,poE,if_pos hc];have hl2:=zmj hc;have HALL:=zhy (zwp hc);have HOK:=zhy hr.1;have S0:=zhy (((Sx.start w).add fG hw).add (fW A c L) hr);have S00:Hid (∀w',Below w.heap.size w w'→Sx w w' [fW A c L,fG]):=zhy fun w' hb=>S0.o.call hb;obtain ⟨hp1,hp2⟩:=zpc (n:=L.length) (by omega) (by omega);have P:=fun w=>zhy (zcq 1 L.length w);rw [hp1,hp2] at P;clear hc hr hw hp1 hp2;go_enter Tryz.func64,Tryz.ntmps64;go_wp2_with fail;refine (zmg A c _ L _ S0.o.2.1 rfl).mono ?_;rintro e w1 ⟨rfl,hb1⟩;rw [HC.o];have S1:=zhy (S0.o.call hb1);clear hb1 S0;go_wp2_with fail;refine (P _).o.mono ?_;rintro e w2 ⟨A2,c2,rfl,ho2,hb2⟩;have S2:=zhy (S1.o.call hb2);have HO2:=zhy (qg ho2 S1.o.1.size);clear ho2 hb2 S1 P;go_wp2_with fail
  go_loopw [4,21] (fun o i wr=>∃(j:Nat) (A':Option Addr) (c':Nat) (X:List Int) (N:Nat),j≤L.length∧i=.int .i64 j∧o=.slice A' N c'∧N≤1+9*j∧Hid (X=(L.length:Int)::(L.take j).flatMap vB∧X.length=N∧wr.ownsRow w.heap.size 5 1 (.slice A' N c') N (cel X))∧Hid (Sx w wr [fW A c L,fG]))
   (fun _ i _=>L.length-(intOf i).toNat)
  case atStart=>exact ⟨0,_,_,[(L.length:Int)],1,by omega,rfl,rfl,by omega,zhy ⟨by simp,rfl,HO2.o⟩,S2⟩
  case round =>
   obtain ⟨j,A',c',X,N,hj,rfl,rfl,hN,HX,S3⟩:=hrel;clear HO2 S2;by_cases h1:j<L.length
   ·obtain ⟨ad,rfl,x0,x1,x2⟩:=S3.o.2.1.at_ h1;have HV:=zhy (HALL.o _ (List.getElem_mem h1));have HQ:=zhy (HOK.o _ (List.getElem_mem h1));have HL:Hid (L.take (j+1)=L.take j++[L[j]]):=by rw [Hid,List.take_add_one,zg7 h1];rfl
    generalize L[j]=x at *;have hbl:=zqe x;have S4:=zhy (S3.o.mk1 (.cells #[.int .u8 x.1,.int .i64 x.2.1,.int .i64 x.2.2] 139));have HO4:=zhy (qb HX.o.2.2 (qh (a:=.cells #[.int .u8 x.1,.int .i64 x.2.1,.int .i64 x.2.2] 139)) (Nat.le_refl _));have HX1:=zhy HX.o.1;have HX2:=zhy HX.o.2.1;clear HX S3;go_wp2_with fail;refine (zvi x.1 x.2.1 x.2.2 0 (vB x) _ _ S4.o.2.2.1 ⟨zpv HV.o,zqj HV.o,rfl⟩).mono ?_;rintro e w3 ⟨A3,c3,rfl,ho3,hb3⟩;have HR1:=zhy (qt ho3 (zpx x));have HO5:=zhy (qb HO4.o hb3 (Nat.le_refl _));have S5:=zhy (S4.o.call hb3);clear ho3 hb3 x0 x1 x2 S4 HO4;go_wp2_with (at_builtin;refine qa _ rfl _ _ 40 rfl w.heap.size 5 i0 Tryz.underlying40 hi hz0 hz1 hz2 _ N X rfl HO5.o _ _ _ (vB x) rfl HR1.o rfl (by omega) S5.o.1.size ?_);intro A2 c2 w4 ho4 hg4 hb4 _;have HO6:=zhy ho4;have S6:=zhy (show Sx w w4 [fW (some ad) c L,fG] from S00.o w4 (S5.o.1.trans hb4));clear ho4 hg4 hb4 HO5 HR1 S5;go_wp2_with fail;go_roundw
    case rel=>exact ⟨j+1,A2,c2,_,N+(vB x).length,by omega,by go_num,rfl,by omega,zhy ⟨by rw [HX1.o,HL.o,List.flatMap_append,List.flatMap_cons,List.flatMap_nil,List.append_nil,List.cons_append],by rw [List.length_append,HX2.o],HO6.o⟩,S6⟩
    case measure=>simp [intOf];omega
   ·obtain rfl:j=L.length:=by omega
    have hx:=HX.o;rw [List.take_length,←poB] at hx;obtain ⟨rfl,rfl,ho⟩:=hx;have HO:=zhy ho;clear ho HX;go_wp2_with fail;go_ret2;exact ⟨A',c',rfl,HO.o,S3.o.1⟩
theorem zmv {w w':World} {base e size n:Nat} {v:Value} {xs:List Value} (h:w.ownsRow base e size v n xs) (hb:Below w.heap.size w w'):w'.ownsRow base e size v n xs:=qb h hb (Nat.le_refl _)
def mcB (n:Int):Bool:=decide (1≤n)&&decide (n≤200)
theorem zwu (n:Int) (v:Bool) (w:World) (h:mcB n=v):Calls Tryz.prog 170 #[.int .i64 n] w fun e w'=>e=.returned (.bool v)∧w=w':=by
 subst h;go_enter Tryz.func170,Tryz.ntmps170;by_cases h1:1≤n
 ·by_cases h2:n≤200
  ·go_wp2_with fail;go_ret;exact ⟨by simp [mcB,h1,h2],rfl⟩
  ·go_wp2_with fail;go_ret;exact ⟨by simp [mcB,h1,h2],rfl⟩
 ·go_wp2_with fail;go_ret;exact ⟨by simp [mcB];omega,rfl⟩
theorem zxe (n:Int) (v:Bool) (w:World) (h:wdB n=v):Calls Tryz.prog 112 #[.int .u8 n] w fun e w'=>e=.returned (.bool v)∧w=w':=by
 subst h;have hB:=zhy (zga n w);rw [wdB];generalize zgq n=p at *;generalize zf3 n=q at *;go_enter Tryz.func112,Tryz.ntmps112;go_wp2_with fail;refine hB.o.mono ?_;rintro e w1 ⟨rfl,rfl⟩;go_wp2_with fail;go_ret;exact ⟨rfl,rfl⟩
theorem zvf {L:List Ins} (h:mcB L.length=false):jq L=false:=by
 unfold mcB at h;unfold jq;cases h1:decide (1≤L.length) with
 | false=>rfl
 | true =>
  have e1:(1:Int)≤L.length:=by have:=of_decide_eq_true h1;omega
  rw [decide_eq_true e1,Bool.true_and] at h;have e2:¬L.length≤200:=by have:=of_decide_eq_false h;omega
  rw [decide_eq_false e2];rfl
theorem zsi {L:List Ins} (h:mcB L.length=true):jq L=L.all inM:=by
 unfold mcB at h;rw [Bool.and_eq_true,decide_eq_true_eq,decide_eq_true_eq] at h;unfold jq;rw [decide_eq_true (show 1≤L.length by omega),decide_eq_true (show L.length≤200 by omega)];rfl
theorem zmf (A:Option Addr) (c m:Nat) (L:List Ins) (w:World) (hr:Ri w A c L) (hm:L.length=m):Calls Tryz.prog 110 #[.slice A m c] w fun e w'=>e=.returned (.bool (jq L))∧Below w.heap.size w w':=by
 subst hm;have hlen:=hr.len;have HR:=zhy hr;clear hr;cases hv0:mcB L.length with
 | false =>
  have HN:=zhy (zvf hv0);go_enter Tryz.func110,Tryz.ntmps110;go_wp2_with fail;refine (zwu _ _ _ hv0).mono ?_;rintro e w1 ⟨rfl,rfl⟩;go_wp2_with fail;go_ret;exact ⟨by rw [HN.o];rfl,Below.refl _ _⟩
 | true =>
  have HC:=zhy (zsi hv0);go_enter Tryz.func110,Tryz.ntmps110;go_wp2_with fail;refine (zwu _ _ _ hv0).mono ?_;rintro e w1 ⟨rfl,rfl⟩;clear hv0;go_wp2_with fail;go_loopw [11] (fun i wr=>∃j:Nat,j≤L.length∧i=.int .i64 j∧Hid ((L.take j).all inM=true)∧Hid (Below w.heap.size w wr)) (fun i _=>L.length-(intOf i).toNat)
  case atStart=>exact ⟨0,by omega,rfl,rfl,zhy (Below.refl _ _)⟩
  case round =>
   obtain ⟨j,hj,rfl,HA,HB⟩:=hrel;by_cases h1:j<L.length
   ·obtain ⟨ad,rfl,hc0,hc1,hc2⟩:=(HR.o.keep HB.o).at_ h1;go_wp2_with fail;refine (zot L[j].1 L[j].2.1 L[j].2.2 _ _ rfl).mono ?_;rintro e w1 ⟨rfl,hb1⟩;have HB1:=zhy (qc (qc HB.o qh) hb1);clear hb1 hc0 hc1 hc2 HB;cases hv:opM L[j].1 L[j].2.1 L[j].2.2 with
    | true =>
     have HN:Hid ((L.take (j+1)).all inM=true):=by
      rw [Hid,List.take_add_one,zg7 h1];simp only [Option.toList_some,List.all_append,HA.o,List.all_cons,List.all_nil,Bool.and_true,Bool.true_and];exact hv
     clear HA;go_wp2_with fail;go_roundw
     case rel=>exact ⟨j+1,by omega,by go_num,HN,HB1⟩
     case measure=>simp [intOf];omega
    | false =>
     have HN:Hid (jq L=false):=by
      have:L.all inM=false:=List.all_eq_false.2 ⟨L[j],List.getElem_mem h1,by simp [inM,hv]⟩;rw [Hid,HC.o,this]
     go_wp2_with fail;go_ret;exact ⟨by rw [HN.o];rfl,HB1.o⟩
   ·obtain rfl:j=L.length:=by omega
    have HN:Hid (jq L=true):=by
     have h2:=HA.o;rw [List.take_length] at h2;rw [Hid,HC.o,h2]
    clear HA;go_wp2_with fail;go_ret;exact ⟨by rw [HN.o];rfl,HB.o⟩
theorem zuh {w w':World} (hb:Below w.heap.size w w') (row:Option Nat):w.grownBy w' row:=⟨hb.os,hb.tape,hb.output,hb.size,fun i hi _=>hb.block i hi⟩
theorem In.grown {w w':World} {B:Nat} {k a b:Int} (h:In w B k a b) {row:Option Nat} (hg:w.grownBy w' row) (hne:some B≠row):In w' B k a b:=by
 obtain ⟨h1,h2,h3,h4,h5,h6,h7⟩:=h;have hB:=hg.block B h1 hne;have hc:∀i,w'.cell? ⟨B,i,none⟩=w.cell? ⟨B,i,none⟩:=fun i=>World.cell?_of_block (w:=w) hB;have hf:∀i,w'.frozen? ⟨B,i,none⟩=w.frozen? ⟨B,i,none⟩:=fun i=>World.frozen?_of_block (w:=w) hB;exact ⟨Nat.lt_of_lt_of_le h1 hg.size,(hc _).trans h2,(hc _).trans h3,(hc _).trans h4,(hf _).trans h5,(hf _).trans h6,(hf _).trans h7⟩
theorem zwd {n:Int} (h0:0≤n) (h:n<256):zan 1 n=[n]:=by
 have:=(zy (k:=1) (n:=n) (by omega) (by omega) h0 (by simpa [zbb] using h)).2;rw [show ((1:Nat):Int)=1 from rfl] at this;rw [this];simp [qu];omega
theorem qcb {n:Int} (h0:0≤n) (h:n≤1024):zan 2 n=[n % 256,n / 256]:=by
 have:=(zy (k:=2) (n:=n) (by omega) (by omega) h0 (by simp [zbb];omega)).2;rw [show ((2:Nat):Int)=2 from rfl] at this;rw [this];simp [qu];omega
def qdz (B:Nat) (v v':Value):Prop:=v'.ownBlock=v.ownBlock∨∃g,v'.ownBlock=some g∧B≤g
theorem zpw (base:Nat) (W k:Int) (D:List Int) (hD:zan W k=D) (A:Option Addr) (n c:Nat) (X:List Int) (w:World) (hown:w.ownsRow base 5 1 (.slice A n c) n (cel X)) (hbase:base≤w.heap.size) (hs:n+D.length≤1000000) :
  Calls Tryz.prog 111 #[.slice A n c,.int .i64 W,.int .i64 k] w fun e w'=>∃A' c',e=.returned (.slice A' (n+D.length) c')∧w'.ownsRow base 5 1 (.slice A' (n+D.length) c') (n+D.length) (cel (X++D)) ∧
   w.grownBy w' (Value.slice A n c).ownBlock∧Below base w w'∧qdz w.heap.size (.slice A n c) (.slice A' (n+D.length) c'):=by
 have hinfo:=Tryz.info5;rw [Option.map_eq_some_iff] at hinfo;obtain ⟨i0,hi,hz⟩:=hinfo;simp only [Prod.mk.injEq] at hz;obtain ⟨hz0,hz1,hz2⟩:=hz;have P:=fun w=>zhy (zcq W k w);have hBy:=zt6 W k;rw [hD] at *;have HBY:=zhy hBy;clear hBy;generalize zcn W k=E at *;go_enter Tryz.func111,Tryz.ntmps111;go_wp2_with fail;refine (P _).o.mono ?_;rintro e w1 ⟨A1,c1,rfl,ho1,hb1⟩;have HOW:=zhy hown;have HR:=zhy (qt ho1 HBY.o);have HB:=zhy hb1;have hsz:=hb1.size;clear ho1 hb1 hown P;go_wp2_with (at_builtin;refine qa _ rfl _ _ 40 rfl base 5 i0 Tryz.underlying40 hi hz0 hz1 hz2 _ n X rfl (zmv HOW.o HB.o) _ _ c1 D rfl HR.o rfl (by omega) (by omega) ?_);intro A2 c2 w2 ho2 hg2 hb2 hor;have H1:=zhy ho2;have H2:=zhy hg2;have H3:=zhy hb2;have H4:=zhy hor;clear ho2 hg2 hb2 hor;go_wp2_with fail;go_ret;refine ⟨A2,c2,rfl,H1.o,(zuh HB.o _).trans H2.o,(HB.o.mono hbase).trans H3.o,?_⟩;rcases H4.o with h | h
 ·exact .inl h
 ·exact .inr ⟨_,h,hsz⟩
theorem zsy (A:Option Addr) (c m:Nat) (L:List Ins) (w:World) (hr:Ri w A c L) (hm:L.length=m) (hc:jq L=true):Calls Tryz.prog 67 #[.slice A m c] w fun e w'=>∃A' c',e=.returned (.tuple #[.slice A' (ze8 L).length c',.int .i64 0])∧w'.ownsRow w.heap.size 5 1 (.slice A' (ze8 L).length c') (ze8 L).length (cel (ze8 L))∧Below w.heap.size w w':=by
 subst hm;have hc':=hc;simp only [jq,Bool.and_eq_true,decide_eq_true_eq] at hc';obtain ⟨⟨hl1,hl2⟩,hall⟩:=hc';have HALL:=zhy (List.all_eq_true.1 hall);have HC:=zhy hc;have HW:=zhy hr;clear hc hall;have hp1:zan 1 (L.length:Int)=[(L.length:Int)]:=zwd (by omega) (by omega);go_enter Tryz.func67,Tryz.ntmps67;go_wp2_with fail;refine (zmf A c _ L _ hr rfl).mono ?_;rintro e w1 ⟨rfl,hb1⟩;rw [HC.o];have HB1:=zhy hb1;clear hb1 hr;go_wp2_with fail;refine (zpw w.heap.size 1 L.length [(L.length:Int)] hp1 none 0 0 [] _ (World.ownsRow_nil _ _ _ _) HB1.o.size (by simp)).mono ?_;rintro e w2 ⟨A2,c2,rfl,ho2,-,hb2,-⟩;have HO2:=zhy ho2;have HB2:=zhy (HB1.o.trans hb2);clear ho2 hb2 hp1;go_wp2_with fail
 go_loopw [4,15] (fun o i wr=>∃(j:Nat) (A':Option Addr) (c':Nat) (X:List Int) (N:Nat),j≤L.length∧i=.int .i64 j∧o=.slice A' N c'∧N≤1+3*j∧Hid (X=(L.length:Int)::(L.take j).flatMap opr∧X.length=N∧wr.ownsRow w.heap.size 5 1 (.slice A' N c') N (cel X))∧Hid (Below w.heap.size w wr))
  (fun _ i _=>L.length-(intOf i).toNat)
 case atStart=>exact ⟨0,_,_,[(L.length:Int)],1,by omega,rfl,rfl,by omega,zhy ⟨by simp,rfl,HO2.o⟩,HB2⟩
 case round =>
  obtain ⟨j,A',c',X,N,hj,rfl,rfl,hN,HX,HB3⟩:=hrel;clear HO2 HB2 HB1;by_cases h1:j<L.length
  ·obtain ⟨ad,rfl,x0,x1,x2⟩:=(HW.o.keep HB3.o).at_ h1;have hok:=HW.o.1 _ (List.getElem_mem h1);obtain ⟨g1,g2,g3⟩:=zgl (HALL.o _ (List.getElem_mem h1));have hb0:=hok.1;have hq1:=zhy (zwd hb0.1 hb0.2);have hq2:=zhy (qcb g1 g2);have HI:=zhy (In.new wr L[j].1 L[j].2.1 L[j].2.2);have HO:=zhy (zmv HX.o.2.2 (qh (a:=.cells #[.int .u8 L[j].1,.int .i64 L[j].2.1,.int .i64 L[j].2.2] 57)));have HB4:=zhy (HB3.o.alloc HB3.o.size (.cells #[.int .u8 L[j].1,.int .i64 L[j].2.1,.int .i64 L[j].2.2] 57));have hne:Hid (some wr.heap.size≠(Value.slice A' N c').ownBlock):=zhy fun e=>by have:=HX.o.2.2.lt _ e.symm;omega
   have HX1:=zhy HX.o.1;have HX2:=zhy HX.o.2.1;have HN1:Hid ((X++[L[j].1]).length=N+1):=by rw [Hid,List.length_append,HX2.o];rfl
   clear HX hok;have hH0:wr.heap.size<(wr.alloc (.cells #[.int .u8 L[j].1,.int .i64 L[j].2.1,.int .i64 L[j].2.2] 57)).heap.size:=by simp
   go_wp2_with fail;refine (zpw w.heap.size 1 L[j].1 [L[j].1] hq1.o A' N c' X _ HO.o HB4.o.size (by simp;omega)).mono ?_;rintro e w4 ⟨A4,c4,rfl,ho4,hg4,hb4,hf4⟩;have HO4:=zhy ho4;have HI4:=zhy (HI.o.grown hg4 hne.o);have HB5:=zhy (HB4.o.trans hb4);clear ho4 hg4 hb4 hf4 x0 x1 x2 HI HB4 HO hne;obtain ⟨z,z0,z1,z2,-⟩:=HI4.o;go_wp2_with fail;refine (zxe _ _ _ rfl).mono ?_;rintro e w5 ⟨rfl,rfl⟩;cases hv:wdB L[j].1 with
   | true =>
    have HN:Hid (X++[L[j].1]++[L[j].2.1 % 256,L[j].2.1 / 256]=(L.length:Int)::(L.take (j+1)).flatMap opr):=by
     rw [Hid,HX1.o,List.take_add_one,zg7 h1,Option.toList_some,List.flatMap_append,List.flatMap_cons,List.flatMap_nil,List.append_nil,opr,hv,if_pos rfl,List.append_assoc,List.cons_append];rfl
    go_wp2_with fail;refine (zpw w.heap.size 2 L[j].2.1 [L[j].2.1 % 256,L[j].2.1 / 256] hq2.o A4 (N+1) c4 (X++[L[j].1]) _ HO4.o HB5.o.size (by simp;omega)).mono ?_;rintro e w6 ⟨A6,c6,rfl,ho6,-,hb6,-⟩;have HO6:=zhy ho6;have HB6:=zhy (HB5.o.trans hb6);clear ho6 hb6 z0 z1 z2;go_wp2_with fail;go_roundw
    case rel=>exact ⟨j+1,A6,c6,_,N+1+2,by omega,by go_num,rfl,by omega,zhy ⟨HN.o,by rw [List.length_append,HN1.o];rfl,HO6.o⟩,HB6⟩
    case measure=>simp [intOf];omega
   | false =>
    have HN:Hid (X++[L[j].1]=(L.length:Int)::(L.take (j+1)).flatMap opr):=by
     rw [Hid,HX1.o,List.take_add_one,zg7 h1,Option.toList_some,List.flatMap_append,List.flatMap_cons,List.flatMap_nil,List.append_nil,opr,hv,if_neg (by decide),List.cons_append]
    go_wp2_with fail;go_roundw
    case rel=>exact ⟨j+1,A4,c4,_,N+1,by omega,by go_num,rfl,by omega,zhy ⟨HN.o,HN1.o,HO4.o⟩,HB5⟩
    case measure=>simp [intOf];omega
  ·obtain rfl:j=L.length:=by omega
   have hx:=HX.o;rw [List.take_length,←ze8] at hx;obtain ⟨rfl,rfl,ho⟩:=hx;have HO:=zhy ho;clear ho HX;go_wp2_with fail;go_ret2;exact ⟨A',c',rfl,HO.o,HB3.o⟩
theorem zud (A:Option Addr) (c m:Nat) (L:List Ins) (w:World) (hr:Ri w A c L) (hm:L.length=m) (hc:jq L=false):Calls Tryz.prog 67 #[.slice A m c] w fun e w'=>e=.returned (.tuple #[.slice none 0 0,.int .i64 40])∧Below w.heap.size w w':=by
 subst hm;have HC:=zhy hc;clear hc;go_enter Tryz.func67,Tryz.ntmps67;go_wp2_with fail;refine (zmf A c _ L _ hr rfl).mono ?_;rintro e w1 ⟨rfl,hb1⟩;rw [HC.o];have HB:=zhy hb1;clear hb1;go_wp2_with fail;go_ret2;exact ⟨rfl,HB.o⟩
theorem qa7 (F:Fct):qca F:=fun A c m L w _ hr hm _=>by
 cases hc:jq L with
 | true =>
  refine (zsy A c m L w hr hm hc).mono ?_;rintro e w1 ⟨A',c',rfl,ho,hb⟩;refine ⟨A',c',?_,?_,hb⟩
  ·rw [byL,cdE,hc];rfl
  ·rw [byL,hc];exact ho
 | false =>
  refine (zud A c m L w hr hm hc).mono ?_;rintro e w1 ⟨rfl,hb⟩;refine ⟨none,0,?_,?_,hb⟩
  ·rw [byL,cdE,hc];rfl
  ·rw [byL,hc];exact World.ownsRow_nil _ _ _ _
end Go.Proofs.YtnjgkkoiamiaaaaGreatDoor
