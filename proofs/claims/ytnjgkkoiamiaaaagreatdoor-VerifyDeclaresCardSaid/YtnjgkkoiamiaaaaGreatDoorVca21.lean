import Derived.Test.YtnjgkkoiamiaaaaGreatDoorVca1
import Derived.Conc.LoneCalls
import Derived.Conc.LoneSelectN
import Derived.Test.YtnjgkkoiamiaaaaGreatDoorVca6
import Derived.Test.YtnjgkkoiamiaaaaGreatDoorVca20
import Derived.Test.YtnjgkkoiamiaaaaGreatDoorVca11
import Derived.Laws.CopyOwn
import Derived.Deep.RegionLaw
import Derived.Test.YtnjgkkoiamiaaaaGreatDoorVca15
import Derived.Test.YtnjgkkoiamiaaaaGreatDoorVca4
import Derived.Test.YtnjgkkoiamiaaaaGreatDoorVca2
import Derived.OwnWalk
import Derived.Laws.OwnMore
set_option maxRecDepth 100000
set_option maxHeartbeats 16000000
set_option linter.unusedSimpArgs false
set_option linter.unusedVariables false
namespace Go.Proofs.YtnjgkkoiamiaaaaGreatDoor
open Go.RowKit
section
open Go.RowKit Go.Conc
theorem st13_take {L:List Ins} {i:Nat} {x:Ins} (h:L[i]?=some x):st13 (L.take (i+1))=(st13 (L.take i)||x.1==5):=by
 unfold st13;rw [List.take_add_one,h,List.any_append];simp
theorem st13_yes {L:List Ins} {i:Nat} {x:Ins} (h:L[i]?=some x) (hx:(x.1==5)=true):st13 L=true:=by
 unfold st13;rw [List.any_eq_true];exact ⟨x,List.mem_of_getElem? h,hx⟩
theorem isStore_v (o a b:Int) (w:World):Calls Tryz.prog 100 #[.agg #[.int .u8 o,.int .i64 a,.int .i64 b]] w fun r w'=>r=.returned (.bool (o==5))∧Below w.heap.size w w':=by
 go_enter Tryz.func100,Tryz.ntmps100;go_wp2_with fail;go_ret;exact ⟨rfl,new1⟩
theorem indexI_v (A:Option Addr) (c m:Nat) (L:List Ins) (w:World) (hr:Ri w A c L) (hm:L.length=m):Calls Tryz.prog 165 #[.slice A m c,.func (.func 100) #[] #[]] w fun r w'=>∃i:Int,r=.returned (.int .i64 i)∧decide (0≤i)=st13 L∧Below w.heap.size w w':=by
 have HR:=zhy hr;have HM:=zhy hm;have hm9:m≤9223372036854775807:=by have:=hr.len;omega
 clear hr hm;go_enter Tryz.func165,Tryz.ntmps165;go_wp2_with fail;go_loopw [8] (fun iv wr=>∃i:Nat,i≤m∧iv=.int .i64 i∧Hid (st13 (L.take i)=false)∧Hid (Below w.heap.size w wr)) (fun iv _=>m-(intOf iv).toNat)
 case atStart=>exact ⟨0,by omega,rfl,zhy (by simp [st13]),zhy (Below.refl _ _)⟩
 case round =>
  obtain ⟨i,hi,rfl,HI,HB⟩:=hrel;rename World=>wr;by_cases h1:i<m
  ·obtain ⟨⟨o,a,z⟩,hx⟩:∃x,L[i]?=some x:=⟨_,zg7 (by rw [HM.out];exact h1)⟩;obtain ⟨al,hA,k1,k2,k3⟩:=(HR.out.keep HB.out).at9 hx;subst hA;have HX:=zhy hx;have HC:=zhy (isStore_v o a z wr);obtain ⟨v,hv⟩:∃v,(o==5)=v:=⟨_,rfl⟩;have HV:=zhy hv;rw [hv] at HC;clear hx hv;go_wp2_with fail;refine HC.out.mono ?_;rintro r w2 ⟨rfl,hb⟩;have HB2:=zhy (below_on HB.out hb);clear hb HC k1 k2 k3;cases v with
   | true =>
    have HS:=zhy (st13_yes HX.out HV.out);go_wp2_with fail;go_ret;exact ⟨_,rfl,by rw [HS.out];simp,HB2.out⟩
   | false =>
    have HI2:Hid (st13 (L.take (i+1))=false):=zhy (by rw [st13_take HX.out,HI.out,HV.out];rfl);go_wp2_with fail;go_roundw
    case rel=>exact ⟨i+1,by omega,by go_num,HI2,HB2⟩
    case measure=>simp [intOf];omega
  ·obtain rfl:m=i:=by omega
   have HS:Hid (st13 L=false):=zhy (by
    have:=HI.out;rwa [List.take_of_length_le (by rw [HM.out];exact Nat.le_refl _)] at this)
   go_wp2_with fail;go_ret;exact ⟨_,rfl,by rw [HS.out];rfl,HB.out⟩
theorem containsI_v (A:Option Addr) (c m:Nat) (L:List Ins) (w:World) (hr:Ri w A c L) (hm:L.length=m):Calls Tryz.prog 99 #[.slice A m c,.func (.func 100) #[] #[]] w fun r w'=>r=.returned (.bool (st13 L))∧Below w.heap.size w w':=by
 have HC:=zhy (indexI_v A c m L w hr hm);clear hr hm;go_enter Tryz.func99,Tryz.ntmps99;go_wp2_with fail;refine HC.out.mono ?_;rintro r w2 ⟨i,rfl,hi,hb⟩;have HI:=zhy hi;have HB:=zhy hb;clear hi hb HC;go_wp2_with fail;go_ret;exact ⟨by rw [←HI.out];rfl,HB.out⟩
theorem stores_v (A:Option Addr) (c m:Nat) (L:List Ins) (w:World) (hr:Ri w A c L) (hm:L.length=m):Calls Tryz.prog 54 #[.slice A m c] w fun r w'=>r=.returned (.bool (st13 L))∧Below w.heap.size w w':=by
 have HC:=zhy (containsI_v A c m L w hr hm);clear hr hm;go_enter Tryz.func54,Tryz.ntmps54;go_wp2_with fail;refine HC.out.mono ?_;rintro r w2 ⟨rfl,hb⟩;have HB:=zhy hb;clear hb HC;go_wp2_with fail;go_ret;exact ⟨rfl,HB.out⟩
theorem own_at13 {w:World} {base e n c:Nat} {A:Option Addr} {xs:List Value} (h:w.ownsRow base e 1 (.slice A n c) n xs):∀ad:Addr,A=some ad→base≤ad.block:=by
 intro ad ha;subst ha;rcases h.2 with ⟨hv,-⟩ | ⟨g,cap,cur,hv,hg,-⟩
 ·cases hv
 ·injection hv with e1 e2 e3;injection e1 with e1;subst e1;exact hg
theorem made13 (n:Nat) (hn:n≤1000) (w:World):(Instr.makeSlice 88 (.int .i64 (n:Int)) (.int .i64 (n:Int))).run Tryz.prog w=.ok (.slice (some ⟨w.heap.size,0,none⟩) n n) (w.alloc (.cells (List.replicate n (.slice none 0 0)).toArray 59)):=by
 have hinfo:=Tryz.infoS11;rw [Option.map_eq_some_iff] at hinfo;obtain ⟨i,hi,hz⟩:=hinfo;simp only [Prod.mk.injEq] at hz;obtain ⟨hz0,hz1,hz2⟩:=hz;have hr:=run_make (P:=Tryz.prog) w 88 59 i (.slice none 0 0) Tryz.underlying88 hi hz0 .i64 .i64 n n (by omega) (Int.le_refl _) (by rw [hz2];omega) (by omega);rw [hr,hz1,Int.toNat_natCast,Nat.mul_one]
 have e:madeCells #[Value.slice none 0 0] n=(List.replicate n (Value.slice none 0 0)).toArray:=by
  rw [←toList_madeCells_one,Array.toArray_toList]
 rw [←e];rfl
def Cg13 (w w':World) (d:Md) (r:Ending):Prop:=
 (ba11 d=true∧r=.returned (.tuple #[.slice none 0 0,.int .i64 2])∧Below w.heap.size w w') ∨
 (ba11 d=false∧∃A c Y,r=.returned (.tuple #[.slice A d.s.length c,.int .i64 0])∧Go11 w' w.heap.size A c Y∧Y.length=d.s.length∧Y.map (·.2.2)=gre11 (fun t k=>e11 d k t) d.s.length∧Below w.heap.size w w')
def Np13 (Y:List Gz) (A:Option Addr):Prop:=∀z∈Y,∀b,(gv11 z).ownBlock=some b→∀ad:Addr,A=some ad→ad.block≠b
theorem Np13.put {Y:List Gz} {A:Option Addr} (h:Np13 Y A) {t g':Nat} {y z:Gz} (ht:Y[t]?=some y) (hz:(gv11 z).ownBlock=some g') {w:World} (hl:(gv11 y).ownBlock=some g'∨g'=w.heap.size) (ha:∀ad:Addr,A=some ad→ad.block<w.heap.size):Np13 (Y.set t z) A:=by
 intro x hx b hb ad hA;rcases List.mem_or_eq_of_mem_set hx with hx | hx
 ·exact h x hx b hb ad hA
 ·subst hx;rw [hz] at hb;injection hb with hb;subst hb;rcases hl with hl | hl
  ·exact h y (List.mem_of_getElem? ht) g' hl ad hA
  ·have:=ha ad hA;omega
theorem rn_past13 {w w':World} {A:Option Addr} {c:Nat} {K:List Int} (hr:Rn w A c K) {o:Obj} {row:Option Nat} (hg:(w.alloc o).grownBy w' row) (h1:∀b,row=some b→∀ad:Addr,A=some ad→ad.block≠b) {g t:Nat} (h2:∀ad:Addr,A=some ad→ad.block≠g) (v:Value):Rn (w'.setCell ⟨g,t,none⟩ v) A c K:=by
 have h0:Rn (w.alloc o) A c K:=hr.keep new1;have h3:=(Fr11.of_grown (X:=fun j=>some j=row∨j=g) hg (fun j hj=>.inl hj)).set (p:=⟨g,t,none⟩) (.inr (.inr rfl)) v;refine h3.rn h0 fun ad ha _=>?_;rintro (h | h)
 ·exact h1 _ h.symm ad ha rfl
 ·exact h2 ad ha h
theorem lt_of_rn13 {w:World} {A:Option Addr} {c:Nat} {K:List Int} (hr:Rn w A c K) (hk:0<K.length):∀ad:Addr,A=some ad→ad.block<w.heap.size:=by
 intro ad ha;subst ha;rcases hr.2.2 with ⟨h,-⟩ | ⟨ad',h,hc⟩
 ·cases h
 ·injection h with h;subst h;have:=cell_lt (hc 0 _ (zg7 hk));rwa [add_block] at this
theorem callersOf_v (y:Ma) (d:Md) (w:World) (hq:Hq w y d) (bs:d.s.length≤1000) (bl:∀z∈d.s,z.2.length≤1000):Calls Tryz.prog 52 #[dv y d] w fun r w'=>Cg13 w w' d r:=by
 have S0:=zhy ((((Sx.start w).add (fQm y d) hq).mkD y d));obtain ⟨B,hB⟩:∃B,w.heap.size=B:=⟨_,rfl⟩;have HBB:=zhy hB;rw [hB] at S0;have HBS:=zhy bs;have HBL:=zhy bl;have hmk:=made13 d.s.length bs;clear hq bl;go_enter Tryz.func52,Tryz.ntmps52;go_upto_region 1 with (fail);change Code.wp _ _ _ _ (w.alloc (dcel y d));generalize w.alloc (dcel y d)=w1 at S0 ⊢;clear hB;obtain ⟨-,⟨d0,d1,d2,d3,d4⟩,-⟩:=S0.out;go_wp2_with fail;clear d0 d1 d2 d3 d4;obtain ⟨g,hg⟩:∃g,w1.heap.size=g:=⟨_,rfl⟩;have HG1:=zhy hg;rw [hg];obtain ⟨n,hn⟩:∃n,d.s.length=n:=⟨_,rfl⟩;have HN:=zhy hn;rw [hn] at bs ⊢
 have HC0:Hid (Cb11 (w1.alloc (.cells (List.replicate n (Value.slice none 0 0)).toArray 59)) w1.heap.size g n (List.replicate n (none,0,[]))):=zhy ⟨by simp,by
   have:=World.ownsRow_lit (base:=w1.heap.size) (size:=1) (e:=59) w1 (List.replicate n (Value.slice none 0 0)).toArray n (Nat.le_refl _) (by unfold maxLen;omega) (by simp);rw [←hg]
   simpa [cg11,gv11] using this,fun z hz=>by
   rw [List.mem_replicate] at hz;rw [hz.2]
   exact World.ownsRow_nil _ _ _ _,fun i j y z _ hy hz b hb=>by
   have:=List.mem_of_getElem? hy;rw [List.mem_replicate] at this;rw [this.2] at hb;cases hb⟩
 have HM0:Hid ((List.replicate n ((none,0,[]):Gz)).map (·.2.2)=(List.range n).map fun t=>cb11 (e11 d) n 0 0 t):=zhy (by
  rw [List.map_replicate];apply List.ext_getElem?;intro j;by_cases hj:j<n
  ·rw [List.getElem?_replicate_of_lt hj,List.getElem?_map,List.getElem?_range hj,Option.map_some,cb11_zero];rfl
  ·rw [List.getElem?_eq_none (by simpa using hj),List.getElem?_eq_none (by simpa using hj)])
 clear hg hmk hn;go_loopw [16] (fun iv wr=>∃(k:Nat) (Y:List Gz),k≤n∧iv=.int .i64 k∧Hid (Cb11 wr w1.heap.size g n Y)∧Hid (Y.map (·.2.2)=(List.range n).map fun t=>cb11 (e11 d) n k 0 t)∧Hid (∀j,j<k→bd11 (co11 d j) n=false)∧Hid (Below w1.heap.size w1 wr)) (fun iv _=>n-(intOf iv).toNat)
 case atStart=>exact ⟨0,_,by omega,rfl,HC0,HM0,zhy (fun j hj=>by omega),zhy new1⟩
 case round =>
  clear HC0 HM0;obtain ⟨k,Y,hk,rfl,HC,HM,HBD,HB⟩:=hrel;rename World=>wr;have SR:=zhy (S0.out.call HB.out);by_cases h1:k<n
  ·have HWH:=zhy (whom11_v y d (k:Int) wr SR.out.2.2.1 HBS.out HBL.out);rw [Hid,wh11_ca (by rw [HN.out];exact h1),HN.out] at HWH;have HWH:=zhy HWH;obtain ⟨-,⟨d0,d1,d2,d3,d4⟩,-⟩:=SR.out;go_wp2_with fail;refine HWH.out.mono ?_;rintro r w3 ⟨A3,c3,rfl,ho,hb⟩;cases hbd:bd11 (co11 d k) n with
   | true =>
    have hT:ca11 (co11 d k) n=([],2):=by rw [ca11,if_pos hbd]
    have HBA:Hid (ba11 d=true):=zhy (by
     cases h:ba11 d with
     | true=>rfl
     | false =>
      have:=ba11_at h (k:=k) (by rw [HN.out];exact h1);rw [HN.out,hbd] at this;cases this)
    have HBF:=zhy (SR.out.call hb).1;rw [hT];clear ho hb hbd hT HWH d0 d1 d2 d3 d4;go_wp2_with fail;go_ret2;exact .inl ⟨HBA.out,rfl,HBF.out⟩
   | false =>
    obtain ⟨K,hK⟩:∃K,ns11 ((List.range n).filter (e11 d k))=K:=⟨_,rfl⟩
    have hT:ca11 (co11 d k) n=(K,0):=by
     rw [ca11,if_neg (by rw [hbd];simp),←hK];rfl
    rw [hT] at ho ⊢
    have HBD2:Hid (∀j,j<k+1→bd11 (co11 d j) n=false):=zhy (fun j hj=>by
     by_cases hjk:j=k
     ·rw [hjk];exact hbd
     ·exact HBD.out j (by omega))
    obtain ⟨kn,hkn⟩:∃kn,K.length=kn:=⟨_,rfl⟩;dsimp only at ho ⊢;rw [hkn] at ho ⊢;have HKN:=zhy hkn;have HKE:=zhy hK;have hkn9:kn≤n:=by rw [←hkn,←hK];exact fil_len11 _ _
    have HC3:=zhy (HC.out.keep hb);have HB3:=zhy (below_on HB.out hb);have HR3:=zhy (Rn.of_own ho).1;have HAT:=zhy (own_at13 ho)
    have HNP:Hid (Np13 Y A3):=zhy fun z hz b hzb ad ha e=>by
     have h2:=((HC.out.each z hz).lt b hzb).2;have h3:=own_at13 ho ad ha;omega
    have HGN:Hid (∀ad:Addr,A3=some ad→ad.block≠g):=zhy fun ad ha e=>by
     have h2:=(HC.out.row.lt g rfl).2;have h3:=own_at13 ho ad ha;omega
    clear ho hb hbd hT HWH d0 d1 d2 d3 d4 hK hkn SR HC HB HBD;go_wp2_with fail;go_loopw [30] (fun jv wq=>∃(i:Nat) (Y:List Gz),i≤kn∧jv=.int .i64 i∧Hid (Cb11 wq w1.heap.size g n Y)∧Hid (Y.map (·.2.2)=(List.range n).map fun t=>cb11 (e11 d) n k i t)∧Hid (Below w1.heap.size w1 wq)∧Hid (Rn wq A3 c3 K)∧Hid (Np13 Y A3)) (fun jv _=>kn-(intOf jv).toNat)
    case atStart=>exact ⟨0,Y,by omega,rfl,HC3,HM,HB3,HR3,HNP⟩
    case round =>
     clear HC3 HM HB3 HR3 HNP;obtain ⟨i,Y2,hi,rfl,HC,HM,HB,HR,HNP⟩:=hrel;rename World=>wq;by_cases h2:i<kn
     ·obtain ⟨t,ht⟩:∃t,((List.range n).filter (e11 d k))[i]?=some t:=⟨_,zg7 (by have:=HKN.out;rw [←HKE.out,ns11,List.length_map] at this;omega)⟩;have htn:t<n:=by have:=List.mem_of_getElem? ht;rw [List.mem_filter,List.mem_range] at this;exact this.1
      obtain ⟨bd,hAk,z0⟩:=HR.out.at_ (show K[i]?=some (t:Int) by rw [←HKE.out];exact ns11_at ht);have HLT:=zhy (lt_of_rn13 HR.out (by rw [HKN.out];omega));subst hAk;obtain ⟨⟨At,ct,Lt⟩,hyt,hyl⟩:=rel_at11 HC.out.len HM.out htn;dsimp only at hyl;obtain ⟨m,hm⟩:∃m,Lt.length=m:=⟨_,rfl⟩;have x0:=(HC.out.row.cellAt t (by rw [Nat.mul_one];exact htn)).trans (show (cg11 Y2)[t]?=some (gv11 (At,ct,Lt)) by rw [cg11,List.getElem?_map,hyt];rfl);rw [gv11] at x0;dsimp only at x0;rw [hm] at x0;have xf:=HC.out.row.frozenAt t;have HT:=zhy ht;have HYT:=zhy hyt;have HYL:=zhy hyl;have HMM:=zhy hm
      have hm9:m≤2000:=by
       rw [←hm,hyl,cb11,List.length_append];have:=fil_len11 (fun j=>e11 d j t) k;rw [List.length_map] at this ⊢;split<;>simp<;>omega
      have HOT:Hid ((wq.alloc (.cells #[.int .i64 (k:Int)] 3)).ownsRow w1.heap.size 3 1 (.slice At m ct) m (ci9 Lt)):=zhy (by
       have:=(HC.out.each _ (List.mem_of_getElem? hyt)).alloc (.cells #[.int .i64 (k:Int)] 3);rw [gv11] at this;dsimp only at this;rwa [hm] at this)
      have hc1:(wq.alloc (.cells #[.int .i64 (k:Int)] 3)).cell? ((⟨wq.heap.size,0,none⟩:Addr).add 0)=some (.int .i64 (k:Int)):=by simp [go_sem,Addr.add]
      have HGV:Hid (gv11 (At,ct,Lt)=.slice At m ct):=zhy (by rw [gv11,HMM.out]);have HHN:=zhy (show (cg11 Y2).length=n by rw [cg11,List.length_map,HC.out.len]);clear ht hyt hyl hm;go_wp2_with (at_builtin;refine wpList_append_n1 rfl (.tmp 39) (.tmp 41) 59 Tryz.underlying59 rfl w1.heap.size _ m Lt rfl HOT.out _ (k:Int) rfl hc1 (by omega) (by have:=HB.out.size;simp;omega) ?_;intro g' c' w9 ho9 hg9 hl9;have hrow9:=own_grown (HC.out.row.alloc _) HOT.out (by decide) hg9;have x9:=(hrow9.cellAt t (by omega)).trans (zg7 (by rw [HHN.out];omega));have xf9:=hrow9.frozenAt t;have HC9:=zhy (HC.out.put HYT.out HMM.out (w':=w9) (x:=(k:Int)) (g':=g') (c':=c') ho9 (by rw [HGV.out];exact hg9) (by rw [HGV.out];exact hl9));have HB9:=zhy (((HB.out.alloc HB.out.size (.cells #[.int .i64 (k:Int)] 3)).grown hg9 (by have:=HB.out.size;rw [size1];omega) (fun q hq=>(HOT.out.lt q hq).1)).setCell (p:=⟨g,t,none⟩) (by rw [HG1.out];exact Nat.le_refl _) (.slice (some ⟨g',0,none⟩) (m+1) c'));have HR9:=zhy (rn_past13 HR.out hg9 (fun b hb=>HNP.out _ (List.mem_of_getElem? HYT.out) b (by rw [HGV.out];exact hb)) HGN.out (t:=t) (.slice (some ⟨g',0,none⟩) (m+1) c'));have HNP9:=zhy (HNP.out.put (z:=(some ⟨g',0,none⟩,c',Lt++[(k:Int)])) HYT.out rfl (w:=wq.alloc (.cells #[.int .i64 (k:Int)] 3)) (by rw [HGV.out];exact hl9) (fun ad ha=>by have:=HLT.out ad ha;rw [size1];omega));clear ho9 hg9 hl9 hrow9);have HM9:Hid ((Y2.set t (some ⟨g',0,none⟩,c',Lt++[(k:Int)])).map (·.2.2)=(List.range n).map fun t=>cb11 (e11 d) n k (i+1) t):=zhy (rel_set11 HM.out htn (by dsimp only;rw [cb11_step HT.out,if_pos rfl,HYL.out]) fun j hj=>by rw [cb11_step HT.out,if_neg hj]);go_roundw
      case rel=>exact ⟨i+1,_,by omega,by go_num,HC9,HM9,HB9,HR9,HNP9⟩
      case measure=>simp [intOf];omega
     ·obtain rfl:kn=i:=by omega
      have HM2:Hid (Y2.map (·.2.2)=(List.range n).map fun t=>cb11 (e11 d) n (k+1) 0 t):=zhy (by
       rw [HM.out];refine List.map_congr_left fun t ht=>?_;exact cb11_next (by have:=HKN.out;rw [←HKE.out,ns11,List.length_map] at this;omega) (List.mem_range.1 ht))
      go_wp2_with fail;go_roundw
      case rel=>exact ⟨k+1,Y2,by omega,by go_num,HC,HM2,HBD2,HB⟩
      case measure=>simp [intOf];omega
  ·obtain rfl:n=k:=by omega
   have HMM:Hid (Y.map (·.2.2)=gre11 (fun t k=>e11 d k t) n):=zhy (by
    rw [HM.out,gre11];refine List.map_congr_left fun t _=>?_;rw [cb11_zero])
   have HBA:Hid (ba11 d=false):=zhy (ba11_of (by rw [HN.out];exact HBD.out));have HBF:=zhy SR.out.1;have hsz:w.heap.size≤w1.heap.size:=S0.out.1.size;go_wp2_with fail;go_ret2;exact .inr ⟨HBA.out,_,_,Y,by rw [HN.out];rfl,HC.out.go.base hsz,by rw [HN.out];exact HC.out.len,by rw [HN.out];exact HMM.out,HBF.out⟩
end
section
open Go.RowKit Go.Conc
open Go.RowKit Go.Conc
open Go.RowKit Go.Conc
open Go.RowKit Go.Conc
def ck13 (d:Md) (k:Nat):Bool:=(re13 d k&&so13 d k)||(!re13 d k&&(List.range d.s.length).any fun i=>e11 d i k&&re13 d i)
theorem sd13_ck (d:Md):sd13 d=(List.range d.s.length).all fun k=>!ck13 d k:=by
 rw [Bool.eq_iff_iff,sd13_iff,List.all_eq_true];simp only [List.mem_range,ck13,Bool.not_eq_true',Bool.or_eq_false_iff,Bool.and_eq_false_iff,Bool.not_eq_false',List.any_eq_false,Bool.and_eq_true,not_and,Bool.not_eq_true];constructor
 ·intro h k hk;cases hr:re13 d k with
  | true=>exact ⟨.inr (h k hk hr).1,.inl rfl⟩
  | false =>
   refine ⟨.inl rfl,.inr fun i hi he=>?_⟩;cases hi2:re13 d i with
   | false=>rfl
   | true =>
    have:=(h i hi hi2).2 k hk he;rw [hr] at this;cases this
 ·intro h k hk hr;refine ⟨?_,fun i hi he=>?_⟩
  ·rcases (h k hk).1 with h1 | h1
   ·rw [hr] at h1;cases h1
   ·exact h1
  ·rcases (h i hi).2 with h1 | h1
   ·exact h1
   ·have:=h1 k hk he;rw [hr] at this;cases this
theorem any13 (d:Md) (n k:Nat):(ns11 ((List.range n).filter fun j=>e11 d j k)).any (fun x=>re13 d x.toNat)=(List.range n).any fun i=>e11 d i k&&re13 d i:=by
 rw [ns11,List.any_map,List.any_filter];congr 1
theorem reads13_v (y:Ma) (d:Md) (B k:Nat) (w:World) (hq:Hq w y d) (hd:Db w B y d) (hk:k<d.s.length):Calls Tryz.prog 53 #[.int .i64 (k:Int),.pointer (some ⟨B,0,none⟩)] w fun r w'=>r=.returned (.bool (re13 d k))∧w=w':=by
 obtain ⟨d0,d1,d2,d3,d4⟩:=hd;have hzl:=hq.zlen;obtain ⟨ad8,hA8,hat,hok⟩:=hq.2.2.1.at_ (i:=k) (by omega);have hme:=hq.zat (i:=k) (by omega) hk;obtain ⟨zz,hzz⟩:∃zz,y.Z[k]'(by omega)=zz:=⟨_,rfl⟩;rw [hzz] at hat hok hme;obtain ⟨⟨XA,xc,XB,xd,XD,xk,xe⟩,h,L⟩:=zz;have HR:Hid (re13 d k=h.q):=zhy (by rw [re13,hd13,zg7 hk,hme];rfl);obtain ⟨-,-,-,g3,-⟩:=hat;dsimp only at g3;rw [hA8] at d3;clear hq hme hzz hok hA8;go_enter Tryz.func53,Tryz.ntmps53;go_wp2_with fail;go_ret;exact ⟨by rw [HR.out];rfl,rfl⟩
theorem indexN13_v (y:Ma) (d:Md) (B:Nat) (A:Option Addr) (c m:Nat) (K:List Int) (w:World) (hq:Hq w y d) (hd:Db w B y d) (hr:Rn w A c K) (hm:K.length=m) (hK:∀x∈K,∃j:Nat,x=(j:Int)∧j<d.s.length) :
  Calls Tryz.prog 101 #[.slice A m c,.func (.func 53) #[] #[.pointer (some ⟨B,0,none⟩)]] w fun r w'=>∃i:Int,r=.returned (.int .i64 i)∧decide (0≤i)=(K.any fun x=>re13 d x.toNat)∧w=w':=by
 have HR:=zhy hr
 have HM:=zhy hm
 have HK:=zhy hK
 have HQ:=zhy hq
 have HD:=zhy hd
 have hm9:m≤9223372036854775807:=by have:=hr.1;have:=hr.2.1;unfold maxLen at this;omega
 clear hr hm hK hq hd
 go_enter Tryz.func101,Tryz.ntmps101
 go_wp2_with fail
 go_loopw [8] (fun iv wr=>∃i:Nat,i≤m∧iv=.int .i64 i∧Hid (((K.take i).any fun x=>re13 d x.toNat)=false)∧w=wr) (fun iv _=>m-(intOf iv).toNat)
 case atStart=>exact ⟨0,by omega,rfl,zhy (by simp),rfl⟩
 case round =>
  obtain ⟨i,hi,rfl,HI,rfl⟩:=hrel
  by_cases h1:i<m
  ·obtain ⟨x,hx⟩:∃x,K[i]?=some x:=⟨_,zg7 (by rw [HM.out];exact h1)⟩
   obtain ⟨ad,hA,k1⟩:=HR.out.at_ hx
   obtain ⟨j,rfl,hj⟩:=HK.out x (List.mem_of_getElem? hx)
   subst hA
   have HX:=zhy hx
   have HC:=zhy (reads13_v y d B j w HQ.out HD.out hj)
   obtain ⟨v,hv⟩:∃v,re13 d j=v:=⟨_,rfl⟩
   have HV:=zhy hv
   rw [hv] at HC
   clear hx hv
   go_wp2_with fail
   refine HC.out.mono ?_
   rintro r w2 ⟨rfl,rfl⟩
   clear HC
   cases v with
   | true =>
    have HS:Hid ((K.any fun x=>re13 d x.toNat)=true):=zhy (by
     rw [List.any_eq_true];exact ⟨_,List.mem_of_getElem? HX.out,HV.out⟩)
    go_wp2_with fail
    go_ret
    exact ⟨_,rfl,by rw [HS.out];simp,rfl⟩
   | false =>
    have HI2:Hid (((K.take (i+1)).any fun x=>re13 d x.toNat)=false):=zhy (by
     rw [List.take_add_one,HX.out,List.any_append,HI.out];simpa using HV.out)
    go_wp2_with fail
    go_roundw
    case rel=>exact ⟨i+1,by omega,by go_num,HI2,trivial⟩
    case measure=>simp [intOf];omega
  ·obtain rfl:m=i:=by omega
   have HS:Hid ((K.any fun x=>re13 d x.toNat)=false):=zhy (by
    have:=HI.out;rwa [List.take_of_length_le (by rw [HM.out];exact Nat.le_refl _)] at this)
   go_wp2_with fail
   go_ret
   exact ⟨_,rfl,by rw [HS.out];rfl,rfl⟩
theorem containsN13_v (y:Ma) (d:Md) (B:Nat) (A:Option Addr) (c m:Nat) (K:List Int) (w:World) (hq:Hq w y d) (hd:Db w B y d) (hr:Rn w A c K) (hm:K.length=m) (hK:∀x∈K,∃j:Nat,x=(j:Int)∧j<d.s.length) :
  Calls Tryz.prog 55 #[.slice A m c,.func (.func 53) #[] #[.pointer (some ⟨B,0,none⟩)]] w fun r w'=>r=.returned (.bool (K.any fun x=>re13 d x.toNat))∧w=w':=by
 have HC:=zhy (indexN13_v y d B A c m K w hq hd hr hm hK)
 clear hr hm hq hd hK
 go_enter Tryz.func55,Tryz.ntmps55
 go_wp2_with fail
 refine HC.out.mono ?_
 rintro r w2 ⟨i,rfl,hi,rfl⟩
 have HI:=zhy hi
 clear hi HC
 go_wp2_with fail
 go_ret
 exact ⟨by rw [←HI.out];rfl,rfl⟩
theorem check13_v (y:Ma) (d:Md) (w:World) (hq:Hq w y d) (bs:d.s.length≤1000) (bl:∀z∈d.s,z.2.length≤1000):Calls Tryz.prog 27 #[dv y d] w fun r w'=>r=.returned (.int .i64 (ch13 d))∧Below w.heap.size w w':=by
 have hzl:=hq.zlen;have HZL:=zhy hzl;have S0:=zhy ((((Sx.start w).add (fQm y d) hq).mkD y d));obtain ⟨B,hB⟩:∃B,w.heap.size=B:=⟨_,rfl⟩;have HBB:=zhy hB;rw [hB] at S0;have HBS:=zhy bs;have HBL:=zhy bl;clear hq bl hzl;go_enter Tryz.func27,Tryz.ntmps27;go_upto_region 1 with (fail);change Code.wp _ _ _ _ (w.alloc (dcel y d));generalize w.alloc (dcel y d)=w1 at S0 ⊢;clear hB;have HGR:=zhy (callersOf_v y d w1 S0.out.2.2.1 HBS.out HBL.out);obtain ⟨-,⟨d0,d1,d2,d3,d4⟩,-⟩:=S0.out;go_wp2_with fail;refine HGR.out.mono ?_;clear HGR d0 d1 d2 d3 d4;rintro r w2 h;rcases h with ⟨hba,rfl,hb⟩ | ⟨hba,A,c,Y,rfl,hgo,hyl,hgr,hb⟩
 ·have HE:Hid (ch13 d=2):=zhy (by rw [ch13,if_pos hba]);have HB:=zhy (S0.out.call hb).1;clear hb hba S0;go_wp2_with fail;go_ret;exact ⟨by rw [HE.out];rfl,HB.out⟩
 ·have S2:=zhy ((S0.out.call hb).add (fGw A c Y) hgo.gw);have HBA:=zhy hba;obtain ⟨n,hn⟩:∃n,d.s.length=n:=⟨_,rfl⟩;have HN:=zhy hn;rw [hn] at hyl hgr bs ⊢;have HYL:=zhy hyl;have HGR:=zhy hgr;have HCK:Hid (ch13 d=if ((List.range n).all fun k=>!ck13 d k)=true then 0 else 130):=zhy (by rw [ch13,if_neg (by rw [hba];simp),sd13_ck,hn]);clear hb hba hgo hyl hgr S0 hn;obtain ⟨-,-,⟨d0,d1,d2,d3,d4⟩,-⟩:=S2.out;rw [HN.out] at d3;go_wp2_with fail;clear d0 d1 d2 d3 d4;go_loopw [20] (fun iv wr=>∃k:Nat,k≤n∧iv=.int .i64 k∧Hid (∀j,j<k→ck13 d j=false)∧Hid (Sx w wr [fGw A c Y,fD B y d,fQm y d])) (fun iv _=>n-(intOf iv).toNat)
  case atStart=>exact ⟨0,by omega,rfl,zhy (fun j hj=>by omega),S2⟩
  case round =>
   clear S2;obtain ⟨k,hk,rfl,HC,SR⟩:=hrel;rename World=>wr;by_cases h1:k<n
   ·obtain ⟨ad8,hA8,hat,hok⟩:=SR.out.2.2.2.1.2.2.1.at_ (i:=k) (by rw [HZL.out,HN.out];exact h1);have hme:=SR.out.2.2.2.1.zat (i:=k) (by rw [HZL.out,HN.out];exact h1) (by rw [HN.out];exact h1);obtain ⟨zz,hzz⟩:∃zz,y.Z[k]'(by rw [HZL.out,HN.out];exact h1)=zz:=⟨_,rfl⟩;rw [hzz] at hat hok hme;obtain ⟨⟨XA,xc,XB,xd,XD,xk,xe⟩,h,L⟩:=zz
    have HSO:Hid (so13 d k=st13 L):=zhy (by
     rw [so13,co11,zg7 (by rw [HN.out];exact h1),hme];rfl)
    have HRE:Hid (re13 d k=h.q):=zhy (by rw [re13,hd13,zg7 (by rw [HN.out];exact h1),hme];rfl);obtain ⟨hH,hRi,hxk⟩:=hok;dsimp only at hH hRi hxk;obtain ⟨g0,g1,g2,g3,g4,g5,g6,g7⟩:=hat;dsimp only at g0 g1 g2 g3 g4 g5 g6 g7;clear hzz hme;rw [hA8];go_upto_region 8 with (fail);have HM:=zhy (Mb.new wr ⟨XA,xc,XB,xd,XD,xk,xe⟩ h);have SR1:=zhy (SR.out.call (new1 (w:=wr) (a:=hcel ⟨XA,xc,XB,xd,XD,xk,xe⟩ h)));have HR1:=zhy (hRi.keep (new1 (w:=wr) (a:=hcel ⟨XA,xc,XB,xd,XD,xk,xe⟩ h)));obtain ⟨D,hD⟩:∃D,wr.heap.size=D:=⟨_,rfl⟩;rw [hD] at HM ⊢;change Code.wp _ _ _ _ (wr.alloc (hcel ⟨XA,xc,XB,xd,XD,xk,xe⟩ h));generalize wr.alloc (hcel ⟨XA,xc,XB,xd,XD,xk,xe⟩ h)=w3 at HM SR1 HR1 ⊢;clear g0 g1 g2 g3 g4 g5 g6 g7 hD hH hRi SR;obtain ⟨m0,m1,m2,m3,m4,m5,m6,m7,m8⟩:=HM.out;dsimp only at m4 m8;obtain ⟨u,hu⟩:∃u,h.q=u:=⟨_,rfl⟩;have HU:Hid (re13 d k=u):=zhy (by rw [HRE.out,hu]);rw [hu] at m4;have HHQ:=zhy hu;clear hu;cases u with
    | true =>
     have HST:=zhy (stores_v XD xe xk L w3 HR1.out hxk);obtain ⟨v,hv⟩:∃v,st13 L=v:=⟨_,rfl⟩;rw [hv] at HST;have HV:=zhy hv;clear hv hxk;go_wp2_with fail;refine HST.out.mono ?_;rintro r w4 ⟨rfl,hb⟩;have S4:=zhy (SR1.out.call hb);have HM4:=zhy (HM.out.keep hb);clear hb HST m0 m1 m2 m3 m4 m5 m6 m7 m8 HM SR1 HR1;have m4:=HM4.out.2.2.2.2.1;rw [HHQ.out] at m4;cases v with
     | true =>
      have HE:Hid (ch13 d=130):=zhy (by
       rw [HCK.out,if_neg];intro h;rw [List.all_eq_true] at h;have:=h k (List.mem_range.2 h1);rw [ck13,HU.out,HSO.out,HV.out] at this;simp at this)
      go_wp2_with fail;go_ret;exact ⟨by rw [HE.out];rfl,S4.out.1⟩
     | false =>
      have HC2:Hid (∀j,j<k+1→ck13 d j=false):=zhy fun j hj=>by
       by_cases e:j=k
       ·rw [e,ck13,HU.out,HSO.out,HV.out];simp
       ·exact HC.out j (by omega)
      go_wp2_with fail;go_roundw
      case rel=>exact ⟨k+1,by omega,by go_num,HC2,S4⟩
      case measure=>simp [intOf];omega
    | false =>
     obtain ⟨⟨Ak,ck,K⟩,hyk,hyl⟩:=rel_at11 HYL.out HGR.out h1;dsimp only at hyl;obtain ⟨ad,hA,y0,hrk⟩:=SR1.out.2.1.at_ hyk;subst hA;rw [gv11] at y0;dsimp only at y0 hrk
     have HCO:=zhy (containsN13_v y d B Ak ck K.length K w3 SR1.out.2.2.2.1 SR1.out.2.2.1 hrk rfl (fun x hx=>by
      rw [hyl,ns11,List.mem_map] at hx;obtain ⟨j,hj,rfl⟩:=hx;rw [List.mem_filter,List.mem_range] at hj;exact ⟨j,rfl,by rw [HN.out];exact hj.1⟩))
     obtain ⟨v,hv⟩:∃v,(K.any fun x=>re13 d x.toNat)=v:=⟨_,rfl⟩;rw [hv] at HCO;have HV:Hid (((List.range n).any fun i=>e11 d i k&&re13 d i)=v):=zhy (by rw [←any13,←hv,hyl]);clear hv hyl hyk hrk hxk;go_wp2_with fail;refine HCO.out.mono ?_;rintro r w4 ⟨rfl,rfl⟩;clear HCO m0 m1 m2 m3 m4 m5 m6 m7 m8;cases v with
     | true =>
      have HE:Hid (ch13 d=130):=zhy (by
       rw [HCK.out,if_neg];intro h;rw [List.all_eq_true] at h;have:=h k (List.mem_range.2 h1);rw [ck13,HU.out,HN.out,HV.out] at this;simp at this)
      go_wp2_with fail;go_ret;exact ⟨by rw [HE.out];rfl,SR1.out.1⟩
     | false =>
      have HC2:Hid (∀j,j<k+1→ck13 d j=false):=zhy fun j hj=>by
       by_cases e:j=k
       ·rw [e,ck13,HU.out,HN.out,HV.out];simp
       ·exact HC.out j (by omega)
      go_wp2_with fail;go_roundw
      case rel=>exact ⟨k+1,by omega,by go_num,HC2,SR1⟩
      case measure=>simp [intOf];omega
   ·obtain rfl:n=k:=by omega
    have HE:Hid (ch13 d=0):=zhy (by
     rw [HCK.out,if_pos];rw [List.all_eq_true];intro j hj;rw [HC.out j (List.mem_range.1 hj)];rfl)
    go_wp2_with fail;go_ret;exact ⟨by rw [HE.out];rfl,SR.out.1⟩
end
theorem pmay_any (A:Option Addr) (c m:Nat) (L:List Vlu) (w:World) (hr:Rv w A c L) (hm:L.length=m):Calls Tryz.prog 106 #[.slice A m c] w fun e w'=>e=.returned (.bool (poM L))∧Below w.heap.size w w':=by
 subst hm;have hlen:=hr.len;have HR:=zhy hr;clear hr;by_cases h0:L.length≤32
 ·have HC:Hid (poM L=L.all vM):=by rw [Hid,poM,decide_eq_true h0,Bool.true_and]
  go_enter Tryz.func106,Tryz.ntmps106;go_wp2_with fail;go_loopw [10] (fun i wr=>∃j:Nat,j≤L.length∧i=.int .i64 j∧Hid ((L.take j).all vM=true)∧Hid (Below w.heap.size w wr)) (fun i _=>L.length-(intOf i).toNat)
  case atStart=>exact ⟨0,by omega,rfl,rfl,zhy (Below.refl _ _)⟩
  case round =>
   obtain ⟨j,hj,rfl,HA,HB⟩:=hrel;by_cases h1:j<L.length
   ·obtain ⟨ad,rfl,hc0,hc1,hc2⟩:=(HR.out.keep HB.out).at_ h1;go_wp2_with fail;refine (vmay_v L[j].1 L[j].2.1 L[j].2.2 _ _ rfl).mono ?_;rintro e w1 ⟨rfl,hb1⟩;have HB1:=zhy (below_on (below_on HB.out new1) hb1);clear hb1 hc0 hc1 hc2 HB;cases hv:mayB L[j].1 L[j].2.1 L[j].2.2 with
    | true =>
     have HN:Hid ((L.take (j+1)).all vM=true):=by
      rw [Hid,List.take_add_one,zg7 h1];simp only [Option.toList_some,List.all_append,HA.out,List.all_cons,List.all_nil,Bool.and_true,Bool.true_and];exact hv
     clear HA;go_wp2_with fail;go_roundw
     case rel=>exact ⟨j+1,by omega,by go_num,HN,HB1⟩
     case measure=>simp [intOf];omega
    | false =>
     have HN:Hid (poM L=false):=by
      have:L.all vM=false:=List.all_eq_false.2 ⟨L[j],List.getElem_mem h1,by simp [vM,hv]⟩;rw [Hid,HC.out,this]
     go_wp2_with fail;go_ret;exact ⟨by rw [HN.out];rfl,HB1.out⟩
   ·obtain rfl:j=L.length:=by omega
    have HN:Hid (poM L=true):=by
     have h2:=HA.out;rw [List.take_length] at h2;rw [Hid,HC.out,h2]
    clear HA;go_wp2_with fail;go_ret;exact ⟨by rw [HN.out];rfl,HB.out⟩
 ·have HN:Hid (poM L=false):=by rw [Hid,poM,decide_eq_false h0];rfl
  go_enter Tryz.func106,Tryz.ntmps106;go_wp2_with fail;go_ret;exact ⟨by rw [HN.out];rfl,Below.refl _ _⟩
theorem put_1 {n:Int} (h0:0≤n) (h:n<256):putL 1 n=[n]∧putE 1 n=0:=by
 have:=put_yes (k:=1) (n:=n) (by omega) (by omega) h0 (by simpa [p256] using h);rw [show ((1:Nat):Int)=1 from rfl] at this;refine ⟨?_,this.1⟩;rw [this.2];simp [digs];omega
theorem kpbytes:KPBytes fG:=by
 intro A c m L w hw hr hm _;subst hm;obtain ⟨i0,hi,hz0,hz1,hz2⟩:=info_parts Tryz.info5;cases hc:poM L with
 | false =>
  have HC:=zhy hc;rw [poL,if_neg (by rw [hc];decide),poE,if_neg (by rw [hc];decide)];clear hc;go_enter Tryz.func64,Tryz.ntmps64;go_wp2_with fail;refine (pmay_any A c _ L _ hr rfl).mono ?_;rintro e w1 ⟨rfl,hb1⟩;rw [HC.out];go_wp2_with fail;go_ret2;exact ⟨none,0,rfl,World.ownsRow_nil _ _ _ _,hb1⟩
 | true =>
  have HC:=zhy hc;rw [poL,if_pos hc,poE,if_pos hc];have hl2:=poM_le hc;have HALL:=zhy (poM_at hc);have HOK:=zhy hr.1;have S0:=zhy (((Sx.start w).add fG hw).add (fW A c L) hr);have S00:Hid (∀w',Below w.heap.size w w'→Sx w w' [fW A c L,fG]):=zhy fun w' hb=>S0.out.call hb;obtain ⟨hp1,hp2⟩:=put_1 (n:=L.length) (by omega) (by omega);have P:=fun w=>zhy (put_any 1 L.length w);rw [hp1,hp2] at P;clear hc hr hw hp1 hp2;go_enter Tryz.func64,Tryz.ntmps64;go_wp2_with fail;refine (pmay_any A c _ L _ S0.out.2.1 rfl).mono ?_;rintro e w1 ⟨rfl,hb1⟩;rw [HC.out];have S1:=zhy (S0.out.call hb1);clear hb1 S0;go_wp2_with fail;refine (P _).out.mono ?_;rintro e w2 ⟨A2,c2,rfl,ho2,hb2⟩;have S2:=zhy (S1.out.call hb2);have HO2:=zhy (own_base ho2 S1.out.1.size);clear ho2 hb2 S1 P;go_wp2_with fail
  go_loopw [4,21] (fun o i wr=>∃(j:Nat) (A':Option Addr) (c':Nat) (X:List Int) (N:Nat),j≤L.length∧i=.int .i64 j∧o=.slice A' N c'∧N≤1+9*j∧Hid (X=(L.length:Int)::(L.take j).flatMap vB∧X.length=N∧wr.ownsRow w.heap.size 5 1 (.slice A' N c') N (cel X))∧Hid (Sx w wr [fW A c L,fG]))
   (fun _ i _=>L.length-(intOf i).toNat)
  case atStart=>exact ⟨0,_,_,[(L.length:Int)],1,by omega,rfl,rfl,by omega,zhy ⟨by simp,rfl,HO2.out⟩,S2⟩
  case round =>
   obtain ⟨j,A',c',X,N,hj,rfl,rfl,hN,HX,S3⟩:=hrel;clear HO2 S2;by_cases h1:j<L.length
   ·obtain ⟨ad,rfl,x0,x1,x2⟩:=S3.out.2.1.at_ h1;have HV:=zhy (HALL.out _ (List.getElem_mem h1));have HQ:=zhy (HOK.out _ (List.getElem_mem h1));have HL:Hid (L.take (j+1)=L.take j++[L[j]]):=by rw [Hid,List.take_add_one,zg7 h1];rfl
    generalize L[j]=x at *;have hbl:=vB_len x;have S4:=zhy (S3.out.mk1 (.cells #[.int .u8 x.1,.int .i64 x.2.1,.int .i64 x.2.2] 139));have HO4:=zhy (own_below HX.out.2.2 (new1 (a:=.cells #[.int .u8 x.1,.int .i64 x.2.1,.int .i64 x.2.2] 139)) (Nat.le_refl _));have HX1:=zhy HX.out.1;have HX2:=zhy HX.out.2.1;clear HX S3;go_wp2_with fail;refine (vbytes_v x.1 x.2.1 x.2.2 0 (vB x) _ _ S4.out.2.2.1 ⟨bytE_of HV.out,bytL_of HV.out,rfl⟩).mono ?_;rintro e w3 ⟨A3,c3,rfl,ho3,hb3⟩;have HR1:=zhy (own_rd ho3 (vB_byt x));have HO5:=zhy (own_below HO4.out hb3 (Nat.le_refl _));have S5:=zhy (S4.out.call hb3);clear ho3 hb3 x0 x1 x2 S4 HO4;go_wp2_with (at_builtin;refine wpList_append_rd _ rfl _ _ 40 rfl w.heap.size 5 i0 Tryz.underlying40 hi hz0 hz1 hz2 _ N X rfl HO5.out _ _ _ (vB x) rfl HR1.out rfl (by omega) S5.out.1.size ?_);intro A2 c2 w4 ho4 hg4 hb4 _;have HO6:=zhy ho4;have S6:=zhy (show Sx w w4 [fW (some ad) c L,fG] from S00.out w4 (S5.out.1.trans hb4));clear ho4 hg4 hb4 HO5 HR1 S5;go_wp2_with fail;go_roundw
    case rel=>exact ⟨j+1,A2,c2,_,N+(vB x).length,by omega,by go_num,rfl,by omega,zhy ⟨by rw [HX1.out,HL.out,List.flatMap_append,List.flatMap_cons,List.flatMap_nil,List.append_nil,List.cons_append],by rw [List.length_append,HX2.out],HO6.out⟩,S6⟩
    case measure=>simp [intOf];omega
   ·obtain rfl:j=L.length:=by omega
    have hx:=HX.out;rw [List.take_length,←poB] at hx;obtain ⟨rfl,rfl,ho⟩:=hx;have HO:=zhy ho;clear ho HX;go_wp2_with fail;go_ret2;exact ⟨A',c',rfl,HO.out,S3.out.1⟩
theorem cev_put {xs:List Value} {K:List Vlu} {j:Nat} (hj:K.length=j) (hx:xs.take (j*3)=cev K) (hl:j*3+3≤xs.length) (y:Vlu) :
  (((xs.set (j*3) (.int .u8 y.1)).set (j*3+1) (.int .i64 y.2.1)).set (j*3+2) (.int .i64 y.2.2)).take ((j+1)*3)=cev (K++[y]):=by
 have h3:(cev K).length=j*3:=by rw [length_cev,hj]
 have hd:xs=cev K++xs.drop (j*3):=by rw [←hx,List.take_append_drop]
 have hdl:3≤(xs.drop (j*3)).length:=by rw [List.length_drop];omega
 match hr:xs.drop (j*3),hdl with
 | u::v::t::r,_ =>
  rw [hr] at hd
  rw [hd,List.set_append_right _ _ (by omega),h3,Nat.sub_self,List.set_cons_zero,List.set_append_right _ _ (by omega),h3,show j*3+1-j*3=0+1 by omega,List.set_cons_succ,List.set_cons_zero,
   List.set_append_right _ _ (by omega),h3,show j*3+2-j*3=0+1+1 by omega,List.set_cons_succ,List.set_cons_succ,List.set_cons_zero,List.take_append,h3,List.take_of_length_le (by omega),
   show (j+1)*3-j*3=3 by omega,cev_append,cev_cons]
  rfl
theorem preadw_any (A:Option Addr) (c n:Nat) (l:List Int) (p:Int) (w:World) (hw:GW w) (hr:Rd w A c l) (hn:l.length=n) :
  Calls Tryz.prog 135 #[.slice A n c,.int .i64 p] w fun e w'=>∃A' c',e=.returned (.tuple #[.slice A' (rdP l p).1.length c',.int .i64 (rdP l p).2.1,.int .i64 (rdP l p).2.2]) ∧
   Rv w' A' c' (rdP l p).1∧w'.ownsRow w.heap.size 139 3 (.slice A' (rdP l p).1.length c') (rdP l p).1.length (cev (rdP l p).1)∧Below w.heap.size w w':=by
 subst hn
 have hlen:=hr.len
 have S00:Hid (∀w',Below w.heap.size w w'→Rd w' A c l∧GW w'):=zhy fun w' hb=>⟨hr.keep hb,fG.keep w w' hw hb⟩
 have HBY:=zhy hr.byt
 have HG:=zhy (get_any A c l p 1 w hr)
 have HGb:Hid (getE l p 1=0→0≤getV l p 1):=fun h=>by rw [getV,if_pos h];exact num_nonneg (byt_cut hr.byt _ _)
 have HE:Hid (getE l p 1≠0→rdP l p=([],0,getE l p 1)):=fun h=>by rw [rdP,if_neg h]
 have HL:Hid (getE l p 1=0→32<getV l p 1→rdP l p=([],0,60)):=fun h h2=>by rw [rdP,if_pos h,if_pos h2]
 have HS:Hid (getE l p 1=0→¬32<getV l p 1→rdP l p=rpS l (getV l p 1).toNat (getN l p 1)):=fun h h2=>by rw [rdP,if_pos h,if_neg h2]
 generalize rdP l p=R at *
 generalize getE l p 1=e0 at *
 generalize getV l p 1=many at *
 generalize getN l p 1=q0 at *
 clear hr hw
 go_enter Tryz.func135,Tryz.ntmps135
 go_wp2_with fail
 refine HG.out.mono ?_
 rintro e w1 ⟨rfl,hb1⟩
 have HB1:=zhy hb1
 clear HG hb1
 by_cases he:e0=0
 ·subst he
  by_cases hm:32<many
  ·have HN:=zhy (HL.out rfl hm)
   clear HE HL HS HGb
   go_wp2_with fail
   go_ret3
   obtain rfl:=HN.out
   exact ⟨none,0,rfl,Rv.none_ _,World.ownsRow_nil _ _ _ _,HB1.out⟩
  ·have hm0:=HGb.out rfl
   obtain ⟨M,rfl⟩:∃M:Nat,many=M:=⟨many.toNat,by omega⟩
   have HI:Hid (R=apV [] (rpS l (M-0) q0)):=by rw [Hid,rpS_form];exact HS.out rfl (by omega)
   have hsz1:=HB1.out.size
   clear HE HL HS HGb
   have hinfo:=Tryz.infoV
   rw [Option.map_eq_some_iff] at hinfo
   obtain ⟨i0,hi,hz⟩:=hinfo
   simp only [Prod.mk.injEq] at hz
   obtain ⟨hz0,hz1,hz2⟩:=hz
   go_wp2_with (at_make;refine wpList_make_full _ rfl _ _ 22 rfl w.heap.size 139 i0 _ 3 Tryz.underlying22 hi hz0 hz1 .i64 .i64 M M M rfl rfl rfl rfl (by rw [hz2];omega) (by unfold maxLen;omega) hsz1 ?_)
   intro w2 ho2 hg2
   obtain ⟨xs0,hx0⟩:∃xs0,(madeCells #[.int .u8 0,.int .i64 0,.int .i64 0] (M*3)).toList=xs0:=⟨_,rfl⟩
   rw [hx0] at ho2
   have HO2:=zhy ho2
   have HB2:=zhy (below_on HB1.out ⟨hg2.os,hg2.tape,hg2.output,hg2.size,fun i hi=>hg2.block i hi (by simp)⟩)
   clear ho2 hg2 hx0 hi hz0 hz1 hz2 i0
   generalize hg:w1.heap.size=g at *
   have hwg:w.heap.size≤g:=by omega
   clear hg hsz1
   go_wp2_with fail
   go_loopw [4,5,25] (fun r o i wr=>∃(j:Nat) (q:Int) (K:List Vlu) (xs:List Value),j≤M∧i=.int .i64 j∧o=.int .i64 q∧r=.slice (some ⟨g,0,none⟩) M M∧Hid (R=apV K (rpS l (M-j) q)∧K.length=j∧(∀x∈K,VlOk x))∧Hid (wr.ownsRow w.heap.size 139 3 (.slice (some ⟨g,0,none⟩) M M) M xs∧xs.take (j*3)=cev K)∧Hid (Below w.heap.size w wr)) (fun _ _ i _=>M-(intOf i).toNat)
   case atStart=>exact ⟨0,q0,[],xs0,by omega,rfl,rfl,rfl,zhy ⟨HI.out,rfl,fun x hx=>(by cases hx)⟩,zhy ⟨HO2.out,by simp [cev]⟩,HB2⟩
   case round =>
    obtain ⟨j,q,K,xs,hj,rfl,rfl,rfl,HX,HO,HB⟩:=hrel
    clear HI HO2 HB2
    by_cases h1:j<M
    ·obtain ⟨x,a,b,n2,e2,hrd⟩:∃x a b n2 e2,rdT l q=(x,a,b,n2,e2):=⟨_,_,_,_,_,rfl⟩
     have HRD:=zhy hrd
     have hok:=rdT_vok HBY.out hrd
     have HOK:=zhy hok
     have HK:=fun w hr hw=>zhy (vread_v A c l q x a b n2 e2 w hr hw hrd)
     clear hrd hok
     go_wp2_with fail
     refine (HK _ (S00.out _ HB.out).1 (S00.out _ HB.out).2).out.mono ?_
     rintro e w3 ⟨rfl,hb3⟩
     have HB3:=zhy (below_on HB.out hb3)
     have HO3:=zhy (own_below HO.out.1 hb3 (Nat.le_refl _))
     clear HK hb3 HB
     have hxl:xs.length=M*3:=by simpa using HO3.out.1
     have c0:=HO3.out.cellAt (j*3) (by omega)
     have c1:=HO3.out.cellAt (j*3+1) (by omega)
     have c2:=HO3.out.cellAt (j*3+2) (by omega)
     have f0:=HO3.out.frozenAt (j*3)
     have f1:=HO3.out.frozenAt (j*3+1)
     have f2:=HO3.out.frozenAt (j*3+2)
     rw [zg7 (by omega)] at c0 c1 c2
     have HO8:=zhy (((((HO3.out.stored (j*3) (.int .u8 x)).1).stored (j*3+1) (.int .i64 a)).1).stored (j*3+2) (.int .i64 b)).1
     have HP:=zhy (cev_put HX.out.2.1 HO.out.2 (by omega) (x,a,b))
     have HB8:=zhy (((HB3.out.setCell (p:=⟨g,j*3,none⟩) hwg (.int .u8 x)).setCell (p:=⟨g,j*3+1,none⟩) hwg (.int .i64 a)).setCell (p:=⟨g,j*3+2,none⟩) hwg (.int .i64 b))
     by_cases he2:e2=0
     ·subst he2
      have HX8:Hid (R=apV (K++[(x,a,b)]) (rpS l (M-(j+1)) n2)∧(K++[(x,a,b)]).length=j+1∧∀y∈K++[(x,a,b)],VlOk y):=by
       refine ⟨by rw [HX.out.1,show M-j=(M-(j+1))+1 by omega,rpS_yes HRD.out,apV_apV],by rw [List.length_append,HX.out.2.1];rfl,fun y hy=>?_⟩;rcases List.mem_append.1 hy with hy | hy
       ·exact HX.out.2.2 y hy
       ·rw [List.mem_singleton.1 hy];exact HOK.out
      clear HX HO HO3 HB3 HRD
      go_wp2_with fail
      go_roundw
      case rel=>exact ⟨j+1,n2,K++[(x,a,b)],_,by omega,by go_num,rfl,rfl,HX8,zhy ⟨HO8.out,HP.out⟩,HB8⟩
      case measure=>simp [intOf];omega
     ·have HN:Hid (R=([],0,e2)):=by
       rw [Hid,HX.out.1,show M-j=(M-(j+1))+1 by omega,rpS_no HRD.out he2,apV_no _ he2]
      clear HX HRD HO HO3 HB3
      go_wp2_with fail
      go_ret3
      obtain rfl:=HN.out
      exact ⟨none,0,rfl,Rv.none_ _,World.ownsRow_nil _ _ _ _,HB8.out⟩
    ·obtain rfl:j=M:=by omega
     have hxl:xs.length=j*3:=by simpa using HO.out.1.1
     have hxs:xs=cev K:=by rw [←HO.out.2,List.take_of_length_le (by omega)]
     have HRv:=zhy (Rv.of_own (L:=K) (by have:=HO.out.1;rwa [hxs] at this) HX.out.2.2).1
     have HOw:Hid (wr.ownsRow w.heap.size 139 3 (.slice (some ⟨g,0,none⟩) K.length j) K.length (cev K)):=by
      have:=HO.out.1;rw [hxs] at this;rw [HX.out.2.1];exact this
     have HN:Hid (R=(K,q,0)):=by
      rw [Hid,HX.out.1,Nat.sub_self,rpS,apV,if_pos rfl,List.append_nil]
     have HL:=zhy HX.out.2.1
     clear HX HO hxl hxs
     go_wp2_with fail
     go_ret3
     obtain rfl:=HN.out
     exact ⟨some ⟨g,0,none⟩,j,by simp [HL.out],HRv.out,HOw.out,HB.out⟩
 ·have HN:=zhy (HE.out he)
  clear HE HL HS HGb
  go_wp2_with fail
  go_ret3
  obtain rfl:=HN.out
  exact ⟨none,0,rfl,Rv.none_ _,World.ownsRow_nil _ _ _ _,HB1.out⟩
end Go.Proofs.YtnjgkkoiamiaaaaGreatDoor
