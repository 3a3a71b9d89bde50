import Derived.Test.YtnjgkkoiamiaaaaGreatDoorVta1
import Derived.Test.YtnjgkkoiamiaaaaGreatDoorVta9
import Derived.Test.YtnjgkkoiamiaaaaGreatDoorVta6
import Derived.Test.YtnjgkkoiamiaaaaGreatDoorVta10
import Derived.Laws.CopyOwn
import Derived.Deep.RegionLaw
import Derived.Test.YtnjgkkoiamiaaaaGreatDoorVta3
import Derived.Sort.OwnSortedInts
import Derived.Lib.RowBridge
import Derived.Test.YtnjgkkoiamiaaaaGreatDoorVta8
import Derived.ArgAppend
import Derived.Laws.Cover3
import Derived.Laws.Rows
import Derived.Laws.ResultCell
import Derived.Deep.WholeRow
import Derived.Test.YtnjgkkoiamiaaaaGreatDoorVta5
set_option maxRecDepth 100000
set_option maxHeartbeats 16000000
set_option linter.unusedSimpArgs false
set_option linter.unusedVariables false
namespace Go.Proofs.YtnjgkkoiamiaaaaGreatDoor
open Go.RowKit
def Tr (w:World) (g:Nat) (T:List Int):Prop:=w.heap[g]?=some (.cells (ci9 T).toArray 3 (0,0))
section
variable {w w' : World} {g : Nat} {T : List Int}
theorem Tr.lt (h:Tr w g T):g<w.heap.size:=(zg9.1 h).1
theorem Tr.keep (h:Tr w g T) (hb:Below w.heap.size w w'):Tr w' g T:=(hb.block g h.lt).trans h
theorem Tr.cell (h:Tr w g T) {i:Nat} {x:Int} (hi:T[i]?=some x):w.cell? ⟨g,i,none⟩=some (.int .i64 x):=by
 rw [cell_of_row w g i _ _ (0,0) h];simp [ci9,hi]
theorem Tr.froz (h:Tr w g T) (i:Nat):w.frozen? ⟨g,i,none⟩=false:=frozen_of_row w g i _ _ h
theorem Tr.put (h:Tr w g T) (j:Nat) (v:Int):Tr (w.setCell ⟨g,j,none⟩ (.int .i64 v)) g (T.set j v):=by
 unfold Tr;rw [heap_setCell_same w g j _ _ _ h];congr 2;apply Array.ext';simp [ci9,List.map_set]
theorem Tr.own (h:Tr w g T) {base m:Nat} (hm:T.length=m) (hb:base≤g) (hl:m≤1000000):w.ownsRow base 3 1 (.slice (some ⟨g,0,none⟩) m m) m (ci9 T):=by
 subst hm;exact ⟨by simp [ci9],.inr ⟨g,T.length,(ci9 T).toArray,rfl,hb,h,Nat.le_refl _,by unfold maxLen;omega,by simp [ci9],List.take_of_length_le (by simp [ci9])⟩⟩
theorem Tr.of_own {base m:Nat} {A:Option Addr} (h:w.ownsRow base 3 1 (.slice A m m) m (ci9 T)) (hm:0<m):∃g,A=some ⟨g,0,none⟩∧base≤g∧Tr w g T:=by
 rcases h.2 with ⟨hv,h0⟩ | ⟨g,cap,cur,hv,hg,hb,h1,h2,h3,h4⟩
 ·omega
 ·injection hv with e1 e2 e3;subst e1 e3;refine ⟨g,rfl,hg,?_⟩;unfold Tr;rw [hb];congr 2;apply Array.ext';rw [←h4,List.take_of_length_le (by simp [h3])]
end
def xo9 (k m:Nat):List Int:=List.replicate k 1++List.replicate (m-k) 0
theorem qbr {k m j:Nat} (h:j<k):(xo9 k m)[j]?=some 1:=by
 rw [xo9,List.getElem?_append_left (by simpa using h)];simp [h]
theorem zs1 (m:Nat):xo9 m m=List.replicate m 1:=by simp [xo9]
theorem zne {k m n:Nat} (hk:k+n≤m):splice (ci9 (xo9 k m)) k (List.replicate n (.int .i64 1))=ci9 (xo9 (k+n) m):=by
 unfold splice ci9 xo9;rw [List.map_append,List.map_append,List.map_replicate,List.map_replicate,List.map_replicate,List.map_replicate];rw [List.take_append_of_le_length (by simp),List.take_of_length_le (by simp),List.length_replicate];rw [List.drop_append,List.length_replicate,List.drop_of_length_le (by simp),List.nil_append,List.drop_replicate];rw [←List.append_assoc,List.replicate_append_replicate];congr 2;omega
theorem Tryz.infoI9:(Tryz.prog.info? 3).map (fun i=>(i.zero,i.size,i.bytes))=some (some (.int .i64 0),1,8):=by kernel_rfl
theorem zx0 (m:Nat):(madeCells #[.int .i64 0] m).toList=ci9 (xo9 0 m):=by
 apply List.ext_getElem?;intro i;by_cases h:i<m
 ·simp [madeCells,ci9,xo9,h,Nat.mod_one]
 ·simp [madeCells,ci9,xo9,h]
theorem Tryz.sizeI9:(Tryz.prog.info? 3).map (·.size)=some 1:=by kernel_rfl
theorem qbu (w:World) (g k m n B sl sc:Nat) (ad:Addr) (ht:Tr w g (xo9 k m)) (hn:n=Nat.min sl (m-k)) (hk:k≤m) (hs:∀j,j<n→w.cell? (ad.add j)=some (.int .i64 1)) (hB:B≤g) :
  ∃w4,(Builtin.copy_ #[59,59] 3 #[.slice (some ⟨g,k,none⟩) (m-k) (m-k),.slice (some ad) sl sc]).run Tryz.prog w=.ok (.int .i64 n) w4∧Tr w4 g (xo9 (k+n) m)∧Below B w w4:=by
 have hnk:k+n≤m:=by
  have:n≤m-k:=by rw [hn];exact Nat.min_le_right _ _
  omega
 have hl:(ci9 (xo9 k m)).length=m:=by simp [ci9,xo9];omega
 have hrun:=run_copy_row (P:=Tryz.prog) w 59 59 3 3 g k (m-k) (m-k) ad sl sc (ci9 (xo9 k m)).toArray 3 (List.replicate n (.int .i64 1)) Tryz.underlying59 Tryz.sizeI9 ht (by rw [List.length_replicate];exact hn)
  (fun j v h=>by
   rw [List.getElem?_replicate] at h;split at h
   ·injection h with h;rw [←h];exact hs j (by assumption)
   ·cases h) (by simp only [List.size_toArray,List.length_replicate];omega) (fun v hv=>by rw [List.eq_of_mem_replicate hv];rfl)
 refine ⟨_,by rw [hrun,List.length_replicate];rfl,?_,below_setRow (Below.refl _ _) hB _⟩;unfold Tr;rw [setRow_heap w g _ _ _ _ ht,←zne hnk];simp [splice]
theorem zs6 (g0 m:Nat) (w:World) (h1:1≤m) (h2:m≤200) (hc:w.cell? ⟨g0,0,none⟩=some (.int .i64 1)) :
  Calls Tryz.prog 203 #[.slice (some ⟨g0,0,none⟩) 1 1,.int .i64 m] w fun r w'=>∃g,r=.returned (.slice (some ⟨g,0,none⟩) m m)∧w.heap.size≤g∧Tr w' g (List.replicate m 1)∧Below w.heap.size w w':=by
 have HC:=zhy hc;have hg0:=qi hc;have hw0:IntKind.u64.wrap 1=1:=by decide
 have hw1:IntKind.u64.wrap (m:Int)=(m:Int):=by
  simp [IntKind.wrap,IntKind.signed,IntKind.bits,go_sem];omega
 have hw2:IntKind.i64.wrap (m:Int)=(m:Int):=by
  simp [IntKind.wrap,IntKind.signed,IntKind.bits,go_sem];omega
 have HMU:∀w,Hid (Calls Tryz.prog 233 #[.int .u64 1,.int .u64 m] w fun e w'=>e=.returned (.tuple #[.int .u64 0,.int .u64 m])∧w=w'):=fun w=>zhy (by
  have h:=Tryz.bits_Mul 1 m (by omega) (by omega) w;rw [Nat.one_mul,Nat.div_eq_of_lt (by omega),Nat.mod_eq_of_lt (by omega)] at h;exact h.mono fun e w' h=>⟨h.1,h.2.symm⟩)
 have hinfo:=Tryz.infoI9;rw [Option.map_eq_some_iff] at hinfo;obtain ⟨i0,hi,hz⟩:=hinfo;simp only [Prod.mk.injEq] at hz;obtain ⟨hz0,hz1,hz2⟩:=hz;clear hc;go_enter Tryz.func203,Tryz.ntmps203;go_wp2_with fail;refine (HMU _).o.mono ?_;rintro r w1 ⟨rfl,rfl⟩;go_wp2_with (at_make;refine wpList_make_full _ rfl _ _ 59 rfl w.heap.size 3 i0 _ 1 Tryz.underlying59 hi hz0 hz1 .i64 .i64 m m m rfl rfl rfl rfl (by rw [hz2];omega) (by unfold maxLen;omega) (Nat.le_refl _) ?_);intro w2 ho2 hg2;rw [zx0] at ho2;obtain ⟨g,hg,hgw,htr⟩:=Tr.of_own ho2 (by omega);have HB2:Hid (Below w.heap.size w w2):=zhy ⟨hg2.os,hg2.tape,hg2.output,hg2.size,fun i hi=>hg2.block i hi (by simp)⟩;have HT2:=zhy htr;have hg:w.heap.size=g:=by simpa using hg
 have HGG:=zhy hg;rw [hg];clear ho2 hg2 hi hz0 hz1 hz2 i0 htr hg
 obtain ⟨w3,hrun,ht3,hb3⟩:=qbu w2 g 0 m 1 w.heap.size 1 1 ⟨g0,0,none⟩ HT2.o (by simp [Nat.min_def];omega) (by omega) (fun j hj=>by
  obtain rfl:j=0:=by omega
  exact (HB2.o.cell hg0).trans HC.o) hgw
 rw [Nat.sub_zero] at hrun;have HB3:=zhy (HB2.o.trans hb3);have HT3:Hid (Tr w3 g (xo9 1 m)):=zhy (by rw [Nat.zero_add] at ht3;exact ht3);clear HT2 HB2 ht3 hb3;go_wp2_with fail;go_loopw [8] (fun nv wq=>∃k:Nat,1≤k∧k≤m∧nv=.int .i64 k∧Hid (Tr wq g (xo9 k m))∧Hid (Below w.heap.size w wq)) (fun nv _=>m-(intOf nv).toNat)
 case atStart=>exact ⟨1,by omega,by omega,rfl,HT3,HB3⟩
 case round =>
  obtain ⟨k,hk1,hkm,rfl,HT,HB⟩:=hrel;clear HT3 HB3;by_cases hk:k<m
  ·obtain ⟨n,hn⟩:∃n,n=Nat.min k (m-k):=⟨_,rfl⟩;have hn2:n=if k≤m-k then k else m-k:=by rw [hn];exact Nat.min_def
   have hn1:1≤n:=by split at hn2<;>omega
   have hnm:k+n≤m:=by split at hn2<;>omega
   have hnk:n≤k:=by split at hn2<;>omega
   obtain ⟨w4,hrun4,ht4,hb4⟩:=qbu wr.drew g k m n w.heap.size k m ⟨g,0,none⟩ HT.o hn hkm (fun j hj=>by
    have e:(⟨g,0,none⟩:Addr).add j=⟨g,j,none⟩:=by
     unfold Addr.add;split
     ·rename_i h0;simp [h0]
     ·simp
    rw [e];exact (show Tr wr.drew g (xo9 k m) from HT.o).cell (qbr (by omega))) hgw
   have HB4:=zhy ((qf HB.o 1).trans hb4);have HT4:=zhy ht4;have hrk:((m:Int)-(k:Int)).toNat=m-k:=by omega
   clear ht4 hb4 hn hn2;go_upto_region 9 with (fail);go_region;go_wp2_with fail;go_roundw
   case rel=>exact ⟨k+n,by omega,by omega,by go_num,HT4,HB4⟩
   case measure=>simp [intOf];omega
  ·obtain rfl:m=k:=by omega
   go_wp2_with fail;go_ret;exact ⟨g,rfl,hgw,by rw [←zs1];exact HT.o,HB.o⟩
theorem zsz {out:List Lp} {i p:Nat} {x:Lp} (h:out[i]?=some x):lq9 (out.take (i+1)) p=lq9 (out.take i) p++(if wi9 x p=true then [x] else []):=by
 rw [List.take_add_one,h,lq9,lq9,List.filter_append];simp [List.filter_cons]
theorem zey {out:List Lp} {i p:Nat} {x:Lp} (h:out[i]?=some x):tm9 (out.take (i+1)) p=if wi9 x p=true then tm9 (out.take i) p*x.2.2 else tm9 (out.take i) p:=by
 rw [tm9,zsz h,List.foldl_append];split<;>rfl
theorem zwr {l:List Ins} (h:jc l=0) {p:Nat} (hp:p<l.length) (i:Nat):1≤tm9 ((qy l l.length).take i) p∧tm9 ((qy l l.length).take i) p≤100000000:=by
 have hw:=wl9 h;have hk:∀x∈lq9 ((qy l l.length).take i) p,1≤x.2.2∧x.2.2≤100:=fun x hx=>(hw.mem x (List.mem_of_mem_take (zk3.1 hx).1)).2.2.2.2.2.2;rw [tm9,zi8 _ (fun x hx=>(hk x hx).1),Int.one_mul]
 obtain ⟨a,b⟩:=zr5 (lq9 ((qy l l.length).take i) p) (fun x hx=>by
  have:=hk x hx;unfold K9;omega)
 have hl:(lq9 ((qy l l.length).take i) p).length≤4:=Nat.le_trans (List.Sublist.length_le ((List.take_sublist i _).filter _)) (zmk h hp);have c:(100:Nat) ^ (lq9 ((qy l l.length).take i) p).length≤100 ^ 4:=Nat.pow_le_pow_right (by omega) hl;omega
def tw9 (out:List Lp) (m i a:Nat):List Int:=(List.range m).map fun p=>if p<a then tm9 (out.take (i+1)) p else tm9 (out.take i) p
def tv9 (out:List Lp) (m i:Nat):List Int:=(List.range m).map fun p=>tm9 (out.take i) p
theorem zt2 (out:List Lp) (m:Nat):tv9 out m 0=List.replicate m 1:=by
 apply List.ext_getElem?;intro j;by_cases h:j<m
 ·simp [tv9,h,tm9,lq9]
 ·simp [tv9,h]
theorem zp3 {out:List Lp} {m i a:Nat} {x:Lp} (h:out[i]?=some x) (ha:a=x.1+1):tv9 out m i=tw9 out m i a:=by
 unfold tv9 tw9;apply List.map_congr_left;intro p hp;split
 ·rw [zey h,if_neg (by rw [zd];omega)]
 ·rfl
theorem zyn {out:List Lp} {m i a:Nat} {x:Lp} (h:out[i]?=some x) (ha:a=x.2.1+1):tw9 out m i a=tv9 out m (i+1):=by
 unfold tv9 tw9;apply List.map_congr_left;intro p hp;split
 ·rfl
 ·rw [zey h,if_neg (by rw [zd];omega)]
theorem qa2 {out:List Lp} {m i a:Nat} (ha:a<m):(tw9 out m i a)[a]?=some (tm9 (out.take i) a):=by
 simp [tw9,ha]
theorem zv9 {out:List Lp} {m i a:Nat} (ha:a<m):(tw9 out m i a).set a (tm9 (out.take (i+1)) a)=tw9 out m i (a+1):=by
 apply List.ext_getElem?;intro j;rw [List.getElem?_set];by_cases hj:a=j
 ·subst hj;simp [tw9,ha]
 ·rw [if_neg hj];by_cases hjm:j<m
  ·simp only [tw9,List.getElem?_map,List.getElem?_range hjm,Option.map_some];congr 1;by_cases h1:j<a
   ·rw [if_pos h1,if_pos (by omega)]
   ·rw [if_neg h1,if_neg (by omega)]
  ·simp [tw9,hjm]
theorem Cl9.other {w:World} {g:Nat} {xs:List Value} (h:Cl9 w g xs) {q:Addr} (hq:q.block≠g) (v:Value):Cl9 (w.setCell q v) g xs:=
 ⟨by simpa using h.1,fun i u hu=>by rw [World.cell?_setCell_other _ _ _ _ (fun e=>hq (by rw [e]))];exact h.2 i u hu⟩
theorem zvb:zx3:=by
 intro A c m L w hr hm _;have HLm:=zhy hm;have HR:=zhy hr;have HLO:=zhy (zj2 A c m L w hr hm);clear hr hm;obtain ⟨E,hE⟩:∃e,jc L=e:=⟨_,rfl⟩;obtain ⟨FL,hFL⟩:∃x,zcu L=x:=⟨_,rfl⟩;obtain ⟨T,hT⟩:∃t,zea L=t:=⟨_,rfl⟩;have HEF:=zhy (show jc L=E∧zcu L=FL∧zea L=T from ⟨hE,hFL,hT⟩);rw [hE,hFL] at HLO;rw [hE,hT];clear hE hFL hT;go_enter Tryz.func166,Tryz.ntmps166;go_wp2_with fail;refine HLO.o.mono ?_;rintro r w1 ⟨A1,c1,rfl,ho,hb⟩;have HO1:=zhy ho;have HB1:=zhy hb;clear HLO ho hb;by_cases h0:E=0
 ·subst h0;have hE0:=HEF.o.1
  have HT:Hid (T=(List.range m).map (tm9 FL)∧FL=qy L L.length):=zhy (by
   have h1:=HEF.o.2.1;have h2:=HEF.o.2.2;rw [zcu,if_pos hE0] at h1;rw [zea,if_pos hE0,h1,HLm.o] at h2;exact ⟨h2.symm,h1.symm⟩)
  have HWl:Hid (Wl9 L FL):=zhy (by rw [HT.o.2];exact wl9 hE0)
  have HBD:Hid (∀p,p<m→∀i,1≤tm9 (FL.take i) p∧tm9 (FL.take i) p≤100000000):=zhy fun p hp i=>by
   rw [HT.o.2];exact zwr hE0 (by rw [HLm.o];exact hp) i
  have hm1:1≤m:=by have:=(qw (za hE0).1).1;rw [HLm.o] at this;exact this
  have hm2:m≤200:=by have:=(qw (za hE0).1).2.1;rw [HLm.o] at this;exact this
  obtain ⟨n,hn⟩:∃n,FL.length=n:=⟨_,rfl⟩;rw [hn] at HO1 ⊢;have HN:=zhy hn;have hnl:n≤9223372036854775807:=by have:=(Rj.of_own HO1.o (fun _ _=>trivial)).1.len;omega
  have HRP:=fun w' h=>zhy (zs6 w1.heap.size m w' hm1 hm2 h);clear hE0 hn;go_wp2_with fail;refine (HRP _ (by simp [go_sem])).o.mono ?_;rintro r w2 ⟨g,rfl,hg,ht,hb⟩;have hg1:w.heap.size≤g:=by have:=HB1.o.size;simp at hg;omega
  have HB2:Hid (Below w.heap.size w w2):=zhy (qc (qc HB1.o qh) hb);have HT2:Hid (Tr w2 g (tv9 FL m 0)):=zhy (by rw [zt2];exact ht);have HO2:Hid (w2.ownsRow w.heap.size 163 3 (.slice A1 n c1) n (cej FL)):=zhy (qb (HO1.o.alloc _) hb (Nat.le_refl _))
  have HNE:Hid (∀g',A1=some ⟨g',0,none⟩→g'<g):=zhy fun g' h=>by
   subst h;have:=HO1.o.lt g' rfl;simp at hg;omega
  clear hb ht HRP HO1 hg;go_wp2_with fail;go_loopw [24] (fun iv wq=>∃i:Nat,i≤n∧iv=.int .i64 i∧Hid (Tr wq g (tv9 FL m i))∧Hid (wq.ownsRow w.heap.size 163 3 (.slice A1 n c1) n (cej FL))∧Hid (Below w.heap.size w wq)) (fun iv _=>n-(intOf iv).toNat)
  case atStart=>exact ⟨0,by omega,rfl,HT2,HO2,HB2⟩
  case round =>
   clear HT2 HO2 HB2;obtain ⟨i,hi,rfl,HTI,HO,HB⟩:=hrel;by_cases h1:i<n
   ·obtain ⟨⟨f,t,z⟩,hx⟩:∃x,FL[i]?=some x:=⟨_,zg7 (by rw [HN.o];exact h1)⟩;have HX:=zhy hx;obtain ⟨ad,hA,k1,k2,k3⟩:=(Rj.of_own HO.o (fun _ _=>trivial)).1.cl9 hx;subst hA;obtain ⟨m1,m2,-,-,-,-,m7,m8⟩:=HWl.o.mem _ (List.mem_of_getElem? hx);simp only at m1 m2 m7 m8;rw [HLm.o] at m2;clear hx;go_upto_region 8 with (fail);obtain ⟨D,hD⟩:∃D,wr.heap.size=D:=⟨_,rfl⟩;have hgD:g<D:=by rw [←hD];exact HTI.o.lt
    have HB3:Hid (Below w.heap.size w (wr.alloc (.cells #[.int .i64 f,.int .i64 t,.int .i64 z] 163))):=zhy (qc HB.o qh);have HT3:Hid (Tr (wr.alloc (.cells #[.int .i64 f,.int .i64 t,.int .i64 z] 163)) g (tw9 FL m i (f+1))):=zhy (by rw [←zp3 HX.o rfl];exact HTI.o.keep qh);have HO3:Hid ((wr.alloc (.cells #[.int .i64 f,.int .i64 t,.int .i64 z] 163)).ownsRow w.heap.size 163 3 (.slice (some ad) n c1) n (cej FL)):=zhy (HO.o.alloc _)
    have HC3:Hid (Cl9 (wr.alloc (.cells #[.int .i64 f,.int .i64 t,.int .i64 z] 163)) D [.int .i64 f,.int .i64 t,.int .i64 z]):=zhy (by
     rw [←hD];refine ⟨by simp,fun j u hj=>?_⟩;match j,hj with
     | 0,hj=>simp at hj;subst hj;simp [go_sem]
     | 1,hj=>simp at hj;subst hj;simp [go_sem]
     | 2,hj=>simp at hj;subst hj;simp [go_sem])
    rw [hD];generalize wr.alloc (.cells #[.int .i64 f,.int .i64 t,.int .i64 z] 163)=w3 at HB3 HT3 HO3 HC3 ⊢;have y0:=HC3.o.2 0 _ rfl;clear k1 k2 k3 HTI HO HB hD;go_wp2_with fail;clear y0;go_loopw [9] (fun av wq=>∃a:Nat,f+1≤a∧a≤t+1∧av=.int .i64 a∧Hid (Tr wq g (tw9 FL m i a))∧Hid (Cl9 wq D [.int .i64 f,.int .i64 t,.int .i64 z])∧Hid (wq.ownsRow w.heap.size 163 3 (.slice (some ad) n c1) n (cej FL))∧Hid (Below w.heap.size w wq)) (fun av _=>t+1-(intOf av).toNat)
    case atStart=>exact ⟨f+1,by omega,by omega,by go_num,HT3,HC3,HO3,HB3⟩
    case round =>
     clear HT3 HC3 HO3 HB3;obtain ⟨a,ha1,ha2,rfl,HTA,HC,HO,HB⟩:=hrel;have y1:=HC.o.2 1 _ rfl;by_cases h2:a≤t
     ·have ham:a<m:=by omega
      have hb1:=HBD.o a ham i;have hb2:=HBD.o a ham (i+1);have hst:tm9 (FL.take (i+1)) a=tm9 (FL.take i) a*z:=by rw [zey HX.o,if_pos (by rw [zd];exact ⟨by simp;omega,h2⟩)]
      have HTB:=zhy (zv9 (out:=FL) (m:=m) (i:=i) (a:=a) ham);have hat:=qa2 (out:=FL) (m:=m) (i:=i) (a:=a) ham;rw [hst] at HTB hb2;generalize tm9 (FL.take i) a=v at hb1 hb2 HTB hat;obtain ⟨y,hy⟩:∃y,v*z=y:=⟨_,rfl⟩
      have hwr:IntKind.i64.wrap (v*z)=y:=by
       rw [hy] at hb2 ⊢;simp [IntKind.wrap,IntKind.signed,IntKind.bits,go_sem];omega
      rw [hy] at HTB hb2;have HTB:=zhy HTB;have t0:wr.drew.cell? ⟨g,a,none⟩=some (.int .i64 v):=HTA.o.cell hat;have tf:wr.drew.frozen? ⟨g,a,none⟩=false:=HTA.o.froz a;have y2:wr.drew.cell? ⟨D,2,none⟩=some (.int .i64 z):=HC.o.2 2 _ rfl;have HB4:Hid (Below w.heap.size w (wr.drew.setCell ⟨g,a,none⟩ (.int .i64 y))):=zhy ((qf HB.o 1).setCell (p:=⟨g,a,none⟩) hg1 _)
      have HT4:Hid (Tr (wr.drew.setCell ⟨g,a,none⟩ (.int .i64 y)) g (tw9 FL m i (a+1))):=zhy (by
       have h:=(show Tr wr.drew g _ from HTA.o).put a y;rw [HTB.o.o] at h;exact h)
      have HC4:Hid (Cl9 (wr.drew.setCell ⟨g,a,none⟩ (.int .i64 y)) D [.int .i64 f,.int .i64 t,.int .i64 z]):=zhy ((show Cl9 wr.drew D _ from HC.o).other (by show g≠D;omega) _)
      have HO4:Hid ((wr.drew.setCell ⟨g,a,none⟩ (.int .i64 y)).ownsRow w.heap.size 163 3 (.slice (some ad) n c1) n (cej FL)):=zhy (ownsRow_setCell_other (show wr.drew.ownsRow _ _ _ _ _ _ from HO.o) (fun e=>by
       obtain ⟨g',hg',-⟩:=ziw HO.o (by omega);have:=HNE.o g' hg';injection hg' with hg';subst hg';simp [Value.ownBlock] at e;omega) _)
      clear hat hst hy hb1 hb2 HTA HC HO HB;go_upto_region 11 with (fail);go_region;have e6:wr.drew.setCell ⟨g,a,none⟩ (.int .i64 y)=(wr.setCell ⟨g,a,none⟩ (.int .i64 y)).drew:=rfl;rw [e6] at HB4 HT4 HC4 HO4;clear e6;generalize (wr.setCell ⟨g,a,none⟩ (.int .i64 y)).drew=w6 at HB4 HT4 HC4 HO4 ⊢;clear t0 tf y1 y2;go_wp2_with fail;go_roundw
      case rel=>exact ⟨a+1,by omega,by omega,by go_num,HT4,HC4,HO4,HB4⟩
      case measure=>simp [intOf];omega
     ·obtain rfl:a=t+1:=by omega
      have HT5:Hid (Tr wr g (tv9 FL m (i+1))):=zhy (by rw [←zyn HX.o rfl];exact HTA.o);go_wp2_with fail;go_roundw
      case rel=>exact ⟨i+1,by omega,by go_num,HT5,HO,HB⟩
      case measure=>simp [intOf];omega
   ·obtain rfl:n=i:=by omega
    have HTE:Hid (ci9 (tv9 FL m n)=ci9 T∧T.length=m):=zhy (by
     have h1:tv9 FL m n=T:=by
      rw [HT.o.1,tv9,List.take_of_length_le (by rw [HN.o];exact Nat.le_refl _)]
     exact ⟨by rw [h1],by rw [HT.o.1];simp⟩)
    have HOW:Hid (wr.ownsRow w.heap.size 3 1 (.slice (some ⟨g,0,none⟩) m m) m (ci9 T)):=zhy (by
     rw [←HTE.o.1];exact HTI.o.own (by simp [tv9]) hg1 (by omega))
    go_wp2_with fail;go_ret2;exact ⟨some ⟨g,0,none⟩,m,by rw [HTE.o.2];rfl,by rw [HTE.o.2];exact HOW.o,HB.o⟩
 ·have hne:(E != 0)=true:=by simpa using h0
  have HN:Hid (T=[]):=zhy (by rw [←HEF.o.2.2,zea,if_neg (by rw [HEF.o.1];exact h0)]);go_wp2_with fail;go_ret2;exact ⟨none,0,by rw [HN.o];rfl,by rw [HN.o];exact World.ownsRow_nil _ _ _ _,HB1.o⟩
theorem zsd:zzr:=by
 intro A c m L w hr hm _;have HLO:=zhy (zj2 A c m L w hr hm);clear hr hm;generalize jc L=E at *;generalize zcu L=FL at *;go_enter Tryz.func23,Tryz.ntmps23;go_wp2_with fail;refine HLO.o.mono ?_;rintro r w1 ⟨A1,c1,rfl,ho,hb⟩;have HB1:=zhy hb;clear ho hb HLO;go_wp2_with fail;go_ret;exact ⟨rfl,HB1.o⟩
theorem zzq (L:List Int):∀u∈ci9 L,u.oneCell'=true:=by
 intro u hu;simp only [ci9,List.mem_map] at hu;obtain ⟨x,_,rfl⟩:=hu;rfl
theorem zlv (w:World) (x:Int):Rn (w.alloc (.cells #[.int .i64 x] 3)) (some ⟨w.heap.size,0,none⟩) 1 [x]:=Rn.new w [x] 3 (by unfold maxLen;simp)
theorem jl (w:World) {ops:Array Oper} {rest:List Oper} {o:Oper} {a:Act} {Q:Exit→Act→World→Prop} (hgd:o.guard=none) (s x:Operand)
  (ho:o.op=.call { callee:=.builtin .append,args:=#[s,x],argTypes:=#[59,59]})
  (base:Nat) (v:Value) (n:Nat) (K:List Int) (hs:a.eval s=v) (hown:w.ownsRow base 3 1 v n (ci9 K))
  (A:Option Addr) (m c:Nat) (L:List Int) (hx:a.eval x=.slice A m c) (hr:Rn w A c L) (hm:m=L.length) (hbytes:n+m≤1000000) (hbase:base≤w.heap.size)
  (h:∀A' c' w',w'.ownsRow base 3 1 (.slice A' (n+m) c') (n+m) (ci9 (K++L))→Below base w w'→wpList Tryz.prog ops Q rest (a.put o.dst (.slice A' (n+m) c')) w'):wpList Tryz.prog ops Q (o::rest) a w:=by
 have hinfo:=Tryz.infoI9;rw [Option.map_eq_some_iff] at hinfo;obtain ⟨i,hi,hz⟩:=hinfo;simp only [Prod.mk.injEq] at hz;obtain ⟨hz0,hz1,hz2⟩:=hz;have hbel:∀{w'},w.grownBy w' v.ownBlock→Below base w w':=fun hg=>(Below.refl _ _).grown hg hbase fun g hg'=>(hown.lt g hg').1;rcases hr.2.2 with ⟨rfl,rfl⟩ | ⟨ad,rfl,hcell⟩
 ·have h0:L=[]:=List.eq_nil_of_length_eq_zero (by have:=hr.1;omega);subst h0;obtain rfl:m=0:=hm;refine wpList_append_own_none hgd s x 59 ho base 3 i 1 Tryz.underlying59 hi v n (ci9 K) hs hown hx ?_;obtain ⟨A',c',rfl⟩:=qv hown;have:=h A' c' w (by simpa using hown) (hbel (World.grownBy.refl w _));simpa using this
 ·refine wpList_append_own_at w hgd s x 59 ho base 3 i _ 1 8 Tryz.underlying59 hi hz0 hz1 hz2 rfl (by decide) v n (ci9 K) hs hown ad m c (ci9 L) hx (by simp [ci9,hm])
   (fun j u hj=>by
    simp only [ci9,List.getElem?_map,Option.map_eq_some_iff] at hj;obtain ⟨y,hy,rfl⟩:=hj;exact hcell j y hy) (zzq L) (by unfold maxLen;omega) (by omega) hbase ?_
  intro v' w' hown' hg _ _;obtain ⟨A',c',rfl⟩:=qv hown';exact h A' c' w' (by rw [ci9,List.map_append];exact hown') (hbel hg)
theorem zgv (A:Option Addr) (n c:Nat) (zs:List Int) (base:Nat) (w:World) (hn:zs.length=n) (ho:w.ownsRow base 3 1 (.slice A n c) n (ci9 zs)) (hb:base≤w.heap.size) (hs:n≤1000) :
  Calls Tryz.prog 114 #[.slice A n c] w fun r w'=>r=.returned (.tuple #[])∧w'.ownsRow base 3 1 (.slice A n c) n (ci9 (zs.mergeSort fun x y=>decide (x≤y)))∧Below base w w':=by
 subst hn;by_cases h0:zs=[]
 ·subst h0;refine (Tryz.slices_Sort_int_none A c w).mono ?_;rintro r w' ⟨rfl,rfl⟩;exact ⟨rfl,by simpa using ho,Below.refl _ _⟩
 ·have hpos:0<zs.length:=List.length_pos_iff.2 h0;have hlt:=fun g=>ho.lt g;rcases ho.2 with ⟨hv,h1⟩ | ⟨g,cap,cur,hv,hg,hh,h1,h2,h3,h4⟩
  ·omega
  ·injection hv with e1 e2 e3;subst e1 e3;rw [Nat.mul_one] at h4;have hl:(zs.mergeSort fun x y=>decide (x≤y)).length=zs.length:=List.length_mergeSort zs;refine (Tryz.slices_Sort_int g 0 c zs w (holds_of_blockI hh h4) (zg9.1 hh).1 (by omega)).mono ?_;rintro r w' ⟨rfl,q,os,rfl⟩;refine ⟨rfl,ownsRow_sortedI hl hg hh h1 h2 h3,(Below.refl _ _).grown (grownBy_sortedI _) hb fun k hk=>?_⟩;injection hk with hk;omega
theorem zcf (A:Option Addr) (n c:Nat) (zs:List Int) (base:Nat) (w:World) (hn:zs.length=n) (ho:w.ownsRow base 3 1 (.slice A n c) n (ci9 zs)) (hb:base≤w.heap.size) :
  Calls Tryz.prog 115 #[.slice A n c] w fun r w'=>r=.returned (.slice A (Lib.compact zs).length c)∧w'.ownsRow base 3 1 (.slice A (Lib.compact zs).length c) (Lib.compact zs).length (ci9 (Lib.compact zs))∧Below base w w':=by
 subst hn;by_cases h0:zs=[]
 ·subst h0;refine (Tryz.slices_Compact_int_empty A c w).mono ?_;rintro r w' ⟨rfl,rfl⟩;exact ⟨rfl,ho,Below.refl _ _⟩
 ·have hpos:0<zs.length:=List.length_pos_iff.2 h0;rcases ho.2 with ⟨hv,h1⟩ | ⟨g,cap,cur,hv,hg,hh,h1,h2,h3,h4⟩
  ·omega
  ·injection hv with e1 e2 e3;subst e1 e3;rw [Nat.mul_one] at h4;have hle:=Lib.compact_length_le zs;refine (Tryz.slices_Compact_int g 0 c zs w (holds_of_blockI hh h4) (by unfold maxLen at h2;omega) h1).mono ?_;rintro r w' ⟨rfl,q,rfl⟩;obtain ⟨ts,hts⟩:∃ts,Lib.compact zs++List.replicate (zs.length-(Lib.compact zs).length) 0=ts:=⟨_,rfl⟩;have htl:ts.length=zs.length:=by rw [←hts];simp;omega
   rw [hts];have hG:Sort.putRow (Value.int .i64) (Sort.ahead w q) g 0 ts.toArray=Sort.grow (Sort.putRow (Value.int .i64) (Sort.ahead w q) g 0 ts.toArray) #[]:=(Go.Sort.grow_empty _).symm;rw [hG];refine ⟨rfl,⟨by simp [ci9],.inr ⟨g,c,_,rfl,hg,heap_sortedI _ hh,by omega,h2,by simp [Sort.putCells,h3],?_⟩⟩,(Below.refl _ _).grown (grownBy_sortedI _) hb fun k hk=>?_⟩
   ·have h5:=take_putCellsI cur ts (by omega);have h6:=congrArg (List.take (Lib.compact zs).length) h5;rw [List.take_take,htl,Nat.min_eq_left hle,←List.map_take,←hts,List.take_append_of_le_length (Nat.le_refl _),List.take_length] at h6;rw [Nat.mul_one];rw [←hts];exact h6
   ·injection hk with hk;omega
theorem ms2 (a b:Int) (h:a≤b):[a,b].mergeSort (fun x y=>decide (x≤y))=[a,b]:=by
 simp [List.mergeSort,List.MergeSort.Internal.splitInTwo,h]
theorem ms3 (a b:Int) (h:¬b≤a):[b,a].mergeSort (fun x y=>decide (x≤y))=[a,b]:=by
 simp [List.mergeSort,List.MergeSort.Internal.splitInTwo,h]
theorem cp1 (a:Int):Lib.compact [a]=[a]:=by simp [Lib.compact,Lib.compactUpTo,Lib.keeps,List.range_succ]
theorem cp2 (a:Int):Lib.compact [a,a]=[a]:=by simp [Lib.compact,Lib.compactUpTo,Lib.keeps,List.range_succ]
theorem cp3 (a b:Int) (h:a<b):Lib.compact [a,b]=[a,b]:=by
 have:¬b=a:=by omega
 simp [Lib.compact,Lib.compactUpTo,Lib.keeps,List.range_succ,this]
theorem cp0:Lib.compact ([]:List Int)=[]:=by simp [Lib.compact,Lib.compactUpTo]
def zjd (o a:Int) (p:Nat):List Int:=(if opL o=true then [tg9 (o,a,0)] else [])++(if opG o=true then [(p:Int)+1] else [])
theorem zpb {l:List Ins} (h:jc l=0) {p:Nat} (hp:p<l.length):Lib.compact ((zjd (iO9 l p) (iA9 l p) p).mergeSort fun x y=>decide (x≤y))=wy9 l p:=by
 have hw:=wl9 h;have hall:=qw (za h).1;obtain ⟨m1,m2,m3⟩:=zd0 hp
 have ho:iO9 l p<33:=by
  have h1:=hall.2.2 _ m1;unfold inM opM at h1;rw [←m2] at h1;simp only [Bool.and_eq_true,decide_eq_true_eq] at h1;by_cases h2:iO9 l p<33
  ·exact h2
  ·have:zf3 (iO9 l p)=-1:=by
    unfold zf3;repeat rw [if_neg (by omega)]
   have h3:zgq (iO9 l p)=0:=by
    unfold zgq;rw [if_neg (by omega)]
   rw [this,h3] at h1;omega
 by_cases h26:iO9 l p=26
 ·have e1:zjd 26 (iA9 l p) p=[iA9 l p]:=by
   rw [zjd,if_pos (by decide),if_neg (by decide)];rfl
  rw [wy9,h26,e1,if_neg (by omega),if_pos rfl];simp [cp1]
 by_cases h27:iO9 l p=27
 ·have e1:zjd 27 (iA9 l p) p=[iA9 l p,(p:Int)+1]:=by
   rw [zjd,if_pos (by decide),if_pos (by decide)];rfl
  have hj:=hw.jump p hp (.inr h27);rw [wy9,h27,e1,if_neg (by omega),if_neg (by omega),if_pos rfl];by_cases he:iA9 l p=p+1
  ·rw [if_pos he,he,ms2 _ _ (Int.le_refl _),cp2]
  ·rw [if_neg he,ms3 _ _ (by omega),cp3 _ _ (by omega)]
 by_cases h29:iO9 l p=29
 ·have e1:zjd 29 (iA9 l p) p=[iA9 l p+1,(p:Int)+1]:=by
   rw [zjd,if_pos (by decide),if_pos (by decide)];rfl
  obtain ⟨x,hx,hxp⟩:=hw.ofA p hp h29;obtain ⟨q1,q2,-,-,q5,-⟩:=hw.mem x hx;rw [hxp] at q1 q5;rw [wy9,h29,e1,if_neg (by omega),if_neg (by omega),if_neg (by omega),if_pos rfl,ms2 _ _ (by omega),cp3 _ _ (by omega)]
 have hL:opL (iO9 l p)=false:=by simp [opL,h26,h27,h29]
 by_cases he:iO9 l p=31∨iO9 l p=32
 ·have hG:opG (iO9 l p)=false:=by rcases he with e | e<;>rw [e]<;>decide
  rw [wy9,if_pos he,zjd,hL,hG];simp [cp0]
 ·have hG:opG (iO9 l p)=true:=by
   simp only [opG,opK,Bool.and_eq_true,decide_eq_true_eq,bne_iff_ne,ne_eq];omega
  rw [wy9,if_neg he,if_neg h26,if_neg h27,if_neg h29,zjd,hL,hG];simp [cp1]
theorem zy4:qcd:=by
 intro A c m L a w hr hm _;have HLm:=zhy hm;have HR:=zhy hr;have hml:m≤9223372036854775807:=by have:=hr.len;omega
 have HCK:=zhy (zsd A c m L w hr hm (by assumption));clear hr hm;obtain ⟨E,hE⟩:∃e,jc L=e:=⟨_,rfl⟩;obtain ⟨FW,hFW⟩:∃x,zd2 L a=x:=⟨_,rfl⟩;have HEF:=zhy (show jc L=E∧zd2 L a=FW from ⟨hE,hFW⟩);rw [hE] at HCK;rw [hFW];clear hE hFW;go_enter Tryz.func159,Tryz.ntmps159;go_wp2_with fail;refine HCK.o.mono ?_;rintro r w1 ⟨rfl,hb⟩;have HB1:=zhy hb;clear HCK hb;by_cases h0:E=0
 ·subst h0;have hE0:=HEF.o.1;by_cases ha:a<0
  ·have HF:Hid (FW=([],2)):=zhy (by rw [←HEF.o.2,zd2,if_pos hE0,if_pos (.inl ha)]);clear hE0;go_wp2_with fail;go_ret2;exact ⟨none,0,by rw [HF.o];rfl,by rw [HF.o];exact World.ownsRow_nil _ _ _ _,HB1.o⟩
  by_cases ham:(m:Int)≤a
  ·have HF:Hid (FW=([],2)):=zhy (by rw [←HEF.o.2,zd2,if_pos hE0,if_pos (.inr (by rw [HLm.o];exact ham))]);clear hE0;go_wp2_with fail;go_ret2;exact ⟨none,0,by rw [HF.o];rfl,by rw [HF.o];exact World.ownsRow_nil _ _ _ _,HB1.o⟩
  obtain ⟨p,rfl⟩:∃p:Nat,a=p:=⟨a.toNat,by omega⟩;have hpm:p<m:=by omega
  have HF:Hid (FW=(wy9 L p,0)):=zhy (by rw [←HEF.o.2,zd2,if_pos hE0,if_neg (by rw [HLm.o];omega),Int.toNat_natCast]);have hm2:m≤200:=by have:=(qw (za hE0).1).2.1;rw [HLm.o] at this;exact this
  obtain ⟨⟨o,b,z⟩,hx⟩:∃x,L[p]?=some x:=⟨_,zg7 (by rw [HLm.o];exact hpm)⟩
  have HWW:Hid (Lib.compact ((zjd o b p).mergeSort fun x y=>decide (x≤y))=wy9 L p):=zhy (by
   have h:=zpb hE0 (p:=p) (by rw [HLm.o];exact hpm);simpa [iO9,iA9,hx] using h)
  have hb0:0≤b∧b≤1000000:=by
   have h1:=(qw (za hE0).1).2.2 _ (List.mem_of_getElem? hx);have h2:=zgl h1;simp at h2;omega
  obtain ⟨ad,hA,k1,k2,k3⟩:=(HR.o.keep HB1.o).cl9 hx;subst hA;have HX:=zhy hx;clear hx hE0 ha ham;go_wp2_with fail;refine (zqv o _).mono ?_;rintro r w2 ⟨rfl,rfl⟩;cases hL:opL o with
  | false =>
   have HL:=zhy hL;clear hL;have HO1:Hid (w1.ownsRow w.heap.size 3 1 (.slice none 0 0) 0 (ci9 [])):=zhy (World.ownsRow_nil _ _ _ _);go_wp2_with fail;refine (zmh o _).mono ?_;rintro r w5 ⟨rfl,rfl⟩;cases hG:opG o with
   | false =>
    have HLG:Hid (opL o=false∧opG o=false):=zhy ⟨HL.o,hG⟩;clear hG;have HWY:Hid (Lib.compact (([]:List Int).mergeSort fun x y=>decide (x≤y))=wy9 L p):=zhy (by rw [←HWW.o];simp [zjd,HLG.o.1,HLG.o.2]);go_wp2_with fail;refine (zgv none 0 0 [] w.heap.size w1 rfl HO1.o HB1.o.size (by omega)).mono ?_;rintro r w7 ⟨rfl,ho,hb⟩;have HO7:=zhy ho;have HB7:Hid (Below w.heap.size w w7):=zhy (HB1.o.trans hb);clear ho hb;go_wp2_with fail;refine (zcf none 0 0 _ w.heap.size w7 (by simp) HO7.o HB7.o.size).mono ?_;rw [HWY.o];rintro r w8 ⟨rfl,ho,hb⟩;have HO8:=zhy ho;have HB8:Hid (Below w.heap.size w w8):=zhy (HB7.o.trans hb);clear ho hb;go_wp2_with fail;go_ret2;exact ⟨none,0,by rw [HF.o];rfl,by rw [HF.o];exact HO8.o,HB8.o⟩
   | true =>
    have HLG:Hid (opL o=false∧opG o=true):=zhy ⟨HL.o,hG⟩;clear hG;go_wp2_with (at_builtin;refine jl _ rfl (.tmp 41) (.tmp 44) rfl w.heap.size _ 0 [] rfl (HO1.o.alloc _) _ 1 1 [((p:Int)+1)] rfl (zlv w1 ((p:Int)+1)) rfl (by omega) (by have:=HB1.o.size;simp;omega) ?_);rintro A6 c6 w6 ho hb;have HO6:=zhy ho;have HB6:Hid (Below w.heap.size w w6):=zhy (HB1.o.trans ((qh.mono HB1.o.size).trans hb));clear ho hb;have HWY:Hid (Lib.compact ((([]++[((p:Int)+1)]):List Int).mergeSort fun x y=>decide (x≤y))=wy9 L p):=zhy (by rw [←HWW.o];simp [zjd,HLG.o.1,HLG.o.2]);go_wp2_with fail;refine (zgv A6 (0+1) c6 ([]++[((p:Int)+1)]) w.heap.size w6 rfl HO6.o HB6.o.size (by omega)).mono ?_;rintro r w7 ⟨rfl,ho,hb⟩;have HO7:=zhy ho;have HB7:Hid (Below w.heap.size w w7):=zhy (HB6.o.trans hb);clear ho hb;go_wp2_with fail;refine (zcf A6 (0+1) c6 _ w.heap.size w7 (by simp) HO7.o HB7.o.size).mono ?_;rw [HWY.o];rintro r w8 ⟨rfl,ho,hb⟩;have HO8:=zhy ho;have HB8:Hid (Below w.heap.size w w8):=zhy (HB7.o.trans hb);clear ho hb;go_wp2_with fail;go_ret2;exact ⟨A6,c6,by rw [HF.o];rfl,by rw [HF.o];exact HO8.o,HB8.o⟩
  | true =>
   have HL:=zhy hL;have htg:tg9 (o,b,0)=tg9 (o,b,z):=rfl;clear hL;go_wp2_with fail;refine (zun o b z _ hb0).mono ?_;rintro r w3 ⟨rfl,hb3⟩;have HB3:Hid (Below w.heap.size w w3):=zhy (qc HB1.o hb3);clear hb3 k1 k2 k3;have HO3:Hid (w3.ownsRow w.heap.size 3 1 (.slice none 0 0) 0 (ci9 [])):=zhy (World.ownsRow_nil _ _ _ _);obtain ⟨tg,htg2⟩:∃t,tg9 (o,b,z)=t:=⟨_,rfl⟩;rw [htg2] at htg ⊢;have HWW:Hid (Lib.compact ((zjd o b p).mergeSort fun x y=>decide (x≤y))=wy9 L p∧zjd o b p=[tg]++(if opG o=true then [(p:Int)+1] else [])):=zhy ⟨HWW.o,by rw [zjd,HL.o,htg];rfl⟩;have HWW:Hid (Lib.compact (([tg]++(if opG o=true then [(p:Int)+1] else [])).mergeSort fun x y=>decide (x≤y))=wy9 L p):=zhy (by rw [←HWW.o.2];exact HWW.o.1);clear htg htg2;go_wp2_with (at_builtin;refine jl _ rfl (.tmp 27) (.tmp 33) rfl w.heap.size _ 0 [] rfl (HO3.o.alloc _) _ 1 1 [tg] rfl (zlv w3 tg) rfl (by omega) (by have:=HB3.o.size;simp;omega) ?_);rintro A4 c4 w4 ho hb;have HO4:Hid (w4.ownsRow w.heap.size 3 1 (.slice A4 1 c4) 1 (ci9 [tg])):=zhy ho;have HB4:Hid (Below w.heap.size w w4):=zhy (HB3.o.trans ((qh.mono HB3.o.size).trans hb));obtain ⟨ad',hA,k1,k2,k3⟩:=(HR.o.keep HB4.o).cl9 HX.o;injection hA with hA;subst hA;clear ho hb k2 k3;go_wp2_with fail;refine (zmh o _).mono ?_;rintro r w5 ⟨rfl,rfl⟩;cases hG:opG o with
   | false =>
    have HLG:Hid (opL o=true∧opG o=false):=zhy ⟨HL.o,hG⟩;clear hG;have HWY:Hid (Lib.compact (([tg]:List Int).mergeSort fun x y=>decide (x≤y))=wy9 L p):=zhy (by rw [←HWW.o];simp [zjd,HLG.o.1,HLG.o.2]);go_wp2_with fail;refine (zgv A4 1 c4 [tg] w.heap.size w4 rfl HO4.o HB4.o.size (by omega)).mono ?_;rintro r w7 ⟨rfl,ho,hb⟩;have HO7:=zhy ho;have HB7:Hid (Below w.heap.size w w7):=zhy (HB4.o.trans hb);clear ho hb;go_wp2_with fail;refine (zcf A4 1 c4 _ w.heap.size w7 (by simp) HO7.o HB7.o.size).mono ?_;rw [HWY.o];rintro r w8 ⟨rfl,ho,hb⟩;have HO8:=zhy ho;have HB8:Hid (Below w.heap.size w w8):=zhy (HB7.o.trans hb);clear ho hb;go_wp2_with fail;go_ret2;exact ⟨A4,c4,by rw [HF.o];rfl,by rw [HF.o];exact HO8.o,HB8.o⟩
   | true =>
    have HLG:Hid (opL o=true∧opG o=true):=zhy ⟨HL.o,hG⟩;clear hG;go_wp2_with (at_builtin;refine jl _ rfl (.tmp 41) (.tmp 44) rfl w.heap.size _ 1 [tg] rfl (HO4.o.alloc _) _ 1 1 [((p:Int)+1)] rfl (zlv w4 ((p:Int)+1)) rfl (by omega) (by have:=HB4.o.size;simp;omega) ?_);rintro A6 c6 w6 ho hb;have HO6:=zhy ho;have HB6:Hid (Below w.heap.size w w6):=zhy (HB4.o.trans ((qh.mono HB4.o.size).trans hb));clear ho hb;have HWY:Hid (Lib.compact ((([tg]++[((p:Int)+1)]):List Int).mergeSort fun x y=>decide (x≤y))=wy9 L p):=zhy (by rw [←HWW.o];simp [zjd,HLG.o.1,HLG.o.2]);go_wp2_with fail;refine (zgv A6 (1+1) c6 ([tg]++[((p:Int)+1)]) w.heap.size w6 rfl HO6.o HB6.o.size (by omega)).mono ?_;rintro r w7 ⟨rfl,ho,hb⟩;have HO7:=zhy ho;have HB7:Hid (Below w.heap.size w w7):=zhy (HB6.o.trans hb);clear ho hb;go_wp2_with fail;refine (zcf A6 (1+1) c6 _ w.heap.size w7 (by simp) HO7.o HB7.o.size).mono ?_;rw [HWY.o];rintro r w8 ⟨rfl,ho,hb⟩;have HO8:=zhy ho;have HB8:Hid (Below w.heap.size w w8):=zhy (HB7.o.trans hb);clear ho hb;go_wp2_with fail;go_ret2;exact ⟨A6,c6,by rw [HF.o];rfl,by rw [HF.o];exact HO8.o,HB8.o⟩
 ·have hne:(E != 0)=true:=by simpa using h0
  have HF:Hid (FW=([],E)):=zhy (by rw [←HEF.o.2,zd2,if_neg (by rw [HEF.o.1];exact h0),HEF.o.1]);go_wp2_with fail;go_ret2;exact ⟨none,0,by rw [HF.o];rfl,by rw [HF.o];exact World.ownsRow_nil _ _ _ _,HB1.o⟩
theorem zwv (w:World) (A:Option Addr) (m c:Nat):(binOp .eql 40 (.slice A m c) (.slice none 0 0)).run Tryz.prog w=.ok (.bool A.isNone) w:=by
 simp [binOp,run_equal_slice_nil w 40 5 A m c Tryz.underlying40]
theorem zq1 (A:Option Addr) (c m:Nat) (L:List Int) (w:World) (hr:Rd w A c L) (hm:L.length=m) (hl:m≤1000000):Calls Tryz.prog 199 #[.slice A m c] w fun e w'=>∃A' c',e=.returned (.slice A' m c')∧Rd w' A' c' L∧Below w.heap.size w w':=by
 have HB5:=zhy hr.1;cases A with
 | none =>
  obtain rfl:c=0:=by rcases hr.2.2.2 with ⟨_,h⟩ | ⟨_,h,_⟩;exact h;cases h
  obtain rfl:L=[]:=List.eq_nil_of_length_eq_zero (by have:=hr.le;omega);obtain rfl:m=0:=hm.symm;have q:=fun w=>zwv w none 0 0;go_enter Tryz.func199,Tryz.ntmps199;go_wp2_with fail;go_ret;exact ⟨none,0,rfl,Rd.none_ _,Below.refl _ _⟩
 | some ad =>
  have HO:=zhy (show (w.alloc (.cells #[] 5)).ownsRow w.heap.size 5 1 (.slice (some ⟨w.heap.size,0,none⟩) 0 0) 0 (cel []) from
   World.ownsRow_lit (base:=w.heap.size) (e:=5) (size:=1) w #[] 0 (Nat.le_refl _) (by unfold maxLen;simp) (by simp))
  have HR:=zhy (hr.keep (qh (a:=.cells #[] 5)));clear hr;have q:=fun w=>zwv w (some ad) m c;go_enter Tryz.func199,Tryz.ntmps199;go_wp2_with (at_builtin;obtain ⟨i0,hi,hz0,hz1,hz2⟩:=info_parts Tryz.info5;refine qa _ rfl (.tmp 5) (.tmp 6) 40 rfl w.heap.size 5 i0 Tryz.underlying40 hi hz0 hz1 hz2 _ 0 [] rfl HO.o (some ad) m c L rfl HR.o hm.symm (by omega) (by simp) ?_);intro A' c' w1 ho hg hb _;have HO1:=zhy ho;have HB:=zhy (qh.trans hb);clear ho hg hb;go_wp2_with fail;go_ret;exact ⟨A',c',rfl,qt (by simpa using HO1.o) HB5.o,HB.o⟩
theorem Rn.past10 {w:World} {t g:Nat} {Z:List Rx} {A:Option Addr} {c:Nat} {K:List Int} (h:Rn w A c K) (hw:Wr w t g Z) (j:Nat) (v:Value):Rn (w.setCell ⟨g,j,none⟩ v) A c K:=by
 refine ⟨h.1,h.2.1,?_⟩;rcases h.2.2 with hn | ⟨ad,ha,hc⟩
 ·exact .inl hn
 ·refine .inr ⟨ad,ha,fun i x hx=>?_⟩;have:=hc i x hx;rw [World.cell?_setCell_other _ _ _ _ (fun e=>hw.no_int this (by rw [←e]))];exact this
def qah (w w':World) (t g:Nat) (Z':List Rx):Prop:=Wr w' t g Z'∧Below g w w'∧(∀A c K,Rd w A c K→Rd w' A c K)∧∀A c K,Rn w A c K→Rn w' A c K
theorem qah.call {w w1 w':World} {t g:Nat} {Z:List Rx} (h:qah w w1 t g Z) (hb:Below w1.heap.size w1 w'):qah w w' t g Z:=
 ⟨h.1.keep hb,h.2.1.trans (hb.mono (by have:=h.1.lt;omega)),fun A c K hk=>(h.2.2.1 A c K hk).keep hb,fun A c K hk=>(h.2.2.2 A c K hk).keep hb⟩
def zm5 (Z:List Rz) (i:Nat) (K:List Int):List Rz:=if (Z[i]?.getD z10).1 then Z else Z.set i (true,K)
def zlk (Z:List Rz) (i:Nat) (K:List Int):Bool:=if (Z[i]?.getD z10).1 then (Z[i]?.getD z10).2==K else true
theorem qbk (t g i:Nat) (Z:List Rx) (A:Option Addr) (c m:Nat) (K:List Int) (w:World) (hw:Wr w t g Z) (hi:i<Z.length) (hr:Rd w A c K) (hm:K.length=m) (hl:m≤1000000) :
  Calls Tryz.prog 160 #[.pointer (some ⟨g,i*2,none⟩),.slice A m c] w fun e w'=>e=.returned (.bool (zlk (Z.map rz) i K))∧∃Z',Z'.length=Z.length∧Z'.map rz=zm5 (Z.map rz) i K∧qah w w' t g Z':=by
 subst hm;obtain ⟨⟨r,B,b,J⟩,hz⟩:∃z,Z[i]?=some z:=⟨_,zg7 hi⟩;have hzi:(Z.map rz)[i]?.getD z10=(r,J):=by rw [List.getElem?_map,hz];rfl
 have y0:=hw.cell0 hz;have y1:=hw.cell1 hz;dsimp only at y0 y1;have HZ:=zhy hz;have HI:=zhy hzi;have HW:=zhy hw;have HR:=zhy hr;have hJ:Rd w B b J:=hw.2 _ (List.mem_of_getElem? hz);have HJ:=zhy hJ;clear hz hzi hw hr hJ;cases r with
 | true =>
  obtain ⟨v,hv⟩:∃v,(J==K)=v:=⟨_,rfl⟩;have HV:Hid (zlk (Z.map rz) i K=v):=zhy (by rw [zlk,HI.o,if_pos rfl];exact hv);have HMZ:Hid (zm5 (Z.map rz) i K=Z.map rz):=zhy (by rw [zm5,HI.o,if_pos rfl]);have HE:=zhy (zlz B A b c _ _ J K v w HJ.o HR.o rfl rfl hv);clear hv;go_enter Tryz.func160,Tryz.ntmps160;go_wp2_with fail;refine HE.o.mono ?_;rintro e w1 ⟨rfl,hb⟩;have HB:=zhy hb;clear hb HE y0 y1;go_wp2_with fail;go_ret;exact ⟨by rw [HV.o];rfl,Z,rfl,HMZ.o.symm,qah.call ⟨HW.o,Below.refl _ _,fun _ _ _ h=>h,fun _ _ _ h=>h⟩ HB.o⟩
 | false =>
  have HV:Hid (zlk (Z.map rz) i K=true):=zhy (by rw [zlk,HI.o,if_neg (by simp)]);have HMZ:Hid (zm5 (Z.map rz) i K=(Z.map rz).set i (true,K)):=zhy (by rw [zm5,HI.o,if_neg (by simp)]);have HC:=zhy (zq1 A c _ K w HR.o rfl hl);go_enter Tryz.func160,Tryz.ntmps160;go_wp2_with fail;refine HC.o.mono ?_;rintro e w1 ⟨A2,c2,rfl,hr2,hb⟩;have HW1:=zhy (HW.o.keep hb);have HR1:=zhy (HR.o.keep hb);have HR2:=zhy hr2;have HB1:=zhy hb;clear hb hr2 HC y0 y1;have y0:=HW1.o.cell0 HZ.o;have y1:=HW1.o.cell1 HZ.o;have f0:=HW1.o.froz (i*2);have f1:=HW1.o.froz (i*2+1);dsimp only at y0 y1;have HW2:=zhy (HW1.o.setr HZ.o true);have HZ2:Hid ((Z.set i ⟨true,B,b,J⟩)[i]?=some ⟨true,B,b,J⟩):=zhy (by rw [List.getElem?_set,if_pos rfl,if_pos hi]);have HR22:=zhy (HR2.o.past HW1.o (i*2) (.bool true));have HW3:=zhy (HW2.o.setk HZ2.o HR22.o);have HR3:=zhy ((HR1.o.past HW1.o (i*2) (.bool true)).past HW2.o (i*2+1) (.slice A2 K.length c2));have HR33:=zhy (HR22.o.past HW2.o (i*2+1) (.slice A2 K.length c2))
  have HM3:Hid (qah w ((w1.setCell ⟨g,i*2,none⟩ (.bool true)).setCell ⟨g,i*2+1,none⟩ (.slice A2 K.length c2)) t g ((Z.set i ⟨true,B,b,J⟩).set i ⟨true,A2,c2,K⟩)):=zhy
   ⟨HW3.o,((HB1.o.mono (Nat.le_of_lt HW.o.lt)).setCell (p:=⟨g,i*2,none⟩) (Nat.le_refl _) _).setCell (p:=⟨g,i*2+1,none⟩) (Nat.le_refl _) _,
    fun A c K h=>((h.keep HB1.o).past HW1.o _ _).past HW2.o _ _,fun A c K h=>((h.keep HB1.o).past10 HW1.o _ _).past10 HW2.o _ _⟩
  clear HW2;go_upto_region 3 with (fail);clear y0 y1 f0 f1 HR22;generalize (w1.setCell ⟨g,i*2,none⟩ (.bool true)).setCell ⟨g,i*2+1,none⟩ (.slice A2 K.length c2)=w3 at HW3 HR3 HR33 HM3 ⊢;have HZ3:Hid (((Z.set i ⟨true,B,b,J⟩).set i ⟨true,A2,c2,K⟩)[i]?=some ⟨true,A2,c2,K⟩):=zhy (by rw [List.getElem?_set,if_pos rfl,if_pos (by rw [List.length_set];exact hi)]);have y1:=HW3.o.cell1 HZ3.o;dsimp only at y1;have HE:=zhy (zlz A2 A c2 c _ _ K K true w3 HR33.o HR3.o rfl rfl (by simp));go_wp2_with fail;refine HE.o.mono ?_;rintro e w4 ⟨rfl,hb⟩;have HB:=zhy hb;clear hb HE y1;go_wp2_with fail;go_ret;exact ⟨by rw [HV.o];rfl,_,by rw [List.length_set,List.length_set],by rw [HMZ.o,List.set_set,List.map_set],HM3.o.call HB.o⟩
theorem Tryz.infoW10:(Tryz.prog.info? 170).map (fun i=>(i.zero,i.size))=some (some (.agg (cer (List.replicate 200 zeq)).toArray),400):=by kernel_rfl
theorem zi {Z:List Rx} (h:Z.length=200):(cer Z).toArray.size=400:=by rw [List.size_toArray,zce,h]
theorem zet (Z:List Rx):(cer Z).toArray.all (·.oneCell')=true:=by
 rw [Array.all_eq_true_iff_forall_mem];intro u hu;have hu:u∈cer Z:=by simpa using hu
 simp only [cer,List.mem_flatMap] at hu;obtain ⟨z,-,hz⟩:=hu;simp at hz;rcases hz with rfl | rfl<;>rfl
theorem zts {Z:List Rx} {i:Nat} {z:Rx} (h:Z[i]?=some z):(Z.map rz)[i]?.getD z10=rz z:=by rw [List.getElem?_map,h];rfl
theorem zn6 {S:List Rz} {v:Nat} {x:Rz} (h:S[v]?.getD z10=x) (hr:x.1=true):S.set v x=S:=by
 cases hs:S[v]? with
 | none =>
  rw [hs] at h;subst h;cases hr
 | some y =>
  rw [hs] at h;obtain ⟨h1,h2⟩:=zg8.1 hs;simp only [Option.getD_some] at h;subst h;rw [←h2];exact List.set_getElem_self h1
theorem zo1 {nx:List Int} {v:Nat} {W:List Int} {S:List Rz}:za0 nx ((v:Int)::W) S=if zlk S v nx then za0 nx W (zm5 S v nx) else none:=by
 rw [za0,Int.toNat_natCast];cases hz:S[v]?.getD z10 with
 | mk r K =>
  cases r with
  | false=>simp [zlk,zm5,hz]
  | true =>
   by_cases hk:K=nx
   ·subst hk;simp [zlk,zm5,hz,zn6 hz rfl]
   ·simp [zlk,zm5,hz,hk]
theorem zpi {S:List Rz} {v m:Nat} {K:List Int} (h:v<m):zlk (S.take m) v K=zlk S v K:=by rw [zlk,zlk,List.getElem?_take_of_lt h]
theorem zpe {S:List Rz} {v m:Nat} {K:List Int} (h:v<m):zm5 (S.take m) v K=(zm5 S v K).take m:=by
 rw [zm5,zm5,List.getElem?_take_of_lt h];split
 ·rfl
 ·rw [List.take_set]
theorem zj5 {d:Md} {h:Mh} {c:List Ins} {p m:Nat} (hpm:p≤m) {e:Int} (he:(qk d h c p).2=e) (h0:e≠0):(qk d h c m).2=e:=by
 rw [←he];exact zdq (by rw [he];exact h0) m hpm
theorem Ri.keepB {w w':World} {A:Option Addr} {c:Nat} {L:List Ins} (h:Ri w A c L) (hb:Below w.heap.size w w'):Ri w' A c L:=(fT A c L).keep w w' h hb
theorem Wr.keepB {w w':World} {t g k:Nat} {Z:List Rx} (h:Wr w t g Z) (hb:Below k w w') (hg:g<k):w'.heap[g]?=some (.cells (cer Z).toArray t (0,0)):=(hb.block g hg).trans h.1
theorem zp {w:World} {g t:Nat} {old:Array Value} (h:w.heap[g]?=some (.cells old t (0,0))) (cs:Array Value):(w.setRow g cs).heap[g]?=some (.cells cs t (0,0)):=by
 simp only [World.setRow,Array.getElem?_modify,if_pos,h];rfl
theorem Rd.past_row {w:World} {t g:Nat} {Z:List Rx} {A:Option Addr} {c:Nat} {K:List Int} (h:Rd w A c K) (hw:w.heap[g]?=some (.cells (cer Z).toArray t (0,0))) (cs:Array Value):Rd (w.setRow g cs) A c K:=by
 refine ⟨h.1,h.2.1,h.2.2.1,?_⟩;rcases h.2.2.2 with hn | ⟨ad,ha,hc⟩
 ·exact .inl hn
 ·refine .inr ⟨ad,ha,fun i x hx=>?_⟩;have h1:=hc i x hx;obtain ⟨p,hp⟩:∃p,ad.add i=p:=⟨_,rfl⟩;rw [hp] at h1 ⊢
  have hne:¬g=p.block:=by
   intro e;obtain ⟨b,o,sp⟩:=p;subst e;cases sp with
   | none =>
    rw [cell_of_row w _ _ _ _ (0,0) hw,List.getElem?_toArray] at h1;exact zwq Z _ (List.mem_of_getElem? h1) _ _ rfl
   | some s=>simp [World.cell?,hw] at h1
  rw [World.cell?_of_block (w:=w)]
  ·exact h1
  ·simp only [World.setRow,Array.getElem?_modify];rw [if_neg hne]
def zv3 (w w':World) (mm:Nat) (T:List Rz×Int) (e:Ending):Prop:=∃Z,e=.returned (.tuple #[.agg (cer Z).toArray,.int .i64 T.2])∧Z.length=200∧(∀z∈Z,Rd w' z.A z.c z.K)∧(T.2=0→(Z.map rz).take mm=T.1)∧Below w.heap.size w w'
theorem zv3.mk {w w':World} {mm:Nat} {T:List Rz×Int} {Z:List Rx} {e:Int} (h:T.2=e) (h0:e=0→(Z.map rz).take mm=T.1) (hl:Z.length=200) (hr:∀z∈Z,Rd w' z.A z.c z.K) (hb:Below w.heap.size w w'):zv3 w w' mm T (.returned (.tuple #[.agg (cer Z).toArray,.int .i64 e])):=
 ⟨Z,by rw [h],hl,hr,fun h2=>h0 (by rw [←h];exact h2),hb⟩
theorem zdz (tm:Array Value) (w':World) (r:Nat) (cs:Array Value) (e:Int) (h2:tm[2]?.getD undef=.pointer (some ⟨r,0,none⟩)) (h3:tm[3]?.getD undef=.int .i64 e) (hw:w'.heap[r]?=some (.cells cs 170 (0,0))) (hs:cs.size=400) (R:Ending→World→Prop)
  (hR:R (.returned (.tuple #[.agg cs,.int .i64 e])) w'):bodyPost Tryz.prog Tryz.f95 R .ret { tmps:=tm,defers:=[]} w':=by
 refine bodyPost_ret (v:=.tuple #[.agg cs,.int .i64 e]) ?_ rfl hR;rw [results_cell_tmp Tryz.results95];have e2:tm.getD 2 undef=.pointer (some ⟨r,0,none⟩):=by simpa using h2
 have e3:tm.getD 3 undef=.int .i64 e:=by simpa using h3
 rw [e2,e3];simp only [asAddr,Sem.run_pure,Result.andThen,run_loadVar_row w' r _ 170 cs (0,0) _ hw Tryz.underlying170 rfl (by rw [hs];exact (zero_of_info Tryz.infoW10).2)]
theorem zwh (n:Int) (w:World):Calls Tryz.prog 230 #[.int .u8 n] w fun e w'=>∃A c A' c' m,e=.returned (.tuple #[.agg #[.slice A (tkL n).length c,.slice A' (gvL n).length c'],.bool (fxB n)]) ∧
  w'.ownsRow w.heap.size 5 1 (.slice A (tkL n).length c) (tkL n).length (cel (tkL n))∧(∀x:Addr,A=some x→x.block<m)∧w.heap.size≤m∧w'.ownsRow m 5 1 (.slice A' (gvL n).length c') (gvL n).length (cel (gvL n))∧Below w.heap.size w w':=by
 have HT:=fun w=>zhy (zpm n w);have HG:=fun w=>zhy (zqb n w);obtain ⟨T,hT⟩:∃T,tkL n=T:=⟨_,rfl⟩;obtain ⟨V,hV⟩:∃V,gvL n=V:=⟨_,rfl⟩;obtain ⟨v,hv⟩:∃v,fxB n=v:=⟨_,rfl⟩;rw [hT,hV,hv];simp only [hT,hV,hv] at HT HG;clear hT hV hv;go_enter Tryz.func230,Tryz.ntmps230;go_wp2_with fail;refine (HT _).o.mono ?_;rintro e w2 ⟨A,c,rfl,ho2,hb2⟩;have O2:=zhy ho2;have B2:=zhy hb2;clear ho2 hb2;go_wp2_with fail;refine (HG _).o.mono ?_;rintro e w3 ⟨A',c',rfl,ho3,hb3⟩;have O3:=zhy ho3;have B3:=zhy (B2.o.trans (hb3.mono B2.o.size))
 have hbl:∀x:Addr,A=some x→x.block<w2.heap.size:=by
  intro x hx;subst hx;have:=(O2.o.lt x.block rfl).2;exact this
 have O2':=zhy (qb O2.o hb3 (Nat.le_refl _));have hsz:=zhy (Nat.le_trans (show w.heap.size≤w.heap.size+1 by omega) (by simpa using B2.o.size));have HB:=zhy hbl;clear ho3 hb3 hbl O2;obtain ⟨hc,hf⟩:=zbi B3.o;go_wp2_with fail;have hlt:w.heap.size<w2.heap.size:=by have:=B2.o.size;simp at this;omega
 refine bodyPost_ret (v:=.tuple #[.agg #[.slice A T.length c,.slice A' V.length c'],.bool v]) (by simp [results,Tryz.results230,go_sem,hc]) rfl ⟨A,c,A',c',w2.heap.size,rfl,?_,HB.o,hsz.o,?_,?_⟩
 ·exact qg (ownsRow_setCell_below (ownsRow_setCell_below O2'.o (by simp) _) (by simp) _) (by simp)
 ·exact ownsRow_setCell_below (ownsRow_setCell_below O3.o hlt _) hlt _
 ·exact zdt (zdb B3.o) (Nat.le_refl _) (Nat.le_refl _) _ _
end Go.Proofs.YtnjgkkoiamiaaaaGreatDoor
