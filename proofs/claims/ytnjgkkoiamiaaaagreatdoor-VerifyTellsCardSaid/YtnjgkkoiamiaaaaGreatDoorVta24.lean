import Derived.Test.YtnjgkkoiamiaaaaGreatDoorVta1
import Derived.Test.YtnjgkkoiamiaaaaGreatDoorVta22
import Derived.Test.YtnjgkkoiamiaaaaGreatDoorVta23
set_option maxRecDepth 100000
set_option maxHeartbeats 16000000
set_option linter.unusedSimpArgs false
set_option linter.unusedVariables false
namespace Go.Proofs.YtnjgkkoiamiaaaaGreatDoor
open Go.RowKit
def A3 (w:World) (p:Addr) (o a z:Int):Prop:=w.cell? p=some (.int .u8 o)∧w.cell? ⟨p.block,p.off+1,none⟩=some (.int .i64 a)∧w.cell? ⟨p.block,p.off+2,none⟩=some (.int .i64 z)
theorem A3.keep {w w':World} {p:Addr} {o a z:Int} (h:A3 w p o a z) (hb:Below w.heap.size w w'):A3 w' p o a z:=⟨(hb.cell (qi h.1)).trans h.1,(hb.cell (qi h.2.1)).trans h.2.1,(hb.cell (qi h.2.2)).trans h.2.2⟩
abbrev fA3 (p:Addr) (o a z:Int):Fct:=⟨fun w=>A3 w p o a z,fun _ _ h hb=>h.keep hb⟩
def zs3 (w w':World) (T:List Rz×Int) (e:Ending):Prop:=∃A' c' Z,e=.returned (.tuple #[.slice A' T.1.length c',.int .i64 T.2])∧Rw w' A' c' Z∧Z.map rz=T.1∧Below w.heap.size w w'
theorem zs3.err {w w':World} {T:List Rz×Int} {e:Int} (hT:T=([],e)) (hb:Below w.heap.size w w'):zs3 w w' T (.returned (.tuple #[.slice none 0 0,.int .i64 e])):=by
 subst hT;exact ⟨none,0,[],rfl,⟨fun z hz=>(by cases hz),Nat.le_refl _,Nat.zero_le _,.inl ⟨rfl,rfl⟩⟩,rfl,hb⟩
theorem zm4 (d:Md) (h:Mh) (x:Ins) (R:List Int):(zaj d h x R).1.length≤R.length+3:=by
 have h1:=fun k=>zkp (R:=R) (k:=k);have h2:=fun K=>zki (R:=R) (K:=K);have h3:=zwc x.1;unfold zaj;repeat' split
 all_goals first
  | (simp only [List.length_append,List.length_cons,List.length_nil,List.length_take];omega)
  | (exact Nat.le_trans (h1 _) (by omega))
  | (have:=h2 (ji d x.2.1.toNat).a;simp only [List.length_append,List.length_cons,List.length_nil];omega)
  | (have:=h2 (tkL x.1);simp only [List.length_append];omega)
  | simp
theorem zip {nx:List Int} {M:Nat} (hnx:nx.length≤M):∀{W:List Int} {S S':List Rz},za0 nx W S=some S'→(∀z∈S,z.2.length≤M)→∀z∈S',z.2.length≤M
 | [],S,S',hs,hb=>by rw [za0] at hs;injection hs with hs;rw [←hs];exact hb
 | v::W,S,S',hs,hb=>by
  rw [za0] at hs;split at hs
  ·cases hs
  ·refine zip hnx hs fun z hz=>?_;rcases List.mem_or_eq_of_mem_set hz with hz | rfl
   ·exact hb z hz
   ·exact hnx
theorem ziz {d:Md} {h:Mh} {c:List Ins}:∀p,(zx d h c p).2=0→∀z∈(zx d h c p).1,z.2.length≤3*p
 | 0,_=>fun z hz=>by
  simp only [zx,zf1] at hz;rcases List.mem_or_eq_of_mem_set hz with hz | rfl
  ·rw [List.eq_of_mem_replicate hz];simp [z10]
  ·simp
 | p+1,h0=>by
  by_cases h1:(zx d h c p).2=0
  ·have ih:=ziz p h1;cases hr:((zx d h c p).1[p]?.getD z10).1 with
   | false=>rw [zdc h1 hr];exact fun z hz=>Nat.le_trans (ih z hz) (by omega)
   | true =>
    obtain ⟨nx,e,ha⟩:∃nx e,zaj d h (zdp c p) ((zx d h c p).1[p]?.getD z10).2=(nx,e):=⟨_,_,rfl⟩;by_cases he:e=0
    ·subst he;rw [zb2 h1 hr ha] at h0 ⊢;cases hs:za0 nx (wy9 c p) (zx d h c p).1 with
     | none=>rw [hs] at h0;cases h0
     | some S =>
      dsimp only;refine zip ?_ hs (fun z hz=>Nat.le_trans (ih z hz) (by omega));have h2:=zm4 d h (zdp c p) ((zx d h c p).1[p]?.getD z10).2;rw [ha] at h2
      have h3:((zx d h c p).1[p]?.getD z10).2.length≤3*p:=by
       cases hg:(zx d h c p).1[p]? with
       | none=>simp [z10]
       | some z=>exact ih z (List.mem_of_getElem? hg)
      dsimp only at h2;omega
    ·rw [zex h1 hr (by rw [ha]) he] at h0;exact absurd h0 he
  ·have:=zde h1 (p+1) (by omega);rw [h0] at this;exact absurd this.symm h1
theorem zlw {d:Md} {h:Mh} {c:List Ins} {p m:Nat} (hpm:p≤m) {e:Int} (he:(zx d h c p).2=e) (h0:e≠0) {T:List Rz×Int} (hT:T=if (zx d h c m).2=0 then ((zx d h c m).1,0) else ([],(zx d h c m).2)):T=([],e):=by
 have h1:=zde (d:=d) (h:=h) (c:=c) (p:=p) (by rw [he];exact h0) m hpm;rw [he] at h1;rw [hT,h1,if_neg h0]
theorem Rn.past {w:World} {t g:Nat} {Z:List Rx} {A:Option Addr} {c:Nat} {K:List Int} (h:Rn w A c K) (hw:Wr w t g Z) (j:Nat) (v:Value):Rn (w.setCell ⟨g,j,none⟩ v) A c K:=by
 refine ⟨h.1,h.2.1,?_⟩;rcases h.2.2 with hn | ⟨ad,ha,hc⟩
 ·exact .inl hn
 ·refine .inr ⟨ad,ha,fun i x hx=>?_⟩;have:=hc i x hx;rw [World.cell?_setCell_other _ _ _ _ (fun e=>hw.no_int this (by rw [←e]))];exact this
theorem zj9 {Z:List Rx} {i:Nat} {z:Rx} (h:Z[i]?=some z):(Z.map rz)[i]?.getD z10=rz z:=by rw [List.getElem?_map,h];rfl
theorem zdk (y:Ma) (d:Md) (k:Int) (w:World) (hq:Hq w y d) (hg:qG d=false):Calls Tryz.prog 36 #[dv y d,.int .i64 k] w fun e w'=>zs3 w w' (zzx d k) e:=by
 obtain ⟨G,gc,P,pc,AA,cc,Z⟩:=y;have HG:=zhy hg;have hzl:=hq.zlen;dsimp only at hzl;obtain ⟨sn,hsn⟩:∃sn,d.s.length=sn:=⟨_,rfl⟩;have HSN:=zhy hsn
 have hs40:sn≤40:=by
  rw [←hsn];simp only [qG,Bool.or_eq_false_iff,decide_eq_false_iff_not] at hg;omega
 have S0:=zhy (((Sx.start w).add (fQm ⟨G,gc,P,pc,AA,cc,Z⟩ d) hq).mkD ⟨G,gc,P,pc,AA,cc,Z⟩ d);have HZL:=zhy (hzl.trans hsn);obtain ⟨T,hT⟩:∃T,zzx d k=T:=⟨_,rfl⟩;have HT:=zhy hT;rw [hT];clear hq hg hT hzl hsn;go_enter Tryz.func36,Tryz.ntmps36;go_upto_region 1 with (fail);have S1:Hid (Sx w (w.alloc (.cells #[.slice G d.g.length gc,.slice P d.p.length pc,.slice AA d.s.length cc,.int .i64 d.i] 25)) [fD w.heap.size ⟨G,gc,P,pc,AA,cc,Z⟩ d,fQm ⟨G,gc,P,pc,AA,cc,Z⟩ d]):=S0;clear S0;generalize w.alloc (.cells #[.slice G d.g.length gc,.slice P d.p.length pc,.slice AA d.s.length cc,.int .i64 d.i] 25)=w1 at S1 ⊢;obtain ⟨B,hB⟩:∃B,w.heap.size=B:=⟨_,rfl⟩;have HBB:=zhy hB;rw [hB] at S1 ⊢;have S1:=zhy S1.o;clear hB;obtain ⟨-,⟨d0,d1,d2,d3,d4⟩,-⟩:=S1.o;dsimp only at d1 d2 d3;rw [HSN.o] at d3;by_cases hk0:k<0
 ·have HE:Hid (T=([],2)):=zhy (by rw [←HT.o,zzx,if_pos (.inl hk0)]);go_wp2_with fail;go_ret2;exact zs3.err HE.o S1.o.1
 by_cases hks:(sn:Int)≤k
 ·have HE:Hid (T=([],2)):=zhy (by rw [←HT.o,zzx,if_pos (.inr (by rw [HSN.o];exact hks))]);go_wp2_with fail;go_ret2;exact zs3.err HE.o S1.o.1
 obtain ⟨k,rfl⟩:∃k':Nat,k=k':=⟨k.toNat,by omega⟩;have hks2:k<sn:=by omega
 obtain ⟨ad8,hA8,hat,hok⟩:=S1.o.2.2.1.2.2.1.at_ (i:=k) (by rw [HZL.o];exact hks2);have hme:=S1.o.2.2.1.zat (i:=k) (by rw [HZL.o];exact hks2) (by rw [HSN.o];exact hks2);dsimp only at hA8 hat hok hme;obtain ⟨zz,hzz⟩:∃zz,Z[k]'(by rw [HZL.o];exact hks2)=zz:=⟨_,rfl⟩;rw [hzz] at hat hok hme;obtain ⟨⟨XA,xc,XB,xd,XD,xk,xe⟩,h,L⟩:=zz;subst hA8
 have HTM:Hid (T=qcl d h L):=zhy (by
  rw [←HT.o,zzx,if_neg (by rw [HSN.o];omega),Int.toNat_natCast,zg7 (by rw [HSN.o];exact hks2),hme];rfl)
 have hbd:h.a.length≤100∧h.l.length≤100∧L.length≤300:=by
  have hg:=HG.o;simp only [qG,Bool.or_eq_false_iff,decide_eq_false_iff_not,List.any_eq_false] at hg;have hh:=hg.2.2.2 _ (List.getElem_mem (by rw [HSN.o];exact hks2));rw [hme] at hh;simp only [qgE,gB,Bool.or_eq_true,decide_eq_true_eq,not_or] at hh;omega
 obtain ⟨hb1,hb2,hb3⟩:=hbd;obtain ⟨hH,hRi,hxk⟩:=hok;dsimp only at hH hRi hxk;obtain ⟨g0,g1,g2,g3,g4,g5,g6,g7⟩:=hat;dsimp only at g0 g1 g2 g3 g4 g5 g6 g7;obtain ⟨m,hm⟩:∃m,L.length=m:=⟨_,rfl⟩;obtain rfl:m=xk:=by rw [←hm];exact hxk
 have HLm:=zhy hm;have hks3:k<sn:=hks2;clear hzz hme hks hxk hm;go_upto_region 4 with (fail)
 have S2:Hid (Sx w (w1.alloc (.cells #[.slice XA h.a.length xc,.slice XB h.l.length xd,.int .u8 h.r,.bool h.q,.int .i64 h.f,.int .i64 h.s,.int .i64 h.h,.slice XD m xe] 50)) [fM w1.heap.size ⟨XA,xc,XB,xd,XD,m,xe⟩ h,fT XD xe L,fH ⟨XA,xc,XB,xd,XD,m,xe⟩ h,fD B ⟨G,gc,P,pc,(some ad8),cc,Z⟩ d,fQm ⟨G,gc,P,pc,(some ad8),cc,Z⟩ d]):=
  zhy (((S1.o.add (fH ⟨XA,xc,XB,xd,XD,m,xe⟩ h) hH).add (fT XD xe L) hRi).mkM ⟨XA,xc,XB,xd,XD,m,xe⟩ h)
 obtain ⟨D,hD⟩:∃D,w1.heap.size=D:=⟨_,rfl⟩;rw [hD] at S2 ⊢;have S2:=zhy S2.o;generalize w1.alloc (.cells #[.slice XA h.a.length xc,.slice XB h.l.length xd,.int .u8 h.r,.bool h.q,.int .i64 h.f,.int .i64 h.s,.int .i64 h.h,.slice XD m xe] 50)=w2 at S2 ⊢;clear g0 g1 g2 g3 g4 g5 g6 g7 d0 d1 d2 d3 d4 hD S1;have HLO:=zhy (zft XD xe m L w2 S2.o.2.2.1 HLm.o);obtain ⟨E,hE⟩:∃e,jc L=e:=⟨_,rfl⟩;have HEE:=zhy hE;rw [hE] at HLO;generalize zcu L=FL at HLO;obtain ⟨-,⟨m0,m1,m2,m3,m4,m5,m6,m7,m8⟩,-⟩:=S2.o;dsimp only at m1 m2 m8;clear hE;go_wp2_with fail;refine HLO.o.mono ?_;rintro r w3 ⟨A3',c3,rfl,-,hb⟩;have S3:=zhy (S2.o.call hb);clear hb HLO S2 m0 m1 m2 m3 m4 m5 m6 m7 m8;obtain ⟨-,⟨m0,m1,m2,m3,m4,m5,m6,m7,m8⟩,-⟩:=S3.o;dsimp only at m1 m2 m8;by_cases h0:E=0
 ·subst h0;have hE0:=HEE.o;have hcod:=qw (za hE0).1
  have HOK:Hid (∀x∈L,(0≤x.1∧x.1<33)∧0≤x.2.1):=zhy fun x hx=>by
   have h1:=hcod.2.2 x hx;have h2:=zd5 h1
   have h3:x.1<33:=by
    unfold inM opM at h1;simp only [Bool.and_eq_true,decide_eq_true_eq] at h1;by_cases h4:x.1<33
    ·exact h4
    ·have e1:zf3 x.1=-1:=by
      unfold zf3;repeat rw [if_neg (by omega)]
     have e2:zgq x.1=0:=by
      unfold zgq;rw [if_neg (by omega)]
     rw [e1,e2] at h1;omega
   exact ⟨⟨(hRi.1 x hx).1.1,h3⟩,h2⟩
  have hm1:1≤m:=by rw [←HLm.o];exact hcod.1
  have hm2:m≤200:=by rw [←HLm.o];exact hcod.2.1
  have HTM2:Hid (T=if L.all (zab d h)=true then (if (zx d h L m).2=0 then ((zx d h L m).1,0) else ([],(zx d h L m).2)) else ([],100)):=zhy (by rw [HTM.o,qcl,if_pos hE0,HLm.o]);clear hE0 hcod hRi hH m0 m1 m2 m3 m4 m5 m6 m7 m8;go_wp2_with fail;go_loopw [9] (fun iv wq=>∃i:Nat,i≤m∧iv=.int .i64 i∧Hid ((L.take i).all (zab d h)=true)∧Hid (Sx w wq [fM D ⟨XA,xc,XB,xd,XD,m,xe⟩ h,fT XD xe L,fH ⟨XA,xc,XB,xd,XD,m,xe⟩ h,fD B ⟨G,gc,P,pc,(some ad8),cc,Z⟩ d,fQm ⟨G,gc,P,pc,(some ad8),cc,Z⟩ d])) (fun iv _=>m-(intOf iv).toNat)
  case atStart=>exact ⟨0,by omega,rfl,zhy rfl,S3⟩
  case round =>
   clear S3;obtain ⟨i,hi,rfl,HI,SQ⟩:=hrel;obtain ⟨-,⟨m0,m1,m2,m3,m4,m5,m6,m7,m8⟩,-⟩:=SQ.o;dsimp only at m1 m2 m8;by_cases h1:i<m
   ·obtain ⟨⟨o,a,z⟩,hx⟩:∃x,L[i]?=some x:=⟨_,zg7 (by rw [HLm.o];exact h1)⟩;obtain ⟨al,hA,k1,k2,k3⟩:=SQ.o.2.2.1.at9 hx;subst hA;have HX:=zhy hx;have HTH:=fun w=>zhy (zr2 G P (some ad8) XA XB (some al) d.g.length gc d.p.length pc d.s.length cc h.a.length xc h.l.length xd m xe d.i h.r h.f h.s h.h h.q o a z w (by omega) (by omega));rw [←zy5 d h o a z] at HTH;have SR:Hid (Sx w wr.drew [fA3 (al.add (i*3)) o a z,fM D ⟨XA,xc,XB,xd,(some al),m,xe⟩ h,fT (some al) xe L,fH ⟨XA,xc,XB,xd,(some al),m,xe⟩ h,fD B ⟨G,gc,P,pc,(some ad8),cc,Z⟩ d,fQm ⟨G,gc,P,pc,(some ad8),cc,Z⟩ d]):=Hsx.drew (zhy (SQ.o.add (fA3 (al.add (i*3)) o a z) ⟨k1,k2,k3⟩));clear hx k1 k2 k3;cases hv:zab d h (o,a,z) with
    | false =>
     have HE:Hid (T=([],100)):=zhy (by
      have:L.all (zab d h)=false:=List.all_eq_false.2 ⟨_,List.mem_of_getElem? HX.o,by rw [hv];simp⟩;rw [HTM2.o,this];rfl)
     rw [hv] at HTH;clear hv;go_upto_region 10 with (fail);refine wp_region_held_drew (S:=fun w'=>Hid (Sx w w' [fA3 (al.add (i*3)) o a z,fM D ⟨XA,xc,XB,xd,(some al),m,xe⟩ h,fT (some al) xe L,fH ⟨XA,xc,XB,xd,(some al),m,xe⟩ h,fD B ⟨G,gc,P,pc,(some ad8),cc,Z⟩ d,fQm ⟨G,gc,P,pc,(some ad8),cc,Z⟩ d])) (by kernel_rfl) (SR) (fun hHeld=>?_);refine zq 0 (hy:=fun w hSw=>by (try dsimp only at hSw);obtain ⟨-,⟨s0,s1,s2⟩,⟨m0,m1,m2,m3,m4,m5,m6,m7,m8⟩,-,-,⟨d0,d1,d2,d3,d4⟩,-⟩:=hSw.o;dsimp only at m1 m2 m8 d1 d2 d3;go_simp;try with_reducible rfl) (h:=?_);refine zq 1 (hy:=fun w hSw=>by (try dsimp only at hSw);obtain ⟨-,⟨s0,s1,s2⟩,⟨m0,m1,m2,m3,m4,m5,m6,m7,m8⟩,-,-,⟨d0,d1,d2,d3,d4⟩,-⟩:=hSw.o;dsimp only at m1 m2 m8 d1 d2 d3;go_simp;try with_reducible rfl) (h:=?_);refine zq 2 (h:=?_);refine zq 3 (hy:=fun w hSw=>by (try dsimp only at hSw);obtain ⟨-,⟨s0,s1,s2⟩,⟨m0,m1,m2,m3,m4,m5,m6,m7,m8⟩,-,-,⟨d0,d1,d2,d3,d4⟩,-⟩:=hSw.o;dsimp only at m1 m2 m8 d1 d2 d3;go_simp;try with_reducible rfl) (h:=?_);refine zq 4 (h:=?_);refine zq 5 (h:=?_);refine zq 6 (hy:=fun w hSw=>by (try dsimp only at hSw);obtain ⟨-,⟨s0,s1,s2⟩,⟨m0,m1,m2,m3,m4,m5,m6,m7,m8⟩,-,-,⟨d0,d1,d2,d3,d4⟩,-⟩:=hSw.o;dsimp only at m1 m2 m8 d1 d2 d3;go_simp;try with_reducible rfl) (h:=?_);refine wpAnyH_ready (rs:=[7]) (by kernel_rfl) (by simp) ?_;refine AllReadyH.cons rfl (fun K hK=>?_) AllReadyH.nil;go_simp;refine (HTH _).o.mono ?_;rintro r w7 ⟨rfl,hb⟩;go_wp2_with fail;refine hK.out _ _ (zhy (hHeld.o.call hb)) (fun hHeld=>?_);clear hK K;(try simp only [Act.put,zg1,zg2,zg3,zg4,zg5,zg6]);refine zq 8 (h:=?_);refine wpAnyH_done (by kernel_rfl) ?_ _;have SE:=zhy hHeld.o.1;clear hHeld;go_wp2_with fail;go_ret2;exact zs3.err HE.o SE.o
    | true =>
     have HI2:Hid ((L.take (i+1)).all (zab d h)=true):=zhy (by rw [List.take_add_one,HX.o,List.all_append,HI.o];simp [hv]);rw [hv] at HTH;clear hv;go_upto_region 10 with (fail);refine wp_region_held_drew (S:=fun w'=>Hid (Sx w w' [fA3 (al.add (i*3)) o a z,fM D ⟨XA,xc,XB,xd,(some al),m,xe⟩ h,fT (some al) xe L,fH ⟨XA,xc,XB,xd,(some al),m,xe⟩ h,fD B ⟨G,gc,P,pc,(some ad8),cc,Z⟩ d,fQm ⟨G,gc,P,pc,(some ad8),cc,Z⟩ d])) (by kernel_rfl) (SR) (fun hHeld=>?_);refine zq 0 (hy:=fun w hSw=>by (try dsimp only at hSw);obtain ⟨-,⟨s0,s1,s2⟩,⟨m0,m1,m2,m3,m4,m5,m6,m7,m8⟩,-,-,⟨d0,d1,d2,d3,d4⟩,-⟩:=hSw.o;dsimp only at m1 m2 m8 d1 d2 d3;go_simp;try with_reducible rfl) (h:=?_);refine zq 1 (hy:=fun w hSw=>by (try dsimp only at hSw);obtain ⟨-,⟨s0,s1,s2⟩,⟨m0,m1,m2,m3,m4,m5,m6,m7,m8⟩,-,-,⟨d0,d1,d2,d3,d4⟩,-⟩:=hSw.o;dsimp only at m1 m2 m8 d1 d2 d3;go_simp;try with_reducible rfl) (h:=?_);refine zq 2 (h:=?_);refine zq 3 (hy:=fun w hSw=>by (try dsimp only at hSw);obtain ⟨-,⟨s0,s1,s2⟩,⟨m0,m1,m2,m3,m4,m5,m6,m7,m8⟩,-,-,⟨d0,d1,d2,d3,d4⟩,-⟩:=hSw.o;dsimp only at m1 m2 m8 d1 d2 d3;go_simp;try with_reducible rfl) (h:=?_);refine zq 4 (h:=?_);refine zq 5 (h:=?_);refine zq 6 (hy:=fun w hSw=>by (try dsimp only at hSw);obtain ⟨-,⟨s0,s1,s2⟩,⟨m0,m1,m2,m3,m4,m5,m6,m7,m8⟩,-,-,⟨d0,d1,d2,d3,d4⟩,-⟩:=hSw.o;dsimp only at m1 m2 m8 d1 d2 d3;go_simp;try with_reducible rfl) (h:=?_);refine wpAnyH_ready (rs:=[7]) (by kernel_rfl) (by simp) ?_;refine AllReadyH.cons rfl (fun K hK=>?_) AllReadyH.nil;go_simp;refine (HTH _).o.mono ?_;rintro r w7 ⟨rfl,hb⟩;go_wp2_with fail;refine hK.out _ _ (zhy (hHeld.o.call hb)) (fun hHeld=>?_);clear hK K;(try simp only [Act.put,zg1,zg2,zg3,zg4,zg5,zg6]);refine zq 8 (h:=?_);refine wpAnyH_done (by kernel_rfl) ?_ _;have SE:Hid (Sx w w7 [fM D ⟨XA,xc,XB,xd,(some al),m,xe⟩ h,fT (some al) xe L,fH ⟨XA,xc,XB,xd,(some al),m,xe⟩ h,fD B ⟨G,gc,P,pc,(some ad8),cc,Z⟩ d,fQm ⟨G,gc,P,pc,(some ad8),cc,Z⟩ d]):=zhy ⟨hHeld.o.1,hHeld.o.2.2⟩;clear hHeld;go_wp2_with fail;go_roundw
     case rel=>exact ⟨i+1,by omega,by go_num,HI2,SE⟩
     case measure=>simp [intOf];omega
   ·obtain rfl:m=i:=by omega
    rename World=>wa
    have HALL:Hid (L.all (zab d h)=true):=zhy (by
     have h:=HI.o;rwa [List.take_of_length_le (by rw [HLm.o];exact Nat.le_refl _)] at h)
    have HTM3:Hid (T=if (zx d h L m).2=0 then ((zx d h L m).1,0) else ([],(zx d h L m).2)):=zhy (by rw [HTM2.o,if_pos HALL.o]);have hinfo:=Tryz.infoR10;rw [Option.map_eq_some_iff] at hinfo;obtain ⟨q0,hi0,hz⟩:=hinfo;simp only [Prod.mk.injEq] at hz;obtain ⟨hz0,hz1,hz2⟩:=hz;go_wp2_with (at_make;refine wpList_make_full _ rfl _ _ 65 rfl wa.heap.size 125 q0 _ 2 Tryz.underlying65 hi0 hz0 hz1 .i64 .i64 m m m rfl rfl rfl rfl (by rw [hz2];omega) (by unfold maxLen;omega) (Nat.le_refl _) ?_);intro w4 ho4 hg4;rw [zve] at ho4;obtain ⟨g,hg,hgw,hwr⟩:=Wr.of_own ho4 (by omega);have HBA:Hid (Below wa.heap.size wa w4):=zhy ⟨hg4.os,hg4.tape,hg4.output,hg4.size,fun i hi=>hg4.block i hi (by simp)⟩;have hg:wa.heap.size=g:=by simpa using hg
    have HGG:=zhy hg;rw [hg];have HW4:=zhy hwr;have HZ0:Hid ((List.replicate m zeq)[0]?=some zeq):=zhy (by rw [List.getElem?_replicate,if_pos (by omega)])
    have y0:w4.cell? ⟨g,0,none⟩=some (.bool false):=by
     exact hwr.cell0 HZ0.o
    have yf:w4.frozen? ⟨g,0,none⟩=false:=hwr.froz 0;clear ho4 hg4 hi0 hz0 hz1 hz2 q0 hwr hg m0 m1 m2 m3 m4 m5 m6 m7 m8;go_upto_region 14 with (fail)
    have HW5:Hid (Wr (w4.setCell ⟨g,0,none⟩ (.bool true)) 125 g ((List.replicate m zeq).set 0 { zeq with r:=true })):=zhy (by
     have h:=HW4.o.setr HZ0.o true;simpa using h)
    have HB5:Hid (Below wa.heap.size wa (w4.setCell ⟨g,0,none⟩ (.bool true))):=zhy (HBA.o.setCell (p:=⟨g,0,none⟩) hgw _)
    have HRS:Hid (zx d h L 0=(((List.replicate m zeq).set 0 { zeq with r:=true }).map rz,0)):=zhy (by
     simp only [zx,zf1,HLm.o,List.map_set,List.map_replicate];rfl)
    have HL0:Hid (((List.replicate m zeq).set 0 { zeq with r:=true }).length=m):=zhy (by simp);generalize (List.replicate m zeq).set 0 { zeq with r:=true }=Z0 at HW5 HRS HL0;generalize w4.setCell ⟨g,0,none⟩ (.bool true)=w5 at HW5 HB5 ⊢;clear y0 yf HW4 HBA HZ0;have S3:=SQ;clear SQ;go_wp2_with fail;go_loopw [11] (fun pv wq=>∃(p:Nat) (Z1:List Rx),p≤m∧pv=.int .i64 p∧Hid (Wr wq 125 g Z1)∧Hid (zx d h L p=(Z1.map rz,0))∧Hid (Z1.length=m)∧Hid (Below wa.heap.size wa wq)) (fun pv _=>m-(intOf pv).toNat)
    case atStart=>exact ⟨0,Z0,by omega,rfl,HW5,HRS,HL0,HB5⟩
    case round =>
     clear HW5 HRS HL0 HB5;obtain ⟨p,Z1,hpm,rfl,HW,HRS,HZL1,HB⟩:=hrel;rename World=>wo;by_cases hp:p<m
     ·obtain ⟨⟨zr,zA,zc,zK⟩,hz⟩:∃z,Z1[p]?=some z:=⟨_,zg7 (by rw [HZL1.o];exact hp)⟩;have HZ:=zhy hz;have y0:=HW.o.cell0 hz;have y1:=HW.o.cell1 hz;have hzK:=HW.o.2 _ (List.mem_of_getElem? hz);dsimp only at y0 y1 hzK;have HKK:=zhy hzK;have hat:((zx d h L p).1[p]?.getD z10)=(zr,zK):=by rw [HRS.o];exact zj9 hz
      have h20:(zx d h L p).2=0:=by rw [HRS.o]
      have HAT:=zhy hat;have H20:=zhy h20;clear hz hzK hat h20;cases zr with
      | false =>
       have HRS2:Hid (zx d h L (p+1)=(Z1.map rz,0)):=zhy (by rw [zdc H20.o (by rw [HAT.o]),HRS.o]);clear y1;go_wp2_with fail;go_roundw
       case rel=>exact ⟨p+1,Z1,by omega,by go_num,HW,HRS2,HZL1,HB⟩
       case measure=>simp [intOf];omega
      | true =>
       obtain ⟨⟨o,a,z⟩,hx⟩:∃x,L[p]?=some x:=⟨_,zg7 (by rw [HLm.o];exact hp)⟩;have SO:=zhy (S3.o.call HB.o);obtain ⟨al,hA,k1,k2,k3⟩:=SO.o.2.2.1.at9 hx;subst hA;obtain ⟨ho33,ha0⟩:=HOK.o _ (List.mem_of_getElem? hx);dsimp only at ho33 ha0;have HTHA:Hid (zab d h (o,a,z)=true):=zhy (List.all_eq_true.1 HALL.o _ (List.mem_of_getElem? hx));have HIX:Hid (zdp L p=(o,a,z)):=zhy (by simp [zdp,hx]);obtain ⟨nx,e,haf⟩:∃nx e,zaj d h (o,a,z) zK=(nx,e):=⟨_,_,rfl⟩;have HAF:=zhy haf;have HAFX:Hid (zaj d h (zdp L p) ((zx d h L p).1[p]?.getD z10).2=(nx,e)):=zhy (by rw [HIX.o,HAT.o];exact haf)
       have hzKb:zK.length≤900000:=by
        have h1:=ziz p H20.o (true,zK) (by rw [HRS.o];exact List.mem_map.2 ⟨_,List.mem_of_getElem? HZ.o,rfl⟩);dsimp only at h1;omega
       have hnxb:nx.length≤1000000:=by
        have h1:=zm4 d h (o,a,z) zK;rw [haf] at h1;dsimp only at h1;omega
       have SR:Hid (Sx wo wo.drew [fC1 ⟨g,p*2+1,none⟩ (.slice zA zK.length zc),fR zA zc zK,fWr 125 g Z1,fA3 (al.add (p*3)) o a z,fM D ⟨XA,xc,XB,xd,(some al),m,xe⟩ h,fT (some al) xe L,fH ⟨XA,xc,XB,xd,(some al),m,xe⟩ h,fD B ⟨G,gc,P,pc,(some ad8),cc,Z⟩ d,fQm ⟨G,gc,P,pc,(some ad8),cc,Z⟩ d]):=Hsx.drew (zhy (((((((((Sx.start wo).add (fQm ⟨G,gc,P,pc,(some ad8),cc,Z⟩ d) SO.o.2.2.2.2.2.1).add (fD B ⟨G,gc,P,pc,(some ad8),cc,Z⟩ d) SO.o.2.2.2.2.1).add (fH ⟨XA,xc,XB,xd,(some al),m,xe⟩ h) SO.o.2.2.2.1).add (fT (some al) xe L) SO.o.2.2.1).add (fM D ⟨XA,xc,XB,xd,(some al),m,xe⟩ h) SO.o.2.1).add (fA3 (al.add (p*3)) o a z) ⟨k1,k2,k3⟩).add (fWr 125 g Z1) HW.o).add (fR zA zc zK) HKK.o |>.add (fC1 ⟨g,p*2+1,none⟩ (.slice zA zK.length zc)) y1));clear hx k1 k2 k3 haf y1;go_upto_region 18 with (fail);refine wp_region_held_drew (S:=fun w'=>Hid (Sx wo w' [fC1 ⟨g,p*2+1,none⟩ (.slice zA zK.length zc),fR zA zc zK,fWr 125 g Z1,fA3 (al.add (p*3)) o a z,fM D ⟨XA,xc,XB,xd,(some al),m,xe⟩ h,fT (some al) xe L,fH ⟨XA,xc,XB,xd,(some al),m,xe⟩ h,fD B ⟨G,gc,P,pc,(some ad8),cc,Z⟩ d,fQm ⟨G,gc,P,pc,(some ad8),cc,Z⟩ d])) (by kernel_rfl) (SR) (fun hHeld=>?_);refine zq 0 (hy:=fun w hSw=>by (try dsimp only at hSw);obtain ⟨-,u0,-,-,⟨s0,s1,s2⟩,⟨m0,m1,m2,m3,m4,m5,m6,m7,m8⟩,-,-,⟨d0,d1,d2,d3,d4⟩,-⟩:=hSw.o;dsimp only at u0 m1 m2 m8 d1 d2 d3;go_simp;try with_reducible rfl) (h:=?_);refine zq 1 (hy:=fun w hSw=>by (try dsimp only at hSw);obtain ⟨-,u0,-,-,⟨s0,s1,s2⟩,⟨m0,m1,m2,m3,m4,m5,m6,m7,m8⟩,-,-,⟨d0,d1,d2,d3,d4⟩,-⟩:=hSw.o;dsimp only at u0 m1 m2 m8 d1 d2 d3;go_simp;try with_reducible rfl) (h:=?_);refine zq 2 (h:=?_);refine zq 3 (hy:=fun w hSw=>by (try dsimp only at hSw);obtain ⟨-,u0,-,-,⟨s0,s1,s2⟩,⟨m0,m1,m2,m3,m4,m5,m6,m7,m8⟩,-,-,⟨d0,d1,d2,d3,d4⟩,-⟩:=hSw.o;dsimp only at u0 m1 m2 m8 d1 d2 d3;go_simp;try with_reducible rfl) (h:=?_);refine zq 4 (h:=?_);refine zq 5 (h:=?_);refine zq 6 (hy:=fun w hSw=>by (try dsimp only at hSw);obtain ⟨-,u0,-,-,⟨s0,s1,s2⟩,⟨m0,m1,m2,m3,m4,m5,m6,m7,m8⟩,-,-,⟨d0,d1,d2,d3,d4⟩,-⟩:=hSw.o;dsimp only at u0 m1 m2 m8 d1 d2 d3;go_simp;try with_reducible rfl) (h:=?_);refine zq 7 (h:=?_);refine zq 8 (h:=?_);refine zq 9 (h:=?_);refine zq 10 (h:=?_);refine zq 11 (hy:=fun w hSw=>by (try dsimp only at hSw);obtain ⟨-,u0,-,-,⟨s0,s1,s2⟩,⟨m0,m1,m2,m3,m4,m5,m6,m7,m8⟩,-,-,⟨d0,d1,d2,d3,d4⟩,-⟩:=hSw.o;dsimp only at u0 m1 m2 m8 d1 d2 d3;go_simp;try with_reducible rfl) (h:=?_);refine wpAnyH_ready (rs:=[12]) (by kernel_rfl) (by simp) ?_;refine AllReadyH.cons rfl (fun K hK=>?_) AllReadyH.nil;go_simp;refine (zou ⟨G,gc,P,pc,(some ad8),cc,Z⟩ d ⟨XA,xc,XB,xd,(some al),m,xe⟩ h o a z zA zc zK.length zK _ hHeld.o.2.2.2.2.2.2.2.2.2.1 hHeld.o.2.2.2.2.2.2.2.1 hHeld.o.2.2.1 rfl hzKb (by omega) (by omega) ho33 ha0 HTHA.o).mono ?_;rw [HAF.o];rintro r w7 ⟨A9,c9,rfl,hr9,hb⟩;have HR9:=zhy hr9;clear hr9;go_wp2_with fail;refine hK.out _ _ (zhy (hHeld.o.call hb)) (fun hHeld=>?_);clear hK K;(try simp only [Act.put,zg1,zg2,zg3,zg4,zg5,zg6]);refine zq 13 (h:=?_);refine zq 14 (h:=?_);refine zq 15 (h:=?_);refine zq 16 (h:=?_);refine zq 17 (h:=?_);refine wpAnyH_done (by kernel_rfl) ?_ _;have SE:=zhy hHeld.o;have HR9':Hid (Rd w7 A9 c9 nx):=HR9;clear hHeld HR9;have HB7:Hid (Below wa.heap.size wa w7):=zhy (qc HB.o SE.o.1);by_cases he:e=0
       ·subst he;have HW7:Hid (Wr w7 125 g Z1):=zhy SE.o.2.2.2.1;have HWY:=zhy (zsu (some al) xe m L p w7 SE.o.2.2.2.2.2.2.1 HLm.o);have HF9:Hid (zd2 L (p:Int)=(wy9 L p,0)):=zhy (by rw [zd2,if_pos HEE.o,if_neg (by rw [HLm.o];omega),Int.toNat_natCast]);rw [HF9.o] at HWY;have HAH:=zhy (zlt HEE.o (p:=p) (by rw [HLm.o];exact hp));obtain ⟨W,hW⟩:∃W,wy9 L p=W:=⟨_,rfl⟩;rw [hW] at HWY HAH;have HAH:=zhy HAH.o;have HWW:=zhy hW;dsimp only at HWY;obtain ⟨kw,hkw⟩:∃kw,W.length=kw:=⟨_,rfl⟩;rw [hkw] at HWY;have hkw2:kw≤2:=by rw [←hkw];exact HAH.o.1
        have HKW:=zhy hkw;obtain ⟨-,-,-,-,-,⟨m0,m1,m2,m3,m4,m5,m6,m7,m8⟩,-⟩:=SE.o;dsimp only at m1 m2 m8;clear hW hkw;go_wp2_with fail;refine HWY.o.mono ?_;rintro r w8 ⟨AW,cW,rfl,ho,hb⟩;have HRN8:Hid (Rn w8 AW cW W):=zhy (Rn.of_own ho).1;have HW8:=zhy (HW7.o.keep hb);have HN8:=zhy (HR9'.o.keep hb);have HB8:=zhy (qc HB7.o hb);clear ho hb HWY HW7 HR9' m0 m1 m2 m3 m4 m5 m6 m7 m8;go_wp2_with fail;go_loopw [16] (fun iv wq=>∃(i:Nat) (Z2:List Rx),i≤kw∧iv=.int .i64 i∧Hid (Wr wq 125 g Z2)∧Hid (Z2.length=m)∧Hid (za0 nx W (Z1.map rz)=za0 nx (W.drop i) (Z2.map rz))∧Hid (Rd wq A9 c9 nx)∧Hid (Rn wq AW cW W)∧Hid (Below wa.heap.size wa wq)) (fun iv _=>kw-(intOf iv).toNat)
        case atStart=>exact ⟨0,Z1,by omega,rfl,HW8,HZL1,zhy rfl,HN8,HRN8,HB8⟩
        case round =>
         clear HW8 HN8 HRN8 HB8 HW;obtain ⟨i,Z2,hi,rfl,HW,HZL2,HSW,HNX,HRN,HBQ⟩:=hrel;by_cases h4:i<kw
         ·obtain ⟨x,hx⟩:∃x,W[i]?=some x:=⟨_,zg7 (by rw [HKW.o];exact h4)⟩;obtain ⟨⟨v,rfl,hvm,-⟩,-⟩:=HAH.o.2.2 i x hx;rw [HLm.o] at hvm;obtain ⟨aw,hAW,yw⟩:=HRN.o.at_ hx;subst hAW;obtain ⟨⟨br,bA,bc,bK⟩,hz2⟩:∃z,Z2[v]?=some z:=⟨_,zg7 (by rw [HZL2.o];exact hvm)⟩;have HZ2:=zhy hz2
          have HDR:Hid (W.drop i=(v:Int)::W.drop (i+1)):=zhy (by
           obtain ⟨q1,q2⟩:=zg8.1 hx;rw [List.drop_eq_getElem_cons q1,q2])
          have HAT2:Hid ((Z2.map rz)[v]?.getD z10=(br,bK)):=zhy (zj9 hz2);have b0:=HW.o.cell0 hz2;have b1:=HW.o.cell1 hz2;have hbK:=HW.o.2 _ (List.mem_of_getElem? hz2);dsimp only at b0 b1 hbK;have HBK:=zhy hbK;clear hx hz2 hbK;cases br with
          | false =>
           have HSW2:Hid (za0 nx W (Z1.map rz)=za0 nx (W.drop (i+1)) ((Z2.map rz).set v (true,nx))):=zhy (by
            rw [HSW.o,HDR.o,za0,if_neg (by rw [Int.toNat_natCast,HAT2.o];simp),Int.toNat_natCast])
           clear b1;go_upto_region 28 with (fail);clear b0;obtain ⟨i1,hi1,hz0,hz1,hz2⟩:=info_parts Tryz.info5;have y0:=HW.o.cell0 HZ2.o;have yf:=HW.o.froz (v*2);dsimp only at y0;go_upto_region 29 with (fail);have HW2:Hid (Wr (wr.setCell ⟨g,v*2,none⟩ (.bool true)) 125 g (Z2.set v ⟨true,bA,bc,bK⟩)):=zhy (HW.o.setr HZ2.o true);have HN2:Hid (Rd (wr.setCell ⟨g,v*2,none⟩ (.bool true)) A9 c9 nx):=zhy (HNX.o.past HW.o _ _);have HRN2:Hid (Rn (wr.setCell ⟨g,v*2,none⟩ (.bool true)) (some aw) cW W):=zhy (HRN.o.past HW.o _ _);have HB2:Hid (Below wa.heap.size wa (wr.setCell ⟨g,v*2,none⟩ (.bool true))):=zhy (HBQ.o.setCell (p:=⟨g,v*2,none⟩) hgw _);have HZ3:Hid ((Z2.set v ⟨true,bA,bc,bK⟩)[v]?=some ⟨true,bA,bc,bK⟩):=zhy (by rw [List.getElem?_set,if_pos rfl,if_pos (by rw [HZL2.o];exact hvm)]);generalize wr.setCell ⟨g,v*2,none⟩ (.bool true)=u1 at HW2 HN2 HRN2 HB2 ⊢;clear y0 yf;have HO0:Hid ((u1.alloc (.cells #[] 5)).ownsRow u1.heap.size 5 1 (.slice (some ⟨u1.heap.size,0,none⟩) 0 0) 0 (cel [])):=zhy (World.ownsRow_lit u1 #[] 0 (Nat.le_refl _) (Nat.zero_le _) rfl);go_wp2_with (at_builtin;refine qa _ rfl (.tmp 133) (.tmp 134) 40 rfl u1.heap.size 5 i1 Tryz.underlying40 hi1 hz0 hz1 hz2 _ 0 [] rfl HO0.o A9 nx.length c9 nx rfl (HN2.o.keep qh) rfl (by omega) (by simp) ?_);intro A7 c7 u2 ho7 _ hb7 _;have hbl:=qh.trans hb7;have HR7:Hid (Rd u2 A7 c7 nx):=zhy (qt (by simpa using ho7) HN2.o.byt);have HW3:=zhy (HW2.o.keep hbl);have HN3:=zhy (HN2.o.keep hbl);have HRN3:=zhy (HRN2.o.keep hbl);have HB3:=zhy (qc HB2.o hbl);clear ho7 hb7 hbl HO0 HW2 HN2 HRN2 HB2 hi1 hz0 hz1 hz2;have y1:=HW3.o.cell1 HZ3.o;have yf:=HW3.o.froz (v*2+1);dsimp only at y1;have HW4:Hid (Wr (u2.setCell ⟨g,v*2+1,none⟩ (.slice A7 nx.length c7)) 125 g ((Z2.set v ⟨true,bA,bc,bK⟩).set v ⟨true,A7,c7,nx⟩)):=zhy (HW3.o.setk HZ3.o HR7.o);have HN4:Hid (Rd (u2.setCell ⟨g,v*2+1,none⟩ (.slice A7 nx.length c7)) A9 c9 nx):=zhy (HN3.o.past HW3.o _ _);have HRN4:Hid (Rn (u2.setCell ⟨g,v*2+1,none⟩ (.slice A7 nx.length c7)) (some aw) cW W):=zhy (HRN3.o.past HW3.o _ _);have HB4:Hid (Below wa.heap.size wa (u2.setCell ⟨g,v*2+1,none⟩ (.slice A7 nx.length c7))):=zhy (HB3.o.setCell (p:=⟨g,v*2+1,none⟩) hgw _);have HL4:Hid (((Z2.set v ⟨true,bA,bc,bK⟩).set v ⟨true,A7,c7,nx⟩).length=m):=zhy (by rw [List.length_set,List.length_set];exact HZL2.o)
           have HSW4:Hid (za0 nx W (Z1.map rz)=za0 nx (W.drop (i+1)) (((Z2.set v ⟨true,bA,bc,bK⟩).set v ⟨true,A7,c7,nx⟩).map rz)):=zhy (by
            rw [HSW2.o,List.set_set,List.map_set])
           clear HW3 HN3 HRN3 HB3 HR7;go_upto_region 24 with (fail);generalize u2.setCell ⟨g,v*2+1,none⟩ (.slice A7 nx.length c7)=u3 at HW4 HN4 HRN4 HB4 ⊢;clear y1 yf;go_wp2_with fail;go_roundw
           case rel=>exact ⟨i+1,_,by omega,by go_num,HW4,HL4,HSW4,HN4,HRN4,HB4⟩
           case measure=>simp [intOf];omega
          | true =>
           by_cases heq:bK=nx
           ·subst heq;have HSK:=zhy (zer bA A9 bc c9 bK.length bK.length bK bK true wr HBK.o HNX.o rfl rfl (by simp))
            have HSW2:Hid (za0 bK W (Z1.map rz)=za0 bK (W.drop (i+1)) ((Z2.map rz).set v (true,bK))):=zhy (by
             rw [HSW.o,HDR.o,za0,if_neg (by rw [Int.toNat_natCast,HAT2.o];simp),Int.toNat_natCast])
            go_wp2_with fail;refine HSK.o.mono ?_;rintro r w9 ⟨rfl,hb⟩;have HW':=zhy (HW.o.keep hb);have HNX':=zhy (HNX.o.keep hb);have HRN':=zhy (HRN.o.keep hb);have HBQ':=zhy (qc HBQ.o hb);clear hb HSK HW HNX HRN HBQ b0 b1 yw HBK;have HW:=HW';have HNX:=HNX';have HRN:=HRN';have HBQ:=HBQ';clear HW' HNX' HRN' HBQ';go_upto_region 28 with (fail);obtain ⟨i1,hi1,hz0,hz1,hz2⟩:=info_parts Tryz.info5;have y0:=HW.o.cell0 HZ2.o;have yf:=HW.o.froz (v*2);dsimp only at y0;go_upto_region 29 with (fail);have HW2:Hid (Wr (w9.setCell ⟨g,v*2,none⟩ (.bool true)) 125 g (Z2.set v ⟨true,bA,bc,bK⟩)):=zhy (HW.o.setr HZ2.o true);have HN2:Hid (Rd (w9.setCell ⟨g,v*2,none⟩ (.bool true)) A9 c9 bK):=zhy (HNX.o.past HW.o _ _);have HRN2:Hid (Rn (w9.setCell ⟨g,v*2,none⟩ (.bool true)) (some aw) cW W):=zhy (HRN.o.past HW.o _ _);have HB2:Hid (Below wa.heap.size wa (w9.setCell ⟨g,v*2,none⟩ (.bool true))):=zhy (HBQ.o.setCell (p:=⟨g,v*2,none⟩) hgw _);have HZ3:Hid ((Z2.set v ⟨true,bA,bc,bK⟩)[v]?=some ⟨true,bA,bc,bK⟩):=zhy (by rw [List.getElem?_set,if_pos rfl,if_pos (by rw [HZL2.o];exact hvm)]);generalize w9.setCell ⟨g,v*2,none⟩ (.bool true)=u1 at HW2 HN2 HRN2 HB2 ⊢;clear y0 yf;have HO0:Hid ((u1.alloc (.cells #[] 5)).ownsRow u1.heap.size 5 1 (.slice (some ⟨u1.heap.size,0,none⟩) 0 0) 0 (cel [])):=zhy (World.ownsRow_lit u1 #[] 0 (Nat.le_refl _) (Nat.zero_le _) rfl);go_wp2_with (at_builtin;refine qa _ rfl (.tmp 133) (.tmp 134) 40 rfl u1.heap.size 5 i1 Tryz.underlying40 hi1 hz0 hz1 hz2 _ 0 [] rfl HO0.o A9 bK.length c9 bK rfl (HN2.o.keep qh) rfl (by omega) (by simp) ?_);intro A7 c7 u2 ho7 _ hb7 _;have hbl:=qh.trans hb7;have HR7:Hid (Rd u2 A7 c7 bK):=zhy (qt (by simpa using ho7) HN2.o.byt);have HW3:=zhy (HW2.o.keep hbl);have HN3:=zhy (HN2.o.keep hbl);have HRN3:=zhy (HRN2.o.keep hbl);have HB3:=zhy (qc HB2.o hbl);clear ho7 hb7 hbl HO0 HW2 HN2 HRN2 HB2 hi1 hz0 hz1 hz2;have y1:=HW3.o.cell1 HZ3.o;have yf:=HW3.o.froz (v*2+1);dsimp only at y1;have HW4:Hid (Wr (u2.setCell ⟨g,v*2+1,none⟩ (.slice A7 bK.length c7)) 125 g ((Z2.set v ⟨true,bA,bc,bK⟩).set v ⟨true,A7,c7,bK⟩)):=zhy (HW3.o.setk HZ3.o HR7.o);have HN4:Hid (Rd (u2.setCell ⟨g,v*2+1,none⟩ (.slice A7 bK.length c7)) A9 c9 bK):=zhy (HN3.o.past HW3.o _ _);have HRN4:Hid (Rn (u2.setCell ⟨g,v*2+1,none⟩ (.slice A7 bK.length c7)) (some aw) cW W):=zhy (HRN3.o.past HW3.o _ _);have HB4:Hid (Below wa.heap.size wa (u2.setCell ⟨g,v*2+1,none⟩ (.slice A7 bK.length c7))):=zhy (HB3.o.setCell (p:=⟨g,v*2+1,none⟩) hgw _);have HL4:Hid (((Z2.set v ⟨true,bA,bc,bK⟩).set v ⟨true,A7,c7,bK⟩).length=m):=zhy (by rw [List.length_set,List.length_set];exact HZL2.o)
            have HSW4:Hid (za0 bK W (Z1.map rz)=za0 bK (W.drop (i+1)) (((Z2.set v ⟨true,bA,bc,bK⟩).set v ⟨true,A7,c7,bK⟩).map rz)):=zhy (by
             rw [HSW2.o,List.set_set,List.map_set])
            clear HW3 HN3 HRN3 HB3 HR7;go_upto_region 24 with (fail);generalize u2.setCell ⟨g,v*2+1,none⟩ (.slice A7 bK.length c7)=u3 at HW4 HN4 HRN4 HB4 ⊢;clear y1 yf;go_wp2_with fail;go_roundw
            case rel=>exact ⟨i+1,_,by omega,by go_num,HW4,HL4,HSW4,HN4,HRN4,HB4⟩
            case measure=>simp [intOf];omega
           ·have HSK:=zhy (zer bA A9 bc c9 bK.length nx.length bK nx false wr HBK.o HNX.o rfl rfl (zi6 heq))
            have HE:Hid (T=([],100)):=zhy (zlw (p:=p+1) (by omega) (e:=100) (by
             rw [zb2 H20.o (by rw [HAT.o]) HAFX.o]
             have hs:za0 nx (wy9 L p) (zx d h L p).1=none:=by
              rw [HWW.o,HRS.o];rw [HSW.o,HDR.o,za0,if_pos ⟨by rw [Int.toNat_natCast,HAT2.o],by rw [Int.toNat_natCast,HAT2.o];exact heq⟩]
             rw [hs]) (by decide) HTM3.o)
            have HBE:Hid (Below w.heap.size w wr):=zhy (S3.o.call HBQ.o).1;go_wp2_with fail;refine HSK.o.mono ?_;rintro r w9 ⟨rfl,hb⟩;have HBE2:=zhy (qc HBE.o hb);clear hb HSK b0 b1 yw;go_wp2_with fail;go_ret2;exact zs3.err HE.o HBE2.o
         ·obtain rfl:i=kw:=by omega
          have HRS2:Hid (zx d h L (p+1)=(Z2.map rz,0)):=zhy (by
           rw [zb2 H20.o (by rw [HAT.o]) HAFX.o]
           have hs:za0 nx (wy9 L p) (zx d h L p).1=some (Z2.map rz):=by
            rw [HWW.o,HRS.o];rw [HSW.o,List.drop_of_length_le (by rw [HKW.o];exact Nat.le_refl _)];rfl
           rw [hs])
          go_wp2_with fail;go_roundw
          case rel=>exact ⟨p+1,Z2,by omega,by go_num,HW,HRS2,HZL2,HBQ⟩
          case measure=>simp [intOf];omega
       ·have he2:(e != 0)=true:=by simpa using he
        have HE:Hid (T=([],e)):=zhy (zlw (p:=p+1) (by omega) (e:=e) (by rw [zex H20.o (by rw [HAT.o]) (e:=e) (by rw [HAFX.o]) he]) he HTM3.o);have HBE:Hid (Below w.heap.size w w7):=zhy (S3.o.call HB7.o).1;go_wp2_with fail;go_ret2;exact zs3.err HE.o HBE.o
     ·obtain rfl:m=p:=by omega
      have HE:Hid (T=(Z1.map rz,0)):=zhy (by rw [HTM3.o,HRS.o,if_pos rfl]);have HBW:Hid (Below w.heap.size w wo):=zhy (S3.o.call HB.o).1;go_wp2_with fail;go_ret2;exact ⟨some ⟨g,0,none⟩,m,Z1,by rw [HE.o,List.length_map,HZL1.o];rfl,HW.o.rw HZL1.o (by omega),by rw [HE.o],HBW.o⟩
 ·have hne:(E != 0)=true:=by simpa using h0
  have HE:Hid (T=([],E)):=zhy (by rw [HTM.o,qcl,if_neg (by rw [HEE.o];exact h0),HEE.o]);go_wp2_with fail;go_ret2;exact zs3.err HE.o S3.o.1
end Go.Proofs.YtnjgkkoiamiaaaaGreatDoor
