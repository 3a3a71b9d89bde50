import Derived.Test.YtnjgkkoiamiaaaaGreatDoorVta1
import Derived.Test.YtnjgkkoiamiaaaaGreatDoorVta6
import Derived.Test.YtnjgkkoiamiaaaaGreatDoorVta5
import Derived.Test.YtnjgkkoiamiaaaaGreatDoorVta22
import Derived.Test.YtnjgkkoiamiaaaaGreatDoorVta8
import Derived.Test.YtnjgkkoiamiaaaaGreatDoorVta11
set_option maxRecDepth 100000
set_option maxHeartbeats 16000000
set_option linter.unusedSimpArgs false
set_option linter.unusedVariables false
namespace Go.Proofs.YtnjgkkoiamiaaaaGreatDoor
open Go.RowKit
theorem zbc (f t p:Nat) (k:Int) (w:World):Calls Tryz.prog 123 #[.agg #[.int .i64 f,.int .i64 t,.int .i64 k],.int .i64 p] w fun r w'=>r=.returned (.bool (decide (f<p)&&decide (p≤t)))∧Below w.heap.size w w':=by
 by_cases h1:f<p
 ·by_cases h2:p≤t
  all_goals
   go_enter Tryz.func123,Tryz.ntmps123
   go_wp2_with fail
   go_ret
   exact ⟨by simp [h1,h2],qh⟩
 ·go_enter Tryz.func123,Tryz.ntmps123;go_wp2_with fail;go_ret;exact ⟨by simp [h1],qh⟩
theorem zrz (f t f2 t2:Nat) (k k2:Int) (w:World):Calls Tryz.prog 180 #[.agg #[.int .i64 f,.int .i64 t,.int .i64 k],.agg #[.int .i64 f2,.int .i64 t2,.int .i64 k2]] w fun r w'=>r=.returned (.bool (decide (f<t2)&&decide (f2<t)))∧Below w.heap.size w w':=by
 by_cases h1:f<t2
 ·by_cases h2:f2<t
  all_goals
   go_enter Tryz.func180,Tryz.ntmps180
   go_wp2_with fail
   go_ret
   exact ⟨by simp [h1,h2],qh.trans (qh.mono (by simp))⟩
 ·go_enter Tryz.func180,Tryz.ntmps180;go_wp2_with fail;go_ret;exact ⟨by simp [h1],qh.trans (qh.mono (by simp))⟩
theorem zil (f t f2 t2:Nat) (k k2:Int) (w:World):Calls Tryz.prog 181 #[.agg #[.int .i64 f,.int .i64 t,.int .i64 k],.agg #[.int .i64 f2,.int .i64 t2,.int .i64 k2]] w fun r w'=>r=.returned (.bool ((decide (f2<f)&&decide (f≤t2))&&(decide (f2<t)&&decide (t≤t2))))∧Below w.heap.size w w':=by
 have W1:=fun w=>zhy (zbc f2 t2 f k2 w);have W2:=fun w=>zhy (zbc f2 t2 t k2 w);generalize (decide (f2<f)&&decide (f≤t2))=b1 at W1 ⊢;generalize (decide (f2<t)&&decide (t≤t2))=b2 at W2 ⊢;go_enter Tryz.func181,Tryz.ntmps181;go_wp2_with fail;refine (W1 _).o.mono ?_;rintro r w1 ⟨rfl,hb1⟩;have HB1:Hid (Below w.heap.size w w1):=zhy (qh.trans ((qh.trans (hb1.mono (by simp))).mono (by simp)));have e:∀B i v,((w.alloc (.cells #[.int .i64 f,.int .i64 t,.int .i64 k] 205)).alloc (.cells #[.int .i64 f2,.int .i64 t2,.int .i64 k2] 205)).cell? ⟨B,i,none⟩=some v→w1.cell? ⟨B,i,none⟩=some v:=fun B i v h=>(hb1.cell (qi h)).trans h;have a1:=e w.heap.size 1 (.int .i64 t) (by simp [go_sem]);have c0:=e (w.heap.size+1) 0 (.int .i64 f2) (by simp [go_sem]);have c1:=e (w.heap.size+1) 1 (.int .i64 t2) (by simp [go_sem]);have c2:=e (w.heap.size+1) 2 (.int .i64 k2) (by simp [go_sem]);clear e hb1;cases b1 with
 | false =>
  go_wp2_with fail;go_ret;exact ⟨rfl,HB1.o⟩
 | true =>
  go_wp2_with fail;refine (W2 _).o.mono ?_;rintro r w2 ⟨rfl,hb2⟩;have HB2:=zhy (HB1.o.trans (hb2.mono HB1.o.size));clear hb2;go_wp2_with fail;go_ret;exact ⟨rfl,HB2.o⟩
def At9 (w:World) (ad:Addr) (i f t:Nat) (z:Int):Prop:=w.cell? (ad.add (i*3))=some (.int .i64 f)∧w.cell? ⟨(ad.add (i*3)).block,(ad.add (i*3)).off+1,none⟩=some (.int .i64 t)∧w.cell? ⟨(ad.add (i*3)).block,(ad.add (i*3)).off+2,none⟩=some (.int .i64 z)
theorem At9.keep {w w':World} {ad:Addr} {i f t:Nat} {z:Int} (h:At9 w ad i f t z) (hb:Below w.heap.size w w'):At9 w' ad i f t z:=
 ⟨(hb.cell (qi h.1)).trans h.1,(hb.cell (qi h.2.1)).trans h.2.1,(hb.cell (qi h.2.2)).trans h.2.2⟩
theorem Rj.at9 {w:World} {A:Option Addr} {c:Nat} {L:List Lp} (h:Rj w A c L) {i:Nat} {x:Lp} (hx:L[i]?=some x):∃ad,A=some ad∧At9 w ad i x.1 x.2.1 x.2.2:=by
 obtain ⟨hi,he⟩:=zg8.1 hx;obtain ⟨ad,hA,h1,h2,h3⟩:=h.at_ hi;rw [he] at h1 h2 h3;exact ⟨ad,hA,h1,h2,h3⟩
def in9 (out:List Lp) (i:Nat):Bool:=(List.range i).all fun k=>np9 (out.getD i z9) (out.getD k z9)
theorem zps (out:List Lp) (n:Nat):ns9 out n=((List.range out.length).all (in9 out)&&(List.range n).all fun p=>decide ((lq9 out p).length≤4)):=rfl
theorem qbw {out:List Lp} {n i k:Nat} (hi:i<out.length) (hk:k<i) (h:np9 (out.getD i z9) (out.getD k z9)=false):ns9 out n=false:=by
 cases hb:ns9 out n with
 | false=>rfl
 | true =>
  rw [zps,Bool.and_eq_true,List.all_eq_true] at hb;have:=hb.1 i (List.mem_range.2 hi);rw [in9,List.all_eq_true] at this;rw [this k (List.mem_range.2 hk)] at h;cases h
theorem zzn {out:List Lp} {n p:Nat} (hp:p<n) (h:4<(lq9 out p).length):ns9 out n=false:=by
 cases hb:ns9 out n with
 | false=>rfl
 | true =>
  rw [zps,Bool.and_eq_true,List.all_eq_true,List.all_eq_true] at hb;have:=hb.2 p (List.mem_range.2 hp);simp at this;omega
theorem zry (A:Option Addr) (c n N:Nat) (out:List Lp) (w:World) (hr:Rj w A c out) (hm:out.length=n) (hl:n≤40000) (hN:N≤200) :
  Calls Tryz.prog 122 #[.slice A n c,.int .i64 N] w fun r w'=>r=.returned (.bool (ns9 out N))∧Below w.heap.size w w':=by
 have HLm:=zhy hm;have HR:=zhy hr;clear hr hm;obtain ⟨OK,hOK⟩:∃b,ns9 out N=b:=⟨_,rfl⟩;have HOK:=zhy hOK;rw [hOK];clear hOK;go_enter Tryz.func122,Tryz.ntmps122;go_wp2_with fail;go_loopw [5] (fun iv wr=>∃i:Nat,i≤n∧iv=.int .i64 i∧Hid ((List.range i).all (in9 out)=true)∧Hid (Below w.heap.size w wr)) (fun iv _=>n-(intOf iv).toNat)
 case atStart=>exact ⟨0,by omega,rfl,zhy rfl,zhy (Below.refl _ _)⟩
 case round =>
  obtain ⟨i,hi,rfl,HII,HB⟩:=hrel;by_cases h1:i<n
  ·go_wp2_with fail;go_loopw [6] (fun kv wq=>∃k:Nat,k≤i∧kv=.int .i64 k∧Hid ((List.range k).all (fun k=>np9 (out.getD i z9) (out.getD k z9))=true)∧Hid (Below w.heap.size w wq)) (fun kv _=>i-(intOf kv).toNat)
   case atStart=>exact ⟨0,by omega,rfl,zhy rfl,HB⟩
   case round =>
    clear HB;obtain ⟨k,hk,rfl,HK,HB⟩:=hrel;by_cases h2:k<i
    ·obtain ⟨⟨f,t,z⟩,hx⟩:∃x,out[i]?=some x:=⟨_,zg7 (by rw [HLm.o];exact h1)⟩;obtain ⟨⟨f2,t2,z2⟩,hy⟩:∃x,out[k]?=some x:=⟨_,zg7 (by rw [HLm.o];omega)⟩;have hkn:k<n:=by omega
     have HBD:Hid (Below w.heap.size w wr.drew):=zhy (qf HB.o 1);obtain ⟨ad,hA,t1⟩:=(HR.o.keep HBD.o).at9 hx;obtain ⟨ad',hA',t2'⟩:=(HR.o.keep HBD.o).at9 hy;subst hA;injection hA' with hA';subst hA';have SR:Hid (Below w.heap.size w wr.drew∧At9 wr.drew ad i f t z∧At9 wr.drew ad k f2 t2 z2):=zhy ⟨HBD.o,t1,t2'⟩
     have HNP0:Hid (np9 (out.getD i z9) (out.getD k z9)=!((decide (f<t2)&&decide (f2<t))&&(!((decide (f2<f)&&decide (f≤t2))&&(decide (f2<t)&&decide (t≤t2)))&&!((decide (f<f2)&&decide (f2≤t))&&(decide (f<t2)&&decide (t2≤t)))))):=zhy (by
      rw [List.getD_eq_getElem?_getD,List.getD_eq_getElem?_getD,hx,hy];rfl)
     have HC:=fun w=>zhy (zrz f t f2 t2 z z2 w);have HI1:=fun w=>zhy (zil f t f2 t2 z z2 w);have HI2:=fun w=>zhy (zil f2 t2 f t z2 z w);generalize (decide (f<t2)&&decide (f2<t))=bc at HC HNP0;generalize ((decide (f2<f)&&decide (f≤t2))&&(decide (f2<t)&&decide (t≤t2)))=b1 at HI1 HNP0;generalize ((decide (f<f2)&&decide (f2≤t))&&(decide (f<t2)&&decide (t2≤t)))=b2 at HI2 HNP0;clear t1 t2' hx hy;cases bc with
     | false =>
      have HNP:Hid (np9 (out.getD i z9) (out.getD k z9)=true):=zhy (by rw [HNP0.o];rfl);go_upto_region 7 with (fail);refine wp_region_held_drew (S:=fun w'=>Hid (Below w.heap.size w w'∧At9 w' ad i f t z∧At9 w' ad k f2 t2 z2)) (by kernel_rfl) (SR) (fun hHeld=>?_);refine zq 0 (h:=?_);refine zq 1 (h:=?_);refine zq 2 (h:=?_);refine zq 3 (hy:=fun w hSw=>by (try dsimp only at hSw);obtain ⟨-,⟨s0,s1,s2⟩,⟨s3,s4,s5⟩⟩:=hSw.o;go_simp;try with_reducible rfl) (h:=?_);refine zq 4 (h:=?_);refine zq 5 (h:=?_);refine zq 6 (h:=?_);refine zq 7 (hy:=fun w hSw=>by (try dsimp only at hSw);obtain ⟨-,⟨s0,s1,s2⟩,⟨s3,s4,s5⟩⟩:=hSw.o;go_simp;try with_reducible rfl) (h:=?_);refine wpAnyH_ready (rs:=[8]) (by kernel_rfl) (by simp) ?_;refine AllReadyH.cons rfl (fun K hK=>?_) AllReadyH.nil;go_simp;refine (HC _).o.mono ?_;rintro r w7 ⟨rfl,hb⟩;go_wp2_with fail;refine hK.out _ _ (zhy ⟨hHeld.o.1.trans (hb.mono hHeld.o.1.size),hHeld.o.2.1.keep hb,hHeld.o.2.2.keep hb⟩) (fun hHeld=>?_);clear hK K;(try simp only [Act.put,zg1,zg2,zg3,zg4,zg5,zg6]);refine zq 9 (h:=?_);refine ztk (i:=10) (v:=undef) rfl (by kernel_rfl) (fun _ _ _ h=>h) (Or.inr ⟨by rfl,rfl⟩) (by assumption) ?_;(try simp only [Act.put,zg1,zg2,zg3,zg4,zg5,zg6]);refine ztk (i:=11) (v:=undef) rfl (by kernel_rfl) (fun _ _ _ h=>h) (Or.inr ⟨by rfl,rfl⟩) (by assumption) ?_;(try simp only [Act.put,zg1,zg2,zg3,zg4,zg5,zg6]);refine ztk (i:=12) (v:=undef) rfl (by kernel_rfl) (fun _ _ _ h=>h) (Or.inr ⟨by rfl,rfl⟩) (by assumption) ?_;(try simp only [Act.put,zg1,zg2,zg3,zg4,zg5,zg6]);refine ztk (i:=13) (v:=undef) rfl (by kernel_rfl) (fun _ _ _ h=>h) (Or.inr ⟨by rfl,rfl⟩) (by assumption) ?_;(try simp only [Act.put,zg1,zg2,zg3,zg4,zg5,zg6]);refine ztk (i:=14) (v:=undef) rfl (by kernel_rfl) (fun _ _ _ h=>h) (Or.inr ⟨by rfl,rfl⟩) (by assumption) ?_;(try simp only [Act.put,zg1,zg2,zg3,zg4,zg5,zg6]);refine ztk (i:=15) (v:=undef) rfl (by kernel_rfl) (fun _ _ _ h=>h) (Or.inr ⟨by rfl,rfl⟩) (by assumption) ?_;(try simp only [Act.put,zg1,zg2,zg3,zg4,zg5,zg6]);refine ztk (i:=16) (v:=undef) rfl (by kernel_rfl) (fun _ _ _ h=>h) (Or.inr ⟨by rfl,rfl⟩) (by assumption) ?_;(try simp only [Act.put,zg1,zg2,zg3,zg4,zg5,zg6]);refine ztk (i:=17) (v:=undef) rfl (by kernel_rfl) (fun _ _ _ h=>h) (Or.inr ⟨by rfl,rfl⟩) (by assumption) ?_;(try simp only [Act.put,zg1,zg2,zg3,zg4,zg5,zg6]);refine ztk (i:=18) (v:=undef) rfl (by kernel_rfl) (fun _ _ _ h=>h) (Or.inr ⟨by rfl,rfl⟩) (by assumption) ?_;(try simp only [Act.put,zg1,zg2,zg3,zg4,zg5,zg6]);refine ztk (i:=19) (v:=undef) rfl (by kernel_rfl) (fun _ _ _ h=>h) (Or.inr ⟨by rfl,rfl⟩) (by assumption) ?_;(try simp only [Act.put,zg1,zg2,zg3,zg4,zg5,zg6]);refine zq 20 (h:=?_);refine zq 21 (h:=?_);refine ztk (i:=22) (v:=undef) rfl (by kernel_rfl) (fun _ _ _ h=>h) (Or.inr ⟨by rfl,rfl⟩) (by assumption) ?_;(try simp only [Act.put,zg1,zg2,zg3,zg4,zg5,zg6]);refine ztk (i:=23) (v:=undef) rfl (by kernel_rfl) (fun _ _ _ h=>h) (Or.inr ⟨by rfl,rfl⟩) (by assumption) ?_;(try simp only [Act.put,zg1,zg2,zg3,zg4,zg5,zg6]);refine ztk (i:=24) (v:=undef) rfl (by kernel_rfl) (fun _ _ _ h=>h) (Or.inr ⟨by rfl,rfl⟩) (by assumption) ?_;(try simp only [Act.put,zg1,zg2,zg3,zg4,zg5,zg6]);refine ztk (i:=25) (v:=undef) rfl (by kernel_rfl) (fun _ _ _ h=>h) (Or.inr ⟨by rfl,rfl⟩) (by assumption) ?_;(try simp only [Act.put,zg1,zg2,zg3,zg4,zg5,zg6]);refine ztk (i:=26) (v:=undef) rfl (by kernel_rfl) (fun _ _ _ h=>h) (Or.inr ⟨by rfl,rfl⟩) (by assumption) ?_;(try simp only [Act.put,zg1,zg2,zg3,zg4,zg5,zg6]);refine ztk (i:=27) (v:=undef) rfl (by kernel_rfl) (fun _ _ _ h=>h) (Or.inr ⟨by rfl,rfl⟩) (by assumption) ?_;(try simp only [Act.put,zg1,zg2,zg3,zg4,zg5,zg6]);refine ztk (i:=28) (v:=undef) rfl (by kernel_rfl) (fun _ _ _ h=>h) (Or.inr ⟨by rfl,rfl⟩) (by assumption) ?_;(try simp only [Act.put,zg1,zg2,zg3,zg4,zg5,zg6]);refine ztk (i:=29) (v:=undef) rfl (by kernel_rfl) (fun _ _ _ h=>h) (Or.inr ⟨by rfl,rfl⟩) (by assumption) ?_;(try simp only [Act.put,zg1,zg2,zg3,zg4,zg5,zg6]);refine ztk (i:=30) (v:=undef) rfl (by kernel_rfl) (fun _ _ _ h=>h) (Or.inr ⟨by rfl,rfl⟩) (by assumption) ?_;(try simp only [Act.put,zg1,zg2,zg3,zg4,zg5,zg6]);refine ztk (i:=31) (v:=undef) rfl (by kernel_rfl) (fun _ _ _ h=>h) (Or.inr ⟨by rfl,rfl⟩) (by assumption) ?_;(try simp only [Act.put,zg1,zg2,zg3,zg4,zg5,zg6]);refine zq 32 (h:=?_);refine wpAnyH_done (by kernel_rfl) ?_ _;have HBE:=zhy hHeld.o.1;clear hHeld;go_wp2_with fail;go_roundw
      case rel=>exact ⟨k+1,by omega,by go_num,zhy (by rw [List.range_succ,List.all_append,HK.o];simp only [List.all_cons,List.all_nil,Bool.and_true,Bool.true_and];exact HNP.o),HBE⟩
      case measure=>simp [intOf];omega
     | true =>
      cases b1 with
      | true =>
       have HNP:Hid (np9 (out.getD i z9) (out.getD k z9)=true):=zhy (by rw [HNP0.o];rfl);go_upto_region 7 with (fail);refine wp_region_held_drew (S:=fun w'=>Hid (Below w.heap.size w w'∧At9 w' ad i f t z∧At9 w' ad k f2 t2 z2)) (by kernel_rfl) (SR) (fun hHeld=>?_);refine zq 0 (h:=?_);refine zq 1 (h:=?_);refine zq 2 (h:=?_);refine zq 3 (hy:=fun w hSw=>by (try dsimp only at hSw);obtain ⟨-,⟨s0,s1,s2⟩,⟨s3,s4,s5⟩⟩:=hSw.o;go_simp;try with_reducible rfl) (h:=?_);refine zq 4 (h:=?_);refine zq 5 (h:=?_);refine zq 6 (h:=?_);refine zq 7 (hy:=fun w hSw=>by (try dsimp only at hSw);obtain ⟨-,⟨s0,s1,s2⟩,⟨s3,s4,s5⟩⟩:=hSw.o;go_simp;try with_reducible rfl) (h:=?_);refine wpAnyH_ready (rs:=[8]) (by kernel_rfl) (by simp) ?_;refine AllReadyH.cons rfl (fun K hK=>?_) AllReadyH.nil;go_simp;refine (HC _).o.mono ?_;rintro r w7 ⟨rfl,hb⟩;go_wp2_with fail;refine hK.out _ _ (zhy ⟨hHeld.o.1.trans (hb.mono hHeld.o.1.size),hHeld.o.2.1.keep hb,hHeld.o.2.2.keep hb⟩) (fun hHeld=>?_);clear hK K;(try simp only [Act.put,zg1,zg2,zg3,zg4,zg5,zg6]);refine zq 9 (h:=?_);refine zq 10 (h:=?_);refine zq 11 (h:=?_);refine zq 12 (h:=?_);refine zq 13 (hy:=fun w hSw=>by (try dsimp only at hSw);obtain ⟨-,⟨s0,s1,s2⟩,⟨s3,s4,s5⟩⟩:=hSw.o;go_simp;try with_reducible rfl) (h:=?_);refine zq 14 (h:=?_);refine zq 15 (h:=?_);refine zq 16 (h:=?_);refine zq 17 (hy:=fun w hSw=>by (try dsimp only at hSw);obtain ⟨-,⟨s0,s1,s2⟩,⟨s3,s4,s5⟩⟩:=hSw.o;go_simp;try with_reducible rfl) (h:=?_);refine wpAnyH_ready (rs:=[18]) (by kernel_rfl) (by simp) ?_;refine AllReadyH.cons rfl (fun K hK=>?_) AllReadyH.nil;go_simp;refine (HI1 _).o.mono ?_;rintro r w7 ⟨rfl,hb⟩;go_wp2_with fail;refine hK.out _ _ (zhy ⟨hHeld.o.1.trans (hb.mono hHeld.o.1.size),hHeld.o.2.1.keep hb,hHeld.o.2.2.keep hb⟩) (fun hHeld=>?_);clear hK K;(try simp only [Act.put,zg1,zg2,zg3,zg4,zg5,zg6]);refine zq 19 (h:=?_);refine zq 20 (h:=?_);refine zq 21 (h:=?_);refine ztk (i:=22) (v:=undef) rfl (by kernel_rfl) (fun _ _ _ h=>h) (Or.inr ⟨by rfl,rfl⟩) (by assumption) ?_;(try simp only [Act.put,zg1,zg2,zg3,zg4,zg5,zg6]);refine ztk (i:=23) (v:=undef) rfl (by kernel_rfl) (fun _ _ _ h=>h) (Or.inr ⟨by rfl,rfl⟩) (by assumption) ?_;(try simp only [Act.put,zg1,zg2,zg3,zg4,zg5,zg6]);refine ztk (i:=24) (v:=undef) rfl (by kernel_rfl) (fun _ _ _ h=>h) (Or.inr ⟨by rfl,rfl⟩) (by assumption) ?_;(try simp only [Act.put,zg1,zg2,zg3,zg4,zg5,zg6]);refine ztk (i:=25) (v:=undef) rfl (by kernel_rfl) (fun _ _ _ h=>h) (Or.inr ⟨by rfl,rfl⟩) (by assumption) ?_;(try simp only [Act.put,zg1,zg2,zg3,zg4,zg5,zg6]);refine ztk (i:=26) (v:=undef) rfl (by kernel_rfl) (fun _ _ _ h=>h) (Or.inr ⟨by rfl,rfl⟩) (by assumption) ?_;(try simp only [Act.put,zg1,zg2,zg3,zg4,zg5,zg6]);refine ztk (i:=27) (v:=undef) rfl (by kernel_rfl) (fun _ _ _ h=>h) (Or.inr ⟨by rfl,rfl⟩) (by assumption) ?_;(try simp only [Act.put,zg1,zg2,zg3,zg4,zg5,zg6]);refine ztk (i:=28) (v:=undef) rfl (by kernel_rfl) (fun _ _ _ h=>h) (Or.inr ⟨by rfl,rfl⟩) (by assumption) ?_;(try simp only [Act.put,zg1,zg2,zg3,zg4,zg5,zg6]);refine ztk (i:=29) (v:=undef) rfl (by kernel_rfl) (fun _ _ _ h=>h) (Or.inr ⟨by rfl,rfl⟩) (by assumption) ?_;(try simp only [Act.put,zg1,zg2,zg3,zg4,zg5,zg6]);refine ztk (i:=30) (v:=undef) rfl (by kernel_rfl) (fun _ _ _ h=>h) (Or.inr ⟨by rfl,rfl⟩) (by assumption) ?_;(try simp only [Act.put,zg1,zg2,zg3,zg4,zg5,zg6]);refine ztk (i:=31) (v:=undef) rfl (by kernel_rfl) (fun _ _ _ h=>h) (Or.inr ⟨by rfl,rfl⟩) (by assumption) ?_;(try simp only [Act.put,zg1,zg2,zg3,zg4,zg5,zg6]);refine zq 32 (h:=?_);refine wpAnyH_done (by kernel_rfl) ?_ _;have HBE:=zhy hHeld.o.1;clear hHeld;go_wp2_with fail;go_roundw
       case rel=>exact ⟨k+1,by omega,by go_num,zhy (by rw [List.range_succ,List.all_append,HK.o];simp only [List.all_cons,List.all_nil,Bool.and_true,Bool.true_and];exact HNP.o),HBE⟩
       case measure=>simp [intOf];omega
      | false =>
       cases b2 with
       | true =>
        have HNP:Hid (np9 (out.getD i z9) (out.getD k z9)=true):=zhy (by rw [HNP0.o];rfl);go_upto_region 7 with (fail);refine wp_region_held_drew (S:=fun w'=>Hid (Below w.heap.size w w'∧At9 w' ad i f t z∧At9 w' ad k f2 t2 z2)) (by kernel_rfl) (SR) (fun hHeld=>?_);refine zq 0 (h:=?_);refine zq 1 (h:=?_);refine zq 2 (h:=?_);refine zq 3 (hy:=fun w hSw=>by (try dsimp only at hSw);obtain ⟨-,⟨s0,s1,s2⟩,⟨s3,s4,s5⟩⟩:=hSw.o;go_simp;try with_reducible rfl) (h:=?_);refine zq 4 (h:=?_);refine zq 5 (h:=?_);refine zq 6 (h:=?_);refine zq 7 (hy:=fun w hSw=>by (try dsimp only at hSw);obtain ⟨-,⟨s0,s1,s2⟩,⟨s3,s4,s5⟩⟩:=hSw.o;go_simp;try with_reducible rfl) (h:=?_);refine wpAnyH_ready (rs:=[8]) (by kernel_rfl) (by simp) ?_;refine AllReadyH.cons rfl (fun K hK=>?_) AllReadyH.nil;go_simp;refine (HC _).o.mono ?_;rintro r w7 ⟨rfl,hb⟩;go_wp2_with fail;refine hK.out _ _ (zhy ⟨hHeld.o.1.trans (hb.mono hHeld.o.1.size),hHeld.o.2.1.keep hb,hHeld.o.2.2.keep hb⟩) (fun hHeld=>?_);clear hK K;(try simp only [Act.put,zg1,zg2,zg3,zg4,zg5,zg6]);refine zq 9 (h:=?_);refine zq 10 (h:=?_);refine zq 11 (h:=?_);refine zq 12 (h:=?_);refine zq 13 (hy:=fun w hSw=>by (try dsimp only at hSw);obtain ⟨-,⟨s0,s1,s2⟩,⟨s3,s4,s5⟩⟩:=hSw.o;go_simp;try with_reducible rfl) (h:=?_);refine zq 14 (h:=?_);refine zq 15 (h:=?_);refine zq 16 (h:=?_);refine zq 17 (hy:=fun w hSw=>by (try dsimp only at hSw);obtain ⟨-,⟨s0,s1,s2⟩,⟨s3,s4,s5⟩⟩:=hSw.o;go_simp;try with_reducible rfl) (h:=?_);refine wpAnyH_ready (rs:=[18]) (by kernel_rfl) (by simp) ?_;refine AllReadyH.cons rfl (fun K hK=>?_) AllReadyH.nil;go_simp;refine (HI1 _).o.mono ?_;rintro r w7 ⟨rfl,hb⟩;go_wp2_with fail;refine hK.out _ _ (zhy ⟨hHeld.o.1.trans (hb.mono hHeld.o.1.size),hHeld.o.2.1.keep hb,hHeld.o.2.2.keep hb⟩) (fun hHeld=>?_);clear hK K;(try simp only [Act.put,zg1,zg2,zg3,zg4,zg5,zg6]);refine zq 19 (h:=?_);refine zq 20 (h:=?_);refine zq 21 (h:=?_);refine zq 22 (h:=?_);refine zq 23 (h:=?_);refine zq 24 (h:=?_);refine zq 25 (hy:=fun w hSw=>by (try dsimp only at hSw);obtain ⟨-,⟨s0,s1,s2⟩,⟨s3,s4,s5⟩⟩:=hSw.o;go_simp;try with_reducible rfl) (h:=?_);refine zq 26 (h:=?_);refine zq 27 (h:=?_);refine zq 28 (h:=?_);refine zq 29 (hy:=fun w hSw=>by (try dsimp only at hSw);obtain ⟨-,⟨s0,s1,s2⟩,⟨s3,s4,s5⟩⟩:=hSw.o;go_simp;try with_reducible rfl) (h:=?_);refine wpAnyH_ready (rs:=[30]) (by kernel_rfl) (by simp) ?_;refine AllReadyH.cons rfl (fun K hK=>?_) AllReadyH.nil;go_simp;refine (HI2 _).o.mono ?_;rintro r w7 ⟨rfl,hb⟩;go_wp2_with fail;refine hK.out _ _ (zhy ⟨hHeld.o.1.trans (hb.mono hHeld.o.1.size),hHeld.o.2.1.keep hb,hHeld.o.2.2.keep hb⟩) (fun hHeld=>?_);clear hK K;(try simp only [Act.put,zg1,zg2,zg3,zg4,zg5,zg6]);refine zq 31 (h:=?_);refine zq 32 (h:=?_);refine wpAnyH_done (by kernel_rfl) ?_ _;have HBE:=zhy hHeld.o.1;clear hHeld;go_wp2_with fail;go_roundw
        case rel=>exact ⟨k+1,by omega,by go_num,zhy (by rw [List.range_succ,List.all_append,HK.o];simp only [List.all_cons,List.all_nil,Bool.and_true,Bool.true_and];exact HNP.o),HBE⟩
        case measure=>simp [intOf];omega
       | false =>
        have HFA:Hid (OK=false):=zhy (by
         rw [←HOK.o];exact qbw (i:=i) (k:=k) (by rw [HLm.o];exact h1) h2 (by rw [HNP0.o];rfl))
        go_upto_region 7 with (fail);refine wp_region_held_drew (S:=fun w'=>Hid (Below w.heap.size w w'∧At9 w' ad i f t z∧At9 w' ad k f2 t2 z2)) (by kernel_rfl) (SR) (fun hHeld=>?_);refine zq 0 (h:=?_);refine zq 1 (h:=?_);refine zq 2 (h:=?_);refine zq 3 (hy:=fun w hSw=>by (try dsimp only at hSw);obtain ⟨-,⟨s0,s1,s2⟩,⟨s3,s4,s5⟩⟩:=hSw.o;go_simp;try with_reducible rfl) (h:=?_);refine zq 4 (h:=?_);refine zq 5 (h:=?_);refine zq 6 (h:=?_);refine zq 7 (hy:=fun w hSw=>by (try dsimp only at hSw);obtain ⟨-,⟨s0,s1,s2⟩,⟨s3,s4,s5⟩⟩:=hSw.o;go_simp;try with_reducible rfl) (h:=?_);refine wpAnyH_ready (rs:=[8]) (by kernel_rfl) (by simp) ?_;refine AllReadyH.cons rfl (fun K hK=>?_) AllReadyH.nil;go_simp;refine (HC _).o.mono ?_;rintro r w7 ⟨rfl,hb⟩;go_wp2_with fail;refine hK.out _ _ (zhy ⟨hHeld.o.1.trans (hb.mono hHeld.o.1.size),hHeld.o.2.1.keep hb,hHeld.o.2.2.keep hb⟩) (fun hHeld=>?_);clear hK K;(try simp only [Act.put,zg1,zg2,zg3,zg4,zg5,zg6]);refine zq 9 (h:=?_);refine zq 10 (h:=?_);refine zq 11 (h:=?_);refine zq 12 (h:=?_);refine zq 13 (hy:=fun w hSw=>by (try dsimp only at hSw);obtain ⟨-,⟨s0,s1,s2⟩,⟨s3,s4,s5⟩⟩:=hSw.o;go_simp;try with_reducible rfl) (h:=?_);refine zq 14 (h:=?_);refine zq 15 (h:=?_);refine zq 16 (h:=?_);refine zq 17 (hy:=fun w hSw=>by (try dsimp only at hSw);obtain ⟨-,⟨s0,s1,s2⟩,⟨s3,s4,s5⟩⟩:=hSw.o;go_simp;try with_reducible rfl) (h:=?_);refine wpAnyH_ready (rs:=[18]) (by kernel_rfl) (by simp) ?_;refine AllReadyH.cons rfl (fun K hK=>?_) AllReadyH.nil;go_simp;refine (HI1 _).o.mono ?_;rintro r w7 ⟨rfl,hb⟩;go_wp2_with fail;refine hK.out _ _ (zhy ⟨hHeld.o.1.trans (hb.mono hHeld.o.1.size),hHeld.o.2.1.keep hb,hHeld.o.2.2.keep hb⟩) (fun hHeld=>?_);clear hK K;(try simp only [Act.put,zg1,zg2,zg3,zg4,zg5,zg6]);refine zq 19 (h:=?_);refine zq 20 (h:=?_);refine zq 21 (h:=?_);refine zq 22 (h:=?_);refine zq 23 (h:=?_);refine zq 24 (h:=?_);refine zq 25 (hy:=fun w hSw=>by (try dsimp only at hSw);obtain ⟨-,⟨s0,s1,s2⟩,⟨s3,s4,s5⟩⟩:=hSw.o;go_simp;try with_reducible rfl) (h:=?_);refine zq 26 (h:=?_);refine zq 27 (h:=?_);refine zq 28 (h:=?_);refine zq 29 (hy:=fun w hSw=>by (try dsimp only at hSw);obtain ⟨-,⟨s0,s1,s2⟩,⟨s3,s4,s5⟩⟩:=hSw.o;go_simp;try with_reducible rfl) (h:=?_);refine wpAnyH_ready (rs:=[30]) (by kernel_rfl) (by simp) ?_;refine AllReadyH.cons rfl (fun K hK=>?_) AllReadyH.nil;go_simp;refine (HI2 _).o.mono ?_;rintro r w7 ⟨rfl,hb⟩;go_wp2_with fail;refine hK.out _ _ (zhy ⟨hHeld.o.1.trans (hb.mono hHeld.o.1.size),hHeld.o.2.1.keep hb,hHeld.o.2.2.keep hb⟩) (fun hHeld=>?_);clear hK K;(try simp only [Act.put,zg1,zg2,zg3,zg4,zg5,zg6]);refine zq 31 (h:=?_);refine zq 32 (h:=?_);refine wpAnyH_done (by kernel_rfl) ?_ _;have HBE:=zhy hHeld.o.1;clear hHeld;go_wp2_with fail;go_ret;exact ⟨by rw [HFA.o];rfl,HBE.o⟩
    ·obtain rfl:k=i:=by omega
     go_wp2_with fail;go_roundw
     case rel=>exact ⟨k+1,by omega,by go_num,zhy (by rw [List.range_succ,List.all_append,HII.o];simp only [List.all_cons,List.all_nil,Bool.and_true,Bool.true_and];exact HK.o),HB⟩
     case measure=>simp [intOf];omega
  ·obtain rfl:i=n:=by omega
   go_wp2_with fail;go_loopw [7] (fun pv wq=>∃p:Nat,p≤N∧pv=.int .i64 p∧Hid ((List.range p).all (fun p=>decide ((lq9 out p).length≤4))=true)∧Hid (Below w.heap.size w wq)) (fun pv _=>N-(intOf pv).toNat)
   case atStart=>exact ⟨0,by omega,rfl,zhy rfl,HB⟩
   case round =>
    clear HB;obtain ⟨p,hp,rfl,HP,HB⟩:=hrel;by_cases h2:p<N
    ·go_wp2_with fail;go_loopw [8,9] (fun dv jv wq=>∃j d:Nat,j≤i∧d≤j∧jv=.int .i64 j∧dv=.int .i64 d∧Hid (d=((out.take j).filter (fun x=>wi9 x p)).length)∧Hid (Below w.heap.size w wq)) (fun _ jv _=>i-(intOf jv).toNat)
     case atStart=>exact ⟨0,0,by omega,by omega,rfl,rfl,zhy (by simp),HB⟩
     case round =>
      clear HB;obtain ⟨j,d,hj,hd,rfl,rfl,HD,HB⟩:=hrel;by_cases h3:j<i
      ·obtain ⟨⟨f,t,z⟩,hx⟩:∃x,out[j]?=some x:=⟨_,zg7 (by rw [HLm.o];exact h3)⟩;obtain ⟨ad,hA,t1⟩:=(HR.o.keep HB.o).at9 hx;subst hA;obtain ⟨s0,s1,s2⟩:=t1;have HX:=zhy hx;have HWI:Hid (wi9 (f,t,z) p=(decide (f<p)&&decide (p≤t))):=zhy rfl;have HCW:=fun w=>zhy (zbc f t p z w);generalize (decide (f<p)&&decide (p≤t))=bw at HCW HWI;clear hx;go_wp2_with fail;refine (HCW _).o.mono ?_;rintro r w7 ⟨rfl,hb⟩;have HB7:=zhy (HB.o.trans (hb.mono HB.o.size));clear hb s0 s1 s2;cases bw with
       | false =>
        have HD2:Hid (d=((out.take (j+1)).filter (fun x=>wi9 x p)).length):=zhy (by
         rw [List.take_add_one,HX.o,List.filter_append,List.length_append,←HD.o];simp [HWI.o])
        go_wp2_with fail;go_roundw
        case rel=>exact ⟨j+1,d,by omega,by omega,by go_num,rfl,HD2,HB7⟩
        case measure=>simp [intOf];omega
       | true =>
        have HD2:Hid (d+1=((out.take (j+1)).filter (fun x=>wi9 x p)).length):=zhy (by
         rw [List.take_add_one,HX.o,List.filter_append,List.length_append,←HD.o];simp [HWI.o])
        go_wp2_with fail;go_roundw
        case rel=>exact ⟨j+1,d+1,by omega,by omega,by go_num,by go_num,HD2,HB7⟩
        case measure=>simp [intOf];omega
      ·obtain rfl:j=i:=by omega
       have HDL:Hid (d=(lq9 out p).length):=zhy (by
        have h:=HD.o;rwa [List.take_of_length_le (by rw [HLm.o];exact Nat.le_refl _)] at h)
       by_cases h4:4<d
       ·have HFA:Hid (OK=false):=zhy (by rw [←HOK.o];exact zzn h2 (by rw [←HDL.o];exact h4));go_wp2_with fail;go_ret;exact ⟨by rw [HFA.o];rfl,HB.o⟩
       ·have HP2:Hid ((List.range (p+1)).all (fun p=>decide ((lq9 out p).length≤4))=true):=zhy (by
         rw [List.range_succ,List.all_append,HP.o];simp only [List.all_cons,List.all_nil,Bool.and_true,Bool.true_and,decide_eq_true_eq];rw [←HDL.o];omega)
        go_wp2_with fail;go_roundw
        case rel=>exact ⟨p+1,by omega,by go_num,HP2,HB⟩
        case measure=>simp [intOf];omega
    ·obtain rfl:p=N:=by omega
     have HYE:Hid (OK=true):=zhy (by rw [←HOK.o,zps,HLm.o,HII.o,HP.o];rfl);go_wp2_with fail;go_ret;exact ⟨by rw [HYE.o];rfl,HB.o⟩
theorem zlq {l:List Ins} (h:jq l=false):jc l=40∧zcu l=[]:=by
 have e:jc l=40:=by rw [jc,h];rfl
 exact ⟨e,by rw [zcu,e];rfl⟩
theorem zdu {l:List Ins} (hc:jq l=true) (h:¬(ze2 l=true∧ns9 (qy l l.length) l.length=true∧(la9 l=31∨la9 l=32)∧(List.range l.length).all (jp9 l (qy l l.length))=true)):jc l=90∧zcu l=[]:=by
 have e:jc l=90:=by rw [jc,if_pos hc,if_neg h]
 exact ⟨e,by rw [zcu,e];rfl⟩
theorem zy7 {l:List Ins} (hc:jq l=true) (h:ze2 l=true∧ns9 (qy l l.length) l.length=true∧(la9 l=31∨la9 l=32)∧(List.range l.length).all (jp9 l (qy l l.length))=true):jc l=0∧zcu l=qy l l.length:=by
 have e:jc l=0:=by rw [jc,if_pos hc,if_pos h]
 exact ⟨e,by rw [zcu,if_pos e]⟩
theorem zp8 {l:List Ins} {p:Nat} (hp:p<l.length) {out:List Lp} (h:jp9 l out p=false):¬(List.range l.length).all (jp9 l out)=true:=by
 intro hb;rw [List.all_eq_true] at hb;rw [hb p (List.mem_range.2 hp)] at h;cases h
theorem zmx (l:List Ins):∀k,(qy l k).length≤k*l.length
 | 0=>by simp [qy]
 | k+1=>by
  rw [zdm,List.length_append,Nat.succ_mul];refine Nat.add_le_add (zmx l k) ?_;rw [ztv];split
  ·rw [ztq];exact zzd _ _ _
  ·simp
theorem zft (A:Option Addr) (c m:Nat) (L:List Ins) (w:World) (hr:Ri w A c L) (hm:L.length=m) :
  Calls Tryz.prog 72 #[.slice A m c] w fun r w'=>∃A' c',r=.returned (.tuple #[.slice A' (zcu L).length c',.int .i64 (jc L)])∧w'.ownsRow w.heap.size 205 3 (.slice A' (zcu L).length c') (zcu L).length (cej (zcu L))∧Below w.heap.size w w':=by
 have HLm:=zhy hm;have HR:=zhy hr;have hml:m≤9223372036854775807:=by have:=hr.len;omega
 clear hr hm;obtain ⟨E,hE⟩:∃e,jc L=e:=⟨_,rfl⟩;obtain ⟨FL,hFL⟩:∃x,zcu L=x:=⟨_,rfl⟩;have HEF:=zhy (show jc L=E∧zcu L=FL from ⟨hE,hFL⟩);rw [hE,hFL];clear hE hFL;by_cases hm1:m<1
 ·have HE:Hid (E=40∧FL=[]):=zhy (by
   rw [←HEF.o.1,←HEF.o.2];exact zlq (by rw [jq,HLm.o,decide_eq_false (by omega)];rfl))
  go_enter Tryz.func72,Tryz.ntmps72;go_wp2_with fail;go_ret2;exact ⟨none,0,by rw [HE.o.1,HE.o.2];rfl,by rw [HE.o.2];exact World.ownsRow_nil _ _ _ _,Below.refl _ _⟩
 by_cases hm2:200<m
 ·have HE:Hid (E=40∧FL=[]):=zhy (by
   rw [←HEF.o.1,←HEF.o.2];exact zlq (by rw [jq,HLm.o,decide_eq_false (p:=m≤200) (by omega),Bool.and_false];rfl))
  go_enter Tryz.func72,Tryz.ntmps72;go_wp2_with fail;go_ret2;exact ⟨none,0,by rw [HE.o.1,HE.o.2];rfl,by rw [HE.o.2];exact World.ownsRow_nil _ _ _ _,Below.refl _ _⟩
 go_enter Tryz.func72,Tryz.ntmps72;go_wp2_with fail;go_loopw [4] (fun iv wr=>∃i:Nat,i≤m∧iv=.int .i64 i∧Hid ((L.take i).all inM=true)∧Hid (Below w.heap.size w wr)) (fun iv _=>m-(intOf iv).toNat)
 case atStart=>exact ⟨0,by omega,rfl,zhy rfl,zhy (Below.refl _ _)⟩
 case round =>
  obtain ⟨i,hi,rfl,HI,HB⟩:=hrel;by_cases h1:i<m
  ·obtain ⟨⟨o,a,z⟩,hx⟩:∃x,L[i]?=some x:=⟨_,zg7 (by rw [HLm.o];exact h1)⟩;obtain ⟨ad,hA,k1,k2,k3⟩:=(HR.o.keep HB.o).at9 hx;subst hA;have HX:=zhy hx;clear hx;cases hv:inM (o,a,z) with
   | false =>
    have HE:Hid (E=40∧FL=[]):=zhy (by
     rw [←HEF.o.1,←HEF.o.2];refine zlq ?_;have:L.all inM=false:=List.all_eq_false.2 ⟨_,List.mem_of_getElem? HX.o,by rw [hv];simp⟩;rw [jq,this,Bool.and_false])
    have HM:=fun w=>zhy (zkt o a z _ w hv);clear hv;go_wp2_with fail;refine (HM _).o.mono ?_;rintro r w2 ⟨rfl,hb⟩;have HB2:=zhy (HB.o.trans (hb.mono HB.o.size));clear hb k1 k2 k3;go_wp2_with fail;go_ret2;exact ⟨none,0,by rw [HE.o.1,HE.o.2];rfl,by rw [HE.o.2];exact World.ownsRow_nil _ _ _ _,HB2.o⟩
   | true =>
    have HI2:Hid ((L.take (i+1)).all inM=true):=zhy (by rw [List.take_add_one,HX.o,List.all_append,HI.o];simp [hv]);have HM:=fun w=>zhy (zkt o a z _ w hv);clear hv;go_wp2_with fail;refine (HM _).o.mono ?_;rintro r w2 ⟨rfl,hb⟩;have HB2:=zhy (HB.o.trans (hb.mono HB.o.size));clear hb k1 k2 k3;go_wp2_with fail;go_roundw
    case rel=>exact ⟨i+1,by omega,by go_num,HI2,HB2⟩
    case measure=>simp [intOf];omega
  ·obtain rfl:m=i:=by omega
   have HCM:Hid (jq L=true):=zhy (by
    have h:=HI.o;rw [List.take_of_length_le (by rw [HLm.o];exact Nat.le_refl _)] at h;rw [jq,h,HLm.o,decide_eq_true (by omega),decide_eq_true (by omega)];rfl)
   go_wp2_with fail;refine (qak A c m L _ (HR.o.keep HB.o) HLm.o (by omega) (fun x hx=>zd5 ((qw HCM.o).2.2 x hx))).mono ?_;rintro r w2 ⟨A1,c1,n1,rfl,ho,hb⟩;have HO:Hid (ze2 L=true→n1=(qy L m).length∧w2.ownsRow w.heap.size 205 3 (.slice A1 n1 c1) n1 (cej (qy L m))):=zhy fun h=>⟨(ho h).1,qb (ho h).2 (Below.refl _ _) HB.o.size⟩;have HB2:=zhy (HB.o.trans (hb.mono HB.o.size));clear ho hb HI HB;obtain ⟨q,hq⟩:∃q:Nat,(m:Int)-1=q:=⟨m-1,by omega⟩;have hqm:q<m:=by omega
   obtain ⟨⟨o,a,z⟩,hx⟩:∃x,L[q]?=some x:=⟨_,zg7 (by rw [HLm.o];exact hqm)⟩;obtain ⟨ad,hA,k1,-,-⟩:=(HR.o.keep HB2.o).at9 hx;have HLA:Hid (la9 L=o):=zhy (by rw [la9,HLm.o,show m-1=q by omega];simp [iO9,hx]);subst hA;clear hx;cases hok:ze2 L with
   | false =>
    have HE:Hid (E=90∧FL=[]):=zhy (by
     rw [←HEF.o.1,←HEF.o.2];exact zdu HCM.o (fun h=>by rw [hok] at h;cases h.1))
    clear hok;go_wp2_with fail;go_ret2;exact ⟨none,0,by rw [HE.o.1,HE.o.2];rfl,by rw [HE.o.2];exact World.ownsRow_nil _ _ _ _,HB2.o⟩
   | true =>
    obtain ⟨hn1,ho1⟩:=HO.o hok;have HOK:=zhy hok;clear hok HO;have HOW:=zhy ho1;have RJ:=zhy (Rj.of_own ho1 (fun _ _=>trivial)).1;have HN1:=zhy hn1
    have hn40:n1≤40000:=by
     have h:=zmx L m;rw [←hn1,HLm.o] at h;have h2:m*m≤200*200:=Nat.mul_le_mul (by omega) (by omega);omega
    have HNE:=fun w' (hb:Below w2.heap.size w2 w')=>zhy (zry A1 c1 n1 m (qy L m) w' (RJ.o.keep hb) hn1.symm hn40 (by omega));clear ho1 hn1;cases hns:ns9 (qy L m) m with
    | false =>
     have HE:Hid (E=90∧FL=[]):=zhy (by
      rw [←HEF.o.1,←HEF.o.2];exact zdu HCM.o (fun h=>by have:=h.2.1;rw [HLm.o,hns] at this;cases this))
     rw [hns] at HNE;clear hns;go_wp2_with fail;refine (HNE _ (Below.refl _ _)).o.mono ?_;rintro r w3 ⟨rfl,hb⟩;have HB3:=zhy (HB2.o.trans (hb.mono HB2.o.size));clear hb k1;go_wp2_with fail;go_ret2;exact ⟨none,0,by rw [HE.o.1,HE.o.2];rfl,by rw [HE.o.2];exact World.ownsRow_nil _ _ _ _,HB3.o⟩
    | true =>
     have HNS:=zhy hns;rw [hns] at HNE;clear hns;by_cases hla:o=31∨o=32
     ·have HLL:=zhy hla;rcases hla with rfl | rfl
      all_goals
       go_wp2_with fail
       refine (HNE _ (Below.refl _ _)).o.mono ?_
       rintro r w3 ⟨rfl,hb⟩
       have HB:Hid (Below w.heap.size w w3):=zhy (HB2.o.trans (hb.mono HB2.o.size))
       have HOW3:Hid (w3.ownsRow w.heap.size 205 3 (.slice A1 n1 c1) n1 (cej (qy L m))):=zhy (qb HOW.o hb (Nat.le_refl _))
       clear hb k1 HNE HB2 HOW RJ
       go_wp2_with fail
       go_loopw [8] (fun pv wq=>∃p:Nat,p≤m∧pv=.int .i64 p∧Hid ((List.range p).all (jp9 L (qy L m))=true)∧Hid (wq.ownsRow w.heap.size 205 3 (.slice A1 n1 c1) n1 (cej (qy L m)))∧Hid (Below w.heap.size w wq)) (fun pv _=>m-(intOf pv).toNat)
       case atStart=>exact ⟨0,by omega,rfl,zhy rfl,HOW3,HB⟩
       case round =>
        clear HOW3 HB
        obtain ⟨p,hpm,rfl,HP,HOW,HB⟩:=hrel
        by_cases hp:p<m
        ·obtain ⟨⟨o,b,z0⟩,hx⟩:∃x,L[p]?=some x:=⟨_,zg7 (by rw [HLm.o];exact hp)⟩
         have HXO:Hid (iO9 L p=o∧iA9 L p=b):=zhy ⟨by simp [iO9,hx],by simp [iA9,hx]⟩
         have HX0:=zhy hx
         obtain ⟨ad',hA,k1,k2,-⟩:=(HR.o.keep HB.o).at9 hx
         injection hA with hA
         subst hA
         clear hx
         by_cases hj:o=26∨o=27
         ·have HJ:Hid (jp9 L (qy L m) p=(decide ((p:Int)<b)&&(decide (b<m)&&(qy L m).all fun x=>!(wi9 x b.toNat&&!wi9 x p)))):=zhy (by
           rw [jp9,HXO.o.1,HXO.o.2,HLm.o,if_pos hj])
          have hj:=zhy hj
          by_cases hbp:b≤p
          ·rcases hj.o with rfl | rfl
           all_goals
            have HE:Hid (E=90∧FL=[]):=zhy (by
             rw [←HEF.o.1,←HEF.o.2];refine zdu HCM.o (fun h=>zp8 (by rw [HLm.o];exact hp) (out:=qy L m) ?_ (by have:=h.2.2.2;rwa [HLm.o] at this ⊢));rw [HJ.o,decide_eq_false (by omega),Bool.false_and])
            go_wp2_with fail
            go_ret2
            exact ⟨none,0,by rw [HE.o.1,HE.o.2];rfl,by rw [HE.o.2];exact World.ownsRow_nil _ _ _ _,HB.o⟩
          ·by_cases hbm:(m:Int)≤b
           ·rcases hj.o with rfl | rfl
            all_goals
             have HE:Hid (E=90∧FL=[]):=zhy (by
              rw [←HEF.o.1,←HEF.o.2];refine zdu HCM.o (fun h=>zp8 (by rw [HLm.o];exact hp) (out:=qy L m) ?_ (by have:=h.2.2.2;rwa [HLm.o] at this ⊢));rw [HJ.o,decide_eq_false (p:=b<m) (by omega),Bool.false_and,Bool.and_false])
             go_wp2_with fail
             go_ret2
             exact ⟨none,0,by rw [HE.o.1,HE.o.2];rfl,by rw [HE.o.2];exact World.ownsRow_nil _ _ _ _,HB.o⟩
           ·obtain ⟨b,rfl⟩:∃b':Nat,b=b':=⟨b.toNat,by omega⟩
            rw [Int.toNat_natCast] at HJ
            have hbm2:b<m:=by omega
            have hpb2:p<b:=by omega
            clear hbp hbm
            rcases hj.o with rfl | rfl
            all_goals
             go_wp2_with fail
             go_loopw [9] (fun iv wq=>∃i:Nat,i≤n1∧iv=.int .i64 i∧Hid (((qy L m).take i).all (fun x=>!(wi9 x b&&!wi9 x p))=true)∧Hid (wq.ownsRow w.heap.size 205 3 (.slice A1 n1 c1) n1 (cej (qy L m)))∧Hid (Below w.heap.size w wq)) (fun iv _=>n1-(intOf iv).toNat)
             case atStart=>exact ⟨0,by omega,rfl,zhy rfl,HOW,HB⟩
             case round =>
              clear HOW HB k1 k2
              obtain ⟨i,hi,rfl,HI,HOW,HB⟩:=hrel
              by_cases h1:i<n1
              ·obtain ⟨⟨f,t,z⟩,hx⟩:∃x,(qy L m)[i]?=some x:=⟨_,zg7 (by rw [←HN1.o];exact h1)⟩
               have HBD:Hid (Below w.heap.size w wr.drew):=zhy (qf HB.o 1)
               have HOD:Hid (wr.drew.ownsRow w.heap.size 205 3 (.slice A1 n1 c1) n1 (cej (qy L m))):=zhy (qb HOW.o (qf (Below.refl _ _) 1) (Nat.le_refl _))
               obtain ⟨ae,hA,t1⟩:=(Rj.of_own HOD.o (fun _ _=>trivial)).1.at9 hx
               obtain ⟨ad',hA2,-,k2,-⟩:=(HR.o.keep HBD.o).at9 HX0.o
               injection hA2 with hA2
               subst hA2
               subst hA
               have SR:Hid (Below w.heap.size w wr.drew∧wr.drew.ownsRow w.heap.size 205 3 (.slice (some ae) n1 c1) n1 (cej (qy L m))∧At9 wr.drew ae i f t z∧wr.drew.cell? ⟨(ad.add (p*3)).block,(ad.add (p*3)).off+1,none⟩=some (.int .i64 b)):=zhy ⟨HBD.o,HOD.o,t1,k2⟩
               have HX:=zhy hx
               have HC1:=fun w=>zhy (zbc f t b z w)
               have HC2:=fun w=>zhy (zbc f t p z w)
               have HNP0:Hid ((!(wi9 (f,t,z) b&&!wi9 (f,t,z) p))=!((decide (f<b)&&decide (b≤t))&&!(decide (f<p)&&decide (p≤t)))):=zhy rfl
               generalize (decide (f<b)&&decide (b≤t))=b1 at HC1 HNP0
               generalize (decide (f<p)&&decide (p≤t))=b2 at HC2 HNP0
               clear hx t1 k2
               cases b1 with
               | false =>
                have HNP:Hid ((!(wi9 (f,t,z) b&&!wi9 (f,t,z) p))=true):=zhy (by rw [HNP0.o];rfl)
                go_upto_region 21 with (fail)
                refine wp_region_held_drew (S:=fun w'=>Hid (Below w.heap.size w w'∧w'.ownsRow w.heap.size 205 3 (.slice (some ae) n1 c1) n1 (cej (qy L m))∧At9 w' ae i f t z∧w'.cell? ⟨(ad.add (p*3)).block,(ad.add (p*3)).off+1,none⟩=some (.int .i64 b))) (by kernel_rfl) (SR) (fun hHeld=>?_)
                refine zq 0 (h:=?_)
                refine zq 1 (h:=?_)
                refine zq 2 (h:=?_)
                refine zq 3 (hy:=fun w hSw=>by (try dsimp only at hSw);obtain ⟨-,-,⟨s0,s1,s2⟩,s3⟩:=hSw.o;go_simp;try with_reducible rfl) (h:=?_)
                refine zq 4 (h:=?_)
                refine zq 5 (h:=?_)
                refine zq 6 (h:=?_)
                refine zq 7 (h:=?_)
                refine zq 8 (hy:=fun w hSw=>by (try dsimp only at hSw);obtain ⟨-,-,⟨s0,s1,s2⟩,s3⟩:=hSw.o;go_simp;try with_reducible rfl) (h:=?_)
                refine wpAnyH_ready (rs:=[9]) (by kernel_rfl) (by simp) ?_
                refine AllReadyH.cons rfl (fun K hK=>?_) AllReadyH.nil
                go_simp
                refine (HC1 _).o.mono ?_
                rintro r w7 ⟨rfl,hb⟩
                go_wp2_with fail
                refine hK.out _ _ (zhy ⟨hHeld.o.1.trans (hb.mono hHeld.o.1.size),qb hHeld.o.2.1 hb (Nat.le_refl _),hHeld.o.2.2.1.keep hb,(hb.cell (qi hHeld.o.2.2.2)).trans hHeld.o.2.2.2⟩) (fun hHeld=>?_)
                clear hK K
                (try simp only [Act.put,zg1,zg2,zg3,zg4,zg5,zg6])
                refine zq 10 (h:=?_)
                refine ztk (i:=11) (v:=undef) rfl (by kernel_rfl) (fun _ _ _ h=>h) (Or.inr ⟨by rfl,rfl⟩) (by assumption) ?_
                (try simp only [Act.put,zg1,zg2,zg3,zg4,zg5,zg6])
                refine ztk (i:=12) (v:=undef) rfl (by kernel_rfl) (fun _ _ _ h=>h) (Or.inr ⟨by rfl,rfl⟩) (by assumption) ?_
                (try simp only [Act.put,zg1,zg2,zg3,zg4,zg5,zg6])
                refine ztk (i:=13) (v:=undef) rfl (by kernel_rfl) (fun _ _ _ h=>h) (Or.inr ⟨by rfl,rfl⟩) (by assumption) ?_
                (try simp only [Act.put,zg1,zg2,zg3,zg4,zg5,zg6])
                refine ztk (i:=14) (v:=undef) rfl (by kernel_rfl) (fun _ _ _ h=>h) (Or.inr ⟨by rfl,rfl⟩) (by assumption) ?_
                (try simp only [Act.put,zg1,zg2,zg3,zg4,zg5,zg6])
                refine ztk (i:=15) (v:=undef) rfl (by kernel_rfl) (fun _ _ _ h=>h) (Or.inr ⟨by rfl,rfl⟩) (by assumption) ?_
                (try simp only [Act.put,zg1,zg2,zg3,zg4,zg5,zg6])
                refine ztk (i:=16) (v:=undef) rfl (by kernel_rfl) (fun _ _ _ h=>h) (Or.inr ⟨by rfl,rfl⟩) (by assumption) ?_
                (try simp only [Act.put,zg1,zg2,zg3,zg4,zg5,zg6])
                refine ztk (i:=17) (v:=undef) rfl (by kernel_rfl) (fun _ _ _ h=>h) (Or.inr ⟨by rfl,rfl⟩) (by assumption) ?_
                (try simp only [Act.put,zg1,zg2,zg3,zg4,zg5,zg6])
                refine zq 18 (h:=?_)
                refine wpAnyH_done (by kernel_rfl) ?_ _
                have HBE:=zhy hHeld.o.1
                have HOE:=zhy hHeld.o.2.1
                clear hHeld
                go_wp2_with fail
                go_roundw
                case rel=>exact ⟨i+1,by omega,by go_num,zhy (by rw [List.take_add_one,HX.o,List.all_append,HI.o];simp only [Option.toList_some,List.all_cons,List.all_nil,Bool.and_true,Bool.true_and];exact HNP.o),HOE,HBE⟩
                case measure=>simp [intOf];omega
               | true =>
                cases b2 with
                | true =>
                 have HNP:Hid ((!(wi9 (f,t,z) b&&!wi9 (f,t,z) p))=true):=zhy (by rw [HNP0.o];rfl)
                 go_upto_region 21 with (fail)
                 refine wp_region_held_drew (S:=fun w'=>Hid (Below w.heap.size w w'∧w'.ownsRow w.heap.size 205 3 (.slice (some ae) n1 c1) n1 (cej (qy L m))∧At9 w' ae i f t z∧w'.cell? ⟨(ad.add (p*3)).block,(ad.add (p*3)).off+1,none⟩=some (.int .i64 b))) (by kernel_rfl) (SR) (fun hHeld=>?_)
                 refine zq 0 (h:=?_)
                 refine zq 1 (h:=?_)
                 refine zq 2 (h:=?_)
                 refine zq 3 (hy:=fun w hSw=>by (try dsimp only at hSw);obtain ⟨-,-,⟨s0,s1,s2⟩,s3⟩:=hSw.o;go_simp;try with_reducible rfl) (h:=?_)
                 refine zq 4 (h:=?_)
                 refine zq 5 (h:=?_)
                 refine zq 6 (h:=?_)
                 refine zq 7 (h:=?_)
                 refine zq 8 (hy:=fun w hSw=>by (try dsimp only at hSw);obtain ⟨-,-,⟨s0,s1,s2⟩,s3⟩:=hSw.o;go_simp;try with_reducible rfl) (h:=?_)
                 refine wpAnyH_ready (rs:=[9]) (by kernel_rfl) (by simp) ?_
                 refine AllReadyH.cons rfl (fun K hK=>?_) AllReadyH.nil
                 go_simp
                 refine (HC1 _).o.mono ?_
                 rintro r w7 ⟨rfl,hb⟩
                 go_wp2_with fail
                 refine hK.out _ _ (zhy ⟨hHeld.o.1.trans (hb.mono hHeld.o.1.size),qb hHeld.o.2.1 hb (Nat.le_refl _),hHeld.o.2.2.1.keep hb,(hb.cell (qi hHeld.o.2.2.2)).trans hHeld.o.2.2.2⟩) (fun hHeld=>?_)
                 clear hK K
                 (try simp only [Act.put,zg1,zg2,zg3,zg4,zg5,zg6])
                 refine zq 10 (h:=?_)
                 refine zq 11 (h:=?_)
                 refine zq 12 (h:=?_)
                 refine zq 13 (h:=?_)
                 refine zq 14 (hy:=fun w hSw=>by (try dsimp only at hSw);obtain ⟨-,-,⟨s0,s1,s2⟩,s3⟩:=hSw.o;go_simp;try with_reducible rfl) (h:=?_)
                 refine zq 15 (h:=?_)
                 refine wpAnyH_ready (rs:=[16]) (by kernel_rfl) (by simp) ?_
                 refine AllReadyH.cons rfl (fun K hK=>?_) AllReadyH.nil
                 go_simp
                 refine (HC2 _).o.mono ?_
                 rintro r w7 ⟨rfl,hb⟩
                 go_wp2_with fail
                 refine hK.out _ _ (zhy ⟨hHeld.o.1.trans (hb.mono hHeld.o.1.size),qb hHeld.o.2.1 hb (Nat.le_refl _),hHeld.o.2.2.1.keep hb,(hb.cell (qi hHeld.o.2.2.2)).trans hHeld.o.2.2.2⟩) (fun hHeld=>?_)
                 clear hK K
                 (try simp only [Act.put,zg1,zg2,zg3,zg4,zg5,zg6])
                 refine zq 17 (h:=?_)
                 refine zq 18 (h:=?_)
                 refine wpAnyH_done (by kernel_rfl) ?_ _
                 have HBE:=zhy hHeld.o.1
                 have HOE:=zhy hHeld.o.2.1
                 clear hHeld
                 go_wp2_with fail
                 go_roundw
                 case rel=>exact ⟨i+1,by omega,by go_num,zhy (by rw [List.take_add_one,HX.o,List.all_append,HI.o];simp only [Option.toList_some,List.all_cons,List.all_nil,Bool.and_true,Bool.true_and];exact HNP.o),HOE,HBE⟩
                 case measure=>simp [intOf];omega
                | false =>
                 have HE:Hid (E=90∧FL=[]):=zhy (by
                  rw [←HEF.o.1,←HEF.o.2];refine zdu HCM.o (fun h=>zp8 (by rw [HLm.o];exact hp) (out:=qy L m) ?_ (by have:=h.2.2.2;rwa [HLm.o] at this ⊢));rw [HJ.o,List.all_eq_false.2 ⟨_,List.mem_of_getElem? HX.o,by rw [HNP0.o];simp⟩];simp)
                 go_upto_region 21 with (fail)
                 refine wp_region_held_drew (S:=fun w'=>Hid (Below w.heap.size w w'∧w'.ownsRow w.heap.size 205 3 (.slice (some ae) n1 c1) n1 (cej (qy L m))∧At9 w' ae i f t z∧w'.cell? ⟨(ad.add (p*3)).block,(ad.add (p*3)).off+1,none⟩=some (.int .i64 b))) (by kernel_rfl) (SR) (fun hHeld=>?_)
                 refine zq 0 (h:=?_)
                 refine zq 1 (h:=?_)
                 refine zq 2 (h:=?_)
                 refine zq 3 (hy:=fun w hSw=>by (try dsimp only at hSw);obtain ⟨-,-,⟨s0,s1,s2⟩,s3⟩:=hSw.o;go_simp;try with_reducible rfl) (h:=?_)
                 refine zq 4 (h:=?_)
                 refine zq 5 (h:=?_)
                 refine zq 6 (h:=?_)
                 refine zq 7 (h:=?_)
                 refine zq 8 (hy:=fun w hSw=>by (try dsimp only at hSw);obtain ⟨-,-,⟨s0,s1,s2⟩,s3⟩:=hSw.o;go_simp;try with_reducible rfl) (h:=?_)
                 refine wpAnyH_ready (rs:=[9]) (by kernel_rfl) (by simp) ?_
                 refine AllReadyH.cons rfl (fun K hK=>?_) AllReadyH.nil
                 go_simp
                 refine (HC1 _).o.mono ?_
                 rintro r w7 ⟨rfl,hb⟩
                 go_wp2_with fail
                 refine hK.out _ _ (zhy ⟨hHeld.o.1.trans (hb.mono hHeld.o.1.size),qb hHeld.o.2.1 hb (Nat.le_refl _),hHeld.o.2.2.1.keep hb,(hb.cell (qi hHeld.o.2.2.2)).trans hHeld.o.2.2.2⟩) (fun hHeld=>?_)
                 clear hK K
                 (try simp only [Act.put,zg1,zg2,zg3,zg4,zg5,zg6])
                 refine zq 10 (h:=?_)
                 refine zq 11 (h:=?_)
                 refine zq 12 (h:=?_)
                 refine zq 13 (h:=?_)
                 refine zq 14 (hy:=fun w hSw=>by (try dsimp only at hSw);obtain ⟨-,-,⟨s0,s1,s2⟩,s3⟩:=hSw.o;go_simp;try with_reducible rfl) (h:=?_)
                 refine zq 15 (h:=?_)
                 refine wpAnyH_ready (rs:=[16]) (by kernel_rfl) (by simp) ?_
                 refine AllReadyH.cons rfl (fun K hK=>?_) AllReadyH.nil
                 go_simp
                 refine (HC2 _).o.mono ?_
                 rintro r w7 ⟨rfl,hb⟩
                 go_wp2_with fail
                 refine hK.out _ _ (zhy ⟨hHeld.o.1.trans (hb.mono hHeld.o.1.size),qb hHeld.o.2.1 hb (Nat.le_refl _),hHeld.o.2.2.1.keep hb,(hb.cell (qi hHeld.o.2.2.2)).trans hHeld.o.2.2.2⟩) (fun hHeld=>?_)
                 clear hK K
                 (try simp only [Act.put,zg1,zg2,zg3,zg4,zg5,zg6])
                 refine zq 17 (h:=?_)
                 refine zq 18 (h:=?_)
                 refine wpAnyH_done (by kernel_rfl) ?_ _
                 have HBE:=zhy hHeld.o.1
                 clear hHeld
                 go_wp2_with fail
                 go_ret2
                 exact ⟨none,0,by rw [HE.o.1,HE.o.2];rfl,by rw [HE.o.2];exact World.ownsRow_nil _ _ _ _,HBE.o⟩
              ·obtain rfl:n1=i:=by omega
               have HP2:Hid ((List.range (p+1)).all (jp9 L (qy L m))=true):=zhy (by
                have h:=HI.o;rw [List.take_of_length_le (by rw [←HN1.o];exact Nat.le_refl _)] at h;rw [List.range_succ,List.all_append,HP.o];simp only [List.all_cons,List.all_nil,Bool.and_true,Bool.true_and];rw [HJ.o,h,decide_eq_true (by omega),decide_eq_true (by omega)];rfl)
               go_wp2_with fail
               go_roundw
               case rel=>exact ⟨p+1,by omega,by go_num,HP2,HOW,HB⟩
               case measure=>simp [intOf];omega
         ·have e26:(o != 26)=true:=by simp;omega
          have e27:(o != 27)=true:=by simp;omega
          have HP2:Hid ((List.range (p+1)).all (jp9 L (qy L m))=true):=zhy (by
           rw [List.range_succ,List.all_append,HP.o];simp only [List.all_cons,List.all_nil,Bool.and_true,Bool.true_and];rw [jp9,HXO.o.1,if_neg hj])
          go_wp2_with fail
          go_roundw
          case rel=>exact ⟨p+1,by omega,by go_num,HP2,HOW,HB⟩
          case measure=>simp [intOf];omega
        ·obtain rfl:m=p:=by omega
         have HE:Hid (E=0∧FL=qy L m):=zhy (by
          rw [←HEF.o.1,←HEF.o.2];have h:=zy7 HCM.o ⟨HOK.o,by rw [HLm.o];exact HNS.o,by rw [HLA.o];simp,by rw [HLm.o];exact HP.o⟩;rwa [HLm.o] at h)
         go_wp2_with fail
         go_ret2
         exact ⟨A1,c1,by rw [HE.o.1,HE.o.2,←HN1.o];rfl,by rw [HE.o.2,←HN1.o];exact HOW.o,HB.o⟩
     ·have HE:Hid (E=90∧FL=[]):=zhy (by
       rw [←HEF.o.1,←HEF.o.2];exact zdu HCM.o (fun h=>hla (by rw [←HLA.o];exact h.2.2.1)))
      have e31:(o != 31)=true:=by simp;omega
      have e32:(o != 32)=true:=by simp;omega
      go_wp2_with fail;refine (HNE _ (Below.refl _ _)).o.mono ?_;rintro r w3 ⟨rfl,hb⟩;have HB3:=zhy (HB2.o.trans (hb.mono HB2.o.size));clear hb k1;go_wp2_with fail;go_ret2;exact ⟨none,0,by rw [HE.o.1,HE.o.2];rfl,by rw [HE.o.2];exact World.ownsRow_nil _ _ _ _,HB3.o⟩
theorem zpu (A:Option Addr) (c m:Nat) (L:List Ins) (w:World) (hr:Ri w A c L) (hm:L.length=m) :
  Calls Tryz.prog 130 #[.slice A m c] w fun r w'=>∃A' c',r=.returned (.tuple #[.slice A' (zea L).length c',.int .i64 (jc L)])∧w'.ownsRow w.heap.size 3 1 (.slice A' (zea L).length c') (zea L).length (ci9 (zea L))∧Below w.heap.size w w':=by
 have HLm:=zhy hm;have HR:=zhy hr;have HLO:=zhy (zft A c m L w hr hm);clear hr hm;obtain ⟨E,hE⟩:∃e,jc L=e:=⟨_,rfl⟩;obtain ⟨FL,hFL⟩:∃x,zcu L=x:=⟨_,rfl⟩;obtain ⟨T,hT⟩:∃t,zea L=t:=⟨_,rfl⟩;have HEF:=zhy (show jc L=E∧zcu L=FL∧zea L=T from ⟨hE,hFL,hT⟩);rw [hE,hFL] at HLO;rw [hE,hT];clear hE hFL hT;go_enter Tryz.func130,Tryz.ntmps130;go_wp2_with fail;refine HLO.o.mono ?_;rintro r w1 ⟨A1,c1,rfl,ho,hb⟩;have HO1:=zhy ho;have HB1:=zhy hb;clear HLO ho hb;by_cases h0:E=0
 ·subst h0;have hE0:=HEF.o.1
  have HT:Hid (T=(List.range m).map (tm9 FL)∧FL=qy L L.length):=zhy (by
   have h1:=HEF.o.2.1;have h2:=HEF.o.2.2;rw [zcu,if_pos hE0] at h1;rw [zea,if_pos hE0,h1,HLm.o] at h2;exact ⟨h2.symm,h1.symm⟩)
  have HWl:Hid (Wl9 L FL):=zhy (by rw [HT.o.2];exact wl9 hE0)
  have HBD:Hid (∀p,p<m→∀i,1≤tm9 (FL.take i) p∧tm9 (FL.take i) p≤100000000):=zhy fun p hp i=>by
   rw [HT.o.2];exact zwr hE0 (by rw [HLm.o];exact hp) i
  have hm2:m≤200:=by have:=(qw (za hE0).1).2.1;rw [HLm.o] at this;exact this
  obtain ⟨n,hn⟩:∃n,FL.length=n:=⟨_,rfl⟩;rw [hn] at HO1 ⊢;have HN:=zhy hn;have hnl:n≤9223372036854775807:=by have:=(Rj.of_own HO1.o (fun _ _=>trivial)).1.len;omega
  have HRJ:Hid (∀w',Below w1.heap.size w1 w'→Rj w' A1 c1 FL):=zhy fun w' hb=>(Rj.of_own HO1.o (fun _ _=>trivial)).1.keep hb;have HTL:Hid (T.length=m):=zhy (by rw [HT.o.1];simp);clear hE0 hn;go_wp2_with fail;go_loopw [6,7] (fun ov pv wq=>∃(p c2:Nat) (A2:Option Addr),p≤m∧pv=.int .i64 p∧ov=.slice A2 p c2∧Hid (wq.ownsRow w1.heap.size 3 1 (.slice A2 p c2) p (ci9 (T.take p)))∧Hid (Below w1.heap.size w1 wq)) (fun _ pv _=>m-(intOf pv).toNat)
  case atStart=>exact ⟨0,0,none,by omega,rfl,rfl,zhy (World.ownsRow_nil _ _ _ _),zhy (Below.refl _ _)⟩
  case round =>
   obtain ⟨p,c2,A2,hp,rfl,rfl,HO,HB⟩:=hrel;by_cases h1:p<m
   ·go_wp2_with fail;go_loopw [8,9] (fun nv iv wq=>∃(i:Nat) (v:Int),i≤n∧iv=.int .i64 i∧nv=.int .i64 v∧Hid (v=tm9 (FL.take i) p)∧(1≤v∧v≤100000000)∧Hid (wq.ownsRow w1.heap.size 3 1 (.slice A2 p c2) p (ci9 (T.take p)))∧Hid (Below w1.heap.size w1 wq)) (fun _ iv _=>n-(intOf iv).toNat)
    case atStart=>exact ⟨0,1,by omega,rfl,rfl,zhy (by simp [tm9,lq9]),by omega,HO,HB⟩
    case round =>
     clear HO HB;obtain ⟨i,v,hi,rfl,rfl,HV,hvb,HO,HB⟩:=hrel;by_cases h2:i<n
     ·obtain ⟨⟨f,t,z⟩,hx⟩:∃x,FL[i]?=some x:=⟨_,zg7 (by rw [HN.o];exact h2)⟩;have hst:=zey (p:=p) hx;have hbd:=HBD.o p h1 (i+1);obtain ⟨ad,hA,k1,k2,k3⟩:=(HRJ.o _ HB.o).cl9 hx;have HCL:Hid (∀w',Below wr.heap.size wr w'→w'.cell? ⟨(ad.add (i*3)).block,(ad.add (i*3)).off+2,none⟩=some (.int .i64 z)):=zhy fun w' hb=>(hb.cell (qi k3)).trans k3;subst hA;have HWI:=zhy (zbc f t p z wr);have hwi:wi9 (f,t,z) p=(decide (f<p)&&decide (p≤t)):=rfl;rw [hwi] at hst;generalize (decide (f<p)&&decide (p≤t))=b at HWI hst;clear hx hwi;cases b with
      | false =>
       have HV2:Hid (v=tm9 (FL.take (i+1)) p):=zhy (by rw [hst,HV.o];rfl);clear hst hbd;go_wp2_with fail;refine HWI.o.mono ?_;rintro r w4 ⟨rfl,hb⟩;have HO4:=zhy (qb HO.o hb (Nat.le_refl _));have HB4:=zhy (qc HB.o hb);clear hb k1 k2 k3;go_wp2_with fail;go_roundw
       case rel=>exact ⟨i+1,v,by omega,by go_num,rfl,HV2,hvb,HO4,HB4⟩
       case measure=>simp [intOf];omega
      | true =>
       rw [if_pos rfl,←HV.o] at hst;obtain ⟨y,hy⟩:∃y,v*z=y:=⟨_,rfl⟩;have HV2:Hid (y=tm9 (FL.take (i+1)) p):=zhy (by rw [hst,←hy]);rw [hst] at hbd;simp only at hbd;rw [hy] at hbd
       have hwr:IntKind.i64.wrap (v*z)=y:=by
        rw [hy];simp [IntKind.wrap,IntKind.signed,IntKind.bits,go_sem];omega
       clear hst hy;go_wp2_with fail;refine HWI.o.mono ?_;rintro r w4 ⟨rfl,hb⟩;have HO4:=zhy (qb HO.o hb (Nat.le_refl _));have HB4:=zhy (qc HB.o hb);have k4:=HCL.o _ hb;clear hb k1 k2 k3;go_wp2_with fail;go_roundw
       case rel=>exact ⟨i+1,y,by omega,by go_num,rfl,HV2,hbd,HO4,HB4⟩
       case measure=>simp [intOf];omega
     ·obtain rfl:n=i:=by omega
      have HTP:Hid (T.take (p+1)=T.take p++[v]):=zhy (by
       have h:T[p]?=some v:=by
        rw [HT.o.1,List.getElem?_map,List.getElem?_range h1,Option.map_some,HV.o,List.take_of_length_le (by rw [HN.o];exact Nat.le_refl _)]
       rw [List.take_add_one,h];rfl)
      go_wp2_with (at_builtin;refine jl _ rfl (.tmp 43) (.tmp 45) rfl w1.heap.size _ p (T.take p) rfl (HO.o.alloc _) _ 1 1 [v] rfl (zlv wr v) rfl (by omega) (by have:=HB.o.size;simp;omega) ?_);rintro A6 c6 w6 ho hb;have HO6:Hid (w6.ownsRow w1.heap.size 3 1 (.slice A6 (p+1) c6) (p+1) (ci9 (T.take (p+1)))):=zhy (by rw [HTP.o];exact ho);have HB6:Hid (Below w1.heap.size w1 w6):=zhy (HB.o.trans ((qh.mono HB.o.size).trans hb));clear ho hb HTP;go_wp2_with fail;go_roundw
      case rel=>exact ⟨p+1,c6,A6,by omega,by go_num,rfl,HO6,HB6⟩
      case measure=>simp [intOf];omega
   ·obtain rfl:p=m:=by omega
    have HOW:Hid (wr.ownsRow w.heap.size 3 1 (.slice A2 p c2) p (ci9 T)):=zhy (by
     have h:=qb HO.o (Below.refl _ _) HB1.o.size;rwa [List.take_of_length_le (by rw [HTL.o];exact Nat.le_refl _)] at h)
    have HBW:Hid (Below w.heap.size w wr):=zhy (qc HB1.o HB.o);go_wp2_with fail;go_ret2;exact ⟨A2,c2,by rw [HTL.o];rfl,by rw [HTL.o];exact HOW.o,HBW.o⟩
 ·have hne:(E != 0)=true:=by simpa using h0
  have HN:Hid (T=[]):=zhy (by rw [←HEF.o.2.2,zea,if_neg (by rw [HEF.o.1];exact h0)]);go_wp2_with fail;go_ret2;exact ⟨none,0,by rw [HN.o];rfl,by rw [HN.o];exact World.ownsRow_nil _ _ _ _,HB1.o⟩
theorem zsu (A:Option Addr) (c m:Nat) (L:List Ins) (a:Int) (w:World) (hr:Ri w A c L) (hm:L.length=m) :
  Calls Tryz.prog 75 #[.slice A m c,.int .i64 a] w fun r w'=>∃A' c',r=.returned (.tuple #[.slice A' (zd2 L a).1.length c',.int .i64 (zd2 L a).2])∧w'.ownsRow w.heap.size 3 1 (.slice A' (zd2 L a).1.length c') (zd2 L a).1.length (ci9 (zd2 L a).1)∧Below w.heap.size w w':=by
 have HLm:=zhy hm;have HR:=zhy hr;have hml:m≤9223372036854775807:=by have:=hr.len;omega
 have HLO:=zhy (zft A c m L w hr hm);clear hr hm;obtain ⟨E,hE⟩:∃e,jc L=e:=⟨_,rfl⟩;obtain ⟨FL,hFL⟩:∃x,zcu L=x:=⟨_,rfl⟩;obtain ⟨FW,hFW⟩:∃x,zd2 L a=x:=⟨_,rfl⟩;have HEF:=zhy (show jc L=E∧zd2 L a=FW from ⟨hE,hFW⟩);rw [hE,hFL] at HLO;rw [hFW];clear hE hFW hFL;go_enter Tryz.func75,Tryz.ntmps75;go_wp2_with fail;refine HLO.o.mono ?_;rintro r w1 ⟨A1,c1,rfl,-,hb⟩;have HB1:=zhy hb;clear HLO hb;by_cases h0:E=0
 ·subst h0;have hE0:=HEF.o.1;by_cases ha:a<0
  ·have HF:Hid (FW=([],2)):=zhy (by rw [←HEF.o.2,zd2,if_pos hE0,if_pos (.inl ha)]);clear hE0;go_wp2_with fail;go_ret2;exact ⟨none,0,by rw [HF.o];rfl,by rw [HF.o];exact World.ownsRow_nil _ _ _ _,HB1.o⟩
  by_cases ham:(m:Int)≤a
  ·have HF:Hid (FW=([],2)):=zhy (by rw [←HEF.o.2,zd2,if_pos hE0,if_pos (.inr (by rw [HLm.o];exact ham))]);clear hE0;go_wp2_with fail;go_ret2;exact ⟨none,0,by rw [HF.o];rfl,by rw [HF.o];exact World.ownsRow_nil _ _ _ _,HB1.o⟩
  obtain ⟨p,rfl⟩:∃p:Nat,a=p:=⟨a.toNat,by omega⟩;have hpm:p<m:=by omega
  have HF:Hid (FW=(wy9 L p,0)):=zhy (by rw [←HEF.o.2,zd2,if_pos hE0,if_neg (by rw [HLm.o];omega),Int.toNat_natCast]);have hm2:m≤200:=by have:=(qw (za hE0).1).2.1;rw [HLm.o] at this;exact this
  obtain ⟨⟨o,b,z⟩,hx⟩:∃x,L[p]?=some x:=⟨_,zg7 (by rw [HLm.o];exact hpm)⟩;have HXO:Hid (iO9 L p=o∧iA9 L p=b):=zhy ⟨by simp [iO9,hx],by simp [iA9,hx]⟩
  have hb0:0≤b∧b≤1000000:=by
   have h1:=(qw (za hE0).1).2.2 _ (List.mem_of_getElem? hx);have h2:=zgl h1;simp at h2;omega
  obtain ⟨ad,hA,k1,k2,k3⟩:=(HR.o.keep HB1.o).cl9 hx;subst hA;clear hx hE0 ha ham;by_cases h31:o=31
  ·subst h31;have HF2:Hid (FW=([],0)):=zhy (by rw [HF.o,wy9,HXO.o.1,HXO.o.2];rw [if_pos (.inl rfl)]);go_wp2_with fail;go_ret2;exact ⟨none,0,by rw [HF2.o];rfl,by rw [HF2.o];exact World.ownsRow_nil _ _ _ _,HB1.o⟩
  by_cases h32:o=32
  ·subst h32;have HF2:Hid (FW=([],0)):=zhy (by rw [HF.o,wy9,HXO.o.1,HXO.o.2];rw [if_pos (.inr rfl)]);go_wp2_with fail;go_ret2;exact ⟨none,0,by rw [HF2.o];rfl,by rw [HF2.o];exact World.ownsRow_nil _ _ _ _,HB1.o⟩
  by_cases h26:o=26
  ·subst h26;have HF2:Hid (FW=([b],0)):=zhy (by rw [HF.o,wy9,HXO.o.1,HXO.o.2];rw [if_neg (by omega),if_pos rfl]);go_wp2_with fail;go_ret2;exact ⟨some ⟨w1.heap.size,0,none⟩,1,by rw [HF2.o];rfl,by rw [HF2.o];exact World.ownsRow_lit w1 #[.int .i64 b] 1 HB1.o.size (by unfold maxLen;omega) rfl,HB1.o.trans (qh.mono HB1.o.size)⟩
  by_cases h27:o=27
  ·subst h27;by_cases hb:b=p+1
   ·subst hb;have HF2:Hid (FW=([((p:Int)+1)],0)):=zhy (by rw [HF.o,wy9,HXO.o.1,HXO.o.2];rw [if_neg (by omega),if_neg (by omega),if_pos rfl,if_pos rfl]);go_wp2_with fail;go_ret2;exact ⟨some ⟨w1.heap.size,0,none⟩,1,by rw [HF2.o];rfl,by rw [HF2.o];exact World.ownsRow_lit w1 #[.int .i64 ((p:Int)+1)] 1 HB1.o.size (by unfold maxLen;omega) rfl,HB1.o.trans (qh.mono HB1.o.size)⟩
   ·have hbn:(b==(p:Int)+1)=false:=by simpa using hb
    have HF2:Hid (FW=([((p:Int)+1),b],0)):=zhy (by rw [HF.o,wy9,HXO.o.1,HXO.o.2];rw [if_neg (by omega),if_neg (by omega),if_pos rfl,if_neg hb]);go_wp2_with fail;go_ret2;exact ⟨some ⟨w1.heap.size,0,none⟩,2,by rw [HF2.o];rfl,by rw [HF2.o];exact World.ownsRow_lit w1 #[.int .i64 ((p:Int)+1),.int .i64 b] 2 HB1.o.size (by unfold maxLen;omega) rfl,HB1.o.trans (qh.mono HB1.o.size)⟩
  by_cases h29:o=29
  ·subst h29;have HF2:Hid (FW=([(b+1),((p:Int)+1)],0)):=zhy (by rw [HF.o,wy9,HXO.o.1,HXO.o.2];rw [if_neg (by omega),if_neg (by omega),if_neg (by omega),if_pos rfl]);go_wp2_with fail;go_ret2;exact ⟨some ⟨w1.heap.size,0,none⟩,2,by rw [HF2.o];rfl,by rw [HF2.o];exact World.ownsRow_lit w1 #[.int .i64 (b+1),.int .i64 ((p:Int)+1)] 2 HB1.o.size (by unfold maxLen;omega) rfl,HB1.o.trans (qh.mono HB1.o.size)⟩
  have e31:(o==31)=false:=by simpa using h31
  have e32:(o==32)=false:=by simpa using h32
  have e26:(o==26)=false:=by simpa using h26
  have e27:(o==27)=false:=by simpa using h27
  have e29:(o==29)=false:=by simpa using h29
  have HF2:Hid (FW=([((p:Int)+1)],0)):=zhy (by rw [HF.o,wy9,HXO.o.1,HXO.o.2];rw [if_neg (by omega),if_neg h26,if_neg h27,if_neg h29]);go_wp2_with fail;go_ret2;exact ⟨some ⟨w1.heap.size,0,none⟩,1,by rw [HF2.o];rfl,by rw [HF2.o];exact World.ownsRow_lit w1 #[.int .i64 ((p:Int)+1)] 1 HB1.o.size (by unfold maxLen;omega) rfl,HB1.o.trans (qh.mono HB1.o.size)⟩
 ·have hne:(E != 0)=true:=by simpa using h0
  have HF:Hid (FW=([],E)):=zhy (by rw [←HEF.o.2,zd2,if_neg (by rw [HEF.o.1];exact h0),HEF.o.1]);go_wp2_with fail;go_ret2;exact ⟨none,0,by rw [HF.o];rfl,by rw [HF.o];exact World.ownsRow_nil _ _ _ _,HB1.o⟩
end Go.Proofs.YtnjgkkoiamiaaaaGreatDoor
