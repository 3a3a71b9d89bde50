import Derived.Test.YtnjgkkoiamiaaaaGreatDoorVta1
import Derived.Test.YtnjgkkoiamiaaaaGreatDoorVta17
set_option maxRecDepth 100000
set_option maxHeartbeats 16000000
set_option linter.unusedSimpArgs false
set_option linter.unusedVariables false
namespace Go.Proofs.YtnjgkkoiamiaaaaGreatDoor
open Go.RowKit
section
open Go.RowKit Go.Maps
section
variable {e : Nat → Nat → Bool} {n k t i : Nat} {o : List Nat}
abbrev zjw (e:Nat→Nat→Bool) (n k:Nat):List Nat:=(List.range n).filter fun t=>e t k
def zfx (n:Nat) (o:List Nat) (t:Nat):Bool:=decide (t<n)&&!o.contains t
def zuf (e:Nat→Nat→Bool) (n:Nat) (o:List Nat) (t:Nat):Prop:=t<n∧zih e n o t=true
def zji (e:Nat→Nat→Bool) (n k:Nat) (o:List Nat) (i t:Nat):Int:=(zdg e n o t:Int)-if ((zjw e n k).take i).contains t then 1 else 0
def zkf (e:Nat→Nat→Bool) (n k:Nat) (o:List Nat) (i t:Nat):Prop:=(zuf e n o t∧(t:Int)≠k)∨(t∈(zjw e n k).take i∧zdg e n (o++[k]) t=0)
theorem zbm:zfx n o t=true↔t<n∧t∉o:=by
 rw [zfx,Bool.and_eq_true,decide_eq_true_eq,Bool.not_eq_true',←Bool.not_eq_true,List.contains_iff_mem]
theorem zb6:zfx n (o++[k]) t=true↔zfx n o t=true∧t≠k:=by
 rw [zbm,zbm,List.mem_append,List.mem_singleton];exact ⟨fun ⟨h1,h2⟩=>⟨⟨h1,fun h=>h2 (.inl h)⟩,fun h=>h2 (.inr h)⟩,fun ⟨⟨h1,h2⟩,h3⟩=>⟨h1,fun h=>h.elim h2 h3⟩⟩
theorem zcy:t∈zjw e n k↔t<n∧e t k=true:=by rw [List.mem_filter,List.mem_range]
theorem zvz (ht:(zjw e n k)[i]?=some t):t∉(zjw e n k).take i:=by
 intro hm;have hl:=(zg8.1 ht).1;obtain ⟨j,hj⟩:=List.getElem?_of_mem hm;have hj1:=(zg8.1 hj).1;rw [List.length_take] at hj1;rw [List.getElem?_take_of_lt (by omega)] at hj;have hp:(zjw e n k).Pairwise (·<·):=zgw (fun t=>e t k) n;have:=List.pairwise_iff_getElem.1 hp j i (by omega) hl (by omega);rw [(zg8.1 ht).2,(zg8.1 hj).2] at this;omega
theorem zcc {l:List Nat} (ht:l[i]?=some t) {j:Nat}:j∈l.take (i+1)↔j∈l.take i∨j=t:=by
 rw [List.take_add_one,ht,List.mem_append];simp
structure zf5 (e:Nat→Nat→Bool) (n:Nat) (o:List Nat) (k:Nat):Prop where
 ok:zm1 e n o
 lt:k<n
 nx:zna e n o=some k
theorem zf5.nin (h:zf5 e n o k):k∉o:=(zff h.nx).2.1
theorem zf5.all (h:zf5 e n o k):∀j,j<n→e k j=true→j∈o:=(zff h.nx).2.2.1
theorem zf5.caller (h:zf5 e n o k) (ht:e t k=true):t∉o∧t≠k:=by
 refine ⟨fun hm=>?_,fun hk=>?_⟩
 ·obtain ⟨i,hi⟩:=List.getElem?_of_mem hm;obtain ⟨m,_,hm⟩:=h.ok.be i t hi k h.lt ht;exact h.nin (List.mem_of_getElem? hm)
 ·subst hk;exact h.nin (h.all _ h.lt ht)
theorem zf5.len (h:zf5 e n o k):o.length<n:=by
 have h1:=zh0 (l:=qx (k::o)) (k:=qx (List.range n)) ?_ ?_
 ·rw [qx,List.length_map,qx,List.length_map,List.length_range,List.length_cons] at h1;omega
 ·rw [qx];have hnd:(k::o).Nodup:=List.nodup_cons.2 ⟨h.nin,h.ok.nd⟩;rw [List.Nodup,List.pairwise_map];exact hnd.imp fun h e=>h (by omega)
 ·intro x hx;rw [qx,List.mem_map] at hx ⊢;obtain ⟨j,hj,rfl⟩:=hx;refine ⟨j,List.mem_range.2 ?_,rfl⟩;rcases List.mem_cons.1 hj with rfl | hj
  ·exact h.lt
  ·exact h.ok.lt j hj
theorem zf5.step (h:zf5 e n o k) (ht:(zjw e n k)[i]?=some t):t<n∧e t k=true∧zfx n (o++[k]) t=true∧zji e n k o i t=zdg e n (o++[k]) t+1∧zji e n k o (i+1) t=zdg e n (o++[k]) t∧¬zkf e n k o i t:=by
 obtain ⟨h1,h2⟩:=zcy.1 (List.mem_of_getElem? ht);obtain ⟨h3,h4⟩:=h.caller h2;have hn:=zvz ht;have hcn:=zj8 (e:=e) (n:=n) (o:=o) (t:=t) h.lt h.nin;rw [if_pos h2] at hcn;refine ⟨h1,h2,zb6.2 ⟨zbm.2 ⟨h1,h3⟩,h4⟩,?_,?_,fun hs=>?_⟩
 ·rw [zji,if_neg (by rw [List.contains_iff_mem];exact hn),hcn];omega
 ·rw [zji,if_pos (by rw [List.contains_iff_mem];exact (zcc ht).2 (.inr rfl)),hcn];omega
 ·rcases hs with ⟨⟨_,hr⟩,_⟩ | ⟨hs,_⟩
  ·exact h.nin ((zbo.1 hr).2 k h.lt h2)
  ·exact hn hs
theorem zf5.fi_other (h:zf5 e n o k) (ht:(zjw e n k)[i]?=some t) {j:Nat} (hj:j≠t):zji e n k o (i+1) j=zji e n k o i j:=by
 rw [zji,zji];congr 1
 have:((zjw e n k).take (i+1)).contains j=((zjw e n k).take i).contains j:=by
  rw [Bool.eq_iff_iff,List.contains_iff_mem,List.contains_iff_mem,zcc ht];exact ⟨fun h=>h.resolve_right hj,.inl⟩
 rw [this]
theorem zf5.si_zero (h:zf5 e n o k) (ht:(zjw e n k)[i]?=some t) (hc:zdg e n (o++[k]) t=0) (j:Nat):(zkf e n k o i j∨j=t)↔zkf e n k o (i+1) j:=by
 rw [zkf,zkf,zcc ht];constructor
 ·rintro ((h1 | ⟨h1,h2⟩) | rfl)
  ·exact .inl h1
  ·exact .inr ⟨.inl h1,h2⟩
  ·exact .inr ⟨.inr rfl,hc⟩
 ·rintro (h1 | ⟨h1 | h1,h2⟩)
  ·exact .inl (.inl h1)
  ·exact .inl (.inr ⟨h1,h2⟩)
  ·exact .inr h1
theorem zf5.si_more (h:zf5 e n o k) (ht:(zjw e n k)[i]?=some t) (hc:zdg e n (o++[k]) t≠0) (j:Nat):zkf e n k o i j↔zkf e n k o (i+1) j:=by
 rw [zkf,zkf,zcc ht];constructor
 ·rintro (h1 | ⟨h1,h2⟩)
  ·exact .inl h1
  ·exact .inr ⟨.inl h1,h2⟩
 ·rintro (h1 | ⟨h1 | h1,h2⟩)
  ·exact .inl h1
  ·exact .inr ⟨h1,h2⟩
  ·subst h1;exact absurd h2 hc
theorem zf5.fi_end (h:zf5 e n o k) (hi:(zjw e n k).length≤i) {j:Nat} (hj:zfx n (o++[k]) j=true):zji e n k o i j=zdg e n (o++[k]) j:=by
 have hcn:=zj8 (e:=e) (n:=n) (o:=o) (t:=j) h.lt h.nin;have hjn:=(zbm.1 hj).1;rw [zji,List.take_of_length_le hi];cases he:e j k with
 | true =>
  rw [if_pos (by rw [List.contains_iff_mem,zcy];exact ⟨hjn,he⟩)];rw [he,if_pos rfl] at hcn;omega
 | false =>
  rw [if_neg (by rw [List.contains_iff_mem,zcy,he];simp)];rw [he,if_neg (by simp)] at hcn;omega
theorem zf5.si_end (h:zf5 e n o k) (hi:(zjw e n k).length≤i) (j:Nat):zkf e n k o i j↔zuf e n (o++[k]) j:=by
 rw [zkf,List.take_of_length_le hi,zcy,zuf,zuf];constructor
 ·rintro (⟨⟨h1,h2⟩,h3⟩ | ⟨⟨h1,h2⟩,h3⟩)
  ·have h4:=zbo.1 h2;refine ⟨h1,zbo.2 ⟨fun hm=>?_,fun q hq he=>List.mem_append_left _ (h4.2 q hq he)⟩⟩;rcases List.mem_append.1 hm with hm | hm
   ·exact h4.1 hm
   ·rw [List.mem_singleton] at hm;omega
  ·obtain ⟨h4,h5⟩:=h.caller h2;refine ⟨h1,?_⟩;rw [zlo (fun hm=>?_),h3]
   ·rfl
   ·rcases List.mem_append.1 hm with hm | hm
    ·exact h4 hm
    ·exact h5 (List.mem_singleton.1 hm)
 ·rintro ⟨h1,h2⟩;have h4:=zbo.1 h2;have hjo:j∉o:=fun hm=>h4.1 (List.mem_append_left _ hm);have hjk:j≠k:=fun hm=>h4.1 (List.mem_append_right _ (List.mem_singleton.2 hm));cases he:e j k with
  | true =>
   rw [zlo h4.1,beq_iff_eq] at h2;exact .inr ⟨⟨h1,rfl⟩,h2⟩
  | false =>
   refine .inl ⟨⟨h1,zbo.2 ⟨hjo,fun q hq hqe=>?_⟩⟩,by omega⟩;rcases List.mem_append.1 (h4.2 q hq hqe) with hm | hm
   ·exact hm
   ·rw [List.mem_singleton] at hm;subst hm;rw [he] at hqe;cases hqe
end
theorem zi3.fr {X:Nat→Prop} {w w':World} {base c:Nat} {A:Option Addr} {Z:List Gz} (h:zi3 w base A c Z) (hf:zv X w w') (hX:∀j,base≤j→¬X j):zi3 w' base A c Z:=
 ⟨hf.own h.row fun g hg=>hX g (h.row.lt g hg).1,fun z hz=>hf.own (h.each z hz) fun g hg=>hX g ((h.each z hz).lt g hg).1⟩
def zyd (e:Nat→Nat→Bool) (n:Nat):List Int×Int:=match zly e n with
 | some o=>(qx o,0)
 | none=>([],110)
theorem zu3 {e:Nat→Nat→Bool} {n t:Nat}:zdg e n [] t=((List.range n).filter (e t)).length:=by
 rw [zdg,←zhq];exact zca fun j _=>by simp
theorem qc8 (B:Nat) (w:World):(Instr.makeInterface 237 (.pointer (some ⟨B,0,none⟩))).run Tryz.prog w=.ok (.iface 237 (.pointer (some ⟨B,0,none⟩))) w:=by kernel_rfl
theorem zyy (A:Option Addr) (c n:Nat) (Z:List Gz) (e:Nat→Nat→Bool) (w:World) (hg:zu2 w A c Z) (hz:Z.map (·.2.2)=zfo e n) (hn:n≤1000) :
  Calls Tryz.prog 98 #[.slice A n c] w fun r w'=>zgf w w' (zyd e n) r:=by
 have hzl:Z.length=n:=by have:=congrArg List.length hz;simpa [zfo] using this
 have HG:=zhy hg;have HZ:=zhy hz;have HZL:=zhy hzl;obtain ⟨T,hT⟩:∃T,zyd e n=T:=⟨_,rfl⟩;have HT:=zhy hT;rw [hT];clear hg hz hzl hT;obtain ⟨M,hM⟩:∃M,w.heap.size=M:=⟨_,rfl⟩;have HM:=zhy hM;have hmm:=@run_makeMap Tryz.prog;go_enter Tryz.func98,Tryz.ntmps98;go_wp2_with fail;obtain ⟨B,hB⟩:∃B,M+1=B:=⟨_,rfl⟩;have HBM:=zhy hB;rw [hB];have hs0:((w.alloc (.map #[] 0)).alloc (.cells #[.slice none 0 0] 240)).heap.size=M+2:=by rw [qn,qn,hM]
 have HMo0:Hid (zon ((w.alloc (.map #[] 0)).alloc (.cells #[.slice none 0 0] 240)) M (.map [])):=zhy (by
  have:=(World.ownsMap_made (H:=Unit) w Tryz.prog 3 (plainElem Tryz.prog 3)).alloc (.cells #[.slice none 0 0] 240);rw [hM] at this;exact zon.of this)
 have HHx0:Hid (ze0 ((w.alloc (.map #[] 0)).alloc (.cells #[.slice none 0 0] 240)) (M+2) B none 0 [] fun t=>t<0∧zdg e n [] t=0):=zhy ⟨⟨by
  have:=Boxed.new (w.alloc (.map #[] 0)) 240 (.slice none 0 0);rw [qn,hM,hB] at this;exact this,World.ownsRow_nil _ _ _ _⟩,List.nodup_nil,fun i h0 hi=>(by cases hi),fun x=>⟨fun h=>(by cases h),fun ⟨t,h,_⟩=>(by omega)⟩⟩
 have HBe0:Hid (Below M w ((w.alloc (.map #[] 0)).alloc (.cells #[.slice none 0 0] 240))):=zhy (((Below.refl M w).alloc (by omega) _).alloc (by rw [qn];omega) _);generalize (w.alloc (.map #[] 0)).alloc (.cells #[.slice none 0 0] 240)=w1 at HMo0 HHx0 HBe0 hs0 ⊢;clear hM hB hmm;have hmi:=qc8 B;go_loopw [18] (fun iv wr=>∃(k:Nat) (D:DataW Unit) (A:Option Addr) (c:Nat) (l:List Int),k≤n∧iv=.int .i64 k∧Hid (zon wr M D)∧Hid (zkb D n fun t=>decide (t<k))∧Hid (zol D (fun t=>decide (t<k)) fun t=>zdg e n [] t)∧Hid (ze0 wr (M+2) B A c l fun t=>t<k∧zdg e n [] t=0)∧Hid (Below M w wr)∧M+2≤wr.heap.size) (fun iv _=>n-(intOf iv).toNat)
 case atStart=>exact ⟨0,_,_,_,_,by omega,rfl,HMo0,zhy (by simpa using zkb.nil (H:=Unit) n),zhy (fun t ht=>by simp at ht),HHx0,HBe0,by omega⟩
 case round =>
  clear HMo0 HHx0 HBe0 hs0;obtain ⟨k,D,A1,c1,l1,hk,rfl,HMo,HMf,HAt,HHx,HBe,hsz⟩:=hrel;rename World=>wr;by_cases h1:k<n
  ·obtain ⟨⟨Ak,ck,K⟩,hzk,hKE⟩:=zcb HZL.o HZ.o h1;dsimp only at hKE;obtain ⟨ad,hA,y0,hrk⟩:=(HG.o.keep (by rw [HM.o];exact HBe.o)).at_ hzk;subst hA;rw [zbr] at y0;dsimp only at y0 hrk;obtain ⟨kn,hkn⟩:∃kn,K.length=kn:=⟨_,rfl⟩;rw [hkn] at y0;have hkn9:kn≤n:=by rw [←hkn,hKE];exact zal _ _
   have HCN:Hid (zdg e n [] k=kn):=zhy (by rw [zu3,←hkn,hKE,qx,List.length_map])
   have HSZ:Hid (size D≤n):=zhy (by
    rw [HMf.o.size,zhq];have:=List.length_filter_le (fun t=>decide (t<k)) (List.range n);rwa [List.length_range] at this)
   clear hrk hzk hkn hKE;have HMf2:Hid (zkb (D.put (zc4 k) (.lit (.int .i64 kn))) n fun t=>decide (t<k+1)):=zhy (HMf.o.put h1 _ (by simp) fun j hj=>by simp;omega);have HAt2:Hid (zol (D.put (zc4 k) (.lit (.int .i64 kn))) (fun t=>decide (t<k+1)) fun t=>zdg e n [] t):=zhy (HAt.o.put HMf.o (by rw [HCN.o]) fun j hj hq=>⟨by simp at hq ⊢;omega,rfl⟩);by_cases hk0:kn=0
   ·have hb0:((kn:Int)==0)=true:=by simp;omega
    have HK0:=zhy hk0;clear hk0;go_wp2_with (at_mapUpdate;refine wpList_mapUpdate_own _ rfl _ _ _ 236 rfl 3 3 znc Tryz.underlying236 _ M (size D) D rfl HMo.o (by have:=HSZ.o;unfold maxLen;omega) _ _ (zc4 k) rfl rfl (znq (by omega)) (.lit (.int .i64 kn)) [] (plainElem_int Tryz.underlying3 (qc4 (by omega) (by omega))) ?_;intro w2 hown2 hgrow2;have HMo2:=zhy (zon.of hown2);have HHx2:=zhy (HHx.o.grown hgrow2 (by have:=HBM.o;simp;omega) (fun b hb=>by have:=(HHx.o.xr b hb).1;simp;omega));have HBe2:=zhy (HBe.o.grown hgrow2 (by omega) (fun j hj=>by injection hj with hj;omega));have hsz2:=Nat.le_trans hsz hgrow2.size;clear hown2 hgrow2);have HPU:=zhy (zjv (M+2) B l1.length c1 A1 l1 (k:Int) w2 HHx2.o.hb rfl (by have:=HHx2.o.len (n:=n) (fun t ht=>by omega);omega) hsz2 HHx2.o.hp);have hmk:=qe8 (k:Int);clear HMo HMf HAt HHx HBe;refine HPU.o.mono ?_;rintro r w3 ⟨rfl,g',c',l',hb,hp,hh,hf,-⟩
    have HHx3:Hid (ze0 w3 (M+2) B (some ⟨g',0,none⟩) c' l' fun t=>t<k+1∧zdg e n [] t=0):=zhy ((HHx2.o.push hb hp hh (fun h=>by omega)).congr fun t=>⟨fun h=>by
     rcases h with ⟨a,b⟩ | rfl
     ·exact ⟨by omega,b⟩
     ·exact ⟨by omega,by have:=HCN.o;have:=HK0.o;omega⟩,fun ⟨a,b⟩=>by
     by_cases e:t=k
     ·exact .inr e
     ·exact .inl ⟨by omega,b⟩⟩)
    have HMo3:Hid (zon w3 M (D.put (zc4 k) (.lit (.int .i64 kn)))):=zhy (hf.map HMo2.o (fun e=>by
     have:=HBM.o;rcases e with e | e
     ·omega
     ·have:=(HHx2.o.xr _ e).1;omega))
    have HBe3:Hid (Below M w w3):=zhy (HBe2.o.trans (hf.below (B:=M) fun j hj=>⟨by omega,fun e=>by
     have:=HBM.o;rcases e with e | e
     ·omega
     ·have:=(HHx2.o.xr _ e).1;omega⟩))
    have hsz3:=Nat.le_trans hsz2 hf.size;clear hb hp hh hf HPU HMo2 HHx2 HBe2;go_wp2_with fail;go_roundw
    case rel=>exact ⟨k+1,_,_,_,_,by omega,by go_num,HMo3,HMf2,HAt2,HHx3,HBe3,hsz3⟩
    case measure=>simp [intOf];omega
   ·have hb0:((kn:Int)==0)=false:=by simp;omega
    have HK0:=zhy hk0;clear hk0;go_wp2_with (at_mapUpdate;refine wpList_mapUpdate_own _ rfl _ _ _ 236 rfl 3 3 znc Tryz.underlying236 _ M (size D) D rfl HMo.o (by have:=HSZ.o;unfold maxLen;omega) _ _ (zc4 k) rfl rfl (znq (by omega)) (.lit (.int .i64 kn)) [] (plainElem_int Tryz.underlying3 (qc4 (by omega) (by omega))) ?_;intro w2 hown2 hgrow2;have HMo2:=zhy (zon.of hown2);have HHx2:=zhy (HHx.o.grown hgrow2 (by have:=HBM.o;simp;omega) (fun b hb=>by have:=(HHx.o.xr b hb).1;simp;omega));have HBe2:=zhy (HBe.o.grown hgrow2 (by omega) (fun j hj=>by injection hj with hj;omega));have hsz2:=Nat.le_trans hsz hgrow2.size;clear hown2 hgrow2)
    have HHx3:Hid (ze0 w2 (M+2) B A1 c1 l1 fun t=>t<k+1∧zdg e n [] t=0):=zhy (HHx2.o.congr fun t=>⟨fun ⟨a,b⟩=>⟨by omega,b⟩,fun ⟨a,b⟩=>⟨by
     by_cases e:t=k
     ·subst e;have:=HCN.o;have:=HK0.o;omega
     ·omega,b⟩⟩)
    clear HMo HMf HAt HHx HBe;go_roundw
    case rel=>exact ⟨k+1,_,A1,c1,l1,by omega,by go_num,HMo2,HMf2,HAt2,HHx3,HBe2,hsz2⟩
    case measure=>simp [intOf];omega
  ·obtain rfl:n=k:=by omega
   have HCA:=zhy (zpa A c n Z e wr (HG.o.keep (by rw [HM.o];exact HBe.o)) HZ.o hn);go_wp2_with fail;refine HCA.o.mono ?_;rintro r w3 ⟨Aq,cq,Y,rfl,hgo,hyl,hym,hb3⟩;obtain ⟨N1,hN1⟩:∃N1,wr.heap.size=N1:=⟨_,rfl⟩;obtain ⟨N2,hN2⟩:∃N2,w3.heap.size=N2:=⟨_,rfl⟩;rw [hN1] at hgo;have hK:qbl M B N1 N2 w3:=⟨HBM.o,by omega,by rw [←hN1,←hN2];exact hb3.size,hN2⟩;have HB3:Hid (Below M w w3):=zhy (HBe.o.trans (hb3.mono (by omega)));have HGO:=zhy hgo;have HYL:=zhy hyl;have HYM:=zhy hym
   have HO0:Hid (zei M B N1 N2 n w3 w3 [] (zfx n []) (fun t=>zdg e n [] t) (zuf e n []) D A1 c1 l1 none 0 0):=zhy (by
    have hx3:=HHx.o.keep hb3;refine ⟨(zv.of_below (X:=fun _=>False) hb3 (fun j h1 h2=>by omega)).map HMo.o id,?_,?_,hx3.congr fun t=>?_,World.ownsRow_nil _ _ _ _,fun b _ h=>(by obtain ⟨ad,h,_⟩:=h;cases h),zv.refl _ _,fun b hb=>.inl ?_,by omega⟩
    ·have:zfx n []=fun t=>decide (t<n):=by funext t;simp [zfx]
     rw [this];exact HMf.o
    ·intro t ht;exact HAt.o t (by simp [zfx] at ht;simp;exact ht)
    ·rw [zuf,zlo (by simp),beq_iff_eq]
    ·have:=(HHx.o.xr b hb).2;omega)
   clear hgo hyl hym hb3 HMo HMf HAt HHx HBe hsz hN1 HCA;dsimp only;go_wp2_with fail;go_loopw [8] (fun ov wq=>∃(o:List Nat) (D:DataW Unit) (A2:Option Addr) (c2:Nat) (l2:List Int) (Ao:Option Addr) (co no:Nat),no≤n∧ov=.slice Ao no co∧Hid (o.length=no)∧Hid (zm1 e n o)∧Hid (zly e n=zj4 e n (n-no) o)∧Hid (zei M B N1 N2 n w3 wq o (zfx n o) (fun t=>zdg e n o t) (zuf e n o) D A2 c2 l2 Ao co no)) (fun ov _=>n-zj1 ov)
   case atStart=>exact ⟨[],D,A1,c1,l1,none,0,0,by omega,rfl,zhy rfl,zhy zm1.nil,zhy rfl,HO0⟩
   case round =>
    clear HO0;obtain ⟨o,D,A2,c2,l2,Ao,co,no,hno,rfl,HOL,HOK,HOD,HOS⟩:=hrel;rename World=>wq;have hc0:=HOS.o.hx.hb.box.cell;obtain ⟨ln,hln⟩:∃ln,l2.length=ln:=⟨_,rfl⟩;rw [hln] at hc0;have HLN:=zhy hln;have hln9:ln≤n:=by rw [←hln];exact HOS.o.hx.len fun t ht=>ht.1
    by_cases h2:0<ln
    ·obtain ⟨q,rfl⟩:∃q,ln=q+1:=⟨ln-1,by omega⟩;obtain ⟨g,c2',hv⟩:=zdx HOS.o.hx.hb.own (by omega);injection hv with e1 e2 e3;subst e1 e3;have HPO:=zhy (zui (M+2) B g c2 q l2 wq HOS.o.hx.hb HLN.o (by omega) (by have:=HOS.o.hx.hp;rwa [HLN.o] at this));clear e2 hln;go_wp2_with fail;refine (zfp (some ⟨g,0,none⟩) (q+1) c2 wq).mono ?_;rintro r w4 ⟨rfl,rfl⟩;clear hc0;go_wp2_with fail;refine HPO.o.mono ?_;rintro r w4 ⟨x,l',rfl,hb4,hp4,hl4,hh4,hm4,hf4⟩;obtain ⟨k,hks,rfl⟩:∃k,zuf e n o k∧x=(k:Int):=(HOS.o.hx.mem x).1 (hp4.mem_iff.1 (List.mem_cons_self ..))
     have HNK:Hid (zf5 e n o k):=zhy ⟨HOK.o,hks.1,zqf (fun i hi=>by
      cases hr:zih e n o i with
      | false=>rfl
      | true =>
       have:=hm4 i ((HOS.o.hx.mem i).2 ⟨i,⟨by have:=hks.1;omega,hr⟩,rfl⟩);omega) hks.2 hks.1⟩
     have hkn:k<n:=hks.1;have hnn:no<n:=by rw [←HOL.o];exact HNK.o.len
     have HO4:=zhy (HOS.o.pop hK hb4 hp4 (by rw [hl4];exact hh4) hf4);have hta:=qfa (k:Int);clear hb4 hp4 hl4 hh4 hm4 hf4 HPO HOS hks;obtain ⟨⟨Ak,ck,K⟩,hyk,hyl⟩:=zcb HYL.o HYM.o hkn;dsimp only at hyl;obtain ⟨adq,hAq,-,-⟩:=HGO.o.gw.at_ hyk;subst hAq;obtain ⟨kn,hkl⟩:∃kn,K.length=kn:=⟨_,rfl⟩;have HYK:=zhy hyk;have HKE:=zhy hyl;have HKL:=zhy hkl;have hkl9:kn≤n:=by rw [←hkl,hyl];exact zal _ _
     have HMf5:Hid (zkb (D.del (zc4 k)) n (zfx n (o++[k]))):=zhy (HO4.o.mf.del (zbm.2 ⟨hkn,HNK.o.nin⟩) (by rw [←Bool.not_eq_true,zb6];simp) fun j hj=>by rw [Bool.eq_iff_iff,zb6];exact ⟨fun h=>h.1,fun h=>⟨h,hj⟩⟩);have HAt5:Hid (zol (D.del (zc4 k)) (zfx n (o++[k])) fun t=>zdg e n o t):=zhy (HO4.o.at_.del fun j hj=>⟨(zb6.1 hj).2,(zb6.1 hj).1⟩);clear hyk hyl hkl;go_wp2_with (at_delete;refine wpList_delete_own _ rfl _ _ 236 3 rfl 3 znc Tryz.underlying236 _ M (size D) D rfl HO4.o.mo _ _ rfl (znq (by omega)) ?_);intro w5 hown5 hturn5;have HO5:=zhy (HO4.o.turn hK hturn5.grown (zon.of hown5) HMf5.o HAt5.o);have HOT:=zhy (HO5.o.ord.alloc (.cells #[.int .i64 (k:Int)] 3));have hc1:(w5.alloc (.cells #[.int .i64 (k:Int)] 3)).cell? ((⟨w5.heap.size,0,none⟩:Addr).add 0)=some (.int .i64 (k:Int)):=by simp [go_sem,Addr.add]
     clear hown5 hturn5 HO4;go_wp2_with (at_builtin;refine zaq rfl (.tmp 50) (.tmp 52) 59 Tryz.underlying59 rfl N2 _ no (qx o) rfl HOT.o _ (k:Int) rfl hc1 (by omega) (by have:=HO5.o.sz;rw [qn];omega) ?_);intro g6 c6 w6 ho6 hg6 hl6;have HO6:=zhy (HO5.o.app hK ho6 hg6 (by rw [qn];exact hl6));obtain ⟨_,hA',y0,hrk⟩:=(HGO.o.fr HO6.o.fr (fun j hj e=>by omega)).gw.at_ HYK.o;injection hA' with hA';subst hA';rw [zbr] at y0;dsimp only at y0;rw [HKL.o] at y0;clear ho6 hg6 hl6 HO5 HOT hc1 hrk;go_wp2_with fail;clear y0;have HO7:Hid (zei M B N1 N2 n w3 w6 (o++[k]) (zfx n (o++[k])) (zji e n k o 0) (zkf e n k o 0) (D.del (zc4 k)) (some ⟨g,0,none⟩) c2 l' (some ⟨g6,0,none⟩) c6 (no+1)):=zhy (HO6.o.congr (fun t _=>by simp [zji]) fun t=>by simp [zkf]);clear HO6 HMf5 HAt5;have HWL:Hid ((zjw e n k).length=kn):=zhy (by have:=HKL.o;rw [HKE.o,qx,List.length_map] at this;exact this);go_loopw [59] (fun iv wx=>∃(i:Nat) (D:DataW Unit) (A2:Option Addr) (c2:Nat) (l2:List Int),i≤kn∧iv=.int .i64 i∧Hid (zei M B N1 N2 n w3 wx (o++[k]) (zfx n (o++[k])) (zji e n k o i) (zkf e n k o i) D A2 c2 l2 (some ⟨g6,0,none⟩) c6 (no+1))) (fun iv _=>kn-(intOf iv).toNat)
     case atStart=>exact ⟨0,_,_,_,_,by omega,rfl,HO7⟩
     case round =>
      clear HO7;obtain ⟨i,D,A2,c2,l2,hi,rfl,HOX⟩:=hrel;rename World=>wx;by_cases h3:i<kn
      ·obtain ⟨t,ht⟩:∃t,(zjw e n k)[i]?=some t:=⟨_,zg7 (by rw [HWL.o];exact h3)⟩;obtain ⟨t1,t2,t3,t4,t5,t6⟩:=HNK.o.step ht;obtain ⟨adk,hAk,z0⟩:=((HGO.o.fr HOX.o.fr (fun j hj e=>by omega)).gw.each _ (List.mem_of_getElem? HYK.o)).at_ (i:=i) (x:=(t:Int)) (by dsimp only;rw [HKE.o];exact zhe ht);dsimp only at hAk;subst hAk;have HAT:Hid (D.atKey (zc4 t) (.lit (.int .i64 0))=.lit (.int .i64 (zji e n k o i t))):=zhy (HOX.o.at_ t t3)
       have HSZ:Hid (size D≤n):=zhy (by
        rw [HOX.o.mf.size,zhq];have:=List.length_filter_le (zfx n (o++[k])) (List.range n);rwa [List.length_range] at this)
       obtain ⟨v,hv⟩:∃v,zdg e n (o++[k]) t=v:=⟨_,rfl⟩;have hv9:v≤n:=by rw [←hv];exact zyt
       rw [t4,hv] at HAT;rw [hv] at t5;have ev:((v:Int)+1-1)=(v:Int):=by omega
       have HT:=zhy ht;have HT5:=zhy t5;have HT3:=zhy t3;have HT6:=zhy t6;have HV:=zhy hv;have HMf6:Hid (zkb (D.put (zc4 t) (.lit (.int .i64 (v:Int)))) n (zfx n (o++[k]))):=zhy (HOX.o.mf.put t1 _ t3 fun j hj=>rfl);have HAt6:Hid (zol (D.put (zc4 t) (.lit (.int .i64 (v:Int)))) (zfx n (o++[k])) (zji e n k o (i+1))):=zhy (HOX.o.at_.put HOX.o.mf t5 fun j hj hq=>⟨hq,HNK.o.fi_other ht hj⟩);clear t2 t3 t4 t5 t6 ht hv;go_wp2_with (at_lookup;refine wpList_lookup_own_int _ rfl _ _ 236 rfl 3 3 .i64 znc Tryz.underlying236 Tryz.underlying3 (zw2 _) M (size D) D rfl HOX.o.mo _ _ rfl (znq (by omega)) ?_);intro x hat hwx
       have hx:x=(v:Int)+1:=by
        have h:=hat.symm.trans HAT.o;injection h with h;injection h
       clear hat hwx HAT;go_wp2_with (at_mapUpdate;refine wpList_mapUpdate_own _ rfl _ _ _ 236 rfl 3 3 znc Tryz.underlying236 _ M (size D) D rfl HOX.o.mo (by have:=HSZ.o;unfold maxLen;omega) _ _ (zc4 t) rfl rfl (znq (by omega)) (.lit (.int .i64 (v:Int))) [] (plainElem_int Tryz.underlying3 (qc4 (by omega) (by omega))) ?_);intro w7 hown7 hgrow7;have HO8:=zhy (HOX.o.turn hK hgrow7 (zon.of hown7) HMf6.o HAt6.o);clear hown7 hgrow7 HOX hx;go_wp2_with (at_lookup;refine wpList_lookup_own_int _ rfl _ _ 236 rfl 3 3 .i64 znc Tryz.underlying236 Tryz.underlying3 (zw2 _) M (size (D.put (zc4 t) (.lit (.int .i64 (v:Int))))) (D.put (zc4 t) (.lit (.int .i64 (v:Int)))) rfl HO8.o.mo _ _ rfl (znq (by omega)) ?_);intro x2 hat2 hwx2
       have hx2:x2=(v:Int):=by
        have h:=hat2.symm.trans (HAt6.o t HT3.o);injection h with h;injection h with _ h;rw [h,HT5.o]
       clear hat2 hwx2;by_cases hv0:v=0
       ·have hb0:((v:Int)==0)=true:=by simp;omega
        have HV0:=zhy hv0;clear hv0;have HPU:=zhy (zjv (M+2) B l2.length c2 A2 l2 (t:Int) w7 HO8.o.hx.hb rfl (by have:=HO8.o.hx.len (n:=n) (fun j hj=>by rcases hj with h | h;exact h.1.1;exact (zcy.1 (List.mem_of_mem_take h.1)).1);omega) (by have:=HO8.o.sz;have:=hK.n1;have:=hK.n2;omega) HO8.o.hx.hp);go_wp2_with fail;refine HPU.o.mono ?_;rintro r w8 ⟨rfl,g8,c8,l8,hb8,hp8,hh8,hf8,hg8⟩;have HO9:Hid (zei M B N1 N2 n w3 w8 (o++[k]) (zfx n (o++[k])) (zji e n k o (i+1)) (zkf e n k o (i+1)) (D.put (zc4 t) (.lit (.int .i64 (v:Int)))) (some ⟨g8,0,none⟩) c8 l8 (some ⟨g6,0,none⟩) c6 (no+1)):=zhy ((HO8.o.push hK hb8 hp8 hh8 HT6.o hf8 hg8).congr (fun _ _=>rfl) (HNK.o.si_zero HT.o (by rw [HV.o,HV0.o])));clear hb8 hp8 hh8 hf8 hg8 HPU HO8 HMf6 HAt6;go_wp2_with fail;go_roundw
        case rel=>exact ⟨i+1,_,_,_,_,by omega,by go_num,HO9⟩
        case measure=>simp [intOf];omega
       ·have hb0:((v:Int)==0)=false:=by simp;omega
        have HO9:Hid (zei M B N1 N2 n w3 w7 (o++[k]) (zfx n (o++[k])) (zji e n k o (i+1)) (zkf e n k o (i+1)) (D.put (zc4 t) (.lit (.int .i64 (v:Int)))) A2 c2 l2 (some ⟨g6,0,none⟩) c6 (no+1)):=zhy (HO8.o.congr (fun _ _=>rfl) (HNK.o.si_more HT.o (by rw [HV.o];exact hv0)));clear HO8 HMf6 HAt6 hv0;go_wp2_with fail;go_roundw
        case rel=>exact ⟨i+1,_,_,_,_,by omega,by go_num,HO9⟩
        case measure=>simp [intOf];omega
      ·obtain rfl:kn=i:=by omega
       have HLE:Hid ((zjw e n k).length≤kn):=zhy (Nat.le_of_eq HWL.o);have HO8:Hid (zei M B N1 N2 n w3 wx (o++[k]) (zfx n (o++[k])) (fun t=>zdg e n (o++[k]) t) (zuf e n (o++[k])) D A2 c2 l2 (some ⟨g6,0,none⟩) c6 (no+1)):=zhy (HOX.o.congr (fun t ht=>HNK.o.fi_end HLE.o ht) fun t=>HNK.o.si_end HLE.o t);have HOK2:Hid (zm1 e n (o++[k])):=zhy (HOK.o.snoc HNK.o.nx);have HOL2:Hid ((o++[k]).length=no+1):=zhy (by rw [List.length_append,HOL.o];rfl);have HOD2:Hid (zly e n=zj4 e n (n-(no+1)) (o++[k])):=zhy (by rw [HOD.o,show n-no=(n-(no+1))+1 by omega,zj4,HNK.o.nx]);clear HOX;go_wp2_with fail;go_roundw
       case rel=>exact ⟨o++[k],D,A2,c2,l2,_,c6,no+1,by omega,rfl,HOL2,HOK2,HOD2,HO8⟩
       case measure=>simp [zj1];omega
    ·obtain rfl:ln=0:=by omega
     have HNO:Hid (∀t,t<n→zih e n o t=false):=zhy fun t ht=>by
      cases hr:zih e n o t with
      | false=>rfl
      | true =>
       have:=(HOS.o.hx.mem t).2 ⟨t,⟨ht,hr⟩,rfl⟩;rw [List.length_eq_zero_iff.1 HLN.o] at this;cases this
     have HSI:Hid (size D=zhq n (zfx n o)):=zhy HOS.o.mf.size;have HBE:Hid (Below M w wq):=zhy (HB3.o.trans (HOS.o.fr.below (B:=M) fun j hj=>⟨by have:=HB3.o.size;have:=HM.o;omega,fun e=>by omega⟩));have HBE2:Hid (Below w.heap.size w wq):=zhy (by rw [HM.o];exact HBE.o);have HOW:Hid (wq.ownsRow w.heap.size 3 1 (.slice Ao no co) no (ci9 (qx o))):=zhy (qg HOS.o.ord (by have:=HM.o;have:=hK.n1;have:=hK.n2;omega));clear hln;go_wp2_with fail;refine (zfp A2 0 c2 wq).mono ?_;rintro r w4 ⟨rfl,rfl⟩;clear hc0;by_cases hnn:no=n
     ·have HZ0:size D=0:=by
       rw [HSI.o,zdd];intro t ht;rw [←Bool.not_eq_true,zbm];intro h;exact h.2 (qby HOK.o.nd HOK.o.lt (by rw [HOL.o];exact hnn) t ht)
      have HTE:Hid (T=(qx o,0)):=zhy (by rw [←HT.o,zyd,HOD.o,hnn,Nat.sub_self,zj4]);have HNL:Hid ((qx o).length=no):=zhy (by rw [qx,List.length_map];exact HOL.o);clear hnn HSI;go_wp2_with (at_len;refine wpList_len_own _ rfl _ 236 rfl 3 3 Tryz.underlying236 _ M (size D) D rfl HOS.o.mo ?_);go_ret2;exact ⟨Ao,co,by rw [HTE.o,HNL.o];rfl,by rw [HTE.o];dsimp only;rw [HNL.o];exact HOW.o,HBE2.o⟩
     ·have HZ0:0<size D:=by
       rw [HSI.o];refine Nat.pos_of_ne_zero fun h=>?_;rw [zdd] at h
       have h1:=zh0 (l:=qx (List.range n)) (k:=qx o) (by
        rw [qx,List.Nodup,List.pairwise_map]
        exact List.nodup_range.imp fun h e=>h (by omega)) (fun x hx=>by
        rw [qx,List.mem_map] at hx ⊢;obtain ⟨j,hj,rfl⟩:=hx;refine ⟨j,?_,rfl⟩;have h2:=h j (List.mem_range.1 hj);rw [←Bool.not_eq_true,zbm] at h2;by_cases hm:j∈o
        ·exact hm
        ·exact absurd ⟨List.mem_range.1 hj,hm⟩ h2)
       rw [qx,List.length_map,List.length_range,qx,List.length_map,HOL.o] at h1;omega
      have HTE:Hid (T=([],110)):=zhy (by rw [←HT.o,zyd,HOD.o,show n-no=(n-(no+1))+1 by omega,zj4,zru HNO.o]);have HE:=zhy (zgf.err HTE.o HBE2.o);clear hnn HSI;go_wp2_with (at_len;refine wpList_len_own _ rfl _ 236 rfl 3 3 Tryz.underlying236 _ M (size D) D rfl HOS.o.mo ?_);go_ret2;exact HE.o
open Go.RowKit Go.Maps
theorem zi3.keep {w w':World} {base c:Nat} {A:Option Addr} {Z:List Gz} (h:zi3 w base A c Z) (hb:Below w.heap.size w w'):zi3 w' base A c Z:=⟨qb h.row hb (Nat.le_refl _),fun z hz=>qb (h.each z hz) hb (Nat.le_refl _)⟩
theorem zi3.base {w:World} {base base' c:Nat} {A:Option Addr} {Z:List Gz} (h:zi3 w base A c Z) (hb:base'≤base):zi3 w base' A c Z:=⟨qg h.row hb,fun z hz=>qg (h.each z hz) hb⟩
theorem zxq {d:Md} (h:zcm d=false):jg d=zyd (e11 d) d.s.length:=by
 rw [jg,if_neg (by rw [h];simp),zyd];cases zly (e11 d) d.s.length<;>rfl
theorem zos {d:Md} (h:zcm d=true):jg d=([],2):=by rw [jg,if_pos h]
theorem zuv (d:Md):qbs d=zfo (e11 d) d.s.length:=rfl
def qfw (w w':World) (d:Md) (r:Ending):Prop:=
 (zcm d=true∧r=.returned (.tuple #[.slice none 0 0,.slice none 0 0,.int .i64 2])∧Below w.heap.size w w') ∨
 (zcm d=false∧∃A c Z Ao co,r=.returned (.tuple #[.slice A d.s.length c,.slice Ao (jg d).1.length co,.int .i64 (jg d).2])∧zi3 w' w.heap.size A c Z∧Z.map (·.2.2)=qbs d∧w'.ownsRow w.heap.size 3 1 (.slice Ao (jg d).1.length co) (jg d).1.length (ci9 (jg d).1)∧Below w.heap.size w w')
theorem zi1 (y:Ma) (d:Md) (w:World) (hq:Hq w y d) (bs:d.s.length≤1000) (bl:∀z∈d.s,z.2.length≤1000):Calls Tryz.prog 51 #[dv y d] w fun r w'=>qfw w w' d r:=by
 obtain ⟨sn,hsn⟩:∃sn,d.s.length=sn:=⟨_,rfl⟩;have HSN:=zhy hsn;have S0:=zhy ((((Sx.start w).add (fQm y d) hq).mkD y d));obtain ⟨B,hB⟩:∃B,w.heap.size=B:=⟨_,rfl⟩;have HBB:=zhy hB;rw [hB] at S0;have HBS:=zhy bs;have HBL:=zhy bl;clear hq bs bl hsn;go_enter Tryz.func51,Tryz.ntmps51;go_upto_region 1 with (fail);change Code.wp _ _ _ _ (w.alloc (zn y d));generalize w.alloc (zn y d)=w1 at S0 ⊢;clear hB;have HGR:=zhy (zsp y d w1 S0.o.2.2.1 HBS.o HBL.o);obtain ⟨-,⟨d0,d1,d2,d3,d4⟩,-⟩:=S0.o;go_wp2_with fail;refine HGR.o.mono ?_;clear HGR d0 d1 d2 d3 d4;rintro r w2 h;rcases h with ⟨hba,rfl,hb⟩ | ⟨hba,A,c,Z,rfl,hgo,hgr,hb⟩
 ·have HBF:=zhy (S0.o.call hb).1;have HBA:=zhy hba;clear hb hba S0;go_wp2_with fail;refine bodyPost_ret (v:=.tuple #[.slice none 0 0,.slice none 0 0,.int .i64 2]) (by simp [results,Tryz.results51,go_sem]) rfl ?_;exact .inl ⟨HBA.o,rfl,HBF.o⟩
 ·rw [HSN.o];have HBA:=zhy hba;have HGO:=zhy hgo;have HGRR:=zhy hgr;have HBF:=zhy (S0.o.call hb).1;have hsz:w.heap.size≤w1.heap.size:=S0.o.1.size;have HOR:=zhy (zyy A c sn Z (e11 d) w2 hgo.gw (by rw [hgr,zuv,HSN.o]) (by rw [←HSN.o];exact HBS.o));clear hb hba hgo hgr S0;go_wp2_with fail;refine HOR.o.mono ?_;rintro r w3 ⟨Ao,co,rfl,ho,hb⟩;have HBF3:=zhy (qc HBF.o hb);have HGO3:=zhy ((HGO.o.keep hb).base hsz);have HO3:=zhy (qg (base':=w.heap.size) ho HBF.o.size);have HRO:Hid (jg d=zyd (e11 d) sn):=zhy (by rw [zxq HBA.o,HSN.o]);rw [←HRO.o];rw [←HRO.o] at HO3;clear ho hb HOR HGO HBF;go_wp2_with fail;refine bodyPost_ret (v:=.tuple #[.slice A sn c,.slice Ao (jg d).1.length co,.int .i64 (jg d).2]) (by simp [results,Tryz.results51,go_sem]) rfl ?_;exact .inr ⟨HBA.o,A,c,Z,Ao,co,by rw [HSN.o],HGO3.o,HGRR.o,HO3.o,HBF3.o⟩
theorem zse (y:Ma) (d:Md) (w:World) (hq:Hq w y d) (bs:d.s.length≤1000) (bl:∀z∈d.s,z.2.length≤1000):Calls Tryz.prog 25 #[dv y d] w fun r w'=>r=.returned (.int .i64 (jg d).2)∧Below w.heap.size w w':=by
 have S0:=zhy ((((Sx.start w).add (fQm y d) hq).mkD y d));obtain ⟨B,hB⟩:∃B,w.heap.size=B:=⟨_,rfl⟩;have HBB:=zhy hB;rw [hB] at S0;have HBS:=zhy bs;have HBL:=zhy bl;clear hq bs bl;go_enter Tryz.func25,Tryz.ntmps25;go_upto_region 1 with (fail);change Code.wp _ _ _ _ (w.alloc (zn y d));generalize w.alloc (zn y d)=w1 at S0 ⊢;clear hB;have HGR:=zhy (zi1 y d w1 S0.o.2.2.1 HBS.o HBL.o);obtain ⟨-,⟨d0,d1,d2,d3,d4⟩,-⟩:=S0.o;go_wp2_with fail;refine HGR.o.mono ?_;clear HGR d0 d1 d2 d3 d4;rintro r w2 h;rcases h with ⟨hba,rfl,hb⟩ | ⟨hba,A,c,Z,Ao,co,rfl,-,-,-,hb⟩
 ·have HBF:=zhy (S0.o.call hb).1;have HRO:Hid ((jg d).2=2):=zhy (by rw [zos hba]);clear hb hba S0;go_wp2_with fail;go_ret;exact ⟨by rw [HRO.o];rfl,HBF.o⟩
 ·have HBF:=zhy (S0.o.call hb).1;clear hb hba S0;go_wp2_with fail;go_ret;exact ⟨rfl,HBF.o⟩
theorem zsg (y:Ma) (d:Md) (w:World) (hq:Hq w y d) (bs:d.s.length≤1000) (bl:∀z∈d.s,z.2.length≤1000):Calls Tryz.prog 56 #[dv y d] w fun r w'=>zgf w w' (jg d) r:=by
 have S0:=zhy ((((Sx.start w).add (fQm y d) hq).mkD y d));obtain ⟨B,hB⟩:∃B,w.heap.size=B:=⟨_,rfl⟩;have HBB:=zhy hB;rw [hB] at S0;have HBS:=zhy bs;have HBL:=zhy bl;clear hq bs bl;go_enter Tryz.func56,Tryz.ntmps56;go_upto_region 1 with (fail);change Code.wp _ _ _ _ (w.alloc (zn y d));generalize w.alloc (zn y d)=w1 at S0 ⊢;clear hB;have HGR:=zhy (zi1 y d w1 S0.o.2.2.1 HBS.o HBL.o);obtain ⟨-,⟨d0,d1,d2,d3,d4⟩,-⟩:=S0.o;go_wp2_with fail;refine HGR.o.mono ?_;clear HGR d0 d1 d2 d3 d4;rintro r w2 h;rcases h with ⟨hba,rfl,hb⟩ | ⟨hba,A,c,Z,Ao,co,rfl,-,-,ho,hb⟩
 ·have HBF:=zhy (S0.o.call hb).1;have HE:=zhy (zgf.err (zos hba) HBF.o);clear hb hba S0;go_wp2_with fail;go_ret2;exact HE.o
 ·have HBF:=zhy (S0.o.call hb).1;have HO:=zhy (qg (base':=w.heap.size) ho S0.o.1.size);clear hb hba S0 ho;go_wp2_with fail;go_ret2;exact ⟨Ao,co,rfl,HO.o,HBF.o⟩
theorem zrk {d:Md} {k:Nat} (hk:k<d.s.length):zfv d k=zm8 (zl d k) d.s.length:=by
 rw [zfv,if_neg (by omega),Int.toNat_natCast,zm8];rfl
end
end Go.Proofs.YtnjgkkoiamiaaaaGreatDoor
