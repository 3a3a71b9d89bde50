import Derived.Test.YtnjgkkoiamiaaaaGreatDoorVma15
import Derived.Test.YtnjgkkoiamiaaaaGreatDoorVma1
import Derived.Conc.LoneCalls
import Derived.Conc.LoneSelectN
import Derived.Test.YtnjgkkoiamiaaaaGreatDoorVma8
set_option maxRecDepth 100000
set_option maxHeartbeats 16000000
set_option linter.unusedSimpArgs false
set_option linter.unusedVariables false
namespace Go.Proofs.YtnjgkkoiamiaaaaGreatDoor
open Go.RowKit
section
open Go.RowKit Go.Maps
section
variable {e : Nat → Nat → Bool} {n k t i : Nat} {o : List Nat}
abbrev wk11 (e:Nat→Nat→Bool) (n k:Nat):List Nat:=(List.range n).filter fun t=>e t k
def po11 (n:Nat) (o:List Nat) (t:Nat):Bool:=decide (t<n)&&!o.contains t
def so11 (e:Nat→Nat→Bool) (n:Nat) (o:List Nat) (t:Nat):Prop:=t<n∧rd11 e n o t=true
def fi11 (e:Nat→Nat→Bool) (n k:Nat) (o:List Nat) (i t:Nat):Int:=(cn11 e n o t:Int)-if ((wk11 e n k).take i).contains t then 1 else 0
def si11 (e:Nat→Nat→Bool) (n k:Nat) (o:List Nat) (i t:Nat):Prop:=(so11 e n o t∧(t:Int)≠k)∨(t∈(wk11 e n k).take i∧cn11 e n (o++[k]) t=0)
theorem po11_iff:po11 n o t=true↔t<n∧t∉o:=by
 rw [po11,Bool.and_eq_true,decide_eq_true_eq,Bool.not_eq_true',←Bool.not_eq_true,List.contains_iff_mem]
theorem po11_snoc:po11 n (o++[k]) t=true↔po11 n o t=true∧t≠k:=by
 rw [po11_iff,po11_iff,List.mem_append,List.mem_singleton];exact ⟨fun ⟨h1,h2⟩=>⟨⟨h1,fun h=>h2 (.inl h)⟩,fun h=>h2 (.inr h)⟩,fun ⟨⟨h1,h2⟩,h3⟩=>⟨h1,fun h=>h.elim h2 h3⟩⟩
theorem wk11_mem:t∈wk11 e n k↔t<n∧e t k=true:=by rw [List.mem_filter,List.mem_range]
theorem wk11_new (ht:(wk11 e n k)[i]?=some t):t∉(wk11 e n k).take i:=by
 intro hm;have hl:=(zg8.1 ht).1;obtain ⟨j,hj⟩:=List.getElem?_of_mem hm;have hj1:=(zg8.1 hj).1;rw [List.length_take] at hj1;rw [List.getElem?_take_of_lt (by omega)] at hj;have hp:(wk11 e n k).Pairwise (·<·):=fil_lt11 (fun t=>e t k) n;have:=List.pairwise_iff_getElem.1 hp j i (by omega) hl (by omega);rw [(zg8.1 ht).2,(zg8.1 hj).2] at this;omega
theorem take_mem11 {l:List Nat} (ht:l[i]?=some t) {j:Nat}:j∈l.take (i+1)↔j∈l.take i∨j=t:=by
 rw [List.take_add_one,ht,List.mem_append];simp
structure Nk11 (e:Nat→Nat→Bool) (n:Nat) (o:List Nat) (k:Nat):Prop where
 ok:Ok11 e n o
 lt:k<n
 nx:nx11 e n o=some k
theorem Nk11.nin (h:Nk11 e n o k):k∉o:=(nx11_some h.nx).2.1
theorem Nk11.all (h:Nk11 e n o k):∀j,j<n→e k j=true→j∈o:=(nx11_some h.nx).2.2.1
theorem Nk11.caller (h:Nk11 e n o k) (ht:e t k=true):t∉o∧t≠k:=by
 refine ⟨fun hm=>?_,fun hk=>?_⟩
 ·obtain ⟨i,hi⟩:=List.getElem?_of_mem hm;obtain ⟨m,_,hm⟩:=h.ok.be i t hi k h.lt ht;exact h.nin (List.mem_of_getElem? hm)
 ·subst hk;exact h.nin (h.all _ h.lt ht)
theorem Nk11.len (h:Nk11 e n o k):o.length<n:=by
 have h1:=nd_le11 (l:=ns11 (k::o)) (k:=ns11 (List.range n)) ?_ ?_
 ·rw [ns11,List.length_map,ns11,List.length_map,List.length_range,List.length_cons] at h1;omega
 ·rw [ns11];have hnd:(k::o).Nodup:=List.nodup_cons.2 ⟨h.nin,h.ok.nd⟩;rw [List.Nodup,List.pairwise_map];exact hnd.imp fun h e=>h (by omega)
 ·intro x hx;rw [ns11,List.mem_map] at hx ⊢;obtain ⟨j,hj,rfl⟩:=hx;refine ⟨j,List.mem_range.2 ?_,rfl⟩;rcases List.mem_cons.1 hj with rfl | hj
  ·exact h.lt
  ·exact h.ok.lt j hj
theorem Nk11.step (h:Nk11 e n o k) (ht:(wk11 e n k)[i]?=some t):t<n∧e t k=true∧po11 n (o++[k]) t=true∧fi11 e n k o i t=cn11 e n (o++[k]) t+1∧fi11 e n k o (i+1) t=cn11 e n (o++[k]) t∧¬si11 e n k o i t:=by
 obtain ⟨h1,h2⟩:=wk11_mem.1 (List.mem_of_getElem? ht);obtain ⟨h3,h4⟩:=h.caller h2;have hn:=wk11_new ht;have hcn:=cn11_snoc (e:=e) (n:=n) (o:=o) (t:=t) h.lt h.nin;rw [if_pos h2] at hcn;refine ⟨h1,h2,po11_snoc.2 ⟨po11_iff.2 ⟨h1,h3⟩,h4⟩,?_,?_,fun hs=>?_⟩
 ·rw [fi11,if_neg (by rw [List.contains_iff_mem];exact hn),hcn];omega
 ·rw [fi11,if_pos (by rw [List.contains_iff_mem];exact (take_mem11 ht).2 (.inr rfl)),hcn];omega
 ·rcases hs with ⟨⟨_,hr⟩,_⟩ | ⟨hs,_⟩
  ·exact h.nin ((rd11_iff.1 hr).2 k h.lt h2)
  ·exact hn hs
theorem Nk11.fi_other (h:Nk11 e n o k) (ht:(wk11 e n k)[i]?=some t) {j:Nat} (hj:j≠t):fi11 e n k o (i+1) j=fi11 e n k o i j:=by
 rw [fi11,fi11];congr 1
 have:((wk11 e n k).take (i+1)).contains j=((wk11 e n k).take i).contains j:=by
  rw [Bool.eq_iff_iff,List.contains_iff_mem,List.contains_iff_mem,take_mem11 ht];exact ⟨fun h=>h.resolve_right hj,.inl⟩
 rw [this]
theorem Nk11.si_zero (h:Nk11 e n o k) (ht:(wk11 e n k)[i]?=some t) (hc:cn11 e n (o++[k]) t=0) (j:Nat):(si11 e n k o i j∨j=t)↔si11 e n k o (i+1) j:=by
 rw [si11,si11,take_mem11 ht];constructor
 ·rintro ((h1 | ⟨h1,h2⟩) | rfl)
  ·exact .inl h1
  ·exact .inr ⟨.inl h1,h2⟩
  ·exact .inr ⟨.inr rfl,hc⟩
 ·rintro (h1 | ⟨h1 | h1,h2⟩)
  ·exact .inl (.inl h1)
  ·exact .inl (.inr ⟨h1,h2⟩)
  ·exact .inr h1
theorem Nk11.si_more (h:Nk11 e n o k) (ht:(wk11 e n k)[i]?=some t) (hc:cn11 e n (o++[k]) t≠0) (j:Nat):si11 e n k o i j↔si11 e n k o (i+1) j:=by
 rw [si11,si11,take_mem11 ht];constructor
 ·rintro (h1 | ⟨h1,h2⟩)
  ·exact .inl h1
  ·exact .inr ⟨.inl h1,h2⟩
 ·rintro (h1 | ⟨h1 | h1,h2⟩)
  ·exact .inl h1
  ·exact .inr ⟨h1,h2⟩
  ·subst h1;exact absurd h2 hc
theorem Nk11.fi_end (h:Nk11 e n o k) (hi:(wk11 e n k).length≤i) {j:Nat} (hj:po11 n (o++[k]) j=true):fi11 e n k o i j=cn11 e n (o++[k]) j:=by
 have hcn:=cn11_snoc (e:=e) (n:=n) (o:=o) (t:=j) h.lt h.nin;have hjn:=(po11_iff.1 hj).1;rw [fi11,List.take_of_length_le hi];cases he:e j k with
 | true =>
  rw [if_pos (by rw [List.contains_iff_mem,wk11_mem];exact ⟨hjn,he⟩)];rw [he,if_pos rfl] at hcn;omega
 | false =>
  rw [if_neg (by rw [List.contains_iff_mem,wk11_mem,he];simp)];rw [he,if_neg (by simp)] at hcn;omega
theorem Nk11.si_end (h:Nk11 e n o k) (hi:(wk11 e n k).length≤i) (j:Nat):si11 e n k o i j↔so11 e n (o++[k]) j:=by
 rw [si11,List.take_of_length_le hi,wk11_mem,so11,so11];constructor
 ·rintro (⟨⟨h1,h2⟩,h3⟩ | ⟨⟨h1,h2⟩,h3⟩)
  ·have h4:=rd11_iff.1 h2;refine ⟨h1,rd11_iff.2 ⟨fun hm=>?_,fun q hq he=>List.mem_append_left _ (h4.2 q hq he)⟩⟩;rcases List.mem_append.1 hm with hm | hm
   ·exact h4.1 hm
   ·rw [List.mem_singleton] at hm;omega
  ·obtain ⟨h4,h5⟩:=h.caller h2;refine ⟨h1,?_⟩;rw [rd11_cn (fun hm=>?_),h3]
   ·rfl
   ·rcases List.mem_append.1 hm with hm | hm
    ·exact h4 hm
    ·exact h5 (List.mem_singleton.1 hm)
 ·rintro ⟨h1,h2⟩;have h4:=rd11_iff.1 h2;have hjo:j∉o:=fun hm=>h4.1 (List.mem_append_left _ hm);have hjk:j≠k:=fun hm=>h4.1 (List.mem_append_right _ (List.mem_singleton.2 hm));cases he:e j k with
  | true =>
   rw [rd11_cn h4.1,beq_iff_eq] at h2;exact .inr ⟨⟨h1,rfl⟩,h2⟩
  | false =>
   refine .inl ⟨⟨h1,rd11_iff.2 ⟨hjo,fun q hq hqe=>?_⟩⟩,by omega⟩;rcases List.mem_append.1 (h4.2 q hq hqe) with hm | hm
   ·exact hm
   ·rw [List.mem_singleton] at hm;subst hm;rw [he] at hqe;cases hqe
end
theorem Go11.fr {X:Nat→Prop} {w w':World} {base c:Nat} {A:Option Addr} {Z:List Gz} (h:Go11 w base A c Z) (hf:Fr11 X w w') (hX:∀j,base≤j→¬X j):Go11 w' base A c Z:=
 ⟨hf.own h.row fun g hg=>hX g (h.row.lt g hg).1,fun z hz=>hf.own (h.each z hz) fun g hg=>hX g ((h.each z hz).lt g hg).1⟩
def ot11 (e:Nat→Nat→Bool) (n:Nat):List Int×Int:=match or11 e n with
 | some o=>(ns11 o,0)
 | none=>([],110)
theorem cn11_nil {e:Nat→Nat→Bool} {n t:Nat}:cn11 e n [] t=((List.range n).filter (e t)).length:=by
 rw [cn11,←cp11];exact cp11_congr fun j _=>by simp
theorem mip11 (B:Nat) (w:World):(Instr.makeInterface 237 (.pointer (some ⟨B,0,none⟩))).run Tryz.prog w=.ok (.iface 237 (.pointer (some ⟨B,0,none⟩))) w:=by kernel_rfl
theorem order_v (A:Option Addr) (c n:Nat) (Z:List Gz) (e:Nat→Nat→Bool) (w:World) (hg:Gw11 w A c Z) (hz:Z.map (·.2.2)=gre11 e n) (hn:n≤1000) :
  Calls Tryz.prog 98 #[.slice A n c] w fun r w'=>Ns11 w w' (ot11 e n) r:=by
 have hzl:Z.length=n:=by have:=congrArg List.length hz;simpa [gre11] using this
 have HG:=zhy hg
 have HZ:=zhy hz
 have HZL:=zhy hzl
 obtain ⟨T,hT⟩:∃T,ot11 e n=T:=⟨_,rfl⟩
 have HT:=zhy hT
 rw [hT]
 clear hg hz hzl hT
 obtain ⟨M,hM⟩:∃M,w.heap.size=M:=⟨_,rfl⟩
 have HM:=zhy hM
 have hmm:=@run_makeMap Tryz.prog
 go_enter Tryz.func98,Tryz.ntmps98
 go_wp2_with fail
 obtain ⟨B,hB⟩:∃B,M+1=B:=⟨_,rfl⟩
 have HBM:=zhy hB
 rw [hB]
 have hs0:((w.alloc (.map #[] 0)).alloc (.cells #[.slice none 0 0] 240)).heap.size=M+2:=by rw [size1,size1,hM]
 have HMo0:Hid (Mo11 ((w.alloc (.map #[] 0)).alloc (.cells #[.slice none 0 0] 240)) M (.map [])):=zhy (by
  have:=(World.ownsMap_made (H:=Unit) w Tryz.prog 3 (plainElem Tryz.prog 3)).alloc (.cells #[.slice none 0 0] 240);rw [hM] at this;exact Mo11.of this)
 have HHx0:Hid (Hx11 ((w.alloc (.map #[] 0)).alloc (.cells #[.slice none 0 0] 240)) (M+2) B none 0 [] fun t=>t<0∧cn11 e n [] t=0):=zhy ⟨⟨by
  have:=Boxed.new (w.alloc (.map #[] 0)) 240 (.slice none 0 0);rw [size1,hM,hB] at this;exact this,World.ownsRow_nil _ _ _ _⟩,List.nodup_nil,fun i h0 hi=>(by cases hi),fun x=>⟨fun h=>(by cases h),fun ⟨t,h,_⟩=>(by omega)⟩⟩
 have HBe0:Hid (Below M w ((w.alloc (.map #[] 0)).alloc (.cells #[.slice none 0 0] 240))):=zhy (((Below.refl M w).alloc (by omega) _).alloc (by rw [size1];omega) _)
 generalize (w.alloc (.map #[] 0)).alloc (.cells #[.slice none 0 0] 240)=w1 at HMo0 HHx0 HBe0 hs0 ⊢
 clear hM hB hmm
 have hmi:=mip11 B
 go_loopw [18] (fun iv wr=>∃(k:Nat) (D:DataW Unit) (A:Option Addr) (c:Nat) (l:List Int),k≤n∧iv=.int .i64 k∧Hid (Mo11 wr M D)∧Hid (Mf11 D n fun t=>decide (t<k))∧Hid (At11 D (fun t=>decide (t<k)) fun t=>cn11 e n [] t)∧Hid (Hx11 wr (M+2) B A c l fun t=>t<k∧cn11 e n [] t=0)∧Hid (Below M w wr)∧M+2≤wr.heap.size) (fun iv _=>n-(intOf iv).toNat)
 case atStart=>exact ⟨0,_,_,_,_,by omega,rfl,HMo0,zhy (by simpa using Mf11.nil (H:=Unit) n),zhy (fun t ht=>by simp at ht),HHx0,HBe0,by omega⟩
 case round =>
  clear HMo0 HHx0 HBe0 hs0
  obtain ⟨k,D,A1,c1,l1,hk,rfl,HMo,HMf,HAt,HHx,HBe,hsz⟩:=hrel
  rename World=>wr
  by_cases h1:k<n
  ·obtain ⟨⟨Ak,ck,K⟩,hzk,hKE⟩:=rel_at11 HZL.out HZ.out h1
   dsimp only at hKE
   obtain ⟨ad,hA,y0,hrk⟩:=(HG.out.keep (by rw [HM.out];exact HBe.out)).at_ hzk
   subst hA
   rw [gv11] at y0
   dsimp only at y0 hrk
   obtain ⟨kn,hkn⟩:∃kn,K.length=kn:=⟨_,rfl⟩
   rw [hkn] at y0
   have hkn9:kn≤n:=by rw [←hkn,hKE];exact fil_len11 _ _
   have HCN:Hid (cn11 e n [] k=kn):=zhy (by rw [cn11_nil,←hkn,hKE,ns11,List.length_map])
   have HSZ:Hid (size D≤n):=zhy (by
    rw [HMf.out.size,cp11];have:=List.length_filter_le (fun t=>decide (t<k)) (List.range n);rwa [List.length_range] at this)
   clear hrk hzk hkn hKE
   have HMf2:Hid (Mf11 (D.put (kl11 k) (.lit (.int .i64 kn))) n fun t=>decide (t<k+1)):=zhy (HMf.out.put h1 _ (by simp) fun j hj=>by simp;omega)
   have HAt2:Hid (At11 (D.put (kl11 k) (.lit (.int .i64 kn))) (fun t=>decide (t<k+1)) fun t=>cn11 e n [] t):=zhy (HAt.out.put HMf.out (by rw [HCN.out]) fun j hj hq=>⟨by simp at hq ⊢;omega,rfl⟩)
   by_cases hk0:kn=0
   ·have hb0:((kn:Int)==0)=true:=by simp;omega
    have HK0:=zhy hk0
    clear hk0
    go_wp2_with (at_mapUpdate;refine wpList_mapUpdate_own _ rfl _ _ _ 236 rfl 3 3 law11 Tryz.underlying236 _ M (size D) D rfl HMo.out (by have:=HSZ.out;unfold maxLen;omega) _ _ (kl11 k) rfl rfl (key11 (by omega)) (.lit (.int .i64 kn)) [] (plainElem_int Tryz.underlying3 (wf11 (by omega) (by omega))) ?_;intro w2 hown2 hgrow2;have HMo2:=zhy (Mo11.of hown2);have HHx2:=zhy (HHx.out.grown hgrow2 (by have:=HBM.out;simp;omega) (fun b hb=>by have:=(HHx.out.xr b hb).1;simp;omega));have HBe2:=zhy (HBe.out.grown hgrow2 (by omega) (fun j hj=>by injection hj with hj;omega));have hsz2:=Nat.le_trans hsz hgrow2.size;clear hown2 hgrow2)
    have HPU:=zhy (hpush11_v (M+2) B l1.length c1 A1 l1 (k:Int) w2 HHx2.out.hb rfl (by have:=HHx2.out.len (n:=n) (fun t ht=>by omega);omega) hsz2 HHx2.out.hp)
    have hmk:=mi11 (k:Int)
    clear HMo HMf HAt HHx HBe
    refine HPU.out.mono ?_
    rintro r w3 ⟨rfl,g',c',l',hb,hp,hh,hf,-⟩
    have HHx3:Hid (Hx11 w3 (M+2) B (some ⟨g',0,none⟩) c' l' fun t=>t<k+1∧cn11 e n [] t=0):=zhy ((HHx2.out.push hb hp hh (fun h=>by omega)).congr fun t=>⟨fun h=>by
     rcases h with ⟨a,b⟩ | rfl
     ·exact ⟨by omega,b⟩
     ·exact ⟨by omega,by have:=HCN.out;have:=HK0.out;omega⟩,fun ⟨a,b⟩=>by
     by_cases e:t=k
     ·exact .inr e
     ·exact .inl ⟨by omega,b⟩⟩)
    have HMo3:Hid (Mo11 w3 M (D.put (kl11 k) (.lit (.int .i64 kn)))):=zhy (hf.map HMo2.out (fun e=>by
     have:=HBM.out;rcases e with e | e
     ·omega
     ·have:=(HHx2.out.xr _ e).1;omega))
    have HBe3:Hid (Below M w w3):=zhy (HBe2.out.trans (hf.below (B:=M) fun j hj=>⟨by omega,fun e=>by
     have:=HBM.out;rcases e with e | e
     ·omega
     ·have:=(HHx2.out.xr _ e).1;omega⟩))
    have hsz3:=Nat.le_trans hsz2 hf.size
    clear hb hp hh hf HPU HMo2 HHx2 HBe2
    go_wp2_with fail
    go_roundw
    case rel=>exact ⟨k+1,_,_,_,_,by omega,by go_num,HMo3,HMf2,HAt2,HHx3,HBe3,hsz3⟩
    case measure=>simp [intOf];omega
   ·have hb0:((kn:Int)==0)=false:=by simp;omega
    have HK0:=zhy hk0
    clear hk0
    go_wp2_with (at_mapUpdate;refine wpList_mapUpdate_own _ rfl _ _ _ 236 rfl 3 3 law11 Tryz.underlying236 _ M (size D) D rfl HMo.out (by have:=HSZ.out;unfold maxLen;omega) _ _ (kl11 k) rfl rfl (key11 (by omega)) (.lit (.int .i64 kn)) [] (plainElem_int Tryz.underlying3 (wf11 (by omega) (by omega))) ?_;intro w2 hown2 hgrow2;have HMo2:=zhy (Mo11.of hown2);have HHx2:=zhy (HHx.out.grown hgrow2 (by have:=HBM.out;simp;omega) (fun b hb=>by have:=(HHx.out.xr b hb).1;simp;omega));have HBe2:=zhy (HBe.out.grown hgrow2 (by omega) (fun j hj=>by injection hj with hj;omega));have hsz2:=Nat.le_trans hsz hgrow2.size;clear hown2 hgrow2)
    have HHx3:Hid (Hx11 w2 (M+2) B A1 c1 l1 fun t=>t<k+1∧cn11 e n [] t=0):=zhy (HHx2.out.congr fun t=>⟨fun ⟨a,b⟩=>⟨by omega,b⟩,fun ⟨a,b⟩=>⟨by
     by_cases e:t=k
     ·subst e;have:=HCN.out;have:=HK0.out;omega
     ·omega,b⟩⟩)
    clear HMo HMf HAt HHx HBe
    go_roundw
    case rel=>exact ⟨k+1,_,A1,c1,l1,by omega,by go_num,HMo2,HMf2,HAt2,HHx3,HBe2,hsz2⟩
    case measure=>simp [intOf];omega
  ·obtain rfl:n=k:=by omega
   have HCA:=zhy (callers_v A c n Z e wr (HG.out.keep (by rw [HM.out];exact HBe.out)) HZ.out hn)
   go_wp2_with fail
   refine HCA.out.mono ?_
   rintro r w3 ⟨Aq,cq,Y,rfl,hgo,hyl,hym,hb3⟩
   obtain ⟨N1,hN1⟩:∃N1,wr.heap.size=N1:=⟨_,rfl⟩
   obtain ⟨N2,hN2⟩:∃N2,w3.heap.size=N2:=⟨_,rfl⟩
   rw [hN1] at hgo
   have hK:Kb11 M B N1 N2 w3:=⟨HBM.out,by omega,by rw [←hN1,←hN2];exact hb3.size,hN2⟩
   have HB3:Hid (Below M w w3):=zhy (HBe.out.trans (hb3.mono (by omega)))
   have HGO:=zhy hgo
   have HYL:=zhy hyl
   have HYM:=zhy hym
   have HO0:Hid (Os11 M B N1 N2 n w3 w3 [] (po11 n []) (fun t=>cn11 e n [] t) (so11 e n []) D A1 c1 l1 none 0 0):=zhy (by
    have hx3:=HHx.out.keep hb3;refine ⟨(Fr11.of_below (X:=fun _=>False) hb3 (fun j h1 h2=>by omega)).map HMo.out id,?_,?_,hx3.congr fun t=>?_,World.ownsRow_nil _ _ _ _,fun b _ h=>(by obtain ⟨ad,h,_⟩:=h;cases h),Fr11.refl _ _,fun b hb=>.inl ?_,by omega⟩
    ·have:po11 n []=fun t=>decide (t<n):=by funext t;simp [po11]
     rw [this];exact HMf.out
    ·intro t ht;exact HAt.out t (by simp [po11] at ht;simp;exact ht)
    ·rw [so11,rd11_cn (by simp),beq_iff_eq]
    ·have:=(HHx.out.xr b hb).2;omega)
   clear hgo hyl hym hb3 HMo HMf HAt HHx HBe hsz hN1 HCA
   dsimp only
   go_wp2_with fail
   go_loopw [8] (fun ov wq=>∃(o:List Nat) (D:DataW Unit) (A2:Option Addr) (c2:Nat) (l2:List Int) (Ao:Option Addr) (co no:Nat),no≤n∧ov=.slice Ao no co∧Hid (o.length=no)∧Hid (Ok11 e n o)∧Hid (or11 e n=od11 e n (n-no) o)∧Hid (Os11 M B N1 N2 n w3 wq o (po11 n o) (fun t=>cn11 e n o t) (so11 e n o) D A2 c2 l2 Ao co no)) (fun ov _=>n-slen11 ov)
   case atStart=>exact ⟨[],D,A1,c1,l1,none,0,0,by omega,rfl,zhy rfl,zhy Ok11.nil,zhy rfl,HO0⟩
   case round =>
    clear HO0
    obtain ⟨o,D,A2,c2,l2,Ao,co,no,hno,rfl,HOL,HOK,HOD,HOS⟩:=hrel
    rename World=>wq
    have hc0:=HOS.out.hx.hb.box.cell
    obtain ⟨ln,hln⟩:∃ln,l2.length=ln:=⟨_,rfl⟩
    rw [hln] at hc0
    have HLN:=zhy hln
    have hln9:ln≤n:=by rw [←hln];exact HOS.out.hx.len fun t ht=>ht.1
    by_cases h2:0<ln
    ·obtain ⟨q,rfl⟩:∃q,ln=q+1:=⟨ln-1,by omega⟩
     obtain ⟨g,c2',hv⟩:=own_some11 HOS.out.hx.hb.own (by omega)
     injection hv with e1 e2 e3
     subst e1 e3
     have HPO:=zhy (hpop11_v (M+2) B g c2 q l2 wq HOS.out.hx.hb HLN.out (by omega) (by have:=HOS.out.hx.hp;rwa [HLN.out] at this))
     clear e2 hln
     go_wp2_with fail
     refine (len11_v (some ⟨g,0,none⟩) (q+1) c2 wq).mono ?_
     rintro r w4 ⟨rfl,rfl⟩
     clear hc0
     go_wp2_with fail
     refine HPO.out.mono ?_
     rintro r w4 ⟨x,l',rfl,hb4,hp4,hl4,hh4,hm4,hf4⟩
     obtain ⟨k,hks,rfl⟩:∃k,so11 e n o k∧x=(k:Int):=(HOS.out.hx.mem x).1 (hp4.mem_iff.1 (List.mem_cons_self ..))
     have HNK:Hid (Nk11 e n o k):=zhy ⟨HOK.out,hks.1,nx11_of (fun i hi=>by
      cases hr:rd11 e n o i with
      | false=>rfl
      | true =>
       have:=hm4 i ((HOS.out.hx.mem i).2 ⟨i,⟨by have:=hks.1;omega,hr⟩,rfl⟩);omega) hks.2 hks.1⟩
     have hkn:k<n:=hks.1
     have hnn:no<n:=by rw [←HOL.out];exact HNK.out.len
     have HO4:=zhy (HOS.out.pop hK hb4 hp4 (by rw [hl4];exact hh4) hf4)
     have hta:=ta11 (k:Int)
     clear hb4 hp4 hl4 hh4 hm4 hf4 HPO HOS hks
     obtain ⟨⟨Ak,ck,K⟩,hyk,hyl⟩:=rel_at11 HYL.out HYM.out hkn
     dsimp only at hyl
     obtain ⟨adq,hAq,-,-⟩:=HGO.out.gw.at_ hyk
     subst hAq
     obtain ⟨kn,hkl⟩:∃kn,K.length=kn:=⟨_,rfl⟩
     have HYK:=zhy hyk
     have HKE:=zhy hyl
     have HKL:=zhy hkl
     have hkl9:kn≤n:=by rw [←hkl,hyl];exact fil_len11 _ _
     have HMf5:Hid (Mf11 (D.del (kl11 k)) n (po11 n (o++[k]))):=zhy (HO4.out.mf.del (po11_iff.2 ⟨hkn,HNK.out.nin⟩) (by rw [←Bool.not_eq_true,po11_snoc];simp) fun j hj=>by rw [Bool.eq_iff_iff,po11_snoc];exact ⟨fun h=>h.1,fun h=>⟨h,hj⟩⟩)
     have HAt5:Hid (At11 (D.del (kl11 k)) (po11 n (o++[k])) fun t=>cn11 e n o t):=zhy (HO4.out.at_.del fun j hj=>⟨(po11_snoc.1 hj).2,(po11_snoc.1 hj).1⟩)
     clear hyk hyl hkl
     go_wp2_with (at_delete;refine wpList_delete_own _ rfl _ _ 236 3 rfl 3 law11 Tryz.underlying236 _ M (size D) D rfl HO4.out.mo _ _ rfl (key11 (by omega)) ?_)
     intro w5 hown5 hturn5
     have HO5:=zhy (HO4.out.turn hK hturn5.grown (Mo11.of hown5) HMf5.out HAt5.out)
     have HOT:=zhy (HO5.out.ord.alloc (.cells #[.int .i64 (k:Int)] 3))
     have hc1:(w5.alloc (.cells #[.int .i64 (k:Int)] 3)).cell? ((⟨w5.heap.size,0,none⟩:Addr).add 0)=some (.int .i64 (k:Int)):=by simp [go_sem,Addr.add]
     clear hown5 hturn5 HO4
     go_wp2_with (at_builtin;refine wpList_append_n1 rfl (.tmp 50) (.tmp 52) 59 Tryz.underlying59 rfl N2 _ no (ns11 o) rfl HOT.out _ (k:Int) rfl hc1 (by omega) (by have:=HO5.out.sz;rw [size1];omega) ?_)
     intro g6 c6 w6 ho6 hg6 hl6
     have HO6:=zhy (HO5.out.app hK ho6 hg6 (by rw [size1];exact hl6))
     obtain ⟨_,hA',y0,hrk⟩:=(HGO.out.fr HO6.out.fr (fun j hj e=>by omega)).gw.at_ HYK.out
     injection hA' with hA'
     subst hA'
     rw [gv11] at y0
     dsimp only at y0
     rw [HKL.out] at y0
     clear ho6 hg6 hl6 HO5 HOT hc1 hrk
     go_wp2_with fail
     clear y0
     have HO7:Hid (Os11 M B N1 N2 n w3 w6 (o++[k]) (po11 n (o++[k])) (fi11 e n k o 0) (si11 e n k o 0) (D.del (kl11 k)) (some ⟨g,0,none⟩) c2 l' (some ⟨g6,0,none⟩) c6 (no+1)):=zhy (HO6.out.congr (fun t _=>by simp [fi11]) fun t=>by simp [si11])
     clear HO6 HMf5 HAt5
     have HWL:Hid ((wk11 e n k).length=kn):=zhy (by have:=HKL.out;rw [HKE.out,ns11,List.length_map] at this;exact this)
     go_loopw [59] (fun iv wx=>∃(i:Nat) (D:DataW Unit) (A2:Option Addr) (c2:Nat) (l2:List Int),i≤kn∧iv=.int .i64 i∧Hid (Os11 M B N1 N2 n w3 wx (o++[k]) (po11 n (o++[k])) (fi11 e n k o i) (si11 e n k o i) D A2 c2 l2 (some ⟨g6,0,none⟩) c6 (no+1))) (fun iv _=>kn-(intOf iv).toNat)
     case atStart=>exact ⟨0,_,_,_,_,by omega,rfl,HO7⟩
     case round =>
      clear HO7
      obtain ⟨i,D,A2,c2,l2,hi,rfl,HOX⟩:=hrel
      rename World=>wx
      by_cases h3:i<kn
      ·obtain ⟨t,ht⟩:∃t,(wk11 e n k)[i]?=some t:=⟨_,zg7 (by rw [HWL.out];exact h3)⟩
       obtain ⟨t1,t2,t3,t4,t5,t6⟩:=HNK.out.step ht
       obtain ⟨adk,hAk,z0⟩:=((HGO.out.fr HOX.out.fr (fun j hj e=>by omega)).gw.each _ (List.mem_of_getElem? HYK.out)).at_ (i:=i) (x:=(t:Int)) (by dsimp only;rw [HKE.out];exact ns11_at ht)
       dsimp only at hAk
       subst hAk
       have HAT:Hid (D.atKey (kl11 t) (.lit (.int .i64 0))=.lit (.int .i64 (fi11 e n k o i t))):=zhy (HOX.out.at_ t t3)
       have HSZ:Hid (size D≤n):=zhy (by
        rw [HOX.out.mf.size,cp11];have:=List.length_filter_le (po11 n (o++[k])) (List.range n);rwa [List.length_range] at this)
       obtain ⟨v,hv⟩:∃v,cn11 e n (o++[k]) t=v:=⟨_,rfl⟩
       have hv9:v≤n:=by rw [←hv];exact cn11_le
       rw [t4,hv] at HAT
       rw [hv] at t5
       have ev:((v:Int)+1-1)=(v:Int):=by omega
       have HT:=zhy ht
       have HT5:=zhy t5
       have HT3:=zhy t3
       have HT6:=zhy t6
       have HV:=zhy hv
       have HMf6:Hid (Mf11 (D.put (kl11 t) (.lit (.int .i64 (v:Int)))) n (po11 n (o++[k]))):=zhy (HOX.out.mf.put t1 _ t3 fun j hj=>rfl)
       have HAt6:Hid (At11 (D.put (kl11 t) (.lit (.int .i64 (v:Int)))) (po11 n (o++[k])) (fi11 e n k o (i+1))):=zhy (HOX.out.at_.put HOX.out.mf t5 fun j hj hq=>⟨hq,HNK.out.fi_other ht hj⟩)
       clear t2 t3 t4 t5 t6 ht hv
       go_wp2_with (at_lookup;refine wpList_lookup_own_int _ rfl _ _ 236 rfl 3 3 .i64 law11 Tryz.underlying236 Tryz.underlying3 (zero11 _) M (size D) D rfl HOX.out.mo _ _ rfl (key11 (by omega)) ?_)
       intro x hat hwx
       have hx:x=(v:Int)+1:=by
        have h:=hat.symm.trans HAT.out;injection h with h;injection h
       clear hat hwx HAT
       go_wp2_with (at_mapUpdate;refine wpList_mapUpdate_own _ rfl _ _ _ 236 rfl 3 3 law11 Tryz.underlying236 _ M (size D) D rfl HOX.out.mo (by have:=HSZ.out;unfold maxLen;omega) _ _ (kl11 t) rfl rfl (key11 (by omega)) (.lit (.int .i64 (v:Int))) [] (plainElem_int Tryz.underlying3 (wf11 (by omega) (by omega))) ?_)
       intro w7 hown7 hgrow7
       have HO8:=zhy (HOX.out.turn hK hgrow7 (Mo11.of hown7) HMf6.out HAt6.out)
       clear hown7 hgrow7 HOX hx
       go_wp2_with (at_lookup;refine wpList_lookup_own_int _ rfl _ _ 236 rfl 3 3 .i64 law11 Tryz.underlying236 Tryz.underlying3 (zero11 _) M (size (D.put (kl11 t) (.lit (.int .i64 (v:Int))))) (D.put (kl11 t) (.lit (.int .i64 (v:Int)))) rfl HO8.out.mo _ _ rfl (key11 (by omega)) ?_)
       intro x2 hat2 hwx2
       have hx2:x2=(v:Int):=by
        have h:=hat2.symm.trans (HAt6.out t HT3.out);injection h with h;injection h with _ h;rw [h,HT5.out]
       clear hat2 hwx2
       by_cases hv0:v=0
       ·have hb0:((v:Int)==0)=true:=by simp;omega
        have HV0:=zhy hv0
        clear hv0
        have HPU:=zhy (hpush11_v (M+2) B l2.length c2 A2 l2 (t:Int) w7 HO8.out.hx.hb rfl (by have:=HO8.out.hx.len (n:=n) (fun j hj=>by rcases hj with h | h;exact h.1.1;exact (wk11_mem.1 (List.mem_of_mem_take h.1)).1);omega) (by have:=HO8.out.sz;have:=hK.n1;have:=hK.n2;omega) HO8.out.hx.hp)
        go_wp2_with fail
        refine HPU.out.mono ?_
        rintro r w8 ⟨rfl,g8,c8,l8,hb8,hp8,hh8,hf8,hg8⟩
        have HO9:Hid (Os11 M B N1 N2 n w3 w8 (o++[k]) (po11 n (o++[k])) (fi11 e n k o (i+1)) (si11 e n k o (i+1)) (D.put (kl11 t) (.lit (.int .i64 (v:Int)))) (some ⟨g8,0,none⟩) c8 l8 (some ⟨g6,0,none⟩) c6 (no+1)):=zhy ((HO8.out.push hK hb8 hp8 hh8 HT6.out hf8 hg8).congr (fun _ _=>rfl) (HNK.out.si_zero HT.out (by rw [HV.out,HV0.out])))
        clear hb8 hp8 hh8 hf8 hg8 HPU HO8 HMf6 HAt6
        go_wp2_with fail
        go_roundw
        case rel=>exact ⟨i+1,_,_,_,_,by omega,by go_num,HO9⟩
        case measure=>simp [intOf];omega
       ·have hb0:((v:Int)==0)=false:=by simp;omega
        have HO9:Hid (Os11 M B N1 N2 n w3 w7 (o++[k]) (po11 n (o++[k])) (fi11 e n k o (i+1)) (si11 e n k o (i+1)) (D.put (kl11 t) (.lit (.int .i64 (v:Int)))) A2 c2 l2 (some ⟨g6,0,none⟩) c6 (no+1)):=zhy (HO8.out.congr (fun _ _=>rfl) (HNK.out.si_more HT.out (by rw [HV.out];exact hv0)))
        clear HO8 HMf6 HAt6 hv0
        go_wp2_with fail
        go_roundw
        case rel=>exact ⟨i+1,_,_,_,_,by omega,by go_num,HO9⟩
        case measure=>simp [intOf];omega
      ·obtain rfl:kn=i:=by omega
       have HLE:Hid ((wk11 e n k).length≤kn):=zhy (Nat.le_of_eq HWL.out)
       have HO8:Hid (Os11 M B N1 N2 n w3 wx (o++[k]) (po11 n (o++[k])) (fun t=>cn11 e n (o++[k]) t) (so11 e n (o++[k])) D A2 c2 l2 (some ⟨g6,0,none⟩) c6 (no+1)):=zhy (HOX.out.congr (fun t ht=>HNK.out.fi_end HLE.out ht) fun t=>HNK.out.si_end HLE.out t)
       have HOK2:Hid (Ok11 e n (o++[k])):=zhy (HOK.out.snoc HNK.out.nx)
       have HOL2:Hid ((o++[k]).length=no+1):=zhy (by rw [List.length_append,HOL.out];rfl)
       have HOD2:Hid (or11 e n=od11 e n (n-(no+1)) (o++[k])):=zhy (by rw [HOD.out,show n-no=(n-(no+1))+1 by omega,od11,HNK.out.nx])
       clear HOX
       go_wp2_with fail
       go_roundw
       case rel=>exact ⟨o++[k],D,A2,c2,l2,_,c6,no+1,by omega,rfl,HOL2,HOK2,HOD2,HO8⟩
       case measure=>simp [slen11];omega
    ·obtain rfl:ln=0:=by omega
     have HNO:Hid (∀t,t<n→rd11 e n o t=false):=zhy fun t ht=>by
      cases hr:rd11 e n o t with
      | false=>rfl
      | true =>
       have:=(HOS.out.hx.mem t).2 ⟨t,⟨ht,hr⟩,rfl⟩;rw [List.length_eq_zero_iff.1 HLN.out] at this;cases this
     have HSI:Hid (size D=cp11 n (po11 n o)):=zhy HOS.out.mf.size
     have HBE:Hid (Below M w wq):=zhy (HB3.out.trans (HOS.out.fr.below (B:=M) fun j hj=>⟨by have:=HB3.out.size;have:=HM.out;omega,fun e=>by omega⟩))
     have HBE2:Hid (Below w.heap.size w wq):=zhy (by rw [HM.out];exact HBE.out)
     have HOW:Hid (wq.ownsRow w.heap.size 3 1 (.slice Ao no co) no (ci9 (ns11 o))):=zhy (own_base HOS.out.ord (by have:=HM.out;have:=hK.n1;have:=hK.n2;omega))
     clear hln
     go_wp2_with fail
     refine (len11_v A2 0 c2 wq).mono ?_
     rintro r w4 ⟨rfl,rfl⟩
     clear hc0
     by_cases hnn:no=n
     ·have HZ0:size D=0:=by
       rw [HSI.out,cp11_zero];intro t ht;rw [←Bool.not_eq_true,po11_iff];intro h;exact h.2 (all11 HOK.out.nd HOK.out.lt (by rw [HOL.out];exact hnn) t ht)
      have HTE:Hid (T=(ns11 o,0)):=zhy (by rw [←HT.out,ot11,HOD.out,hnn,Nat.sub_self,od11])
      have HNL:Hid ((ns11 o).length=no):=zhy (by rw [ns11,List.length_map];exact HOL.out)
      clear hnn HSI
      go_wp2_with (at_len;refine wpList_len_own _ rfl _ 236 rfl 3 3 Tryz.underlying236 _ M (size D) D rfl HOS.out.mo ?_)
      go_ret2
      exact ⟨Ao,co,by rw [HTE.out,HNL.out];rfl,by rw [HTE.out];dsimp only;rw [HNL.out];exact HOW.out,HBE2.out⟩
     ·have HZ0:0<size D:=by
       rw [HSI.out];refine Nat.pos_of_ne_zero fun h=>?_;rw [cp11_zero] at h
       have h1:=nd_le11 (l:=ns11 (List.range n)) (k:=ns11 o) (by
        rw [ns11,List.Nodup,List.pairwise_map]
        exact List.nodup_range.imp fun h e=>h (by omega)) (fun x hx=>by
        rw [ns11,List.mem_map] at hx ⊢;obtain ⟨j,hj,rfl⟩:=hx;refine ⟨j,?_,rfl⟩;have h2:=h j (List.mem_range.1 hj);rw [←Bool.not_eq_true,po11_iff] at h2;by_cases hm:j∈o
        ·exact hm
        ·exact absurd ⟨List.mem_range.1 hj,hm⟩ h2)
       rw [ns11,List.length_map,List.length_range,ns11,List.length_map,HOL.out] at h1;omega
      have HTE:Hid (T=([],110)):=zhy (by rw [←HT.out,ot11,HOD.out,show n-no=(n-(no+1))+1 by omega,od11,nx11_no HNO.out])
      have HE:=zhy (Ns11.err HTE.out HBE2.out)
      clear hnn HSI
      go_wp2_with (at_len;refine wpList_len_own _ rfl _ 236 rfl 3 3 Tryz.underlying236 _ M (size D) D rfl HOS.out.mo ?_)
      go_ret2
      exact HE.out
open Go.RowKit Go.Maps
theorem Go11.keep {w w':World} {base c:Nat} {A:Option Addr} {Z:List Gz} (h:Go11 w base A c Z) (hb:Below w.heap.size w w'):Go11 w' base A c Z:=⟨own_below h.row hb (Nat.le_refl _),fun z hz=>own_below (h.each z hz) hb (Nat.le_refl _)⟩
theorem Go11.base {w:World} {base base' c:Nat} {A:Option Addr} {Z:List Gz} (h:Go11 w base A c Z) (hb:base'≤base):Go11 w base' A c Z:=⟨own_base h.row hb,fun z hz=>own_base (h.each z hz) hb⟩
theorem ro11_ot {d:Md} (h:ba11 d=false):ro11 d=ot11 (e11 d) d.s.length:=by
 rw [ro11,if_neg (by rw [h];simp),ot11];cases or11 (e11 d) d.s.length<;>rfl
theorem ro11_ba {d:Md} (h:ba11 d=true):ro11 d=([],2):=by rw [ro11,if_pos h]
theorem gr11_gre (d:Md):gr11 d=gre11 (e11 d) d.s.length:=rfl
def Od11 (w w':World) (d:Md) (r:Ending):Prop:=
 (ba11 d=true∧r=.returned (.tuple #[.slice none 0 0,.slice none 0 0,.int .i64 2])∧Below w.heap.size w w') ∨
 (ba11 d=false∧∃A c Z Ao co,r=.returned (.tuple #[.slice A d.s.length c,.slice Ao (ro11 d).1.length co,.int .i64 (ro11 d).2])∧Go11 w' w.heap.size A c Z∧Z.map (·.2.2)=gr11 d∧w'.ownsRow w.heap.size 3 1 (.slice Ao (ro11 d).1.length co) (ro11 d).1.length (ci9 (ro11 d).1)∧Below w.heap.size w w')
theorem ordered_v (y:Ma) (d:Md) (w:World) (hq:Hq w y d) (bs:d.s.length≤1000) (bl:∀z∈d.s,z.2.length≤1000):Calls Tryz.prog 51 #[dv y d] w fun r w'=>Od11 w w' d r:=by
 obtain ⟨sn,hsn⟩:∃sn,d.s.length=sn:=⟨_,rfl⟩;have HSN:=zhy hsn;have S0:=zhy ((((Sx.start w).add (fQm y d) hq).mkD y d));obtain ⟨B,hB⟩:∃B,w.heap.size=B:=⟨_,rfl⟩;have HBB:=zhy hB;rw [hB] at S0;have HBS:=zhy bs;have HBL:=zhy bl;clear hq bs bl hsn;go_enter Tryz.func51,Tryz.ntmps51;go_upto_region 1 with (fail);change Code.wp _ _ _ _ (w.alloc (dcel y d));generalize w.alloc (dcel y d)=w1 at S0 ⊢;clear hB;have HGR:=zhy (graphOf_v y d w1 S0.out.2.2.1 HBS.out HBL.out);obtain ⟨-,⟨d0,d1,d2,d3,d4⟩,-⟩:=S0.out;go_wp2_with fail;refine HGR.out.mono ?_;clear HGR d0 d1 d2 d3 d4;rintro r w2 h;rcases h with ⟨hba,rfl,hb⟩ | ⟨hba,A,c,Z,rfl,hgo,hgr,hb⟩
 ·have HBF:=zhy (S0.out.call hb).1;have HBA:=zhy hba;clear hb hba S0;go_wp2_with fail;refine bodyPost_ret (v:=.tuple #[.slice none 0 0,.slice none 0 0,.int .i64 2]) (by simp [results,Tryz.results51,go_sem]) rfl ?_;exact .inl ⟨HBA.out,rfl,HBF.out⟩
 ·rw [HSN.out];have HBA:=zhy hba;have HGO:=zhy hgo;have HGRR:=zhy hgr;have HBF:=zhy (S0.out.call hb).1;have hsz:w.heap.size≤w1.heap.size:=S0.out.1.size;have HOR:=zhy (order_v A c sn Z (e11 d) w2 hgo.gw (by rw [hgr,gr11_gre,HSN.out]) (by rw [←HSN.out];exact HBS.out));clear hb hba hgo hgr S0;go_wp2_with fail;refine HOR.out.mono ?_;rintro r w3 ⟨Ao,co,rfl,ho,hb⟩;have HBF3:=zhy (below_on HBF.out hb);have HGO3:=zhy ((HGO.out.keep hb).base hsz);have HO3:=zhy (own_base (base':=w.heap.size) ho HBF.out.size);have HRO:Hid (ro11 d=ot11 (e11 d) sn):=zhy (by rw [ro11_ot HBA.out,HSN.out]);rw [←HRO.out];rw [←HRO.out] at HO3;clear ho hb HOR HGO HBF;go_wp2_with fail;refine bodyPost_ret (v:=.tuple #[.slice A sn c,.slice Ao (ro11 d).1.length co,.int .i64 (ro11 d).2]) (by simp [results,Tryz.results51,go_sem]) rfl ?_;exact .inr ⟨HBA.out,A,c,Z,Ao,co,by rw [HSN.out],HGO3.out,HGRR.out,HO3.out,HBF3.out⟩
theorem check11_v (y:Ma) (d:Md) (w:World) (hq:Hq w y d) (bs:d.s.length≤1000) (bl:∀z∈d.s,z.2.length≤1000):Calls Tryz.prog 25 #[dv y d] w fun r w'=>r=.returned (.int .i64 (ro11 d).2)∧Below w.heap.size w w':=by
 have S0:=zhy ((((Sx.start w).add (fQm y d) hq).mkD y d));obtain ⟨B,hB⟩:∃B,w.heap.size=B:=⟨_,rfl⟩;have HBB:=zhy hB;rw [hB] at S0;have HBS:=zhy bs;have HBL:=zhy bl;clear hq bs bl;go_enter Tryz.func25,Tryz.ntmps25;go_upto_region 1 with (fail);change Code.wp _ _ _ _ (w.alloc (dcel y d));generalize w.alloc (dcel y d)=w1 at S0 ⊢;clear hB;have HGR:=zhy (ordered_v y d w1 S0.out.2.2.1 HBS.out HBL.out);obtain ⟨-,⟨d0,d1,d2,d3,d4⟩,-⟩:=S0.out;go_wp2_with fail;refine HGR.out.mono ?_;clear HGR d0 d1 d2 d3 d4;rintro r w2 h;rcases h with ⟨hba,rfl,hb⟩ | ⟨hba,A,c,Z,Ao,co,rfl,-,-,-,hb⟩
 ·have HBF:=zhy (S0.out.call hb).1;have HRO:Hid ((ro11 d).2=2):=zhy (by rw [ro11_ba hba]);clear hb hba S0;go_wp2_with fail;go_ret;exact ⟨by rw [HRO.out];rfl,HBF.out⟩
 ·have HBF:=zhy (S0.out.call hb).1;clear hb hba S0;go_wp2_with fail;go_ret;exact ⟨rfl,HBF.out⟩
theorem order11_v (y:Ma) (d:Md) (w:World) (hq:Hq w y d) (bs:d.s.length≤1000) (bl:∀z∈d.s,z.2.length≤1000):Calls Tryz.prog 56 #[dv y d] w fun r w'=>Ns11 w w' (ro11 d) r:=by
 have S0:=zhy ((((Sx.start w).add (fQm y d) hq).mkD y d));obtain ⟨B,hB⟩:∃B,w.heap.size=B:=⟨_,rfl⟩;have HBB:=zhy hB;rw [hB] at S0;have HBS:=zhy bs;have HBL:=zhy bl;clear hq bs bl;go_enter Tryz.func56,Tryz.ntmps56;go_upto_region 1 with (fail);change Code.wp _ _ _ _ (w.alloc (dcel y d));generalize w.alloc (dcel y d)=w1 at S0 ⊢;clear hB;have HGR:=zhy (ordered_v y d w1 S0.out.2.2.1 HBS.out HBL.out);obtain ⟨-,⟨d0,d1,d2,d3,d4⟩,-⟩:=S0.out;go_wp2_with fail;refine HGR.out.mono ?_;clear HGR d0 d1 d2 d3 d4;rintro r w2 h;rcases h with ⟨hba,rfl,hb⟩ | ⟨hba,A,c,Z,Ao,co,rfl,-,-,ho,hb⟩
 ·have HBF:=zhy (S0.out.call hb).1;have HE:=zhy (Ns11.err (ro11_ba hba) HBF.out);clear hb hba S0;go_wp2_with fail;go_ret2;exact HE.out
 ·have HBF:=zhy (S0.out.call hb).1;have HO:=zhy (own_base (base':=w.heap.size) ho S0.out.1.size);clear hb hba S0 ho;go_wp2_with fail;go_ret2;exact ⟨Ao,co,rfl,HO.out,HBF.out⟩
theorem wh11_ca {d:Md} {k:Nat} (hk:k<d.s.length):wh11 d k=ca11 (co11 d k) d.s.length:=by
 rw [wh11,if_neg (by omega),Int.toNat_natCast,ca11];rfl
end
section
open Go.RowKit Go.Maps
theorem whom11_v (y:Ma) (d:Md) (k:Int) (w:World) (hq:Hq w y d) (bs:d.s.length≤1000) (bl:∀z∈d.s,z.2.length≤1000):Calls Tryz.prog 30 #[dv y d,.int .i64 k] w fun e w'=>Ns11 w w' (wh11 d k) e:=by
 obtain ⟨G,gc,P,pc,AA,cc,Z⟩:=y;have hzl:=hq.zlen;dsimp only at hzl;obtain ⟨sn,hsn⟩:∃sn,d.s.length=sn:=⟨_,rfl⟩;have HSN:=zhy hsn;rw [hsn] at bs;have S0:=zhy ((((Sx.start w).add (fQm ⟨G,gc,P,pc,AA,cc,Z⟩ d) hq).mkD ⟨G,gc,P,pc,AA,cc,Z⟩ d));have HZL:=zhy (hzl.trans hsn);have HBL:=zhy bl;obtain ⟨T,hT⟩:∃T,wh11 d k=T:=⟨_,rfl⟩;have HT:=zhy hT;rw [hT];obtain ⟨B,hB⟩:∃B,w.heap.size=B:=⟨_,rfl⟩;have HBB:=zhy hB;rw [hB] at S0;clear hq hT hzl hsn bl;go_enter Tryz.func30,Tryz.ntmps30;go_upto_region 1 with (fail);change Code.wp _ _ _ _ (w.alloc (dcel ⟨G,gc,P,pc,AA,cc,Z⟩ d));generalize w.alloc (dcel ⟨G,gc,P,pc,AA,cc,Z⟩ d)=w1 at S0 ⊢;have S1:=S0;clear S0 hB;obtain ⟨-,⟨d0,d1,d2,d3,d4⟩,-⟩:=S1.out;dsimp only at d1 d2 d3;rw [HSN.out] at d3;by_cases hk0:k<0
 ·have HE:=zhy (Ns11.err (w:=w) (w':=w1) (T:=T) (e:=2) (by rw [←HT.out,wh11,if_pos (.inl hk0)]) S1.out.1);go_wp2_with fail;go_ret2;exact HE.out
 by_cases hks:(sn:Int)≤k
 ·have HE:=zhy (Ns11.err (w:=w) (w':=w1) (T:=T) (e:=2) (by rw [←HT.out,wh11,if_pos (.inr (by rw [HSN.out];exact hks))]) S1.out.1);go_wp2_with fail;go_ret2;exact HE.out
 obtain ⟨k,rfl⟩:∃k':Nat,k=k':=⟨k.toNat,by omega⟩;have hks2:k<sn:=by omega
 obtain ⟨ad8,hA8,hat,hok⟩:=S1.out.2.2.1.2.2.1.at_ (i:=k) (by rw [HZL.out];exact hks2);have hme:=S1.out.2.2.1.zat (i:=k) (by rw [HZL.out];exact hks2) (by rw [HSN.out];exact hks2);dsimp only at hA8 hat hok hme;obtain ⟨zz,hzz⟩:∃zz,Z[k]'(by rw [HZL.out];exact hks2)=zz:=⟨_,rfl⟩;rw [hzz] at hat hok hme;obtain ⟨⟨XA,xc,XB,xd,XD,xk,xe⟩,h,L⟩:=zz;subst hA8;have hco:co11 d k=L:=by rw [co11,zg7 (by rw [HSN.out];exact hks2),hme];rfl
 have HTM:Hid (ca11 L sn=T):=zhy (by rw [←HT.out,wh11_ca (by rw [HSN.out];exact hks2),hco,HSN.out])
 have HLL:Hid (L.length≤1000):=zhy (HBL.out (h,L) (by
  have h2:=hme;dsimp only at h2;rw [←h2];exact List.getElem_mem _))
 obtain ⟨hH,hRi,hxk⟩:=hok;dsimp only at hH hRi hxk;obtain ⟨-,-,-,-,-,-,-,g7⟩:=hat;dsimp only at g7;obtain ⟨m,hm⟩:∃m,L.length=m:=⟨_,rfl⟩;obtain rfl:m=xk:=by rw [←hm];exact hxk
 have HCA:=zhy (called11_v XD xe m sn L w1.drew (Ri.drewN hRi 1) hm (by rw [←hm];exact HLL.out) bs);rw [HTM.out] at HCA;have HS0:Hid (Ri w1.drew XD xe L)∧w1.drew.cell? ⟨B,2,none⟩=some (.slice (some ad8) sn cc)∧w1.drew.cell? ⟨(ad8.add (k*8)).block,(ad8.add (k*8)).off+7,none⟩=some (.slice XD m xe):=⟨zhy (Ri.drewN hRi 1),d3,g7⟩;have HKE:Hid (∀w',Below w1.heap.size w1.drew w'→Hid (Ri w' XD xe L)∧w'.cell? ⟨B,2,none⟩=some (.slice (some ad8) sn cc)∧w'.cell? ⟨(ad8.add (k*8)).block,(ad8.add (k*8)).off+7,none⟩=some (.slice XD m xe)):=zhy fun w' hb=>⟨zhy (Ri.keep (Ri.drewN hRi 1) hb),(hb.cell (p:=⟨B,2,none⟩) d0).trans d3,(hb.cell (cell_lt g7)).trans g7⟩;clear hzz hme hxk hm hRi hH hco;go_upto_region 3 with (fail);refine wp_region_held_drew (S:=fun w'=>Hid (Ri w' XD xe L)∧w'.cell? ⟨B,2,none⟩=some (.slice (some ad8) sn cc)∧w'.cell? ⟨(ad8.add (k*8)).block,(ad8.add (k*8)).off+7,none⟩=some (.slice XD m xe)) (by kernel_rfl) (HS0) (fun hHeld=>?_);refine zq 0 (h:=?_);refine zq 1 (hy:=fun w hSw=>by (try dsimp only at hSw);obtain ⟨-,s0,s1⟩:=hSw;go_simp;try with_reducible rfl) (h:=?_);refine zq 2 (h:=?_);refine zq 3 (h:=?_);refine zq 4 (h:=?_);refine zq 5 (hy:=fun w hSw=>by (try dsimp only at hSw);obtain ⟨-,s0,s1⟩:=hSw;go_simp;try with_reducible rfl) (h:=?_);refine zq 6 (h:=?_);refine zq 7 (hy:=fun w hSw=>by (try dsimp only at hSw);obtain ⟨-,s0,s1⟩:=hSw;go_simp;try with_reducible rfl) (h:=?_);refine zq 8 (h:=?_);refine wpAnyH_ready (rs:=[9]) (by kernel_rfl) (by simp) ?_;refine AllReadyH.cons rfl (fun K hK=>?_) AllReadyH.nil;go_simp;refine HCA.out.mono ?_;rintro r w3 ⟨A3,c3,rfl,ho,hb⟩;have HO3:=zhy (own_base (base':=w.heap.size) ho S1.out.1.size);have HB3:=zhy (S1.out.1.drew.trans (hb.mono S1.out.1.size));have HS3:=HKE.out _ hb;clear ho hb;go_wp2_with fail;refine hK.out _ _ (HS3) (fun hHeld=>?_);clear hK K;(try simp only [Act.put,zg1,zg2,zg3,zg4,zg5,zg6]);refine zq 10 (h:=?_);refine zq 11 (h:=?_);refine zq 12 (h:=?_);refine zq 13 (h:=?_);refine wpAnyH_done (by kernel_rfl) ?_ _;clear hHeld;go_wp2_with fail;go_ret2;exact ⟨A3,c3,rfl,HO3.out,HB3.out⟩
end
section
open Go.RowKit Go.Conc
theorem st13_take {L:List Ins} {i:Nat} {x:Ins} (h:L[i]?=some x):st13 (L.take (i+1))=(st13 (L.take i)||x.1==5):=by
 unfold st13;rw [List.take_add_one,h,List.any_append];simp
theorem st13_yes {L:List Ins} {i:Nat} {x:Ins} (h:L[i]?=some x) (hx:(x.1==5)=true):st13 L=true:=by
 unfold st13;rw [List.any_eq_true];exact ⟨x,List.mem_of_getElem? h,hx⟩
theorem isStore_v (o a b:Int) (w:World):Calls Tryz.prog 100 #[.agg #[.int .u8 o,.int .i64 a,.int .i64 b]] w fun r w'=>r=.returned (.bool (o==5))∧Below w.heap.size w w':=by
 go_enter Tryz.func100,Tryz.ntmps100;go_wp2_with fail;go_ret;exact ⟨rfl,new1⟩
theorem indexI_v (A:Option Addr) (c m:Nat) (L:List Ins) (w:World) (hr:Ri w A c L) (hm:L.length=m):Calls Tryz.prog 165 #[.slice A m c,.func (.func 100) #[] #[]] w fun r w'=>∃i:Int,r=.returned (.int .i64 i)∧decide (0≤i)=st13 L∧Below w.heap.size w w':=by
 have HR:=zhy hr;have HM:=zhy hm;have hm9:m≤9223372036854775807:=by have:=hr.len;omega
 clear hr hm;go_enter Tryz.func165,Tryz.ntmps165;go_wp2_with fail;go_loopw [8] (fun iv wr=>∃i:Nat,i≤m∧iv=.int .i64 i∧Hid (st13 (L.take i)=false)∧Hid (Below w.heap.size w wr)) (fun iv _=>m-(intOf iv).toNat)
 case atStart=>exact ⟨0,by omega,rfl,zhy (by simp [st13]),zhy (Below.refl _ _)⟩
 case round =>
  obtain ⟨i,hi,rfl,HI,HB⟩:=hrel;rename World=>wr;by_cases h1:i<m
  ·obtain ⟨⟨o,a,z⟩,hx⟩:∃x,L[i]?=some x:=⟨_,zg7 (by rw [HM.out];exact h1)⟩;obtain ⟨al,hA,k1,k2,k3⟩:=(HR.out.keep HB.out).at9 hx;subst hA;have HX:=zhy hx;have HC:=zhy (isStore_v o a z wr);obtain ⟨v,hv⟩:∃v,(o==5)=v:=⟨_,rfl⟩;have HV:=zhy hv;rw [hv] at HC;clear hx hv;go_wp2_with fail;refine HC.out.mono ?_;rintro r w2 ⟨rfl,hb⟩;have HB2:=zhy (below_on HB.out hb);clear hb HC k1 k2 k3;cases v with
   | true =>
    have HS:=zhy (st13_yes HX.out HV.out);go_wp2_with fail;go_ret;exact ⟨_,rfl,by rw [HS.out];simp,HB2.out⟩
   | false =>
    have HI2:Hid (st13 (L.take (i+1))=false):=zhy (by rw [st13_take HX.out,HI.out,HV.out];rfl);go_wp2_with fail;go_roundw
    case rel=>exact ⟨i+1,by omega,by go_num,HI2,HB2⟩
    case measure=>simp [intOf];omega
  ·obtain rfl:m=i:=by omega
   have HS:Hid (st13 L=false):=zhy (by
    have:=HI.out;rwa [List.take_of_length_le (by rw [HM.out];exact Nat.le_refl _)] at this)
   go_wp2_with fail;go_ret;exact ⟨_,rfl,by rw [HS.out];rfl,HB.out⟩
theorem containsI_v (A:Option Addr) (c m:Nat) (L:List Ins) (w:World) (hr:Ri w A c L) (hm:L.length=m):Calls Tryz.prog 99 #[.slice A m c,.func (.func 100) #[] #[]] w fun r w'=>r=.returned (.bool (st13 L))∧Below w.heap.size w w':=by
 have HC:=zhy (indexI_v A c m L w hr hm);clear hr hm;go_enter Tryz.func99,Tryz.ntmps99;go_wp2_with fail;refine HC.out.mono ?_;rintro r w2 ⟨i,rfl,hi,hb⟩;have HI:=zhy hi;have HB:=zhy hb;clear hi hb HC;go_wp2_with fail;go_ret;exact ⟨by rw [←HI.out];rfl,HB.out⟩
theorem stores_v (A:Option Addr) (c m:Nat) (L:List Ins) (w:World) (hr:Ri w A c L) (hm:L.length=m):Calls Tryz.prog 54 #[.slice A m c] w fun r w'=>r=.returned (.bool (st13 L))∧Below w.heap.size w w':=by
 have HC:=zhy (containsI_v A c m L w hr hm);clear hr hm;go_enter Tryz.func54,Tryz.ntmps54;go_wp2_with fail;refine HC.out.mono ?_;rintro r w2 ⟨rfl,hb⟩;have HB:=zhy hb;clear hb HC;go_wp2_with fail;go_ret;exact ⟨rfl,HB.out⟩
theorem own_at13 {w:World} {base e n c:Nat} {A:Option Addr} {xs:List Value} (h:w.ownsRow base e 1 (.slice A n c) n xs):∀ad:Addr,A=some ad→base≤ad.block:=by
 intro ad ha;subst ha;rcases h.2 with ⟨hv,-⟩ | ⟨g,cap,cur,hv,hg,-⟩
 ·cases hv
 ·injection hv with e1 e2 e3;injection e1 with e1;subst e1;exact hg
theorem made13 (n:Nat) (hn:n≤1000) (w:World):(Instr.makeSlice 88 (.int .i64 (n:Int)) (.int .i64 (n:Int))).run Tryz.prog w=.ok (.slice (some ⟨w.heap.size,0,none⟩) n n) (w.alloc (.cells (List.replicate n (.slice none 0 0)).toArray 59)):=by
 have hinfo:=Tryz.infoS11;rw [Option.map_eq_some_iff] at hinfo;obtain ⟨i,hi,hz⟩:=hinfo;simp only [Prod.mk.injEq] at hz;obtain ⟨hz0,hz1,hz2⟩:=hz;have hr:=run_make (P:=Tryz.prog) w 88 59 i (.slice none 0 0) Tryz.underlying88 hi hz0 .i64 .i64 n n (by omega) (Int.le_refl _) (by rw [hz2];omega) (by omega);rw [hr,hz1,Int.toNat_natCast,Nat.mul_one]
 have e:madeCells #[Value.slice none 0 0] n=(List.replicate n (Value.slice none 0 0)).toArray:=by
  rw [←toList_madeCells_one,Array.toArray_toList]
 rw [←e];rfl
def Cg13 (w w':World) (d:Md) (r:Ending):Prop:=
 (ba11 d=true∧r=.returned (.tuple #[.slice none 0 0,.int .i64 2])∧Below w.heap.size w w') ∨
 (ba11 d=false∧∃A c Y,r=.returned (.tuple #[.slice A d.s.length c,.int .i64 0])∧Go11 w' w.heap.size A c Y∧Y.length=d.s.length∧Y.map (·.2.2)=gre11 (fun t k=>e11 d k t) d.s.length∧Below w.heap.size w w')
def Np13 (Y:List Gz) (A:Option Addr):Prop:=∀z∈Y,∀b,(gv11 z).ownBlock=some b→∀ad:Addr,A=some ad→ad.block≠b
theorem Np13.put {Y:List Gz} {A:Option Addr} (h:Np13 Y A) {t g':Nat} {y z:Gz} (ht:Y[t]?=some y) (hz:(gv11 z).ownBlock=some g') {w:World} (hl:(gv11 y).ownBlock=some g'∨g'=w.heap.size) (ha:∀ad:Addr,A=some ad→ad.block<w.heap.size):Np13 (Y.set t z) A:=by
 intro x hx b hb ad hA;rcases List.mem_or_eq_of_mem_set hx with hx | hx
 ·exact h x hx b hb ad hA
 ·subst hx;rw [hz] at hb;injection hb with hb;subst hb;rcases hl with hl | hl
  ·exact h y (List.mem_of_getElem? ht) g' hl ad hA
  ·have:=ha ad hA;omega
theorem rn_past13 {w w':World} {A:Option Addr} {c:Nat} {K:List Int} (hr:Rn w A c K) {o:Obj} {row:Option Nat} (hg:(w.alloc o).grownBy w' row) (h1:∀b,row=some b→∀ad:Addr,A=some ad→ad.block≠b) {g t:Nat} (h2:∀ad:Addr,A=some ad→ad.block≠g) (v:Value):Rn (w'.setCell ⟨g,t,none⟩ v) A c K:=by
 have h0:Rn (w.alloc o) A c K:=hr.keep new1;have h3:=(Fr11.of_grown (X:=fun j=>some j=row∨j=g) hg (fun j hj=>.inl hj)).set (p:=⟨g,t,none⟩) (.inr (.inr rfl)) v;refine h3.rn h0 fun ad ha _=>?_;rintro (h | h)
 ·exact h1 _ h.symm ad ha rfl
 ·exact h2 ad ha h
theorem lt_of_rn13 {w:World} {A:Option Addr} {c:Nat} {K:List Int} (hr:Rn w A c K) (hk:0<K.length):∀ad:Addr,A=some ad→ad.block<w.heap.size:=by
 intro ad ha;subst ha;rcases hr.2.2 with ⟨h,-⟩ | ⟨ad',h,hc⟩
 ·cases h
 ·injection h with h;subst h;have:=cell_lt (hc 0 _ (zg7 hk));rwa [add_block] at this
theorem callersOf_v (y:Ma) (d:Md) (w:World) (hq:Hq w y d) (bs:d.s.length≤1000) (bl:∀z∈d.s,z.2.length≤1000):Calls Tryz.prog 52 #[dv y d] w fun r w'=>Cg13 w w' d r:=by
 have S0:=zhy ((((Sx.start w).add (fQm y d) hq).mkD y d));obtain ⟨B,hB⟩:∃B,w.heap.size=B:=⟨_,rfl⟩;have HBB:=zhy hB;rw [hB] at S0;have HBS:=zhy bs;have HBL:=zhy bl;have hmk:=made13 d.s.length bs;clear hq bl;go_enter Tryz.func52,Tryz.ntmps52;go_upto_region 1 with (fail);change Code.wp _ _ _ _ (w.alloc (dcel y d));generalize w.alloc (dcel y d)=w1 at S0 ⊢;clear hB;obtain ⟨-,⟨d0,d1,d2,d3,d4⟩,-⟩:=S0.out;go_wp2_with fail;clear d0 d1 d2 d3 d4;obtain ⟨g,hg⟩:∃g,w1.heap.size=g:=⟨_,rfl⟩;have HG1:=zhy hg;rw [hg];obtain ⟨n,hn⟩:∃n,d.s.length=n:=⟨_,rfl⟩;have HN:=zhy hn;rw [hn] at bs ⊢
 have HC0:Hid (Cb11 (w1.alloc (.cells (List.replicate n (Value.slice none 0 0)).toArray 59)) w1.heap.size g n (List.replicate n (none,0,[]))):=zhy ⟨by simp,by
   have:=World.ownsRow_lit (base:=w1.heap.size) (size:=1) (e:=59) w1 (List.replicate n (Value.slice none 0 0)).toArray n (Nat.le_refl _) (by unfold maxLen;omega) (by simp);rw [←hg]
   simpa [cg11,gv11] using this,fun z hz=>by
   rw [List.mem_replicate] at hz;rw [hz.2]
   exact World.ownsRow_nil _ _ _ _,fun i j y z _ hy hz b hb=>by
   have:=List.mem_of_getElem? hy;rw [List.mem_replicate] at this;rw [this.2] at hb;cases hb⟩
 have HM0:Hid ((List.replicate n ((none,0,[]):Gz)).map (·.2.2)=(List.range n).map fun t=>cb11 (e11 d) n 0 0 t):=zhy (by
  rw [List.map_replicate];apply List.ext_getElem?;intro j;by_cases hj:j<n
  ·rw [List.getElem?_replicate_of_lt hj,List.getElem?_map,List.getElem?_range hj,Option.map_some,cb11_zero];rfl
  ·rw [List.getElem?_eq_none (by simpa using hj),List.getElem?_eq_none (by simpa using hj)])
 clear hg hmk hn;go_loopw [16] (fun iv wr=>∃(k:Nat) (Y:List Gz),k≤n∧iv=.int .i64 k∧Hid (Cb11 wr w1.heap.size g n Y)∧Hid (Y.map (·.2.2)=(List.range n).map fun t=>cb11 (e11 d) n k 0 t)∧Hid (∀j,j<k→bd11 (co11 d j) n=false)∧Hid (Below w1.heap.size w1 wr)) (fun iv _=>n-(intOf iv).toNat)
 case atStart=>exact ⟨0,_,by omega,rfl,HC0,HM0,zhy (fun j hj=>by omega),zhy new1⟩
 case round =>
  clear HC0 HM0;obtain ⟨k,Y,hk,rfl,HC,HM,HBD,HB⟩:=hrel;rename World=>wr;have SR:=zhy (S0.out.call HB.out);by_cases h1:k<n
  ·have HWH:=zhy (whom11_v y d (k:Int) wr SR.out.2.2.1 HBS.out HBL.out);rw [Hid,wh11_ca (by rw [HN.out];exact h1),HN.out] at HWH;have HWH:=zhy HWH;obtain ⟨-,⟨d0,d1,d2,d3,d4⟩,-⟩:=SR.out;go_wp2_with fail;refine HWH.out.mono ?_;rintro r w3 ⟨A3,c3,rfl,ho,hb⟩;cases hbd:bd11 (co11 d k) n with
   | true =>
    have hT:ca11 (co11 d k) n=([],2):=by rw [ca11,if_pos hbd]
    have HBA:Hid (ba11 d=true):=zhy (by
     cases h:ba11 d with
     | true=>rfl
     | false =>
      have:=ba11_at h (k:=k) (by rw [HN.out];exact h1);rw [HN.out,hbd] at this;cases this)
    have HBF:=zhy (SR.out.call hb).1;rw [hT];clear ho hb hbd hT HWH d0 d1 d2 d3 d4;go_wp2_with fail;go_ret2;exact .inl ⟨HBA.out,rfl,HBF.out⟩
   | false =>
    obtain ⟨K,hK⟩:∃K,ns11 ((List.range n).filter (e11 d k))=K:=⟨_,rfl⟩
    have hT:ca11 (co11 d k) n=(K,0):=by
     rw [ca11,if_neg (by rw [hbd];simp),←hK];rfl
    rw [hT] at ho ⊢
    have HBD2:Hid (∀j,j<k+1→bd11 (co11 d j) n=false):=zhy (fun j hj=>by
     by_cases hjk:j=k
     ·rw [hjk];exact hbd
     ·exact HBD.out j (by omega))
    obtain ⟨kn,hkn⟩:∃kn,K.length=kn:=⟨_,rfl⟩;dsimp only at ho ⊢;rw [hkn] at ho ⊢;have HKN:=zhy hkn;have HKE:=zhy hK;have hkn9:kn≤n:=by rw [←hkn,←hK];exact fil_len11 _ _
    have HC3:=zhy (HC.out.keep hb);have HB3:=zhy (below_on HB.out hb);have HR3:=zhy (Rn.of_own ho).1;have HAT:=zhy (own_at13 ho)
    have HNP:Hid (Np13 Y A3):=zhy fun z hz b hzb ad ha e=>by
     have h2:=((HC.out.each z hz).lt b hzb).2;have h3:=own_at13 ho ad ha;omega
    have HGN:Hid (∀ad:Addr,A3=some ad→ad.block≠g):=zhy fun ad ha e=>by
     have h2:=(HC.out.row.lt g rfl).2;have h3:=own_at13 ho ad ha;omega
    clear ho hb hbd hT HWH d0 d1 d2 d3 d4 hK hkn SR HC HB HBD;go_wp2_with fail;go_loopw [30] (fun jv wq=>∃(i:Nat) (Y:List Gz),i≤kn∧jv=.int .i64 i∧Hid (Cb11 wq w1.heap.size g n Y)∧Hid (Y.map (·.2.2)=(List.range n).map fun t=>cb11 (e11 d) n k i t)∧Hid (Below w1.heap.size w1 wq)∧Hid (Rn wq A3 c3 K)∧Hid (Np13 Y A3)) (fun jv _=>kn-(intOf jv).toNat)
    case atStart=>exact ⟨0,Y,by omega,rfl,HC3,HM,HB3,HR3,HNP⟩
    case round =>
     clear HC3 HM HB3 HR3 HNP;obtain ⟨i,Y2,hi,rfl,HC,HM,HB,HR,HNP⟩:=hrel;rename World=>wq;by_cases h2:i<kn
     ·obtain ⟨t,ht⟩:∃t,((List.range n).filter (e11 d k))[i]?=some t:=⟨_,zg7 (by have:=HKN.out;rw [←HKE.out,ns11,List.length_map] at this;omega)⟩;have htn:t<n:=by have:=List.mem_of_getElem? ht;rw [List.mem_filter,List.mem_range] at this;exact this.1
      obtain ⟨bd,hAk,z0⟩:=HR.out.at_ (show K[i]?=some (t:Int) by rw [←HKE.out];exact ns11_at ht);have HLT:=zhy (lt_of_rn13 HR.out (by rw [HKN.out];omega));subst hAk;obtain ⟨⟨At,ct,Lt⟩,hyt,hyl⟩:=rel_at11 HC.out.len HM.out htn;dsimp only at hyl;obtain ⟨m,hm⟩:∃m,Lt.length=m:=⟨_,rfl⟩;have x0:=(HC.out.row.cellAt t (by rw [Nat.mul_one];exact htn)).trans (show (cg11 Y2)[t]?=some (gv11 (At,ct,Lt)) by rw [cg11,List.getElem?_map,hyt];rfl);rw [gv11] at x0;dsimp only at x0;rw [hm] at x0;have xf:=HC.out.row.frozenAt t;have HT:=zhy ht;have HYT:=zhy hyt;have HYL:=zhy hyl;have HMM:=zhy hm
      have hm9:m≤2000:=by
       rw [←hm,hyl,cb11,List.length_append];have:=fil_len11 (fun j=>e11 d j t) k;rw [List.length_map] at this ⊢;split<;>simp<;>omega
      have HOT:Hid ((wq.alloc (.cells #[.int .i64 (k:Int)] 3)).ownsRow w1.heap.size 3 1 (.slice At m ct) m (ci9 Lt)):=zhy (by
       have:=(HC.out.each _ (List.mem_of_getElem? hyt)).alloc (.cells #[.int .i64 (k:Int)] 3);rw [gv11] at this;dsimp only at this;rwa [hm] at this)
      have hc1:(wq.alloc (.cells #[.int .i64 (k:Int)] 3)).cell? ((⟨wq.heap.size,0,none⟩:Addr).add 0)=some (.int .i64 (k:Int)):=by simp [go_sem,Addr.add]
      have HGV:Hid (gv11 (At,ct,Lt)=.slice At m ct):=zhy (by rw [gv11,HMM.out]);have HHN:=zhy (show (cg11 Y2).length=n by rw [cg11,List.length_map,HC.out.len]);clear ht hyt hyl hm;go_wp2_with (at_builtin;refine wpList_append_n1 rfl (.tmp 39) (.tmp 41) 59 Tryz.underlying59 rfl w1.heap.size _ m Lt rfl HOT.out _ (k:Int) rfl hc1 (by omega) (by have:=HB.out.size;simp;omega) ?_;intro g' c' w9 ho9 hg9 hl9;have hrow9:=own_grown (HC.out.row.alloc _) HOT.out (by decide) hg9;have x9:=(hrow9.cellAt t (by omega)).trans (zg7 (by rw [HHN.out];omega));have xf9:=hrow9.frozenAt t;have HC9:=zhy (HC.out.put HYT.out HMM.out (w':=w9) (x:=(k:Int)) (g':=g') (c':=c') ho9 (by rw [HGV.out];exact hg9) (by rw [HGV.out];exact hl9));have HB9:=zhy (((HB.out.alloc HB.out.size (.cells #[.int .i64 (k:Int)] 3)).grown hg9 (by have:=HB.out.size;rw [size1];omega) (fun q hq=>(HOT.out.lt q hq).1)).setCell (p:=⟨g,t,none⟩) (by rw [HG1.out];exact Nat.le_refl _) (.slice (some ⟨g',0,none⟩) (m+1) c'));have HR9:=zhy (rn_past13 HR.out hg9 (fun b hb=>HNP.out _ (List.mem_of_getElem? HYT.out) b (by rw [HGV.out];exact hb)) HGN.out (t:=t) (.slice (some ⟨g',0,none⟩) (m+1) c'));have HNP9:=zhy (HNP.out.put (z:=(some ⟨g',0,none⟩,c',Lt++[(k:Int)])) HYT.out rfl (w:=wq.alloc (.cells #[.int .i64 (k:Int)] 3)) (by rw [HGV.out];exact hl9) (fun ad ha=>by have:=HLT.out ad ha;rw [size1];omega));clear ho9 hg9 hl9 hrow9);have HM9:Hid ((Y2.set t (some ⟨g',0,none⟩,c',Lt++[(k:Int)])).map (·.2.2)=(List.range n).map fun t=>cb11 (e11 d) n k (i+1) t):=zhy (rel_set11 HM.out htn (by dsimp only;rw [cb11_step HT.out,if_pos rfl,HYL.out]) fun j hj=>by rw [cb11_step HT.out,if_neg hj]);go_roundw
      case rel=>exact ⟨i+1,_,by omega,by go_num,HC9,HM9,HB9,HR9,HNP9⟩
      case measure=>simp [intOf];omega
     ·obtain rfl:kn=i:=by omega
      have HM2:Hid (Y2.map (·.2.2)=(List.range n).map fun t=>cb11 (e11 d) n (k+1) 0 t):=zhy (by
       rw [HM.out];refine List.map_congr_left fun t ht=>?_;exact cb11_next (by have:=HKN.out;rw [←HKE.out,ns11,List.length_map] at this;omega) (List.mem_range.1 ht))
      go_wp2_with fail;go_roundw
      case rel=>exact ⟨k+1,Y2,by omega,by go_num,HC,HM2,HBD2,HB⟩
      case measure=>simp [intOf];omega
  ·obtain rfl:n=k:=by omega
   have HMM:Hid (Y.map (·.2.2)=gre11 (fun t k=>e11 d k t) n):=zhy (by
    rw [HM.out,gre11];refine List.map_congr_left fun t _=>?_;rw [cb11_zero])
   have HBA:Hid (ba11 d=false):=zhy (ba11_of (by rw [HN.out];exact HBD.out));have HBF:=zhy SR.out.1;have hsz:w.heap.size≤w1.heap.size:=S0.out.1.size;go_wp2_with fail;go_ret2;exact .inr ⟨HBA.out,_,_,Y,by rw [HN.out];rfl,HC.out.go.base hsz,by rw [HN.out];exact HC.out.len,by rw [HN.out];exact HMM.out,HBF.out⟩
end
end Go.Proofs.YtnjgkkoiamiaaaaGreatDoor
