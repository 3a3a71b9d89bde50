import Derived.WalkKit
import Derived.Lib.Hide
import Derived.Handy
import Derived.Laws.AppendOwnNone
import Derived.Maps.AppendAt
import Derived.Test.YtnjgkkoiamiaaaaGreatDoorChecked
import Derived.Deep.QuietTactic
import Derived.BigQuiet
import Derived.Deep.DeepCutAuto
import Derived.Deep.RegionHeld3
import Derived.WalkSpells
import Derived.Test.YtnjgkkoiamiaaaaGreatDoorVca1
import Derived.Laws.ComplexArith
import Derived.Below
import Derived.WalkLawsBesides
import Derived.Deep.RegionWith
import Derived.Laws.StructEq
import Derived.Lib.Bytes
import Derived.Test.YtnjgkkoiamiaaaaGreatDoorVca2
import Derived.Test.YtnjgkkoiamiaaaaGreatDoorVca3
import Derived.Test.YtnjgkkoiamiaaaaGreatDoorVca4
import Derived.OwnWalk
import Derived.Laws.OwnMore
import Derived.Test.YtnjgkkoiamiaaaaGreatDoorVca8
import Derived.Test.YtnjgkkoiamiaaaaGreatDoorVca7
import Derived.RangeFuncBox
import Derived.RangeFuncLeaves
import Derived.RangeFuncCalls
import Derived.RangeFuncRecord
import Derived.Shelf.RegionOpen
import Derived.OwnWalkIn
import Derived.TacticsInMore
import Derived.LoopNIn
import Derived.LoopIn
set_option maxRecDepth 100000
set_option maxHeartbeats 16000000
set_option linter.unusedSimpArgs false
set_option linter.unusedVariables false
namespace Go.Proofs.YtnjgkkoiamiaaaaGreatDoor
open Go.RowKit
theorem rd_string {P:Program} {w:World} {A:Option Addr} {c:Nat} {l:List Int} (h:Rd w A c l) (src dst e:TypeId) (hs:P.underlying src=some (.slice e)) (he:P.underlying e=some (.int .u8)) (hd:P.underlying dst=some .string) :
  (convert src dst (.slice A l.length c)).run P w=.ok (.string (strOfNums l)) w:=by
 rcases h.2.2.2 with ⟨rfl,rfl⟩ | ⟨ad,rfl,hcell⟩
 ·obtain rfl:l=[]:=List.eq_nil_of_length_eq_zero (by have:=h.le;omega)
  exact run_convert_bytes_nil w src e hs he 0 0 dst hd
 ·have hl:(loadCells ad l.length).run P w=.ok (l.map (Value.int .u8)).toArray w:=by
   have:=run_loadCells_list (P:=P) w ad (l.map (Value.int .u8)) (fun j v hj=>by
    simp only [List.getElem?_map,Option.map_eq_some_iff] at hj;obtain ⟨y,hy,rfl⟩:=hj;exact hcell j y hy)
   simpa using this
  rw [run_convert_bytes_string w src dst e _ l.length c hs he hd,run_bytesToString w _ l.length c l hl,foldl_push_bytes]
  simp [strOfNums,ByteArray.empty,ByteArray.emptyWithCapacity]
  rfl
theorem rd_of_row {w:World} {a:Option Addr} {len cap:Nat} {zs:List Int}
  (h:(a=none∧len=0∧cap=0∧zs=[])∨∃x:Addr,a=some x∧len≤cap∧cap≤maxLen∧zs.length=cap∧(∀i,i<zs.length→w.cell? (x.add i)=some (.int .u8 (zs.getD i 0)))∧∀n∈zs,(Lit.int .u8 n).wf=true) :
  ∃l:List Int,l.length=len∧Rd w a cap l:=by
 rcases h with ⟨rfl,rfl,rfl,rfl⟩ | ⟨x,rfl,h1,h2,h3,h4,h5⟩
 ·exact ⟨[],rfl,Rd.none_ w⟩
 ·refine ⟨zs.take len,by simp;omega,fun n hn=>?_,by simp;omega,h2,.inr ⟨x,rfl,fun i y hy=>?_⟩⟩
  ·have:=bounds_u8 (h5 n (List.mem_of_mem_take hn));omega
  ·rw [List.getElem?_take] at hy
   split at hy
   ·have hlt:=(zg8.1 hy).1
    rw [h4 i hlt,List.getD_eq_getElem?_getD,hy]
    rfl
   ·cases hy
theorem may_cases {k a b:Int} (h:mayB k a b=true):(k=1∧b=0)∨(k=2∧okB a b=true):=by
 by_cases h1:k=1
 ·subst h1;exact .inl ⟨rfl,by simpa [mayB] using h⟩
 ·right;simpa [mayB,h1] using h
theorem len_2 (a b:Int):(valB 2 a b).length=7:=by simp [valB_2,length_digs]
theorem rdT_at (l1 M l3:List Int) {k a b n e:Int} (hM:M≠[]) (h:rdT (M++l3) 0=(k,a,b,n,e)) (h0:e=0):rdT (l1++(M++l3)) (l1.length:Int)=(k,a,b,(l1.length:Int)+n,e):=by
 have hl:0<M.length:=List.length_pos_iff.2 hM;have key:∀j,(l1++(M++l3)).drop (l1.length+j)=(M++l3).drop j:=fun j=>by rw [List.drop_append,List.drop_of_length_le (by omega),List.nil_append];congr 1;omega
 have key2:(l1++(M++l3))[l1.length]?=(M++l3)[0]?:=by rw [List.getElem?_append_right (Nat.le_refl _),Nat.sub_self]
 subst h0;unfold rdT x3 at h ⊢;simp only [Int.toNat_natCast,Int.toNat_zero,key,key2,Nat.zero_add,List.length_append] at h ⊢;have e1:¬((0:Int)<0∨((M.length+l3.length:Nat):Int)<0):=by omega
 have e2:¬(((M.length+l3.length:Nat):Int)=0):=by omega
 have e3:¬((l1.length:Int)<0∨((l1.length+(M.length+l3.length):Nat):Int)<l1.length):=by omega
 have e4:¬(((l1.length+(M.length+l3.length):Nat):Int)=l1.length):=by omega
 rw [if_neg e1,if_neg e2] at h;rw [if_neg e3,if_neg e4];split at h
 ·rename_i hk;rw [if_pos hk];split at h
  ·simp at h
  ·rename_i hs;obtain ⟨rfl,rfl,rfl,rfl⟩:=by simpa using h
   rw [if_neg (by omega)];simp
 ·rename_i hk;rw [if_neg hk];split at h
  ·rename_i hk2;rw [if_pos hk2];split at h
   ·simp at h
   ·rename_i hs;rw [if_neg (by omega)];split at h
    ·rename_i hm;obtain ⟨rfl,rfl,rfl,rfl⟩:=by simpa using h
     rw [if_pos hm];simp
    ·simp at h
  ·simp at h
theorem wrap_mod {a:Int} (h:-9223372036854775808≤a∧a≤9223372036854775807):wrap64 (a % 18446744073709551616)=a:=by
 unfold wrap64;omega
theorem rdT_1 {a:Int} (l3:List Int) (h:-9223372036854775808≤a∧a≤9223372036854775807):rdT (valB 1 a 0++l3) 0=(1,a,0,9,0):=by
 have hl:(valB 1 a 0++l3).length=9+l3.length:=by rw [List.length_append,len_1]
 have h0:(valB 1 a 0++l3)[(0:Int).toNat]?.getD 0=1:=by rw [valB_1];rfl
 have h8:((valB 1 a 0++l3).drop ((0:Int).toNat+1)).take 8=digs a 8:=by
  rw [valB_1,List.cons_append];show ((digs a 8++l3).take 8)=_;rw [List.take_append_of_le_length (by rw [length_digs];omega),List.take_of_length_le (by rw [length_digs];omega)]
 unfold rdT;rw [if_neg (by rw [hl];omega),if_neg (by rw [hl];omega),if_pos h0,if_neg (by rw [hl];simp),h8,num_digs,p256_8,wrap_mod h];rfl
theorem rdT_2 {a b:Int} (l3:List Int) (h:okB a b=true):rdT (valB 2 a b++l3) 0=(2,a,b,7,0):=by
 obtain ⟨⟨h1,h2⟩,h3,h4⟩:=okB_iff.1 h;have hl:(valB 2 a b++l3).length=7+l3.length:=by rw [List.length_append,len_2]
 have h0:(valB 2 a b++l3)[(0:Int).toNat]?.getD 0=2:=by rw [valB_2];rfl
 have e1:((valB 2 a b++l3).drop 1).take 3=digs (a+1048576) 3:=by
  rw [valB_2,List.cons_append];show ((digs (a+1048576) 3++digs (b+1048576) 3++l3).take 3)=_;rw [List.append_assoc,List.take_append_of_le_length (by rw [length_digs];omega),List.take_of_length_le (by rw [length_digs];omega)]
 have e2:((valB 2 a b++l3).drop 4).take 3=digs (b+1048576) 3:=by
  rw [valB_2,List.cons_append];show (((digs (a+1048576) 3++digs (b+1048576) 3++l3).drop 3).take 3)=_;rw [List.append_assoc,List.drop_append,List.drop_of_length_le (by rw [length_digs];omega),length_digs,List.nil_append];show ((digs (b+1048576) 3++l3).take 3)=_;rw [List.take_append_of_le_length (by rw [length_digs];omega),List.take_of_length_le (by rw [length_digs];omega)]
 have x1:x3 (valB 2 a b++l3) ((0:Int).toNat+1)=a+1048576:=by
  show num (((valB 2 a b++l3).drop 1).take 3)=_;rw [e1,num_digs,p256_3];omega
 have x2:x3 (valB 2 a b++l3) ((0:Int).toNat+4)=b+1048576:=by
  show num (((valB 2 a b++l3).drop 4).take 3)=_;rw [e2,num_digs,p256_3];omega
 unfold rdT;rw [if_neg (by rw [hl];omega),if_neg (by rw [hl];omega),if_neg (by rw [h0];decide),if_pos h0,if_neg (by rw [hl];simp),x1,x2,Int.add_sub_cancel,Int.add_sub_cancel,if_pos (by simp [mayB,h])];rfl
theorem vlu_eq (x y:Vlu):(x.1==y.1&&x.2.1==y.2.1&&x.2.2==y.2.2)=decide (x=y):=by
 obtain ⟨a,b,c⟩:=x;obtain ⟨a',b',c'⟩:=y;by_cases e1:a=a'<;>by_cases e2:b=b'<;>by_cases e3:c=c'<;>simp [e1,e2,e3]
theorem r3same_any (A B:Option Addr) (c d n m:Nat) (L M:List Vlu) (w:World) (h1:Rv w A c L) (h2:Rv w B d M) (hn:L.length=n) (hm:M.length=m):Calls Tryz.prog 41 #[.slice A n c,.slice B m d] w fun e w'=>e=.returned (.bool (decide (L=M)))∧Below w.heap.size w w':=by
 have hl1:=h1.len;have hl2:=h2.len;have HR1:=zhy h1;have HR2:=zhy h2;clear h1 h2;by_cases hnm:n=m
 ·subst hn;have hml:M.length=L.length:=by omega
  subst hnm;clear hm;go_enter Tryz.func41,Tryz.ntmps41;go_wp2_with fail;go_loopw [5] (fun i wr=>∃j:Nat,j≤L.length∧i=.int .i64 j∧Hid (L.take j=M.take j)∧Hid (Below w.heap.size w wr)) (fun i _=>L.length-(intOf i).toNat)
  case atStart=>exact ⟨0,by omega,rfl,rfl,zhy (Below.refl _ _)⟩
  case round =>
   obtain ⟨j,hj,rfl,HE,HB⟩:=hrel;by_cases h:j<L.length
   ·have h':j<M.length:=by omega
    obtain ⟨a1,rfl,x0,x1,x2⟩:=(HR1.out.keep HB.out).at_ h;obtain ⟨a2,rfl,y0,y1,y2⟩:=(HR2.out.keep HB.out).at_ h';cases hv:decide (L[j]=M[j]) with
    | true =>
     have HN:Hid (L.take (j+1)=M.take (j+1)):=by
      have e:L[j]=M[j]:=of_decide_eq_true hv;rw [Hid,List.take_add_one,List.take_add_one,HE.out,zg7 h,zg7 h',e]
     have q:=eq_val 9998 L[j].1 L[j].2.1 L[j].2.2 M[j].1 M[j].2.1 M[j].2.2 true (by rw [vlu_eq];exact hv);clear HE hv;generalize L[j]=x at *;generalize M[j]=y at *;go_wp2_with fail;go_quiet (fail);go_wp2;go_roundw
     case rel=>exact ⟨j+1,by omega,by go_num,HN,zhy (below_draws HB.out _)⟩
     case measure=>simp [intOf];omega
    | false =>
     have HN:Hid (decide (L=M)=false):=by
      have e:¬L[j]=M[j]:=of_decide_eq_false hv;exact decide_eq_false fun e2=>e (by subst e2;rfl)
     have q:=eq_val 9998 L[j].1 L[j].2.1 L[j].2.2 M[j].1 M[j].2.1 M[j].2.2 false (by rw [vlu_eq];exact hv);clear HE hv;generalize L[j]=x at *;generalize M[j]=y at *;go_wp2_with fail;go_quiet (fail);go_wp2;go_ret;exact ⟨by rw [HN.out];rfl,below_draws HB.out _⟩
   ·obtain rfl:j=L.length:=by omega
    have HN:Hid (decide (L=M)=true):=by
     have:=HE.out;rw [List.take_length,List.take_of_length_le (by omega)] at this;exact decide_eq_true this
    go_wp2;go_ret;exact ⟨by rw [HN.out];rfl,HB.out⟩
 ·have HN:Hid (decide (L=M)=false):=decide_eq_false fun e=>hnm (by rw [←hn,←hm,e]);go_enter Tryz.func41,Tryz.ntmps41;go_wp2_with fail;go_ret;exact ⟨by rw [HN.out];rfl,Below.refl _ _⟩
theorem mS_iff {a b:Mh}:mS a b=true↔a=b:=by
 obtain ⟨a1,a2,a3,a4,a5,a6,a7⟩:=a;obtain ⟨b1,b2,b3,b4,b5,b6,b7⟩:=b;simp [mS]
theorem eq_ins (d:Nat) (k a b k' a' b':Int) (v:Bool) (h:(k==k'&&a==a'&&b==b')=v) (w:World):(Op.equalIn (d+1+1) 57 (.agg #[.int .u8 k,.int .i64 a,.int .i64 b]) (.agg #[.int .u8 k',.int .i64 a',.int .i64 b'])).run Tryz.prog w=.ok v w:=by
 have hS:Tryz.prog.underlying 57=some (.struct (Tryz.prog.fieldsOf 57)):=by kernel_rfl
 have hp:Tryz.prog.stoodInHeld 57=false:=by kernel_rfl
 have u1:=Tryz.underlying5;have u2:=Tryz.underlying3;have h0:∀u v t:Value,(part 5 #[u,v,t] 0).run Tryz.prog w=.ok u w:=fun u v t=>by kernel_rfl
 have h1:∀u v t:Value,(part 3 #[u,v,t] 1).run Tryz.prog w=.ok v w:=fun u v t=>by kernel_rfl
 have h2:∀u v t:Value,(part 3 #[u,v,t] 2).run Tryz.prog w=.ok t w:=fun u v t=>by kernel_rfl
 rw [run_equalIn_agg w (d+1) 57 _ _ hS hp];simp only [Program.fieldsOf,Tryz.underlying57];subst h;go_simp;by_cases e1:k=k'<;>by_cases e2:a=a'<;>by_cases e3:b=b'<;>simp [e1,e2,e3]
theorem ins_eq (x y:Ins):(x.1==y.1&&x.2.1==y.2.1&&x.2.2==y.2.2)=decide (x=y):=by
 obtain ⟨a,b,c⟩:=x;obtain ⟨a',b',c'⟩:=y;by_cases e1:a=a'<;>by_cases e2:b=b'<;>by_cases e3:c=c'<;>simp [e1,e2,e3]
theorem r5same_any (A B:Option Addr) (c d n m:Nat) (L M:List Ins) (w:World) (h1:Ri w A c L) (h2:Ri w B d M) (hn:L.length=n) (hm:M.length=m):Calls Tryz.prog 43 #[.slice A n c,.slice B m d] w fun e w'=>e=.returned (.bool (decide (L=M)))∧Below w.heap.size w w':=by
 have hl1:=h1.len;have hl2:=h2.len;have HR1:=zhy h1;have HR2:=zhy h2;clear h1 h2;by_cases hnm:n=m
 ·subst hn;have hml:M.length=L.length:=by omega
  subst hnm;clear hm;go_enter Tryz.func43,Tryz.ntmps43;go_wp2_with fail;go_loopw [5] (fun i wr=>∃j:Nat,j≤L.length∧i=.int .i64 j∧Hid (L.take j=M.take j)∧Hid (Below w.heap.size w wr)) (fun i _=>L.length-(intOf i).toNat)
  case atStart=>exact ⟨0,by omega,rfl,rfl,zhy (Below.refl _ _)⟩
  case round =>
   obtain ⟨j,hj,rfl,HE,HB⟩:=hrel;by_cases h:j<L.length
   ·have h':j<M.length:=by omega
    obtain ⟨a1,rfl,x0,x1,x2⟩:=(HR1.out.keep HB.out).at_ h;obtain ⟨a2,rfl,y0,y1,y2⟩:=(HR2.out.keep HB.out).at_ h';cases hv:decide (L[j]=M[j]) with
    | true =>
     have HN:Hid (L.take (j+1)=M.take (j+1)):=by
      have e:L[j]=M[j]:=of_decide_eq_true hv;rw [Hid,List.take_add_one,List.take_add_one,HE.out,zg7 h,zg7 h',e]
     have q:=eq_ins 9998 L[j].1 L[j].2.1 L[j].2.2 M[j].1 M[j].2.1 M[j].2.2 true (by rw [ins_eq];exact hv);clear HE hv;generalize L[j]=x at *;generalize M[j]=y at *;go_wp2_with fail;go_quiet (fail);go_wp2;go_roundw
     case rel=>exact ⟨j+1,by omega,by go_num,HN,zhy (below_draws HB.out _)⟩
     case measure=>simp [intOf];omega
    | false =>
     have HN:Hid (decide (L=M)=false):=by
      have e:¬L[j]=M[j]:=of_decide_eq_false hv;exact decide_eq_false fun e2=>e (by subst e2;rfl)
     have q:=eq_ins 9998 L[j].1 L[j].2.1 L[j].2.2 M[j].1 M[j].2.1 M[j].2.2 false (by rw [ins_eq];exact hv);clear HE hv;generalize L[j]=x at *;generalize M[j]=y at *;go_wp2_with fail;go_quiet (fail);go_wp2;go_ret;exact ⟨by rw [HN.out];rfl,below_draws HB.out _⟩
   ·obtain rfl:j=L.length:=by omega
    have HN:Hid (decide (L=M)=true):=by
     have:=HE.out;rw [List.take_length,List.take_of_length_le (by omega)] at this;exact decide_eq_true this
    go_wp2;go_ret;exact ⟨by rw [HN.out];rfl,HB.out⟩
 ·have HN:Hid (decide (L=M)=false):=decide_eq_false fun e=>hnm (by rw [←hn,←hm,e]);go_enter Tryz.func43,Tryz.ntmps43;go_wp2_with fail;go_ret;exact ⟨by rw [HN.out];rfl,Below.refl _ _⟩
theorem at_drop {l:List Int} {p i:Nat}:l[p+i]?=(l.drop p)[i]?:=(List.getElem?_drop).symm
theorem len_drop {l Y:List Int} {p:Nat} {Z:List Int} (h:l.drop p=Z++Y) (hz:Z≠[]):p<l.length∧l.length=p+Z.length+Y.length:=by
 have h1:=congrArg List.length h;rw [List.length_drop,List.length_append] at h1;have h2:0<Z.length:=List.length_pos_iff.2 hz;omega
theorem opr_ne (x:Ins):opr x≠[]:=by unfold opr;exact List.cons_ne_nil _ _
theorem rd1_enc {l Y:List Int} {p:Nat} {x:Ins} (h:inM x=true) (hd:l.drop p=opr x++Y):rd1 l p=(0,x,p+(opr x).length):=by
 obtain ⟨g1,g2,g3⟩:=opM_bd h;obtain ⟨q1,q2,q3⟩:=inM_parts h;obtain ⟨hp,hl⟩:=len_drop hd (opr_ne x);obtain ⟨n,a,b⟩:=x;simp only at g1 g2 g3 q1 q2 q3;subst q3;have h':opM n a 0=true:=h;have e0:l[p]?=some n:=by have:=at_drop (l:=l) (p:=p) (i:=0);rw [hd] at this;simpa [opr] using this
 cases hw:wdB n with
 | true =>
  have ho:opr (n,a,0)=[n,a % 256,a / 256]:=by simp [opr,hw]
  rw [ho] at hd hl;have e1:l[p+1]?=some (a % 256):=by rw [at_drop,hd];rfl
  have e2:l[p+2]?=some (a / 256):=by rw [at_drop,hd];rfl
  have e3:a % 256+256*(a / 256)=a:=by omega
  rw [rd1_wide (v:=true) (by rw [e0];exact g3) (by rw [e0];exact hw) (by rw [hl];simp) (by rw [e0,e1,e2];simp only [Option.getD_some];rw [e3];exact h'),if_pos rfl,e0,e1,e2,ho];simp only [Option.getD_some];rw [e3];rfl
 | false =>
  have ho:opr (n,a,0)=[n]:=by simp [opr,hw]
  have hh:¬0<opHi n:=by simpa [wdB] using hw
  have h0:=opLo_nonneg n;obtain rfl:a=0:=by omega
  rw [rd1_slim (v:=true) hp (by rw [e0];exact g3) (by rw [e0];exact hw) (by rw [e0];exact h'),if_pos rfl,e0,ho];rfl
theorem rdS_enc {l Y:List Int} {L:List Ins} (h:∀x∈L,inM x=true):∀{p:Nat},l.drop p=L.flatMap opr++Y→rdS l L.length p=(0,L,p+(L.flatMap opr).length):=by
 induction L with
 | nil=>intro p _;rfl
 | cons x L ih =>
  intro p hd;rw [List.flatMap_cons,List.append_assoc] at hd;have h1:=rd1_enc (h x (by simp)) hd;have hd2:l.drop (p+(opr x).length)=L.flatMap opr++Y:=by rw [←List.drop_drop,hd,List.drop_left]
  rw [List.length_cons,rdS_yes h1,ih (fun y hy=>h y (by simp [hy])) hd2,apC,if_pos rfl,List.flatMap_cons,List.length_append,Nat.add_assoc];rfl
theorem rdC_enc {L:List Ins} (h:codM L=true) (X Y:List Int):rdC (X++codB L++Y) X.length=(0,L,X.length+(codB L).length):=by
 obtain ⟨h1,h2,h3⟩:=codM_parts h;have hd:(X++codB L++Y).drop X.length=codB L++Y:=by rw [List.append_assoc,List.drop_left]
 have hd1:(X++codB L++Y).drop (X.length+1)=L.flatMap opr++Y:=by rw [←List.drop_drop,hd,codB];rfl
 have hlt:X.length<(X++codB L++Y).length:=by simp [codB]
 have he:(X++codB L++Y)[X.length]?.getD 0=(L.length:Nat):=by
  have:=at_drop (l:=X++codB L++Y) (p:=X.length) (i:=0);rw [hd] at this;rw [show X.length=X.length+0 from rfl,this,codB];rfl
 have hq:X.length+1+(L.flatMap opr).length=X.length+(codB L).length:=by rw [codB,List.length_cons];omega
 rw [rdC_yes hlt he ⟨h1,h2⟩,rdS_enc h3 hd1,hq]
theorem mid (l1 m l3:List Int):((l1++(m++l3)).drop (l1.length:Int).toNat).take (m.length:Int).toNat=m:=by
 rw [Int.toNat_natCast,Int.toNat_natCast,List.drop_left,List.take_left]
theorem cut_mid (l1 m l3:List Int):cutE (l1++(m++l3)) l1.length m.length=0∧cutL (l1++(m++l3)) l1.length m.length=m∧cutN (l1++(m++l3)) l1.length m.length=l1.length+m.length:=by
 have h:=cut_yes (l:=l1++(m++l3)) (p:=l1.length) (n:=m.length) (by omega) (by simp;omega) (by simp;omega);rw [mid] at h;exact h
theorem get_mid {l1 m l3:List Int} (h:1≤m.length∧m.length≤8) (hb:num m≤9223372036854775807) :
  getE (l1++(m++l3)) l1.length m.length=0∧getV (l1++(m++l3)) l1.length m.length=num m∧getN (l1++(m++l3)) l1.length m.length=l1.length+m.length:=by
 have h1:=get_ok (l:=l1++(m++l3)) (p:=l1.length) (W:=m.length) (by omega) (by omega) (by simp;omega) (by simp;omega) (by rw [mid];exact hb)
 rw [mid] at h1
 exact h1
theorem get_back {n:Int} {k:Nat} (l1 l3:List Int) (h1:1≤k) (h8:k≤8) (h0:0≤n) (hn:n<p256 k) (hm:n≤9223372036854775807) :
  getE (l1++(digs n k++l3)) l1.length k=0∧getV (l1++(digs n k++l3)) l1.length k=n∧getN (l1++(digs n k++l3)) l1.length k=l1.length+k:=by
 have e:num (digs n k)=n:=by rw [num_digs,Int.emod_eq_of_lt h0 hn]
 have h:=get_mid (l1:=l1) (m:=digs n k) (l3:=l3) (by rw [length_digs];omega) (by rw [e];exact hm)
 rw [e,length_digs] at h
 exact h
theorem vB_ne (x:Vlu):vB x≠[]:=by
 rw [vB,valB];split<;>simp
theorem vlen_drop {l Y Z:List Int} {p:Nat} (h:l.drop p=Z++Y) (hz:Z≠[]):p<l.length∧l.length=p+Z.length+Y.length:=by
 have h1:=congrArg List.length h;rw [List.length_drop,List.length_append] at h1;have h2:0<Z.length:=List.length_pos_iff.2 hz;omega
theorem rdT_vB {x:Vlu} (h:vM x=true) (h0:VlOk x) (Y:List Int):rdT (vB x++Y) 0=(x.1,x.2.1,x.2.2,((vB x).length:Int),0):=by
 obtain ⟨k,a,b⟩:=x;rcases may_cases (k:=k) (a:=a) (b:=b) h with ⟨rfl,rfl⟩ | ⟨rfl,ho⟩
 ·show rdT (valB 1 a 0++Y) 0=(1,a,0,((valB 1 a 0).length:Int),0);rw [rdT_1 Y h0.2.1,len_1];rfl
 ·show rdT (valB 2 a b++Y) 0=(2,a,b,((valB 2 a b).length:Int),0);rw [rdT_2 Y ho,len_2];rfl
theorem rdT_enc {l Y:List Int} {p:Nat} {x:Vlu} (h:vM x=true) (h0:VlOk x) (hd:l.drop p=vB x++Y):rdT l p=(x.1,x.2.1,x.2.2,((p+(vB x).length:Nat):Int),0):=by
 obtain ⟨hp,_⟩:=vlen_drop hd (vB_ne x);have hl:l=l.take p++(vB x++Y):=by rw [←hd,List.take_append_drop]
 have ht:(l.take p).length=p:=by rw [List.length_take];omega
 have:=rdT_at (l.take p) (vB x) Y (vB_ne x) (rdT_vB h h0 Y) rfl;rw [←hl,ht] at this;rw [this];simp
theorem rpS_enc {l Y:List Int} {L:List Vlu} (h:∀x∈L,vM x=true) (h0:∀x∈L,VlOk x):∀{p:Nat},l.drop p=L.flatMap vB++Y→rpS l L.length p=(L,((p+(L.flatMap vB).length:Nat):Int),0):=by
 induction L with
 | nil=>intro p _;rfl
 | cons x L ih =>
  intro p hd;rw [List.flatMap_cons,List.append_assoc] at hd;have h1:=rdT_enc (h x (by simp)) (h0 x (by simp)) hd;have hd2:l.drop (p+(vB x).length)=L.flatMap vB++Y:=by rw [←List.drop_drop,hd,List.drop_left]
  rw [List.length_cons,rpS_yes h1,ih (fun y hy=>h y (by simp [hy])) (fun y hy=>h0 y (by simp [hy])) hd2,apV,if_pos rfl,List.flatMap_cons,List.length_append,Nat.add_assoc];rfl
theorem rdP_enc {L:List Vlu} (h:poM L=true) (h0:∀x∈L,VlOk x) (X Y:List Int) (hX:Byt X) (hY:Byt Y):rdP (X++(poB L++Y)) X.length=(L,((X.length+(poB L).length:Nat):Int),0):=by
 have hd:(X++(poB L++Y)).drop X.length=poB L++Y:=List.drop_left;have hd1:(X++(poB L++Y)).drop (X.length+1)=L.flatMap vB++Y:=by rw [←List.drop_drop,hd,poB];rfl
 have hlt:X.length<(X++(poB L++Y)).length:=by simp [poB]
 have hby:Byt (X++(poB L++Y)):=byt_append hX (byt_append (poB_byt (poM_le h)) hY);obtain ⟨e1,e2,e3⟩:=get_1 hby hlt
 have he:(X++(poB L++Y))[X.length]?.getD 0=(L.length:Int):=by
  rw [List.getElem?_append_right (Nat.le_refl _),Nat.sub_self,poB];rfl
 rw [rdP,if_pos e1,e2,he,if_neg (by have:=poM_le h;omega),e3,Int.toNat_natCast,rpS_enc (poM_at h) h0 hd1,poB,List.length_cons];congr 2;omega
def qsS:List (Mh×List Ins)→List (Mh×List Ins)→Bool
 | [],[]=>true
 | z::s,y::t=>(mS z.1 y.1&&decide (z.2=y.2))&&qsS s t
 | _,_=>false
def qS (a b:Md):Bool:=a.i==b.i&&(decide (a.g=b.g)&&(decide (a.p=b.p)&&qsS a.s b.s))
theorem qsS_iff:∀{s t:List (Mh×List Ins)},qsS s t=true↔s=t
 | [],[]=>by simp [qsS]
 | [],_::_=>by simp [qsS]
 | _::_,[]=>by simp [qsS]
 | (m,k)::s,(m',k')::t=>by
  rw [qsS,Bool.and_eq_true,Bool.and_eq_true,mS_iff,qsS_iff (s:=s) (t:=t)];simp
theorem qS_iff {a b:Md}:qS a b=true↔a=b:=by
 obtain ⟨g,p,s,i⟩:=a;obtain ⟨g',p',s',i'⟩:=b;simp only [qS,Bool.and_eq_true,qsS_iff,decide_eq_true_eq,beq_iff_eq,Md.mk.injEq];constructor
 ·rintro ⟨h1,h2,h3,h4⟩;exact ⟨h2,h3,h4,h1⟩
 ·rintro ⟨h2,h3,h4,h1⟩;exact ⟨h1,h2,h3,h4⟩
theorem qS_self (d:Md):qS d d=true:=qS_iff.2 rfl
theorem qsS_at {s t:List (Mh×List Ins)} {j:Nat} (h:j<s.length) (h2:j<t.length):qsS (s.drop j) (t.drop j)=((mS (s[j]).1 (t[j]).1&&decide ((s[j]).2=(t[j]).2))&&qsS (s.drop (j+1)) (t.drop (j+1))):=by
 rw [List.drop_eq_getElem_cons h,List.drop_eq_getElem_cons h2,qsS]
theorem qsS_len {s t:List (Mh×List Ins)} (h:s.length≠t.length):qsS s t=false:=by
 cases hq:qsS s t with
 | false=>rfl
 | true=>exact absurd (by rw [qsS_iff.1 hq]) h
theorem r8same_v (y t:Ma) (d e:Md) (v:Bool) (w:World) (hy:Hq w y d) (ht:Hq w t e) (hv:qS d e=v) :
  Calls Tryz.prog 17 #[dv y d,dv t e] w fun r w'=>r=.returned (.bool v)∧Below w.heap.size w w':=by
 have hls:=hy.2.2.1.len
 have hls2:=ht.2.2.1.len
 have hzl:=hy.zlen
 have hzl2:=ht.zlen
 rw [hzl] at hls
 rw [hzl2] at hls2
 have HZL:=zhy (And.intro hzl hzl2)
 have HZA:=zhy (fun (i:Nat) (h1:i<y.Z.length) (h2:i<d.s.length)=>hy.zat h1 h2)
 have HZB:=zhy (fun (i:Nat) (h1:i<t.Z.length) (h2:i<e.s.length)=>ht.zat h1 h2)
 obtain ⟨G,gc,P,pc,A,c,Z⟩:=y
 obtain ⟨G2,gc2,P2,pc2,A2,c2,Z2⟩:=t
 dsimp only at HZL HZA HZB hzl hzl2
 have S0:=zhy (((((Sx.start w).add (fQm ⟨G,gc,P,pc,A,c,Z⟩ d) hy).add (fQm ⟨G2,gc2,P2,pc2,A2,c2,Z2⟩ e) ht).mkD ⟨G,gc,P,pc,A,c,Z⟩ d).mkD ⟨G2,gc2,P2,pc2,A2,c2,Z2⟩ e)
 rw [size1] at S0
 have HV:=zhy hv
 clear hy ht hv hzl hzl2
 obtain ⟨-,⟨y0,y1,y2,y3,y4⟩,⟨x0,x1,x2,x3,x4⟩,-⟩:=S0.out
 dsimp only at x1 x2 x3 y1 y2 y3
 by_cases hi:d.i=e.i
 ·have E0:(d.i != e.i)=false:=by simpa using hi
  have HI:=zhy hi
  clear hi
  go_enter Tryz.func17,Tryz.ntmps17
  go_wp2_with fail
  refine (r3same_any G G2 gc gc2 _ _ d.g e.g _ S0.out.2.2.2.2.1.1 S0.out.2.2.2.1.1 rfl rfl).mono ?_
  rintro r1 w1 ⟨rfl,hb1⟩
  have S1:=zhy (S0.out.call hb1)
  clear hb1 S0
  clear y0 y1 y2 y3 y4 x0 x1 x2 x3 x4
  obtain ⟨-,⟨y0,y1,y2,y3,y4⟩,⟨x0,x1,x2,x3,x4⟩,-⟩:=S1.out
  dsimp only at x1 x2 x3 y1 y2 y3
  by_cases hg:d.g=e.g
  ·rw [decide_eq_true hg]
   have HG:=zhy hg
   clear hg
   go_wp2_with fail
   refine (r3same_any P P2 pc pc2 _ _ d.p e.p _ S1.out.2.2.2.2.1.2.1 S1.out.2.2.2.1.2.1 rfl rfl).mono ?_
   rintro r1 w2 ⟨rfl,hb2⟩
   have S2:=zhy (S1.out.call hb2)
   clear hb2 S1
   clear y0 y1 y2 y3 y4 x0 x1 x2 x3 x4
   obtain ⟨-,⟨y0,y1,y2,y3,y4⟩,⟨x0,x1,x2,x3,x4⟩,-⟩:=S2.out
   dsimp only at x1 x2 x3 y1 y2 y3
   by_cases hp:d.p=e.p
   ·rw [decide_eq_true hp]
    have HP:=zhy hp
    clear hp
    by_cases hn:d.s.length=e.s.length
    ·have HNL:=zhy hn
     have E1:((d.s.length:Int) != (e.s.length:Int))=false:=by simp [hn]
     have HQ:Hid (qsS d.s e.s=v):=by
      rw [Hid,←HV.out,qS,decide_eq_true HG.out,decide_eq_true HP.out,HI.out];simp
     clear hn HV
     go_wp2_with fail
     clear E1
     clear y0 y1 y2 y3 y4 x0 x1 x2 x3 x4
     go_loopw [5] (fun i wr=>∃j:Nat,j≤d.s.length∧i=.int .i64 j∧Hid (qsS d.s e.s=qsS (d.s.drop j) (e.s.drop j))∧Hid (Sx w wr [fD (w.heap.size+1) ⟨G2,gc2,P2,pc2,A2,c2,Z2⟩ e,fD w.heap.size ⟨G,gc,P,pc,A,c,Z⟩ d,fQm ⟨G2,gc2,P2,pc2,A2,c2,Z2⟩ e,fQm ⟨G,gc,P,pc,A,c,Z⟩ d])) (fun i _=>d.s.length-(intOf i).toNat)
     case atStart=>exact ⟨0,by omega,rfl,by simp [Hid],S2⟩
     case round =>
      obtain ⟨j,hj,rfl,HT,S1⟩:=hrel
      clear S2
      obtain ⟨-,⟨y0,y1,y2,y3,y4⟩,⟨x0,x1,x2,x3,x4⟩,-⟩:=S1.out
      dsimp only at x1 x2 x3 y1 y2 y3
      by_cases h1:j<d.s.length
      ·have h2:j<e.s.length:=by rw [←HNL.out];exact h1
       have h1z:j<Z.length:=by rw [HZL.out.1];exact h1
       have h2z:j<Z2.length:=by rw [HZL.out.2];exact h2
       have hR:Rm wr A c Z:=S1.out.2.2.2.2.1.2.2.1
       obtain ⟨ad,rfl,-,-⟩:=hR.at_ h1z
       have hR2:Rm wr A2 c2 Z2:=S1.out.2.2.2.1.2.2.1
       obtain ⟨ad2,rfl,-,-⟩:=hR2.at_ h2z
       have HE1:=zhy (Rm.each (w:=wr) (ad:=ad) (c:=c) h1z)
       have HE2:=zhy (Rm.each (w:=wr) (ad:=ad2) (c:=c2) h2z)
       have hAT:=qsS_at h1 h2
       rw [HZA.out j h1z h1,HZB.out j h2z h2] at hAT
       have HK:Hid ((Z[j]).k.length=(Z[j]).x.k∧(Z2[j]).k.length=(Z2[j]).x.k):=⟨(HE1.out _ hR).2.2.2,(HE2.out _ hR2).2.2.2⟩
       clear hR hR2
       generalize Z[j]=z at *
       generalize Z2[j]=z2 at *
       obtain ⟨xx,m,k⟩:=z
       obtain ⟨xx2,m2,k2⟩:=z2
       dsimp only at hAT HK
       have HNO:Hid ((mS m m2&&decide (k=k2))=false→v=false):=fun h=>by rw [←HQ.out,HT.out,hAT,h,Bool.false_and]
       have HYES:Hid ((mS m m2&&decide (k=k2))=true→Hid (qsS d.s e.s=qsS (d.s.drop (j+1)) (e.s.drop (j+1)))):=fun h=>by rw [Hid,HT.out,hAT,h,Bool.true_and]
       obtain ⟨hs,hhs⟩:∃b,mS m m2=b:=⟨_,rfl⟩
       have HM:=zhy hhs
       clear hAT hhs HT
       go_upto_region 6 with (fail)
       clear y0 y1 y2 y3 y4 x0 x1 x2 x3 x4
       have S2:=S1
       clear S1
       cases hs with
       | false =>
        refine wp_region_held_drew (S:=fun w'=>Hid (Sx w w' [fD (w.heap.size+1) ⟨G2,gc2,P2,pc2,(some ad2),c2,Z2⟩ e,fD w.heap.size ⟨G,gc,P,pc,(some ad),c,Z⟩ d,fQm ⟨G2,gc2,P2,pc2,(some ad2),c2,Z2⟩ e,fQm ⟨G,gc,P,pc,(some ad),c,Z⟩ d])) (by kernel_rfl) (Hsx.drew S2) (fun hHeld=>?_)
        refine ztk (i:=0) (v:=?_) rfl (by kernel_rfl) (fun _ _ _ h=>h) (Or.inl ⟨by rfl,?_⟩) (by assumption) ?_
        rotate_left 1
        ·intro w _;go_simp;try with_reducible rfl
        (try simp only [Act.put,zg1,zg2,zg3,zg4,zg5,zg6])
        refine ztk (i:=1) (v:=?_) rfl (by kernel_rfl) (fun _ _ _ h=>h) (Or.inl ⟨by rfl,?_⟩) (by assumption) ?_
        rotate_left 1
        ·intro w hSw;(try dsimp only at hSw);obtain ⟨-,⟨y0,y1,y2,y3,y4⟩,⟨x0,x1,x2,x3,x4⟩,-⟩:=hSw.out;dsimp only at x1 x2 x3 y1 y2 y3;go_simp;try with_reducible rfl
        (try simp only [Act.put,zg1,zg2,zg3,zg4,zg5,zg6])
        refine ztk (i:=2) (v:=?_) rfl (by kernel_rfl) (fun _ _ _ h=>h) (Or.inl ⟨by rfl,?_⟩) (by assumption) ?_
        rotate_left 1
        ·intro w _;go_simp;try with_reducible rfl
        (try simp only [Act.put,zg1,zg2,zg3,zg4,zg5,zg6])
        refine ztk (i:=3) (v:=?_) rfl (by kernel_rfl) (fun _ _ _ h=>h) (Or.inl ⟨by rfl,?_⟩) (by assumption) ?_
        rotate_left 1
        ·intro w _;go_simp;try with_reducible rfl
        (try simp only [Act.put,zg1,zg2,zg3,zg4,zg5,zg6])
        refine ztk (i:=4) (v:=?_) rfl (by kernel_rfl) (fun _ _ _ h=>h) (Or.inl ⟨by rfl,?_⟩) (by assumption) ?_
        rotate_left 1
        ·intro w hSw;(try dsimp only at hSw);obtain ⟨a1,a2,a3,a4,a5,a6,a7,a8⟩:=(HE1.out w hSw.out.2.2.2.2.1.2.2.1).1;dsimp only at a1 a2 a3 a4 a5 a6 a7 a8;go_simp;try with_reducible rfl
        (try simp only [Act.put,zg1,zg2,zg3,zg4,zg5,zg6])
        refine ztk (i:=5) (v:=?_) rfl (by kernel_rfl) (fun _ _ _ h=>h) (Or.inl ⟨by rfl,?_⟩) (by assumption) ?_
        rotate_left 1
        ·intro w _;go_simp;try with_reducible rfl
        (try simp only [Act.put,zg1,zg2,zg3,zg4,zg5,zg6])
        refine ztk (i:=6) (v:=?_) rfl (by kernel_rfl) (fun _ _ _ h=>h) (Or.inl ⟨by rfl,?_⟩) (by assumption) ?_
        rotate_left 1
        ·intro w hSw;(try dsimp only at hSw);obtain ⟨-,⟨y0,y1,y2,y3,y4⟩,⟨x0,x1,x2,x3,x4⟩,-⟩:=hSw.out;dsimp only at x1 x2 x3 y1 y2 y3;go_simp;try with_reducible rfl
        (try simp only [Act.put,zg1,zg2,zg3,zg4,zg5,zg6])
        refine ztk (i:=7) (v:=?_) rfl (by kernel_rfl) (fun _ _ _ h=>h) (Or.inl ⟨by rfl,?_⟩) (by assumption) ?_
        rotate_left 1
        ·intro w _;go_simp;try with_reducible rfl
        (try simp only [Act.put,zg1,zg2,zg3,zg4,zg5,zg6])
        refine ztk (i:=8) (v:=?_) rfl (by kernel_rfl) (fun _ _ _ h=>h) (Or.inl ⟨by rfl,?_⟩) (by assumption) ?_
        rotate_left 1
        ·intro w _;go_simp;try with_reducible rfl
        (try simp only [Act.put,zg1,zg2,zg3,zg4,zg5,zg6])
        refine ztk (i:=9) (v:=?_) rfl (by kernel_rfl) (fun _ _ _ h=>h) (Or.inl ⟨by rfl,?_⟩) (by assumption) ?_
        rotate_left 1
        ·intro w hSw;(try dsimp only at hSw);obtain ⟨a1,a2,a3,a4,a5,a6,a7,a8⟩:=(HE2.out w hSw.out.2.2.2.1.2.2.1).1;dsimp only at a1 a2 a3 a4 a5 a6 a7 a8;go_simp;try with_reducible rfl
        (try simp only [Act.put,zg1,zg2,zg3,zg4,zg5,zg6])
        refine wpAnyH_ready (rs:=[10]) (by kernel_rfl) (by simp) ?_
        refine AllReadyH.cons rfl (fun K hK=>?_) AllReadyH.nil
        go_simp
        refine (r7sam_v xx xx2 m m2 _ _ (HE1.out _ hHeld.out.2.2.2.2.1.2.2.1).2.1 (HE2.out _ hHeld.out.2.2.2.1.2.2.1).2.1 HM.out).mono ?_
        rintro r1 wb ⟨rfl,hb⟩
        go_wp2_with fail
        refine hK.out _ _ (Hsx.call hb hHeld) (fun hHeld=>?_)
        clear hK K
        (try simp only [Act.put,zg1,zg2,zg3,zg4,zg5,zg6])
        refine ztk (i:=11) (v:=?_) rfl (by kernel_rfl) (fun _ _ _ h=>h) (Or.inl ⟨by rfl,?_⟩) (by assumption) ?_
        rotate_left 1
        ·intro w _;go_simp;try with_reducible rfl
        (try simp only [Act.put,zg1,zg2,zg3,zg4,zg5,zg6])
        refine ztk (i:=12) (v:=?_) rfl (by kernel_rfl) (fun _ _ _ h=>h) (Or.inl ⟨by rfl,?_⟩) (by assumption) ?_
        rotate_left 1
        ·intro w _;go_simp;try with_reducible rfl
        (try simp only [Act.put,zg1,zg2,zg3,zg4,zg5,zg6])
        refine ztk (i:=13) (v:=undef) rfl (by kernel_rfl) (fun _ _ _ h=>h) (Or.inr ⟨by rfl,rfl⟩) (by assumption) ?_
        (try simp only [Act.put,zg1,zg2,zg3,zg4,zg5,zg6])
        refine ztk (i:=14) (v:=undef) rfl (by kernel_rfl) (fun _ _ _ h=>h) (Or.inr ⟨by rfl,rfl⟩) (by assumption) ?_
        (try simp only [Act.put,zg1,zg2,zg3,zg4,zg5,zg6])
        refine ztk (i:=15) (v:=undef) rfl (by kernel_rfl) (fun _ _ _ h=>h) (Or.inr ⟨by rfl,rfl⟩) (by assumption) ?_
        (try simp only [Act.put,zg1,zg2,zg3,zg4,zg5,zg6])
        refine ztk (i:=16) (v:=undef) rfl (by kernel_rfl) (fun _ _ _ h=>h) (Or.inr ⟨by rfl,rfl⟩) (by assumption) ?_
        (try simp only [Act.put,zg1,zg2,zg3,zg4,zg5,zg6])
        refine ztk (i:=17) (v:=undef) rfl (by kernel_rfl) (fun _ _ _ h=>h) (Or.inr ⟨by rfl,rfl⟩) (by assumption) ?_
        (try simp only [Act.put,zg1,zg2,zg3,zg4,zg5,zg6])
        refine ztk (i:=18) (v:=undef) rfl (by kernel_rfl) (fun _ _ _ h=>h) (Or.inr ⟨by rfl,rfl⟩) (by assumption) ?_
        (try simp only [Act.put,zg1,zg2,zg3,zg4,zg5,zg6])
        refine ztk (i:=19) (v:=undef) rfl (by kernel_rfl) (fun _ _ _ h=>h) (Or.inr ⟨by rfl,rfl⟩) (by assumption) ?_
        (try simp only [Act.put,zg1,zg2,zg3,zg4,zg5,zg6])
        refine ztk (i:=20) (v:=undef) rfl (by kernel_rfl) (fun _ _ _ h=>h) (Or.inr ⟨by rfl,rfl⟩) (by assumption) ?_
        (try simp only [Act.put,zg1,zg2,zg3,zg4,zg5,zg6])
        refine ztk (i:=21) (v:=undef) rfl (by kernel_rfl) (fun _ _ _ h=>h) (Or.inr ⟨by rfl,rfl⟩) (by assumption) ?_
        (try simp only [Act.put,zg1,zg2,zg3,zg4,zg5,zg6])
        refine ztk (i:=22) (v:=undef) rfl (by kernel_rfl) (fun _ _ _ h=>h) (Or.inr ⟨by rfl,rfl⟩) (by assumption) ?_
        (try simp only [Act.put,zg1,zg2,zg3,zg4,zg5,zg6])
        refine ztk (i:=23) (v:=undef) rfl (by kernel_rfl) (fun _ _ _ h=>h) (Or.inr ⟨by rfl,rfl⟩) (by assumption) ?_
        (try simp only [Act.put,zg1,zg2,zg3,zg4,zg5,zg6])
        refine ztk (i:=24) (v:=undef) rfl (by kernel_rfl) (fun _ _ _ h=>h) (Or.inr ⟨by rfl,rfl⟩) (by assumption) ?_
        (try simp only [Act.put,zg1,zg2,zg3,zg4,zg5,zg6])
        refine ztk (i:=25) (v:=undef) rfl (by kernel_rfl) (fun _ _ _ h=>h) (Or.inr ⟨by rfl,rfl⟩) (by assumption) ?_
        (try simp only [Act.put,zg1,zg2,zg3,zg4,zg5,zg6])
        refine ztk (i:=26) (v:=undef) rfl (by kernel_rfl) (fun _ _ _ h=>h) (Or.inr ⟨by rfl,rfl⟩) (by assumption) ?_
        (try simp only [Act.put,zg1,zg2,zg3,zg4,zg5,zg6])
        refine ztk (i:=27) (v:=?_) rfl (by kernel_rfl) (fun _ _ _ h=>h) (Or.inl ⟨by rfl,?_⟩) (by assumption) ?_
        rotate_left 1
        ·intro w _;go_simp;try with_reducible rfl
        (try simp only [Act.put,zg1,zg2,zg3,zg4,zg5,zg6])
        refine wpAnyH_done (by kernel_rfl) ?_ _
        have HN:Hid (v=false):=HNO.out (by rw [HM.out];rfl)
        have HB:=zhy hHeld.out.1
        clear hHeld S2
        go_wp2_with fail
        go_ret
        exact ⟨by rw [HN.out];rfl,HB.out⟩
       | true =>
        refine wp_region_held_drew (S:=fun w'=>Hid (Sx w w' [fD (w.heap.size+1) ⟨G2,gc2,P2,pc2,(some ad2),c2,Z2⟩ e,fD w.heap.size ⟨G,gc,P,pc,(some ad),c,Z⟩ d,fQm ⟨G2,gc2,P2,pc2,(some ad2),c2,Z2⟩ e,fQm ⟨G,gc,P,pc,(some ad),c,Z⟩ d])) (by kernel_rfl) (Hsx.drew S2) (fun hHeld=>?_)
        refine ztk (i:=0) (v:=?_) rfl (by kernel_rfl) (fun _ _ _ h=>h) (Or.inl ⟨by rfl,?_⟩) (by assumption) ?_
        rotate_left 1
        ·intro w _;go_simp;try with_reducible rfl
        (try simp only [Act.put,zg1,zg2,zg3,zg4,zg5,zg6])
        refine ztk (i:=1) (v:=?_) rfl (by kernel_rfl) (fun _ _ _ h=>h) (Or.inl ⟨by rfl,?_⟩) (by assumption) ?_
        rotate_left 1
        ·intro w hSw;(try dsimp only at hSw);obtain ⟨-,⟨y0,y1,y2,y3,y4⟩,⟨x0,x1,x2,x3,x4⟩,-⟩:=hSw.out;dsimp only at x1 x2 x3 y1 y2 y3;go_simp;try with_reducible rfl
        (try simp only [Act.put,zg1,zg2,zg3,zg4,zg5,zg6])
        refine ztk (i:=2) (v:=?_) rfl (by kernel_rfl) (fun _ _ _ h=>h) (Or.inl ⟨by rfl,?_⟩) (by assumption) ?_
        rotate_left 1
        ·intro w _;go_simp;try with_reducible rfl
        (try simp only [Act.put,zg1,zg2,zg3,zg4,zg5,zg6])
        refine ztk (i:=3) (v:=?_) rfl (by kernel_rfl) (fun _ _ _ h=>h) (Or.inl ⟨by rfl,?_⟩) (by assumption) ?_
        rotate_left 1
        ·intro w _;go_simp;try with_reducible rfl
        (try simp only [Act.put,zg1,zg2,zg3,zg4,zg5,zg6])
        refine ztk (i:=4) (v:=?_) rfl (by kernel_rfl) (fun _ _ _ h=>h) (Or.inl ⟨by rfl,?_⟩) (by assumption) ?_
        rotate_left 1
        ·intro w hSw;(try dsimp only at hSw);obtain ⟨a1,a2,a3,a4,a5,a6,a7,a8⟩:=(HE1.out w hSw.out.2.2.2.2.1.2.2.1).1;dsimp only at a1 a2 a3 a4 a5 a6 a7 a8;go_simp;try with_reducible rfl
        (try simp only [Act.put,zg1,zg2,zg3,zg4,zg5,zg6])
        refine ztk (i:=5) (v:=?_) rfl (by kernel_rfl) (fun _ _ _ h=>h) (Or.inl ⟨by rfl,?_⟩) (by assumption) ?_
        rotate_left 1
        ·intro w _;go_simp;try with_reducible rfl
        (try simp only [Act.put,zg1,zg2,zg3,zg4,zg5,zg6])
        refine ztk (i:=6) (v:=?_) rfl (by kernel_rfl) (fun _ _ _ h=>h) (Or.inl ⟨by rfl,?_⟩) (by assumption) ?_
        rotate_left 1
        ·intro w hSw;(try dsimp only at hSw);obtain ⟨-,⟨y0,y1,y2,y3,y4⟩,⟨x0,x1,x2,x3,x4⟩,-⟩:=hSw.out;dsimp only at x1 x2 x3 y1 y2 y3;go_simp;try with_reducible rfl
        (try simp only [Act.put,zg1,zg2,zg3,zg4,zg5,zg6])
        refine ztk (i:=7) (v:=?_) rfl (by kernel_rfl) (fun _ _ _ h=>h) (Or.inl ⟨by rfl,?_⟩) (by assumption) ?_
        rotate_left 1
        ·intro w _;go_simp;try with_reducible rfl
        (try simp only [Act.put,zg1,zg2,zg3,zg4,zg5,zg6])
        refine ztk (i:=8) (v:=?_) rfl (by kernel_rfl) (fun _ _ _ h=>h) (Or.inl ⟨by rfl,?_⟩) (by assumption) ?_
        rotate_left 1
        ·intro w _;go_simp;try with_reducible rfl
        (try simp only [Act.put,zg1,zg2,zg3,zg4,zg5,zg6])
        refine ztk (i:=9) (v:=?_) rfl (by kernel_rfl) (fun _ _ _ h=>h) (Or.inl ⟨by rfl,?_⟩) (by assumption) ?_
        rotate_left 1
        ·intro w hSw;(try dsimp only at hSw);obtain ⟨a1,a2,a3,a4,a5,a6,a7,a8⟩:=(HE2.out w hSw.out.2.2.2.1.2.2.1).1;dsimp only at a1 a2 a3 a4 a5 a6 a7 a8;go_simp;try with_reducible rfl
        (try simp only [Act.put,zg1,zg2,zg3,zg4,zg5,zg6])
        refine wpAnyH_ready (rs:=[10]) (by kernel_rfl) (by simp) ?_
        refine AllReadyH.cons rfl (fun K hK=>?_) AllReadyH.nil
        go_simp
        refine (r7sam_v xx xx2 m m2 _ _ (HE1.out _ hHeld.out.2.2.2.2.1.2.2.1).2.1 (HE2.out _ hHeld.out.2.2.2.1.2.2.1).2.1 HM.out).mono ?_
        rintro r1 wb ⟨rfl,hb⟩
        go_wp2_with fail
        refine hK.out _ _ (Hsx.call hb hHeld) (fun hHeld=>?_)
        clear hK K
        (try simp only [Act.put,zg1,zg2,zg3,zg4,zg5,zg6])
        refine ztk (i:=11) (v:=?_) rfl (by kernel_rfl) (fun _ _ _ h=>h) (Or.inl ⟨by rfl,?_⟩) (by assumption) ?_
        rotate_left 1
        ·intro w _;go_simp;try with_reducible rfl
        (try simp only [Act.put,zg1,zg2,zg3,zg4,zg5,zg6])
        refine ztk (i:=12) (v:=?_) rfl (by kernel_rfl) (fun _ _ _ h=>h) (Or.inl ⟨by rfl,?_⟩) (by assumption) ?_
        rotate_left 1
        ·intro w _;go_simp;try with_reducible rfl
        (try simp only [Act.put,zg1,zg2,zg3,zg4,zg5,zg6])
        refine ztk (i:=13) (v:=?_) rfl (by kernel_rfl) (fun _ _ _ h=>h) (Or.inl ⟨by rfl,?_⟩) (by assumption) ?_
        rotate_left 1
        ·intro w _;go_simp;try with_reducible rfl
        (try simp only [Act.put,zg1,zg2,zg3,zg4,zg5,zg6])
        refine ztk (i:=14) (v:=?_) rfl (by kernel_rfl) (fun _ _ _ h=>h) (Or.inl ⟨by rfl,?_⟩) (by assumption) ?_
        rotate_left 1
        ·intro w hSw;(try dsimp only at hSw);obtain ⟨-,⟨y0,y1,y2,y3,y4⟩,⟨x0,x1,x2,x3,x4⟩,-⟩:=hSw.out;dsimp only at x1 x2 x3 y1 y2 y3;go_simp;try with_reducible rfl
        (try simp only [Act.put,zg1,zg2,zg3,zg4,zg5,zg6])
        refine ztk (i:=15) (v:=?_) rfl (by kernel_rfl) (fun _ _ _ h=>h) (Or.inl ⟨by rfl,?_⟩) (by assumption) ?_
        rotate_left 1
        ·intro w _;go_simp;try with_reducible rfl
        (try simp only [Act.put,zg1,zg2,zg3,zg4,zg5,zg6])
        refine ztk (i:=16) (v:=?_) rfl (by kernel_rfl) (fun _ _ _ h=>h) (Or.inl ⟨by rfl,?_⟩) (by assumption) ?_
        rotate_left 1
        ·intro w _;go_simp;try with_reducible rfl
        (try simp only [Act.put,zg1,zg2,zg3,zg4,zg5,zg6])
        refine ztk (i:=17) (v:=?_) rfl (by kernel_rfl) (fun _ _ _ h=>h) (Or.inl ⟨by rfl,?_⟩) (by assumption) ?_
        rotate_left 1
        ·intro w _;go_simp;try with_reducible rfl
        (try simp only [Act.put,zg1,zg2,zg3,zg4,zg5,zg6])
        refine ztk (i:=18) (v:=?_) rfl (by kernel_rfl) (fun _ _ _ h=>h) (Or.inl ⟨by rfl,?_⟩) (by assumption) ?_
        rotate_left 1
        ·intro w hSw;(try dsimp only at hSw);obtain ⟨a1,a2,a3,a4,a5,a6,a7,a8⟩:=(HE1.out w hSw.out.2.2.2.2.1.2.2.1).1;dsimp only at a1 a2 a3 a4 a5 a6 a7 a8;go_simp;try with_reducible rfl
        (try simp only [Act.put,zg1,zg2,zg3,zg4,zg5,zg6])
        refine ztk (i:=19) (v:=?_) rfl (by kernel_rfl) (fun _ _ _ h=>h) (Or.inl ⟨by rfl,?_⟩) (by assumption) ?_
        rotate_left 1
        ·intro w _;go_simp;try with_reducible rfl
        (try simp only [Act.put,zg1,zg2,zg3,zg4,zg5,zg6])
        refine ztk (i:=20) (v:=?_) rfl (by kernel_rfl) (fun _ _ _ h=>h) (Or.inl ⟨by rfl,?_⟩) (by assumption) ?_
        rotate_left 1
        ·intro w hSw;(try dsimp only at hSw);obtain ⟨-,⟨y0,y1,y2,y3,y4⟩,⟨x0,x1,x2,x3,x4⟩,-⟩:=hSw.out;dsimp only at x1 x2 x3 y1 y2 y3;go_simp;try with_reducible rfl
        (try simp only [Act.put,zg1,zg2,zg3,zg4,zg5,zg6])
        refine ztk (i:=21) (v:=?_) rfl (by kernel_rfl) (fun _ _ _ h=>h) (Or.inl ⟨by rfl,?_⟩) (by assumption) ?_
        rotate_left 1
        ·intro w _;go_simp;try with_reducible rfl
        (try simp only [Act.put,zg1,zg2,zg3,zg4,zg5,zg6])
        refine ztk (i:=22) (v:=?_) rfl (by kernel_rfl) (fun _ _ _ h=>h) (Or.inl ⟨by rfl,?_⟩) (by assumption) ?_
        rotate_left 1
        ·intro w _;go_simp;try with_reducible rfl
        (try simp only [Act.put,zg1,zg2,zg3,zg4,zg5,zg6])
        refine ztk (i:=23) (v:=?_) rfl (by kernel_rfl) (fun _ _ _ h=>h) (Or.inl ⟨by rfl,?_⟩) (by assumption) ?_
        rotate_left 1
        ·intro w _;go_simp;try with_reducible rfl
        (try simp only [Act.put,zg1,zg2,zg3,zg4,zg5,zg6])
        refine ztk (i:=24) (v:=?_) rfl (by kernel_rfl) (fun _ _ _ h=>h) (Or.inl ⟨by rfl,?_⟩) (by assumption) ?_
        rotate_left 1
        ·intro w hSw;(try dsimp only at hSw);obtain ⟨a1,a2,a3,a4,a5,a6,a7,a8⟩:=(HE2.out w hSw.out.2.2.2.1.2.2.1).1;dsimp only at a1 a2 a3 a4 a5 a6 a7 a8;go_simp;try with_reducible rfl
        (try simp only [Act.put,zg1,zg2,zg3,zg4,zg5,zg6])
        refine wpAnyH_ready (rs:=[25]) (by kernel_rfl) (by simp) ?_
        refine AllReadyH.cons rfl (fun K hK=>?_) AllReadyH.nil
        go_simp
        refine (r5same_any xx.D xx2.D xx.e xx2.e xx.k xx2.k k k2 _ (HE1.out _ hHeld.out.2.2.2.2.1.2.2.1).2.2.1 (HE2.out _ hHeld.out.2.2.2.1.2.2.1).2.2.1 HK.out.1 HK.out.2).mono ?_
        rintro r1 wb ⟨rfl,hb⟩
        go_wp2_with fail
        refine hK.out _ _ (Hsx.call hb hHeld) (fun hHeld=>?_)
        clear hK K
        (try simp only [Act.put,zg1,zg2,zg3,zg4,zg5,zg6])
        refine ztk (i:=26) (v:=?_) rfl (by kernel_rfl) (fun _ _ _ h=>h) (Or.inl ⟨by rfl,?_⟩) (by assumption) ?_
        rotate_left 1
        ·intro w _;go_simp;try with_reducible rfl
        (try simp only [Act.put,zg1,zg2,zg3,zg4,zg5,zg6])
        refine ztk (i:=27) (v:=?_) rfl (by kernel_rfl) (fun _ _ _ h=>h) (Or.inl ⟨by rfl,?_⟩) (by assumption) ?_
        rotate_left 1
        ·intro w _;go_simp;try with_reducible rfl
        (try simp only [Act.put,zg1,zg2,zg3,zg4,zg5,zg6])
        refine wpAnyH_done (by kernel_rfl) ?_ _
        have S3:=hHeld
        clear hHeld S2
        by_cases hk:k=k2
        ·rw [decide_eq_true hk]
         have HN:=HYES.out (by rw [HM.out,decide_eq_true hk];rfl)
         clear hk
         go_wp2_with fail
         go_roundw
         case rel=>exact ⟨j+1,by omega,by go_num,HN,S3⟩
         case measure=>simp [intOf];omega
        ·rw [decide_eq_false hk]
         have HN:Hid (v=false):=HNO.out (by rw [HM.out,decide_eq_false hk];rfl)
         clear hk
         go_wp2_with fail
         go_ret
         exact ⟨by rw [HN.out];rfl,S3.out.1⟩
      ·obtain rfl:j=d.s.length:=by omega
       have HN:Hid (v=true):=by
        rw [Hid,←HQ.out,HT.out,List.drop_of_length_le (Nat.le_refl _),List.drop_of_length_le (by rw [HNL.out];omega)];rfl
       clear HT
       go_wp2_with fail
       go_ret
       exact ⟨by rw [HN.out];rfl,S1.out.1⟩
    ·have E1:((d.s.length:Int) != (e.s.length:Int))=true:=by simp;omega
     have HN:Hid (v=false):=by rw [Hid,←HV.out,qS,qsS_len hn];simp
     clear hn
     go_wp2_with fail
     go_ret
     exact ⟨by rw [HN.out];rfl,S2.out.1⟩
   ·rw [decide_eq_false hp]
    have HN:Hid (v=false):=by rw [Hid,←HV.out,qS,decide_eq_false hp];simp
    clear hp
    go_wp2_with fail
    go_ret
    exact ⟨by rw [HN.out];rfl,S2.out.1⟩
  ·rw [decide_eq_false hg]
   have HN:Hid (v=false):=by rw [Hid,←HV.out,qS,decide_eq_false hg];simp
   clear hg
   go_wp2_with fail
   go_ret
   exact ⟨by rw [HN.out];rfl,S1.out.1⟩
 ·have E0:(d.i != e.i)=true:=by simpa using hi
  have HN:Hid (v=false):=by rw [Hid,←HV.out,qS,show (d.i==e.i)=false by simpa using hi];rfl
  clear hi
  go_enter Tryz.func17,Tryz.ntmps17
  go_wp2_with fail
  go_ret
  exact ⟨by rw [HN.out];rfl,S0.out.1⟩
theorem rN_at {L:List Int} {q:Int} (P S:List Int) {n:Int} {k:Nat} {lo hi:Int} (hL:L=P++(digs n k++S)) (hq:q=(P.length:Int)) (h1:1≤k) (h8:k≤7) (h0:0≤n) (hn:n<p256 k) (hb:lo≤n∧n≤hi):rN L (k:Int) lo hi (q,0)=(n,q+k,0):=by
 subst hL hq
 have hm:n≤9223372036854775807:=by
  have h2:=p256_le h8;have h3:p256 7=72057594037927936:=by decide
  omega
 obtain ⟨g1,g2,g3⟩:=get_back (k:=k) P S h1 (by omega) h0 hn hm;rw [rN_yes (by rw [nE,if_pos g1,g2,if_pos hb]),g2,g3]
theorem p1 {n:Int} (h:n<256):n<p256 1:=by
 have:p256 1=256:=by decide
 omega
theorem rN_at1 {L:List Int} {q:Int} (P S:List Int) {n:Int} {lo hi:Int} (hL:L=P++(n::S)) (hq:q=(P.length:Int)) (h0:0≤n) (hn:n<256) (hb:lo≤n∧n≤hi):rN L 1 lo hi (q,0)=(n,q+1,0):=
 rN_at (k:=1) P S (by rw [digs_one h0 hn];exact hL) hq (by omega) (by omega) h0 (p1 hn) hb
theorem rKs_at:∀(K:List Int) {L:List Int} {q:Int} (P S:List Int),kO K=true→L=P++(K++S)→q=(P.length:Int)→rKs L K.length (q,0)=(K,q+K.length,0)
 | [],L,q,P,S,_,_,_=>by simp [rKs]
 | x::K,L,q,P,S,hk,hL,hq=>by
  have hx:=kO_at hk (List.mem_cons_self);have ht:kO K=true:=by unfold kO at *;simp only [List.all_cons,Bool.and_eq_true] at hk;exact hk.2
  have e:=rN_at1 (L:=L) (q:=q) P (K++S) (n:=x) (lo:=1) (hi:=3) (by simpa using hL) hq (by omega) (by omega) hx;have e2:=rKs_at K (L:=L) (q:=q+1) (P++[x]) S ht (by simpa using hL) (by rw [hq];simp);rw [List.length_cons,rKs,e,e2];simp;omega
theorem rK_at {L:List Int} {q:Int} (K P S:List Int) {hi:Int} (hk:kO K=true) (hK:K.length<256) (hh:(K.length:Int)≤hi) (hL:L=P++(((K.length:Int)::K)++S)) (hq:q=(P.length:Int)):rK L hi (q,0)=(K,q+(1+K.length),0):=by
 have e:=rN_at1 (L:=L) (q:=q) P (K++S) (n:=K.length) (lo:=0) (hi:=hi) (by simpa using hL) hq (by omega) (by omega) ⟨by omega,hh⟩;have e2:=rKs_at K (L:=L) (q:=q+1) (P++[(K.length:Int)]) S hk (by simpa using hL) (by rw [hq];simp);rw [rK,e];dsimp only;rw [Int.toNat_natCast,e2];simp;omega
theorem rdQ_enc {m:Mh} (h:mM m=true) (l1 l3:List Int):rdQ (l1++(mL m++l3)) (l1.length:Int)=(m,(l1.length:Int)+(mL m).length,0):=by
 have hm:=mM_iff.1 h;have h2:p256 2=65536:=by decide
 have h3:p256 3=16777216:=by decide
 have hq:0≤fl m.q∧fl m.q≤1:=by cases m.q<;>decide
 rw [mL_len h,mL,if_pos h];obtain ⟨a,l,r,qq,f,s,hh⟩:=m;dsimp only at *;obtain ⟨L,hL⟩:∃L,l1++(((a.length:Int)::a)++(((l.length:Int)::l)++([r,fl qq]++(digs f 3++(digs s 2++digs hh 2))))++l3)=L:=⟨_,rfl⟩;rw [hL];have e1:=rK_at (L:=L) (q:=(l1.length:Int)) a l1 ((((l.length:Int)::l)++([r,fl qq]++(digs f 3++(digs s 2++digs hh 2))))++l3) (hi:=4) hm.2.2.1 (by omega) (by omega) (by rw [←hL];simp) rfl;have e2:=rK_at (L:=L) (q:=(l1.length:Int)+(1+a.length)) l (l1++((a.length:Int)::a)) ([r,fl qq]++(digs f 3++(digs s 2++digs hh 2))++l3) (hi:=16-a.length) hm.2.2.2.1 (by omega) (by omega) (by rw [←hL];simp) (by simp;omega);have e3:=rN_at1 (L:=L) (q:=(l1.length:Int)+(1+a.length)+(1+l.length)) (l1++((a.length:Int)::a)++((l.length:Int)::l)) (fl qq::(digs f 3++(digs s 2++digs hh 2))++l3) (n:=r) (lo:=1) (hi:=2) (by rw [←hL];simp) (by simp;omega) (by omega) (by omega) (by omega);have e4:=rN_at1 (L:=L) (q:=(l1.length:Int)+(1+a.length)+(1+l.length)+1) (l1++((a.length:Int)::a)++((l.length:Int)::l)++[r]) (digs f 3++(digs s 2++digs hh 2)++l3) (n:=fl qq) (lo:=0) (hi:=1) (by rw [←hL];simp) (by simp;omega) (by omega) (by omega) (by omega);have e5:=rN_at (L:=L) (q:=(l1.length:Int)+(1+a.length)+(1+l.length)+1+1) (l1++((a.length:Int)::a)++((l.length:Int)::l)++[r,fl qq]) ((digs s 2++digs hh 2)++l3) (n:=f) (k:=3) (lo:=0) (hi:=1048576) (by rw [←hL];simp) (by simp;omega) (by omega) (by omega) (by omega) (by omega) (by omega);have e6:=rN_at (L:=L) (q:=(l1.length:Int)+(1+a.length)+(1+l.length)+1+1+(3:Nat)) (l1++((a.length:Int)::a)++((l.length:Int)::l)++[r,fl qq]++digs f 3) (digs hh 2++l3) (n:=s) (k:=2) (lo:=0) (hi:=256) (by rw [←hL];simp) (by simp [length_digs];omega) (by omega) (by omega) (by omega) (by omega) (by omega);have e7:=rN_at (L:=L) (q:=(l1.length:Int)+(1+a.length)+(1+l.length)+1+1+(3:Nat)+(2:Nat)) (l1++((a.length:Int)::a)++((l.length:Int)::l)++[r,fl qq]++digs f 3++digs s 2) l3 (n:=hh) (k:=2) (lo:=0) (hi:=1024) (by rw [←hL];simp) (by simp [length_digs];omega) (by omega) (by omega) (by omega) (by omega) (by omega);have e5:rN L 3 0 1048576 ((l1.length:Int)+(1+a.length)+(1+l.length)+1+1,0)=_:=e5;have e6:rN L 2 0 256 ((l1.length:Int)+(1+a.length)+(1+l.length)+1+1+(3:Nat),0)=_:=e6;have e7:rN L 2 0 1024 ((l1.length:Int)+(1+a.length)+(1+l.length)+1+1+(3:Nat)+(2:Nat),0)=_:=e7;have hfl:(fl qq==1)=qq:=by cases qq<;>rfl
 simp only [rdQ,e1,e2,fs7,rF,e3,e4,e5,e6,e7,mk7];simp [hfl];omega
theorem cB_pos (L:List Ins):0<(codB L).length:=by rw [codB,List.length_cons];omega
theorem mL_pos {m:Mh} (h:mM m=true):0<(mL m).length:=by
 rw [mL,if_pos h];simp
theorem qok_of {w:World} {y:Ma} {d:Md} (h:Hq w y d):qOk d:=by
 refine ⟨h.1.1,h.2.1.1,fun z hz x hx=>?_⟩;rw [←h.2.2.2.1] at hz;obtain ⟨u,hu,rfl⟩:=List.mem_map.1 hz;exact (h.2.2.1.1 u hu).2.1.1 x hx
theorem qmB_byt {s:List Mz} (h:∀z∈s,mM z.1=true∧codM z.2=true) (h0:∀z∈s,∀x∈z.2,InOk x):Byt (qmB s):=by
 intro y hy;obtain ⟨z,hz,hy⟩:=List.mem_flatMap.1 hy;rcases List.mem_append.1 hy with hy | hy
 ·exact mL_byt _ y hy
 ·exact cB_byt (h z hz).2 (h0 z hz) y hy
theorem drop_take_len {l Z Y:List Int} {p:Nat} (h:l.drop p=Z++Y) (hz:0<Z.length):p≤l.length∧(l.take p).length=p∧l=l.take p++(Z++Y):=by
 have hp:p<l.length:=by
  rcases Nat.lt_or_ge p l.length with h1 | h1
  ·exact h1
  ·rw [List.drop_of_length_le h1] at h;have:=congrArg List.length h;simp at this;omega
 exact ⟨by omega,by simp;omega,by rw [←h,List.take_append_drop]⟩
theorem qms_enc {l:List Int}:∀{s:List Mz} {p:Nat} {Y:List Int},(∀z∈s,mM z.1=true∧codM z.2=true)→l.drop p=qmB s++Y→qms l s.length p=(s,((p+(qmB s).length:Nat):Int),0)
 | [],p,Y,_,_=>by simp [qms,qmB]
 | (m,K)::s,p,Y,h,hd=>by
  have hm:=(h (m,K) (List.mem_cons_self ..)).1;have hk:=(h (m,K) (List.mem_cons_self ..)).2;have hmp:=mL_pos hm;have hcp:=cB_pos K;have e1:qmB ((m,K)::s)=mL m++(codB K++qmB s):=by simp [qmB]
  rw [e1,List.append_assoc] at hd;obtain ⟨hp,hpl,hl⟩:=drop_take_len hd hmp;have hq:=rdQ_enc hm (l.take p) ((codB K++qmB s)++Y);rw [←hl,hpl] at hq
  have hd2:l.drop (p+(mL m).length)=codB K++(qmB s++Y):=by
   rw [←List.drop_drop,hd,List.drop_left,List.append_assoc]
  obtain ⟨hp2,hpl2,hl2⟩:=drop_take_len hd2 hcp;have hc:=rdC_enc hk (l.take (p+(mL m).length)) (qmB s++Y);rw [List.append_assoc,←hl2,hpl2] at hc
  have hd3:l.drop (p+(mL m).length+(codB K).length)=qmB s++Y:=by
   rw [←List.drop_drop,hd2,List.drop_left]
  have ih:=qms_enc (fun z hz=>h z (List.mem_cons_of_mem _ hz)) hd3;rw [List.length_cons,qms,hq];dsimp only;rw [if_pos rfl,show (p:Int)+((mL m).length:Int)=((p+(mL m).length:Nat):Int) by omega,hc];dsimp only;rw [if_pos rfl,ih,apM,if_pos rfl,e1];simp only [List.length_append,List.singleton_append];rw [show p+(mL m).length+(codB K).length+(qmB s).length=p+((mL m).length+((codB K).length+(qmB s).length)) by omega]
theorem qH_byt {d:Md} (h:qE d=0) (h0:qOk d):Byt (qH d):=by
 obtain ⟨h1,h2,h3,h4,h5,h6,h7,h8⟩:=qE_parts h;intro y hy;simp only [qH,List.mem_append,List.mem_cons] at hy;rcases hy with hy | hy | rfl | hy
 ·exact poB_byt (poM_le h5) y hy
 ·exact poB_byt (poM_le h6) y hy
 ·omega
 ·exact qmB_byt (qmE_all h7) h0.2.2 y hy
theorem byt_app {a b:List Int} (h1:Byt a) (h2:Byt b):Byt (a++b):=fun y hy=>by
 rcases List.mem_append.1 hy with hy | hy
 ·exact h1 y hy
 ·exact h2 y hy
theorem qP_to {d:Md} (h:qE d=0) (h0:qOk d) (R:List Int) (hR:Byt R) (hl:(qH d++R).length≤2000):qP (qH d++R)=qPz (qH d++R) d.g d.p d.s.length d.s ((qH d).length:Nat):=by
 have hH:=qH_byt h h0;obtain ⟨h1,h2,h3,h4,h5,h6,h7,h8⟩:=qE_parts h;obtain ⟨l,hll⟩:∃l,qH d++R=l:=⟨_,rfl⟩;have hb:Byt l:=by rw [←hll];exact byt_app hH hR
 have bg:=poB_byt (poM_le h5);have bp:=poB_byt (poM_le h6);have bm:=qmB_byt (qmE_all h7) h0.2.2
 have bn:Byt ((d.s.length:Int)::qmB d.s++R):=fun y hy=>by
  rcases List.mem_append.1 hy with hy | hy
  ·rcases List.mem_cons.1 hy with rfl | hy
   ·omega
   ·exact bm y hy
  ·exact hR y hy
 have e0:l=[]++(poB d.g++(poB d.p++((d.s.length:Int)::qmB d.s++R))):=by rw [←hll,qH];simp
 have e1:l=poB d.g++(poB d.p++((d.s.length:Int)::qmB d.s++R)):=by rw [←hll,qH];simp
 have e2:l=(poB d.g++poB d.p)++((d.s.length:Int)::(qmB d.s++R)):=by rw [←hll,qH];simp
 have r1:=rdP_enc h5 h0.1 [] (poB d.p++((d.s.length:Int)::qmB d.s++R)) (fun y hy=>(by cases hy)) (byt_app bp bn);rw [←e0] at r1;have r2:=rdP_enc h6 h0.2.1 (poB d.g) ((d.s.length:Int)::qmB d.s++R) bg bn;rw [←e1] at r2;have hlen:l.length=(poB d.g).length+(poB d.p).length+1+(qmB d.s).length+R.length:=by rw [e2];simp;omega
 have hHl:(qH d).length=(poB d.g).length+(poB d.p).length+1+(qmB d.s).length:=by rw [qH];simp;omega
 obtain ⟨g1,g2,g3⟩:=get_1 hb (p:=(poB d.g).length+(poB d.p).length) (by omega)
 have hat:l[(poB d.g).length+(poB d.p).length]?.getD 0=(d.s.length:Int):=by
  rw [e2,List.getElem?_append_right (by simp)];simp
 rw [hat] at g2
 have hdr:l.drop ((poB d.g).length+(poB d.p).length+1)=qmB d.s++R:=by
  rw [←List.drop_drop,e2,show (poB d.g).length+(poB d.p).length=(poB d.g++poB d.p).length by simp,List.drop_left];rfl
 have r3:=qms_enc (qmE_all h7) hdr;simp only [List.length_nil,Nat.zero_add,Int.ofNat_zero] at r1;rw [hll];unfold qP;rw [if_neg (by rw [←hll];omega),r1,qPg,if_pos rfl];dsimp only;rw [if_neg (by omega),r2,qPm,if_pos rfl];dsimp only;rw [if_pos g1,g2,if_neg (by omega),g3,show ((d.s.length:Int)).toNat=d.s.length by omega,r3,qPs,if_pos rfl];dsimp only;rw [hHl]
theorem last_byt {d:Md} (h:qE d=0):0≤(if d.i<0 then 255 else d.i)∧(if d.i<0 then 255 else d.i)<256:=by
 obtain ⟨h1,h2,h3,h4,h5,h6,h7,h8⟩:=qE_parts h;split<;>omega
theorem one_byt {x:Int} (h:0≤x∧x<256):Byt [x]:=fun y hy=>by rw [List.mem_singleton.1 hy];exact h
theorem qX_byt {d:Md} (h:qE d=0) (h0:qOk d):Byt (qX d):=by
 rw [qX_H];exact byt_app (qH_byt h h0) (one_byt (last_byt h))
theorem qP_enc {d:Md} (h:qE d=0) (h0:qOk d):qP (qX d)=(d,0):=by
 obtain ⟨h1,h2,h3,h4,h5,h6,h7,h8⟩:=qE_parts h;have hx:=last_byt h;have hX:=qX_H d;have hb:=qX_byt h h0;rw [hX] at h8 hb ⊢;obtain ⟨x,hxe⟩:∃x,(if d.i<0 then 255 else d.i)=x:=⟨_,rfl⟩;rw [hxe] at hx h8 hb ⊢;obtain ⟨g1,g2,g3⟩:=get_1 hb (p:=(qH d).length) (by simp);rw [at_len] at g2;rw [qP_to h h0 [x] (one_byt hx) h8,qPz,if_pos g1,g2,g3];have hlen:(qH d++[x]).length=(qH d).length+1:=by simp
 rw [hlen];by_cases hi:d.i<0
 ·rw [if_pos hi] at hxe;subst hxe;rw [if_neg (by omega),if_pos rfl];obtain ⟨g,p,s,i⟩:=d;have:i=-1:=by dsimp only at h3 hi;omega
  rw [this]
 ·rw [if_neg hi] at hxe;subst hxe;rw [if_neg (by omega),if_neg (by omega)]
end Go.Proofs.YtnjgkkoiamiaaaaGreatDoor
