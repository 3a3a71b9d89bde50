import Derived.Test.YtnjgkkoiamiaaaaGreatDoorVta1
import Derived.Test.YtnjgkkoiamiaaaaGreatDoorVta3
import Derived.RangeFuncBox
import Derived.RangeFuncLeaves
import Derived.RangeFuncCalls
import Derived.RangeFuncRecord
import Derived.Shelf.RegionOpen
import Derived.OwnWalkIn
import Derived.TacticsInMore
import Derived.LoopNIn
import Derived.LoopIn
set_option maxRecDepth 100000
set_option maxHeartbeats 16000000
set_option linter.unusedSimpArgs false
set_option linter.unusedVariables false
namespace Go.Proofs.YtnjgkkoiamiaaaaGreatDoor
open Go.RowKit
section
variable {P : Program} {md : Region.Mode} {ops : Array Oper} {Q : Exit → Act → World → Prop}
def zco (ops:Array Oper) (a0 a:Act):Prop:=a.tmps.size=a0.tmps.size∧a.defers=a0.defers∧∀s,(∀(i:Nat) o,ops[i]?=some o→o.dst≠some s)→a.tmps.getD s undef=a0.tmps.getD s undef
theorem zhp {a:Act} {s:Nat} (v:Value) (h:s<a.tmps.size):(a.put (some s) v).tmps.getD s undef=v:=by
 simp [Act.put,Array.getD,h]
theorem zfj {a:Act} {d:Option Nat} {s:Nat} (v:Value) (h:d≠some s):(a.put d v).tmps.getD s undef=a.tmps.getD s undef:=by
 cases d with
 | none=>rfl
 | some k =>
  have hne:k≠s:=fun e=>h (by rw [e]);simp [Act.put,Array.getElem?_setIfInBounds_ne hne]
theorem zug {a:Act} {d:Option Nat} (v:Value):(a.put d v).tmps.size=a.tmps.size:=by
 cases d<;>simp [Act.put]
theorem zn1 {a:Act} {d:Option Nat} (v:Value):(a.put d v).defers=a.defers:=by
 cases d<;>simp [Act.put]
theorem zco.put {a0 a:Act} (h:zco ops a0 a) {i:Nat} {o:Oper} (ho:ops[i]?=some o) (v:Value):zco ops a0 (a.put o.dst v):=
 ⟨(zug v).trans h.1,(zn1 v).trans h.2.1,fun s hs=>(zfj v (hs i o ho)).trans (h.2.2 s hs)⟩
def qbz (ops:Array Oper) (T:Nat→World→Value→Prop) (listed:Array Bool) (a:Act) (w:World):Prop:=
 ∀(i:Nat) o s,ops[i]?=some o→listed.getD i false=true→o.dst=some s→T s w (a.tmps.getD s undef)
theorem zk8 (T:Nat→World→Value→Prop) (I:World→Prop) (a0:Act)
  (hT:∀s w w' v,I w→Below w.heap.size w w'→T s w v→T s w' v)
  (hd:∀(i j:Nat) o o' s,ops[i]?=some o→ops[j]?=some o'→o.dst=some s→o'.dst=some s→i=j)
  (hs:∀(i:Nat) o s,ops[i]?=some o→o.dst=some s→s<a0.tmps.size)
  (hac:∀(i:Nat) o e,ops[i]?=some o→e∈o.after→Region.binds md e=true→e.on<i)
  (hob:∀(i:Nat) o,ops[i]?=some o→o.guard=none∧∀a w,I w→zco ops a0 a→(∀e∈o.after,Region.binds md e=true→∀o' s,ops[e.on]?=some o'→o'.dst=some s→T s w (a.tmps.getD s undef)) →
   ∀K:Act→World→Prop,(∀v w',I w'→Below w.heap.size w w'→(∀s,o.dst=some s→T s w' v)→K (a.put o.dst v) w')→o.wp P a w K Q)
  (hQ:∀a w,I w→zco ops a0 a→(∀(i:Nat) o s,ops[i]?=some o→o.dst=some s→T s w (a.tmps.getD s undef))→Q .normal a w) :
  ∀(fuel:Nat) (listed:Array Bool) (a:Act) (w:World),listed.size=ops.size→listed.toList.countP (fun b=>!b)=fuel→I w→zco ops a0 a→qbz ops T listed a w→wpAny P md ops Q fuel listed a w:=by
 have ready_all:∀(listed:Array Bool),listed.size=ops.size→Region.ready md ops listed=[]→∀i:Nat,i<ops.size→listed.getD i false=true:=by
  intro listed hls hr i;induction i using Nat.strongRecOn with
  | ind i ih =>
   intro hi;cases hl:listed.getD i false with
   | true=>rfl
   | false =>
    exfalso;have hil:i<listed.size:=by omega
    have:i∈Region.ready md ops listed:=by
     refine mem_ready.2 ⟨by simp [Array.getD,hil] at hl ⊢;exact hl,ops[i],Array.getElem?_eq_getElem hi,fun e he hb=>?_⟩;have:=hac i ops[i] e (Array.getElem?_eq_getElem hi) he hb;exact ih e.on this (by omega)
    rw [hr] at this;cases this
 have fin:∀(listed:Array Bool) (a:Act) (w:World),listed.size=ops.size→Region.ready md ops listed=[]→I w→zco ops a0 a→qbz ops T listed a w→Q .normal a w:=by
  intro listed a w hls hr hI hF hty;exact hQ a w hI hF fun i o s ho hds=>hty i o s ho (ready_all listed hls hr i (zg9.1 ho).1) hds
 intro fuel;induction fuel with
 | zero =>
  intro listed a w hls hc hI hF hty
  have hr:Region.ready md ops listed=[]:=by
   rw [List.eq_nil_iff_forall_not_mem];intro i hi;obtain ⟨hun,o,ho,_⟩:=mem_ready.1 hi;have hlt:i<listed.size:=by have:=(zg9.1 ho).1;omega
   have:=List.countP_eq_zero.1 hc listed[i] (by simp);simp [Array.getD,hlt] at hun this;rw [hun] at this;cases this
  exact ⟨hr,fin listed a w hls hr hI hF hty⟩
 | succ fuel ih =>
  intro listed a w hls hc hI hF hty;refine ⟨fun hr=>fin listed a w hls hr hI hF hty,fun i hi=>?_⟩;obtain ⟨hun,o,ho,hall⟩:=mem_ready.1 hi;have hlt:i<listed.size:=by have:=(zg9.1 ho).1;omega
  obtain ⟨hg,hstep⟩:=hob i o ho;have hw:Region.wanted o (yielded ops a.tmps)=true:=by simp [Region.wanted,hg]
  unfold wpOp;simp only [ho,hw,if_true];refine .inl (hstep a w hI hF (fun e he hb o' s ho' hds=>hty e.on o' s ho' (hall e he hb) hds) _ fun v w' hI' hb' hv=>?_);refine ih _ _ _ (by simpa using hls) ?_ hI' (hF.put ho v) ?_
  ·rw [Array.toList_setIfInBounds,List.countP_set (by simpa using hlt),hc]
   have hf:listed.toList[i]'(by simpa using hlt)=false:=by
    simp [Array.getD,hlt] at hun;simpa using hun
   rw [hf];simp
  ·intro j oj s hj hlj hds;by_cases hji:j=i
   ·subst hji;obtain rfl:o=oj:=Option.some.inj (ho.symm.trans hj);rw [hds,zhp v (by rw [hF.1];exact hs j o s ho hds)];exact hv s hds
   ·have hne:o.dst≠some s:=fun e=>hji (hd j i oj o s hj ho hds e);rw [zfj v hne];refine hT s w w' _ hI hb' (hty j oj s hj ?_ hds);rw [getD_set_ne false (Ne.symm hji)] at hlj;exact hlj
def qj (P:Program) (Q:Exit→Act→World→Prop) (T:Nat→World→Value→Prop) (I:World→Prop) (a0:Act) (F:List Nat) (o:Oper) (D:List Nat):Prop:=
 ∀a w,I w→(∀s∈F,a.tmps.getD s undef=a0.tmps.getD s undef)→(∀s∈D,T s w (a.tmps.getD s undef))→∀K:Act→World→Prop,(∀v w',I w'→Below w.heap.size w w'→(∀s,o.dst=some s→T s w' v)→K (a.put o.dst v) w')→o.wp P a w K Q
def zgy (P:Program) (Q:Exit→Act→World→Prop) (T:Nat→World→Value→Prop) (I:World→Prop) (a0:Act) (F:List Nat):List Oper→List (List Nat)→Prop
 | [],_=>True
 | o::r,D=>qj P Q T I a0 F o (D.headD [])∧zgy P Q T I a0 F r D.tail
theorem zgy.at_ {P:Program} {Q:Exit→Act→World→Prop} {T:Nat→World→Value→Prop} {I:World→Prop} {a0:Act} {F:List Nat}:∀{L:List Oper} {D:List (List Nat)},zgy P Q T I a0 F L D→∀(i:Nat) o,L[i]?=some o→qj P Q T I a0 F o (D[i]?.getD [])
 | [],_,_,i,o,h=>by simp at h
 | x::r,D,h,0,o,ho=>by
  obtain rfl:x=o:=by simpa using ho
  have:=h.1;cases D<;>simpa using this
 | x::r,D,h,i+1,o,ho=>by
  have:=h.2.at_ i o (by simpa using ho);cases D<;>simpa using this
def zx6 (md:Region.Mode) (ops:List Oper) (D:List (List Nat)) (F:List Nat) (n:Nat):Bool:=
 (List.range ops.length).all fun i=>match ops[i]? with
  | none=>true
  | some o=>o.guard.isNone&&(match o.dst with | none=>true | some s=>decide (s<n)&&!F.contains s&&(List.range ops.length).all fun j=>j==i||(match ops[j]? with | none=>true | some o'=>o'.dst != some s)) &&
   o.after.toList.all (fun e=>!Region.binds md e||decide (e.on<i)) &&
   (D[i]?.getD []).all fun s=>o.after.toList.any fun e=>Region.binds md e&&(match ops[e.on]? with | none=>false | some o'=>o'.dst==some s)
theorem zfn {id:Nat} {L:List Oper} (T:Nat→World→Value→Prop) (I:World→Prop) (D:List (List Nat)) (F:List Nat) {a:Act} {w:World} (hm:P.follows .mixedOrders=true)
  (hB:zx6 .any L D F a.tmps.size=true) (hT:∀s w w' v,I w→Below w.heap.size w w'→T s w v→T s w' v) (hI:I w.drew) (hst:zgy P Q T I a F L D)
  (hQ:∀a' w',I w'→a'.tmps.size=a.tmps.size→a'.defers=a.defers→(∀s,(∀o∈L,o.dst≠some s)→a'.tmps.getD s undef=a.tmps.getD s undef)→(∀o∈L,∀s,o.dst=some s→T s w' (a'.tmps.getD s undef))→Q .normal a' w') :
  (Code.region id L.toArray true).wp P Q a w:=by
 have hB':=List.all_eq_true.1 hB
 have at_:∀(i:Nat) o,L.toArray[i]?=some o→L[i]?=some o∧i<L.length:=fun i o h=>by
  have h':L[i]?=some o:=by simpa using h
  exact ⟨h',(zg8.1 h').1⟩
 have ch:∀(i:Nat) o,L[i]?=some o→i<L.length→o.guard=none∧(∀s,o.dst=some s→s<a.tmps.size∧s∉F∧∀(j:Nat) o',L[j]?=some o'→o'.dst=some s→j=i)∧(∀e∈o.after,Region.binds .any e=true→e.on<i) ∧
   ∀s∈D[i]?.getD [],∃e∈o.after,Region.binds .any e=true∧∃o',L[e.on]?=some o'∧o'.dst=some s:=by
  intro i o ho hi
  have h:=hB' i (List.mem_range.2 hi)
  simp only [ho,Bool.and_eq_true] at h
  obtain ⟨⟨⟨h1,h2⟩,h3⟩,h4⟩:=h
  refine ⟨by simpa using h1,fun s hs=>?_,fun e he hb=>?_,fun s hs=>?_⟩
  ·simp only [hs,Bool.and_eq_true,decide_eq_true_eq] at h2
   refine ⟨h2.1.1,by simpa using h2.1.2,fun j o' hj hd=>?_⟩
   have:=List.all_eq_true.1 h2.2 j (List.mem_range.2 (zg8.1 hj).1)
   simp [hj,hd] at this
   exact this
  ·have:=List.all_eq_true.1 h3 e (by simpa using he)
   simpa [hb] using this
  ·have:=List.all_eq_true.1 h4 s hs
   obtain ⟨e,he,h5⟩:=List.any_eq_true.1 this
   simp only [Bool.and_eq_true] at h5
   refine ⟨e,by simpa using he,h5.1,?_⟩
   cases hx:L[e.on]? with
   | none=>rw [hx] at h5;simp at h5
   | some o'=>rw [hx] at h5;exact ⟨o',rfl,by simpa using h5.2⟩
 refine wp_region_any hm (zk8 T I a hT ?_ ?_ ?_ ?_ ?_ _ _ _ _ (by simp) (by simp [List.countP_replicate]) hI ⟨rfl,rfl,fun _ _=>rfl⟩ ?_)
 ·intro i j o o' s hi hj h1 h2;obtain ⟨hi',hil⟩:=at_ i o hi;obtain ⟨hj',hjl⟩:=at_ j o' hj;exact ((ch j o' hj' hjl).2.1 s h2).2.2 i o hi' h1
 ·intro i o s hi h1;obtain ⟨hi',hil⟩:=at_ i o hi;exact ((ch i o hi' hil).2.1 s h1).1
 ·intro i o e hi he hb;obtain ⟨hi',hil⟩:=at_ i o hi;exact (ch i o hi' hil).2.2.1 e he hb
 ·intro i o hi;obtain ⟨hi',hil⟩:=at_ i o hi;refine ⟨(ch i o hi' hil).1,fun a' w' hI' hF hD K hK=>hst.at_ i o hi' a' w' hI' (fun s hs=>hF.2.2 s fun j o' hj hd=>?_) (fun s hs=>?_) K hK⟩
  ·obtain ⟨hj',hjl⟩:=at_ j o' hj;exact ((ch j o' hj' hjl).2.1 s hd).2.1 hs
  ·obtain ⟨e,he,hb,o',ho',hd⟩:=(ch i o hi' hil).2.2.2 s hs;exact hD e he hb o' s (by simpa using ho') hd
 ·intro a' w' hI' hF hty;refine hQ a' w' hI' hF.1 hF.2.1 (fun s hs=>hF.2.2 s fun i o hi=>?_) (fun o ho s hd=>?_)
  ·exact hs o (List.mem_of_getElem? (at_ i o hi).1)
  ·obtain ⟨i,hi⟩:=List.mem_iff_getElem?.1 ho;exact hty i o s (by simpa using hi) hd
 ·intro i o s hi hl;have h0:(Array.replicate L.toArray.size false).getD i false=false:=by simp only [Array.getD];split<;>simp
  rw [h0] at hl;cases hl
end
theorem zdv (x y z:Int) (A:Option Addr) (n c:Nat) (w:World):Calls Tryz.prog 148 #[fv x y z,.slice A n c] w fun e w'=>e=.returned (.agg #[.int .i64 x,.int .i64 y,.int .i64 z,.slice A n c])∧Below w.heap.size w w':=by
 go_enter Tryz.func148,Tryz.ntmps148;go_wp2_with fail;exact bodyPost_ret (v:=.agg #[.int .i64 x,.int .i64 y,.int .i64 z,.slice A n c]) (by simp [results,Tryz.results148,go_sem]) rfl ⟨rfl,qh.alloc (by simp) _⟩
theorem zq5 (x y z:Int) (A:Option Addr) (n c:Nat) (w:World):Calls Tryz.prog 151 #[fv x y z,.slice A n c] w fun e w'=>e=.returned (.agg #[.int .i64 x,.int .i64 y,.int .i64 z,.slice A n c])∧Below w.heap.size w w':=by
 go_enter Tryz.func151,Tryz.ntmps151;go_wp2_with fail;exact bodyPost_ret (v:=.agg #[.int .i64 x,.int .i64 y,.int .i64 z,.slice A n c]) (by simp [results,Tryz.results151,go_sem]) rfl ⟨rfl,qh.alloc (by simp) _⟩
def zwi (t:Nat) (w:World) (v:Value) (e:Int):Prop:=∃g,v=.slice (some ⟨g,0,none⟩) 1 1∧g<w.heap.size∧w.cell? ⟨g,0,none⟩=some (.int .i64 e)∧g≠t
def qdv (t:Nat) (w:World) (v:Value) (e:Int):Prop:=∃g,v=.slice (some ⟨g,0,none⟩) 1 1∧Rd w (some ⟨g,0,none⟩) 1 [e]∧g≠t
def rowI (t:Nat) (w:World) (v:Value) (x y z e:Int):Prop:=∃g,v=.agg #[.int .i64 x,.int .i64 y,.int .i64 z,.slice (some ⟨g,0,none⟩) 1 1]∧g<w.heap.size∧w.cell? ⟨g,0,none⟩=some (.int .i64 e)∧g≠t
def rowU (t:Nat) (w:World) (v:Value) (x y z:Int) (l:List Int):Prop:=∃A c,v=.agg #[.int .i64 x,.int .i64 y,.int .i64 z,.slice A l.length c]∧Rd w A c l∧(∀ad,A=some ad→0<l.length→ad.block≠t)
def funI (t:Nat) (w:World) (v:Value) (x y z e:Int):Prop:=∃g,v=.func (.func 150) #[.agg #[.int .i64 x,.int .i64 y,.int .i64 z,.slice (some ⟨g,0,none⟩) 1 1]] #[]∧g<w.heap.size∧w.cell? ⟨g,0,none⟩=some (.int .i64 e)∧g≠t
def funU (t:Nat) (w:World) (v:Value) (x y z:Int) (l:List Int):Prop:=∃A c,v=.func (.func 152) #[.agg #[.int .i64 x,.int .i64 y,.int .i64 z,.slice A l.length c]] #[]∧Rd w A c l∧(∀ad,A=some ad→0<l.length→ad.block≠t)
section
variable {t : Nat} {w w' : World} {v : Value} {x y z e : Int} {l : List Int}
theorem funI.form (h:funI t w v x y z e):∃r:Fn×Array Value,v=.func r.1 r.2 #[]:=by
 obtain ⟨g,rfl,_⟩:=h;exact ⟨(_,_),rfl⟩
theorem funU.form (h:funU t w v x y z l):∃r:Fn×Array Value,v=.func r.1 r.2 #[]:=by
 obtain ⟨A,c,rfl,_⟩:=h;exact ⟨(_,_),rfl⟩
theorem funI.keep (h:funI t w v x y z e) (hb:Below w.heap.size w w'):funI t w' v x y z e:=by
 obtain ⟨g,h1,h2,h3,h4⟩:=h;exact ⟨g,h1,Nat.lt_of_lt_of_le h2 hb.size,(hb.cell h2).trans h3,h4⟩
theorem funU.keep (h:funU t w v x y z l) (hb:Below w.heap.size w w'):funU t w' v x y z l:=by
 obtain ⟨A,c,h1,h2,h3⟩:=h;exact ⟨A,c,h1,h2.keep hb,h3⟩
end
def PF (t:Nat) (w:World) (v:Value) (f:(Int×Int×Int)×List Int):Prop:=(∃e,f.2=[e]∧funI t w v f.1.1 f.1.2.1 f.1.2.2 e)∨funU t w v f.1.1 f.1.2.1 f.1.2.2 f.2
def PT (m:Mh):List ((Int×Int×Int)×List Int):=[((1,0,4),[(m.a.length:Int)]),((1,1,3),m.a),((1,0,(16-m.a.length)),[(m.l.length:Int)]),((1,1,3),m.l),((1,1,2),[m.r]),((1,0,1),[(fl m.q)]),((3,0,1048576),[m.f]),((2,0,256),[m.s]),((2,0,1024),[m.h])]
def zzi (t:Nat) (w:World) (B:Nat) (m:Mh):Prop:=B<w.heap.size∧B≠t∧∀(j:Nat) f,(PT m)[j]?=some f→∃v,w.cell? ⟨B,j,none⟩=some v∧PF t w v f
theorem PF.keep {t:Nat} {w w':World} {v:Value} {f:(Int×Int×Int)×List Int} (h:PF t w v f) (hb:Below w.heap.size w w'):PF t w' v f:=by
 rcases h with ⟨e,h1,h2⟩ | h
 ·exact .inl ⟨e,h1,h2.keep hb⟩
 ·exact .inr (h.keep hb)
theorem zzi.keep {t:Nat} {w w':World} {B:Nat} {m:Mh} (h:zzi t w B m) (hb:Below w.heap.size w w'):zzi t w' B m:=
 ⟨Nat.lt_of_lt_of_le h.1 hb.size,h.2.1,fun j f hf=>by obtain ⟨v,h1,h2⟩:=h.2.2 j f hf;exact ⟨v,(hb.cell h.1).trans h1,h2.keep hb⟩⟩
theorem zcd {t:Nat} (w:World) (e:Int) (ty:Nat) (h:t<w.heap.size):zwi t (w.alloc (.cells #[.int .i64 e] ty)) (.slice (some ⟨w.heap.size,0,none⟩) 1 1) e:=⟨w.heap.size,rfl,by simp,by simp [go_sem],by omega⟩
theorem zus {t:Nat} (w:World) (e:Int) (h:0≤e∧e<256) (h2:t<w.heap.size):qdv t (w.alloc (.cells #[.int .u8 e] 5)) (.slice (some ⟨w.heap.size,0,none⟩) 1 1) e:=⟨w.heap.size,rfl,qo w e h,by omega⟩
theorem gd (a:Act) (s:Nat):a.tmps[s]?.getD undef=a.tmps.getD s undef:=Array.getD_eq_getD_getElem?.symm
inductive Sty
 | val (v:Value) | isl (e:Int) | usl (e:Int) | rowI (x y z e:Int) | rowU (x y z:Int) (l:List Int) | funI (x y z e:Int) | funU (x y z:Int) (l:List Int) | all (m:Mh)
def Sty.ok (t:Nat):Sty→World→Value→Prop
 | .val u,_,v=>v=u
 | .isl e,w,v=>zwi t w v e
 | .usl e,w,v=>qdv t w v e
 | .rowI x y z e,w,v=>Proofs.YtnjgkkoiamiaaaaGreatDoor.rowI t w v x y z e
 | .rowU x y z l,w,v=>Proofs.YtnjgkkoiamiaaaaGreatDoor.rowU t w v x y z l
 | .funI x y z e,w,v=>Proofs.YtnjgkkoiamiaaaaGreatDoor.funI t w v x y z e
 | .funU x y z l,w,v=>Proofs.YtnjgkkoiamiaaaaGreatDoor.funU t w v x y z l
 | .all m,w,v=>∃B,v=.slice (some ⟨B,0,none⟩) 9 9∧zzi t w B m
theorem Sty.ok_keep {t:Nat} {y:Sty} {w w':World} {v:Value} (hb:Below w.heap.size w w') (h:y.ok t w v):y.ok t w' v:=by
 cases y with
 | val u=>exact h
 | isl e=>obtain ⟨g,h1,h2,h3,h4⟩:=h;exact ⟨g,h1,Nat.lt_of_lt_of_le h2 hb.size,(hb.cell h2).trans h3,h4⟩
 | usl e=>obtain ⟨g,h1,h2,h3⟩:=h;exact ⟨g,h1,h2.keep hb,h3⟩
 | rowI x y z e=>obtain ⟨g,h1,h2,h3,h4⟩:=h;exact ⟨g,h1,Nat.lt_of_lt_of_le h2 hb.size,(hb.cell h2).trans h3,h4⟩
 | rowU x y z l=>obtain ⟨A,c,h1,h2,h3⟩:=h;exact ⟨A,c,h1,h2.keep hb,h3⟩
 | funI x y z e=>exact funI.keep h hb
 | funU x y z l=>exact funU.keep h hb
 | all m=>obtain ⟨B,h1,h2⟩:=h;exact ⟨B,h1,h2.keep hb⟩
def jn (t:Nat) (L:List (Nat×Sty)) (s:Nat) (w:World) (v:Value):Prop:=match L.lookup s with
 | some y=>y.ok t w v
 | none=>True
theorem zp4 {t:Nat} {L:List (Nat×Sty)} {s:Nat} {w w':World} {v:Value} (hb:Below w.heap.size w w') (h:jn t L s w v):jn t L s w' v:=by
 unfold jn at *;cases hl:L.lookup s with
 | none=>trivial
 | some t=>rw [hl] at h;exact Sty.ok_keep hb h
theorem zva {t:Nat} {w:World} (hw:t<w.heap.size) {m:Mh} {r0 r1 r2 r3 r4 r5 r6 r7 r8:Fn×Array Value} {f0 f1 f2 f3 f4 f5 f6 f7 f8:(Int×Int×Int)×List Int} (hP:PT m=[f0,f1,f2,f3,f4,f5,f6,f7,f8]) (q0:PF t w (.func r0.1 r0.2 #[]) f0) (q1:PF t w (.func r1.1 r1.2 #[]) f1) (q2:PF t w (.func r2.1 r2.2 #[]) f2) (q3:PF t w (.func r3.1 r3.2 #[]) f3) (q4:PF t w (.func r4.1 r4.2 #[]) f4) (q5:PF t w (.func r5.1 r5.2 #[]) f5) (q6:PF t w (.func r6.1 r6.2 #[]) f6) (q7:PF t w (.func r7.1 r7.2 #[]) f7) (q8:PF t w (.func r8.1 r8.2 #[]) f8) (ty:Nat) :
  zzi t (w.alloc (.cells #[.func r0.1 r0.2 #[],.func r1.1 r1.2 #[],.func r2.1 r2.2 #[],.func r3.1 r3.2 #[],.func r4.1 r4.2 #[],.func r5.1 r5.2 #[],.func r6.1 r6.2 #[],.func r7.1 r7.2 #[],.func r8.1 r8.2 #[]] ty)) w.heap.size m:=by
 refine ⟨by simp,by omega,fun j f hf=>?_⟩;rw [hP] at hf;match j,hf with
 | 0,hf=>cases hf;exact ⟨_,by simp [go_sem],q0.keep qh⟩
 | 1,hf=>cases hf;exact ⟨_,by simp [go_sem],q1.keep qh⟩
 | 2,hf=>cases hf;exact ⟨_,by simp [go_sem],q2.keep qh⟩
 | 3,hf=>cases hf;exact ⟨_,by simp [go_sem],q3.keep qh⟩
 | 4,hf=>cases hf;exact ⟨_,by simp [go_sem],q4.keep qh⟩
 | 5,hf=>cases hf;exact ⟨_,by simp [go_sem],q5.keep qh⟩
 | 6,hf=>cases hf;exact ⟨_,by simp [go_sem],q6.keep qh⟩
 | 7,hf=>cases hf;exact ⟨_,by simp [go_sem],q7.keep qh⟩
 | 8,hf=>cases hf;exact ⟨_,by simp [go_sem],q8.keep qh⟩
def jr (B:Nat) (x:Mc) (m:Mh):List (Nat×Sty):=[(2,.all m),(3,.val (fv 1 0 4)),(4,.val (.pointer (some ⟨B,0,none⟩))),(5,.val (.slice x.A m.a.length x.c)),(6,.val (.int .i64 m.a.length)),(7,.isl (m.a.length:Int)),(8,.rowI 1 0 4 (m.a.length:Int)),(9,.funI 1 0 4 (m.a.length:Int)),(10,.val (fv 1 1 3)),(11,.val (.pointer (some ⟨B,0,none⟩))),(12,.val (.slice x.A m.a.length x.c)),(13,.rowU 1 1 3 m.a),(14,.funU 1 1 3 m.a),(15,.val (.pointer (some ⟨B,0,none⟩))),(16,.val (.slice x.A m.a.length x.c)),(17,.val (.int .i64 m.a.length)),(18,.val (fv 1 0 (16-m.a.length))),(19,.val (.pointer (some ⟨B,1,none⟩))),(20,.val (.slice x.B m.l.length x.d)),(21,.val (.int .i64 m.l.length)),(22,.isl (m.l.length:Int)),(23,.rowI 1 0 (16-m.a.length) (m.l.length:Int)),(24,.funI 1 0 (16-m.a.length) (m.l.length:Int)),(25,.val (fv 1 1 3)),(26,.val (.pointer (some ⟨B,1,none⟩))),(27,.val (.slice x.B m.l.length x.d)),(28,.rowU 1 1 3 m.l),(29,.funU 1 1 3 m.l),(30,.val (fv 1 1 2)),(31,.val (.pointer (some ⟨B,2,none⟩))),(32,.val (.int .u8 m.r)),(33,.usl m.r),(34,.rowU 1 1 2 [m.r]),(35,.funU 1 1 2 [m.r]),(36,.val (fv 1 0 1)),(37,.val (.pointer (some ⟨B,3,none⟩))),(38,.val (.bool m.q)),(39,.val (.int .i64 (fl m.q))),(40,.isl (fl m.q)),(41,.rowI 1 0 1 (fl m.q)),(42,.funI 1 0 1 (fl m.q)),(43,.val (fv 3 0 1048576)),(44,.val (.pointer (some ⟨B,4,none⟩))),(45,.val (.int .i64 m.f)),(46,.isl m.f),(47,.rowI 3 0 1048576 m.f),(48,.funI 3 0 1048576 m.f),(49,.val (fv 2 0 256)),(50,.val (.pointer (some ⟨B,5,none⟩))),(51,.val (.int .i64 m.s)),(52,.isl m.s),(53,.rowI 2 0 256 m.s),(54,.funI 2 0 256 m.s),(55,.val (fv 2 0 1024)),(56,.val (.pointer (some ⟨B,6,none⟩))),(57,.val (.int .i64 m.h)),(58,.isl m.h),(59,.rowI 2 0 1024 m.h),(60,.funI 2 0 1024 m.h),(61,.all m)]
theorem qf1 (t:Nat) (x:Mc) (m:Mh) (B:Nat) (w:World) (Q:Exit→Act→World→Prop) (a0:Act) (h1:a0.tmps.getD 1 undef=.pointer (some ⟨B,0,none⟩)) (hla:m.a.length≤9223372036854775807) (hr8:0≤m.r∧m.r<256) (ht:t<w.heap.size) (hA:∀ad,x.A=some ad→0<m.a.length→ad.block≠t) (hB:∀ad,x.B=some ad→0<m.l.length→ad.block≠t) (ty:TypeId) (ps:String) (af:Array Edge) :
  qj Tryz.prog Q (jn t (jr B x m)) (fun w'=>Sx w w' [fM B x m,fGM,fH x m]) a0 [1] { dst:=some 3,op:=Op.call { callee:=Callee.value (Operand.func 149),args:=#[Operand.const (Value.int IntKind.i64 4)],argTypes:=#[3]},type:=ty,pos:=ps,after:=af,guard:=none } []:=by
 intro a w' hI0 hF hD K hK0;have hK:=zhy hK0;have hI:=zhy hI0;clear hK0 hI0;clear hF hD;go_simp;refine (zqn 4 _).mono ?_;rintro e w1 ⟨rfl,hb⟩;exact hK.out _ _ (hI.o.call hb) hb (fun s hs=>by cases hs;rfl)
theorem qf5 (t:Nat) (x:Mc) (m:Mh) (B:Nat) (w:World) (Q:Exit→Act→World→Prop) (a0:Act) (h1:a0.tmps.getD 1 undef=.pointer (some ⟨B,0,none⟩)) (hla:m.a.length≤9223372036854775807) (hr8:0≤m.r∧m.r<256) (ht:t<w.heap.size) (hA:∀ad,x.A=some ad→0<m.a.length→ad.block≠t) (hB:∀ad,x.B=some ad→0<m.l.length→ad.block≠t) (ty:TypeId) (ps:String) (af:Array Edge) :
  qj Tryz.prog Q (jn t (jr B x m)) (fun w'=>Sx w w' [fM B x m,fGM,fH x m]) a0 [1] { dst:=some 4,op:=Op.fieldAddr 50 (Operand.tmp 1) 0,type:=ty,pos:=ps,after:=af,guard:=none } []:=by
 intro a w' hI0 hF hD K hK0;have hK:=zhy hK0;have hI:=zhy hI0;clear hK0 hI0;have e1:a.tmps[1]?.getD undef=.pointer (some ⟨B,0,none⟩):=(gd a 1).trans ((hF 1 (by simp)).trans h1);clear hF hD;go_simp;exact hK.out _ _ hI.o (Below.refl _ _) (fun s hs=>by cases hs;rfl)
theorem qfh (t:Nat) (x:Mc) (m:Mh) (B:Nat) (w:World) (Q:Exit→Act→World→Prop) (a0:Act) (h1:a0.tmps.getD 1 undef=.pointer (some ⟨B,0,none⟩)) (hla:m.a.length≤9223372036854775807) (hr8:0≤m.r∧m.r<256) (ht:t<w.heap.size) (hA:∀ad,x.A=some ad→0<m.a.length→ad.block≠t) (hB:∀ad,x.B=some ad→0<m.l.length→ad.block≠t) (ty:TypeId) (ps:String) (af:Array Edge) :
  qj Tryz.prog Q (jn t (jr B x m)) (fun w'=>Sx w w' [fM B x m,fGM,fH x m]) a0 [1] { dst:=some 5,op:=Op.load 40 (Operand.tmp 4),type:=ty,pos:=ps,after:=af,guard:=none } [4]:=by
 intro a w' hI0 hF hD K hK0;have hK:=zhy hK0;have hI:=zhy hI0;clear hK0 hI0;have e4:a.tmps[4]?.getD undef=.pointer (some ⟨B,0,none⟩):=(gd a 4).trans (hD 4 (by simp));obtain ⟨b0,z0,z1,z2,z3,z4,z5,z6,z7⟩:=hI.o.2.1;clear hF hD;go_simp;exact hK.out _ _ hI.o (Below.refl _ _) (fun s hs=>by cases hs;rfl)
theorem qfo (t:Nat) (x:Mc) (m:Mh) (B:Nat) (w:World) (Q:Exit→Act→World→Prop) (a0:Act) (h1:a0.tmps.getD 1 undef=.pointer (some ⟨B,0,none⟩)) (hla:m.a.length≤9223372036854775807) (hr8:0≤m.r∧m.r<256) (ht:t<w.heap.size) (hA:∀ad,x.A=some ad→0<m.a.length→ad.block≠t) (hB:∀ad,x.B=some ad→0<m.l.length→ad.block≠t) (ty:TypeId) (ps:String) (af:Array Edge) :
  qj Tryz.prog Q (jn t (jr B x m)) (fun w'=>Sx w w' [fM B x m,fGM,fH x m]) a0 [1] { dst:=some 6,op:=Op.call { callee:=Callee.builtin Builtin.len,args:=#[Operand.tmp 5],argTypes:=#[40]},type:=ty,pos:=ps,after:=af,guard:=none } [5]:=by
 intro a w' hI0 hF hD K hK0;have hK:=zhy hK0;have hI:=zhy hI0;clear hK0 hI0;have e5:a.tmps[5]?.getD undef=.slice x.A m.a.length x.c:=(gd a 5).trans (hD 5 (by simp));clear hF hD;go_simp;exact hK.out _ _ hI.o (Below.refl _ _) (fun s hs=>by cases hs;rfl)
theorem qfm (t:Nat) (x:Mc) (m:Mh) (B:Nat) (w:World) (Q:Exit→Act→World→Prop) (a0:Act) (h1:a0.tmps.getD 1 undef=.pointer (some ⟨B,0,none⟩)) (hla:m.a.length≤9223372036854775807) (hr8:0≤m.r∧m.r<256) (ht:t<w.heap.size) (hA:∀ad,x.A=some ad→0<m.a.length→ad.block≠t) (hB:∀ad,x.B=some ad→0<m.l.length→ad.block≠t) (ty:TypeId) (ps:String) (af:Array Edge) :
  qj Tryz.prog Q (jn t (jr B x m)) (fun w'=>Sx w w' [fM B x m,fGM,fH x m]) a0 [1] { dst:=some 7,op:=Op.buildSlice 59 1 #[(0,Operand.tmp 6)],type:=ty,pos:=ps,after:=af,guard:=none } [6]:=by
 intro a w' hI0 hF hD K hK0;have hK:=zhy hK0;have hI:=zhy hI0;clear hK0 hI0;have e6:a.tmps[6]?.getD undef=.int .i64 m.a.length:=(gd a 6).trans (hD 6 (by simp));clear hF hD;go_simp;exact hK.out _ _ (hI.o.mk1 _) qh (fun s hs=>by cases hs;exact zcd _ _ _ (by have:=hI.o.1.size;omega))
theorem qfj (t:Nat) (x:Mc) (m:Mh) (B:Nat) (w:World) (Q:Exit→Act→World→Prop) (a0:Act) (h1:a0.tmps.getD 1 undef=.pointer (some ⟨B,0,none⟩)) (hla:m.a.length≤9223372036854775807) (hr8:0≤m.r∧m.r<256) (ht:t<w.heap.size) (hA:∀ad,x.A=some ad→0<m.a.length→ad.block≠t) (hB:∀ad,x.B=some ad→0<m.l.length→ad.block≠t) (ty:TypeId) (ps:String) (af:Array Edge) :
  qj Tryz.prog Q (jn t (jr B x m)) (fun w'=>Sx w w' [fM B x m,fGM,fH x m]) a0 [1] { dst:=some 8,op:=Op.call { callee:=Callee.value (Operand.func 148),args:=#[Operand.tmp 3,Operand.tmp 7],argTypes:=#[159,59]},type:=ty,pos:=ps,after:=af,guard:=none } [3,7]:=by
 intro a w' hI0 hF hD K hK0;have hK:=zhy hK0;have hI:=zhy hI0;clear hK0 hI0;have e3:a.tmps[3]?.getD undef=fv 1 0 4:=(gd a 3).trans (hD 3 (by simp));obtain ⟨g,e7,hg,hc,hne⟩:zwi t w' (a.tmps[7]?.getD undef) (m.a.length:Int):=by rw [gd];exact hD 7 (by simp)
 clear hF hD;go_simp;refine (zdv _ _ _ _ _ _ _).mono ?_;rintro e w1 ⟨rfl,hb⟩;exact hK.out _ _ (hI.o.call hb) hb (fun s hs=>by cases hs;exact ⟨g,rfl,Nat.lt_of_lt_of_le hg hb.size,(hb.cell hg).trans hc,hne⟩)
theorem qf4 (t:Nat) (x:Mc) (m:Mh) (B:Nat) (w:World) (Q:Exit→Act→World→Prop) (a0:Act) (h1:a0.tmps.getD 1 undef=.pointer (some ⟨B,0,none⟩)) (hla:m.a.length≤9223372036854775807) (hr8:0≤m.r∧m.r<256) (ht:t<w.heap.size) (hA:∀ad,x.A=some ad→0<m.a.length→ad.block≠t) (hB:∀ad,x.B=some ad→0<m.l.length→ad.block≠t) (ty:TypeId) (ps:String) (af:Array Edge) :
  qj Tryz.prog Q (jn t (jr B x m)) (fun w'=>Sx w w' [fM B x m,fGM,fH x m]) a0 [1] { dst:=some 9,op:=Op.makeFunc (Fn.func 150) #[Operand.tmp 8] #[],type:=ty,pos:=ps,after:=af,guard:=none } [8]:=by
 intro a w' hI0 hF hD K hK0;have hK:=zhy hK0;have hI:=zhy hI0;clear hK0 hI0;obtain ⟨g,e8,hg,hc,hne⟩:rowI t w' (a.tmps[8]?.getD undef) 1 0 4 (m.a.length:Int):=by rw [gd];exact hD 8 (by simp)
 unfold Oper.wp execOp;simp only [List.map_toArray,List.map_cons,List.map_nil,Act.eval,Array.getD_eq_getD_getElem?,e8];exact hK.out _ _ hI.o (Below.refl _ _) (fun s hs=>by cases hs;exact ⟨g,rfl,hg,hc,hne⟩)
theorem qfz (t:Nat) (x:Mc) (m:Mh) (B:Nat) (w:World) (Q:Exit→Act→World→Prop) (a0:Act) (h1:a0.tmps.getD 1 undef=.pointer (some ⟨B,0,none⟩)) (hla:m.a.length≤9223372036854775807) (hr8:0≤m.r∧m.r<256) (ht:t<w.heap.size) (hA:∀ad,x.A=some ad→0<m.a.length→ad.block≠t) (hB:∀ad,x.B=some ad→0<m.l.length→ad.block≠t) (ty:TypeId) (ps:String) (af:Array Edge) :
  qj Tryz.prog Q (jn t (jr B x m)) (fun w'=>Sx w w' [fM B x m,fGM,fH x m]) a0 [1] { dst:=some 10,op:=Op.load 159 (Operand.global 0),type:=ty,pos:=ps,after:=af,guard:=none } []:=by
 intro a w' hI0 hF hD K hK0;have hK:=zhy hK0;have hI:=zhy hI0;clear hK0 hI0;obtain ⟨b0,z0,z1,z2⟩:=hI.o.2.2.1.1;clear hF hD;go_simp;exact hK.out _ _ hI.o (Below.refl _ _) (fun s hs=>by cases hs;rfl)
theorem qf3 (t:Nat) (x:Mc) (m:Mh) (B:Nat) (w:World) (Q:Exit→Act→World→Prop) (a0:Act) (h1:a0.tmps.getD 1 undef=.pointer (some ⟨B,0,none⟩)) (hla:m.a.length≤9223372036854775807) (hr8:0≤m.r∧m.r<256) (ht:t<w.heap.size) (hA:∀ad,x.A=some ad→0<m.a.length→ad.block≠t) (hB:∀ad,x.B=some ad→0<m.l.length→ad.block≠t) (ty:TypeId) (ps:String) (af:Array Edge) :
  qj Tryz.prog Q (jn t (jr B x m)) (fun w'=>Sx w w' [fM B x m,fGM,fH x m]) a0 [1] { dst:=some 11,op:=Op.fieldAddr 50 (Operand.tmp 1) 0,type:=ty,pos:=ps,after:=af,guard:=none } []:=by
 intro a w' hI0 hF hD K hK0;have hK:=zhy hK0;have hI:=zhy hI0;clear hK0 hI0;have e1:a.tmps[1]?.getD undef=.pointer (some ⟨B,0,none⟩):=(gd a 1).trans ((hF 1 (by simp)).trans h1);clear hF hD;go_simp;exact hK.out _ _ hI.o (Below.refl _ _) (fun s hs=>by cases hs;rfl)
theorem qfi (t:Nat) (x:Mc) (m:Mh) (B:Nat) (w:World) (Q:Exit→Act→World→Prop) (a0:Act) (h1:a0.tmps.getD 1 undef=.pointer (some ⟨B,0,none⟩)) (hla:m.a.length≤9223372036854775807) (hr8:0≤m.r∧m.r<256) (ht:t<w.heap.size) (hA:∀ad,x.A=some ad→0<m.a.length→ad.block≠t) (hB:∀ad,x.B=some ad→0<m.l.length→ad.block≠t) (ty:TypeId) (ps:String) (af:Array Edge) :
  qj Tryz.prog Q (jn t (jr B x m)) (fun w'=>Sx w w' [fM B x m,fGM,fH x m]) a0 [1] { dst:=some 12,op:=Op.load 40 (Operand.tmp 11),type:=ty,pos:=ps,after:=af,guard:=none } [11]:=by
 intro a w' hI0 hF hD K hK0;have hK:=zhy hK0;have hI:=zhy hI0;clear hK0 hI0;have e11:a.tmps[11]?.getD undef=.pointer (some ⟨B,0,none⟩):=(gd a 11).trans (hD 11 (by simp));obtain ⟨b0,z0,z1,z2,z3,z4,z5,z6,z7⟩:=hI.o.2.1;clear hF hD;go_simp;exact hK.out _ _ hI.o (Below.refl _ _) (fun s hs=>by cases hs;rfl)
theorem qe7 (t:Nat) (x:Mc) (m:Mh) (B:Nat) (w:World) (Q:Exit→Act→World→Prop) (a0:Act) (h1:a0.tmps.getD 1 undef=.pointer (some ⟨B,0,none⟩)) (hla:m.a.length≤9223372036854775807) (hr8:0≤m.r∧m.r<256) (ht:t<w.heap.size) (hA:∀ad,x.A=some ad→0<m.a.length→ad.block≠t) (hB:∀ad,x.B=some ad→0<m.l.length→ad.block≠t) (ty:TypeId) (ps:String) (af:Array Edge) :
  qj Tryz.prog Q (jn t (jr B x m)) (fun w'=>Sx w w' [fM B x m,fGM,fH x m]) a0 [1] { dst:=some 13,op:=Op.call { callee:=Callee.value (Operand.func 151),args:=#[Operand.tmp 10,Operand.tmp 12],argTypes:=#[159,40]},type:=ty,pos:=ps,after:=af,guard:=none } [10,12]:=by
 intro a w' hI0 hF hD K hK0;have hK:=zhy hK0;have hI:=zhy hI0;clear hK0 hI0;have e10:a.tmps[10]?.getD undef=fv 1 1 3:=(gd a 10).trans (hD 10 (by simp));have e12:a.tmps[12]?.getD undef=.slice x.A m.a.length x.c:=(gd a 12).trans (hD 12 (by simp));clear hF hD;go_simp;refine (zq5 _ _ _ _ _ _ _).mono ?_;rintro e w1 ⟨rfl,hb⟩;exact hK.out _ _ (hI.o.call hb) hb (fun s hs=>by cases hs;exact ⟨_,_,rfl,(hI.o.call hb).2.2.2.1.1,hA⟩)
theorem qew (t:Nat) (x:Mc) (m:Mh) (B:Nat) (w:World) (Q:Exit→Act→World→Prop) (a0:Act) (h1:a0.tmps.getD 1 undef=.pointer (some ⟨B,0,none⟩)) (hla:m.a.length≤9223372036854775807) (hr8:0≤m.r∧m.r<256) (ht:t<w.heap.size) (hA:∀ad,x.A=some ad→0<m.a.length→ad.block≠t) (hB:∀ad,x.B=some ad→0<m.l.length→ad.block≠t) (ty:TypeId) (ps:String) (af:Array Edge) :
  qj Tryz.prog Q (jn t (jr B x m)) (fun w'=>Sx w w' [fM B x m,fGM,fH x m]) a0 [1] { dst:=some 14,op:=Op.makeFunc (Fn.func 152) #[Operand.tmp 13] #[],type:=ty,pos:=ps,after:=af,guard:=none } [13]:=by
 intro a w' hI0 hF hD K hK0;have hK:=zhy hK0;have hI:=zhy hI0;clear hK0 hI0;obtain ⟨A,c,e13,hrd,hne⟩:rowU t w' (a.tmps[13]?.getD undef) 1 1 3 m.a:=by rw [gd];exact hD 13 (by simp)
 unfold Oper.wp execOp;simp only [List.map_toArray,List.map_cons,List.map_nil,Act.eval,Array.getD_eq_getD_getElem?,e13];exact hK.out _ _ hI.o (Below.refl _ _) (fun s hs=>by cases hs;exact ⟨A,c,rfl,hrd,hne⟩)
theorem qei (t:Nat) (x:Mc) (m:Mh) (B:Nat) (w:World) (Q:Exit→Act→World→Prop) (a0:Act) (h1:a0.tmps.getD 1 undef=.pointer (some ⟨B,0,none⟩)) (hla:m.a.length≤9223372036854775807) (hr8:0≤m.r∧m.r<256) (ht:t<w.heap.size) (hA:∀ad,x.A=some ad→0<m.a.length→ad.block≠t) (hB:∀ad,x.B=some ad→0<m.l.length→ad.block≠t) (ty:TypeId) (ps:String) (af:Array Edge) :
  qj Tryz.prog Q (jn t (jr B x m)) (fun w'=>Sx w w' [fM B x m,fGM,fH x m]) a0 [1] { dst:=some 15,op:=Op.fieldAddr 50 (Operand.tmp 1) 0,type:=ty,pos:=ps,after:=af,guard:=none } []:=by
 intro a w' hI0 hF hD K hK0;have hK:=zhy hK0;have hI:=zhy hI0;clear hK0 hI0;have e1:a.tmps[1]?.getD undef=.pointer (some ⟨B,0,none⟩):=(gd a 1).trans ((hF 1 (by simp)).trans h1);clear hF hD;go_simp;exact hK.out _ _ hI.o (Below.refl _ _) (fun s hs=>by cases hs;rfl)
theorem qdw (t:Nat) (x:Mc) (m:Mh) (B:Nat) (w:World) (Q:Exit→Act→World→Prop) (a0:Act) (h1:a0.tmps.getD 1 undef=.pointer (some ⟨B,0,none⟩)) (hla:m.a.length≤9223372036854775807) (hr8:0≤m.r∧m.r<256) (ht:t<w.heap.size) (hA:∀ad,x.A=some ad→0<m.a.length→ad.block≠t) (hB:∀ad,x.B=some ad→0<m.l.length→ad.block≠t) (ty:TypeId) (ps:String) (af:Array Edge) :
  qj Tryz.prog Q (jn t (jr B x m)) (fun w'=>Sx w w' [fM B x m,fGM,fH x m]) a0 [1] { dst:=some 16,op:=Op.load 40 (Operand.tmp 15),type:=ty,pos:=ps,after:=af,guard:=none } [15]:=by
 intro a w' hI0 hF hD K hK0;have hK:=zhy hK0;have hI:=zhy hI0;clear hK0 hI0;have e15:a.tmps[15]?.getD undef=.pointer (some ⟨B,0,none⟩):=(gd a 15).trans (hD 15 (by simp));obtain ⟨b0,z0,z1,z2,z3,z4,z5,z6,z7⟩:=hI.o.2.1;clear hF hD;go_simp;exact hK.out _ _ hI.o (Below.refl _ _) (fun s hs=>by cases hs;rfl)
theorem qda (t:Nat) (x:Mc) (m:Mh) (B:Nat) (w:World) (Q:Exit→Act→World→Prop) (a0:Act) (h1:a0.tmps.getD 1 undef=.pointer (some ⟨B,0,none⟩)) (hla:m.a.length≤9223372036854775807) (hr8:0≤m.r∧m.r<256) (ht:t<w.heap.size) (hA:∀ad,x.A=some ad→0<m.a.length→ad.block≠t) (hB:∀ad,x.B=some ad→0<m.l.length→ad.block≠t) (ty:TypeId) (ps:String) (af:Array Edge) :
  qj Tryz.prog Q (jn t (jr B x m)) (fun w'=>Sx w w' [fM B x m,fGM,fH x m]) a0 [1] { dst:=some 17,op:=Op.call { callee:=Callee.builtin Builtin.len,args:=#[Operand.tmp 16],argTypes:=#[40]},type:=ty,pos:=ps,after:=af,guard:=none } [16]:=by
 intro a w' hI0 hF hD K hK0;have hK:=zhy hK0;have hI:=zhy hI0;clear hK0 hI0;have e16:a.tmps[16]?.getD undef=.slice x.A m.a.length x.c:=(gd a 16).trans (hD 16 (by simp));clear hF hD;go_simp;exact hK.out _ _ hI.o (Below.refl _ _) (fun s hs=>by cases hs;rfl)
theorem qee (t:Nat) (x:Mc) (m:Mh) (B:Nat) (w:World) (Q:Exit→Act→World→Prop) (a0:Act) (h1:a0.tmps.getD 1 undef=.pointer (some ⟨B,0,none⟩)) (hla:m.a.length≤9223372036854775807) (hr8:0≤m.r∧m.r<256) (ht:t<w.heap.size) (hA:∀ad,x.A=some ad→0<m.a.length→ad.block≠t) (hB:∀ad,x.B=some ad→0<m.l.length→ad.block≠t) (ty:TypeId) (ps:String) (af:Array Edge) :
  qj Tryz.prog Q (jn t (jr B x m)) (fun w'=>Sx w w' [fM B x m,fGM,fH x m]) a0 [1] { dst:=some 18,op:=Op.call { callee:=Callee.value (Operand.func 153),args:=#[Operand.tmp 17],argTypes:=#[3]},type:=ty,pos:=ps,after:=af,guard:=none } [17]:=by
 intro a w' hI0 hF hD K hK0;have hK:=zhy hK0;have hI:=zhy hI0;clear hK0 hI0;have e17:a.tmps[17]?.getD undef=.int .i64 m.a.length:=(gd a 17).trans (hD 17 (by simp));clear hF hD;go_simp;refine (zzv _ _ (by omega) (by omega)).mono ?_;rintro e w1 ⟨rfl,hb⟩;exact hK.out _ _ (hI.o.call hb) hb (fun s hs=>by cases hs;rfl)
theorem qef (t:Nat) (x:Mc) (m:Mh) (B:Nat) (w:World) (Q:Exit→Act→World→Prop) (a0:Act) (h1:a0.tmps.getD 1 undef=.pointer (some ⟨B,0,none⟩)) (hla:m.a.length≤9223372036854775807) (hr8:0≤m.r∧m.r<256) (ht:t<w.heap.size) (hA:∀ad,x.A=some ad→0<m.a.length→ad.block≠t) (hB:∀ad,x.B=some ad→0<m.l.length→ad.block≠t) (ty:TypeId) (ps:String) (af:Array Edge) :
  qj Tryz.prog Q (jn t (jr B x m)) (fun w'=>Sx w w' [fM B x m,fGM,fH x m]) a0 [1] { dst:=some 19,op:=Op.fieldAddr 50 (Operand.tmp 1) 1,type:=ty,pos:=ps,after:=af,guard:=none } []:=by
 intro a w' hI0 hF hD K hK0;have hK:=zhy hK0;have hI:=zhy hI0;clear hK0 hI0;have e1:a.tmps[1]?.getD undef=.pointer (some ⟨B,0,none⟩):=(gd a 1).trans ((hF 1 (by simp)).trans h1);clear hF hD;go_simp;exact hK.out _ _ hI.o (Below.refl _ _) (fun s hs=>by cases hs;rfl)
theorem qd8 (t:Nat) (x:Mc) (m:Mh) (B:Nat) (w:World) (Q:Exit→Act→World→Prop) (a0:Act) (h1:a0.tmps.getD 1 undef=.pointer (some ⟨B,0,none⟩)) (hla:m.a.length≤9223372036854775807) (hr8:0≤m.r∧m.r<256) (ht:t<w.heap.size) (hA:∀ad,x.A=some ad→0<m.a.length→ad.block≠t) (hB:∀ad,x.B=some ad→0<m.l.length→ad.block≠t) (ty:TypeId) (ps:String) (af:Array Edge) :
  qj Tryz.prog Q (jn t (jr B x m)) (fun w'=>Sx w w' [fM B x m,fGM,fH x m]) a0 [1] { dst:=some 20,op:=Op.load 40 (Operand.tmp 19),type:=ty,pos:=ps,after:=af,guard:=none } [19]:=by
 intro a w' hI0 hF hD K hK0;have hK:=zhy hK0;have hI:=zhy hI0;clear hK0 hI0;have e19:a.tmps[19]?.getD undef=.pointer (some ⟨B,1,none⟩):=(gd a 19).trans (hD 19 (by simp));obtain ⟨b0,z0,z1,z2,z3,z4,z5,z6,z7⟩:=hI.o.2.1;clear hF hD;go_simp;exact hK.out _ _ hI.o (Below.refl _ _) (fun s hs=>by cases hs;rfl)
theorem qer (t:Nat) (x:Mc) (m:Mh) (B:Nat) (w:World) (Q:Exit→Act→World→Prop) (a0:Act) (h1:a0.tmps.getD 1 undef=.pointer (some ⟨B,0,none⟩)) (hla:m.a.length≤9223372036854775807) (hr8:0≤m.r∧m.r<256) (ht:t<w.heap.size) (hA:∀ad,x.A=some ad→0<m.a.length→ad.block≠t) (hB:∀ad,x.B=some ad→0<m.l.length→ad.block≠t) (ty:TypeId) (ps:String) (af:Array Edge) :
  qj Tryz.prog Q (jn t (jr B x m)) (fun w'=>Sx w w' [fM B x m,fGM,fH x m]) a0 [1] { dst:=some 21,op:=Op.call { callee:=Callee.builtin Builtin.len,args:=#[Operand.tmp 20],argTypes:=#[40]},type:=ty,pos:=ps,after:=af,guard:=none } [20]:=by
 intro a w' hI0 hF hD K hK0;have hK:=zhy hK0;have hI:=zhy hI0;clear hK0 hI0;have e20:a.tmps[20]?.getD undef=.slice x.B m.l.length x.d:=(gd a 20).trans (hD 20 (by simp));clear hF hD;go_simp;exact hK.out _ _ hI.o (Below.refl _ _) (fun s hs=>by cases hs;rfl)
theorem qe2 (t:Nat) (x:Mc) (m:Mh) (B:Nat) (w:World) (Q:Exit→Act→World→Prop) (a0:Act) (h1:a0.tmps.getD 1 undef=.pointer (some ⟨B,0,none⟩)) (hla:m.a.length≤9223372036854775807) (hr8:0≤m.r∧m.r<256) (ht:t<w.heap.size) (hA:∀ad,x.A=some ad→0<m.a.length→ad.block≠t) (hB:∀ad,x.B=some ad→0<m.l.length→ad.block≠t) (ty:TypeId) (ps:String) (af:Array Edge) :
  qj Tryz.prog Q (jn t (jr B x m)) (fun w'=>Sx w w' [fM B x m,fGM,fH x m]) a0 [1] { dst:=some 22,op:=Op.buildSlice 59 1 #[(0,Operand.tmp 21)],type:=ty,pos:=ps,after:=af,guard:=none } [21]:=by
 intro a w' hI0 hF hD K hK0;have hK:=zhy hK0;have hI:=zhy hI0;clear hK0 hI0;have e21:a.tmps[21]?.getD undef=.int .i64 m.l.length:=(gd a 21).trans (hD 21 (by simp));clear hF hD;go_simp;exact hK.out _ _ (hI.o.mk1 _) qh (fun s hs=>by cases hs;exact zcd _ _ _ (by have:=hI.o.1.size;omega))
theorem qdi (t:Nat) (x:Mc) (m:Mh) (B:Nat) (w:World) (Q:Exit→Act→World→Prop) (a0:Act) (h1:a0.tmps.getD 1 undef=.pointer (some ⟨B,0,none⟩)) (hla:m.a.length≤9223372036854775807) (hr8:0≤m.r∧m.r<256) (ht:t<w.heap.size) (hA:∀ad,x.A=some ad→0<m.a.length→ad.block≠t) (hB:∀ad,x.B=some ad→0<m.l.length→ad.block≠t) (ty:TypeId) (ps:String) (af:Array Edge) :
  qj Tryz.prog Q (jn t (jr B x m)) (fun w'=>Sx w w' [fM B x m,fGM,fH x m]) a0 [1] { dst:=some 23,op:=Op.call { callee:=Callee.value (Operand.func 148),args:=#[Operand.tmp 18,Operand.tmp 22],argTypes:=#[159,59]},type:=ty,pos:=ps,after:=af,guard:=none } [18,22]:=by
 intro a w' hI0 hF hD K hK0;have hK:=zhy hK0;have hI:=zhy hI0;clear hK0 hI0;have e18:a.tmps[18]?.getD undef=fv 1 0 (16-m.a.length):=(gd a 18).trans (hD 18 (by simp));obtain ⟨g,e22,hg,hc,hne⟩:zwi t w' (a.tmps[22]?.getD undef) (m.l.length:Int):=by rw [gd];exact hD 22 (by simp)
 clear hF hD;go_simp;refine (zdv _ _ _ _ _ _ _).mono ?_;rintro e w1 ⟨rfl,hb⟩;exact hK.out _ _ (hI.o.call hb) hb (fun s hs=>by cases hs;exact ⟨g,rfl,Nat.lt_of_lt_of_le hg hb.size,(hb.cell hg).trans hc,hne⟩)
theorem qdq (t:Nat) (x:Mc) (m:Mh) (B:Nat) (w:World) (Q:Exit→Act→World→Prop) (a0:Act) (h1:a0.tmps.getD 1 undef=.pointer (some ⟨B,0,none⟩)) (hla:m.a.length≤9223372036854775807) (hr8:0≤m.r∧m.r<256) (ht:t<w.heap.size) (hA:∀ad,x.A=some ad→0<m.a.length→ad.block≠t) (hB:∀ad,x.B=some ad→0<m.l.length→ad.block≠t) (ty:TypeId) (ps:String) (af:Array Edge) :
  qj Tryz.prog Q (jn t (jr B x m)) (fun w'=>Sx w w' [fM B x m,fGM,fH x m]) a0 [1] { dst:=some 24,op:=Op.makeFunc (Fn.func 150) #[Operand.tmp 23] #[],type:=ty,pos:=ps,after:=af,guard:=none } [23]:=by
 intro a w' hI0 hF hD K hK0;have hK:=zhy hK0;have hI:=zhy hI0;clear hK0 hI0;obtain ⟨g,e23,hg,hc,hne⟩:rowI t w' (a.tmps[23]?.getD undef) 1 0 (16-m.a.length) (m.l.length:Int):=by rw [gd];exact hD 23 (by simp)
 unfold Oper.wp execOp;simp only [List.map_toArray,List.map_cons,List.map_nil,Act.eval,Array.getD_eq_getD_getElem?,e23];exact hK.out _ _ hI.o (Below.refl _ _) (fun s hs=>by cases hs;exact ⟨g,rfl,hg,hc,hne⟩)
theorem qel (t:Nat) (x:Mc) (m:Mh) (B:Nat) (w:World) (Q:Exit→Act→World→Prop) (a0:Act) (h1:a0.tmps.getD 1 undef=.pointer (some ⟨B,0,none⟩)) (hla:m.a.length≤9223372036854775807) (hr8:0≤m.r∧m.r<256) (ht:t<w.heap.size) (hA:∀ad,x.A=some ad→0<m.a.length→ad.block≠t) (hB:∀ad,x.B=some ad→0<m.l.length→ad.block≠t) (ty:TypeId) (ps:String) (af:Array Edge) :
  qj Tryz.prog Q (jn t (jr B x m)) (fun w'=>Sx w w' [fM B x m,fGM,fH x m]) a0 [1] { dst:=some 25,op:=Op.load 159 (Operand.global 0),type:=ty,pos:=ps,after:=af,guard:=none } []:=by
 intro a w' hI0 hF hD K hK0;have hK:=zhy hK0;have hI:=zhy hI0;clear hK0 hI0;obtain ⟨b0,z0,z1,z2⟩:=hI.o.2.2.1.1;clear hF hD;go_simp;exact hK.out _ _ hI.o (Below.refl _ _) (fun s hs=>by cases hs;rfl)
theorem qdh (t:Nat) (x:Mc) (m:Mh) (B:Nat) (w:World) (Q:Exit→Act→World→Prop) (a0:Act) (h1:a0.tmps.getD 1 undef=.pointer (some ⟨B,0,none⟩)) (hla:m.a.length≤9223372036854775807) (hr8:0≤m.r∧m.r<256) (ht:t<w.heap.size) (hA:∀ad,x.A=some ad→0<m.a.length→ad.block≠t) (hB:∀ad,x.B=some ad→0<m.l.length→ad.block≠t) (ty:TypeId) (ps:String) (af:Array Edge) :
  qj Tryz.prog Q (jn t (jr B x m)) (fun w'=>Sx w w' [fM B x m,fGM,fH x m]) a0 [1] { dst:=some 26,op:=Op.fieldAddr 50 (Operand.tmp 1) 1,type:=ty,pos:=ps,after:=af,guard:=none } []:=by
 intro a w' hI0 hF hD K hK0;have hK:=zhy hK0;have hI:=zhy hI0;clear hK0 hI0;have e1:a.tmps[1]?.getD undef=.pointer (some ⟨B,0,none⟩):=(gd a 1).trans ((hF 1 (by simp)).trans h1);clear hF hD;go_simp;exact hK.out _ _ hI.o (Below.refl _ _) (fun s hs=>by cases hs;rfl)
theorem qd6 (t:Nat) (x:Mc) (m:Mh) (B:Nat) (w:World) (Q:Exit→Act→World→Prop) (a0:Act) (h1:a0.tmps.getD 1 undef=.pointer (some ⟨B,0,none⟩)) (hla:m.a.length≤9223372036854775807) (hr8:0≤m.r∧m.r<256) (ht:t<w.heap.size) (hA:∀ad,x.A=some ad→0<m.a.length→ad.block≠t) (hB:∀ad,x.B=some ad→0<m.l.length→ad.block≠t) (ty:TypeId) (ps:String) (af:Array Edge) :
  qj Tryz.prog Q (jn t (jr B x m)) (fun w'=>Sx w w' [fM B x m,fGM,fH x m]) a0 [1] { dst:=some 27,op:=Op.load 40 (Operand.tmp 26),type:=ty,pos:=ps,after:=af,guard:=none } [26]:=by
 intro a w' hI0 hF hD K hK0;have hK:=zhy hK0;have hI:=zhy hI0;clear hK0 hI0;have e26:a.tmps[26]?.getD undef=.pointer (some ⟨B,1,none⟩):=(gd a 26).trans (hD 26 (by simp));obtain ⟨b0,z0,z1,z2,z3,z4,z5,z6,z7⟩:=hI.o.2.1;clear hF hD;go_simp;exact hK.out _ _ hI.o (Below.refl _ _) (fun s hs=>by cases hs;rfl)
theorem qek (t:Nat) (x:Mc) (m:Mh) (B:Nat) (w:World) (Q:Exit→Act→World→Prop) (a0:Act) (h1:a0.tmps.getD 1 undef=.pointer (some ⟨B,0,none⟩)) (hla:m.a.length≤9223372036854775807) (hr8:0≤m.r∧m.r<256) (ht:t<w.heap.size) (hA:∀ad,x.A=some ad→0<m.a.length→ad.block≠t) (hB:∀ad,x.B=some ad→0<m.l.length→ad.block≠t) (ty:TypeId) (ps:String) (af:Array Edge) :
  qj Tryz.prog Q (jn t (jr B x m)) (fun w'=>Sx w w' [fM B x m,fGM,fH x m]) a0 [1] { dst:=some 28,op:=Op.call { callee:=Callee.value (Operand.func 151),args:=#[Operand.tmp 25,Operand.tmp 27],argTypes:=#[159,40]},type:=ty,pos:=ps,after:=af,guard:=none } [25,27]:=by
 intro a w' hI0 hF hD K hK0;have hK:=zhy hK0;have hI:=zhy hI0;clear hK0 hI0;have e25:a.tmps[25]?.getD undef=fv 1 1 3:=(gd a 25).trans (hD 25 (by simp));have e27:a.tmps[27]?.getD undef=.slice x.B m.l.length x.d:=(gd a 27).trans (hD 27 (by simp));clear hF hD;go_simp;refine (zq5 _ _ _ _ _ _ _).mono ?_;rintro e w1 ⟨rfl,hb⟩;exact hK.out _ _ (hI.o.call hb) hb (fun s hs=>by cases hs;exact ⟨_,_,rfl,(hI.o.call hb).2.2.2.1.2.1,hB⟩)
theorem qes (t:Nat) (x:Mc) (m:Mh) (B:Nat) (w:World) (Q:Exit→Act→World→Prop) (a0:Act) (h1:a0.tmps.getD 1 undef=.pointer (some ⟨B,0,none⟩)) (hla:m.a.length≤9223372036854775807) (hr8:0≤m.r∧m.r<256) (ht:t<w.heap.size) (hA:∀ad,x.A=some ad→0<m.a.length→ad.block≠t) (hB:∀ad,x.B=some ad→0<m.l.length→ad.block≠t) (ty:TypeId) (ps:String) (af:Array Edge) :
  qj Tryz.prog Q (jn t (jr B x m)) (fun w'=>Sx w w' [fM B x m,fGM,fH x m]) a0 [1] { dst:=some 29,op:=Op.makeFunc (Fn.func 152) #[Operand.tmp 28] #[],type:=ty,pos:=ps,after:=af,guard:=none } [28]:=by
 intro a w' hI0 hF hD K hK0;have hK:=zhy hK0;have hI:=zhy hI0;clear hK0 hI0;obtain ⟨A,c,e28,hrd,hne⟩:rowU t w' (a.tmps[28]?.getD undef) 1 1 3 m.l:=by rw [gd];exact hD 28 (by simp)
 unfold Oper.wp execOp;simp only [List.map_toArray,List.map_cons,List.map_nil,Act.eval,Array.getD_eq_getD_getElem?,e28];exact hK.out _ _ hI.o (Below.refl _ _) (fun s hs=>by cases hs;exact ⟨A,c,rfl,hrd,hne⟩)
theorem qeg (t:Nat) (x:Mc) (m:Mh) (B:Nat) (w:World) (Q:Exit→Act→World→Prop) (a0:Act) (h1:a0.tmps.getD 1 undef=.pointer (some ⟨B,0,none⟩)) (hla:m.a.length≤9223372036854775807) (hr8:0≤m.r∧m.r<256) (ht:t<w.heap.size) (hA:∀ad,x.A=some ad→0<m.a.length→ad.block≠t) (hB:∀ad,x.B=some ad→0<m.l.length→ad.block≠t) (ty:TypeId) (ps:String) (af:Array Edge) :
  qj Tryz.prog Q (jn t (jr B x m)) (fun w'=>Sx w w' [fM B x m,fGM,fH x m]) a0 [1] { dst:=some 30,op:=Op.load 159 (Operand.global 1),type:=ty,pos:=ps,after:=af,guard:=none } []:=by
 intro a w' hI0 hF hD K hK0;have hK:=zhy hK0;have hI:=zhy hI0;clear hK0 hI0;obtain ⟨b0,z0,z1,z2⟩:=hI.o.2.2.1.2.1;clear hF hD;go_simp;exact hK.out _ _ hI.o (Below.refl _ _) (fun s hs=>by cases hs;rfl)
theorem qdf (t:Nat) (x:Mc) (m:Mh) (B:Nat) (w:World) (Q:Exit→Act→World→Prop) (a0:Act) (h1:a0.tmps.getD 1 undef=.pointer (some ⟨B,0,none⟩)) (hla:m.a.length≤9223372036854775807) (hr8:0≤m.r∧m.r<256) (ht:t<w.heap.size) (hA:∀ad,x.A=some ad→0<m.a.length→ad.block≠t) (hB:∀ad,x.B=some ad→0<m.l.length→ad.block≠t) (ty:TypeId) (ps:String) (af:Array Edge) :
  qj Tryz.prog Q (jn t (jr B x m)) (fun w'=>Sx w w' [fM B x m,fGM,fH x m]) a0 [1] { dst:=some 31,op:=Op.fieldAddr 50 (Operand.tmp 1) 2,type:=ty,pos:=ps,after:=af,guard:=none } []:=by
 intro a w' hI0 hF hD K hK0;have hK:=zhy hK0;have hI:=zhy hI0;clear hK0 hI0;have e1:a.tmps[1]?.getD undef=.pointer (some ⟨B,0,none⟩):=(gd a 1).trans ((hF 1 (by simp)).trans h1);clear hF hD;go_simp;exact hK.out _ _ hI.o (Below.refl _ _) (fun s hs=>by cases hs;rfl)
theorem qeq (t:Nat) (x:Mc) (m:Mh) (B:Nat) (w:World) (Q:Exit→Act→World→Prop) (a0:Act) (h1:a0.tmps.getD 1 undef=.pointer (some ⟨B,0,none⟩)) (hla:m.a.length≤9223372036854775807) (hr8:0≤m.r∧m.r<256) (ht:t<w.heap.size) (hA:∀ad,x.A=some ad→0<m.a.length→ad.block≠t) (hB:∀ad,x.B=some ad→0<m.l.length→ad.block≠t) (ty:TypeId) (ps:String) (af:Array Edge) :
  qj Tryz.prog Q (jn t (jr B x m)) (fun w'=>Sx w w' [fM B x m,fGM,fH x m]) a0 [1] { dst:=some 32,op:=Op.load 5 (Operand.tmp 31),type:=ty,pos:=ps,after:=af,guard:=none } [31]:=by
 intro a w' hI0 hF hD K hK0;have hK:=zhy hK0;have hI:=zhy hI0;clear hK0 hI0;have e31:a.tmps[31]?.getD undef=.pointer (some ⟨B,2,none⟩):=(gd a 31).trans (hD 31 (by simp));obtain ⟨b0,z0,z1,z2,z3,z4,z5,z6,z7⟩:=hI.o.2.1;clear hF hD;go_simp;exact hK.out _ _ hI.o (Below.refl _ _) (fun s hs=>by cases hs;rfl)
theorem qdr (t:Nat) (x:Mc) (m:Mh) (B:Nat) (w:World) (Q:Exit→Act→World→Prop) (a0:Act) (h1:a0.tmps.getD 1 undef=.pointer (some ⟨B,0,none⟩)) (hla:m.a.length≤9223372036854775807) (hr8:0≤m.r∧m.r<256) (ht:t<w.heap.size) (hA:∀ad,x.A=some ad→0<m.a.length→ad.block≠t) (hB:∀ad,x.B=some ad→0<m.l.length→ad.block≠t) (ty:TypeId) (ps:String) (af:Array Edge) :
  qj Tryz.prog Q (jn t (jr B x m)) (fun w'=>Sx w w' [fM B x m,fGM,fH x m]) a0 [1] { dst:=some 33,op:=Op.buildSlice 40 1 #[(0,Operand.tmp 32)],type:=ty,pos:=ps,after:=af,guard:=none } [32]:=by
 intro a w' hI0 hF hD K hK0;have hK:=zhy hK0;have hI:=zhy hI0;clear hK0 hI0;have e32:a.tmps[32]?.getD undef=.int .u8 m.r:=(gd a 32).trans (hD 32 (by simp));clear hF hD;go_simp;exact hK.out _ _ (hI.o.mk1 _) qh (fun s hs=>by cases hs;exact zus _ _ hr8 (by have:=hI.o.1.size;omega))
theorem qd5 (t:Nat) (x:Mc) (m:Mh) (B:Nat) (w:World) (Q:Exit→Act→World→Prop) (a0:Act) (h1:a0.tmps.getD 1 undef=.pointer (some ⟨B,0,none⟩)) (hla:m.a.length≤9223372036854775807) (hr8:0≤m.r∧m.r<256) (ht:t<w.heap.size) (hA:∀ad,x.A=some ad→0<m.a.length→ad.block≠t) (hB:∀ad,x.B=some ad→0<m.l.length→ad.block≠t) (ty:TypeId) (ps:String) (af:Array Edge) :
  qj Tryz.prog Q (jn t (jr B x m)) (fun w'=>Sx w w' [fM B x m,fGM,fH x m]) a0 [1] { dst:=some 34,op:=Op.call { callee:=Callee.value (Operand.func 151),args:=#[Operand.tmp 30,Operand.tmp 33],argTypes:=#[159,40]},type:=ty,pos:=ps,after:=af,guard:=none } [30,33]:=by
 intro a w' hI0 hF hD K hK0;have hK:=zhy hK0;have hI:=zhy hI0;clear hK0 hI0;have e30:a.tmps[30]?.getD undef=fv 1 1 2:=(gd a 30).trans (hD 30 (by simp));obtain ⟨g,e33,hrd,hne⟩:qdv t w' (a.tmps[33]?.getD undef) m.r:=by rw [gd];exact hD 33 (by simp)
 clear hF hD;go_simp;refine (zq5 _ _ _ _ _ _ _).mono ?_;rintro e w1 ⟨rfl,hb⟩;exact hK.out _ _ (hI.o.call hb) hb (fun s hs=>by cases hs;exact ⟨_,_,rfl,hrd.keep hb,fun ad h0 _=>by cases h0;exact hne⟩)
theorem qep (t:Nat) (x:Mc) (m:Mh) (B:Nat) (w:World) (Q:Exit→Act→World→Prop) (a0:Act) (h1:a0.tmps.getD 1 undef=.pointer (some ⟨B,0,none⟩)) (hla:m.a.length≤9223372036854775807) (hr8:0≤m.r∧m.r<256) (ht:t<w.heap.size) (hA:∀ad,x.A=some ad→0<m.a.length→ad.block≠t) (hB:∀ad,x.B=some ad→0<m.l.length→ad.block≠t) (ty:TypeId) (ps:String) (af:Array Edge) :
  qj Tryz.prog Q (jn t (jr B x m)) (fun w'=>Sx w w' [fM B x m,fGM,fH x m]) a0 [1] { dst:=some 35,op:=Op.makeFunc (Fn.func 152) #[Operand.tmp 34] #[],type:=ty,pos:=ps,after:=af,guard:=none } [34]:=by
 intro a w' hI0 hF hD K hK0;have hK:=zhy hK0;have hI:=zhy hI0;clear hK0 hI0;obtain ⟨A,c,e34,hrd,hne⟩:rowU t w' (a.tmps[34]?.getD undef) 1 1 2 [m.r]:=by rw [gd];exact hD 34 (by simp)
 unfold Oper.wp execOp;simp only [List.map_toArray,List.map_cons,List.map_nil,Act.eval,Array.getD_eq_getD_getElem?,e34];exact hK.out _ _ hI.o (Below.refl _ _) (fun s hs=>by cases hs;exact ⟨A,c,rfl,hrd,hne⟩)
theorem qe0 (t:Nat) (x:Mc) (m:Mh) (B:Nat) (w:World) (Q:Exit→Act→World→Prop) (a0:Act) (h1:a0.tmps.getD 1 undef=.pointer (some ⟨B,0,none⟩)) (hla:m.a.length≤9223372036854775807) (hr8:0≤m.r∧m.r<256) (ht:t<w.heap.size) (hA:∀ad,x.A=some ad→0<m.a.length→ad.block≠t) (hB:∀ad,x.B=some ad→0<m.l.length→ad.block≠t) (ty:TypeId) (ps:String) (af:Array Edge) :
  qj Tryz.prog Q (jn t (jr B x m)) (fun w'=>Sx w w' [fM B x m,fGM,fH x m]) a0 [1] { dst:=some 36,op:=Op.load 159 (Operand.global 2),type:=ty,pos:=ps,after:=af,guard:=none } []:=by
 intro a w' hI0 hF hD K hK0;have hK:=zhy hK0;have hI:=zhy hI0;clear hK0 hI0;obtain ⟨b0,z0,z1,z2⟩:=hI.o.2.2.1.2.2.1;clear hF hD;go_simp;exact hK.out _ _ hI.o (Below.refl _ _) (fun s hs=>by cases hs;rfl)
theorem qed (t:Nat) (x:Mc) (m:Mh) (B:Nat) (w:World) (Q:Exit→Act→World→Prop) (a0:Act) (h1:a0.tmps.getD 1 undef=.pointer (some ⟨B,0,none⟩)) (hla:m.a.length≤9223372036854775807) (hr8:0≤m.r∧m.r<256) (ht:t<w.heap.size) (hA:∀ad,x.A=some ad→0<m.a.length→ad.block≠t) (hB:∀ad,x.B=some ad→0<m.l.length→ad.block≠t) (ty:TypeId) (ps:String) (af:Array Edge) :
  qj Tryz.prog Q (jn t (jr B x m)) (fun w'=>Sx w w' [fM B x m,fGM,fH x m]) a0 [1] { dst:=some 37,op:=Op.fieldAddr 50 (Operand.tmp 1) 3,type:=ty,pos:=ps,after:=af,guard:=none } []:=by
 intro a w' hI0 hF hD K hK0;have hK:=zhy hK0;have hI:=zhy hI0;clear hK0 hI0;have e1:a.tmps[1]?.getD undef=.pointer (some ⟨B,0,none⟩):=(gd a 1).trans ((hF 1 (by simp)).trans h1);clear hF hD;go_simp;exact hK.out _ _ hI.o (Below.refl _ _) (fun s hs=>by cases hs;rfl)
theorem qey (t:Nat) (x:Mc) (m:Mh) (B:Nat) (w:World) (Q:Exit→Act→World→Prop) (a0:Act) (h1:a0.tmps.getD 1 undef=.pointer (some ⟨B,0,none⟩)) (hla:m.a.length≤9223372036854775807) (hr8:0≤m.r∧m.r<256) (ht:t<w.heap.size) (hA:∀ad,x.A=some ad→0<m.a.length→ad.block≠t) (hB:∀ad,x.B=some ad→0<m.l.length→ad.block≠t) (ty:TypeId) (ps:String) (af:Array Edge) :
  qj Tryz.prog Q (jn t (jr B x m)) (fun w'=>Sx w w' [fM B x m,fGM,fH x m]) a0 [1] { dst:=some 38,op:=Op.load 4 (Operand.tmp 37),type:=ty,pos:=ps,after:=af,guard:=none } [37]:=by
 intro a w' hI0 hF hD K hK0;have hK:=zhy hK0;have hI:=zhy hI0;clear hK0 hI0;have e37:a.tmps[37]?.getD undef=.pointer (some ⟨B,3,none⟩):=(gd a 37).trans (hD 37 (by simp));obtain ⟨b0,z0,z1,z2,z3,z4,z5,z6,z7⟩:=hI.o.2.1;clear hF hD;go_simp;exact hK.out _ _ hI.o (Below.refl _ _) (fun s hs=>by cases hs;rfl)
theorem qd7 (t:Nat) (x:Mc) (m:Mh) (B:Nat) (w:World) (Q:Exit→Act→World→Prop) (a0:Act) (h1:a0.tmps.getD 1 undef=.pointer (some ⟨B,0,none⟩)) (hla:m.a.length≤9223372036854775807) (hr8:0≤m.r∧m.r<256) (ht:t<w.heap.size) (hA:∀ad,x.A=some ad→0<m.a.length→ad.block≠t) (hB:∀ad,x.B=some ad→0<m.l.length→ad.block≠t) (ty:TypeId) (ps:String) (af:Array Edge) :
  qj Tryz.prog Q (jn t (jr B x m)) (fun w'=>Sx w w' [fM B x m,fGM,fH x m]) a0 [1] { dst:=some 39,op:=Op.call { callee:=Callee.value (Operand.func 154),args:=#[Operand.tmp 38],argTypes:=#[4]},type:=ty,pos:=ps,after:=af,guard:=none } [38]:=by
 intro a w' hI0 hF hD K hK0;have hK:=zhy hK0;have hI:=zhy hI0;clear hK0 hI0;have e38:a.tmps[38]?.getD undef=.bool m.q:=(gd a 38).trans (hD 38 (by simp));clear hF hD;go_simp;refine (qa3 _ _).mono ?_;rintro e w1 ⟨rfl,rfl⟩;exact hK.out _ _ hI.o (Below.refl _ _) (fun s hs=>by cases hs;rfl)
theorem qd4 (t:Nat) (x:Mc) (m:Mh) (B:Nat) (w:World) (Q:Exit→Act→World→Prop) (a0:Act) (h1:a0.tmps.getD 1 undef=.pointer (some ⟨B,0,none⟩)) (hla:m.a.length≤9223372036854775807) (hr8:0≤m.r∧m.r<256) (ht:t<w.heap.size) (hA:∀ad,x.A=some ad→0<m.a.length→ad.block≠t) (hB:∀ad,x.B=some ad→0<m.l.length→ad.block≠t) (ty:TypeId) (ps:String) (af:Array Edge) :
  qj Tryz.prog Q (jn t (jr B x m)) (fun w'=>Sx w w' [fM B x m,fGM,fH x m]) a0 [1] { dst:=some 40,op:=Op.buildSlice 59 1 #[(0,Operand.tmp 39)],type:=ty,pos:=ps,after:=af,guard:=none } [39]:=by
 intro a w' hI0 hF hD K hK0;have hK:=zhy hK0;have hI:=zhy hI0;clear hK0 hI0;have e39:a.tmps[39]?.getD undef=.int .i64 (fl m.q):=(gd a 39).trans (hD 39 (by simp));clear hF hD;go_simp;exact hK.out _ _ (hI.o.mk1 _) qh (fun s hs=>by cases hs;exact zcd _ _ _ (by have:=hI.o.1.size;omega))
theorem qc9 (t:Nat) (x:Mc) (m:Mh) (B:Nat) (w:World) (Q:Exit→Act→World→Prop) (a0:Act) (h1:a0.tmps.getD 1 undef=.pointer (some ⟨B,0,none⟩)) (hla:m.a.length≤9223372036854775807) (hr8:0≤m.r∧m.r<256) (ht:t<w.heap.size) (hA:∀ad,x.A=some ad→0<m.a.length→ad.block≠t) (hB:∀ad,x.B=some ad→0<m.l.length→ad.block≠t) (ty:TypeId) (ps:String) (af:Array Edge) :
  qj Tryz.prog Q (jn t (jr B x m)) (fun w'=>Sx w w' [fM B x m,fGM,fH x m]) a0 [1] { dst:=some 41,op:=Op.call { callee:=Callee.value (Operand.func 148),args:=#[Operand.tmp 36,Operand.tmp 40],argTypes:=#[159,59]},type:=ty,pos:=ps,after:=af,guard:=none } [36,40]:=by
 intro a w' hI0 hF hD K hK0;have hK:=zhy hK0;have hI:=zhy hI0;clear hK0 hI0;have e36:a.tmps[36]?.getD undef=fv 1 0 1:=(gd a 36).trans (hD 36 (by simp));obtain ⟨g,e40,hg,hc,hne⟩:zwi t w' (a.tmps[40]?.getD undef) (fl m.q):=by rw [gd];exact hD 40 (by simp)
 clear hF hD;go_simp;refine (zdv _ _ _ _ _ _ _).mono ?_;rintro e w1 ⟨rfl,hb⟩;exact hK.out _ _ (hI.o.call hb) hb (fun s hs=>by cases hs;exact ⟨g,rfl,Nat.lt_of_lt_of_le hg hb.size,(hb.cell hg).trans hc,hne⟩)
theorem qe1 (t:Nat) (x:Mc) (m:Mh) (B:Nat) (w:World) (Q:Exit→Act→World→Prop) (a0:Act) (h1:a0.tmps.getD 1 undef=.pointer (some ⟨B,0,none⟩)) (hla:m.a.length≤9223372036854775807) (hr8:0≤m.r∧m.r<256) (ht:t<w.heap.size) (hA:∀ad,x.A=some ad→0<m.a.length→ad.block≠t) (hB:∀ad,x.B=some ad→0<m.l.length→ad.block≠t) (ty:TypeId) (ps:String) (af:Array Edge) :
  qj Tryz.prog Q (jn t (jr B x m)) (fun w'=>Sx w w' [fM B x m,fGM,fH x m]) a0 [1] { dst:=some 42,op:=Op.makeFunc (Fn.func 150) #[Operand.tmp 41] #[],type:=ty,pos:=ps,after:=af,guard:=none } [41]:=by
 intro a w' hI0 hF hD K hK0;have hK:=zhy hK0;have hI:=zhy hI0;clear hK0 hI0;obtain ⟨g,e41,hg,hc,hne⟩:rowI t w' (a.tmps[41]?.getD undef) 1 0 1 (fl m.q):=by rw [gd];exact hD 41 (by simp)
 unfold Oper.wp execOp;simp only [List.map_toArray,List.map_cons,List.map_nil,Act.eval,Array.getD_eq_getD_getElem?,e41];exact hK.out _ _ hI.o (Below.refl _ _) (fun s hs=>by cases hs;exact ⟨g,rfl,hg,hc,hne⟩)
theorem qev (t:Nat) (x:Mc) (m:Mh) (B:Nat) (w:World) (Q:Exit→Act→World→Prop) (a0:Act) (h1:a0.tmps.getD 1 undef=.pointer (some ⟨B,0,none⟩)) (hla:m.a.length≤9223372036854775807) (hr8:0≤m.r∧m.r<256) (ht:t<w.heap.size) (hA:∀ad,x.A=some ad→0<m.a.length→ad.block≠t) (hB:∀ad,x.B=some ad→0<m.l.length→ad.block≠t) (ty:TypeId) (ps:String) (af:Array Edge) :
  qj Tryz.prog Q (jn t (jr B x m)) (fun w'=>Sx w w' [fM B x m,fGM,fH x m]) a0 [1] { dst:=some 43,op:=Op.load 159 (Operand.global 3),type:=ty,pos:=ps,after:=af,guard:=none } []:=by
 intro a w' hI0 hF hD K hK0;have hK:=zhy hK0;have hI:=zhy hI0;clear hK0 hI0;obtain ⟨b0,z0,z1,z2⟩:=hI.o.2.2.1.2.2.2.1;clear hF hD;go_simp;exact hK.out _ _ hI.o (Below.refl _ _) (fun s hs=>by cases hs;rfl)
theorem qec (t:Nat) (x:Mc) (m:Mh) (B:Nat) (w:World) (Q:Exit→Act→World→Prop) (a0:Act) (h1:a0.tmps.getD 1 undef=.pointer (some ⟨B,0,none⟩)) (hla:m.a.length≤9223372036854775807) (hr8:0≤m.r∧m.r<256) (ht:t<w.heap.size) (hA:∀ad,x.A=some ad→0<m.a.length→ad.block≠t) (hB:∀ad,x.B=some ad→0<m.l.length→ad.block≠t) (ty:TypeId) (ps:String) (af:Array Edge) :
  qj Tryz.prog Q (jn t (jr B x m)) (fun w'=>Sx w w' [fM B x m,fGM,fH x m]) a0 [1] { dst:=some 44,op:=Op.fieldAddr 50 (Operand.tmp 1) 4,type:=ty,pos:=ps,after:=af,guard:=none } []:=by
 intro a w' hI0 hF hD K hK0;have hK:=zhy hK0;have hI:=zhy hI0;clear hK0 hI0;have e1:a.tmps[1]?.getD undef=.pointer (some ⟨B,0,none⟩):=(gd a 1).trans ((hF 1 (by simp)).trans h1);clear hF hD;go_simp;exact hK.out _ _ hI.o (Below.refl _ _) (fun s hs=>by cases hs;rfl)
theorem qe6 (t:Nat) (x:Mc) (m:Mh) (B:Nat) (w:World) (Q:Exit→Act→World→Prop) (a0:Act) (h1:a0.tmps.getD 1 undef=.pointer (some ⟨B,0,none⟩)) (hla:m.a.length≤9223372036854775807) (hr8:0≤m.r∧m.r<256) (ht:t<w.heap.size) (hA:∀ad,x.A=some ad→0<m.a.length→ad.block≠t) (hB:∀ad,x.B=some ad→0<m.l.length→ad.block≠t) (ty:TypeId) (ps:String) (af:Array Edge) :
  qj Tryz.prog Q (jn t (jr B x m)) (fun w'=>Sx w w' [fM B x m,fGM,fH x m]) a0 [1] { dst:=some 45,op:=Op.load 3 (Operand.tmp 44),type:=ty,pos:=ps,after:=af,guard:=none } [44]:=by
 intro a w' hI0 hF hD K hK0;have hK:=zhy hK0;have hI:=zhy hI0;clear hK0 hI0;have e44:a.tmps[44]?.getD undef=.pointer (some ⟨B,4,none⟩):=(gd a 44).trans (hD 44 (by simp));obtain ⟨b0,z0,z1,z2,z3,z4,z5,z6,z7⟩:=hI.o.2.1;clear hF hD;go_simp;exact hK.out _ _ hI.o (Below.refl _ _) (fun s hs=>by cases hs;rfl)
theorem qet (t:Nat) (x:Mc) (m:Mh) (B:Nat) (w:World) (Q:Exit→Act→World→Prop) (a0:Act) (h1:a0.tmps.getD 1 undef=.pointer (some ⟨B,0,none⟩)) (hla:m.a.length≤9223372036854775807) (hr8:0≤m.r∧m.r<256) (ht:t<w.heap.size) (hA:∀ad,x.A=some ad→0<m.a.length→ad.block≠t) (hB:∀ad,x.B=some ad→0<m.l.length→ad.block≠t) (ty:TypeId) (ps:String) (af:Array Edge) :
  qj Tryz.prog Q (jn t (jr B x m)) (fun w'=>Sx w w' [fM B x m,fGM,fH x m]) a0 [1] { dst:=some 46,op:=Op.buildSlice 59 1 #[(0,Operand.tmp 45)],type:=ty,pos:=ps,after:=af,guard:=none } [45]:=by
 intro a w' hI0 hF hD K hK0;have hK:=zhy hK0;have hI:=zhy hI0;clear hK0 hI0;have e45:a.tmps[45]?.getD undef=.int .i64 m.f:=(gd a 45).trans (hD 45 (by simp));clear hF hD;go_simp;exact hK.out _ _ (hI.o.mk1 _) qh (fun s hs=>by cases hs;exact zcd _ _ _ (by have:=hI.o.1.size;omega))
theorem qdt (t:Nat) (x:Mc) (m:Mh) (B:Nat) (w:World) (Q:Exit→Act→World→Prop) (a0:Act) (h1:a0.tmps.getD 1 undef=.pointer (some ⟨B,0,none⟩)) (hla:m.a.length≤9223372036854775807) (hr8:0≤m.r∧m.r<256) (ht:t<w.heap.size) (hA:∀ad,x.A=some ad→0<m.a.length→ad.block≠t) (hB:∀ad,x.B=some ad→0<m.l.length→ad.block≠t) (ty:TypeId) (ps:String) (af:Array Edge) :
  qj Tryz.prog Q (jn t (jr B x m)) (fun w'=>Sx w w' [fM B x m,fGM,fH x m]) a0 [1] { dst:=some 47,op:=Op.call { callee:=Callee.value (Operand.func 148),args:=#[Operand.tmp 43,Operand.tmp 46],argTypes:=#[159,59]},type:=ty,pos:=ps,after:=af,guard:=none } [43,46]:=by
 intro a w' hI0 hF hD K hK0;have hK:=zhy hK0;have hI:=zhy hI0;clear hK0 hI0;have e43:a.tmps[43]?.getD undef=fv 3 0 1048576:=(gd a 43).trans (hD 43 (by simp));obtain ⟨g,e46,hg,hc,hne⟩:zwi t w' (a.tmps[46]?.getD undef) m.f:=by rw [gd];exact hD 46 (by simp)
 clear hF hD;go_simp;refine (zdv _ _ _ _ _ _ _).mono ?_;rintro e w1 ⟨rfl,hb⟩;exact hK.out _ _ (hI.o.call hb) hb (fun s hs=>by cases hs;exact ⟨g,rfl,Nat.lt_of_lt_of_le hg hb.size,(hb.cell hg).trans hc,hne⟩)
theorem qem (t:Nat) (x:Mc) (m:Mh) (B:Nat) (w:World) (Q:Exit→Act→World→Prop) (a0:Act) (h1:a0.tmps.getD 1 undef=.pointer (some ⟨B,0,none⟩)) (hla:m.a.length≤9223372036854775807) (hr8:0≤m.r∧m.r<256) (ht:t<w.heap.size) (hA:∀ad,x.A=some ad→0<m.a.length→ad.block≠t) (hB:∀ad,x.B=some ad→0<m.l.length→ad.block≠t) (ty:TypeId) (ps:String) (af:Array Edge) :
  qj Tryz.prog Q (jn t (jr B x m)) (fun w'=>Sx w w' [fM B x m,fGM,fH x m]) a0 [1] { dst:=some 48,op:=Op.makeFunc (Fn.func 150) #[Operand.tmp 47] #[],type:=ty,pos:=ps,after:=af,guard:=none } [47]:=by
 intro a w' hI0 hF hD K hK0;have hK:=zhy hK0;have hI:=zhy hI0;clear hK0 hI0;obtain ⟨g,e47,hg,hc,hne⟩:rowI t w' (a.tmps[47]?.getD undef) 3 0 1048576 m.f:=by rw [gd];exact hD 47 (by simp)
 unfold Oper.wp execOp;simp only [List.map_toArray,List.map_cons,List.map_nil,Act.eval,Array.getD_eq_getD_getElem?,e47];exact hK.out _ _ hI.o (Below.refl _ _) (fun s hs=>by cases hs;exact ⟨g,rfl,hg,hc,hne⟩)
theorem qdm (t:Nat) (x:Mc) (m:Mh) (B:Nat) (w:World) (Q:Exit→Act→World→Prop) (a0:Act) (h1:a0.tmps.getD 1 undef=.pointer (some ⟨B,0,none⟩)) (hla:m.a.length≤9223372036854775807) (hr8:0≤m.r∧m.r<256) (ht:t<w.heap.size) (hA:∀ad,x.A=some ad→0<m.a.length→ad.block≠t) (hB:∀ad,x.B=some ad→0<m.l.length→ad.block≠t) (ty:TypeId) (ps:String) (af:Array Edge) :
  qj Tryz.prog Q (jn t (jr B x m)) (fun w'=>Sx w w' [fM B x m,fGM,fH x m]) a0 [1] { dst:=some 49,op:=Op.load 159 (Operand.global 4),type:=ty,pos:=ps,after:=af,guard:=none } []:=by
 intro a w' hI0 hF hD K hK0;have hK:=zhy hK0;have hI:=zhy hI0;clear hK0 hI0;obtain ⟨b0,z0,z1,z2⟩:=hI.o.2.2.1.2.2.2.2.1;clear hF hD;go_simp;exact hK.out _ _ hI.o (Below.refl _ _) (fun s hs=>by cases hs;rfl)
theorem qdx (t:Nat) (x:Mc) (m:Mh) (B:Nat) (w:World) (Q:Exit→Act→World→Prop) (a0:Act) (h1:a0.tmps.getD 1 undef=.pointer (some ⟨B,0,none⟩)) (hla:m.a.length≤9223372036854775807) (hr8:0≤m.r∧m.r<256) (ht:t<w.heap.size) (hA:∀ad,x.A=some ad→0<m.a.length→ad.block≠t) (hB:∀ad,x.B=some ad→0<m.l.length→ad.block≠t) (ty:TypeId) (ps:String) (af:Array Edge) :
  qj Tryz.prog Q (jn t (jr B x m)) (fun w'=>Sx w w' [fM B x m,fGM,fH x m]) a0 [1] { dst:=some 50,op:=Op.fieldAddr 50 (Operand.tmp 1) 5,type:=ty,pos:=ps,after:=af,guard:=none } []:=by
 intro a w' hI0 hF hD K hK0;have hK:=zhy hK0;have hI:=zhy hI0;clear hK0 hI0;have e1:a.tmps[1]?.getD undef=.pointer (some ⟨B,0,none⟩):=(gd a 1).trans ((hF 1 (by simp)).trans h1);clear hF hD;go_simp;exact hK.out _ _ hI.o (Below.refl _ _) (fun s hs=>by cases hs;rfl)
theorem qe3 (t:Nat) (x:Mc) (m:Mh) (B:Nat) (w:World) (Q:Exit→Act→World→Prop) (a0:Act) (h1:a0.tmps.getD 1 undef=.pointer (some ⟨B,0,none⟩)) (hla:m.a.length≤9223372036854775807) (hr8:0≤m.r∧m.r<256) (ht:t<w.heap.size) (hA:∀ad,x.A=some ad→0<m.a.length→ad.block≠t) (hB:∀ad,x.B=some ad→0<m.l.length→ad.block≠t) (ty:TypeId) (ps:String) (af:Array Edge) :
  qj Tryz.prog Q (jn t (jr B x m)) (fun w'=>Sx w w' [fM B x m,fGM,fH x m]) a0 [1] { dst:=some 51,op:=Op.load 3 (Operand.tmp 50),type:=ty,pos:=ps,after:=af,guard:=none } [50]:=by
 intro a w' hI0 hF hD K hK0;have hK:=zhy hK0;have hI:=zhy hI0;clear hK0 hI0;have e50:a.tmps[50]?.getD undef=.pointer (some ⟨B,5,none⟩):=(gd a 50).trans (hD 50 (by simp));obtain ⟨b0,z0,z1,z2,z3,z4,z5,z6,z7⟩:=hI.o.2.1;clear hF hD;go_simp;exact hK.out _ _ hI.o (Below.refl _ _) (fun s hs=>by cases hs;rfl)
theorem qe5 (t:Nat) (x:Mc) (m:Mh) (B:Nat) (w:World) (Q:Exit→Act→World→Prop) (a0:Act) (h1:a0.tmps.getD 1 undef=.pointer (some ⟨B,0,none⟩)) (hla:m.a.length≤9223372036854775807) (hr8:0≤m.r∧m.r<256) (ht:t<w.heap.size) (hA:∀ad,x.A=some ad→0<m.a.length→ad.block≠t) (hB:∀ad,x.B=some ad→0<m.l.length→ad.block≠t) (ty:TypeId) (ps:String) (af:Array Edge) :
  qj Tryz.prog Q (jn t (jr B x m)) (fun w'=>Sx w w' [fM B x m,fGM,fH x m]) a0 [1] { dst:=some 52,op:=Op.buildSlice 59 1 #[(0,Operand.tmp 51)],type:=ty,pos:=ps,after:=af,guard:=none } [51]:=by
 intro a w' hI0 hF hD K hK0;have hK:=zhy hK0;have hI:=zhy hI0;clear hK0 hI0;have e51:a.tmps[51]?.getD undef=.int .i64 m.s:=(gd a 51).trans (hD 51 (by simp));clear hF hD;go_simp;exact hK.out _ _ (hI.o.mk1 _) qh (fun s hs=>by cases hs;exact zcd _ _ _ (by have:=hI.o.1.size;omega))
theorem qdy (t:Nat) (x:Mc) (m:Mh) (B:Nat) (w:World) (Q:Exit→Act→World→Prop) (a0:Act) (h1:a0.tmps.getD 1 undef=.pointer (some ⟨B,0,none⟩)) (hla:m.a.length≤9223372036854775807) (hr8:0≤m.r∧m.r<256) (ht:t<w.heap.size) (hA:∀ad,x.A=some ad→0<m.a.length→ad.block≠t) (hB:∀ad,x.B=some ad→0<m.l.length→ad.block≠t) (ty:TypeId) (ps:String) (af:Array Edge) :
  qj Tryz.prog Q (jn t (jr B x m)) (fun w'=>Sx w w' [fM B x m,fGM,fH x m]) a0 [1] { dst:=some 53,op:=Op.call { callee:=Callee.value (Operand.func 148),args:=#[Operand.tmp 49,Operand.tmp 52],argTypes:=#[159,59]},type:=ty,pos:=ps,after:=af,guard:=none } [49,52]:=by
 intro a w' hI0 hF hD K hK0;have hK:=zhy hK0;have hI:=zhy hI0;clear hK0 hI0;have e49:a.tmps[49]?.getD undef=fv 2 0 256:=(gd a 49).trans (hD 49 (by simp));obtain ⟨g,e52,hg,hc,hne⟩:zwi t w' (a.tmps[52]?.getD undef) m.s:=by rw [gd];exact hD 52 (by simp)
 clear hF hD;go_simp;refine (zdv _ _ _ _ _ _ _).mono ?_;rintro e w1 ⟨rfl,hb⟩;exact hK.out _ _ (hI.o.call hb) hb (fun s hs=>by cases hs;exact ⟨g,rfl,Nat.lt_of_lt_of_le hg hb.size,(hb.cell hg).trans hc,hne⟩)
theorem qc7 (t:Nat) (x:Mc) (m:Mh) (B:Nat) (w:World) (Q:Exit→Act→World→Prop) (a0:Act) (h1:a0.tmps.getD 1 undef=.pointer (some ⟨B,0,none⟩)) (hla:m.a.length≤9223372036854775807) (hr8:0≤m.r∧m.r<256) (ht:t<w.heap.size) (hA:∀ad,x.A=some ad→0<m.a.length→ad.block≠t) (hB:∀ad,x.B=some ad→0<m.l.length→ad.block≠t) (ty:TypeId) (ps:String) (af:Array Edge) :
  qj Tryz.prog Q (jn t (jr B x m)) (fun w'=>Sx w w' [fM B x m,fGM,fH x m]) a0 [1] { dst:=some 54,op:=Op.makeFunc (Fn.func 150) #[Operand.tmp 53] #[],type:=ty,pos:=ps,after:=af,guard:=none } [53]:=by
 intro a w' hI0 hF hD K hK0;have hK:=zhy hK0;have hI:=zhy hI0;clear hK0 hI0;obtain ⟨g,e53,hg,hc,hne⟩:rowI t w' (a.tmps[53]?.getD undef) 2 0 256 m.s:=by rw [gd];exact hD 53 (by simp)
 unfold Oper.wp execOp;simp only [List.map_toArray,List.map_cons,List.map_nil,Act.eval,Array.getD_eq_getD_getElem?,e53];exact hK.out _ _ hI.o (Below.refl _ _) (fun s hs=>by cases hs;exact ⟨g,rfl,hg,hc,hne⟩)
theorem qdg (t:Nat) (x:Mc) (m:Mh) (B:Nat) (w:World) (Q:Exit→Act→World→Prop) (a0:Act) (h1:a0.tmps.getD 1 undef=.pointer (some ⟨B,0,none⟩)) (hla:m.a.length≤9223372036854775807) (hr8:0≤m.r∧m.r<256) (ht:t<w.heap.size) (hA:∀ad,x.A=some ad→0<m.a.length→ad.block≠t) (hB:∀ad,x.B=some ad→0<m.l.length→ad.block≠t) (ty:TypeId) (ps:String) (af:Array Edge) :
  qj Tryz.prog Q (jn t (jr B x m)) (fun w'=>Sx w w' [fM B x m,fGM,fH x m]) a0 [1] { dst:=some 55,op:=Op.load 159 (Operand.global 5),type:=ty,pos:=ps,after:=af,guard:=none } []:=by
 intro a w' hI0 hF hD K hK0;have hK:=zhy hK0;have hI:=zhy hI0;clear hK0 hI0;obtain ⟨b0,z0,z1,z2⟩:=hI.o.2.2.1.2.2.2.2.2;clear hF hD;go_simp;exact hK.out _ _ hI.o (Below.refl _ _) (fun s hs=>by cases hs;rfl)
theorem qd1 (t:Nat) (x:Mc) (m:Mh) (B:Nat) (w:World) (Q:Exit→Act→World→Prop) (a0:Act) (h1:a0.tmps.getD 1 undef=.pointer (some ⟨B,0,none⟩)) (hla:m.a.length≤9223372036854775807) (hr8:0≤m.r∧m.r<256) (ht:t<w.heap.size) (hA:∀ad,x.A=some ad→0<m.a.length→ad.block≠t) (hB:∀ad,x.B=some ad→0<m.l.length→ad.block≠t) (ty:TypeId) (ps:String) (af:Array Edge) :
  qj Tryz.prog Q (jn t (jr B x m)) (fun w'=>Sx w w' [fM B x m,fGM,fH x m]) a0 [1] { dst:=some 56,op:=Op.fieldAddr 50 (Operand.tmp 1) 6,type:=ty,pos:=ps,after:=af,guard:=none } []:=by
 intro a w' hI0 hF hD K hK0;have hK:=zhy hK0;have hI:=zhy hI0;clear hK0 hI0;have e1:a.tmps[1]?.getD undef=.pointer (some ⟨B,0,none⟩):=(gd a 1).trans ((hF 1 (by simp)).trans h1);clear hF hD;go_simp;exact hK.out _ _ hI.o (Below.refl _ _) (fun s hs=>by cases hs;rfl)
theorem qdd (t:Nat) (x:Mc) (m:Mh) (B:Nat) (w:World) (Q:Exit→Act→World→Prop) (a0:Act) (h1:a0.tmps.getD 1 undef=.pointer (some ⟨B,0,none⟩)) (hla:m.a.length≤9223372036854775807) (hr8:0≤m.r∧m.r<256) (ht:t<w.heap.size) (hA:∀ad,x.A=some ad→0<m.a.length→ad.block≠t) (hB:∀ad,x.B=some ad→0<m.l.length→ad.block≠t) (ty:TypeId) (ps:String) (af:Array Edge) :
  qj Tryz.prog Q (jn t (jr B x m)) (fun w'=>Sx w w' [fM B x m,fGM,fH x m]) a0 [1] { dst:=some 57,op:=Op.load 3 (Operand.tmp 56),type:=ty,pos:=ps,after:=af,guard:=none } [56]:=by
 intro a w' hI0 hF hD K hK0;have hK:=zhy hK0;have hI:=zhy hI0;clear hK0 hI0;have e56:a.tmps[56]?.getD undef=.pointer (some ⟨B,6,none⟩):=(gd a 56).trans (hD 56 (by simp));obtain ⟨b0,z0,z1,z2,z3,z4,z5,z6,z7⟩:=hI.o.2.1;clear hF hD;go_simp;exact hK.out _ _ hI.o (Below.refl _ _) (fun s hs=>by cases hs;rfl)
theorem qeh (t:Nat) (x:Mc) (m:Mh) (B:Nat) (w:World) (Q:Exit→Act→World→Prop) (a0:Act) (h1:a0.tmps.getD 1 undef=.pointer (some ⟨B,0,none⟩)) (hla:m.a.length≤9223372036854775807) (hr8:0≤m.r∧m.r<256) (ht:t<w.heap.size) (hA:∀ad,x.A=some ad→0<m.a.length→ad.block≠t) (hB:∀ad,x.B=some ad→0<m.l.length→ad.block≠t) (ty:TypeId) (ps:String) (af:Array Edge) :
  qj Tryz.prog Q (jn t (jr B x m)) (fun w'=>Sx w w' [fM B x m,fGM,fH x m]) a0 [1] { dst:=some 58,op:=Op.buildSlice 59 1 #[(0,Operand.tmp 57)],type:=ty,pos:=ps,after:=af,guard:=none } [57]:=by
 intro a w' hI0 hF hD K hK0;have hK:=zhy hK0;have hI:=zhy hI0;clear hK0 hI0;have e57:a.tmps[57]?.getD undef=.int .i64 m.h:=(gd a 57).trans (hD 57 (by simp));clear hF hD;go_simp;exact hK.out _ _ (hI.o.mk1 _) qh (fun s hs=>by cases hs;exact zcd _ _ _ (by have:=hI.o.1.size;omega))
theorem qd3 (t:Nat) (x:Mc) (m:Mh) (B:Nat) (w:World) (Q:Exit→Act→World→Prop) (a0:Act) (h1:a0.tmps.getD 1 undef=.pointer (some ⟨B,0,none⟩)) (hla:m.a.length≤9223372036854775807) (hr8:0≤m.r∧m.r<256) (ht:t<w.heap.size) (hA:∀ad,x.A=some ad→0<m.a.length→ad.block≠t) (hB:∀ad,x.B=some ad→0<m.l.length→ad.block≠t) (ty:TypeId) (ps:String) (af:Array Edge) :
  qj Tryz.prog Q (jn t (jr B x m)) (fun w'=>Sx w w' [fM B x m,fGM,fH x m]) a0 [1] { dst:=some 59,op:=Op.call { callee:=Callee.value (Operand.func 148),args:=#[Operand.tmp 55,Operand.tmp 58],argTypes:=#[159,59]},type:=ty,pos:=ps,after:=af,guard:=none } [55,58]:=by
 intro a w' hI0 hF hD K hK0;have hK:=zhy hK0;have hI:=zhy hI0;clear hK0 hI0;have e55:a.tmps[55]?.getD undef=fv 2 0 1024:=(gd a 55).trans (hD 55 (by simp));obtain ⟨g,e58,hg,hc,hne⟩:zwi t w' (a.tmps[58]?.getD undef) m.h:=by rw [gd];exact hD 58 (by simp)
 clear hF hD;go_simp;refine (zdv _ _ _ _ _ _ _).mono ?_;rintro e w1 ⟨rfl,hb⟩;exact hK.out _ _ (hI.o.call hb) hb (fun s hs=>by cases hs;exact ⟨g,rfl,Nat.lt_of_lt_of_le hg hb.size,(hb.cell hg).trans hc,hne⟩)
theorem qdp (t:Nat) (x:Mc) (m:Mh) (B:Nat) (w:World) (Q:Exit→Act→World→Prop) (a0:Act) (h1:a0.tmps.getD 1 undef=.pointer (some ⟨B,0,none⟩)) (hla:m.a.length≤9223372036854775807) (hr8:0≤m.r∧m.r<256) (ht:t<w.heap.size) (hA:∀ad,x.A=some ad→0<m.a.length→ad.block≠t) (hB:∀ad,x.B=some ad→0<m.l.length→ad.block≠t) (ty:TypeId) (ps:String) (af:Array Edge) :
  qj Tryz.prog Q (jn t (jr B x m)) (fun w'=>Sx w w' [fM B x m,fGM,fH x m]) a0 [1] { dst:=some 60,op:=Op.makeFunc (Fn.func 150) #[Operand.tmp 59] #[],type:=ty,pos:=ps,after:=af,guard:=none } [59]:=by
 intro a w' hI0 hF hD K hK0;have hK:=zhy hK0;have hI:=zhy hI0;clear hK0 hI0;obtain ⟨g,e59,hg,hc,hne⟩:rowI t w' (a.tmps[59]?.getD undef) 2 0 1024 m.h:=by rw [gd];exact hD 59 (by simp)
 unfold Oper.wp execOp;simp only [List.map_toArray,List.map_cons,List.map_nil,Act.eval,Array.getD_eq_getD_getElem?,e59];exact hK.out _ _ hI.o (Below.refl _ _) (fun s hs=>by cases hs;exact ⟨g,rfl,hg,hc,hne⟩)
theorem qdl (t:Nat) (x:Mc) (m:Mh) (B:Nat) (w:World) (Q:Exit→Act→World→Prop) (a0:Act) (h1:a0.tmps.getD 1 undef=.pointer (some ⟨B,0,none⟩)) (hla:m.a.length≤9223372036854775807) (hr8:0≤m.r∧m.r<256) (ht:t<w.heap.size) (hA:∀ad,x.A=some ad→0<m.a.length→ad.block≠t) (hB:∀ad,x.B=some ad→0<m.l.length→ad.block≠t) (ty:TypeId) (ps:String) (af:Array Edge) :
  qj Tryz.prog Q (jn t (jr B x m)) (fun w'=>Sx w w' [fM B x m,fGM,fH x m]) a0 [1] { dst:=some 61,op:=Op.buildSlice 154 9 #[(0,Operand.tmp 9),(1,Operand.tmp 14),(2,Operand.tmp 24),(3,Operand.tmp 29),(4,Operand.tmp 35),(5,Operand.tmp 42),(6,Operand.tmp 48),(7,Operand.tmp 54),(8,Operand.tmp 60)],type:=ty,pos:=ps,after:=af,guard:=none } [9,14,24,29,35,42,48,54,60]:=by
 intro a w' hI0 hF hD K hK0;have hK:=zhy hK0;have hI:=zhy hI0;clear hK0 hI0;have q0:funI t w' (a.tmps[9]?.getD undef) 1 0 4 (m.a.length:Int):=by rw [gd];exact hD 9 (by simp)
 have q1:funU t w' (a.tmps[14]?.getD undef) 1 1 3 m.a:=by rw [gd];exact hD 14 (by simp)
 have q2:funI t w' (a.tmps[24]?.getD undef) 1 0 (16-m.a.length) (m.l.length:Int):=by rw [gd];exact hD 24 (by simp)
 have q3:funU t w' (a.tmps[29]?.getD undef) 1 1 3 m.l:=by rw [gd];exact hD 29 (by simp)
 have q4:funU t w' (a.tmps[35]?.getD undef) 1 1 2 [m.r]:=by rw [gd];exact hD 35 (by simp)
 have q5:funI t w' (a.tmps[42]?.getD undef) 1 0 1 (fl m.q):=by rw [gd];exact hD 42 (by simp)
 have q6:funI t w' (a.tmps[48]?.getD undef) 3 0 1048576 m.f:=by rw [gd];exact hD 48 (by simp)
 have q7:funI t w' (a.tmps[54]?.getD undef) 2 0 256 m.s:=by rw [gd];exact hD 54 (by simp)
 have q8:funI t w' (a.tmps[60]?.getD undef) 2 0 1024 m.h:=by rw [gd];exact hD 60 (by simp)
 generalize hv0:a.tmps[9]?.getD undef=v0 at q0;generalize hv1:a.tmps[14]?.getD undef=v1 at q1;generalize hv2:a.tmps[24]?.getD undef=v2 at q2;generalize hv3:a.tmps[29]?.getD undef=v3 at q3;generalize hv4:a.tmps[35]?.getD undef=v4 at q4;generalize hv5:a.tmps[42]?.getD undef=v5 at q5;generalize hv6:a.tmps[48]?.getD undef=v6 at q6;generalize hv7:a.tmps[54]?.getD undef=v7 at q7;generalize hv8:a.tmps[60]?.getD undef=v8 at q8;obtain ⟨r0,rfl⟩:=q0.form;obtain ⟨r1,rfl⟩:=q1.form;obtain ⟨r2,rfl⟩:=q2.form;obtain ⟨r3,rfl⟩:=q3.form;obtain ⟨r4,rfl⟩:=q4.form;obtain ⟨r5,rfl⟩:=q5.form;obtain ⟨r6,rfl⟩:=q6.form;obtain ⟨r7,rfl⟩:=q7.form;obtain ⟨r8,rfl⟩:=q8.form;clear hF hD;go_simp;exact hK.out _ _ (hI.o.mk1 _) qh (fun s hs=>by cases hs;exact ⟨w'.heap.size,rfl,zva (by have:=hI.o.1.size;omega) rfl (.inl ⟨_,rfl,q0⟩) (.inr q1) (.inl ⟨_,rfl,q2⟩) (.inr q3) (.inr q4) (.inl ⟨_,rfl,q5⟩) (.inl ⟨_,rfl,q6⟩) (.inl ⟨_,rfl,q7⟩) (.inl ⟨_,rfl,q8⟩) _⟩)
theorem qdu (t:Nat) (x:Mc) (m:Mh) (B:Nat) (w:World) (Q:Exit→Act→World→Prop) (a0:Act) (h1:a0.tmps.getD 1 undef=.pointer (some ⟨B,0,none⟩)) (hla:m.a.length≤9223372036854775807) (hr8:0≤m.r∧m.r<256) (ht:t<w.heap.size) (hA:∀ad,x.A=some ad→0<m.a.length→ad.block≠t) (hB:∀ad,x.B=some ad→0<m.l.length→ad.block≠t) (ty:TypeId) (ps:String) (af:Array Edge) :
  qj Tryz.prog Q (jn t (jr B x m)) (fun w'=>Sx w w' [fM B x m,fGM,fH x m]) a0 [1] { dst:=some 2,op:=Op.assign (Operand.tmp 61),type:=ty,pos:=ps,after:=af,guard:=none } [61]:=by
 intro a w' hI0 hF hD K hK0;have hK:=zhy hK0;have hI:=zhy hI0;clear hK0 hI0;unfold Oper.wp execOp;simp only [];exact hK.out _ _ hI.o (Below.refl _ _) (fun s hs=>by cases hs;exact hD 61 (by simp))
theorem zrl (t:Nat) (x:Mc) (m:Mh) (w:World) (hx:Hd w x m) (hw:GM w) (ht:t<w.heap.size) (hA:∀ad,x.A=some ad→0<m.a.length→ad.block≠t) (hB:∀ad,x.B=some ad→0<m.l.length→ad.block≠t):Calls Tryz.prog 88 #[mv x m] w fun e w'=>∃B,e=.returned (.slice (some ⟨B,0,none⟩) 9 9)∧zzi t w' B m∧Below w.heap.size w w':=by
 have hla:=hx.la;have hr8:=hx.2.2.1;have S0:=zhy ((((Sx.start w).add (fH x m) hx).add fGM hw).mkM x m);clear hx hw;go_enter Tryz.func88,Tryz.ntmps88;go_upto_region 1 with (fail);refine zfn (jn t (jr w.heap.size x m)) (fun w'=>Sx w w' [fM w.heap.size x m,fGM,fH x m]) [[],[],[4],[5],[6],[3,7],[8],[],[],[11],[10,12],[13],[],[15],[16],[17],[],[19],[20],[21],[18,22],[23],[],[],[26],[25,27],[28],[],[],[31],[32],[30,33],[34],[],[],[37],[38],[39],[36,40],[41],[],[],[44],[45],[43,46],[47],[],[],[50],[51],[49,52],[53],[],[],[56],[57],[55,58],[59],[9,14,24,29,35,42,48,54,60],[61]] [1] (by kernel_rfl) (by kernel_rfl) (fun s w w' v _ hb h=>zp4 hb h) (S0.o.drewN 1) ?_ ?_
 ·exact ⟨qf1 t x m w.heap.size w _ _ rfl hla hr8 ht hA hB _ _ _,qf5 t x m w.heap.size w _ _ rfl hla hr8 ht hA hB _ _ _,qfh t x m w.heap.size w _ _ rfl hla hr8 ht hA hB _ _ _,qfo t x m w.heap.size w _ _ rfl hla hr8 ht hA hB _ _ _,qfm t x m w.heap.size w _ _ rfl hla hr8 ht hA hB _ _ _,qfj t x m w.heap.size w _ _ rfl hla hr8 ht hA hB _ _ _,qf4 t x m w.heap.size w _ _ rfl hla hr8 ht hA hB _ _ _,qfz t x m w.heap.size w _ _ rfl hla hr8 ht hA hB _ _ _,qf3 t x m w.heap.size w _ _ rfl hla hr8 ht hA hB _ _ _,qfi t x m w.heap.size w _ _ rfl hla hr8 ht hA hB _ _ _,qe7 t x m w.heap.size w _ _ rfl hla hr8 ht hA hB _ _ _,qew t x m w.heap.size w _ _ rfl hla hr8 ht hA hB _ _ _,qei t x m w.heap.size w _ _ rfl hla hr8 ht hA hB _ _ _,qdw t x m w.heap.size w _ _ rfl hla hr8 ht hA hB _ _ _,qda t x m w.heap.size w _ _ rfl hla hr8 ht hA hB _ _ _,qee t x m w.heap.size w _ _ rfl hla hr8 ht hA hB _ _ _,qef t x m w.heap.size w _ _ rfl hla hr8 ht hA hB _ _ _,qd8 t x m w.heap.size w _ _ rfl hla hr8 ht hA hB _ _ _,qer t x m w.heap.size w _ _ rfl hla hr8 ht hA hB _ _ _,qe2 t x m w.heap.size w _ _ rfl hla hr8 ht hA hB _ _ _,qdi t x m w.heap.size w _ _ rfl hla hr8 ht hA hB _ _ _,qdq t x m w.heap.size w _ _ rfl hla hr8 ht hA hB _ _ _,qel t x m w.heap.size w _ _ rfl hla hr8 ht hA hB _ _ _,qdh t x m w.heap.size w _ _ rfl hla hr8 ht hA hB _ _ _,qd6 t x m w.heap.size w _ _ rfl hla hr8 ht hA hB _ _ _,qek t x m w.heap.size w _ _ rfl hla hr8 ht hA hB _ _ _,qes t x m w.heap.size w _ _ rfl hla hr8 ht hA hB _ _ _,qeg t x m w.heap.size w _ _ rfl hla hr8 ht hA hB _ _ _,qdf t x m w.heap.size w _ _ rfl hla hr8 ht hA hB _ _ _,qeq t x m w.heap.size w _ _ rfl hla hr8 ht hA hB _ _ _,qdr t x m w.heap.size w _ _ rfl hla hr8 ht hA hB _ _ _,qd5 t x m w.heap.size w _ _ rfl hla hr8 ht hA hB _ _ _,qep t x m w.heap.size w _ _ rfl hla hr8 ht hA hB _ _ _,qe0 t x m w.heap.size w _ _ rfl hla hr8 ht hA hB _ _ _,qed t x m w.heap.size w _ _ rfl hla hr8 ht hA hB _ _ _,qey t x m w.heap.size w _ _ rfl hla hr8 ht hA hB _ _ _,qd7 t x m w.heap.size w _ _ rfl hla hr8 ht hA hB _ _ _,qd4 t x m w.heap.size w _ _ rfl hla hr8 ht hA hB _ _ _,qc9 t x m w.heap.size w _ _ rfl hla hr8 ht hA hB _ _ _,qe1 t x m w.heap.size w _ _ rfl hla hr8 ht hA hB _ _ _,qev t x m w.heap.size w _ _ rfl hla hr8 ht hA hB _ _ _,qec t x m w.heap.size w _ _ rfl hla hr8 ht hA hB _ _ _,qe6 t x m w.heap.size w _ _ rfl hla hr8 ht hA hB _ _ _,qet t x m w.heap.size w _ _ rfl hla hr8 ht hA hB _ _ _,qdt t x m w.heap.size w _ _ rfl hla hr8 ht hA hB _ _ _,qem t x m w.heap.size w _ _ rfl hla hr8 ht hA hB _ _ _,qdm t x m w.heap.size w _ _ rfl hla hr8 ht hA hB _ _ _,qdx t x m w.heap.size w _ _ rfl hla hr8 ht hA hB _ _ _,qe3 t x m w.heap.size w _ _ rfl hla hr8 ht hA hB _ _ _,qe5 t x m w.heap.size w _ _ rfl hla hr8 ht hA hB _ _ _,qdy t x m w.heap.size w _ _ rfl hla hr8 ht hA hB _ _ _,qc7 t x m w.heap.size w _ _ rfl hla hr8 ht hA hB _ _ _,qdg t x m w.heap.size w _ _ rfl hla hr8 ht hA hB _ _ _,qd1 t x m w.heap.size w _ _ rfl hla hr8 ht hA hB _ _ _,qdd t x m w.heap.size w _ _ rfl hla hr8 ht hA hB _ _ _,qeh t x m w.heap.size w _ _ rfl hla hr8 ht hA hB _ _ _,qd3 t x m w.heap.size w _ _ rfl hla hr8 ht hA hB _ _ _,qdp t x m w.heap.size w _ _ rfl hla hr8 ht hA hB _ _ _,qdl t x m w.heap.size w _ _ rfl hla hr8 ht hA hB _ _ _,qdu t x m w.heap.size w _ _ rfl hla hr8 ht hA hB _ _ _,trivial⟩
 ·intro a' w' hI hsz hdf hfr hty;obtain ⟨B',hv,h9⟩:∃B,(a'.tmps.getD 2 undef)=.slice (some ⟨B,0,none⟩) 9 9∧zzi t w' B m:=hty _ (List.mem_of_getElem? (i:=59) rfl) 2 rfl;rw [←gd] at hv;obtain ⟨tm,df⟩:=a';obtain rfl:df=[]:=hdf;clear hty hfr hsz S0;go_wp2_with fail;exact bodyPost_ret (v:=.slice (some ⟨B',0,none⟩) 9 9) (by simp [results,Tryz.results88,go_sem,hv]) rfl ⟨B',rfl,h9,hI.1⟩
attribute [local go_sem] Oper.semAt_some
theorem zsn (n r:Nat) (x y z:Int) (A:Option Addr) (c:Nat) (l:List Int) (hl:l.length≤9223372036854775807) (It:Nat→World→Prop) (Jf:World→Prop) (W0:World)
  (hC:∀j W,It j W→(W.cell? ⟨W0.heap.size,0,none⟩=some (.int .i64 x)∧W.cell? ⟨W0.heap.size,1,none⟩=some (.int .i64 y)∧W.cell? ⟨W0.heap.size,2,none⟩=some (.int .i64 z)∧W.cell? ⟨W0.heap.size,3,none⟩=some (.slice A l.length c))∧Rd W A c l)
  (hY:∀j W (hj:j<l.length),It j W→YieldAt Fence.wide n Tryz.prog r #[fv x y z,.int .i64 l[j]] W fun e W'=>(e=.returned (.bool true)∧It (j+1) W')∨(e=.returned (.bool false)∧Jf W'))
  (h0:It 0 (W0.alloc (.cells #[.int .i64 x,.int .i64 y,.int .i64 z,.slice A l.length c] 231))) :
  CallsIn Fence.wide (n+1) Tryz.prog 152 #[.agg #[.int .i64 x,.int .i64 y,.int .i64 z,.slice A l.length c],.func (.yield r) #[] #[]] W0 fun e W'=>(∃v,e=.returned v)∧(It l.length W'∨Jf W'):=by
 have HC:=zhy hC;have HY:=zhy hY;have H0:=zhy h0;clear hC hY h0;refine callsIn_of_wp Tryz.func152 rfl trivial ?_ rfl;simp only [Tryz.ntmps152,List.size_toArray,List.length_cons,List.length_nil,Nat.reduceAdd,Nat.reduceSub,Array.replicate_succ,Array.replicate_zero,List.push_toArray,List.append_toArray,List.nil_append,List.cons_append];gi_wp2;gi_loopw [9] (fun i wr=>∃j:Nat,j≤l.length∧i=.int .i64 j∧Hid (It j wr)) (fun i _=>l.length-(intOf i).toNat)
 case atStart=>exact ⟨0,by omega,rfl,H0⟩
 case round =>
  obtain ⟨j,hj,rfl,HI⟩:=hrel;obtain ⟨⟨c0,c1,c2,c3⟩,hcell⟩:=HC.o _ _ HI.o;by_cases h1:j<l.length
  ·obtain ⟨ad,rfl,hc⟩:=hcell.at_ h1;have hbd:=hcell.byt _ (List.getElem_mem h1);rw [zg7 h1] at hc;simp only [Option.getD_some] at hc;obtain ⟨fn,tmps,assign,body,hy,hR3⟩:=HY.o j _ h1 HI.o;generalize l[j]=e1 at *;have HR3:=zhy hR3;clear hR3 HI;gi_wp2;refine HR3.o.mono ?_;rintro e W3 (⟨rfl,hI3⟩ | ⟨rfl,hJ⟩)
   ·have HI3:=zhy hI3;clear hI3;gi_wp2;go_roundw
    case rel=>exact ⟨j+1,by omega,by go_num,HI3⟩
    case measure=>simp [intOf];omega
   ·have HJ:=zhy hJ;clear hJ;gi_wp2;refine bodyPost_ret (results_none rfl _ _ _) rfl ?_;exact ⟨⟨_,rfl⟩,.inr HJ.o⟩
  ·obtain rfl:j=l.length:=by omega
   gi_wp2;refine bodyPost_end (results_none rfl _ _ _) rfl ?_;exact ⟨⟨_,rfl⟩,.inl HI.o⟩
theorem zpp (n r:Nat) (x y z:Int) (g:Nat) (e0:Int) (It:Nat→World→Prop) (Jf:World→Prop) (W0:World)
  (hC:∀j W,It j W→(W.cell? ⟨W0.heap.size,0,none⟩=some (.int .i64 x)∧W.cell? ⟨W0.heap.size,1,none⟩=some (.int .i64 y)∧W.cell? ⟨W0.heap.size,2,none⟩=some (.int .i64 z)∧W.cell? ⟨W0.heap.size,3,none⟩=some (.slice (some ⟨g,0,none⟩) 1 1))∧W.cell? ⟨g,0,none⟩=some (.int .i64 e0))
  (hY:∀W,It 0 W→YieldAt Fence.wide n Tryz.prog r #[fv x y z,.int .i64 e0] W fun e W'=>(e=.returned (.bool true)∧It 1 W')∨(e=.returned (.bool false)∧Jf W'))
  (h0:It 0 (W0.alloc (.cells #[.int .i64 x,.int .i64 y,.int .i64 z,.slice (some ⟨g,0,none⟩) 1 1] 227))) :
  CallsIn Fence.wide (n+1) Tryz.prog 150 #[.agg #[.int .i64 x,.int .i64 y,.int .i64 z,.slice (some ⟨g,0,none⟩) 1 1],.func (.yield r) #[] #[]] W0 fun e W'=>(∃v,e=.returned v)∧(It 1 W'∨Jf W'):=by
 have HC:=zhy hC;have HY:=zhy hY;have H0:=zhy h0;clear hC hY h0;refine callsIn_of_wp Tryz.func150 rfl trivial ?_ rfl;simp only [Tryz.ntmps150,List.size_toArray,List.length_cons,List.length_nil,Nat.reduceAdd,Nat.reduceSub,Array.replicate_succ,Array.replicate_zero,List.push_toArray,List.append_toArray,List.nil_append,List.cons_append];gi_wp2;gi_loopw [9] (fun i wr=>∃j:Nat,j≤1∧i=.int .i64 j∧Hid (It j wr)) (fun i _=>1-(intOf i).toNat)
 case atStart=>exact ⟨0,by omega,rfl,H0⟩
 case round =>
  obtain ⟨j,hj,rfl,HI⟩:=hrel;obtain ⟨⟨c0,c1,c2,c3⟩,hcell⟩:=HC.o _ _ HI.o;by_cases h1:j<1
  ·obtain rfl:j=0:=by omega
   obtain ⟨fn,tmps,assign,body,hy,hR3⟩:=HY.o _ HI.o;have HR3:=zhy hR3;clear hR3 HI;gi_wp2;refine HR3.o.mono ?_;rintro e W3 (⟨rfl,hI3⟩ | ⟨rfl,hJ⟩)
   ·have HI3:=zhy hI3;clear hI3;gi_wp2;go_roundw
    case rel=>exact ⟨1,by omega,by go_num,HI3⟩
    case measure=>simp [intOf]
   ·have HJ:=zhy hJ;clear hJ;gi_wp2;refine bodyPost_ret (results_none rfl _ _ _) rfl ?_;exact ⟨⟨_,rfl⟩,.inr HJ.o⟩
  ·obtain rfl:j=1:=by omega
   gi_wp2;refine bodyPost_end (results_none rfl _ _ _) rfl ?_;exact ⟨⟨_,rfl⟩,.inl HI.o⟩
theorem zg0 {n:Nat} {P:Program} {g:Operand} {ps:Array Tmp} {assign body:Code} {Q:Exit→Act→World→Prop} {a:Act} {w:World} (gf:Nat) (fi:Array Value)
  (hg:a.eval g=.func (.func gf) fi #[]) (eg:∀args w,(callFunc gf args).run P w=.ok (.enter gf args) w)
  (h:∀lp:Loop,lp.state=.ready→lp.pending=none→lp.tmps=a.tmps→lp.params=ps→lp.assign=assign→lp.body=body →
   CallsIn Fence.wide n P gf (fi++#[.func (.yield (w.heap.size+1)) #[] #[]]) ((w.alloc (.deferred (some []))).alloc (.loop lp)) (rangePost Fence.wide (n+1) P (w.heap.size+1) Q { a with defers:={ target:=.collected w.heap.size,args:=#[]}::a.defers })) :
  (Code.rangeFunc g ps assign body).wpIn Fence.wide (n+1) P Q a w:=by
 refine wpIn_rangeFunc fun fn hfn=>?_;obtain ⟨lp,hlp⟩:∃lp:Loop,lp={ state:=.ready,pending:=none,fn,tmps:=a.tmps,params:=ps,assign,body,defers:=w.heap.size }:=⟨_,rfl⟩
 refine ⟨w.heap.size+1,[{ target:=.collected w.heap.size,args:=#[]}],(w.alloc (.deferred (some []))).alloc (.loop lp),{ target:=.fn (.func gf) #[],args:=fi++#[.func (.yield (w.heap.size+1)) #[] #[]]},(w.alloc (.deferred (some []))).alloc (.loop lp),gf,
  fi++#[.func (.yield (w.heap.size+1)) #[] #[]],(w.alloc (.deferred (some []))).alloc (.loop lp),?_,?_,?_,?_,fun _=>(by omega),?_⟩
 ·rw [hlp];exact run_enterLoop_outer fn _ _ _ _
 ·simp only [resolve,hg];simp [go_sem]
 ·intro f' hf';exact trivial
 ·simp [invoke,go_sem,eg]
 ·exact h lp (by rw [hlp]) (by rw [hlp]) (by rw [hlp]) (by rw [hlp]) (by rw [hlp]) (by rw [hlp])
def mks (Ds:List Nat):List Deferred:=Ds.map fun D=>{ target:=.collected D,args:=#[]}
theorem zb1 {F:Fence} {n:Nat} {P:Program} {fn:Func} {tmps:Array Value} {R:Ending→World→Prop} (I:World→Prop):∀(Ds:List Nat) (W:World),I W→(∀D∈Ds,W.heap[D]?=some (.deferred (some [])))→Ds.Nodup →
  (∀W D,D∈Ds→W.heap[D]?=some (.deferred (some []))→I W→I (W.putObj D (.deferred none)))→(∀W',I W'→LeavesIn F n P fn tmps R [] .returning W')→LeavesInM F n P fn tmps R (mks Ds) .returning W
 | [],W,hI,_,_,_,hR=>hR W hI
 | D::Ds,W,hI,hD,hn,hp,hR=>by
  have h0:=hD D (by simp);have hn':=List.nodup_cons.1 hn;refine ⟨by simp,.inl ⟨D,_,rfl,run_takeDeferred h0,?_⟩⟩
  exact zb1 I Ds _ (hp W D (by simp) h0 hI) (fun E hE=>by
   rw [World.putObj_heap_other (fun e=>hn'.1 (by rw [←e];exact hE))];exact hD E (by simp [hE])) hn'.2 (fun W' E hE=>hp W' E (by simp [hE])) hR
theorem zek {lp:Loop} (h1:lp.state=.ready) (h2:lp.pending=none):({ lp with state:=if (none:Option Code).isNone=true then .ready else .done,pending:=none }:Loop)=lp:=by
 cases lp;simp at h1 h2 ⊢;exact ⟨h1.symm,h2.symm⟩
attribute [local go_sem] Oper.semAt_some
def okN (f:Int×Int×Int) (n:Int):Bool:=decide (f.2.1≤n)&&decide (n≤f.2.2)
def okF (f:(Int×Int×Int)×List Int):Bool:=f.2.all (okN f.1)
theorem zyz (m:Mh):mM m=(PT m).all okF:=by
 rw [Bool.eq_iff_iff,zbu];obtain ⟨a,l,r,q,f,s,h⟩:=m;simp only [PT,okF,List.all_cons,List.all_nil,Bool.and_true,okN,kO,Bool.and_eq_true,decide_eq_true_eq];have hq:0≤fl q∧fl q≤1:=by cases q<;>decide
 constructor
 ·rintro ⟨h1,h2,h3,h4,h5,h6,h7,h8⟩;refine ⟨by omega,h3,by omega,h4,h5,hq,h6,h7,h8⟩
 ·rintro ⟨h1,h3,h2,h4,h5,_,h6,h7,h8⟩;refine ⟨by omega,by omega,h3,h4,h5,h6,h7,h8⟩
def No7 (T r:Nat) (W W':World):Prop:=Boxed W' T 4 (.bool false)∧Below T W W'∧(∃lp:Loop,W'.heap[r]?=some (.loop lp)∧lp.state=.done∧lp.pending=some .ret)∧∀k,k≠T→k≠r→k<W.heap.size→W'.heap[k]?=W.heap[k]?
def At7 (T:Nat) (w2:World) (m:Mh) (j:Nat) (Ds:List Nat) (W:World):Prop:=
 Below w2.heap.size w2 W∧((PT m).take j).all okF=true∧(∀D∈Ds,W.heap[D]?=some (.deferred (some []))∧w2.heap.size≤D)∧Ds.Nodup
theorem zcp {w:World} {r:Nat} {o:Obj} {a:Addr} (h:a.block≠r):(w.putObj r o).cell? a=w.cell? a:=by
 simp only [World.cell?];rw [World.putObj_heap_other h]
theorem T3.putObj {w:World} {B r:Nat} {x y z:Int} (h:T3 w B x y z) (hr:B≠r) (o:Obj):T3 (w.putObj r o) B x y z:=
 ⟨by rw [World.putObj_size];exact h.1,(zcp hr).trans h.2.1,(zcp hr).trans h.2.2.1,(zcp hr).trans h.2.2.2⟩
theorem zam {w:World} {B r:Nat} {t:TypeId} {v:Value} (h:Boxed w B t v) (hr:B≠r) (o:Obj):Boxed (w.putObj r o) B t v:=(World.putObj_heap_other hr).trans h
theorem zlu {m:Mh} {j:Nat} {f:(Int×Int×Int)×List Int} (h:(PT m)[j]?=some f) (ht:((PT m).take j).all okF=true):((PT m).take (j+1)).all okF=okF f:=by
 rw [List.take_add_one,List.all_append,ht,h];simp
theorem zjy (m:Mh):(PT m).length=9:=rfl
theorem qar {m:Mh} {j:Nat} {f:(Int×Int×Int)×List Int} (h:(PT m)[j]?=some f) (hf:okF f=false):mM m=false:=by
 rw [zyz,List.all_eq_false];exact ⟨f,List.mem_of_getElem? h,by rw [hf];decide⟩
def qf2 (x:Mc) (m:Mh) (w w2:World) (B9:Nat) (a:Act) (W:World):Prop:=∃(j:Nat) (u3 u4 u5 u6 u7 u11 u12 u13 u14 u15 u16 u17 u18 u19 u20 u21:Value) (Ds:List Nat),j≤9∧a={ tmps:=#[mv x m,.pointer (some ⟨w.heap.size,0,none⟩),.pointer (some ⟨w.heap.size+1,0,none⟩),u3,u4,u5,u6,u7,.slice (some ⟨B9,0,none⟩) 9 9,.int .i64 9,.int .i64 j,u11,u12,u13,u14,u15,u16,u17,u18,u19,u20,u21],defers:=mks Ds }∧At7 (w.heap.size+1) w2 m j Ds W
theorem zk0 (T:Nat) (w:World) (b:Bool) (Ds:List Nat) (tm:Array Value) (W:World) (ht:tm[2]?=some (.pointer (some ⟨T,0,none⟩))) (hTw:w.heap.size<T) (hT:Boxed W T 4 (.bool b)) (hB:Below w.heap.size w W) (hD:∀D∈Ds,W.heap[D]?=some (.deferred (some []))∧T<D) (hn:Ds.Nodup) {v:Bool} (hv:b=v) :
  LeavesInM Fence.wide 3 Tryz.prog Tryz.f47 tm (fun e w'=>e=.returned (.bool v)∧Below w.heap.size w w') (mks Ds) .returning W:=by
 subst hv;refine zb1 (fun X=>Boxed X T 4 (.bool b)∧Below w.heap.size w X) Ds W ⟨hT,hB⟩ (fun D hd=>(hD D hd).1) hn (fun X D hd _ hI=>?_) (fun X hI=>?_)
 ·have hTD:=(hD D hd).2;refine ⟨zam hI.1 (by omega) _,?_⟩;have h2:=hI.2;exact ⟨h2.os,h2.tape,h2.output,by rw [World.putObj_size];exact h2.size,fun k hk=>(World.putObj_heap_other (by omega)).trans (h2.block k hk)⟩
 ·have c1:=hI.1.cell;have t2:tm[2]?.getD undef=.pointer (some ⟨T,0,none⟩):=by rw [ht];rfl
  simp [LeavesIn,results,Tryz.results47,go_sem,c1,t2];exact hI.2
theorem zxa (x:Mc) (m:Mh) (v:Bool) (w:World) (hx:Hd w x m) (hw:GM w) (hv:mM m=v):Calls Tryz.prog 47 #[mv x m] w fun e w'=>e=.returned (.bool v)∧Below w.heap.size w w':=by
 have HV:=zhy hv;have hb00:Below w.heap.size w ((w.alloc (zbk x m)).alloc (.cells #[.bool false] 4)):=qh.alloc (by simp) _;have hT0:=Boxed.new (w.alloc (zbk x m)) 4 (.bool false);rw [qn] at hT0;have KP:=zhy (zrl (w.heap.size+1) x m _ (hx.keep hb00) (hw.keep hb00) (by simp) (fun ad h0 h1=>by have:=zni hx.1 h0 h1;omega) (fun ad h0 h1=>by have:=zni hx.2.1 h0 h1;omega));have HT0:=zhy hT0;clear hx hw hv hb00 hT0;refine (callsIn_wide (n:=3)).1 ?_;refine callsIn_of_wp_marks Tryz.func47 rfl trivial ?_ rfl;simp only [Tryz.ntmps47,List.size_toArray,List.length_cons,List.length_nil,Nat.reduceAdd,Nat.reduceSub,Array.replicate_succ,Array.replicate_zero,List.push_toArray,List.append_toArray,List.nil_append,List.cons_append];gi_wp2_with (refine ⟨trivial,?_⟩;gi_at_call 88;refine (callsIn_wide.2 KP.o).mono ?_;rintro e w2 ⟨B9,rfl,h9,hb2⟩);have HT2:Hid (Boxed w2 (w.heap.size+1) 4 (.bool false)):=zhy ((hb2.block _ (by simp)).trans HT0.o);have HB2:Hid (Below w.heap.size w w2):=zhy (qc (qh.alloc (by simp) _) hb2);have hT2:w.heap.size+2≤w2.heap.size:=by have:=hb2.size;simpa using this
 have H9:=zhy h9;clear h9 hb2 KP HT0
 refine wpIn_loop (qf2 x m w w2 B9)
  (fun a _=>9-(intOf (a.tmps.getD 10 undef)).toNat) ?_ ?_
 ·exact ⟨0,_,_,_,_,_,_,_,_,_,_,_,_,_,_,_,_,[],by omega,rfl,⟨Below.refl _ _,rfl,fun D hD=>(by cases hD),List.nodup_nil⟩⟩
 ·rintro a W ⟨j,u3,u4,u5,u6,u7,u11,u12,u13,u14,u15,u16,u17,u18,u19,u20,u21,Ds,hj,rfl,hA⟩;have HA:=zhy hA;clear hA;by_cases h1:j<9
  ·obtain ⟨f,hf⟩:∃f,(PT m)[j]?=some f:=⟨_,zg7 (by rw [zjy];exact h1)⟩;obtain ⟨⟨fx,fy,fz⟩,ns⟩:=f;obtain ⟨fvv,hfc,hfp⟩:=(H9.o.keep HA.o.1).2.2 j _ hf;have hb9:=H9.o.1;have HF:=zhy hf;clear hf;have hT:=HT2.o;have hTW:Boxed W (w.heap.size+1) 4 (.bool false):=(HA.o.1.block _ (by omega)).trans hT;have HTW:=zhy hTW;have hsz2:=HA.o.1.size;clear hT hTW;have hmk:∀lp:Loop,lp.state=.ready→lp.pending=none→True:=fun _ _ _=>trivial;rcases hfp with ⟨e0,hns,g0,rfl,hg1,hg2,hg3⟩ | ⟨A0,c0,rfl,hrd,hne⟩
   ·dsimp only at hns;subst hns;gi_wp2;refine zg0 150 #[.agg #[.int .i64 fx,.int .i64 fy,.int .i64 fz,.slice (some ⟨g0,0,none⟩) 1 1]] rfl (enters_of Tryz.func150 (by kernel_rfl) rfl) (fun lp q1 q2 q3 q4 q5 q6=>?_)
    have hY:∀Wc n0,Wc.heap[W.heap.size+1]?=some (.loop lp)→Boxed Wc (w.heap.size+1) 4 (.bool false)→YieldAt Fence.wide 1 Tryz.prog (W.heap.size+1) #[fv fx fy fz,.int .i64 n0] Wc fun e W' =>
      (e=.returned (.bool true)∧okN (fx,fy,fz) n0=true∧Below Wc.heap.size Wc W')∨(e=.returned (.bool false)∧okN (fx,fy,fz) n0=false∧No7 (w.heap.size+1) (W.heap.size+1) Wc W'):=by
     intro Wc n0 hlp hTc
     have hy:=run_yield (P:=Tryz.prog) (args:=#[fv fx fy fz,.int .i64 n0]) hlp (by rw [q4];rfl)
     rw [q3,q4,q5,q6] at hy
     refine ⟨_,_,_,_,hy,roundIn_of_wpIn trivial ?_⟩
     have hlp1:(Wc.alloc (.cells #[.int .i64 fx,.int .i64 fy,.int .i64 fz] 159)).heap[W.heap.size+1]?=some (.loop lp):=(Below.heap_alloc _ _ _ (zg9.1 hlp).1).trans hlp
     have hrun:=run_beginRound (P:=Tryz.prog) hlp1 q1
     have HLP:=zhy hlp
     have HTC:=zhy hTc
     have Q1:=zhy q1
     have Q2:=zhy q2
     clear hy q1 q2 q3 q4 q5 q6 hlp1 hlp hTc hfc
     gi_wp2
     refine ⟨_,hrun,?_⟩
     clear hrun
     have hrT:w.heap.size+1≠W.heap.size+1:=by omega
     have hrl:=(zg9.1 HLP.o).1
     have hP:Hid (T3 ((Wc.alloc (.cells #[.int .i64 fx,.int .i64 fy,.int .i64 fz] 159)).putObj (W.heap.size+1) (.loop { lp with state:=.busy })) Wc.heap.size fx fy fz∧Boxed ((Wc.alloc (.cells #[.int .i64 fx,.int .i64 fy,.int .i64 fz] 159)).putObj (W.heap.size+1) (.loop { lp with state:=.busy })) (w.heap.size+1) 4 (.bool false) ∧
       ((Wc.alloc (.cells #[.int .i64 fx,.int .i64 fy,.int .i64 fz] 159)).putObj (W.heap.size+1) (.loop { lp with state:=.busy })).heap[W.heap.size+1]?=some (.loop { lp with state:=.busy })∧(Below (w.heap.size+1) Wc ((Wc.alloc (.cells #[.int .i64 fx,.int .i64 fy,.int .i64 fz] 159)).putObj (W.heap.size+1) (.loop { lp with state:=.busy }))) ∧
       (∀k,k≠W.heap.size+1→k<Wc.heap.size→((Wc.alloc (.cells #[.int .i64 fx,.int .i64 fy,.int .i64 fz] 159)).putObj (W.heap.size+1) (.loop { lp with state:=.busy })).heap[k]?=Wc.heap[k]?)∧Wc.heap.size<((Wc.alloc (.cells #[.int .i64 fx,.int .i64 fy,.int .i64 fz] 159)).putObj (W.heap.size+1) (.loop { lp with state:=.busy })).heap.size):=by
      have hbb:Below Wc.heap.size Wc (Wc.alloc (.cells #[.int .i64 fx,.int .i64 fy,.int .i64 fz] 159)):=qh
      refine ⟨(T3.new Wc fx fy fz _).putObj (by omega) _,zam (HTC.o.alloc _) hrT _,World.putObj_heap_same (by simp;omega),?_,fun k hk hl=>(World.putObj_heap_other hk).trans (hbb.block k hl),by rw [World.putObj_size];simp⟩
      have h1:=hbb.mono (show w.heap.size+1≤Wc.heap.size by omega)
      exact ⟨h1.os,h1.tape,h1.output,by rw [World.putObj_size];exact h1.size,fun k hk=>(World.putObj_heap_other (by omega)).trans (h1.block k hk)⟩
     generalize (Wc.alloc (.cells #[.int .i64 fx,.int .i64 fy,.int .i64 fz] 159)).putObj (W.heap.size+1) (.loop { lp with state:=.busy })=Wp at hP ⊢
     obtain ⟨t0,t1,t2,t3⟩:=hP.o.1
     gi_wp2
     refine ⟨trivial,?_⟩
     refine (CallsIn.inRound _ (callsIn_wide.2 (zxb fx fy fz n0 Wp))).mono ?_
     rintro e W3 ⟨rfl,hb3⟩
     have hP3:Hid (Boxed W3 (w.heap.size+1) 4 (.bool false)∧W3.heap[W.heap.size+1]?=some (.loop { lp with state:=.busy })∧Below (w.heap.size+1) Wc W3∧(∀k,k≠W.heap.size+1→k<Wc.heap.size→W3.heap[k]?=Wc.heap[k]?)∧Wc.heap.size<W3.heap.size):=by
      obtain ⟨-,a1,a2,a3,a4,a5⟩:=hP.o;exact ⟨(hb3.block _ (by omega)).trans a1,(hb3.block _ (by omega)).trans a2,a3.trans (hb3.mono (by omega)),fun k hk hl=>(hb3.block k (by omega)).trans (a4 k hk hl),by have:=hb3.size;omega⟩
     clear hb3 hP t0 t1 t2 t3
     rw [show (decide (fy≤n0)&&decide (n0≤fz))=okN (fx,fy,fz) n0 from rfl]
     have hTb:=hP3.o.1
     have hTc1:=hTb.cell
     have hTf1:=hTb.frozen
     cases hok:okN (fx,fy,fz) n0 with
     | true =>
      gi_wp2
      obtain ⟨b1,b2,b3,b4,b5⟩:=hP3.o
      refine ⟨_,_,run_endRound none b2,.inl ⟨rfl,hok,?_⟩⟩
      have hlp':({ ({ lp with state:=.busy }:Loop) with state:=if (none:Option Code).isNone=true then .ready else .done,pending:=none }:Loop)=lp:=zek Q1.o Q2.o
      rw [hlp']
      refine ⟨b3.os,b3.tape,b3.output,by rw [World.putObj_size];omega,fun k hk=>?_⟩
      by_cases hkr:k=W.heap.size+1
      ·rw [hkr,World.putObj_heap_same (by omega)];exact HLP.o.symm
      ·rw [World.putObj_heap_other hkr];exact b4 k hkr hk
     | false =>
      gi_wp2
      obtain ⟨b1,b2,b3,b4,b5⟩:=hP3.o
      have b2':(W3.setCell ⟨w.heap.size+1,0,none⟩ (.bool false)).heap[W.heap.size+1]?=some (.loop { lp with state:=.busy }):=(Below.heap_setCell W3 ⟨w.heap.size+1,0,none⟩ (.bool false) (W.heap.size+1) (by show W.heap.size+1≠w.heap.size+1;omega)).trans b2
      refine ⟨_,_,run_endRound (some .ret) b2',.inr ⟨rfl,hok,zam (b1.set _) hrT _,?_,⟨_,World.putObj_heap_same (by simp;omega),rfl,rfl⟩,fun k hk hkr hl=>?_⟩⟩
      ·have h1:=b3.setCell (p:=⟨w.heap.size+1,0,none⟩) (Nat.le_refl _) (.bool false)
       exact ⟨h1.os,h1.tape,h1.output,by rw [World.putObj_size];exact h1.size,fun k hk=>(World.putObj_heap_other (by omega)).trans (h1.block k hk)⟩
      ·rw [World.putObj_heap_other hkr]
       exact (Below.heap_setCell W3 ⟨w.heap.size+1,0,none⟩ (.bool false) k hk).trans (b4 k hkr hl)
    have hrn:((W.alloc (.deferred (some []))).alloc (.loop lp)).heap[W.heap.size+1]?=some (.loop lp):=by have:=World.alloc_heap_new (W.alloc (.deferred (some []))) (.loop lp);rwa [qn] at this
    have hdn:((W.alloc (.deferred (some []))).alloc (.loop lp)).heap[W.heap.size]?=some (.deferred (some [])):=(Below.heap_alloc _ _ _ (by simp)).trans (World.alloc_heap_new W _);have hbl:Below W.heap.size W ((W.alloc (.deferred (some []))).alloc (.loop lp)):=qh.alloc (by simp) _;have hsl:((W.alloc (.deferred (some []))).alloc (.loop lp)).heap.size=W.heap.size+1+1:=by simp
    generalize (W.alloc (.deferred (some []))).alloc (.loop lp)=Wl at hrn hdn hbl hsl ⊢;have hbb:Below Wl.heap.size Wl (Wl.alloc (.cells #[.int .i64 fx,.int .i64 fy,.int .i64 fz,.slice (some ⟨g0,0,none⟩) 1 1] 227)):=qh;have hwb:Wl.heap.size<(Wl.alloc (.cells #[.int .i64 fx,.int .i64 fy,.int .i64 fz,.slice (some ⟨g0,0,none⟩) 1 1] 227)).heap.size:=by simp
    have hbc:((Wl.alloc (.cells #[.int .i64 fx,.int .i64 fy,.int .i64 fz,.slice (some ⟨g0,0,none⟩) 1 1] 227)).cell? ⟨Wl.heap.size,0,none⟩=some (.int .i64 fx)∧(Wl.alloc (.cells #[.int .i64 fx,.int .i64 fy,.int .i64 fz,.slice (some ⟨g0,0,none⟩) 1 1] 227)).cell? ⟨Wl.heap.size,1,none⟩=some (.int .i64 fy)∧(Wl.alloc (.cells #[.int .i64 fx,.int .i64 fy,.int .i64 fz,.slice (some ⟨g0,0,none⟩) 1 1] 227)).cell? ⟨Wl.heap.size,2,none⟩=some (.int .i64 fz)∧(Wl.alloc (.cells #[.int .i64 fx,.int .i64 fy,.int .i64 fz,.slice (some ⟨g0,0,none⟩) 1 1] 227)).cell? ⟨Wl.heap.size,3,none⟩=some (.slice (some ⟨g0,0,none⟩) 1 1)):=by
     refine ⟨?_,?_,?_,?_⟩<;>simp [go_sem]
    have HRN:Hid ((Wl.alloc (.cells #[.int .i64 fx,.int .i64 fy,.int .i64 fz,.slice (some ⟨g0,0,none⟩) 1 1] 227)).heap[W.heap.size+1]?=some (.loop lp)∧Boxed (Wl.alloc (.cells #[.int .i64 fx,.int .i64 fy,.int .i64 fz,.slice (some ⟨g0,0,none⟩) 1 1] 227)) (w.heap.size+1) 4 (.bool false)∧(Wl.alloc (.cells #[.int .i64 fx,.int .i64 fy,.int .i64 fz,.slice (some ⟨g0,0,none⟩) 1 1] 227)).heap[W.heap.size]?=some (.deferred (some []))):=
     ⟨(hbb.block _ (by omega)).trans hrn,(hbb.block _ (by omega)).trans ((hbl.block _ (by omega)).trans HTW.o),(hbb.block _ (by omega)).trans hdn⟩
    have HWW:Hid (Below W.heap.size W (Wl.alloc (.cells #[.int .i64 fx,.int .i64 fy,.int .i64 fz,.slice (some ⟨g0,0,none⟩) 1 1] 227))):=hbl.trans (hbb.mono (by omega));have hrb:W.heap.size+1<Wl.heap.size:=by omega
    refine (zpp 1 (W.heap.size+1) fx fy fz g0 e0 (fun i W'=>Below (Wl.alloc (.cells #[.int .i64 fx,.int .i64 fy,.int .i64 fz,.slice (some ⟨g0,0,none⟩) 1 1] 227)).heap.size (Wl.alloc (.cells #[.int .i64 fx,.int .i64 fy,.int .i64 fz,.slice (some ⟨g0,0,none⟩) 1 1] 227)) W'∧(i=1→okN (fx,fy,fz) e0=true)) (fun W'=>okN (fx,fy,fz) e0=false∧∃We,Below (Wl.alloc (.cells #[.int .i64 fx,.int .i64 fy,.int .i64 fz,.slice (some ⟨g0,0,none⟩) 1 1] 227)).heap.size (Wl.alloc (.cells #[.int .i64 fx,.int .i64 fy,.int .i64 fz,.slice (some ⟨g0,0,none⟩) 1 1] 227)) We∧No7 (w.heap.size+1) (W.heap.size+1) We W') Wl
     (fun i W' h=>⟨⟨(h.1.cell hwb).trans hbc.1,(h.1.cell hwb).trans hbc.2.1,(h.1.cell hwb).trans hbc.2.2.1,(h.1.cell hwb).trans hbc.2.2.2⟩,(h.1.cell (by show g0<_;omega)).trans ((HWW.o.cell (by show g0<_;exact hg1)).trans hg2)⟩)
     (fun W' h=>(hY W' e0 ((h.1.block _ (by omega)).trans HRN.o.1) ((h.1.block _ (by omega)).trans HRN.o.2.1)) |> fun ⟨a1,a2,a3,a4,a5,a6⟩=>⟨a1,a2,a3,a4,a5,a6.mono fun e W'' hh=>hh.elim (fun q=>.inl ⟨q.1,h.1.trans (q.2.2.mono h.1.size),fun _=>q.2.1⟩) (fun q=>.inr ⟨q.1,q.2.1,W',h.1,q.2.2⟩)⟩)
     ⟨Below.refl _ _,fun h=>by cases h⟩).mono ?_
    rintro e W4 ⟨⟨v4,rfl⟩,hI4 | hJ4⟩
    ·obtain ⟨hb4,hk4⟩:=hI4;have HOK:Hid (okF ((fx,fy,fz),[e0])=true):=by unfold Hid okF;simpa using hk4 rfl
     have hl4:W4.heap[W.heap.size+1]?=some (.loop lp):=(hb4.block _ (by omega)).trans HRN.o.1;have hend:=run_endLoop (P:=Tryz.prog) hl4 (by rw [q1];simp);rw [q2] at hend;refine ⟨none,_,hend,?_⟩
     have H7:Hid (At7 (w.heap.size+1) w2 m (j+1) (W.heap.size::Ds) (W4.putObj (W.heap.size+1) (.loop { lp with state:=.exhausted,pending:=none }))):=by
      obtain ⟨a1,a2,a3,a4⟩:=HA.o;have hW4:Below W.heap.size W W4:=HWW.o.trans (hb4.mono (by omega));have hW5:∀k,k<W.heap.size+1→(W4.putObj (W.heap.size+1) (.loop { lp with state:=.exhausted,pending:=none })).heap[k]?=W4.heap[k]?:=fun k hk=>World.putObj_heap_other (by omega);refine ⟨?_,(zlu HF.o a2).trans HOK.o,fun D hD=>?_,List.nodup_cons.2 ⟨fun h=>?_,a4⟩⟩
      ·have:=a1.trans (hW4.mono hsz2);exact ⟨this.os,this.tape,this.output,by rw [World.putObj_size];exact this.size,fun k hk=>(hW5 k (by omega)).trans (this.block k hk)⟩
      ·rcases List.mem_cons.1 hD with rfl | hD
       ·exact ⟨(hW5 _ (by omega)).trans ((hb4.block _ (by omega)).trans HRN.o.2.2),hsz2⟩
       ·have hlt:=(zg9.1 (a3 D hD).1).1;exact ⟨(hW5 D (by omega)).trans ((hW4.block D hlt).trans (a3 D hD).1),(a3 D hD).2⟩
      ·have hlt:=(zg9.1 (a3 _ h).1).1;omega
     generalize W4.putObj (W.heap.size+1) (.loop { lp with state:=.exhausted,pending:=none })=W5 at H7 ⊢;clear hend hl4 hb4 hk4 HRN HWW hbb hbc hwb hY;dsimp only;gi_wp2;exact ⟨⟨j+1,_,_,_,_,_,_,_,_,_,_,_,_,_,_,_,_,(W.heap.size::Ds),by omega,rfl,H7.o⟩,by simp [intOf];omega⟩
    ·obtain ⟨hno,We,hbe,hn1,hn2,⟨lq,hn3,hn4,hn5⟩,hn6⟩:=hJ4;have HOK:Hid (mM m=false):=qar HF.o (by unfold okF;simpa using hno);have hend:=run_endLoop (P:=Tryz.prog) hn3 (by rw [hn4];simp);rw [hn5] at hend;refine ⟨some .ret,_,hend,?_⟩
     have H7:Hid ((Boxed (W4.putObj (W.heap.size+1) (.loop { lq with state:=.exhausted,pending:=some .ret })) (w.heap.size+1) 4 (.bool false)∧Below w.heap.size w (W4.putObj (W.heap.size+1) (.loop { lq with state:=.exhausted,pending:=some .ret })))∧(∀D∈W.heap.size::Ds,(W4.putObj (W.heap.size+1) (.loop { lq with state:=.exhausted,pending:=some .ret })).heap[D]?=some (.deferred (some []))∧w2.heap.size≤D)∧(W.heap.size::Ds).Nodup):=by
      obtain ⟨a1,a2,a3,a4⟩:=HA.o;have hW5:∀k,k<W.heap.size+1→(W4.putObj (W.heap.size+1) (.loop { lq with state:=.exhausted,pending:=some .ret })).heap[k]?=W4.heap[k]?:=fun k hk=>World.putObj_heap_other (by omega);have hse:=hbe.size;refine ⟨⟨zam hn1 (by omega) _,?_⟩,fun D hD=>?_,List.nodup_cons.2 ⟨fun h=>?_,a4⟩⟩
      ·have h1:Below w.heap.size w We:=(HB2.o.trans (a1.mono (by omega))).trans ((HWW.o.mono (by omega)).trans (hbe.mono (by omega)));have h2:=h1.trans (hn2.mono (by omega));exact ⟨h2.os,h2.tape,h2.output,by rw [World.putObj_size];exact h2.size,fun k hk=>(hW5 k (by omega)).trans (h2.block k hk)⟩
      ·rcases List.mem_cons.1 hD with rfl | hD
       ·exact ⟨(hW5 _ (by omega)).trans ((hn6 _ (by omega) (by omega) (by omega)).trans ((hbe.block _ (by omega)).trans HRN.o.2.2)),hsz2⟩
       ·have hlt:=(zg9.1 (a3 D hD).1).1;have h3:=(a3 D hD).2;exact ⟨(hW5 D (by omega)).trans ((hn6 D (by omega) (by omega) (by omega)).trans ((hbe.block D (by omega)).trans ((HWW.o.block D hlt).trans (a3 D hD).1))),h3⟩
      ·have hlt:=(zg9.1 (a3 _ h).1).1;omega
     generalize W4.putObj (W.heap.size+1) (.loop { lq with state:=.exhausted,pending:=some .ret })=W5 at H7 ⊢;clear hend hn1 hn2 hn3 hn4 hn5 hn6 hbe HRN HWW hbb hbc hwb hY;dsimp only;gi_wp2;refine (show LeavesInM Fence.wide 3 Tryz.prog _ _ _ (mks (W.heap.size::Ds)) .returning W5 from ?_);refine zk0 (w.heap.size+1) w false (W.heap.size::Ds) _ W5 (by rfl) (by omega) H7.o.1.1 H7.o.1.2 (fun D hD=>⟨(H7.o.2.1 D hD).1,by have:=(H7.o.2.1 D hD).2;omega⟩) H7.o.2.2 ?_;rw [←HV.o,HOK.o]
   ·dsimp only at hrd hne;gi_wp2;refine zg0 152 #[.agg #[.int .i64 fx,.int .i64 fy,.int .i64 fz,.slice A0 ns.length c0]] rfl (enters_of Tryz.func152 (by kernel_rfl) rfl) (fun lp q1 q2 q3 q4 q5 q6=>?_)
    have hY:∀Wc n0,Wc.heap[W.heap.size+1]?=some (.loop lp)→Boxed Wc (w.heap.size+1) 4 (.bool false)→YieldAt Fence.wide 1 Tryz.prog (W.heap.size+1) #[fv fx fy fz,.int .i64 n0] Wc fun e W' =>
      (e=.returned (.bool true)∧okN (fx,fy,fz) n0=true∧Below Wc.heap.size Wc W')∨(e=.returned (.bool false)∧okN (fx,fy,fz) n0=false∧No7 (w.heap.size+1) (W.heap.size+1) Wc W'):=by
     intro Wc n0 hlp hTc
     have hy:=run_yield (P:=Tryz.prog) (args:=#[fv fx fy fz,.int .i64 n0]) hlp (by rw [q4];rfl)
     rw [q3,q4,q5,q6] at hy
     refine ⟨_,_,_,_,hy,roundIn_of_wpIn trivial ?_⟩
     have hlp1:(Wc.alloc (.cells #[.int .i64 fx,.int .i64 fy,.int .i64 fz] 159)).heap[W.heap.size+1]?=some (.loop lp):=(Below.heap_alloc _ _ _ (zg9.1 hlp).1).trans hlp
     have hrun:=run_beginRound (P:=Tryz.prog) hlp1 q1
     have HLP:=zhy hlp
     have HTC:=zhy hTc
     have Q1:=zhy q1
     have Q2:=zhy q2
     clear hy q1 q2 q3 q4 q5 q6 hlp1 hlp hTc hfc
     gi_wp2
     refine ⟨_,hrun,?_⟩
     clear hrun
     have hrT:w.heap.size+1≠W.heap.size+1:=by omega
     have hrl:=(zg9.1 HLP.o).1
     have hP:Hid (T3 ((Wc.alloc (.cells #[.int .i64 fx,.int .i64 fy,.int .i64 fz] 159)).putObj (W.heap.size+1) (.loop { lp with state:=.busy })) Wc.heap.size fx fy fz∧Boxed ((Wc.alloc (.cells #[.int .i64 fx,.int .i64 fy,.int .i64 fz] 159)).putObj (W.heap.size+1) (.loop { lp with state:=.busy })) (w.heap.size+1) 4 (.bool false) ∧
       ((Wc.alloc (.cells #[.int .i64 fx,.int .i64 fy,.int .i64 fz] 159)).putObj (W.heap.size+1) (.loop { lp with state:=.busy })).heap[W.heap.size+1]?=some (.loop { lp with state:=.busy })∧(Below (w.heap.size+1) Wc ((Wc.alloc (.cells #[.int .i64 fx,.int .i64 fy,.int .i64 fz] 159)).putObj (W.heap.size+1) (.loop { lp with state:=.busy }))) ∧
       (∀k,k≠W.heap.size+1→k<Wc.heap.size→((Wc.alloc (.cells #[.int .i64 fx,.int .i64 fy,.int .i64 fz] 159)).putObj (W.heap.size+1) (.loop { lp with state:=.busy })).heap[k]?=Wc.heap[k]?)∧Wc.heap.size<((Wc.alloc (.cells #[.int .i64 fx,.int .i64 fy,.int .i64 fz] 159)).putObj (W.heap.size+1) (.loop { lp with state:=.busy })).heap.size):=by
      have hbb:Below Wc.heap.size Wc (Wc.alloc (.cells #[.int .i64 fx,.int .i64 fy,.int .i64 fz] 159)):=qh
      refine ⟨(T3.new Wc fx fy fz _).putObj (by omega) _,zam (HTC.o.alloc _) hrT _,World.putObj_heap_same (by simp;omega),?_,fun k hk hl=>(World.putObj_heap_other hk).trans (hbb.block k hl),by rw [World.putObj_size];simp⟩
      have h1:=hbb.mono (show w.heap.size+1≤Wc.heap.size by omega)
      exact ⟨h1.os,h1.tape,h1.output,by rw [World.putObj_size];exact h1.size,fun k hk=>(World.putObj_heap_other (by omega)).trans (h1.block k hk)⟩
     generalize (Wc.alloc (.cells #[.int .i64 fx,.int .i64 fy,.int .i64 fz] 159)).putObj (W.heap.size+1) (.loop { lp with state:=.busy })=Wp at hP ⊢
     obtain ⟨t0,t1,t2,t3⟩:=hP.o.1
     gi_wp2
     refine ⟨trivial,?_⟩
     refine (CallsIn.inRound _ (callsIn_wide.2 (zxb fx fy fz n0 Wp))).mono ?_
     rintro e W3 ⟨rfl,hb3⟩
     have hP3:Hid (Boxed W3 (w.heap.size+1) 4 (.bool false)∧W3.heap[W.heap.size+1]?=some (.loop { lp with state:=.busy })∧Below (w.heap.size+1) Wc W3∧(∀k,k≠W.heap.size+1→k<Wc.heap.size→W3.heap[k]?=Wc.heap[k]?)∧Wc.heap.size<W3.heap.size):=by
      obtain ⟨-,a1,a2,a3,a4,a5⟩:=hP.o;exact ⟨(hb3.block _ (by omega)).trans a1,(hb3.block _ (by omega)).trans a2,a3.trans (hb3.mono (by omega)),fun k hk hl=>(hb3.block k (by omega)).trans (a4 k hk hl),by have:=hb3.size;omega⟩
     clear hb3 hP t0 t1 t2 t3
     rw [show (decide (fy≤n0)&&decide (n0≤fz))=okN (fx,fy,fz) n0 from rfl]
     have hTb:=hP3.o.1
     have hTc1:=hTb.cell
     have hTf1:=hTb.frozen
     cases hok:okN (fx,fy,fz) n0 with
     | true =>
      gi_wp2
      obtain ⟨b1,b2,b3,b4,b5⟩:=hP3.o
      refine ⟨_,_,run_endRound none b2,.inl ⟨rfl,hok,?_⟩⟩
      have hlp':({ ({ lp with state:=.busy }:Loop) with state:=if (none:Option Code).isNone=true then .ready else .done,pending:=none }:Loop)=lp:=zek Q1.o Q2.o
      rw [hlp']
      refine ⟨b3.os,b3.tape,b3.output,by rw [World.putObj_size];omega,fun k hk=>?_⟩
      by_cases hkr:k=W.heap.size+1
      ·rw [hkr,World.putObj_heap_same (by omega)];exact HLP.o.symm
      ·rw [World.putObj_heap_other hkr];exact b4 k hkr hk
     | false =>
      gi_wp2
      obtain ⟨b1,b2,b3,b4,b5⟩:=hP3.o
      have b2':(W3.setCell ⟨w.heap.size+1,0,none⟩ (.bool false)).heap[W.heap.size+1]?=some (.loop { lp with state:=.busy }):=(Below.heap_setCell W3 ⟨w.heap.size+1,0,none⟩ (.bool false) (W.heap.size+1) (by show W.heap.size+1≠w.heap.size+1;omega)).trans b2
      refine ⟨_,_,run_endRound (some .ret) b2',.inr ⟨rfl,hok,zam (b1.set _) hrT _,?_,⟨_,World.putObj_heap_same (by simp;omega),rfl,rfl⟩,fun k hk hkr hl=>?_⟩⟩
      ·have h1:=b3.setCell (p:=⟨w.heap.size+1,0,none⟩) (Nat.le_refl _) (.bool false)
       exact ⟨h1.os,h1.tape,h1.output,by rw [World.putObj_size];exact h1.size,fun k hk=>(World.putObj_heap_other (by omega)).trans (h1.block k hk)⟩
      ·rw [World.putObj_heap_other hkr]
       exact (Below.heap_setCell W3 ⟨w.heap.size+1,0,none⟩ (.bool false) k hk).trans (b4 k hkr hl)
    have hrn:((W.alloc (.deferred (some []))).alloc (.loop lp)).heap[W.heap.size+1]?=some (.loop lp):=by have:=World.alloc_heap_new (W.alloc (.deferred (some []))) (.loop lp);rwa [qn] at this
    have hdn:((W.alloc (.deferred (some []))).alloc (.loop lp)).heap[W.heap.size]?=some (.deferred (some [])):=(Below.heap_alloc _ _ _ (by simp)).trans (World.alloc_heap_new W _);have hbl:Below W.heap.size W ((W.alloc (.deferred (some []))).alloc (.loop lp)):=qh.alloc (by simp) _;have hsl:((W.alloc (.deferred (some []))).alloc (.loop lp)).heap.size=W.heap.size+1+1:=by simp
    generalize (W.alloc (.deferred (some []))).alloc (.loop lp)=Wl at hrn hdn hbl hsl ⊢;have hbb:Below Wl.heap.size Wl (Wl.alloc (.cells #[.int .i64 fx,.int .i64 fy,.int .i64 fz,.slice A0 ns.length c0] 231)):=qh;have hwb:Wl.heap.size<(Wl.alloc (.cells #[.int .i64 fx,.int .i64 fy,.int .i64 fz,.slice A0 ns.length c0] 231)).heap.size:=by simp
    have hbc:((Wl.alloc (.cells #[.int .i64 fx,.int .i64 fy,.int .i64 fz,.slice A0 ns.length c0] 231)).cell? ⟨Wl.heap.size,0,none⟩=some (.int .i64 fx)∧(Wl.alloc (.cells #[.int .i64 fx,.int .i64 fy,.int .i64 fz,.slice A0 ns.length c0] 231)).cell? ⟨Wl.heap.size,1,none⟩=some (.int .i64 fy)∧(Wl.alloc (.cells #[.int .i64 fx,.int .i64 fy,.int .i64 fz,.slice A0 ns.length c0] 231)).cell? ⟨Wl.heap.size,2,none⟩=some (.int .i64 fz)∧(Wl.alloc (.cells #[.int .i64 fx,.int .i64 fy,.int .i64 fz,.slice A0 ns.length c0] 231)).cell? ⟨Wl.heap.size,3,none⟩=some (.slice A0 ns.length c0)):=by
     refine ⟨?_,?_,?_,?_⟩<;>simp [go_sem]
    have HRN:Hid ((Wl.alloc (.cells #[.int .i64 fx,.int .i64 fy,.int .i64 fz,.slice A0 ns.length c0] 231)).heap[W.heap.size+1]?=some (.loop lp)∧Boxed (Wl.alloc (.cells #[.int .i64 fx,.int .i64 fy,.int .i64 fz,.slice A0 ns.length c0] 231)) (w.heap.size+1) 4 (.bool false)∧(Wl.alloc (.cells #[.int .i64 fx,.int .i64 fy,.int .i64 fz,.slice A0 ns.length c0] 231)).heap[W.heap.size]?=some (.deferred (some []))):=
     ⟨(hbb.block _ (by omega)).trans hrn,(hbb.block _ (by omega)).trans ((hbl.block _ (by omega)).trans HTW.o),(hbb.block _ (by omega)).trans hdn⟩
    have HWW:Hid (Below W.heap.size W (Wl.alloc (.cells #[.int .i64 fx,.int .i64 fy,.int .i64 fz,.slice A0 ns.length c0] 231))):=hbl.trans (hbb.mono (by omega));have hrb:W.heap.size+1<Wl.heap.size:=by omega
    refine (zsn 1 (W.heap.size+1) fx fy fz A0 c0 ns hrd.len (fun i W'=>Below (Wl.alloc (.cells #[.int .i64 fx,.int .i64 fy,.int .i64 fz,.slice A0 ns.length c0] 231)).heap.size (Wl.alloc (.cells #[.int .i64 fx,.int .i64 fy,.int .i64 fz,.slice A0 ns.length c0] 231)) W'∧(ns.take i).all (okN (fx,fy,fz))=true) (fun W'=>(∃e0∈ns,okN (fx,fy,fz) e0=false)∧∃We,Below (Wl.alloc (.cells #[.int .i64 fx,.int .i64 fy,.int .i64 fz,.slice A0 ns.length c0] 231)).heap.size (Wl.alloc (.cells #[.int .i64 fx,.int .i64 fy,.int .i64 fz,.slice A0 ns.length c0] 231)) We∧No7 (w.heap.size+1) (W.heap.size+1) We W') Wl
     (fun i W' h=>⟨⟨(h.1.cell hwb).trans hbc.1,(h.1.cell hwb).trans hbc.2.1,(h.1.cell hwb).trans hbc.2.2.1,(h.1.cell hwb).trans hbc.2.2.2⟩,(hrd.keep HWW.o).keep h.1⟩)
     (fun i W' hi h=>(hY W' ns[i] ((h.1.block _ (by omega)).trans HRN.o.1) ((h.1.block _ (by omega)).trans HRN.o.2.1)) |> fun ⟨a1,a2,a3,a4,a5,a6⟩=>⟨a1,a2,a3,a4,a5,a6.mono fun e W'' hh=>hh.elim (fun q=>.inl ⟨q.1,h.1.trans (q.2.2.mono h.1.size),by rw [List.take_add_one,List.all_append,h.2,zg7 hi];simpa using q.2.1⟩) (fun q=>.inr ⟨q.1,⟨_,List.getElem_mem hi,q.2.1⟩,W',h.1,q.2.2⟩)⟩)
     ⟨Below.refl _ _,rfl⟩).mono ?_
    rintro e W4 ⟨⟨v4,rfl⟩,hI4 | hJ4⟩
    ·obtain ⟨hb4,hk4⟩:=hI4;have HOK:Hid (okF ((fx,fy,fz),ns)=true):=by unfold Hid okF;rw [List.take_length] at hk4;exact hk4
     have hl4:W4.heap[W.heap.size+1]?=some (.loop lp):=(hb4.block _ (by omega)).trans HRN.o.1;have hend:=run_endLoop (P:=Tryz.prog) hl4 (by rw [q1];simp);rw [q2] at hend;refine ⟨none,_,hend,?_⟩
     have H7:Hid (At7 (w.heap.size+1) w2 m (j+1) (W.heap.size::Ds) (W4.putObj (W.heap.size+1) (.loop { lp with state:=.exhausted,pending:=none }))):=by
      obtain ⟨a1,a2,a3,a4⟩:=HA.o;have hW4:Below W.heap.size W W4:=HWW.o.trans (hb4.mono (by omega));have hW5:∀k,k<W.heap.size+1→(W4.putObj (W.heap.size+1) (.loop { lp with state:=.exhausted,pending:=none })).heap[k]?=W4.heap[k]?:=fun k hk=>World.putObj_heap_other (by omega);refine ⟨?_,(zlu HF.o a2).trans HOK.o,fun D hD=>?_,List.nodup_cons.2 ⟨fun h=>?_,a4⟩⟩
      ·have:=a1.trans (hW4.mono hsz2);exact ⟨this.os,this.tape,this.output,by rw [World.putObj_size];exact this.size,fun k hk=>(hW5 k (by omega)).trans (this.block k hk)⟩
      ·rcases List.mem_cons.1 hD with rfl | hD
       ·exact ⟨(hW5 _ (by omega)).trans ((hb4.block _ (by omega)).trans HRN.o.2.2),hsz2⟩
       ·have hlt:=(zg9.1 (a3 D hD).1).1;exact ⟨(hW5 D (by omega)).trans ((hW4.block D hlt).trans (a3 D hD).1),(a3 D hD).2⟩
      ·have hlt:=(zg9.1 (a3 _ h).1).1;omega
     generalize W4.putObj (W.heap.size+1) (.loop { lp with state:=.exhausted,pending:=none })=W5 at H7 ⊢;clear hend hl4 hb4 hk4 HRN HWW hbb hbc hwb hY;dsimp only;gi_wp2;exact ⟨⟨j+1,_,_,_,_,_,_,_,_,_,_,_,_,_,_,_,_,(W.heap.size::Ds),by omega,rfl,H7.o⟩,by simp [intOf];omega⟩
    ·obtain ⟨hno,We,hbe,hn1,hn2,⟨lq,hn3,hn4,hn5⟩,hn6⟩:=hJ4;have HOK:Hid (mM m=false):=qar HF.o (by unfold okF;obtain ⟨e0,h1,h2⟩:=hno;rw [List.all_eq_false];exact ⟨e0,h1,by rw [h2];decide⟩);have hend:=run_endLoop (P:=Tryz.prog) hn3 (by rw [hn4];simp);rw [hn5] at hend;refine ⟨some .ret,_,hend,?_⟩
     have H7:Hid ((Boxed (W4.putObj (W.heap.size+1) (.loop { lq with state:=.exhausted,pending:=some .ret })) (w.heap.size+1) 4 (.bool false)∧Below w.heap.size w (W4.putObj (W.heap.size+1) (.loop { lq with state:=.exhausted,pending:=some .ret })))∧(∀D∈W.heap.size::Ds,(W4.putObj (W.heap.size+1) (.loop { lq with state:=.exhausted,pending:=some .ret })).heap[D]?=some (.deferred (some []))∧w2.heap.size≤D)∧(W.heap.size::Ds).Nodup):=by
      obtain ⟨a1,a2,a3,a4⟩:=HA.o;have hW5:∀k,k<W.heap.size+1→(W4.putObj (W.heap.size+1) (.loop { lq with state:=.exhausted,pending:=some .ret })).heap[k]?=W4.heap[k]?:=fun k hk=>World.putObj_heap_other (by omega);have hse:=hbe.size;refine ⟨⟨zam hn1 (by omega) _,?_⟩,fun D hD=>?_,List.nodup_cons.2 ⟨fun h=>?_,a4⟩⟩
      ·have h1:Below w.heap.size w We:=(HB2.o.trans (a1.mono (by omega))).trans ((HWW.o.mono (by omega)).trans (hbe.mono (by omega)));have h2:=h1.trans (hn2.mono (by omega));exact ⟨h2.os,h2.tape,h2.output,by rw [World.putObj_size];exact h2.size,fun k hk=>(hW5 k (by omega)).trans (h2.block k hk)⟩
      ·rcases List.mem_cons.1 hD with rfl | hD
       ·exact ⟨(hW5 _ (by omega)).trans ((hn6 _ (by omega) (by omega) (by omega)).trans ((hbe.block _ (by omega)).trans HRN.o.2.2)),hsz2⟩
       ·have hlt:=(zg9.1 (a3 D hD).1).1;have h3:=(a3 D hD).2;exact ⟨(hW5 D (by omega)).trans ((hn6 D (by omega) (by omega) (by omega)).trans ((hbe.block D (by omega)).trans ((HWW.o.block D hlt).trans (a3 D hD).1))),h3⟩
      ·have hlt:=(zg9.1 (a3 _ h).1).1;omega
     generalize W4.putObj (W.heap.size+1) (.loop { lq with state:=.exhausted,pending:=some .ret })=W5 at H7 ⊢;clear hend hn1 hn2 hn3 hn4 hn5 hn6 hbe HRN HWW hbb hbc hwb hY;dsimp only;gi_wp2;refine (show LeavesInM Fence.wide 3 Tryz.prog _ _ _ (mks (W.heap.size::Ds)) .returning W5 from ?_);refine zk0 (w.heap.size+1) w false (W.heap.size::Ds) _ W5 (by rfl) (by omega) H7.o.1.1 H7.o.1.2 (fun D hD=>⟨(H7.o.2.1 D hD).1,by have:=(H7.o.2.1 D hD).2;omega⟩) H7.o.2.2 ?_;rw [←HV.o,HOK.o]
  ·obtain rfl:j=9:=by omega
   have hTW:Boxed W (w.heap.size+1) 4 (.bool false):=(HA.o.1.block _ (by omega)).trans HT2.o;have hTc:=hTW.cell;have hTf:=hTW.frozen;have HTW:=zhy hTW;clear hTW;have hsz2:=HA.o.1.size;gi_wp2;refine zk0 (w.heap.size+1) w true Ds _ _ (by rfl) (by omega) (HTW.o.set _) ((HB2.o.trans (HA.o.1.mono (by omega))).setCell (p:=⟨w.heap.size+1,0,none⟩) (by show w.heap.size≤w.heap.size+1;omega) _) (fun D hD=>⟨(Below.heap_setCell W ⟨w.heap.size+1,0,none⟩ (.bool true) D (by have:=(HA.o.2.2.1 D hD).2;show D≠w.heap.size+1;omega)).trans (HA.o.2.2.1 D hD).1,by have:=(HA.o.2.2.1 D hD).2;omega⟩) HA.o.2.2.2 ?_;rw [←HV.o,zyz];have:=HA.o.2.1;rw [List.take_of_length_le (by rw [zjy];omega)] at this;rw [this]
attribute [local go_sem] Oper.semAt_some
def zjq (f:(Int×Int×Int)×List Int):List Int:=f.2.flatMap (zan f.1.1)
theorem qcr {m:Mh} (h:mM m=true) {j:Nat} {f:(Int×Int×Int)×List Int} (hf:(PT m)[j]?=some f):(∀n,okN f.1 n=true→∃k:Nat,f.1.1=k∧1≤k∧k≤3∧zcn k n=0∧zan k n=qu n k)∧f.2.length≤16∧(∀n∈f.2,okN f.1 n=true):=by
 have hm:=zbu.1 h;have hall:=h;rw [zyz] at hall;have hok:=List.all_eq_true.1 hall f (List.mem_of_getElem? hf);have h256:zbb 1=256:=by decide
 have h2:zbb 2=65536:=by decide
 have h3:zbb 3=16777216:=by decide
 have hj:=(zg8.1 hf).1;rw [zjy] at hj;refine ⟨fun n hn=>?_,?_,fun n hn=>List.all_eq_true.1 hok n hn⟩
 ·simp only [okN,Bool.and_eq_true,decide_eq_true_eq] at hn;have k1:0≤n→n<256→f.1.1=1→∃k:Nat,f.1.1=k∧1≤k∧k≤3∧zcn k n=0∧zan k n=qu n k:=fun a b c=>⟨1,c,by omega,by omega,zy (k:=1) (by omega) (by omega) a (by omega)⟩;have k2:0≤n→n<65536→f.1.1=2→∃k:Nat,f.1.1=k∧1≤k∧k≤3∧zcn k n=0∧zan k n=qu n k:=fun a b c=>⟨2,c,by omega,by omega,zy (k:=2) (by omega) (by omega) a (by omega)⟩;have k3:0≤n→n<16777216→f.1.1=3→∃k:Nat,f.1.1=k∧1≤k∧k≤3∧zcn k n=0∧zan k n=qu n k:=fun a b c=>⟨3,c,by omega,by omega,zy (k:=3) (by omega) (by omega) a (by omega)⟩;match j,hj,hf with
  | 0,_,hf=>cases hf;exact k1 (by simpa using hn.1) (by have:=hn.2;simp at this;omega) rfl
  | 1,_,hf=>cases hf;exact k1 (by have:=hn.1;simp at this;omega) (by have:=hn.2;simp at this;omega) rfl
  | 2,_,hf=>cases hf;exact k1 (by simpa using hn.1) (by have:=hn.2;simp at this;omega) rfl
  | 3,_,hf=>cases hf;exact k1 (by have:=hn.1;simp at this;omega) (by have:=hn.2;simp at this;omega) rfl
  | 4,_,hf=>cases hf;exact k1 (by have:=hn.1;simp at this;omega) (by have:=hn.2;simp at this;omega) rfl
  | 5,_,hf=>cases hf;exact k1 (by simpa using hn.1) (by have:=hn.2;simp at this;omega) rfl
  | 6,_,hf=>cases hf;exact k3 (by simpa using hn.1) (by have:=hn.2;simp at this;omega) rfl
  | 7,_,hf=>cases hf;exact k2 (by simpa using hn.1) (by have:=hn.2;simp at this;omega) rfl
  | 8,_,hf=>cases hf;exact k2 (by simpa using hn.1) (by have:=hn.2;simp at this;omega) rfl
 ·match j,hj,hf with
  | 0,_,hf=>cases hf;simp
  | 1,_,hf=>cases hf;dsimp only;omega
  | 2,_,hf=>cases hf;simp
  | 3,_,hf=>cases hf;dsimp only;omega
  | 4,_,hf=>cases hf;simp
  | 5,_,hf=>cases hf;simp
  | 6,_,hf=>cases hf;simp
  | 7,_,hf=>cases hf;simp
  | 8,_,hf=>cases hf;simp
theorem zhg:∀{l:List Int},kO l=true→l.flatMap (zan 1)=l
 | [],_=>rfl
 | x::l,h=>by
  have hx:=znb h (List.mem_cons_self);have ht:kO l=true:=by unfold kO at *;simp only [List.all_cons,Bool.and_eq_true] at h;exact h.2
  have h256:zbb 1=256:=by decide
  have e:zan 1 x=[x]:=by
   have:=(zy (k:=1) (n:=x) (by omega) (by omega) (by omega) (by omega)).2;rw [show ((1:Nat):Int)=1 from rfl] at this;rw [this];simp [qu];omega
  rw [List.flatMap_cons,e,zhg ht];rfl
theorem zen {n:Int} (h0:0≤n) (h:n<256):zan 1 n=[n]:=by
 have h256:zbb 1=256:=by decide
 have:=(zy (k:=1) (n:=n) (by omega) (by omega) h0 (by omega)).2;rw [show ((1:Nat):Int)=1 from rfl] at this;rw [this];simp [qu];omega
theorem qeu {m:Mh} (h:mM m=true):mL m=(PT m).flatMap zjq:=by
 have hm:=zbu.1 h;have h2:zbb 2=65536:=by decide
 have h3:zbb 3=16777216:=by decide
 have hq:0≤fl m.q∧fl m.q<256:=by cases m.q<;>decide
 have e3:=(zy (k:=3) (n:=m.f) (by omega) (by omega) (by omega) (by omega)).2;have e4:=(zy (k:=2) (n:=m.s) (by omega) (by omega) (by omega) (by omega)).2;have e5:=(zy (k:=2) (n:=m.h) (by omega) (by omega) (by omega) (by omega)).2;rw [show ((3:Nat):Int)=3 from rfl] at e3;rw [show ((2:Nat):Int)=2 from rfl] at e4 e5;rw [mL,if_pos h];simp only [PT,zjq,List.flatMap_cons,List.flatMap_nil,List.append_nil,zhg hm.2.2.1,zhg hm.2.2.2.1,zen (n:=m.a.length) (by omega) (by omega),zen (n:=m.l.length) (by omega) (by omega),zen (n:=m.r) (by omega) (by omega),zen hq.1 hq.2,e3,e4,e5];simp
theorem funI.grown {t:Nat} {w w':World} {v:Value} {x y z e:Int} (h:funI t w v x y z e) (hg:w.grownBy w' (some t)):funI t w' v x y z e:=by
 obtain ⟨g,h1,h2,h3,h4⟩:=h;exact ⟨g,h1,Nat.lt_of_lt_of_le h2 hg.size,hg.cell h3 (by simpa using h4),h4⟩
theorem funU.grown {t:Nat} {w w':World} {v:Value} {x y z:Int} {l:List Int} (h:funU t w v x y z l) (hg:w.grownBy w' (some t)):funU t w' v x y z l:=by
 obtain ⟨A,c,h1,h2,h3⟩:=h;exact ⟨A,c,h1,h2.grown hg (fun ad h0 hl e=>h3 ad h0 hl (by injection e)),h3⟩
theorem PF.grown {t:Nat} {w w':World} {v:Value} {f:(Int×Int×Int)×List Int} (h:PF t w v f) (hg:w.grownBy w' (some t)):PF t w' v f:=by
 rcases h with ⟨e,h1,h2⟩ | h
 ·exact .inl ⟨e,h1,h2.grown hg⟩
 ·exact .inr (h.grown hg)
def zks (o:Obj):Prop:=∀cs q,o≠.cells cs 5 q
theorem zax {W:World} {base n:Nat} {v:Value} {xs:List Value} (h:W.ownsRow base 5 1 v n xs) {k:Nat} {o:Obj} (hk:W.heap[k]?=some o) (ho:zks o):v.ownBlock≠some k:=by
 rcases h.2 with ⟨rfl,_⟩ | ⟨g,cap,cur,rfl,_,hgb,_⟩
 ·simp [Value.ownBlock]
 ·intro e;obtain rfl:g=k:=by simpa [Value.ownBlock] using e
  rw [hk] at hgb;exact ho _ _ (Option.some.inj hgb)
def Ry (t:Nat) (w2:World) (X:List Int) (W:World):Prop:=w2.grownBy W (some t)∧Byt X∧t<w2.heap.size∧∃A c,Boxed W t 40 (.slice A X.length c)∧W.ownsRow w2.heap.size 5 1 (.slice A X.length c) X.length (cel X)
theorem Ry.call {t:Nat} {w2 W W':World} {X:List Int} (h:Ry t w2 X W) (hb:Below W.heap.size W W'):Ry t w2 X W':=by
 obtain ⟨h1,h2,h3,A,c,h4,h5⟩:=h;exact ⟨qen h1 hb,h2,h3,A,c,(hb.block _ h4.lt).trans h4,qb h5 hb (Nat.le_refl _)⟩
theorem Ry.putR {t:Nat} {w2 W:World} {X:List Int} (h:Ry t w2 X W) {r:Nat} {q:Loop} (hr:W.heap[r]?=some (.loop q)) (hr2:w2.heap.size≤r) (o:Obj):Ry t w2 X (W.putObj r o):=by
 obtain ⟨h1,h2,h3,A,c,h4,h5⟩:=h;refine ⟨⟨h1.os,h1.tape,h1.output,by rw [World.putObj_size];exact h1.size,fun i hi hne=>(World.putObj_heap_other (by omega)).trans (h1.block i hi hne)⟩,h2,h3,A,c,zam h4 (by omega) _,ownsRow_putObj h5 _ hr rfl⟩
def zwl (t r:Nat) (Wb W:World):Prop:=∀k o,Wb.heap[k]?=some o→zks o→k≠t→k≠r→W.heap[k]?=some o
def qf0 (x:Mc) (m:Mh) (w w2:World) (t B9:Nat) (a:Act) (W:World):Prop:=∃(j:Nat) (u5 u6 u7 u8 u9 u10 u11 u12 u13 u14 u18 u19 u20 u21 u22 u23 u24 u25 u26 u27 u28 u29 u30 u31 u32 u33 u34 u35:Value) (Ds:List Nat) (X:List Int),j≤9∧a={ tmps:=#[mv x m,.pointer (some ⟨w.heap.size,0,none⟩),.slice none 0 0,.int .i64 0,.pointer (some ⟨t,0,none⟩),u5,u6,u7,u8,u9,u10,u11,u12,u13,u14,.slice (some ⟨B9,0,none⟩) 9 9,.int .i64 9,.int .i64 j,u18,u19,u20,u21,u22,u23,u24,u25,u26,u27,u28,u29,u30,u31,u32,u33,u34,u35],defers:=mks Ds }∧Ry t w2 X W∧X=((PT m).take j).flatMap zjq∧X.length≤60*j∧(∀D∈Ds,W.heap[D]?=some (.deferred (some []))∧w2.heap.size≤D)∧Ds.Nodup
theorem zi7 {m:Mh} {j:Nat} {f:(Int×Int×Int)×List Int} (h:(PT m)[j]?=some f):((PT m).take (j+1)).flatMap zjq=((PT m).take j).flatMap zjq++zjq f:=by
 rw [List.take_add_one,List.flatMap_append,h];simp
theorem jf {w:World} {B:Nat} {cs:Array Value} {t:Nat} (h:w.heap[B]?=some (.cells cs t (0,0))) (i:Nat):w.cell? ⟨B,i,none⟩=cs[i]?:=by simp [World.cell?,h]
theorem zor (w:World) (n:Nat) (A:Option Addr) (c:Nat) (X:List Int) (Ds:List Nat) (tm:Array Value) (W:World) (h2:tm[2]?=some (.slice A X.length c)) (h3:tm[3]?=some (.int .i64 0)) (hn2:w.heap.size≤n) (hO:W.ownsRow n 5 1 (.slice A X.length c) X.length (cel X)) (hB:Below w.heap.size w W) (hD:∀D∈Ds,W.heap[D]?=some (.deferred (some []))∧n≤D) (hn:Ds.Nodup) {L:List Int} (hL:X=L) :
  LeavesInM Fence.wide 3 Tryz.prog Tryz.f66 tm (fun e w'=>∃A c,e=.returned (.tuple #[.slice A L.length c,.int .i64 0])∧w'.ownsRow w.heap.size 5 1 (.slice A L.length c) L.length (cel L)∧Below w.heap.size w w') (mks Ds) .returning W:=by
 subst hL;refine zb1 (fun Y=>Y.ownsRow n 5 1 (.slice A X.length c) X.length (cel X)∧Below w.heap.size w Y) Ds W ⟨hO,hB⟩ (fun D hd=>(hD D hd).1) hn (fun Y D hd hdd hI=>?_) (fun Y hI=>?_)
 ·have hTD:=(hD D hd).2;refine ⟨ownsRow_putObj hI.1 _ hdd rfl,?_⟩;have h2:=hI.2;exact ⟨h2.os,h2.tape,h2.output,by rw [World.putObj_size];exact h2.size,fun k hk=>(World.putObj_heap_other (by omega)).trans (h2.block k hk)⟩
 ·have t2:tm[2]?.getD undef=.slice A X.length c:=by rw [h2];rfl
  have t3:tm[3]?.getD undef=.int .i64 0:=by rw [h3];rfl
  simp [LeavesIn,results,Tryz.results66,go_sem,t2,t3];exact ⟨A,c,⟨rfl,rfl⟩,qg hI.1 hn2,hI.2⟩
theorem zuu (x:Mc) (m:Mh) (w:World) (hx:Hd w x m) (hw:GM w):Calls Tryz.prog 66 #[mv x m] w fun e w'=>∃A c,e=.returned (.tuple #[.slice A (mL m).length c,.int .i64 (mE m)])∧w'.ownsRow w.heap.size 5 1 (.slice A (mL m).length c) (mL m).length (cel (mL m))∧Below w.heap.size w w':=by
 have S0:=zhy ((((Sx.start w).add fGM hw).add (fH x m) hx).mkM x m);have HLA:Hid ((∀ad,x.A=some ad→0<m.a.length→ad.block<w.heap.size)∧(∀ad,x.B=some ad→0<m.l.length→ad.block<w.heap.size)):=⟨fun ad h0 h1=>zni hx.1 h0 h1,fun ad h0 h1=>zni hx.2.1 h0 h1⟩;clear hx hw;obtain ⟨-,⟨b0,z0,z1,z2,z3,z4,z5,z6,z7⟩,-⟩:=S0.o;refine (callsIn_wide (n:=3)).1 ?_;refine callsIn_of_wp_marks Tryz.func66 rfl trivial ?_ rfl;simp only [Tryz.ntmps66,List.size_toArray,List.length_cons,List.length_nil,Nat.reduceAdd,Nat.reduceSub,Array.replicate_succ,Array.replicate_zero,List.push_toArray,List.append_toArray,List.nil_append,List.cons_append];cases hm:mM m with
 | false =>
  have e1:mL m=[]:=by rw [mL,if_neg (by rw [hm];decide)]
  have e2:mE m=70:=by rw [mE,if_neg (by rw [hm];decide)]
  have KM:=zhy (zxa x m false _ S0.o.2.2.1 S0.o.2.2.2.1 hm);clear hm;rw [e1,e2];clear e1 e2;gi_wp2_with (refine ⟨trivial,?_⟩;gi_at_call 47;refine (callsIn_wide.2 KM.o).mono ?_;rintro e w1 ⟨rfl,hb1⟩);simp [LeavesInM,LeavesIn,bodyPostM,results,Tryz.results66,go_sem];exact ⟨none,0,⟨rfl,rfl⟩,World.ownsRow_nil _ _ _ _,qc S0.o.1 hb1⟩
 | true =>
  have e2:mE m=0:=by rw [mE,if_pos hm]
  have KM:=zhy (zxa x m true _ S0.o.2.2.1 S0.o.2.2.2.1 hm);have HM:=zhy hm;rw [e2];clear hm e2;gi_wp2_with (refine ⟨trivial,?_⟩;gi_at_call 47;refine (callsIn_wide.2 KM.o).mono ?_;rintro e w1 ⟨rfl,hb1⟩;have S1:=zhy ((S0.o.call hb1).mk1 (.cells #[.slice none 0 0] 40));have hw1:=(S0.o.call hb1).1.size;clear S0 hb1 z0 z1 z2 z3 z4 z5 z6 z7;obtain ⟨-,⟨-,z0,z1,z2,z3,z4,z5,z6,z7⟩,-⟩:=S1.o);have KP:=zhy (zrl w1.heap.size x m _ S1.o.2.2.1 S1.o.2.2.2.1 (by simp) (fun ad h0 h1=>by have:=HLA.o.1 ad h0 h1;omega) (fun ad h0 h1=>by have:=HLA.o.2 ad h0 h1;omega));gi_wp2_with (refine ⟨trivial,?_⟩;gi_at_call 88;refine (callsIn_wide.2 KP.o).mono ?_;rintro e w2 ⟨B9,rfl,h9,hb2⟩);have HB2:Hid (Below w.heap.size w w2):=zhy (qc S1.o.1 hb2);have hT2:w1.heap.size<w2.heap.size:=by have:=hb2.size;simp at this;omega
  have HR2:Hid (Ry w1.heap.size w2 [] w2):=⟨World.grownBy.refl w2 _,fun x hx=>(by cases hx),hT2,none,0,(hb2.block _ (by simp)).trans (Boxed.new w1 40 (.slice none 0 0)),World.ownsRow_nil _ _ _ _⟩;have H9:=zhy h9;obtain ⟨i0,hi,hz0,hz1,hz2⟩:=info_parts Tryz.info5;clear h9 hb2 KP S1 z0 z1 z2 z3 z4 z5 z6 z7 KM HLA b0;generalize w1.heap.size=t at *;refine wpIn_loop (qf0 x m w w2 t B9) (fun a _=>9-(intOf (a.tmps.getD 17 undef)).toNat) ?_ ?_
  ·exact ⟨0,_,_,_,_,_,_,_,_,_,_,_,_,_,_,_,_,_,_,_,_,_,_,_,_,_,_,_,_,[],[],by omega,rfl,HR2.o,rfl,by simp,fun D hD=>(by cases hD),List.nodup_nil⟩
  ·rintro a W ⟨j,u5,u6,u7,u8,u9,u10,u11,u12,u13,u14,u18,u19,u20,u21,u22,u23,u24,u25,u26,u27,u28,u29,u30,u31,u32,u33,u34,u35,Ds,X,hj,rfl,hA⟩;have HA:=zhy hA;clear hA HR2;have hsz2:=HA.o.1.1.size;by_cases h1:j<9
   ·obtain ⟨f,hf⟩:∃f,(PT m)[j]?=some f:=⟨_,zg7 (by rw [zjy];exact h1)⟩;obtain ⟨⟨fx,fy,fz⟩,ns⟩:=f;obtain ⟨fvv,hfc0,hfp0⟩:=H9.o.2.2 j _ hf;have hfc:W.cell? ⟨B9,j,none⟩=some fvv:=HA.o.1.1.cell hfc0 (by simpa using H9.o.2.1);have HFP:=zhy hfp0;have hfp:=hfp0.grown HA.o.1.1;have HPUT:=zhy (qcr HM.o hf);have HF:=zhy hf;clear hf hfc0 hfp0;rcases hfp with ⟨e0,hns,g0,rfl,hg1,hg2,hg3⟩ | ⟨A0,c0,rfl,hrd,hne⟩
    ·dsimp only at hns;subst hns
     have hc2:w2.cell? ⟨g0,0,none⟩=some (.int .i64 e0)∧g0≠t:=by
      rcases HFP.o with ⟨e9,h9,g9,h10,h11,h12,h13⟩ | ⟨A9,c9,h10,-⟩
      ·simp at h9 h10;obtain rfl:=h9;obtain rfl:=h10;exact ⟨h12,h13⟩
      ·simp at h10
     have hne2:=hc2.2;have hc2:=hc2.1;gi_wp2;refine zg0 150 #[.agg #[.int .i64 fx,.int .i64 fy,.int .i64 fz,.slice (some ⟨g0,0,none⟩) 1 1]] rfl (enters_of Tryz.func150 (by kernel_rfl) rfl) (fun lp q1 q2 q3 q4 q5 q6=>?_)
     have hY:∀Wc n0 Y,Wc.heap[W.heap.size+1]?=some (.loop lp)→Ry t w2 Y Wc→Y.length≤1000→okN (fx,fy,fz) n0=true→YieldAt Fence.wide 1 Tryz.prog (W.heap.size+1) #[fv fx fy fz,.int .i64 n0] Wc fun e W' =>
       (e=.returned (.bool true)∧Ry t w2 (Y++zan fx n0) W'∧W'.heap[W.heap.size+1]?=some (.loop lp)∧zwl t (W.heap.size+1) Wc W')∨(e=.returned (.bool false)∧False):=by
      intro Wc n0 Y hlp hRy hYl hok
      obtain ⟨k,hk,hk1,hk3,hpe,hpl⟩:=HPUT.o.1 n0 hok
      obtain ⟨k,rfl⟩:∃k',k=k'+1:=⟨k-1,by omega⟩
      have hy:=run_yield (P:=Tryz.prog) (args:=#[fv fx fy fz,.int .i64 n0]) hlp (by rw [q4];rfl)
      rw [q3,q4,q5,q6] at hy
      refine ⟨_,_,_,_,hy,roundIn_of_wpIn trivial ?_⟩
      have hlp1:(Wc.alloc (.cells #[.int .i64 fx,.int .i64 fy,.int .i64 fz] 159)).heap[W.heap.size+1]?=some (.loop lp):=(Below.heap_alloc _ _ _ (zg9.1 hlp).1).trans hlp
      have hrun:=run_beginRound (P:=Tryz.prog) hlp1 q1
      have HLP:=zhy hlp
      have HRY:=zhy hRy
      have Q1:=zhy q1
      have Q2:=zhy q2
      have HK:=zhy (And.intro hk (And.intro hpe hpl))
      clear hy q1 q2 q3 q4 q5 q6 hRy hfc hlp hk hpe hpl HF HPUT HFP H9 HB2 HM
      gi_wp2
      refine ⟨_,hrun,?_⟩
      clear hrun
      have hrl:=(zg9.1 HLP.o).1
      have hP:Hid (T3 ((Wc.alloc (.cells #[.int .i64 fx,.int .i64 fy,.int .i64 fz] 159)).putObj (W.heap.size+1) (.loop { lp with state:=.busy })) Wc.heap.size fx fy fz∧Ry t w2 Y ((Wc.alloc (.cells #[.int .i64 fx,.int .i64 fy,.int .i64 fz] 159)).putObj (W.heap.size+1) (.loop { lp with state:=.busy })) ∧
        ((Wc.alloc (.cells #[.int .i64 fx,.int .i64 fy,.int .i64 fz] 159)).putObj (W.heap.size+1) (.loop { lp with state:=.busy })).heap[W.heap.size+1]?=some (.loop { lp with state:=.busy }) ∧
        zwl t (W.heap.size+1) Wc ((Wc.alloc (.cells #[.int .i64 fx,.int .i64 fy,.int .i64 fz] 159)).putObj (W.heap.size+1) (.loop { lp with state:=.busy }))):=by
       have hbb:Below Wc.heap.size Wc (Wc.alloc (.cells #[.int .i64 fx,.int .i64 fy,.int .i64 fz] 159)):=qh
       exact ⟨(T3.new Wc fx fy fz _).putObj (by omega) _,(HRY.o.call hbb).putR hlp1 (by omega) _,World.putObj_heap_same (by simp;omega),fun k o hk _ _ hr=>(World.putObj_heap_other hr).trans ((hbb.block k (zg9.1 hk).1).trans hk)⟩
      clear hlp1
      generalize (Wc.alloc (.cells #[.int .i64 fx,.int .i64 fy,.int .i64 fz] 159)).putObj (W.heap.size+1) (.loop { lp with state:=.busy })=Wp at hP ⊢
      obtain ⟨t0,t1,t2,t3⟩:=hP.o.1
      have KPut:=zcq fx n0 Wp
      rw [HK.o.1,HK.o.2.1,HK.o.2.2,qe,←HK.o.1] at KPut
      have KPut:=zhy KPut
      gi_wp2
      refine ⟨trivial,?_⟩
      refine (CallsIn.inRound _ (callsIn_wide.2 KPut.o)).mono ?_
      rintro e W3 ⟨A3,c3,rfl,ho3,hb3⟩
      obtain ⟨g3,c3',hgc⟩:=zme ho3
      simp only [Value.slice.injEq] at hgc
      obtain ⟨rfl,-,rfl⟩:=hgc
      have HO3:=zhy ho3
      have hP3:Hid (Ry t w2 Y W3∧W3.heap[W.heap.size+1]?=some (.loop { lp with state:=.busy })∧zwl t (W.heap.size+1) Wc W3):=by
       obtain ⟨-,a1,a2,a3⟩:=hP.o;exact ⟨a1.call hb3,(hb3.block _ (zg9.1 a2).1).trans a2,fun k o hk hn ht hr=>(hb3.block k (zg9.1 (a3 k o hk hn ht hr)).1).trans (a3 k o hk hn ht hr)⟩
      clear hb3 hP t0 t1 t2 t3 ho3 KPut
      obtain ⟨hR1,hR2,hR3,A4,c4,hBx,hOw⟩:=hP3.o.1
      have HBX:=zhy hBx
      have HOW:=zhy hOw
      have HR1:=zhy hR1
      have HR2:=zhy hR2
      have hcell:=hBx.cell
      have hszr:=hR1.size
      clear hBx hOw hR1 hR2
      gi_wp2_with (gi_at_builtin;refine wpListIn_append_own _ rfl _ _ 40 rfl w2.heap.size 5 i0 _ 1 1 Tryz.underlying40 hi hz0 hz1 hz2 rfl (by decide) _ Y.length (cel Y) rfl HOW.o ⟨g3,0,none⟩ (k+1) c3 (cel (qu n0 (k+1))) rfl (by simp [zo,qe]) (fun j u hj=>HO3.o.cells (g:=g3) rfl j u hj) (zia _) (by unfold maxLen;omega) (by omega) hszr ?_;intro v5 w5 ho5 hg5 _;obtain ⟨g5,c5,rfl⟩:=ownsRow_succ ho5;have hb5:Boxed w5 t 40 (.slice A4 Y.length c4):=HBX.o.kept hg5 (fun e=>zax HOW.o HBX.o (fun cs q e=>by injection e with _ e2;exact absurd e2 (by decide)) e.symm);have hc5:=hb5.cell;have hf5:=hb5.frozen;have HB5:=zhy hb5;have HG5:=zhy hg5;have HO5:=zhy ho5;clear hb5 hg5 ho5)
      have hlp':({ ({ lp with state:=.busy }:Loop) with state:=if (none:Option Code).isNone=true then .ready else .done,pending:=none }:Loop)=lp:=zek Q1.o Q2.o
      have hl6:(w5.setCell ⟨t,0,none⟩ (.slice (some ⟨g5,0,none⟩) (Y.length+(k+1)) c5)).heap[W.heap.size+1]?=some (.loop { lp with state:=.busy }):=
       (Below.heap_setCell w5 ⟨t,0,none⟩ _ (W.heap.size+1) (by show W.heap.size+1≠t;omega)).trans ((HG5.o.block _ (zg9.1 hP3.o.2.1).1 (fun e=>zax HOW.o hP3.o.2.1 (fun cs q e=>by cases e) e.symm)).trans hP3.o.2.1)
      have hRy6:Ry t w2 (Y++zan fx n0) (w5.setCell ⟨t,0,none⟩ (.slice (some ⟨g5,0,none⟩) (Y.length+(k+1)) c5)):=by
       have hlen:(Y++zan fx n0).length=Y.length+(k+1):=by rw [HK.o.1,HK.o.2.2,List.length_append,qe]
       refine ⟨zwm (HR1.o.andThen HG5.o (fun j hj=>.inl (HOW.o.lt j hj).1)) (.inr rfl) _,fun y hy=>?_,hR3,some ⟨g5,0,none⟩,c5,?_,?_⟩
       ·rcases List.mem_append.1 hy with hy | hy
        ·exact HR2.o y hy
        ·rw [HK.o.1,HK.o.2.2] at hy;exact qr _ _ y hy
       ·rw [hlen];exact HB5.o.set _
       ·rw [hlen,zb9,HK.o.1,HK.o.2.2];exact ownsRow_setCell_below HO5.o (show (⟨t,0,none⟩:Addr).block<_ from hR3) _
      refine ⟨_,_,run_endRound none hl6,.inl ⟨rfl,?_⟩⟩
      rw [hlp']
      refine ⟨hRy6.putR hl6 (by omega) _,World.putObj_heap_same (zg9.1 hl6).1,fun k o hk hn ht hr=>?_⟩
      have h3:=hP3.o.2.2 k o hk hn ht hr
      exact (World.putObj_heap_other hr).trans ((Below.heap_setCell w5 ⟨t,0,none⟩ _ k ht).trans ((HG5.o.block _ (zg9.1 h3).1 (fun e=>zax HOW.o h3 hn e.symm)).trans h3))
     have hrn:((W.alloc (.deferred (some []))).alloc (.loop lp)).heap[W.heap.size+1]?=some (.loop lp):=by have:=World.alloc_heap_new (W.alloc (.deferred (some []))) (.loop lp);rwa [qn] at this
     have hdn:((W.alloc (.deferred (some []))).alloc (.loop lp)).heap[W.heap.size]?=some (.deferred (some [])):=(Below.heap_alloc _ _ _ (by simp)).trans (World.alloc_heap_new W _);have hbl:Below W.heap.size W ((W.alloc (.deferred (some []))).alloc (.loop lp)):=qh.alloc (by simp) _;have hsl:((W.alloc (.deferred (some []))).alloc (.loop lp)).heap.size=W.heap.size+1+1:=by simp
     generalize (W.alloc (.deferred (some []))).alloc (.loop lp)=Wl at hrn hdn hbl hsl ⊢;have hbb:Below Wl.heap.size Wl (Wl.alloc (.cells #[.int .i64 fx,.int .i64 fy,.int .i64 fz,.slice (some ⟨g0,0,none⟩) 1 1] 227)):=qh;have hbx:(Wl.alloc (.cells #[.int .i64 fx,.int .i64 fy,.int .i64 fz,.slice (some ⟨g0,0,none⟩) 1 1] 227)).heap[Wl.heap.size]?=some (.cells #[.int .i64 fx,.int .i64 fy,.int .i64 fz,.slice (some ⟨g0,0,none⟩) 1 1] 227 (0,0)):=World.alloc_heap_new Wl _;have hnr:zks (.cells #[.int .i64 fx,.int .i64 fy,.int .i64 fz,.slice (some ⟨g0,0,none⟩) 1 1] 227 (0,0)):=fun cs q e=>by injection e with _ e2;exact absurd e2 (by decide)
     have HWW:Hid (Below W.heap.size W (Wl.alloc (.cells #[.int .i64 fx,.int .i64 fy,.int .i64 fz,.slice (some ⟨g0,0,none⟩) 1 1] 227))):=hbl.trans (hbb.mono (by omega))
     have HRN:Hid ((Wl.alloc (.cells #[.int .i64 fx,.int .i64 fy,.int .i64 fz,.slice (some ⟨g0,0,none⟩) 1 1] 227)).heap[W.heap.size+1]?=some (.loop lp)∧(Wl.alloc (.cells #[.int .i64 fx,.int .i64 fy,.int .i64 fz,.slice (some ⟨g0,0,none⟩) 1 1] 227)).heap[W.heap.size]?=some (.deferred (some []))):=
      ⟨(hbb.block _ (by omega)).trans hrn,(hbb.block _ (by omega)).trans hdn⟩
     have hXl:=HA.o.2.2.1;have hns16:=HPUT.o.2.1;have hnsok:=HPUT.o.2.2;have htw:=HA.o.1.2.2.1
     refine (zpp 1 (W.heap.size+1) fx fy fz g0 e0 (fun i W'=>Ry t w2 (X++if i=0 then [] else zan fx e0) W'∧W'.heap[W.heap.size+1]?=some (.loop lp)∧zwl t (W.heap.size+1) (Wl.alloc (.cells #[.int .i64 fx,.int .i64 fy,.int .i64 fz,.slice (some ⟨g0,0,none⟩) 1 1] 227)) W'∧True) (fun _=>False) Wl
      (fun i W' h=>⟨by rw [jf (h.2.2.1 _ _ hbx hnr (by omega) (by omega)),jf (h.2.2.1 _ _ hbx hnr (by omega) (by omega)),jf (h.2.2.1 _ _ hbx hnr (by omega) (by omega)),jf (h.2.2.1 _ _ hbx hnr (by omega) (by omega))];exact ⟨rfl,rfl,rfl,rfl⟩,h.1.1.cell hc2 (by simpa using hne2)⟩)
      (fun W' h=>(hY W' e0 X h.2.1 (by have:=h.1;rw [if_pos rfl,List.append_nil] at this;exact this) (by omega) (hnsok e0 (by simp))) |> fun ⟨a1,a2,a3,a4,a5,a6⟩=>⟨a1,a2,a3,a4,a5,a6.mono fun e W'' hh=>hh.elim (fun q=>.inl ⟨q.1,by rw [if_neg (by decide)];exact q.2.1,q.2.2.1,fun k o hk hn ht hr=>q.2.2.2 k o (h.2.2.1 k o hk hn ht hr) hn ht hr,trivial⟩) (fun q=>q.2.elim)⟩)
      ⟨by rw [if_pos rfl,List.append_nil];exact HA.o.1.call HWW.o,HRN.o.1,fun k o hk _ _ _=>hk,trivial⟩).mono ?_
     rintro e W4 ⟨⟨v4,rfl⟩,hI4 | hJ4⟩
     ·obtain ⟨hr4,hl4,hp4,hy4⟩:=hI4;have hend:=run_endLoop (P:=Tryz.prog) hl4 (by rw [q1];simp);rw [q2] at hend;refine ⟨none,_,hend,?_⟩
      have H7:Hid (Ry t w2 (X++zjq ((fx,fy,fz),[e0])) (W4.putObj (W.heap.size+1) (.loop { lp with state:=.exhausted,pending:=none }))∧X++zjq ((fx,fy,fz),[e0])=((PT m).take (j+1)).flatMap zjq∧(X++zjq ((fx,fy,fz),[e0])).length≤60*(j+1) ∧
        (∀D∈W.heap.size::Ds,(W4.putObj (W.heap.size+1) (.loop { lp with state:=.exhausted,pending:=none })).heap[D]?=some (.deferred (some []))∧w2.heap.size≤D)∧(W.heap.size::Ds).Nodup):=by
       obtain ⟨a1,a2,a3,a4,a5⟩:=HA.o
       refine ⟨?_,by rw [zi7 HF.o,←a2],?_,fun D hD=>?_,List.nodup_cons.2 ⟨fun h=>?_,a5⟩⟩
       ·have:=hr4.putR hl4 (by omega) (.loop { lp with state:=.exhausted,pending:=none })
        rw [if_neg (by decide)] at this;simpa [zjq] using this
       ·obtain ⟨k,hk,hk1,hk3,hpe,hpl⟩:=HPUT.o.1 _ (hnsok e0 (by simp));(try dsimp only at hk);simp [zjq,hk,hpl,qe];omega
       ·rcases List.mem_cons.1 hD with rfl | hD
        ·exact ⟨(World.putObj_heap_other (by omega)).trans (hp4 _ _ HRN.o.2 (fun cs q e=>by cases e) (by omega) (by omega)),hsz2⟩
        ·have hlt:=(zg9.1 (a4 D hD).1).1
         have h3:=(a4 D hD).2
         exact ⟨(World.putObj_heap_other (by omega)).trans (hp4 D _ ((HWW.o.block D hlt).trans (a4 D hD).1) (fun cs q e=>by cases e) (by omega) (by omega)),h3⟩
       ·have hlt:=(zg9.1 (a4 _ h).1).1
        omega
      generalize W4.putObj (W.heap.size+1) (.loop { lp with state:=.exhausted,pending:=none })=W5 at H7 ⊢;clear hend hl4 hr4 hp4 HRN HWW hbb hbx hY;dsimp only;gi_wp2;exact ⟨⟨j+1,_,_,_,_,_,_,_,_,_,_,_,_,_,_,_,_,_,_,_,_,_,_,_,_,_,_,_,_,(W.heap.size::Ds),_,by omega,rfl,H7.o⟩,by simp [intOf];omega⟩
     ·exact hJ4.elim
    ·have hrd2:Rd w2 A0 c0 ns∧(∀ad,A0=some ad→0<ns.length→ad.block≠t):=by
      rcases HFP.o with ⟨e9,h9,g9,h10,-⟩ | ⟨A9,c9,h10,h11,h12⟩
      ·simp at h10
      ·simp at h10;obtain ⟨rfl,rfl⟩:=h10;exact ⟨h11,h12⟩
     have hne2:=hrd2.2;have hrd2:=hrd2.1;dsimp only at hrd hne;gi_wp2;refine zg0 152 #[.agg #[.int .i64 fx,.int .i64 fy,.int .i64 fz,.slice A0 ns.length c0]] rfl (enters_of Tryz.func152 (by kernel_rfl) rfl) (fun lp q1 q2 q3 q4 q5 q6=>?_)
     have hY:∀Wc n0 Y,Wc.heap[W.heap.size+1]?=some (.loop lp)→Ry t w2 Y Wc→Y.length≤1000→okN (fx,fy,fz) n0=true→YieldAt Fence.wide 1 Tryz.prog (W.heap.size+1) #[fv fx fy fz,.int .i64 n0] Wc fun e W' =>
       (e=.returned (.bool true)∧Ry t w2 (Y++zan fx n0) W'∧W'.heap[W.heap.size+1]?=some (.loop lp)∧zwl t (W.heap.size+1) Wc W')∨(e=.returned (.bool false)∧False):=by
      intro Wc n0 Y hlp hRy hYl hok
      obtain ⟨k,hk,hk1,hk3,hpe,hpl⟩:=HPUT.o.1 n0 hok
      obtain ⟨k,rfl⟩:∃k',k=k'+1:=⟨k-1,by omega⟩
      have hy:=run_yield (P:=Tryz.prog) (args:=#[fv fx fy fz,.int .i64 n0]) hlp (by rw [q4];rfl)
      rw [q3,q4,q5,q6] at hy
      refine ⟨_,_,_,_,hy,roundIn_of_wpIn trivial ?_⟩
      have hlp1:(Wc.alloc (.cells #[.int .i64 fx,.int .i64 fy,.int .i64 fz] 159)).heap[W.heap.size+1]?=some (.loop lp):=(Below.heap_alloc _ _ _ (zg9.1 hlp).1).trans hlp
      have hrun:=run_beginRound (P:=Tryz.prog) hlp1 q1
      have HLP:=zhy hlp
      have HRY:=zhy hRy
      have Q1:=zhy q1
      have Q2:=zhy q2
      have HK:=zhy (And.intro hk (And.intro hpe hpl))
      clear hy q1 q2 q3 q4 q5 q6 hRy hfc hlp hk hpe hpl HF HPUT HFP H9 HB2 HM
      gi_wp2
      refine ⟨_,hrun,?_⟩
      clear hrun
      have hrl:=(zg9.1 HLP.o).1
      have hP:Hid (T3 ((Wc.alloc (.cells #[.int .i64 fx,.int .i64 fy,.int .i64 fz] 159)).putObj (W.heap.size+1) (.loop { lp with state:=.busy })) Wc.heap.size fx fy fz∧Ry t w2 Y ((Wc.alloc (.cells #[.int .i64 fx,.int .i64 fy,.int .i64 fz] 159)).putObj (W.heap.size+1) (.loop { lp with state:=.busy })) ∧
        ((Wc.alloc (.cells #[.int .i64 fx,.int .i64 fy,.int .i64 fz] 159)).putObj (W.heap.size+1) (.loop { lp with state:=.busy })).heap[W.heap.size+1]?=some (.loop { lp with state:=.busy }) ∧
        zwl t (W.heap.size+1) Wc ((Wc.alloc (.cells #[.int .i64 fx,.int .i64 fy,.int .i64 fz] 159)).putObj (W.heap.size+1) (.loop { lp with state:=.busy }))):=by
       have hbb:Below Wc.heap.size Wc (Wc.alloc (.cells #[.int .i64 fx,.int .i64 fy,.int .i64 fz] 159)):=qh
       exact ⟨(T3.new Wc fx fy fz _).putObj (by omega) _,(HRY.o.call hbb).putR hlp1 (by omega) _,World.putObj_heap_same (by simp;omega),fun k o hk _ _ hr=>(World.putObj_heap_other hr).trans ((hbb.block k (zg9.1 hk).1).trans hk)⟩
      clear hlp1
      generalize (Wc.alloc (.cells #[.int .i64 fx,.int .i64 fy,.int .i64 fz] 159)).putObj (W.heap.size+1) (.loop { lp with state:=.busy })=Wp at hP ⊢
      obtain ⟨t0,t1,t2,t3⟩:=hP.o.1
      have KPut:=zcq fx n0 Wp
      rw [HK.o.1,HK.o.2.1,HK.o.2.2,qe,←HK.o.1] at KPut
      have KPut:=zhy KPut
      gi_wp2
      refine ⟨trivial,?_⟩
      refine (CallsIn.inRound _ (callsIn_wide.2 KPut.o)).mono ?_
      rintro e W3 ⟨A3,c3,rfl,ho3,hb3⟩
      obtain ⟨g3,c3',hgc⟩:=zme ho3
      simp only [Value.slice.injEq] at hgc
      obtain ⟨rfl,-,rfl⟩:=hgc
      have HO3:=zhy ho3
      have hP3:Hid (Ry t w2 Y W3∧W3.heap[W.heap.size+1]?=some (.loop { lp with state:=.busy })∧zwl t (W.heap.size+1) Wc W3):=by
       obtain ⟨-,a1,a2,a3⟩:=hP.o;exact ⟨a1.call hb3,(hb3.block _ (zg9.1 a2).1).trans a2,fun k o hk hn ht hr=>(hb3.block k (zg9.1 (a3 k o hk hn ht hr)).1).trans (a3 k o hk hn ht hr)⟩
      clear hb3 hP t0 t1 t2 t3 ho3 KPut
      obtain ⟨hR1,hR2,hR3,A4,c4,hBx,hOw⟩:=hP3.o.1
      have HBX:=zhy hBx
      have HOW:=zhy hOw
      have HR1:=zhy hR1
      have HR2:=zhy hR2
      have hcell:=hBx.cell
      have hszr:=hR1.size
      clear hBx hOw hR1 hR2
      gi_wp2_with (gi_at_builtin;refine wpListIn_append_own _ rfl _ _ 40 rfl w2.heap.size 5 i0 _ 1 1 Tryz.underlying40 hi hz0 hz1 hz2 rfl (by decide) _ Y.length (cel Y) rfl HOW.o ⟨g3,0,none⟩ (k+1) c3 (cel (qu n0 (k+1))) rfl (by simp [zo,qe]) (fun j u hj=>HO3.o.cells (g:=g3) rfl j u hj) (zia _) (by unfold maxLen;omega) (by omega) hszr ?_;intro v5 w5 ho5 hg5 _;obtain ⟨g5,c5,rfl⟩:=ownsRow_succ ho5;have hb5:Boxed w5 t 40 (.slice A4 Y.length c4):=HBX.o.kept hg5 (fun e=>zax HOW.o HBX.o (fun cs q e=>by injection e with _ e2;exact absurd e2 (by decide)) e.symm);have hc5:=hb5.cell;have hf5:=hb5.frozen;have HB5:=zhy hb5;have HG5:=zhy hg5;have HO5:=zhy ho5;clear hb5 hg5 ho5)
      have hlp':({ ({ lp with state:=.busy }:Loop) with state:=if (none:Option Code).isNone=true then .ready else .done,pending:=none }:Loop)=lp:=zek Q1.o Q2.o
      have hl6:(w5.setCell ⟨t,0,none⟩ (.slice (some ⟨g5,0,none⟩) (Y.length+(k+1)) c5)).heap[W.heap.size+1]?=some (.loop { lp with state:=.busy }):=
       (Below.heap_setCell w5 ⟨t,0,none⟩ _ (W.heap.size+1) (by show W.heap.size+1≠t;omega)).trans ((HG5.o.block _ (zg9.1 hP3.o.2.1).1 (fun e=>zax HOW.o hP3.o.2.1 (fun cs q e=>by cases e) e.symm)).trans hP3.o.2.1)
      have hRy6:Ry t w2 (Y++zan fx n0) (w5.setCell ⟨t,0,none⟩ (.slice (some ⟨g5,0,none⟩) (Y.length+(k+1)) c5)):=by
       have hlen:(Y++zan fx n0).length=Y.length+(k+1):=by rw [HK.o.1,HK.o.2.2,List.length_append,qe]
       refine ⟨zwm (HR1.o.andThen HG5.o (fun j hj=>.inl (HOW.o.lt j hj).1)) (.inr rfl) _,fun y hy=>?_,hR3,some ⟨g5,0,none⟩,c5,?_,?_⟩
       ·rcases List.mem_append.1 hy with hy | hy
        ·exact HR2.o y hy
        ·rw [HK.o.1,HK.o.2.2] at hy;exact qr _ _ y hy
       ·rw [hlen];exact HB5.o.set _
       ·rw [hlen,zb9,HK.o.1,HK.o.2.2];exact ownsRow_setCell_below HO5.o (show (⟨t,0,none⟩:Addr).block<_ from hR3) _
      refine ⟨_,_,run_endRound none hl6,.inl ⟨rfl,?_⟩⟩
      rw [hlp']
      refine ⟨hRy6.putR hl6 (by omega) _,World.putObj_heap_same (zg9.1 hl6).1,fun k o hk hn ht hr=>?_⟩
      have h3:=hP3.o.2.2 k o hk hn ht hr
      exact (World.putObj_heap_other hr).trans ((Below.heap_setCell w5 ⟨t,0,none⟩ _ k ht).trans ((HG5.o.block _ (zg9.1 h3).1 (fun e=>zax HOW.o h3 hn e.symm)).trans h3))
     have hrn:((W.alloc (.deferred (some []))).alloc (.loop lp)).heap[W.heap.size+1]?=some (.loop lp):=by have:=World.alloc_heap_new (W.alloc (.deferred (some []))) (.loop lp);rwa [qn] at this
     have hdn:((W.alloc (.deferred (some []))).alloc (.loop lp)).heap[W.heap.size]?=some (.deferred (some [])):=(Below.heap_alloc _ _ _ (by simp)).trans (World.alloc_heap_new W _);have hbl:Below W.heap.size W ((W.alloc (.deferred (some []))).alloc (.loop lp)):=qh.alloc (by simp) _;have hsl:((W.alloc (.deferred (some []))).alloc (.loop lp)).heap.size=W.heap.size+1+1:=by simp
     generalize (W.alloc (.deferred (some []))).alloc (.loop lp)=Wl at hrn hdn hbl hsl ⊢;have hbb:Below Wl.heap.size Wl (Wl.alloc (.cells #[.int .i64 fx,.int .i64 fy,.int .i64 fz,.slice A0 ns.length c0] 231)):=qh;have hbx:(Wl.alloc (.cells #[.int .i64 fx,.int .i64 fy,.int .i64 fz,.slice A0 ns.length c0] 231)).heap[Wl.heap.size]?=some (.cells #[.int .i64 fx,.int .i64 fy,.int .i64 fz,.slice A0 ns.length c0] 231 (0,0)):=World.alloc_heap_new Wl _;have hnr:zks (.cells #[.int .i64 fx,.int .i64 fy,.int .i64 fz,.slice A0 ns.length c0] 231 (0,0)):=fun cs q e=>by injection e with _ e2;exact absurd e2 (by decide)
     have HWW:Hid (Below W.heap.size W (Wl.alloc (.cells #[.int .i64 fx,.int .i64 fy,.int .i64 fz,.slice A0 ns.length c0] 231))):=hbl.trans (hbb.mono (by omega))
     have HRN:Hid ((Wl.alloc (.cells #[.int .i64 fx,.int .i64 fy,.int .i64 fz,.slice A0 ns.length c0] 231)).heap[W.heap.size+1]?=some (.loop lp)∧(Wl.alloc (.cells #[.int .i64 fx,.int .i64 fy,.int .i64 fz,.slice A0 ns.length c0] 231)).heap[W.heap.size]?=some (.deferred (some []))):=
      ⟨(hbb.block _ (by omega)).trans hrn,(hbb.block _ (by omega)).trans hdn⟩
     have hXl:=HA.o.2.2.1;have hns16:=HPUT.o.2.1;have hnsok:=HPUT.o.2.2;have htw:=HA.o.1.2.2.1
     refine (zsn 1 (W.heap.size+1) fx fy fz A0 c0 ns hrd.len (fun i W'=>Ry t w2 (X++(ns.take i).flatMap (zan fx)) W'∧W'.heap[W.heap.size+1]?=some (.loop lp)∧zwl t (W.heap.size+1) (Wl.alloc (.cells #[.int .i64 fx,.int .i64 fy,.int .i64 fz,.slice A0 ns.length c0] 231)) W'∧((ns.take i).flatMap (zan fx)).length≤3*i) (fun _=>False) Wl
      (fun i W' h=>⟨by rw [jf (h.2.2.1 _ _ hbx hnr (by omega) (by omega)),jf (h.2.2.1 _ _ hbx hnr (by omega) (by omega)),jf (h.2.2.1 _ _ hbx hnr (by omega) (by omega)),jf (h.2.2.1 _ _ hbx hnr (by omega) (by omega))];exact ⟨rfl,rfl,rfl,rfl⟩,hrd2.grown h.1.1 (fun ad h0 hl e=>hne2 ad h0 hl (by injection e))⟩)
      (fun i W' hi h=>(hY W' ns[i] _ h.2.1 h.1 (by rw [List.length_append];have:=h.2.2.2;(try dsimp only at hns16);omega) (hnsok _ (List.getElem_mem hi))) |> fun ⟨a1,a2,a3,a4,a5,a6⟩=>⟨a1,a2,a3,a4,a5,a6.mono fun e W'' hh=>hh.elim (fun q=>.inl ⟨q.1,by have:=q.2.1;rw [List.take_add_one,zg7 hi,List.flatMap_append,←List.append_assoc];simpa using this,q.2.2.1,fun k o hk hn ht hr=>q.2.2.2 k o (h.2.2.1 k o hk hn ht hr) hn ht hr,by rw [List.take_add_one,zg7 hi,List.flatMap_append,List.length_append];have h5:=h.2.2.2;obtain ⟨k,hk,hk1,hk3,hpe,hpl⟩:=HPUT.o.1 _ (hnsok _ (List.getElem_mem hi));have e9:(((some ns[i]).toList).flatMap (zan fx)).length≤3:=(by (try dsimp only at hk);rw [hk];simp [hpl,qe];omega);omega⟩) (fun q=>q.2.elim)⟩)
      ⟨by simpa using HA.o.1.call HWW.o,HRN.o.1,fun k o hk _ _ _=>hk,by simp⟩).mono ?_
     rintro e W4 ⟨⟨v4,rfl⟩,hI4 | hJ4⟩
     ·obtain ⟨hr4,hl4,hp4,hy4⟩:=hI4;have hend:=run_endLoop (P:=Tryz.prog) hl4 (by rw [q1];simp);rw [q2] at hend;refine ⟨none,_,hend,?_⟩
      have H7:Hid (Ry t w2 (X++zjq ((fx,fy,fz),ns)) (W4.putObj (W.heap.size+1) (.loop { lp with state:=.exhausted,pending:=none }))∧X++zjq ((fx,fy,fz),ns)=((PT m).take (j+1)).flatMap zjq∧(X++zjq ((fx,fy,fz),ns)).length≤60*(j+1) ∧
        (∀D∈W.heap.size::Ds,(W4.putObj (W.heap.size+1) (.loop { lp with state:=.exhausted,pending:=none })).heap[D]?=some (.deferred (some []))∧w2.heap.size≤D)∧(W.heap.size::Ds).Nodup):=by
       obtain ⟨a1,a2,a3,a4,a5⟩:=HA.o
       refine ⟨?_,by rw [zi7 HF.o,←a2],?_,fun D hD=>?_,List.nodup_cons.2 ⟨fun h=>?_,a5⟩⟩
       ·have:=hr4.putR hl4 (by omega) (.loop { lp with state:=.exhausted,pending:=none })
        rw [List.take_length] at this;exact this
       ·rw [List.take_length] at hy4;rw [List.length_append,zjq];(try dsimp only at hns16 ⊢);omega
       ·rcases List.mem_cons.1 hD with rfl | hD
        ·exact ⟨(World.putObj_heap_other (by omega)).trans (hp4 _ _ HRN.o.2 (fun cs q e=>by cases e) (by omega) (by omega)),hsz2⟩
        ·have hlt:=(zg9.1 (a4 D hD).1).1
         have h3:=(a4 D hD).2
         exact ⟨(World.putObj_heap_other (by omega)).trans (hp4 D _ ((HWW.o.block D hlt).trans (a4 D hD).1) (fun cs q e=>by cases e) (by omega) (by omega)),h3⟩
       ·have hlt:=(zg9.1 (a4 _ h).1).1
        omega
      generalize W4.putObj (W.heap.size+1) (.loop { lp with state:=.exhausted,pending:=none })=W5 at H7 ⊢;clear hend hl4 hr4 hp4 HRN HWW hbb hbx hY;dsimp only;gi_wp2;exact ⟨⟨j+1,_,_,_,_,_,_,_,_,_,_,_,_,_,_,_,_,_,_,_,_,_,_,_,_,_,_,_,_,(W.heap.size::Ds),_,by omega,rfl,H7.o⟩,by simp [intOf];omega⟩
     ·exact hJ4.elim
   ·obtain rfl:j=9:=by omega
    obtain ⟨⟨r1,r2,r3,A4,c4,hBx,hOw⟩,hX,hXl,hD,hN⟩:=HA.o;have hcell:=hBx.cell
    have HE:Hid (Below w.heap.size w W∧W.ownsRow w2.heap.size 5 1 (.slice A4 X.length c4) X.length (cel X)∧X=mL m):=by
     refine ⟨?_,hOw,?_⟩
     ·have hs2:=HB2.o.size;exact ⟨r1.os.trans HB2.o.os,r1.tape.trans HB2.o.tape,r1.output.trans HB2.o.output,Nat.le_trans hs2 r1.size,fun i hi=>(r1.block i (by omega) (fun e=>by injection e with e;omega)).trans (HB2.o.block i hi)⟩
     ·rw [qeu HM.o,hX,List.take_of_length_le (by rw [zjy];omega)]
    have HD:=zhy (And.intro hD hN);clear hOw hX hD hN hBx r1;gi_wp2;exact zor w w2.heap.size A4 c4 X Ds _ _ (by rfl) (by rfl) (by have:=HB2.o.size;omega) HE.o.2.1 HE.o.1 HD.o.1 HD.o.2 HE.o.2.2
end Go.Proofs.YtnjgkkoiamiaaaaGreatDoor
