import Derived.Test.YtnjgkkoiamiaaaaGreatDoorVta1
import Derived.Test.YtnjgkkoiamiaaaaGreatDoorVta7
import Derived.Test.YtnjgkkoiamiaaaaGreatDoorVta3
import Derived.ArgAppend
import Derived.Laws.Cover3
import Derived.Test.YtnjgkkoiamiaaaaGreatDoorVta6
import Derived.Test.YtnjgkkoiamiaaaaGreatDoorVta8
import Derived.Test.YtnjgkkoiamiaaaaGreatDoorVta4
set_option maxRecDepth 100000
set_option maxHeartbeats 16000000
set_option linter.unusedSimpArgs false
set_option linter.unusedVariables false
namespace Go.Proofs.YtnjgkkoiamiaaaaGreatDoor
open Go.RowKit
section
variable {P : Program} {ops : Array Oper} {Q : Exit → Act → World → Prop} {md : Region.Mode} {S : World → Prop} {brk : List Nat}
def zee (brk:List Nat) (listed:Array Bool):Bool:=brk.any fun j=>listed.getD j false
def wpL (P:Program) (md:Region.Mode) (ops:Array Oper) (Q:Exit→Act→World→Prop) (S:World→Prop) (brk:List Nat):Nat→Array Bool→Act→World→Prop
 | 0,listed,a,w=>Region.ready md ops listed=[]∧Q .normal a w
 | n+1,listed,a,w=>(Region.ready md ops listed=[]→Q .normal a w) ∧
  ∀i∈Region.ready md ops listed,wpOp P ops Q i (fun b v=>(zee brk (listed.setIfInBounds i true)=true∨S v)∧wpL P md ops Q S brk n (listed.setIfInBounds i true) b v) a w
theorem zjt:∀(n:Nat) (listed:Array Bool) (a:Act) (w:World),wpL P md ops Q S brk n listed a w→wpAny P md ops Q n listed a w
 | 0,_,_,_,h=>h
 | n+1,_,_,_,h=>⟨h.1,fun i hi=>wpOp_mono (fun b v k=>zjt n _ b v k.2) (h.2 i hi)⟩
theorem zbe {i:Nat} {listed:Array Bool} (h:brk.contains i=false):zee brk (listed.setIfInBounds i true)=zee brk listed:=by
 unfold zee;induction brk with
 | nil=>rfl
 | cons j l ih =>
  rw [List.contains_cons,Bool.or_eq_false_iff] at h;rw [List.any_cons,List.any_cons,ih h.2,getD_set_ne false (fun e=>by rw [e] at h;simp at h)]
theorem ztl {i:Nat} {oi:Oper} {v:Value} (hi:ops[i]?=some oi) (hs:Region.noSelect ops=true) (hQ:∀c a w,Q (.panic c) (a.put oi.dst v) w→Q (.panic c) a w) (hb:brk.contains i=false) :
  ∀(n:Nat) (listed:Array Bool) (a:Act) (w:World),
   (∀j oj,ops[j]?=some oj→j≠i→listed.getD j true=false→(∀e∈oj.after,Region.binds md e=true→e.on≠i)→oi.apart ops oj=true) →
   i∈Region.ready md ops listed→YieldsIf P ops (fun _=>True) oi v a→(zee brk listed=true∨S w) →
   wpL P md ops Q S brk n (listed.setIfInBounds i true) (a.put oi.dst v) w→wpL P md ops Q S brk (n+1) listed a w:=by
 intro n;induction n with
 | zero =>
  intro listed a w _ hr hy hS H;refine ⟨fun h=>(by rw [h] at hr;cases hr),fun j hj=>?_⟩;by_cases hji:j=i
  ·subst hji;exact hy.wpOp hi trivial ⟨by rw [zbe hb];exact hS,H⟩
  ·have:=ready_mono hj hji;rw [H.1] at this;cases this
 | succ n ih =>
  intro listed a w hfree hr hy hS H;refine ⟨fun h=>(by rw [h] at hr;cases hr),fun j hj=>?_⟩;by_cases hji:j=i
  ·subst hji;exact hy.wpOp hi trivial ⟨by rw [zbe hb];exact hS,H⟩
  ·obtain ⟨hjun,oj,hoj,hall⟩:=mem_ready.1 hj;have hun:=(mem_ready.1 hr).1
   have hno:∀e∈oj.after,Region.binds md e=true→e.on≠i:=by
    intro e he hbd heq;have h1:=hall e he hbd;rw [heq] at h1;rcases Nat.lt_or_ge i listed.size with h' | h'
    ·simp [h'] at hun h1;rw [hun] at h1;cases h1
    ·simp [Array.getElem?_eq_none h'] at h1
   refine wpOp_mono (fun b u k=>⟨?_,ih (listed.setIfInBounds j true) b u (fun t ot ht hti htn hto=>hfree t ot ht hti ?_ hto) (ready_mono hr (Ne.symm hji)) k.1 ?_ ?_⟩)
    (wpOp_putIf hoj (hfree j oj hoj hji hjun hno) (fun cs b=>Region.noSelect_spec hs i oi cs b hi) (fun cs b=>Region.noSelect_spec hs j oj cs b hoj) hQ hy (H.2 j (ready_mono hj hji)))
   ·have:=k.2.1;rw [Array.setIfInBounds_comm _ _ (Ne.symm hji),zbe hb] at this;exact this
   ·by_cases hjt:j=t
    ·subst hjt;exact hjun
    ·rw [getD_set_ne true hjt] at htn;exact htn
   ·have:=k.2.1;rw [Array.setIfInBounds_comm _ _ (Ne.symm hji),zbe hb] at this;exact this
   ·rw [Array.setIfInBounds_comm _ _ hji];exact k.2.2
theorem zth {i:Nat} {oi:Oper} {v:Value} (hi:ops[i]?=some oi) (hs:Region.noSelect ops=true) (hQ:∀c a w,Q (.panic c) (a.put oi.dst v) w→Q (.panic c) a w) (hb:brk.contains i=false)
  (hw:∀j oj,ops[j]?=some oj→brk.contains j=true→∃e∈oj.after,Region.binds md e=true∧e.on=i) :
  ∀(n:Nat) (listed:Array Bool) (a:Act) (w:World),
   (∀j oj,ops[j]?=some oj→j≠i→listed.getD j true=false→(∀e∈oj.after,Region.binds md e=true→e.on≠i)→oi.apart ops oj=true) →
   i∈Region.ready md ops listed→YieldsIf P ops S oi v a→S w→zee brk listed=false →
   wpL P md ops Q S brk n (listed.setIfInBounds i true) (a.put oi.dst v) w→wpL P md ops Q S brk (n+1) listed a w:=by
 intro n;induction n with
 | zero =>
  intro listed a w _ hr hy hS hB H;refine ⟨fun h=>(by rw [h] at hr;cases hr),fun j hj=>?_⟩;by_cases hji:j=i
  ·subst hji;exact hy.wpOp hi hS ⟨.inr hS,H⟩
  ·have:=ready_mono hj hji;rw [H.1] at this;cases this
 | succ n ih =>
  intro listed a w hfree hr hy hS hB H;refine ⟨fun h=>(by rw [h] at hr;cases hr),fun j hj=>?_⟩;by_cases hji:j=i
  ·subst hji;exact hy.wpOp hi hS ⟨.inr hS,H⟩
  ·obtain ⟨hjun,oj,hoj,hall⟩:=mem_ready.1 hj;have hun:=(mem_ready.1 hr).1
   have hno:∀e∈oj.after,Region.binds md e=true→e.on≠i:=by
    intro e he hbd heq;have h1:=hall e he hbd;rw [heq] at h1;rcases Nat.lt_or_ge i listed.size with h' | h'
    ·simp [h'] at hun h1;rw [hun] at h1;cases h1
    ·simp [Array.getElem?_eq_none h'] at h1
   have hjb:brk.contains j=false:=by
    cases hc:brk.contains j with
    | false=>rfl
    | true =>
     obtain ⟨e,he,h1,h2⟩:=hw j oj hoj hc;exact absurd h2 (hno e he h1)
   have hB2:zee brk (listed.setIfInBounds j true)=false:=by rw [zbe hjb];exact hB
   have hSk:∀u,(zee brk ((listed.setIfInBounds i true).setIfInBounds j true)=true∨S u)→S u:=by
    intro u h;rw [Array.setIfInBounds_comm _ _ (Ne.symm hji),zbe hb,hB2] at h;rcases h with h | h
    ·cases h
    ·exact h
   refine wpOp_mono (fun b u k=>⟨.inr (hSk u k.2.1),ih (listed.setIfInBounds j true) b u (fun t ot ht hti htn hto=>hfree t ot ht hti ?_ hto) (ready_mono hr (Ne.symm hji)) k.1 (hSk u k.2.1) hB2 ?_⟩)
    (wpOp_putIf hoj (hfree j oj hoj hji hjun hno) (fun cs b=>Region.noSelect_spec hs i oi cs b hi) (fun cs b=>Region.noSelect_spec hs j oj cs b hoj) hQ hy (H.2 j (ready_mono hj hji)))
   ·by_cases hjt:j=t
    ·subst hjt;exact hjun
    ·rw [getD_set_ne true hjt] at htn;exact htn
   ·rw [Array.setIfInBounds_comm _ _ hji];exact k.2.2
def zyh (md:Region.Mode) (ops:Array Oper) (brk:List Nat) (i:Nat):Bool:=(List.range ops.size).all fun j=>!brk.contains j||((ops[j]?).map fun o=>o.after.any fun e=>Region.binds md e&&e.on==i).getD true
theorem zno {i:Nat} (h:zyh md ops brk i=true) (j:Nat) (oj:Oper) (hj:ops[j]?=some oj) (hb:brk.contains j=true):∃e∈oj.after,Region.binds md e=true∧e.on=i:=by
 unfold zyh at h;rw [List.all_eq_true] at h;have h1:=h j (List.mem_range.2 (zg9.1 hj).1);rw [hb,hj] at h1;simp only [Bool.not_true,Bool.false_or,Option.map_some,Option.getD_some,Array.any_eq_true] at h1;obtain ⟨q,hq,h2⟩:=h1;rw [Bool.and_eq_true,beq_iff_eq] at h2;exact ⟨_,Array.getElem_mem hq,h2⟩
theorem qq {i:Nat} {oi:Oper} {v:Value} {n:Nat} {listed:Array Bool} {a:Act} {w:World} (hi:ops[i]?=some oi) (hs:(Region.noSelect ops&&(!brk.contains i&&(zyh md ops brk i&&(Region.free md ops listed i&&((Region.ready md ops listed).contains i&&!zee brk listed)))))=true)
  (hQ:∀c a w,Q (.panic c) (a.put oi.dst v) w→Q (.panic c) a w) (hy:YieldsIf P ops S oi v a) (hS:S w) (h:wpL P md ops Q S brk n (listed.setIfInBounds i true) (a.put oi.dst v) w):wpL P md ops Q S brk (n+1) listed a w:=by
 simp only [Bool.and_eq_true,Bool.not_eq_true'] at hs;obtain ⟨h1,h2,h3,h4,h5,h6⟩:=hs;exact zth hi h1 hQ h2 (zno h3) n listed a w (Region.free_spec hi h4) (by simpa using h5) hy hS h6 h
theorem qd {i:Nat} {oi:Oper} {v:Value} {n:Nat} {listed:Array Bool} {a:Act} {w:World} (hi:ops[i]?=some oi) (hs:(Region.noSelect ops&&(!brk.contains i&&(Region.free md ops listed i&&(Region.ready md ops listed).contains i)))=true)
  (hQ:∀c a w,Q (.panic c) (a.put oi.dst v) w→Q (.panic c) a w) (hy:YieldsIf P ops (fun _=>True) oi v a) (hS:zee brk listed=true∨S w) (h:wpL P md ops Q S brk n (listed.setIfInBounds i true) (a.put oi.dst v) w):wpL P md ops Q S brk (n+1) listed a w:=by
 simp only [Bool.and_eq_true,Bool.not_eq_true'] at hs;obtain ⟨h1,h2,h4,h5⟩:=hs;exact ztl hi h1 hQ h2 n listed a w (Region.free_spec hi h4) (by simpa using h5) hy hS h
theorem jm {listed:Array Bool} {a:Act} {w:World} (hr:Region.ready md ops listed=[]) (h:Q .normal a w):∀n,wpL P md ops Q S brk n listed a w
 | 0=>⟨hr,h⟩
 | _+1=>⟨fun _=>h,by rw [hr];simp⟩
def zad (P:Program) (md:Region.Mode) (ops:Array Oper) (Q:Exit→Act→World→Prop) (S:World→Prop) (brk:List Nat) (n:Nat) (listed:Array Bool) (a:Act) (w:World) (rs:List Nat):Prop:=
 ∀i∈rs,wpOp P ops Q i (fun b v=>(zee brk (listed.setIfInBounds i true)=true∨S v)∧wpL P md ops Q S brk n (listed.setIfInBounds i true) b v) a w
theorem zad.nil {n:Nat} {listed:Array Bool} {a:Act} {w:World}:zad P md ops Q S brk n listed a w []:=fun _ h=>by cases h
theorem zad.cons {n:Nat} {listed:Array Bool} {a:Act} {w:World} {i:Nat} {o:Oper} {rs:List Nat} (ho:ops[i]?=some o)
  (h:∀K:Act→World→Prop,Shut (∀b v,S v→(S v→wpL P md ops Q S brk n (listed.setIfInBounds i true) b v)→K b v)→if Region.wanted o (yielded ops a.tmps)=true then Oper.wp P o a w K Q else K (a.put o.dst undef) w)
  (hs:zad P md ops Q S brk n listed a w rs):zad P md ops Q S brk n listed a w (i::rs):=fun j hj=>by
 rcases List.mem_cons.1 hj with rfl | hj
 ·exact wpOp_step ho fun K hK=>h K fun b v hS hW=>hK b v ⟨.inr hS,hW hS⟩
 ·exact hs j hj
theorem zad.late {n:Nat} {listed:Array Bool} {a:Act} {w:World} {i:Nat} {o:Oper} {rs:List Nat} (ho:ops[i]?=some o) (hb:zee brk (listed.setIfInBounds i true)=true)
  (h:∀K:Act→World→Prop,Shut (∀b v,wpL P md ops Q S brk n (listed.setIfInBounds i true) b v→K b v)→if Region.wanted o (yielded ops a.tmps)=true then Oper.wp P o a w K Q else K (a.put o.dst undef) w)
  (hs:zad P md ops Q S brk n listed a w rs):zad P md ops Q S brk n listed a w (i::rs):=fun j hj=>by
 rcases List.mem_cons.1 hj with rfl | hj
 ·exact wpOp_step ho fun K hK=>h K fun b v hW=>hK b v ⟨.inl hb,hW⟩
 ·exact hs j hj
theorem qp {rs:List Nat} {n:Nat} {listed:Array Bool} {a:Act} {w:World} (hr:Region.ready md ops listed=rs) (hne:rs≠[]) (h:zad P md ops Q S brk n listed a w rs):wpL P md ops Q S brk (n+1) listed a w:=
 ⟨fun h0=>absurd (hr▸h0) hne,hr▸h⟩
theorem zu {id:Nat} {a:Act} {w:World} (brk:List Nat) (hm:P.follows .mixedOrders=true) (hS:S w.drew)
  (h:S w.drew→wpL P .any ops Q S brk ops.size (Array.replicate ops.size false) a w.drew):(Code.region id ops true).wp P Q a w:=
 wp_region_any hm (zjt _ _ _ _ (h hS))
end
abbrev fMz (B:Nat):Fct:=⟨fun w=>Mf w B∧Db w B Ma.zero Md.zero,fun _ _ h hb=>⟨h.1.keep hb,h.2.keep hb⟩⟩
def Wz (w:World) (lo:Nat) (z:Me):Prop:=(Byt z.m.a∧Byt z.m.l∧z.m.nums∧(∀x∈z.k,zt7 x)∧z.k.length=z.x.k)∧w.ownsRow lo 5 1 (.slice z.x.A z.m.a.length z.x.c) z.m.a.length (cel z.m.a) ∧
 w.ownsRow lo 5 1 (.slice z.x.B z.m.l.length z.x.d) z.m.l.length (cel z.m.l)∧w.ownsRow lo 57 3 (.slice z.x.D z.x.k z.x.e) z.x.k (cei z.k)
section
variable {w w' : World} {lo : Nat} {z : Me}
theorem Wz.ok (h:Wz w lo z):z.ok w:=⟨⟨qt h.2.1 h.1.1,qt h.2.2.1 h.1.2.1,h.1.2.2.1⟩,(Ri.of_own h.2.2.2 h.1.2.2.2.1).1,h.1.2.2.2.2⟩
theorem Wz.keep (h:Wz w lo z) (hb:Below w.heap.size w w'):Wz w' lo z:=⟨h.1,qb h.2.1 hb (Nat.le_refl _),qb h.2.2.1 hb (Nat.le_refl _),qb h.2.2.2 hb (Nat.le_refl _)⟩
theorem Wz.ow (h:Wz w lo z) {lo2 hi:Nat} (h1:lo2≤lo) (h2:w.heap.size≤hi):Owz w lo2 hi z:=⟨Rs.of_own h.2.1 h1 h2,Rs.of_own h.2.2.1 h1 h2,Rs.of_own h.2.2.2 h1 h2⟩
end
theorem zbg {w:World} {N B e size n:Nat} {v:Value} {xs:List Value} (h:w.ownsRow N e size v n xs) (hB:B<N) (y:Ma) (d:Md):(zpj w B y d).ownsRow N e size v n xs:=
 ownsRow_setCell_below (ownsRow_setCell_below (ownsRow_setCell_below (ownsRow_setCell_below h hB _) hB _) hB _) hB _
theorem Wz.put4 {w:World} {lo B:Nat} {z:Me} (h:Wz w lo z) (hB:B<lo) (y:Ma) (d:Md):Wz (zpj w B y d) lo z:=⟨h.1,zbg h.2.1 hB y d,zbg h.2.2.1 hB y d,zbg h.2.2.2 hB y d⟩
theorem zt1 (A:Option Addr) (c m:Nat) (l:List Int) (n:Int) (w:World) (hr:Rn w A c l) (hm:l.length=m):Calls Tryz.prog 78 #[.slice A m c,.int .i64 n] w fun e w'=>e=.returned (.bool (l.contains n))∧w=w':=by
 have hm9:m≤9223372036854775807:=by have:=hr.2.1;have:=hr.1;unfold maxLen at *;omega
 have HR:=zhy hr;have HM:=zhy hm;clear hr hm;go_enter Tryz.func78,Tryz.ntmps78;go_wp2_with fail;go_loopw [5] (fun iv wq=>∃i:Nat,i≤m∧iv=.int .i64 i∧w=wq∧Hid ((l.take i).contains n=false)) (fun iv _=>m-(intOf iv).toNat)
 case atStart=>exact ⟨0,by omega,rfl,rfl,zhy (by simp)⟩
 case round =>
  obtain ⟨i,hi,rfl,rfl,HT⟩:=hrel;by_cases h1:i<m
  ·obtain ⟨x,hx⟩:∃x,l[i]?=some x:=⟨_,zg7 (by rw [HM.o];exact h1)⟩;obtain ⟨ad,hA,y0⟩:=HR.o.at_ hx;subst hA;have HX:=zhy hx;clear hx;by_cases hxn:x=n
   ·have HE:Hid (l.contains n=true):=zhy (by rw [List.contains_iff_mem,←hxn];exact List.mem_of_getElem? HX.o);have e:(x==n)=true:=by simpa using hxn
    clear hxn;go_wp2_with fail;go_ret;exact ⟨by rw [HE.o];rfl,rfl⟩
   ·have e:(x==n)=false:=by simpa using hxn
    have HT2:Hid ((l.take (i+1)).contains n=false):=zhy (by
     have h:=HT.o;rw [List.take_add_one,HX.o];rw [←Bool.not_eq_true,List.contains_iff_mem] at h ⊢;simp only [Option.toList_some,List.mem_append,List.mem_singleton,not_or];exact ⟨h,fun e=>hxn e.symm⟩)
    clear hxn;go_wp2_with fail;go_roundw
    case rel=>exact ⟨i+1,by omega,by go_num,(by first | trivial | rfl),HT2⟩
    case measure=>simp [intOf];omega
  ·obtain rfl:m=i:=by omega
   have HE:Hid (l.contains n=false):=zhy (by have h:=HT.o;rwa [List.take_of_length_le (by rw [HM.o];exact Nat.le_refl _)] at h);go_wp2_with fail;go_ret;exact ⟨by rw [HE.o];rfl,rfl⟩
theorem zoc (x:Mc) (h:Mh) (L:List Ins) (n:Int) (w:World) (hr:Ri w x.D x.e L) (hk:L.length=x.k):Calls Tryz.prog 129 #[mv x h,.int .i64 n] w fun e w'=>e=.returned (.bool (zif L n))∧Below w.heap.size w w':=by
 obtain ⟨XA,xc,XB,xd,XD,m,xe⟩:=x;dsimp only at hr hk;have hm9:m≤9223372036854775807:=by have:=hr.len;omega
 have HM:=zhy hk;have S0:=zhy ((((Sx.start w).add (fT XD xe L) hr).mkM ⟨XA,xc,XB,xd,XD,m,xe⟩ h));obtain ⟨B,hB⟩:∃B,w.heap.size=B:=⟨_,rfl⟩;rw [hB] at S0;clear hr hk;go_enter Tryz.func129,Tryz.ntmps129;go_upto_region 1 with (fail);change Code.wp _ _ _ _ (w.alloc (zbk ⟨XA,xc,XB,xd,XD,m,xe⟩ h));generalize w.alloc (zbk ⟨XA,xc,XB,xd,XD,m,xe⟩ h)=w1 at S0 ⊢;have S1:=S0;clear S0;obtain ⟨-,⟨m0,m1,m2,m3,m4,m5,m6,m7,m8⟩,-⟩:=S1.o;dsimp only at m8;clear hB;go_wp2_with fail;go_loopw [5] (fun iv wq=>∃i:Nat,i≤m∧iv=.int .i64 i∧w1=wq∧Hid (zif (L.take i) n=false)) (fun iv _=>m-(intOf iv).toNat)
 case atStart=>exact ⟨0,by omega,rfl,rfl,zhy (by simp [zif])⟩
 case round =>
  obtain ⟨i,hi,rfl,rfl,HT⟩:=hrel;by_cases h1:i<m
  ·obtain ⟨⟨o,a,z⟩,hx⟩:∃x,L[i]?=some x:=⟨_,zg7 (by rw [HM.o];exact h1)⟩;obtain ⟨al,hA,k1,k2,k3⟩:=S1.o.2.2.1.at9 hx;subst hA;have HX:=zhy hx;clear hx k3
   have HS:Hid (zif (L.take (i+1)) n=(o==30&&a==n)):=zhy (by
    have h:=HT.o;unfold zif at h ⊢;rw [List.take_add_one,HX.o,List.any_append,h];simp)
   by_cases ho:o=30
   ·by_cases ha:a=n
    ·have HE:Hid (zif L n=true):=zhy (by
      unfold zif;rw [List.any_eq_true];exact ⟨_,List.mem_of_getElem? HX.o,by simp [ho,ha]⟩)
     have e1:(o==30)=true:=by simpa using ho
     have e2:(a==n)=true:=by simpa using ha
     clear ho ha;go_wp2_with fail;go_ret;exact ⟨by rw [HE.o];rfl,S1.o.1⟩
    ·have HT2:Hid (zif (L.take (i+1)) n=false):=zhy (by rw [HS.o];simp [ha]);have e1:(o==30)=true:=by simpa using ho
     have e2:(a==n)=false:=by simpa using ha
     clear ho ha;go_wp2_with fail;go_roundw
     case rel=>exact ⟨i+1,by omega,by go_num,(by first | trivial | rfl),HT2⟩
     case measure=>simp [intOf];omega
   ·have HT2:Hid (zif (L.take (i+1)) n=false):=zhy (by rw [HS.o];simp [ho]);have e1:(o==30)=false:=by simpa using ho
    clear ho;go_wp2_with fail;go_roundw
    case rel=>exact ⟨i+1,by omega,by go_num,(by first | trivial | rfl),HT2⟩
    case measure=>simp [intOf];omega
  ·obtain rfl:m=i:=by omega
   have HE:Hid (zif L n=false):=zhy (by have h:=HT.o;rwa [List.take_of_length_le (by rw [HM.o];exact Nat.le_refl _)] at h);go_wp2_with fail;go_ret;exact ⟨by rw [HE.o];rfl,S1.o.1⟩
def zgf (w w':World) (T:List Int×Int) (e:Ending):Prop:=∃A' c',e=.returned (.tuple #[.slice A' T.1.length c',.int .i64 T.2])∧w'.ownsRow w.heap.size 3 1 (.slice A' T.1.length c') T.1.length (ci9 T.1)∧Below w.heap.size w w'
theorem zgf.err {w w':World} {T:List Int×Int} {e:Int} (hT:T=([],e)) (hb:Below w.heap.size w w'):zgf w w' T (.returned (.tuple #[.slice none 0 0,.int .i64 e])):=by
 subst hT;exact ⟨none,0,rfl,World.ownsRow_nil _ _ _ _,hb⟩
theorem zh9 (w:World) (x:Int):Rn (w.alloc (.cells #[.int .i64 x] 3)) (some ⟨w.heap.size,0,none⟩) 1 [x]:=
 ⟨Nat.le_refl _,by unfold maxLen;omega,.inr ⟨_,rfl,fun i y hy=>by
  match i,hy with
  | 0,hy =>
   simp at hy;subst hy;simp [go_sem,Addr.add]⟩⟩
theorem zf7 (f:Nat→Bool) (j:Nat):qx ((List.range (j+1)).filter f)=qx ((List.range j).filter f)++(if f j then [(j:Int)] else []):=by
 rw [List.range_succ,List.filter_append,qx,List.map_append];cases h:f j<;>simp [h]
theorem zal (f:Nat→Bool) (j:Nat):(qx ((List.range j).filter f)).length≤j:=by
 rw [List.length_map];have:=List.length_filter_le f (List.range j);rw [List.length_range] at this;exact this
theorem zdj (y:Ma) (d:Md) (k:Int) (w:World) (hq:Hq w y d) (bs:d.s.length≤1000):Calls Tryz.prog 77 #[dv y d,.int .i64 k] w fun e w'=>zgf w w' (zfv d k) e:=by
 obtain ⟨G,gc,P,pc,AA,cc,Z⟩:=y;have hzl:=hq.zlen;dsimp only at hzl;obtain ⟨sn,hsn⟩:∃sn,d.s.length=sn:=⟨_,rfl⟩;have HSN:=zhy hsn;rw [hsn] at bs;have S0:=zhy ((((Sx.start w).add (fQm ⟨G,gc,P,pc,AA,cc,Z⟩ d) hq).mkD ⟨G,gc,P,pc,AA,cc,Z⟩ d));have HZL:=zhy (hzl.trans hsn);obtain ⟨T,hT⟩:∃T,zfv d k=T:=⟨_,rfl⟩;have HT:=zhy hT;rw [hT];obtain ⟨B,hB⟩:∃B,w.heap.size=B:=⟨_,rfl⟩;have HBB:=zhy hB;rw [hB] at S0;clear hq hT hzl hsn;go_enter Tryz.func77,Tryz.ntmps77;go_upto_region 1 with (fail);change Code.wp _ _ _ _ (w.alloc (zn ⟨G,gc,P,pc,AA,cc,Z⟩ d));generalize w.alloc (zn ⟨G,gc,P,pc,AA,cc,Z⟩ d)=w1 at S0 ⊢;have S1:=S0;clear S0 hB;obtain ⟨-,⟨d0,d1,d2,d3,d4⟩,-⟩:=S1.o;dsimp only at d1 d2 d3;rw [HSN.o] at d3;by_cases hk0:k<0
 ·have HE:=zhy (zgf.err (w:=w) (w':=w1) (T:=T) (e:=2) (by rw [←HT.o,zfv,if_pos (.inl hk0)]) S1.o.1);go_wp2_with fail;go_ret2;exact HE.o
 by_cases hks:(sn:Int)≤k
 ·have HE:=zhy (zgf.err (w:=w) (w':=w1) (T:=T) (e:=2) (by rw [←HT.o,zfv,if_pos (.inr (by rw [HSN.o];exact hks))]) S1.o.1);go_wp2_with fail;go_ret2;exact HE.o
 obtain ⟨k,rfl⟩:∃k':Nat,k=k':=⟨k.toNat,by omega⟩;have hks2:k<sn:=by omega
 obtain ⟨ad8,hA8,hat,hok⟩:=S1.o.2.2.1.2.2.1.at_ (i:=k) (by rw [HZL.o];exact hks2);have hme:=S1.o.2.2.1.zat (i:=k) (by rw [HZL.o];exact hks2) (by rw [HSN.o];exact hks2);dsimp only at hA8 hat hok hme;obtain ⟨zz,hzz⟩:∃zz,Z[k]'(by rw [HZL.o];exact hks2)=zz:=⟨_,rfl⟩;rw [hzz] at hat hok hme;obtain ⟨⟨XA,xc,XB,xd,XD,xk,xe⟩,h,L⟩:=zz;subst hA8;have HCO:Hid (zl d k=L):=zhy (by rw [zl,zg7 (by rw [HSN.o];exact hks2),hme];rfl)
 have HTM:Hid (T=if za3 L sn=true then ([],2) else (qx ((List.range sn).filter (e11 d k)),0)):=zhy (by
  rw [←HT.o,zfv,if_neg (by rw [HSN.o];omega),Int.toNat_natCast,HCO.o,HSN.o])
 obtain ⟨hH,hRi,hxk⟩:=hok;dsimp only at hH hRi hxk;obtain ⟨g0,g1,g2,g3,g4,g5,g6,g7⟩:=hat;dsimp only at g0 g1 g2 g3 g4 g5 g6 g7;obtain ⟨m,hm⟩:∃m,L.length=m:=⟨_,rfl⟩;obtain rfl:m=xk:=by rw [←hm];exact hxk
 have HLm:=zhy hm;have hm9:m≤9223372036854775807:=by have:=hRi.len;omega
 have hks3:k<sn:=hks2;clear hzz hme hks hxk hm;go_upto_region 4 with (fail);have S2:=zhy ((S1.o.add (fT XD xe L) hRi).mkM ⟨XA,xc,XB,xd,XD,m,xe⟩ h);obtain ⟨D,hD⟩:∃D,w1.heap.size=D:=⟨_,rfl⟩;rw [hD] at S2 ⊢;have S2:Hid (Sx w (w1.alloc (zbk ⟨XA,xc,XB,xd,XD,m,xe⟩ h)) [fM D ⟨XA,xc,XB,xd,XD,m,xe⟩ h,fT XD xe L,fD B ⟨G,gc,P,pc,(some ad8),cc,Z⟩ d,fQm ⟨G,gc,P,pc,(some ad8),cc,Z⟩ d]):=zhy S2.o;change Code.wp _ _ _ _ (w1.alloc (zbk ⟨XA,xc,XB,xd,XD,m,xe⟩ h));generalize w1.alloc (zbk ⟨XA,xc,XB,xd,XD,m,xe⟩ h)=w2 at S2 ⊢;clear g0 g1 g2 g3 g4 g5 g6 g7 d0 d1 d2 d3 d4 hD S1 hRi hH;go_wp2_with fail;go_loopw [7] (fun iv wq=>∃i:Nat,i≤m∧iv=.int .i64 i∧Hid (za3 (L.take i) sn=false)∧Hid (Sx w wq [fM D ⟨XA,xc,XB,xd,XD,m,xe⟩ h,fT XD xe L,fD B ⟨G,gc,P,pc,(some ad8),cc,Z⟩ d,fQm ⟨G,gc,P,pc,(some ad8),cc,Z⟩ d])) (fun iv _=>m-(intOf iv).toNat)
 case atStart=>exact ⟨0,by omega,rfl,zhy (by simp [za3]),S2⟩
 case round =>
  clear S2;obtain ⟨i,hi,rfl,HI,SQ⟩:=hrel;rename World=>wq;obtain ⟨-,⟨m0,m1,m2,m3,m4,m5,m6,m7,m8⟩,-,⟨d0,d1,d2,d3,d4⟩,-⟩:=SQ.o;dsimp only at m1 m2 m8 d1 d2 d3;rw [HSN.o] at d3;by_cases h1:i<m
  ·obtain ⟨⟨o,a,z⟩,hx⟩:∃x,L[i]?=some x:=⟨_,zg7 (by rw [HLm.o];exact h1)⟩;obtain ⟨al,hA,k1,k2,k3⟩:=SQ.o.2.2.1.at9 hx;subst hA;have HX:=zhy hx
   have HS:Hid (za3 (L.take (i+1)) sn=(o==30&&(decide (a<0)||decide ((sn:Int)≤a)))):=zhy (by
    have h:=HI.o;unfold za3 at h ⊢;rw [List.take_add_one,HX.o,List.any_append,h];simp)
   have HBX:Hid ((o==30&&(decide (a<0)||decide ((sn:Int)≤a)))=true→T=([],2)):=zhy fun hb=>by
    have:za3 L sn=true:=by
     unfold za3;rw [List.any_eq_true];exact ⟨_,List.mem_of_getElem? HX.o,hb⟩
    rw [HTM.o,if_pos this]
   clear hx k3;by_cases ho:o=30
   ·have e1:(o==30)=true:=by simpa using ho
    by_cases ha:a<0
    ·have HE:=zhy (zgf.err (w:=w) (w':=wq) (T:=T) (e:=2) (HBX.o (by simp [ho,ha])) SQ.o.1);have e2:decide (a<0)=true:=by simpa using ha
     have HEB:=zhy (fun q=>zgf.err (w:=w) (w':=wq.drewN q) (T:=T) (e:=2) (HBX.o (by simp [ho,ha])) (qf SQ.o.1 q));clear ho;go_wp2_with fail;go_quiet (fail);go_wp2_with fail;go_ret2;exact HEB.o _
    ·have e2:decide (a<0)=false:=by simpa using ha
     by_cases hs:(sn:Int)≤a
     ·have e3:decide ((sn:Int)≤a)=true:=by simpa using hs
      have HEB:=zhy (fun q=>zgf.err (w:=w) (w':=wq.drewN q) (T:=T) (e:=2) (HBX.o (by simp [ho,hs])) (qf SQ.o.1 q));clear ho;go_wp2_with fail;go_quiet (fail);go_wp2_with fail;go_ret2;exact HEB.o _
     ·have e3:decide ((sn:Int)≤a)=false:=by simpa using hs
      have HI2:Hid (za3 (L.take (i+1)) sn=false):=zhy (by rw [HS.o,e2,e3];simp);have SQ2:=zhy (fun q=>SQ.o.drewN q);clear ho;go_wp2_with fail;go_quiet (fail);go_wp2_with fail;go_roundw
      case rel=>exact ⟨i+1,by omega,by go_num,HI2,zhy (SQ2.o _)⟩
      case measure=>simp [intOf];omega
   ·have e1:(o==30)=false:=by simpa using ho
    have HI2:Hid (za3 (L.take (i+1)) sn=false):=zhy (by rw [HS.o,e1];simp);have SQ2:=zhy (fun q=>SQ.o.drewN q);clear ho;go_wp2_with fail;go_quiet (fail);go_wp2_with fail;go_roundw
    case rel=>exact ⟨i+1,by omega,by go_num,HI2,zhy (SQ2.o _)⟩
    case measure=>simp [intOf];omega
  ·obtain rfl:m=i:=by omega
   have HNB:Hid (T=(qx ((List.range sn).filter (e11 d k)),0)):=zhy (by
    have h:=HI.o;rw [List.take_of_length_le (by rw [HLm.o];exact Nat.le_refl _)] at h;rw [HTM.o,if_neg (by rw [h];simp)])
   go_wp2_with fail;clear m0 m1 m2 m3 m4 m5 m6 m7 m8 d0 d1 d2 d3 d4;have HWS:Hid (w.heap.size≤wq.heap.size):=zhy SQ.o.1.size;go_loopw [8,9] (fun lv jv wz=>∃(j:Nat) (A1:Option Addr) (c1 n1:Nat),j≤sn∧jv=.int .i64 j∧lv=.slice A1 n1 c1∧n1≤j∧Hid (wz.ownsRow wq.heap.size 3 1 (.slice A1 n1 c1) n1 (ci9 (qx ((List.range j).filter (e11 d k)))))∧Hid (Below wq.heap.size wq wz)) (fun _ jv _=>sn-(intOf jv).toNat)
   case atStart=>exact ⟨0,none,0,0,by omega,rfl,rfl,by omega,zhy (World.ownsRow_nil _ _ _ _),zhy (Below.refl _ _)⟩
   case round =>
    obtain ⟨j,A1,c1,n1,hj,rfl,rfl,hn1,HO,HB⟩:=hrel;rename World=>wz;have SZ:=zhy (SQ.o.call HB.o);obtain ⟨-,⟨m0,m1,m2,m3,m4,m5,m6,m7,m8⟩,-,⟨d0,d1,d2,d3,d4⟩,-⟩:=SZ.o;dsimp only at m1 m2 m8 d1 d2 d3;rw [HSN.o] at d3;by_cases h1:j<sn
    ·have HCL:=zhy (zoc ⟨XA,xc,XB,xd,XD,m,xe⟩ h L j wz SZ.o.2.2.1 HLm.o);obtain ⟨v,hv⟩:∃v,zif L j=v:=⟨_,rfl⟩;have HEV:Hid (e11 d k j=v):=zhy (by rw [e11,HCO.o];exact hv);rw [hv] at HCL;clear hv;go_wp2_with fail;refine HCL.o.mono ?_;rintro r w9 ⟨rfl,hb⟩;have HO9:=zhy (qb HO.o hb (Nat.le_refl _));have HB9:=zhy (qc HB.o hb);clear hb HCL HO HB SZ m0 m1 m2 m3 m4 m5 m6 m7 m8 d0 d1 d2 d3 d4;have HFS:=zhy (zf7 (e11 d k) j);rw [Hid,HEV.o] at HFS;have HFS:=zhy HFS;cases v with
     | false =>
      have HO8:Hid (w9.ownsRow wq.heap.size 3 1 (.slice A1 n1 c1) n1 (ci9 (qx ((List.range (j+1)).filter (e11 d k))))):=zhy (by
       rw [HFS.o];simpa using HO9.o)
      go_wp2_with fail;go_roundw
      case rel=>exact ⟨j+1,A1,c1,n1,by omega,by go_num,rfl,by omega,HO8,HB9⟩
      case measure=>simp [intOf];omega
     | true =>
      go_wp2_with (at_builtin;refine zac _ rfl (.tmp 69) (.tmp 71) rfl wq.heap.size _ n1 (qx ((List.range j).filter (e11 d k))) rfl (HO9.o.alloc _) _ 1 1 [(j:Int)] rfl (zh9 w9 j) rfl (by omega) (by have:=HB9.o.size;simp;omega) ?_);intro A3 c3 w10 ho hb
      have HO8:Hid (w10.ownsRow wq.heap.size 3 1 (.slice A3 (n1+1) c3) (n1+1) (ci9 (qx ((List.range (j+1)).filter (e11 d k))))):=zhy (by
       rw [HFS.o];exact ho)
      have HB10:Hid (Below wq.heap.size wq w10):=zhy (HB9.o.trans ((qh.mono HB9.o.size).trans hb));clear ho hb HO9 HB9;go_wp2_with fail;go_roundw
      case rel=>exact ⟨j+1,A3,c3,n1+1,by omega,by go_num,rfl,by omega,HO8,HB10⟩
      case measure=>simp [intOf];omega
    ·obtain rfl:sn=j:=by omega
     have HOF:=zhy (qg HO.o HWS.o)
     have hnl:n1=(qx ((List.range sn).filter (e11 d k))).length:=by
      have:=HO.o.1;simp only [ci9,List.length_map] at this ⊢;omega
     have HNL:=zhy hnl;clear hnl;have HBW:=zhy SZ.o.1;go_wp2_with fail;go_ret2;exact ⟨A1,c1,by rw [HNB.o,←HNL.o];rfl,by rw [HNB.o];dsimp only;rw [←HNL.o];exact HOF.o,HBW.o⟩
def zj1:Value→Nat
 | .slice _ n _=>n
 | _=>0
theorem zhc (o : List Nat) (j : Nat) : (qx o).contains (j : Int) = o.contains j := by
  have h : (qx o).contains (j : Int) = true ↔ o.contains j = true := by
    rw [List.contains_iff_mem, List.contains_iff_mem, qx, List.mem_map]
    exact ⟨fun ⟨i, hi, he⟩ => by have : i = j := by omega
                                 rwa [← this], fun hj => ⟨j, hj, rfl⟩⟩
  cases h1 : o.contains j with
  | true => exact h.2 h1
  | false =>
    cases h2 : (qx o).contains (j : Int) with
    | false => rfl
    | true => rw [h.1 h2] at h1; cases h1
theorem zzz {e:Nat→Nat→Bool} {n:Nat} {o:List Nat} {k:Nat}:zih e n o k=(!(qx o).contains (k:Int)&&(qx ((List.range n).filter (e k))).all fun x=>(qx o).contains x):=by
 rw [zhc,zih];congr 1
 have h:((List.range n).all fun j=>!e k j||o.contains j)=true↔((qx ((List.range n).filter (e k))).all fun x=>(qx o).contains x)=true:=by
  simp only [List.all_eq_true,qx,List.mem_map,List.mem_filter,List.mem_range];constructor
  ·rintro h1 x ⟨j,⟨hj,he⟩,rfl⟩;have h2:=h1 j hj;rw [he] at h2;have h3:=zhc o j;rw [qx] at h3;rw [h3];simpa using h2
  ·intro h1 j hj;cases he:e k j with
   | false=>rfl
   | true =>
    have h2:=h1 j ⟨j,⟨hj,he⟩,rfl⟩;have h3:=zhc o j;rw [qx] at h3;rw [h3] at h2;simpa using h2
 generalize ((List.range n).all fun j=>!e k j||o.contains j)=a at h ⊢;generalize ((qx ((List.range n).filter (e k))).all fun x=>(qx o).contains x)=b at h ⊢;cases a<;>cases b<;>simp at h<;>rfl
theorem zqf {e:Nat→Nat→Bool} {n:Nat} {o:List Nat} {k:Nat} (h1:∀i,i<k→zih e n o i=false) (h2:zih e n o k=true) (hk:k<n):zna e n o=some k:=by
 unfold zna;rw [List.find?_range_eq_some];exact ⟨h2,List.mem_range.2 hk,fun i hi=>by rw [h1 i hi];rfl⟩
theorem zru {e:Nat→Nat→Bool} {n:Nat} {o:List Nat} (h1:∀i,i<n→zih e n o i=false):zna e n o=none:=by
 unfold zna;rw [List.find?_eq_none];intro i hi;rw [h1 i (List.mem_range.1 hi)];decide
theorem znl {l:List Int} {i:Nat} {x:Int} {f:Int→Bool} (hx:l[i]?=some x):(l.take (i+1)).all f=((l.take i).all f&&f x):=by
 rw [List.take_add_one,hx,List.all_append];simp
theorem zgo (y:Ma) (d:Md) (w:World) (hq:Hq w y d) (bs:d.s.length≤1000):Calls Tryz.prog 37 #[dv y d] w fun e w'=>zgf w w' (jg d) e:=by
 obtain ⟨sn,hsn⟩:∃sn,d.s.length=sn:=⟨_,rfl⟩;have HSN:=zhy hsn;have HBS:=zhy bs;rw [hsn] at bs;have S0:=zhy ((((Sx.start w).add (fQm y d) hq).mkD y d));obtain ⟨T,hT⟩:∃T,jg d=T:=⟨_,rfl⟩;have HT:=zhy hT;rw [hT];obtain ⟨B,hB⟩:∃B,w.heap.size=B:=⟨_,rfl⟩;rw [hB] at S0;clear hq hT hsn;go_enter Tryz.func37,Tryz.ntmps37;go_upto_region 1 with (fail);change Code.wp _ _ _ _ (w.alloc (zn y d));generalize w.alloc (zn y d)=w1 at S0 ⊢;have S1:=S0;clear S0 hB;go_wp2_with fail;go_loopw [4] (fun iv wq=>∃i:Nat,i≤sn∧iv=.int .i64 i∧Hid (∀k,k<i→za3 (zl d k) sn=false)∧Hid (Sx w wq [fD B y d,fQm y d])) (fun iv _=>sn-(intOf iv).toNat)
 case atStart=>exact ⟨0,by omega,rfl,zhy (fun k hk=>by omega),S1⟩
 case round =>
  clear S1;obtain ⟨i,hi,rfl,HI,SQ⟩:=hrel;rename World=>wq;obtain ⟨-,⟨d0,d1,d2,d3,d4⟩,-⟩:=SQ.o;rw [HSN.o] at d3;by_cases h1:i<sn
  ·have hwh:=zdj y d i wq SQ.o.2.2.1 HBS.o;rw [dv,HSN.o] at hwh;have HWH:=zhy hwh;clear hwh;cases hb:za3 (zl d i) sn with
   | true =>
    have hW:zfv d i=([],2):=by rw [zfv,if_neg (by rw [HSN.o];omega),Int.toNat_natCast,HSN.o,if_pos hb]
    rw [hW] at HWH
    have HTE:Hid (T=([],2)):=zhy (by
     rw [←HT.o,jg,if_pos];unfold zcm;rw [List.any_eq_true];obtain ⟨z,hz⟩:∃z,d.s[i]?=some z:=⟨_,zg7 (by rw [HSN.o];exact h1)⟩;refine ⟨z,List.mem_of_getElem? hz,?_⟩;rw [zl,hz] at hb;rw [HSN.o];exact hb)
    clear hb hW;go_wp2_with fail;refine HWH.o.mono ?_;rintro r w3 ⟨A3,c3,rfl,-,hb⟩;have HE:=zhy (zgf.err HTE.o (SQ.o.call hb).1);clear hb HWH SQ d0 d1 d2 d3 d4;go_wp2_with fail;go_ret2;exact HE.o
   | false =>
    have hW:(zfv d i).2=0:=by rw [zfv,if_neg (by rw [HSN.o];omega),Int.toNat_natCast,HSN.o,if_neg (by rw [hb];simp)]
    have HI2:Hid (∀k,k<i+1→za3 (zl d k) sn=false):=zhy (fun k hk=>by
     by_cases hki:k=i
     ·rw [hki];exact hb
     ·exact HI.o k (by omega))
    obtain ⟨W,hWW⟩:∃W,zfv d i=W:=⟨_,rfl⟩;rw [hWW] at HWH hW;have HW0:=zhy hW;clear hb hW hWW;go_wp2_with fail;refine HWH.o.mono ?_;rintro r w3 ⟨A3,c3,rfl,-,hb⟩;rw [HW0.o];have SQ2:=zhy (SQ.o.call hb);clear hb HWH SQ d0 d1 d2 d3 d4;go_wp2_with fail;go_roundw
    case rel=>exact ⟨i+1,by omega,by go_num,HI2,SQ2⟩
    case measure=>simp [intOf];omega
  ·obtain rfl:sn=i:=by omega
   have HBA:Hid (zcm d=false):=zhy (zhz fun k hk=>by rw [HSN.o];exact HI.o k (by rw [←HSN.o];exact hk));have HTO:Hid (T=match zly (e11 d) sn with | some o=>(qx o,0) | none=>([],110)):=zhy (by rw [←HT.o,jg,if_neg (by rw [HBA.o];simp),HSN.o];rfl);have HWS:Hid (w.heap.size≤wq.heap.size):=zhy SQ.o.1.size;go_wp2_with fail;clear d0 d1 d2 d3 d4;go_loopw [7] (fun lv wz=>∃(o:List Nat) (A7:Option Addr) (c7 n7:Nat),n7≤sn∧lv=.slice A7 n7 c7∧Hid (o.length=n7)∧Hid (zly (e11 d) sn=zj4 (e11 d) sn (sn-n7) o)∧Hid (wz.ownsRow wq.heap.size 3 1 (.slice A7 n7 c7) n7 (ci9 (qx o)))∧Hid (Below wq.heap.size wq wz)) (fun lv _=>sn-zj1 lv)
   case atStart=>exact ⟨[],none,0,0,by omega,rfl,zhy rfl,zhy rfl,zhy (World.ownsRow_nil _ _ _ _),zhy (Below.refl _ _)⟩
   case round =>
    obtain ⟨o,A7,c7,n7,hn7,rfl,HOL,HOD,HO,HB⟩:=hrel;rename World=>wz;have SZ:=zhy (SQ.o.call HB.o);obtain ⟨-,⟨d0,d1,d2,d3,d4⟩,-⟩:=SZ.o;rw [HSN.o] at d3;by_cases h1:n7<sn
    ·go_wp2_with fail;clear d0 d1 d2 d3 d4;go_loopw [8,9] (fun nv kv wx=>∃(kk:Nat) (nn:Int),kk≤sn∧kv=.int .i64 kk∧nv=.int .i64 nn∧Hid (nn=-1∧(∀i,i<kk→zih (e11 d) sn o i=false)∨∃j:Nat,j<sn∧nn=j∧zna (e11 d) sn o=some j)∧Hid (Below wz.heap.size wz wx)) (fun _ kv _=>sn-(intOf kv).toNat)
     case atStart=>exact ⟨0,-1,by omega,rfl,rfl,zhy (.inl ⟨rfl,fun i hi=>by omega⟩),zhy (Below.refl _ _)⟩
     case round =>
      obtain ⟨kk,nn,hkk,rfl,rfl,HN,HBX⟩:=hrel;rename World=>wx;have SX:=zhy (SZ.o.call HBX.o);obtain ⟨-,⟨d0,d1,d2,d3,d4⟩,-⟩:=SX.o;rw [HSN.o] at d3;by_cases h2:kk<sn
      ·by_cases h3:nn<0
       ·skip;obtain ⟨rfl,hall⟩:=HN.o.resolve_right (fun ⟨j,_,e,_⟩=>by omega);have HALL:=zhy hall;have hwh:=zdj y d kk wx SX.o.2.2.1 HBS.o;rw [zo0 HBA.o (by rw [HSN.o];exact h2),dv,HSN.o] at hwh;obtain ⟨W,hW⟩:∃W,qx ((List.range sn).filter (e11 d kk))=W:=⟨_,rfl⟩;rw [hW] at hwh;have HWW:=zhy hW;obtain ⟨lw,hlw⟩:∃lw,W.length=lw:=⟨_,rfl⟩;have HLW:=zhy hlw;have hlw9:lw≤sn:=by rw [←hlw,←hW];exact zal _ _
        have HWH:=zhy hwh;clear hwh hW hall h3 HN;go_wp2_with fail;refine HWH.o.mono ?_;rintro r w9 ⟨A9,c9,rfl,ho9,hb⟩;dsimp only at ho9 ⊢;rw [hlw] at ho9 ⊢;have HRW:Hid (Rn w9 A9 c9 W):=zhy (Rn.of_own ho9).1;have HBX9:=zhy (qc HBX.o hb);have HO9:=zhy (qb HO.o HBX9.o (Nat.le_refl _));have HRO:Hid (Rn w9 A7 c7 (qx o)):=zhy (Rn.of_own HO9.o).1;have HLO:Hid ((qx o).length=n7):=zhy (by rw [List.length_map];exact HOL.o);have HHAS:=zhy (fun x=>zt1 A7 c7 n7 (qx o) x w9 HRO.o HLO.o);clear ho9 hb HWH HBX SX d0 d1 d2 d3 d4 hlw;obtain ⟨v0,hv0⟩:∃v,(qx o).contains (kk:Int)=v:=⟨_,rfl⟩;have HV0:=zhy hv0;have HH0:=zhy (HHAS.o kk);rw [hv0] at HH0;clear hv0;go_wp2_with fail;refine HH0.o.mono ?_;rintro r w10 ⟨rfl,rfl⟩;clear HH0;go_wp2_with fail;go_loopw [12,13] (fun rv iv wv=>∃(i:Nat) (b:Bool),i≤lw∧iv=.int .i64 i∧rv=.bool b∧w9=wv∧Hid (b=(!v0&&(W.take i).all fun x=>(qx o).contains x))) (fun _ iv _=>lw-(intOf iv).toNat)
        case atStart=>exact ⟨0,!v0,by omega,rfl,rfl,rfl,zhy (by simp)⟩
        case round =>
         obtain ⟨i,b,hi,rfl,rfl,rfl,HBV⟩:=hrel;by_cases h5:i<lw
         ·obtain ⟨x,hx⟩:∃x,W[i]?=some x:=⟨_,zg7 (by rw [HLW.o];exact h5)⟩;have HAT:=zhy (znl (f:=fun x=>(qx o).contains x) hx);obtain ⟨ad,hA,y0⟩:=HRW.o.at_ hx;subst hA;clear hx;cases b with
          | false =>
           have HB2:Hid (false=(!v0&&(W.take (i+1)).all fun x=>(qx o).contains x)):=zhy (by
            rw [HAT.o];have h:=HBV.o;cases v0 with
            | true=>rfl
            | false =>
             simp only [Bool.not_false,Bool.true_and] at h ⊢;rw [←h];rfl)
           go_wp2_with fail;go_roundw
           case rel=>exact ⟨i+1,false,by omega,by go_num,rfl,(by first | trivial | rfl),HB2⟩
           case measure=>simp [intOf];omega
          | true =>
           obtain ⟨v1,hv1⟩:∃v,(qx o).contains x=v:=⟨_,rfl⟩
           have HB2:Hid (v1=(!v0&&(W.take (i+1)).all fun x=>(qx o).contains x)):=zhy (by
            rw [HAT.o,←Bool.and_assoc,←HBV.o,hv1];rfl)
           have HH1:=zhy (HHAS.o x);rw [hv1] at HH1;clear hv1;go_wp2_with fail;refine HH1.o.mono ?_;rintro r w11 ⟨rfl,rfl⟩;go_wp2_with fail;go_roundw
           case rel=>exact ⟨i+1,v1,by omega,by go_num,rfl,(by first | trivial | rfl),HB2⟩
           case measure=>simp [intOf];omega
         ·obtain rfl:lw=i:=by omega
          have HRD:Hid (zih (e11 d) sn o kk=b):=zhy (by
           rw [zzz,HWW.o,HV0.o];have h:=HBV.o;rw [List.take_of_length_le (by rw [HLW.o];exact Nat.le_refl _)] at h;exact h.symm)
          cases b with
          | true =>
           have HN2:Hid ((kk:Int)=-1∧(∀i,i<kk+1→zih (e11 d) sn o i=false)∨∃j:Nat,j<sn∧(kk:Int)=j∧zna (e11 d) sn o=some j):=zhy (.inr ⟨kk,h2,rfl,zqf HALL.o HRD.o h2⟩);go_wp2_with fail;go_roundw
           case rel=>exact ⟨kk+1,kk,by omega,by go_num,rfl,HN2,HBX9⟩
           case measure=>simp [intOf];omega
          | false =>
           have HN2:Hid ((-1:Int)=-1∧(∀i,i<kk+1→zih (e11 d) sn o i=false)∨∃j:Nat,j<sn∧(-1:Int)=j∧zna (e11 d) sn o=some j):=zhy (.inl ⟨rfl,fun i hi=>by
            by_cases hik:i=kk
            ·rw [hik];exact HRD.o
            ·exact HALL.o i (by omega)⟩)
           go_wp2_with fail;go_roundw
           case rel=>exact ⟨kk+1,-1,by omega,by go_num,rfl,HN2,HBX9⟩
           case measure=>simp [intOf];omega
       ·skip;obtain ⟨j,hj,rfl,hnx⟩:∃j:Nat,j<sn∧nn=j∧zna (e11 d) sn o=some j:=HN.o.resolve_left (fun h=>h3 (by omega));have HNX:=zhy hnx;clear hnx h3;have HO9:=zhy (qb HO.o HBX.o (Nat.le_refl _));have HB9:=zhy (qc HB.o HBX.o)
        have HOD2:Hid (zly (e11 d) sn=zj4 (e11 d) sn (sn-(n7+1)) (o++[j])):=zhy (by
         rw [HOD.o,show sn-n7=(sn-(n7+1))+1 by omega,zj4,HNX.o])
        have HOL2:Hid ((o++[j]).length=n7+1):=zhy (by rw [List.length_append,HOL.o];rfl);have hn9:n7+1≤1000000:=by omega
        clear HO HB HBX SX;go_wp2_with (at_builtin;refine zac _ rfl (.tmp 76) (.tmp 78) rfl wq.heap.size _ n7 (qx o) rfl (HO9.o.alloc _) _ 1 1 [(j:Int)] rfl (zh9 wx j) rfl hn9 (by have:=HB9.o.size;simp;omega) ?_);intro A3 c3 w10 ho hb
        have HO8:Hid (w10.ownsRow wq.heap.size 3 1 (.slice A3 (n7+1) c3) (n7+1) (ci9 (qx (o++[j])))):=zhy (by
         rw [qx,List.map_append];exact ho)
        have HB10:Hid (Below wq.heap.size wq w10):=zhy (HB9.o.trans ((qh.mono HB9.o.size).trans hb));clear ho hb HO9 HB9;go_wp2_with fail;go_roundw
        case rel=>exact ⟨o++[j],A3,c3,n7+1,by omega,rfl,HOL2,HOD2,HO8,HB10⟩
        case measure=>simp [zj1];omega
      ·skip;obtain rfl:sn=kk:=by omega
       by_cases h3:nn<0
       ·obtain ⟨rfl,hall⟩:=HN.o.resolve_right (fun ⟨j,_,e,_⟩=>by omega)
        have HTE:Hid (T=([],110)):=zhy (by
         rw [HTO.o,HOD.o,show sn-n7=(sn-(n7+1))+1 by omega,zj4,zru hall])
        have HE:=zhy (zgf.err HTE.o SX.o.1);clear hall h3 HN;go_wp2_with fail;go_ret2;exact HE.o
       ·obtain ⟨j,hj,rfl,hnx⟩:∃j:Nat,j<sn∧nn=j∧zna (e11 d) sn o=some j:=HN.o.resolve_left (fun h=>h3 (by omega));have HNX:=zhy hnx;clear hnx h3;have HO9:=zhy (qb HO.o HBX.o (Nat.le_refl _));have HB9:=zhy (qc HB.o HBX.o)
        have HOD2:Hid (zly (e11 d) sn=zj4 (e11 d) sn (sn-(n7+1)) (o++[j])):=zhy (by
         rw [HOD.o,show sn-n7=(sn-(n7+1))+1 by omega,zj4,HNX.o])
        have HOL2:Hid ((o++[j]).length=n7+1):=zhy (by rw [List.length_append,HOL.o];rfl);have hn9:n7+1≤1000000:=by omega
        clear HO HB HBX SX;go_wp2_with (at_builtin;refine zac _ rfl (.tmp 76) (.tmp 78) rfl wq.heap.size _ n7 (qx o) rfl (HO9.o.alloc _) _ 1 1 [(j:Int)] rfl (zh9 wx j) rfl hn9 (by have:=HB9.o.size;simp;omega) ?_);intro A3 c3 w10 ho hb
        have HO8:Hid (w10.ownsRow wq.heap.size 3 1 (.slice A3 (n7+1) c3) (n7+1) (ci9 (qx (o++[j])))):=zhy (by
         rw [qx,List.map_append];exact ho)
        have HB10:Hid (Below wq.heap.size wq w10):=zhy (HB9.o.trans ((qh.mono HB9.o.size).trans hb));clear ho hb HO9 HB9;go_wp2_with fail;go_roundw
        case rel=>exact ⟨o++[j],A3,c3,n7+1,by omega,rfl,HOL2,HOD2,HO8,HB10⟩
        case measure=>simp [zj1];omega
    ·obtain rfl:n7=sn:=by omega
     have HTE:Hid (T=(qx o,0)):=zhy (by rw [HTO.o,HOD.o,Nat.sub_self,zj4]);have HOF:=zhy (qg HO.o HWS.o);have HNL:Hid ((qx o).length=n7):=zhy (by rw [List.length_map];exact HOL.o);have HBW:=zhy SZ.o.1;go_wp2_with fail;go_ret2;exact ⟨A7,c7,by rw [HTE.o,HNL.o];rfl,by rw [HTE.o];dsimp only;rw [HNL.o];exact HOF.o,HBW.o⟩
end Go.Proofs.YtnjgkkoiamiaaaaGreatDoor
