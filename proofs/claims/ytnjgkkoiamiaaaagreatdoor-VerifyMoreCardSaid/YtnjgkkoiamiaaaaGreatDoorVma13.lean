import Derived.Test.YtnjgkkoiamiaaaaGreatDoorVma1
import Derived.Test.YtnjgkkoiamiaaaaGreatDoorVma10
import Derived.Test.YtnjgkkoiamiaaaaGreatDoorVma4
import Derived.Test.YtnjgkkoiamiaaaaGreatDoorVma3
import Derived.ArgAppend
import Derived.Laws.Cover3
import Derived.Test.YtnjgkkoiamiaaaaGreatDoorVma11
import Derived.Maps.AppendAt
import Derived.Test.YtnjgkkoiamiaaaaGreatDoorVma7
import Derived.Test.YtnjgkkoiamiaaaaGreatDoorVma5
set_option maxRecDepth 100000
set_option maxHeartbeats 16000000
set_option linter.unusedSimpArgs false
set_option linter.unusedVariables false
namespace Go.Proofs.YtnjgkkoiamiaaaaGreatDoor
open Go.RowKit
section
variable {P : Program} {ops : Array Oper} {Q : Exit → Act → World → Prop} {md : Region.Mode} {S : World → Prop} {brk : List Nat}
def broke (brk:List Nat) (listed:Array Bool):Bool:=brk.any fun j=>listed.getD j false
def wpL (P:Program) (md:Region.Mode) (ops:Array Oper) (Q:Exit→Act→World→Prop) (S:World→Prop) (brk:List Nat):Nat→Array Bool→Act→World→Prop
 | 0,listed,a,w=>Region.ready md ops listed=[]∧Q .normal a w
 | n+1,listed,a,w=>(Region.ready md ops listed=[]→Q .normal a w) ∧
  ∀i∈Region.ready md ops listed,wpOp P ops Q i (fun b v=>(broke brk (listed.setIfInBounds i true)=true∨S v)∧wpL P md ops Q S brk n (listed.setIfInBounds i true) b v) a w
theorem wpL_plain:∀(n:Nat) (listed:Array Bool) (a:Act) (w:World),wpL P md ops Q S brk n listed a w→wpAny P md ops Q n listed a w
 | 0,_,_,_,h=>h
 | n+1,_,_,_,h=>⟨h.1,fun i hi=>wpOp_mono (fun b v k=>wpL_plain n _ b v k.2) (h.2 i hi)⟩
theorem broke_set {i:Nat} {listed:Array Bool} (h:brk.contains i=false):broke brk (listed.setIfInBounds i true)=broke brk listed:=by
 unfold broke;induction brk with
 | nil=>rfl
 | cons j l ih =>
  rw [List.contains_cons,Bool.or_eq_false_iff] at h;rw [List.any_cons,List.any_cons,ih h.2,getD_set_ne false (fun e=>by rw [e] at h;simp at h)]
theorem wpL_pure {i:Nat} {oi:Oper} {v:Value} (hi:ops[i]?=some oi) (hs:Region.noSelect ops=true) (hQ:∀c a w,Q (.panic c) (a.put oi.dst v) w→Q (.panic c) a w) (hb:brk.contains i=false) :
  ∀(n:Nat) (listed:Array Bool) (a:Act) (w:World),
   (∀j oj,ops[j]?=some oj→j≠i→listed.getD j true=false→(∀e∈oj.after,Region.binds md e=true→e.on≠i)→oi.apart ops oj=true) →
   i∈Region.ready md ops listed→YieldsIf P ops (fun _=>True) oi v a→(broke brk listed=true∨S w) →
   wpL P md ops Q S brk n (listed.setIfInBounds i true) (a.put oi.dst v) w→wpL P md ops Q S brk (n+1) listed a w:=by
 intro n
 induction n with
 | zero =>
  intro listed a w _ hr hy hS H
  refine ⟨fun h=>(by rw [h] at hr;cases hr),fun j hj=>?_⟩
  by_cases hji:j=i
  ·subst hji;exact hy.wpOp hi trivial ⟨by rw [broke_set hb];exact hS,H⟩
  ·have:=ready_mono hj hji
   rw [H.1] at this
   cases this
 | succ n ih =>
  intro listed a w hfree hr hy hS H
  refine ⟨fun h=>(by rw [h] at hr;cases hr),fun j hj=>?_⟩
  by_cases hji:j=i
  ·subst hji;exact hy.wpOp hi trivial ⟨by rw [broke_set hb];exact hS,H⟩
  ·obtain ⟨hjun,oj,hoj,hall⟩:=mem_ready.1 hj
   have hun:=(mem_ready.1 hr).1
   have hno:∀e∈oj.after,Region.binds md e=true→e.on≠i:=by
    intro e he hbd heq;have h1:=hall e he hbd;rw [heq] at h1;rcases Nat.lt_or_ge i listed.size with h' | h'
    ·simp [h'] at hun h1;rw [hun] at h1;cases h1
    ·simp [Array.getElem?_eq_none h'] at h1
   refine wpOp_mono (fun b u k=>⟨?_,ih (listed.setIfInBounds j true) b u (fun t ot ht hti htn hto=>hfree t ot ht hti ?_ hto) (ready_mono hr (Ne.symm hji)) k.1 ?_ ?_⟩)
    (wpOp_putIf hoj (hfree j oj hoj hji hjun hno) (fun cs b=>Region.noSelect_spec hs i oi cs b hi) (fun cs b=>Region.noSelect_spec hs j oj cs b hoj) hQ hy (H.2 j (ready_mono hj hji)))
   ·have:=k.2.1
    rw [Array.setIfInBounds_comm _ _ (Ne.symm hji),broke_set hb] at this
    exact this
   ·by_cases hjt:j=t
    ·subst hjt;exact hjun
    ·rw [getD_set_ne true hjt] at htn;exact htn
   ·have:=k.2.1
    rw [Array.setIfInBounds_comm _ _ (Ne.symm hji),broke_set hb] at this
    exact this
   ·rw [Array.setIfInBounds_comm _ _ hji]
    exact k.2.2
theorem wpL_load {i:Nat} {oi:Oper} {v:Value} (hi:ops[i]?=some oi) (hs:Region.noSelect ops=true) (hQ:∀c a w,Q (.panic c) (a.put oi.dst v) w→Q (.panic c) a w) (hb:brk.contains i=false)
  (hw:∀j oj,ops[j]?=some oj→brk.contains j=true→∃e∈oj.after,Region.binds md e=true∧e.on=i) :
  ∀(n:Nat) (listed:Array Bool) (a:Act) (w:World),
   (∀j oj,ops[j]?=some oj→j≠i→listed.getD j true=false→(∀e∈oj.after,Region.binds md e=true→e.on≠i)→oi.apart ops oj=true) →
   i∈Region.ready md ops listed→YieldsIf P ops S oi v a→S w→broke brk listed=false →
   wpL P md ops Q S brk n (listed.setIfInBounds i true) (a.put oi.dst v) w→wpL P md ops Q S brk (n+1) listed a w:=by
 intro n
 induction n with
 | zero =>
  intro listed a w _ hr hy hS hB H
  refine ⟨fun h=>(by rw [h] at hr;cases hr),fun j hj=>?_⟩
  by_cases hji:j=i
  ·subst hji;exact hy.wpOp hi hS ⟨.inr hS,H⟩
  ·have:=ready_mono hj hji
   rw [H.1] at this
   cases this
 | succ n ih =>
  intro listed a w hfree hr hy hS hB H
  refine ⟨fun h=>(by rw [h] at hr;cases hr),fun j hj=>?_⟩
  by_cases hji:j=i
  ·subst hji;exact hy.wpOp hi hS ⟨.inr hS,H⟩
  ·obtain ⟨hjun,oj,hoj,hall⟩:=mem_ready.1 hj
   have hun:=(mem_ready.1 hr).1
   have hno:∀e∈oj.after,Region.binds md e=true→e.on≠i:=by
    intro e he hbd heq;have h1:=hall e he hbd;rw [heq] at h1;rcases Nat.lt_or_ge i listed.size with h' | h'
    ·simp [h'] at hun h1;rw [hun] at h1;cases h1
    ·simp [Array.getElem?_eq_none h'] at h1
   have hjb:brk.contains j=false:=by
    cases hc:brk.contains j with
    | false=>rfl
    | true =>
     obtain ⟨e,he,h1,h2⟩:=hw j oj hoj hc;exact absurd h2 (hno e he h1)
   have hB2:broke brk (listed.setIfInBounds j true)=false:=by rw [broke_set hjb];exact hB
   have hSk:∀u,(broke brk ((listed.setIfInBounds i true).setIfInBounds j true)=true∨S u)→S u:=by
    intro u h;rw [Array.setIfInBounds_comm _ _ (Ne.symm hji),broke_set hb,hB2] at h;rcases h with h | h
    ·cases h
    ·exact h
   refine wpOp_mono (fun b u k=>⟨.inr (hSk u k.2.1),ih (listed.setIfInBounds j true) b u (fun t ot ht hti htn hto=>hfree t ot ht hti ?_ hto) (ready_mono hr (Ne.symm hji)) k.1 (hSk u k.2.1) hB2 ?_⟩)
    (wpOp_putIf hoj (hfree j oj hoj hji hjun hno) (fun cs b=>Region.noSelect_spec hs i oi cs b hi) (fun cs b=>Region.noSelect_spec hs j oj cs b hoj) hQ hy (H.2 j (ready_mono hj hji)))
   ·by_cases hjt:j=t
    ·subst hjt;exact hjun
    ·rw [getD_set_ne true hjt] at htn;exact htn
   ·rw [Array.setIfInBounds_comm _ _ hji]
    exact k.2.2
def waits (md:Region.Mode) (ops:Array Oper) (brk:List Nat) (i:Nat):Bool:=(List.range ops.size).all fun j=>!brk.contains j||((ops[j]?).map fun o=>o.after.any fun e=>Region.binds md e&&e.on==i).getD true
theorem waits_spec {i:Nat} (h:waits md ops brk i=true) (j:Nat) (oj:Oper) (hj:ops[j]?=some oj) (hb:brk.contains j=true):∃e∈oj.after,Region.binds md e=true∧e.on=i:=by
 unfold waits at h;rw [List.all_eq_true] at h;have h1:=h j (List.mem_range.2 (zg9.1 hj).1);rw [hb,hj] at h1;simp only [Bool.not_true,Bool.false_or,Option.map_some,Option.getD_some,Array.any_eq_true] at h1;obtain ⟨q,hq,h2⟩:=h1;rw [Bool.and_eq_true,beq_iff_eq] at h2;exact ⟨_,Array.getElem_mem hq,h2⟩
theorem wpL_take {i:Nat} {oi:Oper} {v:Value} {n:Nat} {listed:Array Bool} {a:Act} {w:World} (hi:ops[i]?=some oi) (hs:(Region.noSelect ops&&(!brk.contains i&&(waits md ops brk i&&(Region.free md ops listed i&&((Region.ready md ops listed).contains i&&!broke brk listed)))))=true)
  (hQ:∀c a w,Q (.panic c) (a.put oi.dst v) w→Q (.panic c) a w) (hy:YieldsIf P ops S oi v a) (hS:S w) (h:wpL P md ops Q S brk n (listed.setIfInBounds i true) (a.put oi.dst v) w):wpL P md ops Q S brk (n+1) listed a w:=by
 simp only [Bool.and_eq_true,Bool.not_eq_true'] at hs
 obtain ⟨h1,h2,h3,h4,h5,h6⟩:=hs
 exact wpL_load hi h1 hQ h2 (waits_spec h3) n listed a w (Region.free_spec hi h4) (by simpa using h5) hy hS h6 h
theorem wpL_reckon {i:Nat} {oi:Oper} {v:Value} {n:Nat} {listed:Array Bool} {a:Act} {w:World} (hi:ops[i]?=some oi) (hs:(Region.noSelect ops&&(!brk.contains i&&(Region.free md ops listed i&&(Region.ready md ops listed).contains i)))=true)
  (hQ:∀c a w,Q (.panic c) (a.put oi.dst v) w→Q (.panic c) a w) (hy:YieldsIf P ops (fun _=>True) oi v a) (hS:broke brk listed=true∨S w) (h:wpL P md ops Q S brk n (listed.setIfInBounds i true) (a.put oi.dst v) w):wpL P md ops Q S brk (n+1) listed a w:=by
 simp only [Bool.and_eq_true,Bool.not_eq_true'] at hs
 obtain ⟨h1,h2,h4,h5⟩:=hs
 exact wpL_pure hi h1 hQ h2 n listed a w (Region.free_spec hi h4) (by simpa using h5) hy hS h
theorem wpL_done {listed:Array Bool} {a:Act} {w:World} (hr:Region.ready md ops listed=[]) (h:Q .normal a w):∀n,wpL P md ops Q S brk n listed a w
 | 0=>⟨hr,h⟩
 | _+1=>⟨fun _=>h,by rw [hr];simp⟩
def AllL (P:Program) (md:Region.Mode) (ops:Array Oper) (Q:Exit→Act→World→Prop) (S:World→Prop) (brk:List Nat) (n:Nat) (listed:Array Bool) (a:Act) (w:World) (rs:List Nat):Prop:=
 ∀i∈rs,wpOp P ops Q i (fun b v=>(broke brk (listed.setIfInBounds i true)=true∨S v)∧wpL P md ops Q S brk n (listed.setIfInBounds i true) b v) a w
theorem AllL.nil {n:Nat} {listed:Array Bool} {a:Act} {w:World}:AllL P md ops Q S brk n listed a w []:=fun _ h=>by cases h
theorem AllL.cons {n:Nat} {listed:Array Bool} {a:Act} {w:World} {i:Nat} {o:Oper} {rs:List Nat} (ho:ops[i]?=some o)
  (h:∀K:Act→World→Prop,Shut (∀b v,S v→(S v→wpL P md ops Q S brk n (listed.setIfInBounds i true) b v)→K b v)→if Region.wanted o (yielded ops a.tmps)=true then Oper.wp P o a w K Q else K (a.put o.dst undef) w)
  (hs:AllL P md ops Q S brk n listed a w rs):AllL P md ops Q S brk n listed a w (i::rs):=fun j hj=>by
 rcases List.mem_cons.1 hj with rfl | hj
 ·exact wpOp_step ho fun K hK=>h K fun b v hS hW=>hK b v ⟨.inr hS,hW hS⟩
 ·exact hs j hj
theorem AllL.late {n:Nat} {listed:Array Bool} {a:Act} {w:World} {i:Nat} {o:Oper} {rs:List Nat} (ho:ops[i]?=some o) (hb:broke brk (listed.setIfInBounds i true)=true)
  (h:∀K:Act→World→Prop,Shut (∀b v,wpL P md ops Q S brk n (listed.setIfInBounds i true) b v→K b v)→if Region.wanted o (yielded ops a.tmps)=true then Oper.wp P o a w K Q else K (a.put o.dst undef) w)
  (hs:AllL P md ops Q S brk n listed a w rs):AllL P md ops Q S brk n listed a w (i::rs):=fun j hj=>by
 rcases List.mem_cons.1 hj with rfl | hj
 ·exact wpOp_step ho fun K hK=>h K fun b v hW=>hK b v ⟨.inl hb,hW⟩
 ·exact hs j hj
theorem wpL_ready {rs:List Nat} {n:Nat} {listed:Array Bool} {a:Act} {w:World} (hr:Region.ready md ops listed=rs) (hne:rs≠[]) (h:AllL P md ops Q S brk n listed a w rs):wpL P md ops Q S brk (n+1) listed a w:=
 ⟨fun h0=>absurd (hr▸h0) hne,hr▸h⟩
theorem wp_region_L {id:Nat} {a:Act} {w:World} (brk:List Nat) (hm:P.follows .mixedOrders=true) (hS:S w.drew)
  (h:S w.drew→wpL P .any ops Q S brk ops.size (Array.replicate ops.size false) a w.drew):(Code.region id ops true).wp P Q a w:=
 wp_region_any hm (wpL_plain _ _ _ _ (h hS))
end
abbrev fMz (B:Nat):Fct:=⟨fun w=>Mf w B∧Db w B Ma.zero Md.zero,fun _ _ h hb=>⟨h.1.keep hb,h.2.keep hb⟩⟩
def Wz (w:World) (lo:Nat) (z:Me):Prop:=(Byt z.m.a∧Byt z.m.l∧z.m.nums∧(∀x∈z.k,InOk x)∧z.k.length=z.x.k)∧w.ownsRow lo 5 1 (.slice z.x.A z.m.a.length z.x.c) z.m.a.length (cel z.m.a) ∧
 w.ownsRow lo 5 1 (.slice z.x.B z.m.l.length z.x.d) z.m.l.length (cel z.m.l)∧w.ownsRow lo 57 3 (.slice z.x.D z.x.k z.x.e) z.x.k (cei z.k)
section
variable {w w' : World} {lo : Nat} {z : Me}
theorem Wz.ok (h:Wz w lo z):z.ok w:=⟨⟨own_rd h.2.1 h.1.1,own_rd h.2.2.1 h.1.2.1,h.1.2.2.1⟩,(Ri.of_own h.2.2.2 h.1.2.2.2.1).1,h.1.2.2.2.2⟩
theorem Wz.keep (h:Wz w lo z) (hb:Below w.heap.size w w'):Wz w' lo z:=⟨h.1,own_below h.2.1 hb (Nat.le_refl _),own_below h.2.2.1 hb (Nat.le_refl _),own_below h.2.2.2 hb (Nat.le_refl _)⟩
theorem Wz.tag (h:Wz w lo z) {B k:Nat} (hB:Bk w B 50 k) (j:Nat) (u:Value):Wz (w.setCell ⟨B,j,none⟩ u) lo z:=⟨h.1,own_tag h.2.1 hB (by decide) j u,own_tag h.2.2.1 hB (by decide) j u,own_tag h.2.2.2 hB (by decide) j u⟩
theorem Wz.ow (h:Wz w lo z) {lo2 hi:Nat} (h1:lo2≤lo) (h2:w.heap.size≤hi):Owz w lo2 hi z:=⟨Rs.of_own h.2.1 h1 h2,Rs.of_own h.2.2.1 h1 h2,Rs.of_own h.2.2.2 h1 h2⟩
end
def st8 (w:World) (g o:Nat) (z:Me):World:=
 (((((((w.setCell ⟨g,o,none⟩ (.slice z.x.A z.m.a.length z.x.c)).setCell ⟨g,o+1,none⟩ (.slice z.x.B z.m.l.length z.x.d)).setCell ⟨g,o+2,none⟩ (.int .u8 z.m.r)).setCell ⟨g,o+3,none⟩ (.bool z.m.q)).setCell ⟨g,o+4,none⟩ (.int .i64 z.m.f)).setCell ⟨g,o+5,none⟩ (.int .i64 z.m.s)).setCell ⟨g,o+6,none⟩ (.int .i64 z.m.h)).setCell ⟨g,o+7,none⟩ (.slice z.x.D z.x.k z.x.e)
theorem st8_keep {p:World→Prop} {w:World} {g:Nat} (hp:p w) (h:∀w' j u,p w'→p (w'.setCell ⟨g,j,none⟩ u)) (o:Nat) (z:Me):p (st8 w g o z):=h _ _ _ (h _ _ _ (h _ _ _ (h _ _ _ (h _ _ _ (h _ _ _ (h _ _ _ (h _ _ _ hp)))))))
theorem cem_put (T R:List Me) (z z':Me):((((((((cem (T++z::R)).set (T.length*8) (.slice z'.x.A z'.m.a.length z'.x.c)).set (T.length*8+1) (.slice z'.x.B z'.m.l.length z'.x.d)).set (T.length*8+2) (.int .u8 z'.m.r)).set (T.length*8+3) (.bool z'.m.q)).set (T.length*8+4) (.int .i64 z'.m.f)).set (T.length*8+5) (.int .i64 z'.m.s)).set (T.length*8+6) (.int .i64 z'.m.h)).set (T.length*8+7) (.slice z'.x.D z'.x.k z'.x.e)=cem ((T++[z'])++R):=by
 have e:cem (T++z::R)=cem T++(ce8 z++cem R):=by simp [cem]
 have e2:cem ((T++[z'])++R)=cem T++(ce8 z'++cem R):=by simp [cem]
 have hl:=length_cem T
 have k:∀(L:List Value) (i:Nat) (u:Value),(cem T++L).set (T.length*8+i) u=cem T++L.set i u:=fun L i u=>by
  rw [List.set_append_right _ _ (by rw [hl];omega),hl,show T.length*8+i-T.length*8=i by omega]
 have k0:∀(L:List Value) (u:Value),(cem T++L).set (T.length*8) u=cem T++L.set 0 u:=fun L u=>k L 0 u;rw [e,e2,k0,k,k,k,k,k,k,k];rfl
theorem st8_own {w:World} {base g cap n:Nat} {T R:List Me} {z:Me} (h:w.ownsRow base 50 8 (.slice (some ⟨g,0,none⟩) n cap) n (cem (T++z::R))) (z':Me):(st8 w g (T.length*8) z').ownsRow base 50 8 (.slice (some ⟨g,0,none⟩) n cap) n (cem ((T++[z'])++R)):=by
 have:=((((((((((((((((h.stored (T.length*8) (.slice z'.x.A z'.m.a.length z'.x.c)).1).stored (T.length*8+1) (.slice z'.x.B z'.m.l.length z'.x.d)).1).stored (T.length*8+2) (.int .u8 z'.m.r)).1).stored (T.length*8+3) (.bool z'.m.q)).1).stored (T.length*8+4) (.int .i64 z'.m.f)).1).stored (T.length*8+5) (.int .i64 z'.m.s)).1).stored (T.length*8+6) (.int .i64 z'.m.h)).1).stored (T.length*8+7) (.slice z'.x.D z'.x.k z'.x.e)).1);rw [cem_put] at this;exact this
theorem own_bk {w:World} {base e size n g cap:Nat} {xs:List Value} (h:w.ownsRow base e size (.slice (some ⟨g,0,none⟩) n cap) n xs):(∃k,Bk w g e k)∧base≤g:=by
 rcases h.2 with ⟨hv,_⟩ | ⟨g',cap',cur,hv,hg,hb,_⟩
 ·cases hv
 ·injection hv with e1 _ _;injection e1 with e1;injection e1 with e1;subst e1;exact ⟨⟨cur.size,cur,hb,rfl⟩,hg⟩
theorem row_at {w:World} {base g cap n j:Nat} {T R:List Me} {z:Me} (h:w.ownsRow base 50 8 (.slice (some ⟨g,0,none⟩) n cap) n (cem (T++z::R))) (hT:T.length=j) (hn:n=(T++z::R).length) :
  (∀i u,i<8→(ce8 z)[i]?=some u→w.cell? ⟨g,j*8+i,none⟩=some u)∧∀i,i<8→w.frozen? ⟨g,j*8+i,none⟩=false:=by
 subst hT
 refine ⟨fun i u hi hu=>?_,fun i hi=>h.frozenAt _⟩
 have e:(T++z::R)[T.length]?=some z:=by simp
 have hl:T.length*8+i<n*8:=by rw [hn];simp;omega
 rw [h.cellAt (T.length*8+i) hl,cem_at e i hi]
 exact hu
theorem put4_ownN {w:World} {N B e size n:Nat} {v:Value} {xs:List Value} (h:w.ownsRow N e size v n xs) (hB:B<N) (y:Ma) (d:Md):(put4 w B y d).ownsRow N e size v n xs:=
 ownsRow_setCell_below (ownsRow_setCell_below (ownsRow_setCell_below (ownsRow_setCell_below h hB _) hB _) hB _) hB _
theorem Wz.put4 {w:World} {lo B:Nat} {z:Me} (h:Wz w lo z) (hB:B<lo) (y:Ma) (d:Md):Wz (put4 w B y d) lo z:=⟨h.1,put4_ownN h.2.1 hB y d,put4_ownN h.2.2.1 hB y d,put4_ownN h.2.2.2 hB y d⟩
theorem own_some11 {w:World} {base e n:Nat} {v:Value} {xs:List Value} (h:w.ownsRow base e 1 v n xs) (hn:0<n):∃g c,v=.slice (some ⟨g,0,none⟩) n c:=by
 rcases h.2 with ⟨_,h0⟩ | ⟨g,cap,cur,hv,_⟩
 ·omega
 ·exact ⟨g,cap,hv⟩
theorem own_xr11 {A:Option Addr} {n c j:Nat} (h:some j=(Value.slice A n c).ownBlock):Xr11 A j:=by
 cases A with
 | none=>cases h
 | some ad=>exact ⟨ad,rfl,by injection h⟩
theorem _root_.Go.Boxed.drew11 {w:World} {B t:Nat} {v:Value} (h:Boxed w B t v):Boxed w.drew B t v:=h
theorem run_append_n1 (w:World) (S ty:TypeId) (hS:Tryz.prog.underlying S=some (.slice 3)) (base:Nat) (v:Value) (n:Nat) (K0:List Int) (hown:w.ownsRow base 3 1 v n (ci9 K0))
  (ad:Addr) (y:Int) (hc:w.cell? (ad.add 0)=some (.int .i64 y)) (hb:n+1≤1000000) (hbase:base≤w.heap.size) :
  ∃g' c' w',(Builtin.append_ #[S,S] ty #[v,.slice (some ad) 1 1]).run Tryz.prog w=.ok (.slice (some ⟨g',0,none⟩) (n+1) c') w'∧w'.ownsRow base 3 1 (.slice (some ⟨g',0,none⟩) (n+1) c') (n+1) (ci9 (K0++[y]))∧w.grownBy w' v.ownBlock∧(v.ownBlock=some g'∨g'=w.heap.size):=by
 have hinfo:=Tryz.infoN
 rw [Option.map_eq_some_iff] at hinfo
 obtain ⟨i,hi,hz⟩:=hinfo
 simp only [Prod.mk.injEq] at hz
 obtain ⟨hz0,hz1,hz2⟩:=hz
 obtain ⟨v',w',hr',h2,h3,h4,h5⟩:=run_append_own_at (P:=Tryz.prog) w base S ty 3 i _ 1 8 hS hi hz0 hz1 hz2 rfl (by decide) v n (ci9 K0) hown ad 1 1 (ci9 [y]) (by simp [ci9]) (fun j u hj=>by
  match j,hj with
  | 0,hj =>
   simp [ci9] at hj;subst hj;exact hc) (ci9_oneN [y]) (by unfold maxLen;omega) (by omega) hbase
 obtain ⟨g',c',rfl⟩:=own_some11 h2 (by omega)
 exact ⟨g',c',w',hr',by rw [ci9,List.map_append];exact h2,h3,by
  rcases h5 with h5 | h5
  ·exact .inl h5.symm
  ·injection h5 with h5;exact .inr h5⟩
theorem step_append_n1 {w:World} {ops:Array Oper} {o:Oper} {a:Act} {K:Act→World→Prop} {Q:Exit→Act→World→Prop} {E:Prop} (hgd:o.guard=none) (s x:Operand) (S:TypeId) (hS:Tryz.prog.underlying S=some (.slice 3))
  (ho:o.op=.call { callee:=.builtin .append,args:=#[s,x],argTypes:=#[S,S]})
  (base:Nat) (v:Value) (n:Nat) (K0:List Int) (hs:a.eval s=v) (hown:w.ownsRow base 3 1 v n (ci9 K0))
  (ad:Addr) (y:Int) (hx:a.eval x=.slice (some ad) 1 1) (hc:w.cell? (ad.add 0)=some (.int .i64 y)) (hb:n+1≤1000000) (hbase:base≤w.heap.size)
  (h:∀g' c' w',w'.ownsRow base 3 1 (.slice (some ⟨g',0,none⟩) (n+1) c') (n+1) (ci9 (K0++[y]))→w.grownBy w' v.ownBlock→(v.ownBlock=some g'∨g'=w.heap.size)→K (a.put o.dst (.slice (some ⟨g',0,none⟩) (n+1) c')) w') :
  if Region.wanted o (yielded ops a.tmps)=true then Oper.wp Tryz.prog o a w K Q else E:=by
 have hw:Region.wanted o (yielded ops a.tmps)=true:=by simp [Region.wanted,hgd]
 rw [if_pos hw]
 obtain ⟨g',c',w',hr,h2,h3,h4⟩:=run_append_n1 w S o.type hS base v n K0 hown ad y hc hb hbase
 unfold Oper.wp
 simp [execOp,ho,resolve,invoke,builtin,hs,hx,hr,Result.andThen]
 exact h g' c' w' h2 h3 h4
theorem wpList_append_n1 {w:World} {ops:Array Oper} {rest:List Oper} {o:Oper} {a:Act} {Q:Exit→Act→World→Prop} (hgd:o.guard=none) (s x:Operand) (S:TypeId) (hS:Tryz.prog.underlying S=some (.slice 3))
  (ho:o.op=.call { callee:=.builtin .append,args:=#[s,x],argTypes:=#[S,S]})
  (base:Nat) (v:Value) (n:Nat) (K0:List Int) (hs:a.eval s=v) (hown:w.ownsRow base 3 1 v n (ci9 K0))
  (ad:Addr) (y:Int) (hx:a.eval x=.slice (some ad) 1 1) (hc:w.cell? (ad.add 0)=some (.int .i64 y)) (hb:n+1≤1000000) (hbase:base≤w.heap.size)
  (h:∀g' c' w',w'.ownsRow base 3 1 (.slice (some ⟨g',0,none⟩) (n+1) c') (n+1) (ci9 (K0++[y]))→w.grownBy w' v.ownBlock→(v.ownBlock=some g'∨g'=w.heap.size)→wpList Tryz.prog ops Q rest (a.put o.dst (.slice (some ⟨g',0,none⟩) (n+1) c')) w') :
  wpList Tryz.prog ops Q (o::rest) a w:=by
 obtain ⟨g',c',w',hr,h2,h3,h4⟩:=run_append_n1 w S o.type hS base v n K0 hown ad y hc hb hbase
 refine wpList_plain hgd fun K hK=>?_
 unfold Oper.wp
 simp [execOp,ho,resolve,invoke,builtin,hs,hx,hr,Result.andThen]
 exact hK _ _ (h g' c' w' h2 h3 h4)
theorem own_cut11 {w:World} {base e n m:Nat} {A:Option Addr} {c:Nat} {xs:List Value} (h:w.ownsRow base e 1 (.slice A n c) n xs) (hm:m≤n):w.ownsRow base e 1 (.slice A m c) m (xs.take m):=by
 obtain ⟨h1,h2⟩:=h;refine ⟨by rw [List.length_take,h1];omega,?_⟩;rcases h2 with ⟨h2,h0⟩ | ⟨g,cap,cur,hv,hg,hh,h3,h4,h5,h6⟩
 ·left;injection h2 with e1 e2 e3;obtain rfl:m=0:=by omega
  rw [e1,e3];exact ⟨rfl,rfl⟩
 ·injection hv with e1 e2 e3;subst e1 e3;refine .inr ⟨g,c,cur,rfl,hg,hh,by omega,h4,h5,?_⟩;rw [←h6,List.take_take];congr 1;omega
theorem mi11 (x:Int) (w:World):(Instr.makeInterface 3 (.int .i64 x)).run Tryz.prog w=.ok (.iface 3 (.int .i64 x)) w:=by kernel_rfl
theorem ta11 (x:Int) (w:World):(Instr.typeAssert (.iface 3 (.int .i64 x)) 20 3 false).run Tryz.prog w=.ok (.int .i64 x) w:=by kernel_rfl
theorem lpush11_v (N B n c:Nat) (A:Option Addr) (l:List Int) (x:Int) (w:World) (h:Hb11 w N B A c l) (hl:l.length=n) (hn:n<100000) (hN:N≤w.heap.size):Calls Tryz.prog 276 #[.pointer (some ⟨B,0,none⟩),.iface 3 (.int .i64 x)] w fun e w'=>e=.returned (.tuple #[])∧∃g' c',Hb11 w' N B (some ⟨g',0,none⟩) c' (l++[x])∧Fr11 (fun k=>k=B∨Xr11 A k) w w'∧(Xr11 A g'∨w.heap.size≤g'):=by
 have hbx:=h.box;have hox:=h.own;rw [hl] at hbx hox;have HB:=zhy hbx;have HLN:=zhy hl;have HB0:Hid (Boxed w.drew B 240 (.slice A n c))∧w.drew.cell? ⟨B,0,none⟩=some (.slice A n c):=⟨zhy hbx.drew11,hbx.drew11.cell⟩;have HO1:Hid ((w.drew.alloc (.cells #[.int .i64 x] 3)).ownsRow N 3 1 (.slice A n c) n (ci9 l)):=zhy (hox.drew.alloc _);have hc1:(w.drew.alloc (.cells #[.int .i64 x] 3)).cell? ((⟨w.heap.size,0,none⟩:Addr).add 0)=some (.int .i64 x):=by simp [go_sem,Addr.add]
 have HF1:Hid (Fr11 (fun k=>k=B∨Xr11 A k) w (w.drew.alloc (.cells #[.int .i64 x] 3))):=zhy (((Fr11.refl _ w).drewN 1).alloc _);have HNR:=zhy (Boxed.not_row hbx (by decide) hox);clear hbx hox h hl;have hta:=ta11 x;go_enter Tryz.func276,Tryz.ntmps276;refine wp_region_L [11] (S:=fun w'=>Hid (Boxed w' B 240 (.slice A n c))∧w'.cell? ⟨B,0,none⟩=some (.slice A n c)) (by kernel_rfl) (HB0) (fun hHeld=>?_);refine wpL_reckon (i:=0) (v:=?_) rfl (by kernel_rfl) (fun _ _ _ h=>h) (Or.inl ⟨by rfl,?_⟩) (Or.inr (by assumption)) ?_;rotate_left 1
 ·intro w _;go_simp;try with_reducible rfl
 (try simp only [Act.put,zg1,zg2,zg3,zg4,zg5,zg6]);refine wpL_reckon (i:=1) (v:=?_) rfl (by kernel_rfl) (fun _ _ _ h=>h) (Or.inl ⟨by rfl,?_⟩) (Or.inr (by assumption)) ?_;rotate_left 1
 ·intro w _;go_simp;try with_reducible rfl
 (try simp only [Act.put,zg1,zg2,zg3,zg4,zg5,zg6]);refine wpL_reckon (i:=2) (v:=?_) rfl (by kernel_rfl) (fun _ _ _ h=>h) (Or.inl ⟨by rfl,?_⟩) (Or.inr (by assumption)) ?_;rotate_left 1
 ·intro w _;go_simp;try with_reducible rfl
 (try simp only [Act.put,zg1,zg2,zg3,zg4,zg5,zg6]);refine wpL_reckon (i:=3) (v:=?_) rfl (by kernel_rfl) (fun _ _ _ h=>h) (Or.inl ⟨by rfl,?_⟩) (Or.inr (by assumption)) ?_;rotate_left 1
 ·intro w _;go_simp;try with_reducible rfl
 (try simp only [Act.put,zg1,zg2,zg3,zg4,zg5,zg6]);refine wpL_take (i:=4) (v:=?_) rfl (by kernel_rfl) (fun _ _ _ h=>h) (Or.inl ⟨by rfl,?_⟩) (by assumption) ?_;rotate_left 1
 ·intro w hSw;(try dsimp only at hSw);obtain ⟨-,s0⟩:=hSw;go_simp;try with_reducible rfl
 (try simp only [Act.put,zg1,zg2,zg3,zg4,zg5,zg6]);refine wpL_reckon (i:=5) (v:=?_) rfl (by kernel_rfl) (fun _ _ _ h=>h) (Or.inl ⟨by rfl,?_⟩) (Or.inr (by assumption)) ?_;rotate_left 1
 ·intro w _;go_simp;try with_reducible rfl
 (try simp only [Act.put,zg1,zg2,zg3,zg4,zg5,zg6]);refine wpL_reckon (i:=6) (v:=?_) rfl (by kernel_rfl) (fun _ _ _ h=>h) (Or.inl ⟨by rfl,?_⟩) (Or.inr (by assumption)) ?_;rotate_left 1
 ·intro w _;go_simp;try with_reducible rfl
 (try simp only [Act.put,zg1,zg2,zg3,zg4,zg5,zg6]);refine wpL_ready (rs:=[7]) (by kernel_rfl) (by simp) ?_;refine AllL.cons rfl (fun K hK=>?_) AllL.nil;go_simp;go_simp;go_wp2_with fail;refine hK.out _ _ (⟨zhy ((HB.out.drew11).alloc _),(HB.out.drew11.alloc _).cell⟩) (fun hHeld=>?_);clear hK K;(try simp only [Act.put,zg1,zg2,zg3,zg4,zg5,zg6]);refine wpL_ready (rs:=[8]) (by kernel_rfl) (by simp) ?_;refine AllL.cons rfl (fun K hK=>?_) AllL.nil;refine step_append_n1 rfl (.tmp 8) (.tmp 11) 238 Tryz.underlying238 rfl N _ n l rfl HO1.out _ x rfl hc1 (by omega) (by simp;omega) ?_;intro g' c' w9 ho hg hl;have HO9:=zhy ho;have HF9:Hid (Fr11 (fun k=>k=B∨Xr11 A k) w w9):=zhy ((HF1.out).trans (Fr11.of_grown (X:=Xr11 A) hg (fun j e=>own_xr11 e)) fun _ _ h=>.inr h)
 have HL9:Hid (Xr11 A g'∨w.heap.size≤g'):=zhy (by
  rcases hl with hl | hl
  ·exact .inl (own_xr11 hl.symm)
  ·exact .inr (by rw [hl];simp))
 have HB9:Hid (Boxed w9 B 240 (.slice A n c)):=zhy ((HB.out.drew11.alloc _).kept hg HNR.out);have hb9:=HB9.out.cell;have hf9:=HB9.out.frozen;clear ho hg hl;refine hK.out _ _ (⟨HB9,hb9⟩) (fun hHeld=>?_);clear hK K;(try simp only [Act.put,zg1,zg2,zg3,zg4,zg5,zg6]);refine wpL_reckon (i:=9) (v:=?_) rfl (by kernel_rfl) (fun _ _ _ h=>h) (Or.inl ⟨by rfl,?_⟩) (Or.inr (by assumption)) ?_;rotate_left 1
 ·intro w _;go_simp;try with_reducible rfl
 (try simp only [Act.put,zg1,zg2,zg3,zg4,zg5,zg6]);refine wpL_reckon (i:=10) (v:=?_) rfl (by kernel_rfl) (fun _ _ _ h=>h) (Or.inl ⟨by rfl,?_⟩) (Or.inr (by assumption)) ?_;rotate_left 1
 ·intro w _;go_simp;try with_reducible rfl
 (try simp only [Act.put,zg1,zg2,zg3,zg4,zg5,zg6]);refine wpL_ready (rs:=[11]) (by kernel_rfl) (by simp) ?_;refine AllL.late rfl (by kernel_rfl) (fun K hK=>?_) AllL.nil;go_simp;refine hK.out _ _ ?_;clear hK K;(try simp only [Act.put,zg1,zg2,zg3,zg4,zg5,zg6]);refine wpL_done (by kernel_rfl) ?_ _;have HOF:=zhy (own_tag HO9.out (k:=1) (B:=B) (t:=240) ⟨_,HB9.out,rfl⟩ (by decide) 0 (.slice (some ⟨g',0,none⟩) (n+1) c'));have HBF:=zhy (HB9.out.set (.slice (some ⟨g',0,none⟩) (n+1) c'));have HFF:=zhy (HF9.out.set (p:=⟨B,0,none⟩) (.inr (.inl rfl)) (.slice (some ⟨g',0,none⟩) (n+1) c'));have HLL:Hid ((l++[x]).length=n+1):=zhy (by rw [List.length_append,HLN.out];rfl);go_wp2_with fail;go_end0;exact ⟨rfl,g',c',⟨by rw [HLL.out];exact HBF.out,by rw [HLL.out];exact HOF.out⟩,HFF.out,HL9.out⟩
theorem lpop11_v (N B g c n:Nat) (l:List Int) (x:Int) (w:World) (h:Hb11 w N B (some ⟨g,0,none⟩) c (l++[x])) (hl:l.length=n) (hn:n<100000):Calls Tryz.prog 275 #[.pointer (some ⟨B,0,none⟩)] w fun e w'=>e=.returned (.iface 3 (.int .i64 x))∧Hb11 w' N B (some ⟨g,0,none⟩) c l∧Fr11 (fun k=>k=B) w w':=by
 have hbx:=h.box;have hox:=h.own;have hll:(l++[x]).length=n+1:=by rw [List.length_append,hl];rfl
 rw [hll] at hbx hox;have b0:=hbx.cell;have b1:=hbx.frozen;have hx:(l++[x])[n]?=some x:=by rw [←hl];simp
 obtain ⟨ad,hA,y0⟩:=(Rn.of_own hox).1.at_ hx;injection hA with hA;subst hA
 have y0:w.cell? ⟨g,n,none⟩=some (.int .i64 x):=by
  by_cases e:n=0
  ·subst e;exact y0
  ·rw [←y0,Addr.add,if_neg e,Nat.zero_add]
 have hcap:=(Rn.of_own hox).1.1;rw [hll] at hcap
 have HOF:Hid (((w.setCell ⟨B,0,none⟩ (.slice (some ⟨g,0,none⟩) n c))).ownsRow N 3 1 (.slice (some ⟨g,0,none⟩) n c) n (ci9 l)):=by
  have:=own_cut11 (own_tag hox (k:=1) (B:=B) (t:=240) ⟨_,hbx,rfl⟩ (by decide) 0 (.slice (some ⟨g,0,none⟩) n c)) (m:=n) (by omega);have e:(ci9 (l++[x])).take n=ci9 l:=by rw [ci9,List.map_append,List.take_left' (by rw [List.length_map,hl])];rfl
  rwa [e] at this
 have HBF:=zhy (hbx.set (.slice (some ⟨g,0,none⟩) n c));have HFF:=zhy ((Fr11.refl (fun k=>k=B) w).set (p:=⟨B,0,none⟩) (.inr rfl) (.slice (some ⟨g,0,none⟩) n c));have HLN:=zhy hl;have ew:((n:Int)+1-1)=(n:Int):=by omega
 have hmi:∀w,(Instr.makeInterface 3 (.int .i64 x)).run Tryz.prog w=.ok (.iface 3 (.int .i64 x)) w:=mi11 x;clear hbx hox hx hl h hll;go_enter Tryz.func275,Tryz.ntmps275;go_wp2_with fail;refine (len11_v (some ⟨g,0,none⟩) (n+1) c w).mono ?_;rintro r w1 ⟨rfl,rfl⟩;go_wp2_with fail;go_ret;exact ⟨rfl,⟨by rw [HLN.out];exact HBF.out,by rw [HLN.out];exact HOF.out⟩,HFF.out⟩
theorem hpush11_v (N B n c:Nat) (A:Option Addr) (l:List Int) (x:Int) (w:World) (h:Hb11 w N B A c l) (hl:l.length=n) (hn:n<100000) (hN:N≤w.heap.size) (hp:Hp11 l n) :
  Calls Tryz.prog 161 #[.iface 237 (.pointer (some ⟨B,0,none⟩)),.iface 3 (.int .i64 x)] w fun e w'=>e=.returned (.tuple #[])∧∃g' c' l',Hb11 w' N B (some ⟨g',0,none⟩) c' l'∧l'.Perm (l++[x])∧Hp11 l' (n+1)∧Fr11 (fun k=>k=B∨Xr11 A k) w w'∧(Xr11 A g'∨w.heap.size≤g'):=by
 have HH:=zhy h
 have HL:=zhy hl
 have HP:=zhy hp
 have HPU:=zhy (lpush11_v N B n c A l x w h hl hn hN)
 have hmp:=fun k=>meth_push11 k B w
 clear h hl hp
 go_enter Tryz.func161,Tryz.ntmps161
 go_wp2_with fail
 refine HPU.out.mono ?_
 rintro r w1 ⟨rfl,g',c',hb,hf,hg⟩
 have HB:=zhy hb
 have HF:=zhy hf
 have HG:=zhy hg
 have HLX:Hid ((l++[x]).length=n+1):=zhy (by rw [List.length_append,HL.out];rfl)
 have hml:=fun k=>meth_len11 k B _ _ _ w1 HB.out.box.cell
 rw [HLX.out] at hml
 have HU:Hid (Up11 (l++[x]) (n+1) n):=zhy (by rw [←HL.out];exact Up11.start (by rw [HL.out];exact HP.out))
 have HUP:=zhy (up11_v N B g' c' (n+1) n (l++[x]) w1 HB.out HLX.out (by omega) HU.out)
 have ew:((n:Int)+1-1)=(n:Int):=by omega
 clear hb hf hg hmp HPU
 go_wp2_with fail
 refine (len11_v (some ⟨g',0,none⟩) (n+1) c' w1).mono ?_
 rintro r w2 ⟨rfl,rfl⟩
 go_wp2_with fail
 refine HUP.out.mono ?_
 rintro r w3 ⟨rfl,l',hb3,hp3,hh3,hf3⟩
 have HF3:Hid (Fr11 (fun k=>k=B∨Xr11 A k) w w3):=zhy (HF.out.trans hf3 fun j hj e=>by
  subst e;rcases HG.out with h | h
  ·exact .inr h
  ·omega)
 have HE:Hid (Hb11 w3 N B (some ⟨g',0,none⟩) c' l'∧l'.Perm (l++[x])∧Hp11 l' (n+1)):=zhy ⟨hb3,hp3,hh3⟩
 clear hb3 hp3 hh3 hf3
 go_wp2_with fail
 go_end0
 exact ⟨rfl,g',c',l',HE.out.1,HE.out.2.1,HE.out.2.2,HF3.out,HG.out⟩
theorem split_last11 {l:List Int} {n:Nat} (h:l.length=n+1):∃l' x,l=l'++[x]∧l'.length=n∧x=g11 l n:=by
 refine ⟨l.take n,g11 l n,?_,by rw [List.length_take];omega,rfl⟩;have h1:l.take (n+1)=l:=List.take_of_length_le (by omega);rw [List.take_add_one,g11_some (by omega)] at h1;exact h1.symm
theorem hpop11_v (N B g c n:Nat) (l:List Int) (w:World) (h:Hb11 w N B (some ⟨g,0,none⟩) c l) (hl:l.length=n+1) (hn:n<100000) (hp:Hp11 l (n+1)) :
  Calls Tryz.prog 164 #[.iface 237 (.pointer (some ⟨B,0,none⟩))] w fun e w'=>∃x l',e=.returned (.iface 3 (.int .i64 x))∧Hb11 w' N B (some ⟨g,0,none⟩) c l'∧(x::l').Perm l∧l'.length=n∧Hp11 l' n∧(∀y∈l,x≤y)∧Fr11 (fun k=>k=B∨k=g) w w':=by
 have HH:=zhy h
 have HL:=zhy hl
 have HP:=zhy hp
 have HO:=zhy h.own
 rw [hl] at HO
 have hml:=fun k=>meth_len11 k B _ _ _ w h.box.cell
 have hms:=fun k=>meth_swap11 k B _ _ _ w h.box.cell
 rw [hl] at hml hms
 have HSW:=zhy (swap11_v N g c (n+1) 0 n l w HO.out (by omega) (by omega))
 have HD:Hid (Dn11 (sw11 l 0 n) n 0):=zhy (Dn11.start (by rw [hl];exact hp) hl)
 have HM:Hid (∀y∈l,g11 l 0≤y):=zhy fun y hy=>by
  obtain ⟨k,hk⟩:=List.getElem?_of_mem hy;have h1:=(zg8.1 hk).1;have h2:=hp.least k (by omega);rw [g11_some h1] at hk;injection hk with hk;omega
 have ew:((n:Int)+1-1)=(n:Int):=by omega
 clear h hl hp
 go_enter Tryz.func164,Tryz.ntmps164
 go_wp2_with fail
 refine (len11_v (some ⟨g,0,none⟩) (n+1) c w).mono ?_
 rintro r w2 ⟨rfl,rfl⟩
 go_wp2_with fail
 refine HSW.out.mono ?_
 rintro r w3 ⟨rfl,ho,hf⟩
 have HB3:Hid (Hb11 w3 N B (some ⟨g,0,none⟩) c (sw11 l 0 n)):=zhy ⟨by rw [sw11_len];exact hf.box HH.out.box (fun e=>Boxed.not_row HH.out.box (by decide) HH.out.own (by rw [e];rfl)),by rw [sw11_len,HL.out];exact ho⟩
 have HF3:=zhy hf
 have HDN:=zhy (down11_v N B g c n (n+1) (sw11 l 0 n) w3 HB3.out (sw11_len.trans HL.out) (by omega) (by omega) HD.out)
 clear ho hf HSW hml hms
 go_wp2_with fail
 refine HDN.out.mono ?_
 rintro r w4 ⟨b,rfl,l',hb4,hp4,hh4,he4,hf4⟩
 obtain ⟨l2,x,rfl,hl2,hx⟩:=split_last11 (l:=l') (n:=n) (hp4.length_eq.trans (sw11_len.trans HL.out))
 have HX:Hid (x=g11 l 0):=zhy (by rw [hx,he4 n (Nat.le_refl _),g11_sw (by rw [HL.out];omega) (by rw [HL.out];omega),if_pos rfl])
 have HPM:Hid ((x::l2).Perm l):=zhy ((List.perm_append_singleton x l2).symm.trans (hp4.trans (sw11_perm (by rw [HL.out];omega) (by rw [HL.out];omega))))
 have HHP:Hid (Hp11 l2 n):=zhy fun i h0 hi=>by
  have:=hh4 i h0 hi;rwa [g11,g11,List.getElem?_append_left (by omega),List.getElem?_append_left (by omega)] at this
 have HL2:=zhy hl2
 have HB4:=zhy hb4
 have HF4:Hid (Fr11 (fun k=>k=B∨k=g) w w4):=zhy ((HF3.out.mono fun j h=>.inr h).trans hf4 fun _ _ h=>.inr h)
 have HPO:=zhy (lpop11_v N B g c n l2 x w4 hb4 hl2 hn)
 have hmp:=fun k=>meth_pop11 k B w4
 clear hb4 hp4 hh4 he4 hf4 hl2 hx HDN
 go_wp2_with fail
 refine HPO.out.mono ?_
 rintro r w5 ⟨rfl,hb5,hf5⟩
 have HB5:=zhy hb5
 have HF5:Hid (Fr11 (fun k=>k=B∨k=g) w w5):=zhy (HF4.out.trans hf5 fun _ _ h=>.inl h)
 clear hb5 hf5 HPO hmp
 go_wp2_with fail
 go_ret
 exact ⟨x,l2,rfl,HB5.out,HPM.out,HL2.out,HHP.out,by rw [HX.out];exact HM.out,HF5.out⟩
theorem Ri.at9 {w:World} {A:Option Addr} {c:Nat} {L:List Ins} (h:Ri w A c L) {i:Nat} {o a z:Int} (hx:L[i]?=some (o,a,z)):∃ad:Addr,A=some ad∧w.cell? (ad.add (i*3))=some (.int .u8 o)∧w.cell? ⟨(ad.add (i*3)).block,(ad.add (i*3)).off+1,none⟩=some (.int .i64 a)∧w.cell? ⟨(ad.add (i*3)).block,(ad.add (i*3)).off+2,none⟩=some (.int .i64 z):=by
 obtain ⟨hi,he⟩:=zg8.1 hx;obtain ⟨ad,hA,h1,h2,h3⟩:=h.at_ hi;rw [he] at h1 h2 h3;exact ⟨ad,hA,h1,h2,h3⟩
def Ns11 (w w':World) (T:List Int×Int) (e:Ending):Prop:=∃A' c',e=.returned (.tuple #[.slice A' T.1.length c',.int .i64 T.2])∧w'.ownsRow w.heap.size 3 1 (.slice A' T.1.length c') T.1.length (ci9 T.1)∧Below w.heap.size w w'
theorem Ns11.err {w w':World} {T:List Int×Int} {e:Int} (hT:T=([],e)) (hb:Below w.heap.size w w'):Ns11 w w' T (.returned (.tuple #[.slice none 0 0,.int .i64 e])):=by
 subst hT;exact ⟨none,0,rfl,World.ownsRow_nil _ _ _ _,hb⟩
theorem fil_succ11 (f:Nat→Bool) (j:Nat):ns11 ((List.range (j+1)).filter f)=ns11 ((List.range j).filter f)++(if f j then [(j:Int)] else []):=by
 rw [List.range_succ,List.filter_append,ns11,List.map_append];cases h:f j<;>simp [h]
theorem fil_len11 (f:Nat→Bool) (j:Nat):(ns11 ((List.range j).filter f)).length≤j:=by
 rw [List.length_map];have:=List.length_filter_le f (List.range j);rw [List.length_range] at this;exact this
def slen11:Value→Nat
 | .slice _ n _=>n
 | _=>0
theorem nx11_of {e:Nat→Nat→Bool} {n:Nat} {o:List Nat} {k:Nat} (h1:∀i,i<k→rd11 e n o i=false) (h2:rd11 e n o k=true) (hk:k<n):nx11 e n o=some k:=by
 unfold nx11;rw [List.find?_range_eq_some];exact ⟨h2,List.mem_range.2 hk,fun i hi=>by rw [h1 i hi];rfl⟩
theorem nx11_no {e:Nat→Nat→Bool} {n:Nat} {o:List Nat} (h1:∀i,i<n→rd11 e n o i=false):nx11 e n o=none:=by
 unfold nx11;rw [List.find?_eq_none];intro i hi;rw [h1 i (List.mem_range.1 hi)];decide
end Go.Proofs.YtnjgkkoiamiaaaaGreatDoor
