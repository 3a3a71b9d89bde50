import Derived.Test.YtnjgkkoiamiaaaaGreatDoorVca1
import Derived.Test.YtnjgkkoiamiaaaaGreatDoorVca8
import Derived.Test.YtnjgkkoiamiaaaaGreatDoorVca4
import Derived.Test.YtnjgkkoiamiaaaaGreatDoorVca3
import Derived.ArgAppend
import Derived.Laws.Cover3
import Derived.Test.YtnjgkkoiamiaaaaGreatDoorVca6
import Derived.Test.YtnjgkkoiamiaaaaGreatDoorVca9
set_option maxRecDepth 100000
set_option maxHeartbeats 16000000
set_option linter.unusedSimpArgs false
set_option linter.unusedVariables false
namespace Go.Proofs.YtnjgkkoiamiaaaaGreatDoor
open Go.RowKit
section
variable {P : Program} {ops : Array Oper} {Q : Exit → Act → World → Prop} {md : Region.Mode} {S : World → Prop} {brk : List Nat}
def broke (brk:List Nat) (listed:Array Bool):Bool:=brk.any fun j=>listed.getD j false
def wpL (P:Program) (md:Region.Mode) (ops:Array Oper) (Q:Exit→Act→World→Prop) (S:World→Prop) (brk:List Nat):Nat→Array Bool→Act→World→Prop
 | 0,listed,a,w=>Region.ready md ops listed=[]∧Q .normal a w
 | n+1,listed,a,w=>(Region.ready md ops listed=[]→Q .normal a w) ∧
  ∀i∈Region.ready md ops listed,wpOp P ops Q i (fun b v=>(broke brk (listed.setIfInBounds i true)=true∨S v)∧wpL P md ops Q S brk n (listed.setIfInBounds i true) b v) a w
theorem wpL_plain:∀(n:Nat) (listed:Array Bool) (a:Act) (w:World),wpL P md ops Q S brk n listed a w→wpAny P md ops Q n listed a w
 | 0,_,_,_,h=>h
 | n+1,_,_,_,h=>⟨h.1,fun i hi=>wpOp_mono (fun b v k=>wpL_plain n _ b v k.2) (h.2 i hi)⟩
theorem broke_set {i:Nat} {listed:Array Bool} (h:brk.contains i=false):broke brk (listed.setIfInBounds i true)=broke brk listed:=by
 unfold broke;induction brk with
 | nil=>rfl
 | cons j l ih =>
  rw [List.contains_cons,Bool.or_eq_false_iff] at h;rw [List.any_cons,List.any_cons,ih h.2,getD_set_ne false (fun e=>by rw [e] at h;simp at h)]
theorem wpL_pure {i:Nat} {oi:Oper} {v:Value} (hi:ops[i]?=some oi) (hs:Region.noSelect ops=true) (hQ:∀c a w,Q (.panic c) (a.put oi.dst v) w→Q (.panic c) a w) (hb:brk.contains i=false) :
  ∀(n:Nat) (listed:Array Bool) (a:Act) (w:World),
   (∀j oj,ops[j]?=some oj→j≠i→listed.getD j true=false→(∀e∈oj.after,Region.binds md e=true→e.on≠i)→oi.apart ops oj=true) →
   i∈Region.ready md ops listed→YieldsIf P ops (fun _=>True) oi v a→(broke brk listed=true∨S w) →
   wpL P md ops Q S brk n (listed.setIfInBounds i true) (a.put oi.dst v) w→wpL P md ops Q S brk (n+1) listed a w:=by
 intro n
 induction n with
 | zero =>
  intro listed a w _ hr hy hS H
  refine ⟨fun h=>(by rw [h] at hr;cases hr),fun j hj=>?_⟩
  by_cases hji:j=i
  ·subst hji;exact hy.wpOp hi trivial ⟨by rw [broke_set hb];exact hS,H⟩
  ·have:=ready_mono hj hji
   rw [H.1] at this
   cases this
 | succ n ih =>
  intro listed a w hfree hr hy hS H
  refine ⟨fun h=>(by rw [h] at hr;cases hr),fun j hj=>?_⟩
  by_cases hji:j=i
  ·subst hji;exact hy.wpOp hi trivial ⟨by rw [broke_set hb];exact hS,H⟩
  ·obtain ⟨hjun,oj,hoj,hall⟩:=mem_ready.1 hj
   have hun:=(mem_ready.1 hr).1
   have hno:∀e∈oj.after,Region.binds md e=true→e.on≠i:=by
    intro e he hbd heq;have h1:=hall e he hbd;rw [heq] at h1;rcases Nat.lt_or_ge i listed.size with h' | h'
    ·simp [h'] at hun h1;rw [hun] at h1;cases h1
    ·simp [Array.getElem?_eq_none h'] at h1
   refine wpOp_mono (fun b u k=>⟨?_,ih (listed.setIfInBounds j true) b u (fun t ot ht hti htn hto=>hfree t ot ht hti ?_ hto) (ready_mono hr (Ne.symm hji)) k.1 ?_ ?_⟩)
    (wpOp_putIf hoj (hfree j oj hoj hji hjun hno) (fun cs b=>Region.noSelect_spec hs i oi cs b hi) (fun cs b=>Region.noSelect_spec hs j oj cs b hoj) hQ hy (H.2 j (ready_mono hj hji)))
   ·have:=k.2.1
    rw [Array.setIfInBounds_comm _ _ (Ne.symm hji),broke_set hb] at this
    exact this
   ·by_cases hjt:j=t
    ·subst hjt;exact hjun
    ·rw [getD_set_ne true hjt] at htn;exact htn
   ·have:=k.2.1
    rw [Array.setIfInBounds_comm _ _ (Ne.symm hji),broke_set hb] at this
    exact this
   ·rw [Array.setIfInBounds_comm _ _ hji]
    exact k.2.2
theorem wpL_load {i:Nat} {oi:Oper} {v:Value} (hi:ops[i]?=some oi) (hs:Region.noSelect ops=true) (hQ:∀c a w,Q (.panic c) (a.put oi.dst v) w→Q (.panic c) a w) (hb:brk.contains i=false)
  (hw:∀j oj,ops[j]?=some oj→brk.contains j=true→∃e∈oj.after,Region.binds md e=true∧e.on=i) :
  ∀(n:Nat) (listed:Array Bool) (a:Act) (w:World),
   (∀j oj,ops[j]?=some oj→j≠i→listed.getD j true=false→(∀e∈oj.after,Region.binds md e=true→e.on≠i)→oi.apart ops oj=true) →
   i∈Region.ready md ops listed→YieldsIf P ops S oi v a→S w→broke brk listed=false →
   wpL P md ops Q S brk n (listed.setIfInBounds i true) (a.put oi.dst v) w→wpL P md ops Q S brk (n+1) listed a w:=by
 intro n
 induction n with
 | zero =>
  intro listed a w _ hr hy hS hB H
  refine ⟨fun h=>(by rw [h] at hr;cases hr),fun j hj=>?_⟩
  by_cases hji:j=i
  ·subst hji;exact hy.wpOp hi hS ⟨.inr hS,H⟩
  ·have:=ready_mono hj hji
   rw [H.1] at this
   cases this
 | succ n ih =>
  intro listed a w hfree hr hy hS hB H
  refine ⟨fun h=>(by rw [h] at hr;cases hr),fun j hj=>?_⟩
  by_cases hji:j=i
  ·subst hji;exact hy.wpOp hi hS ⟨.inr hS,H⟩
  ·obtain ⟨hjun,oj,hoj,hall⟩:=mem_ready.1 hj
   have hun:=(mem_ready.1 hr).1
   have hno:∀e∈oj.after,Region.binds md e=true→e.on≠i:=by
    intro e he hbd heq;have h1:=hall e he hbd;rw [heq] at h1;rcases Nat.lt_or_ge i listed.size with h' | h'
    ·simp [h'] at hun h1;rw [hun] at h1;cases h1
    ·simp [Array.getElem?_eq_none h'] at h1
   have hjb:brk.contains j=false:=by
    cases hc:brk.contains j with
    | false=>rfl
    | true =>
     obtain ⟨e,he,h1,h2⟩:=hw j oj hoj hc;exact absurd h2 (hno e he h1)
   have hB2:broke brk (listed.setIfInBounds j true)=false:=by rw [broke_set hjb];exact hB
   have hSk:∀u,(broke brk ((listed.setIfInBounds i true).setIfInBounds j true)=true∨S u)→S u:=by
    intro u h;rw [Array.setIfInBounds_comm _ _ (Ne.symm hji),broke_set hb,hB2] at h;rcases h with h | h
    ·cases h
    ·exact h
   refine wpOp_mono (fun b u k=>⟨.inr (hSk u k.2.1),ih (listed.setIfInBounds j true) b u (fun t ot ht hti htn hto=>hfree t ot ht hti ?_ hto) (ready_mono hr (Ne.symm hji)) k.1 (hSk u k.2.1) hB2 ?_⟩)
    (wpOp_putIf hoj (hfree j oj hoj hji hjun hno) (fun cs b=>Region.noSelect_spec hs i oi cs b hi) (fun cs b=>Region.noSelect_spec hs j oj cs b hoj) hQ hy (H.2 j (ready_mono hj hji)))
   ·by_cases hjt:j=t
    ·subst hjt;exact hjun
    ·rw [getD_set_ne true hjt] at htn;exact htn
   ·rw [Array.setIfInBounds_comm _ _ hji]
    exact k.2.2
def waits (md:Region.Mode) (ops:Array Oper) (brk:List Nat) (i:Nat):Bool:=(List.range ops.size).all fun j=>!brk.contains j||((ops[j]?).map fun o=>o.after.any fun e=>Region.binds md e&&e.on==i).getD true
theorem waits_spec {i:Nat} (h:waits md ops brk i=true) (j:Nat) (oj:Oper) (hj:ops[j]?=some oj) (hb:brk.contains j=true):∃e∈oj.after,Region.binds md e=true∧e.on=i:=by
 unfold waits at h;rw [List.all_eq_true] at h;have h1:=h j (List.mem_range.2 (zg9.1 hj).1);rw [hb,hj] at h1;simp only [Bool.not_true,Bool.false_or,Option.map_some,Option.getD_some,Array.any_eq_true] at h1;obtain ⟨q,hq,h2⟩:=h1;rw [Bool.and_eq_true,beq_iff_eq] at h2;exact ⟨_,Array.getElem_mem hq,h2⟩
theorem wpL_take {i:Nat} {oi:Oper} {v:Value} {n:Nat} {listed:Array Bool} {a:Act} {w:World} (hi:ops[i]?=some oi) (hs:(Region.noSelect ops&&(!brk.contains i&&(waits md ops brk i&&(Region.free md ops listed i&&((Region.ready md ops listed).contains i&&!broke brk listed)))))=true)
  (hQ:∀c a w,Q (.panic c) (a.put oi.dst v) w→Q (.panic c) a w) (hy:YieldsIf P ops S oi v a) (hS:S w) (h:wpL P md ops Q S brk n (listed.setIfInBounds i true) (a.put oi.dst v) w):wpL P md ops Q S brk (n+1) listed a w:=by
 simp only [Bool.and_eq_true,Bool.not_eq_true'] at hs
 obtain ⟨h1,h2,h3,h4,h5,h6⟩:=hs
 exact wpL_load hi h1 hQ h2 (waits_spec h3) n listed a w (Region.free_spec hi h4) (by simpa using h5) hy hS h6 h
theorem wpL_reckon {i:Nat} {oi:Oper} {v:Value} {n:Nat} {listed:Array Bool} {a:Act} {w:World} (hi:ops[i]?=some oi) (hs:(Region.noSelect ops&&(!brk.contains i&&(Region.free md ops listed i&&(Region.ready md ops listed).contains i)))=true)
  (hQ:∀c a w,Q (.panic c) (a.put oi.dst v) w→Q (.panic c) a w) (hy:YieldsIf P ops (fun _=>True) oi v a) (hS:broke brk listed=true∨S w) (h:wpL P md ops Q S brk n (listed.setIfInBounds i true) (a.put oi.dst v) w):wpL P md ops Q S brk (n+1) listed a w:=by
 simp only [Bool.and_eq_true,Bool.not_eq_true'] at hs
 obtain ⟨h1,h2,h4,h5⟩:=hs
 exact wpL_pure hi h1 hQ h2 n listed a w (Region.free_spec hi h4) (by simpa using h5) hy hS h
theorem wpL_done {listed:Array Bool} {a:Act} {w:World} (hr:Region.ready md ops listed=[]) (h:Q .normal a w):∀n,wpL P md ops Q S brk n listed a w
 | 0=>⟨hr,h⟩
 | _+1=>⟨fun _=>h,by rw [hr];simp⟩
def AllL (P:Program) (md:Region.Mode) (ops:Array Oper) (Q:Exit→Act→World→Prop) (S:World→Prop) (brk:List Nat) (n:Nat) (listed:Array Bool) (a:Act) (w:World) (rs:List Nat):Prop:=
 ∀i∈rs,wpOp P ops Q i (fun b v=>(broke brk (listed.setIfInBounds i true)=true∨S v)∧wpL P md ops Q S brk n (listed.setIfInBounds i true) b v) a w
theorem AllL.nil {n:Nat} {listed:Array Bool} {a:Act} {w:World}:AllL P md ops Q S brk n listed a w []:=fun _ h=>by cases h
theorem AllL.cons {n:Nat} {listed:Array Bool} {a:Act} {w:World} {i:Nat} {o:Oper} {rs:List Nat} (ho:ops[i]?=some o)
  (h:∀K:Act→World→Prop,Shut (∀b v,S v→(S v→wpL P md ops Q S brk n (listed.setIfInBounds i true) b v)→K b v)→if Region.wanted o (yielded ops a.tmps)=true then Oper.wp P o a w K Q else K (a.put o.dst undef) w)
  (hs:AllL P md ops Q S brk n listed a w rs):AllL P md ops Q S brk n listed a w (i::rs):=fun j hj=>by
 rcases List.mem_cons.1 hj with rfl | hj
 ·exact wpOp_step ho fun K hK=>h K fun b v hS hW=>hK b v ⟨.inr hS,hW hS⟩
 ·exact hs j hj
theorem AllL.late {n:Nat} {listed:Array Bool} {a:Act} {w:World} {i:Nat} {o:Oper} {rs:List Nat} (ho:ops[i]?=some o) (hb:broke brk (listed.setIfInBounds i true)=true)
  (h:∀K:Act→World→Prop,Shut (∀b v,wpL P md ops Q S brk n (listed.setIfInBounds i true) b v→K b v)→if Region.wanted o (yielded ops a.tmps)=true then Oper.wp P o a w K Q else K (a.put o.dst undef) w)
  (hs:AllL P md ops Q S brk n listed a w rs):AllL P md ops Q S brk n listed a w (i::rs):=fun j hj=>by
 rcases List.mem_cons.1 hj with rfl | hj
 ·exact wpOp_step ho fun K hK=>h K fun b v hW=>hK b v ⟨.inl hb,hW⟩
 ·exact hs j hj
theorem wpL_ready {rs:List Nat} {n:Nat} {listed:Array Bool} {a:Act} {w:World} (hr:Region.ready md ops listed=rs) (hne:rs≠[]) (h:AllL P md ops Q S brk n listed a w rs):wpL P md ops Q S brk (n+1) listed a w:=
 ⟨fun h0=>absurd (hr▸h0) hne,hr▸h⟩
theorem wp_region_L {id:Nat} {a:Act} {w:World} (brk:List Nat) (hm:P.follows .mixedOrders=true) (hS:S w.drew)
  (h:S w.drew→wpL P .any ops Q S brk ops.size (Array.replicate ops.size false) a w.drew):(Code.region id ops true).wp P Q a w:=
 wp_region_any hm (wpL_plain _ _ _ _ (h hS))
end
def Wz (w:World) (lo:Nat) (z:Me):Prop:=(Byt z.m.a∧Byt z.m.l∧z.m.nums∧(∀x∈z.k,InOk x)∧z.k.length=z.x.k)∧w.ownsRow lo 5 1 (.slice z.x.A z.m.a.length z.x.c) z.m.a.length (cel z.m.a) ∧
 w.ownsRow lo 5 1 (.slice z.x.B z.m.l.length z.x.d) z.m.l.length (cel z.m.l)∧w.ownsRow lo 57 3 (.slice z.x.D z.x.k z.x.e) z.x.k (cei z.k)
section
variable {w w' : World} {lo : Nat} {z : Me}
theorem Wz.ok (h:Wz w lo z):z.ok w:=⟨⟨own_rd h.2.1 h.1.1,own_rd h.2.2.1 h.1.2.1,h.1.2.2.1⟩,(Ri.of_own h.2.2.2 h.1.2.2.2.1).1,h.1.2.2.2.2⟩
theorem Wz.keep (h:Wz w lo z) (hb:Below w.heap.size w w'):Wz w' lo z:=⟨h.1,own_below h.2.1 hb (Nat.le_refl _),own_below h.2.2.1 hb (Nat.le_refl _),own_below h.2.2.2 hb (Nat.le_refl _)⟩
theorem Wz.tag (h:Wz w lo z) {B k:Nat} (hB:Bk w B 50 k) (j:Nat) (u:Value):Wz (w.setCell ⟨B,j,none⟩ u) lo z:=⟨h.1,own_tag h.2.1 hB (by decide) j u,own_tag h.2.2.1 hB (by decide) j u,own_tag h.2.2.2 hB (by decide) j u⟩
theorem Wz.ow (h:Wz w lo z) {lo2 hi:Nat} (h1:lo2≤lo) (h2:w.heap.size≤hi):Owz w lo2 hi z:=⟨Rs.of_own h.2.1 h1 h2,Rs.of_own h.2.2.1 h1 h2,Rs.of_own h.2.2.2 h1 h2⟩
end
def st8 (w:World) (g o:Nat) (z:Me):World:=
 (((((((w.setCell ⟨g,o,none⟩ (.slice z.x.A z.m.a.length z.x.c)).setCell ⟨g,o+1,none⟩ (.slice z.x.B z.m.l.length z.x.d)).setCell ⟨g,o+2,none⟩ (.int .u8 z.m.r)).setCell ⟨g,o+3,none⟩ (.bool z.m.q)).setCell ⟨g,o+4,none⟩ (.int .i64 z.m.f)).setCell ⟨g,o+5,none⟩ (.int .i64 z.m.s)).setCell ⟨g,o+6,none⟩ (.int .i64 z.m.h)).setCell ⟨g,o+7,none⟩ (.slice z.x.D z.x.k z.x.e)
theorem st8_keep {p:World→Prop} {w:World} {g:Nat} (hp:p w) (h:∀w' j u,p w'→p (w'.setCell ⟨g,j,none⟩ u)) (o:Nat) (z:Me):p (st8 w g o z):=h _ _ _ (h _ _ _ (h _ _ _ (h _ _ _ (h _ _ _ (h _ _ _ (h _ _ _ (h _ _ _ hp)))))))
theorem cem_put (T R:List Me) (z z':Me):((((((((cem (T++z::R)).set (T.length*8) (.slice z'.x.A z'.m.a.length z'.x.c)).set (T.length*8+1) (.slice z'.x.B z'.m.l.length z'.x.d)).set (T.length*8+2) (.int .u8 z'.m.r)).set (T.length*8+3) (.bool z'.m.q)).set (T.length*8+4) (.int .i64 z'.m.f)).set (T.length*8+5) (.int .i64 z'.m.s)).set (T.length*8+6) (.int .i64 z'.m.h)).set (T.length*8+7) (.slice z'.x.D z'.x.k z'.x.e)=cem ((T++[z'])++R):=by
 have e:cem (T++z::R)=cem T++(ce8 z++cem R):=by simp [cem]
 have e2:cem ((T++[z'])++R)=cem T++(ce8 z'++cem R):=by simp [cem]
 have hl:=length_cem T
 have k:∀(L:List Value) (i:Nat) (u:Value),(cem T++L).set (T.length*8+i) u=cem T++L.set i u:=fun L i u=>by
  rw [List.set_append_right _ _ (by rw [hl];omega),hl,show T.length*8+i-T.length*8=i by omega]
 have k0:∀(L:List Value) (u:Value),(cem T++L).set (T.length*8) u=cem T++L.set 0 u:=fun L u=>k L 0 u;rw [e,e2,k0,k,k,k,k,k,k,k];rfl
theorem st8_own {w:World} {base g cap n:Nat} {T R:List Me} {z:Me} (h:w.ownsRow base 50 8 (.slice (some ⟨g,0,none⟩) n cap) n (cem (T++z::R))) (z':Me):(st8 w g (T.length*8) z').ownsRow base 50 8 (.slice (some ⟨g,0,none⟩) n cap) n (cem ((T++[z'])++R)):=by
 have:=((((((((((((((((h.stored (T.length*8) (.slice z'.x.A z'.m.a.length z'.x.c)).1).stored (T.length*8+1) (.slice z'.x.B z'.m.l.length z'.x.d)).1).stored (T.length*8+2) (.int .u8 z'.m.r)).1).stored (T.length*8+3) (.bool z'.m.q)).1).stored (T.length*8+4) (.int .i64 z'.m.f)).1).stored (T.length*8+5) (.int .i64 z'.m.s)).1).stored (T.length*8+6) (.int .i64 z'.m.h)).1).stored (T.length*8+7) (.slice z'.x.D z'.x.k z'.x.e)).1);rw [cem_put] at this;exact this
theorem own_bk {w:World} {base e size n g cap:Nat} {xs:List Value} (h:w.ownsRow base e size (.slice (some ⟨g,0,none⟩) n cap) n xs):(∃k,Bk w g e k)∧base≤g:=by
 rcases h.2 with ⟨hv,_⟩ | ⟨g',cap',cur,hv,hg,hb,_⟩
 ·cases hv
 ·injection hv with e1 _ _;injection e1 with e1;injection e1 with e1;subst e1;exact ⟨⟨cur.size,cur,hb,rfl⟩,hg⟩
theorem row_at {w:World} {base g cap n j:Nat} {T R:List Me} {z:Me} (h:w.ownsRow base 50 8 (.slice (some ⟨g,0,none⟩) n cap) n (cem (T++z::R))) (hT:T.length=j) (hn:n=(T++z::R).length) :
  (∀i u,i<8→(ce8 z)[i]?=some u→w.cell? ⟨g,j*8+i,none⟩=some u)∧∀i,i<8→w.frozen? ⟨g,j*8+i,none⟩=false:=by
 subst hT
 refine ⟨fun i u hi hu=>?_,fun i hi=>h.frozenAt _⟩
 have e:(T++z::R)[T.length]?=some z:=by simp
 have hl:T.length*8+i<n*8:=by rw [hn];simp;omega
 rw [h.cellAt (T.length*8+i) hl,cem_at e i hi]
 exact hu
def Ns11 (w w':World) (T:List Int×Int) (e:Ending):Prop:=∃A' c',e=.returned (.tuple #[.slice A' T.1.length c',.int .i64 T.2])∧w'.ownsRow w.heap.size 3 1 (.slice A' T.1.length c') T.1.length (ci9 T.1)∧Below w.heap.size w w'
theorem Ns11.err {w w':World} {T:List Int×Int} {e:Int} (hT:T=([],e)) (hb:Below w.heap.size w w'):Ns11 w w' T (.returned (.tuple #[.slice none 0 0,.int .i64 e])):=by
 subst hT;exact ⟨none,0,rfl,World.ownsRow_nil _ _ _ _,hb⟩
theorem fil_succ11 (f:Nat→Bool) (j:Nat):ns11 ((List.range (j+1)).filter f)=ns11 ((List.range j).filter f)++(if f j then [(j:Int)] else []):=by
 rw [List.range_succ,List.filter_append,ns11,List.map_append];cases h:f j<;>simp [h]
theorem fil_len11 (f:Nat→Bool) (j:Nat):(ns11 ((List.range j).filter f)).length≤j:=by
 rw [List.length_map];have:=List.length_filter_le f (List.range j);rw [List.length_range] at this;exact this
def slen11:Value→Nat
 | .slice _ n _=>n
 | _=>0
theorem nx11_of {e:Nat→Nat→Bool} {n:Nat} {o:List Nat} {k:Nat} (h1:∀i,i<k→rd11 e n o i=false) (h2:rd11 e n o k=true) (hk:k<n):nx11 e n o=some k:=by
 unfold nx11;rw [List.find?_range_eq_some];exact ⟨h2,List.mem_range.2 hk,fun i hi=>by rw [h1 i hi];rfl⟩
theorem nx11_no {e:Nat→Nat→Bool} {n:Nat} {o:List Nat} (h1:∀i,i<n→rd11 e n o i=false):nx11 e n o=none:=by
 unfold nx11;rw [List.find?_eq_none];intro i hi;rw [h1 i (List.mem_range.1 hi)];decide
end Go.Proofs.YtnjgkkoiamiaaaaGreatDoor
