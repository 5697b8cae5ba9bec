import Derived.Test.YtammmemfkpcpcaaGreatParth
import Derived.StillTail
set_option linter.unusedSimpArgs false
set_option linter.unusedVariables false
namespace Go.MagM
open Go
section
variable{P:Program}{ops:Array Oper}{Q:Exit→Act→World→Prop}{md:Region.Mode}{S:Array Bool→World→Prop}
def Cl(md:Region.Mode)(ops:Array Oper)(l:Array Bool):Prop:=l.size=ops.size∧∀(j:Nat)(o:Oper),ops[j]?=some o→l.getD j false=true→∀e∈o.after,Region.binds md e=true→l.getD e.on false=true
theorem Cl.start:Cl md ops (Array.replicate ops.size false):=⟨by simp,fun j o _ h=>by rw[getD_replicate_false] at h;cases h⟩
theorem Cl.step{l:Array Bool}{i:Nat}(h:Cl md ops l)(hi:i∈Region.ready md ops l):Cl md ops (l.setIfInBounds i true):=by
  refine⟨by simpa using h.1,fun j o ho hj e he hb=>?_⟩;obtain⟨_,o',ho',hall⟩:=mem_ready.1 hi;by_cases hij:i=j
  · subst hij;rw[ho'] at ho;cases ho;exact getD_set_true (hall e he hb)
  · rw[getD_set_ne false hij] at hj;exact getD_set_true (h.2 j o ho hj e he hb)
theorem Cl.not{l:Array Bool}{i t:Nat}(h:Cl md ops l)(ht:Region.waitsFor md ops t i=true)(hi:l.getD i true=false):l.getD t true=false:=by
  obtain⟨o,ho,e,he,hb,rfl⟩:=Region.waitsFor_spec ht;cases hc:l.getD t true;·rfl
  · have hlt:t<l.size:=by rw[h.1];exact(Array.getElem?_eq_some_iff.1 ho).1
    have h1:l.getD t false=true:=by simp[hlt] at hc⊢;exact hc
    have h2:=h.2 t o ho h1 e he hb;rw[getD_both hi] at h2;cases h2
def wpAnyG(P:Program)(md:Region.Mode)(ops:Array Oper)(Q:Exit→Act→World→Prop)(S:Array Bool→World→Prop):Nat→Array Bool→Act→World→Prop|0,l,a,w=>Region.ready md ops l=[]∧Q .normal a w|fuel+1,l,a,w=>(Region.ready md ops l=[]→Q .normal a w)∧∀i∈Region.ready md ops l,wpOp P ops Q i (fun a' w'=>S (l.setIfInBounds i true) w'∧wpAnyG P md ops Q S fuel (l.setIfInBounds i true) a' w') a w
theorem wpAny_of_G:∀(fuel:Nat)(l:Array Bool)(a:Act)(w:World),wpAnyG P md ops Q S fuel l a w→wpAny P md ops Q fuel l a w|0,_,_,_,h=>h|fuel+1,_,_,_,h=>⟨h.1,fun i hi=>wpOp_mono (fun _ _ h'=>wpAny_of_G fuel _ _ _ h'.2) (h.2 i hi)⟩
def Ahead(md:Region.Mode)(ops:Array Oper)(S:Array Bool→World→Prop)(i:Nat)(w:World):Prop:=∃l,Cl md ops l∧l.getD i true=false∧S l w
theorem wpAnyG_first{i:Nat}{oi:Oper}{v:Value}(hi:ops[i]?=some oi)(hsel:∀(j:Nat)(o:Oper) cs b,ops[j]?=some o→o.op≠ .select cs b)(hQ:∀c a w,Q (.panic c) (a.put oi.dst v) w→Q (.panic c) a w)(hirr:∀l w,S (l.setIfInBounds i true) w↔S l w):∀(fuel:Nat)(l:Array Bool)(a:Act)(w:World),(∀j oj,ops[j]?=some oj→j≠i→l.getD j true=false→(∀e∈oj.after,Region.binds md e=true→e.on≠i)→oi.apart ops oj=true)→i∈Region.ready md ops l→Cl md ops l→YieldsIf P ops (Ahead md ops S i) oi v a→S l w→wpAnyG P md ops Q S fuel (l.setIfInBounds i true) (a.put oi.dst v) w→wpAnyG P md ops Q S (fuel+1) l a w:=by intro fuel;induction fuel with
  |zero=>
    intro l a w _ hr hcl hy hS H;refine⟨fun h=>(by rw[h] at hr;cases hr),fun j hj=>?_⟩;by_cases hji:j=i;·subst hji;exact hy.wpOp hi ⟨l,hcl,(mem_ready.1 hr).1,hS⟩ ⟨(hirr _ _).2 hS,H⟩
    · have:=ready_mono hj hji;rw[H.1] at this;cases this|succ fuel ih=>
    intro l a w hfree hr hcl hy hS H;refine⟨fun h=>(by rw[h] at hr;cases hr),fun j hj=>?_⟩;by_cases hji:j=i;·subst hji;exact hy.wpOp hi ⟨l,hcl,(mem_ready.1 hr).1,hS⟩ ⟨(hirr _ _).2 hS,H⟩
    · have h1:=H.2 j (ready_mono hj hji);obtain⟨hjun,oj,hoj,hall⟩:=mem_ready.1 hj;have hnot:∀e∈oj.after,Region.binds md e=true→e.on≠i:=fun e he hb heq=>by
        have h1:=hall e he hb;have h0:=(mem_ready.1 hr).1;rw[heq,getD_both h0] at h1;cases h1
      have h2:=wpOp_putIf hoj (hfree j oj hoj hji hjun hnot) (fun cs b=>hsel i oi cs b hi) (fun cs b=>hsel j oj cs b hoj) hQ hy h1;have hfree':∀k ok,ops[k]?=some ok→k≠i→(l.setIfInBounds j true).getD k true=false→(∀e∈ok.after,Region.binds md e=true→e.on≠i)→oi.apart ops ok=true:=fun k ok hk hki hun hno=>by
        refine hfree k ok hk hki ?_ hno;by_cases hjk:j=k;·subst hjk;exact hjun
        ·rw[getD_set_ne true hjk] at hun;exact hun
      refine wpOp_mono (fun a' w' h3=>?_) h2;have hS':S (l.setIfInBounds j true) w':=by have:=h3.2.1;rw[Array.setIfInBounds_comm _ _ (Ne.symm hji)] at this;exact(hirr _ _).1 this
      refine⟨hS',ih (l.setIfInBounds j true) a' w' hfree' (ready_mono hr (Ne.symm hji)) (hcl.step hj) h3.1 hS' ?_⟩;rw[Array.setIfInBounds_comm _ _ hji];exact h3.2.2
theorem reg_takeG(i:Nat)(oi:Oper)(v:Value){fuel:Nat}{l:Array Bool}{a:Act}{w:World}(hi:ops[i]?=some oi)(hs:Region.noSelect ops=true)(hf:Region.free md ops l i=true)(hr:(Region.ready md ops l).contains i=true)(hQ:∀c a w,Q (.panic c) (a.put oi.dst v) w→Q (.panic c) a w)(hirr:∀l w,S (l.setIfInBounds i true) w↔S l w)(hw:Region.wanted oi (yielded ops a.tmps)=true)(hy:∀w,Ahead md ops S i w→(execOp a.eval oi).run P w= .ok (.value v) w)(hcl:Cl md ops l)(hS:S l w)(h:Cl md ops (l.setIfInBounds i true)→S (l.setIfInBounds i true) w→wpAnyG P md ops Q S fuel (l.setIfInBounds i true) (a.put oi.dst v) w):wpAnyG P md ops Q S (fuel+1) l a w:=have hr':i∈Region.ready md ops l:=by simpa using hr
  wpAnyG_first hi (Region.noSelect_spec hs) hQ hirr fuel l a w (Region.free_spec hi hf) hr' hcl (Or.inl ⟨hw,hy⟩) hS (h (hcl.step hr') ((hirr _ _).2 hS))
theorem reg_callG(i:Nat)(o:Oper){fuel:Nat}{l:Array Bool}{a:Act}{w:World}(hr:Region.ready md ops l=[i])(ho:ops[i]?=some o)(h:∀K':Act→World→Prop,Shut (∀a w,S (l.setIfInBounds i true) w→wpAnyG P md ops Q S fuel (l.setIfInBounds i true) a w→K' a w)→if Region.wanted o (yielded ops a.tmps)=true then Oper.wp P o a w K' Q else K' (a.put o.dst undef) w):wpAnyG P md ops Q S (fuel+1) l a w:=by
  refine⟨fun h0=>absurd (hr▸h0) (by simp),?_⟩;rw[hr];intro j hj;obtain rfl:j=i:=by simpa using hj
  exact wpOp_step ho (fun K' hK=>h K' (fun a w hS hW=>hK a w ⟨hS,hW⟩))
theorem wpAnyG_done{l:Array Bool}{a:Act}{w:World}(hr:Region.ready md ops l=[])(h:Q .normal a w):∀fuel,wpAnyG P md ops Q S fuel l a w|0=>⟨hr,h⟩|_+1=>⟨fun _=>h,by rw[hr];simp⟩
theorem wp_region_G{id:Nat}{a:Act}{w:World}(S:Array Bool→World→Prop)(n:Nat)(l:Array Bool)(hm:P.follows .mixedOrders=true)(hn:ops.size=n)(hl:Array.replicate ops.size false=l)(hS:S l w.drew)(h:Cl .any ops l→S l w.drew→wpAnyG P .any ops Q S n l a w.drew):(Code.region id ops true).wp P Q a w:=by subst hl hn;exact wp_region_any hm (wpAny_of_G _ _ _ _ (h Cl.start hS))
end
end Go.MagM
namespace Go.MagM
open Go
theorem gA{α:Type _}{xs:List α}{i:Nat}:xs.toArray[i]?=xs[i]?:=List.getElem?_toArray
theorem gS{α:Type _}{a:α}{i:Nat}{l:List α}:(a::l)[i+1]?=l[i]?:=List.getElem?_cons_succ
theorem gZ{α:Type _}{a:α}{l:List α}:(a::l)[0]?=some a:=List.getElem?_cons_zero
theorem sA{α:Type _}(l:List α)(i:Nat)(a:α):l.toArray.setIfInBounds i a=(l.set i a).toArray:=List.setIfInBounds_toArray l i a
theorem sZ{α:Type _}{x:α}{xs:List α}{a:α}:(x::xs).set 0 a=a::xs:=List.set_cons_zero
theorem sS{α:Type _}{x:α}{xs:List α}{i:Nat}{a:α}:(x::xs).set (i+1) a=x::xs.set i a:=List.set_cons_succ
section
variable{P:Program}{ops:Array Oper}{Q:Exit→Act→World→Prop}{md:Region.Mode}{S:World→Prop}
theorem rT(i:Nat)(oi:Oper)(v:Value){fuel:Nat}{listed:Array Bool}{a:Act}{w:World}(hi:ops[i]?=some oi)(hw:Region.wanted oi (yielded ops a.tmps)=true)(hy:∀w,S w→(execOp a.eval oi).run P w= .ok (.value v) w)(h:wpAnyH P md ops Q S fuel (listed.setIfInBounds i true) (a.put oi.dst v) w)(hs:Region.noSelect ops=true:=by kernel_rfl)(hf:Region.free md ops listed i=true:=by kernel_rfl)(hr:(Region.ready md ops listed).contains i=true:=by kernel_rfl)(hQ:∀c a w,Q (.panic c) (a.put oi.dst v) w→Q (.panic c) a w:=by exact fun _ _ _ h=>h)(hS:S w:=by assumption):wpAnyH P md ops Q S (fuel+1) listed a w:=reg_take i oi v hi hs hf hr hQ hw hy hS h
theorem rS(i:Nat)(oi:Oper){fuel:Nat}{listed:Array Bool}{a:Act}{w:World}(hi:ops[i]?=some oi)(hw:Region.wanted oi (yielded ops a.tmps)=false)(h:wpAnyH P md ops Q S fuel (listed.setIfInBounds i true) (a.put oi.dst undef) w)(hs:Region.noSelect ops=true:=by kernel_rfl)(hf:Region.free md ops listed i=true:=by kernel_rfl)(hr:(Region.ready md ops listed).contains i=true:=by kernel_rfl)(hQ:∀c a w,Q (.panic c) (a.put oi.dst undef) w→Q (.panic c) a w:=by exact fun _ _ _ h=>h)(hS:S w:=by assumption):wpAnyH P md ops Q S (fuel+1) listed a w:=reg_skip i oi hi hs hf hr hQ hw hS h
theorem rU(i:Nat)(oi:Oper)(v:Value){fuel:Nat}{listed l':Array Bool}{a a':Act}{w:World}(h:wpAnyH P md ops Q S fuel l' a' w)(hi:ops[i]?=some oi:=by simp only[gA,gS,gZ];exact rfl)(hw:Region.wanted oi (yielded ops a.tmps)=true:=by rfl)(hy:∀w,S w→(execOp a.eval oi).run P w= .ok (.value v) w:=by intro w hSw;(try dsimp only at hSw);go_simp;try with_reducible rfl)(hl:listed.setIfInBounds i true=l':=by(try simp only[sA,sZ,sS]);exact rfl)(ha:a.put oi.dst v=a':=by(try simp only[Act.put,sA,sZ,sS]);exact rfl)(hs:Region.noSelect ops=true:=by kernel_rfl)(hf:Region.free md ops listed i=true:=by kernel_rfl)(hr:(Region.ready md ops listed).contains i=true:=by kernel_rfl)(hQ:∀c a w,Q (.panic c) (a.put oi.dst v) w→Q (.panic c) a w:=by exact fun _ _ _ h=>h)(hS:S w:=by assumption):wpAnyH P md ops Q S (fuel+1) listed a w:=reg_take i oi v hi hs hf hr hQ hw hy hS (by rw[hl,ha];exact h)
theorem rC(i:Nat)(o:Oper){fuel:Nat}{listed:Array Bool}{a:Act}{w:World}(h:∀K':Act→World→Prop,Shut (∀a w,S w→(S w→wpAnyH P md ops Q S fuel (listed.setIfInBounds i true) a w)→K' a w)→if Region.wanted o (yielded ops a.tmps)=true then Oper.wp P o a w K' Q else K' (a.put o.dst undef) w)(hr:Region.ready md ops listed=[i]:=by kernel_rfl)(ho:ops[i]?=some o:=by simp only[gA,gS,gZ];exact rfl):wpAnyH P md ops Q S (fuel+1) listed a w:=reg_call i o hr ho h
end
section
variable{P:Program}{ops:Array Oper}{Q:Exit→Act→World→Prop}{md:Region.Mode}{S:Array Bool→World→Prop}
theorem rG(i:Nat)(oi:Oper)(v:Value){fuel:Nat}{l:Array Bool}{a:Act}{w:World}(hi:ops[i]?=some oi)(hirr:∀l w,S (l.setIfInBounds i true) w↔S l w)(hw:Region.wanted oi (yielded ops a.tmps)=true)(hy:∀w,Ahead md ops S i w→(execOp a.eval oi).run P w= .ok (.value v) w)(hcl:Cl md ops l)(hS:S l w)(h:Cl md ops (l.setIfInBounds i true)→S (l.setIfInBounds i true) w→wpAnyG P md ops Q S fuel (l.setIfInBounds i true) (a.put oi.dst v) w)(hs:Region.noSelect ops=true:=by kernel_rfl)(hf:Region.free md ops l i=true:=by kernel_rfl)(hr:(Region.ready md ops l).contains i=true:=by kernel_rfl)(hQ:∀c a w,Q (.panic c) (a.put oi.dst v) w→Q (.panic c) a w:=by exact fun _ _ _ h=>h):wpAnyG P md ops Q S (fuel+1) l a w:=reg_takeG i oi v hi hs hf hr hQ hirr hw hy hcl hS h
theorem rD(i:Nat)(o:Oper){fuel:Nat}{l:Array Bool}{a:Act}{w:World}(h:∀K':Act→World→Prop,Shut (∀a w,S (l.setIfInBounds i true) w→wpAnyG P md ops Q S fuel (l.setIfInBounds i true) a w→K' a w)→if Region.wanted o (yielded ops a.tmps)=true then Oper.wp P o a w K' Q else K' (a.put o.dst undef) w)(hr:Region.ready md ops l=[i]:=by kernel_rfl)(ho:ops[i]?=some o:=by simp only[gA,gS,gZ];exact rfl):wpAnyG P md ops Q S (fuel+1) l a w:=reg_callG i o hr ho h
end
end Go.MagM
