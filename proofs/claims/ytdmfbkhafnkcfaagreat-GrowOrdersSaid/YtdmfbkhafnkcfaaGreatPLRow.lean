import Derived.Test.YtdmfbkhafnkcfaaGreatParti
import Derived.Test.YtdmfbkhafnkcfaaGreatPartd
import Derived.Test.YtdmfbkhafnkcfaaGreatPartt
import Derived.Deep.Slices
namespace Go.Proofs.YtdmfbkhafnkcfaaGreat
open Go.ChangeShapes Go.WideShapes Go.RowKit Go.MagM
theorem list2_of{l:List Value}(h:l.length=2):∃a b,l=[a,b]:=by match l,h with|[a,b],_=>exact⟨a,b,rfl⟩
set_option maxRecDepth 100000 in theorem view_pointsC{H:Type}{enc:TypeId×Value→H}{W:World}{b0:Nat}{v:Value}{d:DataW H}{p:List MemPlace}(hv:Value.okWide Tryz.prog W .any b0 22 v)(h:DataW.Trod enc Tryz.prog W 0 (fun _=>true) true 22 v d p):∃ao n c l,v= .slice ao n c∧l.length=n∧n≤c∧PtsAt W ao l:=by
  obtain⟨ao,n,c,rfl⟩:=okWide_slice Tryz.underlying22 hv;obtain⟨fuel,hf⟩:=h;rcases Go.Deep.open_slice Tryz.underlying22 hf with⟨hcs,_⟩|⟨a,len,cap,m,k,D,Pl,hcs,_,hlc,_,hm,_,hx⟩
  · simp[Value.cells] at hcs;obtain⟨rfl,rfl,rfl⟩:=hcs;exact⟨_,_,_,[],rfl,rfl,Nat.le_refl _,fun i x y hi=>by simp at hi⟩
  · simp[Value.cells] at hcs;obtain⟨rfl,rfl,rfl⟩:=hcs;simp only[if_true] at hm;subst hm;obtain⟨ab,ao,as'⟩:=a;have hs:0<n→as'=none:=fun h0=>by obtain⟨cs',h1,_⟩:=hx 0 (by omega);rw[ptCells] at h1;obtain⟨_,hlen,hcell⟩:=World.cells?_some h1;obtain⟨c0,c1,rfl⟩:=list2_of hlen;have hsp:=World.cell?_spot (hcell 0 (by omega));simpa[Addr.add] using hsp
    have each:∀i,i<n→∃q:Int×Int,as'=none∧W.cell? ⟨ab,ao+i*2,none⟩=some (.int .i64 q.1)∧W.cell? ⟨ab,ao+i*2+1,none⟩=some (.int .i64 q.2):=by
      intro i hi;obtain⟨cs',h1,h2⟩:=hx i (by omega);rw[ptCells] at h1;obtain⟨_,hlen,hcell⟩:=World.cells?_some h1;obtain⟨c0,c1,rfl⟩:=list2_of hlen;obtain⟨x,y,rfl,rfl⟩:=open_pt h2;obtain rfl:=hs (by omega);rw[addr_add] at hcell;refine⟨(x,y),rfl,?_,?_⟩;·have:=hcell 0 (by omega);rw[addr_add] at this;exact this
      ·have:=hcell 1 (by omega);rw[addr_add] at this;exact this
    obtain⟨f,hfa⟩:=Go.Deep.choose_lt each;refine⟨_,_,_,(List.range n).map f,rfl,by simp,hlc,fun i x y hi=>?_⟩;have hin:i<n:=by have:=(List.getElem?_eq_some_iff.1 hi).1;simpa using this
    have hq:f i=(x,y):=by rw[List.getElem?_map,List.getElem?_range hin] at hi;simpa using hi
    obtain⟨rfl,h1,h2⟩:=hfa i hin;rw[hq] at h1 h2;exact⟨ab,ao,rfl,h1,h2⟩
end Go.Proofs.YtdmfbkhafnkcfaaGreat
