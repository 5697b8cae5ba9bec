import Derived.Test.YtammmemfkpcpcaaGreatPartl
import Derived.Maps.Keyed
import Derived.Maps.RangeRun
import Derived.StillTailTactics
import Derived.Test.YtammmemfkpcpcaaGreatParti
import Derived.Test.YtammmemfkpcpcaaGreatPartk
import Derived.Test.YtammmemfkpcpcaaGreatPartn
set_option linter.unusedSimpArgs false
set_option linter.unusedVariables false
namespace Go.MagM
open Go.RowKit Go.Maps
open Go.ChangeMaps (setBlock)
section
variable{P:Program}
structure Turned(w w':World)(b:Nat):Prop where
  os:w'.os=w.os
  tape:w'.tape=w.tape
  output:w'.output=w.output
  size:w'.heap.size=w.heap.size
  block:∀i,i≠b→w'.heap[i]?=w.heap[i]?
theorem Turned.refl(w:World)(b:Nat):Turned w w b:=⟨rfl,rfl,rfl,rfl,fun _ _=>rfl⟩
theorem Turned.below{w w':World}{b B:Nat}(h:Turned w w' b)(hB:B≤b):Below B w w':=⟨h.os,h.tape,h.output,by rw[h.size];exact Nat.le_refl _,fun k hk=>h.block k (by omega)⟩
theorem Box.turned{w w':World}{g b:Nat}{vs:List Value}(h:Box w g vs)(ht:Turned w w' b)(hne:g≠b):Box w' g vs:=by have e:=ht.block g hne;exact⟨fun i x hi=>(World.cell?_of_block (a:=⟨g,i,none⟩) e).trans (h.c i x hi),fun i x hi=>(World.frozen?_of_block (a:=⟨g,i,none⟩) e).trans (h.f i x hi)⟩
theorem RowN.turned{w w':World}{b base:Nat}{e:TypeId}{size:Nat}{v:Value}{n:Nat}{xs:List Value}(h:RowN w base e size v n xs)(ht:Turned w w' b)(hne:∀k,v.ownBlock=some k→k≠b):RowN w' base e size v n xs:=h.block fun k hk _=>ht.block k (hne k hk)
theorem turned_set{w:World}{b:Nat}{o:Obj}(h:b<w.heap.size):Turned w (setBlock w b o) b∧(setBlock w b o).heap[b]?=some o:=by
  refine⟨⟨rfl,rfl,rfl,by simp[setBlock],fun i hi=>?_⟩,?_⟩;·simp[setBlock,Ne.symm hi]
  ·simp[setBlock,h]
structure MapB(P:Program)(k:TypeId)(w:World)(b:Nat)(m:List (Value×Value)):Prop where
  at_:∃es clock,w.heap[b]?=some (.map es clock)∧es.toList.map (fun e=>(e.key,e.val))=m∧(∀e∈es.toList,e.born<clock)∧(es.toList.map (·.born)).Nodup
  keys:∀p∈m,∃l,keyOf P k p.1=some l
  once:(m.map (·.1)).Nodup
theorem MapB.lt{k:TypeId}{w:World}{b:Nat}{m:List (Value×Value)}(h:MapB P k w b m):b<w.heap.size:=by obtain⟨es,clock,h1,_⟩:=h.at_;exact(Array.getElem?_eq_some_iff.1 h1).1
theorem MapB.block{k:TypeId}{w w':World}{b:Nat}{m:List (Value×Value)}(h:MapB P k w b m)(e:w'.heap[b]?=w.heap[b]?):MapB P k w' b m:=by obtain⟨es,clock,h1,h2⟩:=h.at_;exact⟨⟨es,clock,e.trans h1,h2⟩,h.keys,h.once⟩
theorem MapB.below{k:TypeId}{w w':World}{b:Nat}{m:List (Value×Value)}(h:MapB P k w b m)(hb:Below w.heap.size w w'):MapB P k w' b m:=h.block (hb.block b h.lt)
theorem run_new_map(w:World)(t:TypeId)(k:TypeId):(Instr.makeMap t none).run P w= .ok (.map (some w.heap.size)) (w.alloc (.map #[] 0))∧MapB P k (w.alloc (.map #[] 0)) w.heap.size []:=by refine⟨?_,⟨⟨#[],0,heap_alloc_new w _,rfl,by simp,by simp⟩,by simp,by simp⟩⟩;simp[Instr.makeMap,newObj,Sem.run,Result.andThen]
section
variable{t k e:TypeId}{w:World}{b:Nat}{m:List (Value×Value)}
theorem MapB.es_keys{es:Array MapEntry}(h:MapB P k w b m)(he:es.toList.map (fun e=>(e.key,e.val))=m):∀x∈es.toList,∃l,keyOf P k x.key=some l:=fun x hx=>by obtain⟨l,hl⟩:=h.keys (x.key,x.val) (by rw[←he];exact List.mem_map_of_mem hx);exact⟨l,hl⟩
theorem MapB.look(K:Keyed P k)(ht:P.underlying t=some (.map k e))(h:MapB P k w b m){x:Value}{lx:Lit}(hkey:keyOf P k x=some lx){z:Value}(hz:(zeroValue e).run P w= .ok z w)(ok:Bool):(∃v,(x,v)∈m∧(Instr.lookup t (.map (some b)) x ok).run P w= .ok (if ok then .tuple #[v,.bool true] else v) w)∨((∀v,(x,v)∉m)∧(Instr.lookup t (.map (some b)) x ok).run P w= .ok (if ok then .tuple #[z,.bool false] else z) w):=by
  obtain⟨es,clock,hb,he,_,_⟩:=h.at_;rcases K.find w hkey es.toList (h.es_keys he) with⟨h1,h2⟩|⟨j,e0,h1,h2,h3⟩
  · refine .inr ⟨fun v hv=>?_,?_⟩
    · rw[←he] at hv;obtain⟨y,hy,e1⟩:=List.mem_map.1 hv;exact h2 y hy (congrArg Prod.fst e1)
    ·simp[Instr.lookup,run_underlying ht,MapKept.run_getObj_map hb,K.check w _ hkey,h1,hz,Result.andThen]
  · refine .inl ⟨e0.val,?_,?_⟩;·rw[←he,←h3];exact List.mem_map_of_mem (List.mem_of_getElem? h2)
    ·simp[Instr.lookup,run_underlying ht,MapKept.run_getObj_map hb,K.check w _ hkey,h1,Result.andThen]
theorem MapB.store(K:Keyed P k)(ht:P.underlying t=some (.map k e))(h:MapB P k w b m){x:Value}{lx:Lit}(hkey:keyOf P k x=some lx)(v:Value):∃w' m',(Instr.mapUpdate t (.map (some b)) x v).run P w= .ok () w'∧Turned w w' b∧MapB P k w' b m'∧(((∀u,(x,u)∉m)∧m'=m++[(x,v)])∨∃j u,m[j]?=some (x,u)∧m'=m.set j (x,v)):=by
  obtain⟨es,clock,hb,he,hc,hn⟩:=h.at_;have hlt:=h.lt;rcases K.find w hkey es.toList (h.es_keys he) with⟨h1,h2⟩|⟨j,e0,h1,h2,h3⟩
  · have hno:∀u,(x,u)∉m:=fun u hu=>by
      rw[←he] at hu;obtain⟨y,hy,e1⟩:=List.mem_map.1 hu;exact h2 y hy (congrArg Prod.fst e1)
    obtain⟨t1,t2⟩:=turned_set (w:=w) (o:= .map (es.push ⟨x,v,clock⟩) (clock+1)) hlt;refine⟨setBlock w b (.map (es.push ⟨x,v,clock⟩) (clock+1)),m++[(x,v)],?_,t1,⟨⟨_,_,t2,?_,?_,?_⟩,?_,?_⟩,.inl ⟨hno,rfl⟩⟩;·simp[Instr.mapUpdate,run_underlying ht,MapKept.run_getObj_map hb,K.check w false hkey,h1,MapKept.run_setObj_map _ hb,Result.andThen,setBlock]
    ·rw[Array.toList_push,List.map_append,he];rfl
    · intro y hy;rw[Array.toList_push] at hy;rcases List.mem_append.1 hy with hy|hy;·have:=hc y hy;omega
      ·simp at hy;subst hy;simp
    · rw[Array.toList_push,List.map_append,List.nodup_append];refine⟨hn,by simp,fun p hp q hq e1=>?_⟩;obtain⟨y,hy,rfl⟩:=List.mem_map.1 hp;have:=hc y hy;simp at hq;subst hq;omega
    · intro p hp;rcases List.mem_append.1 hp with hp|hp;·exact h.keys p hp
      ·simp at hp;subst hp;exact⟨lx,hkey⟩
    · rw[List.map_append,List.nodup_append];refine⟨h.once,by simp,fun p hp q hq e1=>?_⟩;obtain⟨⟨y1,y2⟩,hy,rfl⟩:=List.mem_map.1 hp;simp at hq;subst hq;simp only[] at e1;subst e1;exact hno _ hy
  · have hj:es[j]?=some e0:=by simpa using h2
    have hmj:m[j]?=some (x,e0.val):=by rw[←he,List.getElem?_map,h2,←h3];rfl
    have hlist:(es.modify j (fun e'=>{e' with key:=x,val:=v})).toList=es.toList.set j {e0 with key:=x,val:=v}:=by rw[Array.toList_modify,ChangeMaps.modify_eq_set _ _ _ _ h2]
    obtain⟨t1,t2⟩:=turned_set (w:=w) (o:= .map (es.modify j (fun e'=>{e' with key:=x,val:=v})) clock) hlt;refine⟨setBlock w b (.map (es.modify j (fun e'=>{e' with key:=x,val:=v})) clock),m.set j (x,v),?_,t1,⟨⟨_,_,t2,?_,?_,?_⟩,?_,?_⟩,.inr ⟨j,_,hmj,rfl⟩⟩;·simp[Instr.mapUpdate,run_underlying ht,MapKept.run_getObj_map hb,K.check w false hkey,h1,hj,h3,K.stays w hkey,MapKept.run_setObj_map _ hb,Result.andThen,setBlock]
    ·rw[hlist,List.map_set,he]
    · intro y hy;rw[hlist] at hy;rcases List.mem_or_eq_of_mem_set hy with hy|hy;·exact hc y hy
      ·subst hy;exact hc e0 (List.mem_of_getElem? h2)
    · rw[hlist,List.map_set];have:(es.toList.map (·.born)).set j e0.born=es.toList.map (·.born):=by
        refine List.ext_getElem? fun i=>?_;rw[List.getElem?_set];split
        · rename_i hij;subst hij;have hj':=(List.getElem?_eq_some_iff.1 h2).1;rw[List.getElem?_map,h2];simp;exact(List.getElem?_eq_some_iff.1 h2).1
        ·rfl
      rw[this];exact hn
    · intro p hp;rcases List.mem_or_eq_of_mem_set hp with hp|hp;·exact h.keys p hp
      ·subst hp;exact⟨lx,hkey⟩
    · rw[List.map_set];have:(m.map (·.1)).set j x=m.map (·.1):=by
        refine List.ext_getElem? fun i=>?_;rw[List.getElem?_set];split
        · rename_i hij;subst hij;rw[List.getElem?_map,hmj];simp;exact(List.getElem?_eq_some_iff.1 hmj).1
        ·rfl
      rw[this];exact h.once
end
end
end Go.MagM
namespace Go.MagM
open Go.RowKit
theorem Turned.setCell{w w':World}{b:Nat}(h:Turned w w' b)(i:Nat)(v:Value):Turned w (w'.setCell ⟨b,i,none⟩ v) b:=by refine⟨h.os,h.tape,h.output,by simp[World.setCell,h.size],fun k hk=>?_⟩;rw[←h.block k hk];simp only[World.setCell,Array.getElem?_modify];rw[if_neg (Ne.symm hk)]
end Go.MagM
namespace Go.Proofs.YtammmemfkpcpcaaGreat
open Go.RowKit Go.MagM
end Go.Proofs.YtammmemfkpcpcaaGreat
