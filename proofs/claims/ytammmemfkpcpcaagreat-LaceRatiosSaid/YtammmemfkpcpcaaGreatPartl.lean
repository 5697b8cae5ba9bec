import Derived.Test.YtammmemfkpcpcaaGreatPartj
import Derived.Test.YtammmemfkpcpcaaGreatPartk
import Derived.Test.YtammmemfkpcpcaaGreatParth
import Derived.Laws.AppendOwn
import Derived.Test.YtammmemfkpcpcaaGreatPartg
set_option linter.unusedSimpArgs false
set_option linter.unusedVariables false
namespace Go.MagM
open Go.RowKit
def RowN(w:World)(base:Nat)(e:TypeId)(size:Nat)(v:Value)(n:Nat)(xs:List Value):Prop:=xs.length=n*size∧((v= .slice none 0 0∧n=0)∨∃g cap cur,v= .slice (some ⟨g,0,none⟩) n cap∧base≤g∧w.heap[g]?=some (.cells cur e (0,0))∧n≤cap∧cap≤maxLen∧cur.size=cap*size∧cur.toList.take (n*size)=xs∧∀u∈cur.toList,NoWord u)
theorem RowN.own{w:World}{base:Nat}{e:TypeId}{size:Nat}{v:Value}{n:Nat}{xs:List Value}(h:RowN w base e size v n xs):w.ownsRow base e size v n xs:=by
  refine⟨h.1,?_⟩;rcases h.2 with h|⟨g,cap,cur,h1,h2,h3,h4,h5,h6,h7,_⟩;·exact .inl h
  ·exact .inr ⟨g,cap,cur,h1,h2,h3,h4,h5,h6,h7⟩
theorem RowN.nil(w:World)(base:Nat)(e:TypeId)(size:Nat):RowN w base e size (.slice none 0 0) 0 []:=⟨by simp,.inl ⟨rfl,rfl⟩⟩
theorem RowN.lt{w:World}{base:Nat}{e:TypeId}{size:Nat}{v:Value}{n:Nat}{xs:List Value}(h:RowN w base e size v n xs):∀k,v.ownBlock=some k→base≤k∧k<w.heap.size:=h.own.lt
theorem RowN.block{w w':World}{base:Nat}{e:TypeId}{size:Nat}{v:Value}{n:Nat}{xs:List Value}(h:RowN w base e size v n xs)(hb:∀k,v.ownBlock=some k→k<w.heap.size→w'.heap[k]?=w.heap[k]?):RowN w' base e size v n xs:=by
  refine⟨h.1,?_⟩;rcases h.2 with h|⟨g,cap,cur,rfl,h2,h3,h4⟩;·exact .inl h
  ·exact .inr ⟨g,cap,cur,rfl,h2,by rw[hb g rfl (Array.getElem?_eq_some_iff.1 h3).1];exact h3,h4⟩
theorem RowN.below{w w':World}{base:Nat}{e:TypeId}{size:Nat}{v:Value}{n:Nat}{xs:List Value}(h:RowN w base e size v n xs)(hb:Below w.heap.size w w'):RowN w' base e size v n xs:=h.block fun k _ hk=>hb.block k hk
theorem RowN.drew{w:World}{base:Nat}{e:TypeId}{size:Nat}{v:Value}{n:Nat}{xs:List Value}(h:RowN w base e size v n xs):RowN w.drew base e size v n xs:=h
theorem Box.grown{w w':World}{g:Nat}{vs:List Value}{row:Option Nat}(h:Box w g vs)(hg:w.grownBy w' row)(hne:row≠some g)(hl:g<w.heap.size):Box w' g vs:=by have e:=hg.block g hl (fun k=>hne k.symm);exact⟨fun i x hi=>(World.cell?_of_block (a:=⟨g,i,none⟩) e).trans (h.c i x hi),fun i x hi=>(World.frozen?_of_block (a:=⟨g,i,none⟩) e).trans (h.f i x hi)⟩
theorem addr_add(g o j:Nat):(⟨g,o,none⟩:Addr).add j=⟨g,o+j,none⟩:=by unfold Addr.add;split<;>simp_all
theorem Box.news{w:World}{g:Nat}{vs:List Value}(h:Box w g vs):∀j u,vs[j]?=some u→w.cell? ((⟨g,0,none⟩:Addr).add j)=some u:=by intro j u hu;rw[addr_add,Nat.zero_add];exact h.c j u hu
theorem RowN.cells{w:World}{base:Nat}{e:TypeId}{size:Nat}{v:Value}{n:Nat}{xs:List Value}(h:RowN w base e size v n xs){g:Nat}(hg:v.ownBlock=some g):∀j u,xs[j]?=some u→w.cell? ⟨g,j,none⟩=some u:=by intro j u hu;have:=h.own.cells hg j u hu;rwa [addr_add,Nat.zero_add] at this
section
variable{P:Program}
theorem noWord_zero{z:Array Value}(hz:∀u∈z.toList,NoWord u)(n:Nat):∀u∈(Builtin.zeroCells z n).toList,NoWord u:=by
  intro u hu;unfold Builtin.zeroCells at hu;rw[Array.toList_map,List.mem_map] at hu;obtain⟨i,hi,rfl⟩:=hu;have hi':i<n*z.size:=by simpa using hi
  have h0:0<z.size:=by
    rcases Nat.eq_zero_or_pos z.size with h|h;·rw[h] at hi';omega
    ·exact h
  have hm:=Nat.mod_lt i h0;rw[getElem!_pos z (i%z.size) hm];exact hz _ (Array.mem_toList_iff.2 (Array.getElem_mem hm))
theorem Kept.alloc(w:World)(o:Obj):Kept w (w.drew.alloc o):=fun a x h=>by rw[World.cell?_of_block (w:=w) (a:=a) (heap_alloc_old w.drew o (World.block_lt_of_cell? w a h))];exact h
theorem run_append_row(w:World)(base:Nat)(t ty e:TypeId)(i:TypeInfo)(z:Value)(size bytes:Nat)(ht:P.underlying t=some (.slice e))(hi:P.info? e=some i)(hz:i.zero=some z)(hsize:i.size=size)(hby:i.bytes=bytes)(hzs:z.cells.size=size)(hzw:∀u∈z.cells.toList,NoWord u)(v:Value)(n:Nat)(xs:List Value)(hrow:RowN w base e size v n xs)(a:Addr)(m c:Nat)(news:List Value)(hm0:0<m)(hl:news.length=m*size)(hnews:∀j u,news[j]?=some u→w.cell? (a.add j)=some u)(h1:∀u∈news,u.oneCell'=true)(hnw:∀u∈news,NoWord u)(h63:n+m≤maxLen)(hbytes:(n+m)*bytes≤140737488355328)(hbase:base≤w.heap.size):∃v' w',(Builtin.append_ #[t,t] ty #[v,.slice (some a) m c]).run P w= .ok v' w'∧RowN w' base e size v' (n+m) (xs++news)∧w.grownBy w' v.ownBlock∧Kept w w':=by
  subst hsize;subst hby;have hlen:(xs++news).length=(n+m)*i.size:=by rw[List.length_append,hrow.1,hl,Nat.add_mul]
  have grown:∀(old:Nat),old<n+m→(∀u∈xs,NoWord u)→∀(row:Option Nat),RowN (w.drew.alloc (.cells (xs.toArray++news.toArray++Builtin.zeroCells z.cells (grownCap w (n+m) old e-(n+m))) e)) base e i.size (.slice (some ⟨w.heap.size,0,none⟩) (n+m) (grownCap w (n+m) old e)) (n+m) (xs++news)∧w.grownBy (w.drew.alloc (.cells (xs.toArray++news.toArray++Builtin.zeroCells z.cells (grownCap w (n+m) old e-(n+m))) e)) row:=by
    intro old ho hxw row;have hge:=grownCap_ge w (n+m) old e;have hcm:grownCap w (n+m) old e≤maxLen:=grownCap_le_maxLen w (n+m) old e h63;refine⟨⟨hlen,.inr ⟨w.heap.size,_,_,rfl,hbase,heap_alloc_new w.drew _,hge,hcm,?_,?_,?_⟩⟩,⟨rfl,rfl,rfl,by simp,fun k hk _=>heap_alloc_old w.drew _ hk⟩⟩
    · simp only[Array.size_append,List.size_toArray,size_zeroCells,hzs,hrow.1,hl,←Nat.add_mul];congr 1;omega
    · simp only[Array.toList_append,List.append_assoc];rw[←List.append_assoc,←hlen];exact List.take_left
    · intro u hu;simp only[Array.toList_append,List.mem_append] at hu;rcases hu with(hu|hu)|hu;·exact hxw u hu
      ·exact hnw u hu
      ·exact noWord_zero hzw _ u hu
  have hrow':=hrow;rcases hrow.2 with⟨rfl,rfl⟩|⟨g,cap,cur,rfl,hbg,hg,hnc,hcm,hcs,htake,hcw⟩
  · have hx:xs=[]:=List.eq_nil_of_length_eq_zero (by simpa using hrow.1);subst hx;have hr:=run_append_nil (P:=P) w t ty e i z ht hi hz a m c news hl hnews hm0 (by simp only[maxLen] at h63;omega) (by have hb:=hbytes;simp only[Nat.zero_add] at hb;omega);have hgr:=grown 0 (by omega) (fun u hu=>by cases hu) (Value.ownBlock (.slice none 0 0));simp only[Nat.zero_add,List.nil_append,Array.empty_append] at hgr⊢;exact⟨_,_,hr,hgr.1,hgr.2,Kept.alloc w _⟩
  · by_cases hroom:n+m≤cap
    · have hfit:n*i.size+news.length≤cur.size:=by rw[hl,hcs,←Nat.add_mul];exact Nat.mul_le_mul_right _ hroom
      have hr:=run_append_room (P:=P) w t ty e i ht hi g n cap cur hg a m c news hl hnews h1 hroom hfit;have hcells:∀u∈cur.toList.take (n*i.size)++news++cur.toList.drop (n*i.size+news.length),NoWord u:=by
        intro u hu;rw[List.mem_append,List.mem_append] at hu;rcases hu with(hu|hu)|hu;·exact hcw u (List.mem_of_mem_take hu)
        ·exact hnw u hu
        ·exact hcw u (List.mem_of_mem_drop hu)
      refine⟨_,_,hr,⟨hlen,.inr ⟨g,cap,_,rfl,hbg,setRow_heap w g cur _ e _ hg,hroom,hcm,?_,?_,hcells⟩⟩,⟨rfl,rfl,rfl,by simp,fun k _ hk=>setRow_other w g k _ (fun e=>hk (by simp[Value.ownBlock,e]))⟩,?_⟩
      · simp only[List.size_toArray,List.length_append,List.length_take,List.length_drop,Array.length_toList];omega
      · rw[htake,←hlen];exact List.take_left
      · intro p x hp;by_cases hpg:p.block=g
        · exfalso;obtain⟨pb,po,ps⟩:=p;simp at hpg;subst hpg;have hsp:=World.cell?_spot hp;simp at hsp;subst hsp;rw[cell_of_row w pb po cur e (0,0) hg] at hp;have hmem:Value.int .u64 x∈cur.toList:=Array.mem_toList_iff.2 (Array.mem_of_getElem? hp);exact hcw _ hmem x rfl
        ·rw[World.cell?_of_block (w:=w) (a:=p) (setRow_other w g p.block _ hpg)];exact hp
    · have holds:∀j u,xs[j]?=some u→w.cell? ((⟨g,0,none⟩:Addr).add j)=some u:=hrow'.own.cells (g:=g) rfl;have hr:=run_append_grow (P:=P) w t ty e i z ht hi hz ⟨g,0,none⟩ n cap xs hrow'.1 holds a m c news hl hnews (by omega) (by simp only[maxLen] at h63;omega) (growslice_fits (by omega) hbytes);have hgr:=grown cap (by omega) (fun u hu=>hcw u (by rw[←htake] at hu;exact List.mem_of_mem_take hu)) (Value.ownBlock (.slice (some ⟨g,0,none⟩) n cap));exact⟨_,_,hr,hgr.1,hgr.2,Kept.alloc w _⟩
theorem wanted_go{o:Oper}{y:Nat→Option Bool}{A B:Prop}(hg:o.guard=none)(h:A):if Region.wanted o y=true then A else B:=by
  have e:Region.wanted o y=true:=by simp[Region.wanted,hg]
  rw[if_pos e];exact h
theorem wp_append_row{w:World}{o:Oper}{a:Act}{K:Act→World→Prop}{Q:Exit→Act→World→Prop}(s x:Operand)(t:TypeId)(ho:o.op= .call {callee:= .builtin .append,args:=#[s,x],argTypes:=#[t,t]}){v v':Value}{u:Value}{w':World}(hs:a.eval s=v)(hx:a.eval x=u)(hr:(Builtin.append_ #[t,t] o.type #[v,u]).run P w= .ok v' w')(h:K (a.put o.dst v') w'):o.wp P a w K Q:=by unfold Oper.wp execOp;simp only[ho,resolve,invoke,builtin,Sem.run_bind,Sem.run_pure,Result.andThen_ok,List.map_toArray,List.map_cons,List.map_nil,hs,hx,hr];exact h
end
end Go.MagM
namespace Go.MagM
open Go.RowKit
structure At6(w:World)(b o:Nat)(v0 v1 v2 v3 v4 v5:Value):Prop where
  c0:w.cell? ⟨b,o,none⟩=some v0
  c1:w.cell? ⟨b,o+1,none⟩=some v1
  c2:w.cell? ⟨b,o+2,none⟩=some v2
  c3:w.cell? ⟨b,o+3,none⟩=some v3
  c4:w.cell? ⟨b,o+4,none⟩=some v4
  c5:w.cell? ⟨b,o+5,none⟩=some v5
theorem At6.below{w w':World}{b o:Nat}{v0 v1 v2 v3 v4 v5:Value}(h:At6 w b o v0 v1 v2 v3 v4 v5)(hb:Below w.heap.size w w'):At6 w' b o v0 v1 v2 v3 v4 v5:=by have hlt:=World.block_lt_of_cell? w _ h.c0;exact⟨(hb.cell (p:=⟨b,o,none⟩) hlt).trans h.c0,(hb.cell (p:=⟨b,o+1,none⟩) hlt).trans h.c1,(hb.cell (p:=⟨b,o+2,none⟩) hlt).trans h.c2,(hb.cell (p:=⟨b,o+3,none⟩) hlt).trans h.c3,(hb.cell (p:=⟨b,o+4,none⟩) hlt).trans h.c4,(hb.cell (p:=⟨b,o+5,none⟩) hlt).trans h.c5⟩
theorem At6.drew{w:World}{b o:Nat}{v0 v1 v2 v3 v4 v5:Value}(h:At6 w b o v0 v1 v2 v3 v4 v5):At6 w.drew b o v0 v1 v2 v3 v4 v5:=⟨h.c0,h.c1,h.c2,h.c3,h.c4,h.c5⟩
end Go.MagM
namespace Go.Proofs.YtammmemfkpcpcaaGreat
open Go.MagM
end Go.Proofs.YtammmemfkpcpcaaGreat
namespace Go.MagM
open Go.RowKit
theorem At6.grown{w w':World}{b o:Nat}{v0 v1 v2 v3 v4 v5:Value}{row:Option Nat}(h:At6 w b o v0 v1 v2 v3 v4 v5)(hg:w.grownBy w' row)(hne:row≠some b):At6 w' b o v0 v1 v2 v3 v4 v5:=by have hl:=World.block_lt_of_cell? w _ h.c0;have e:=hg.block b hl (fun k=>hne k.symm);exact⟨(World.cell?_of_block (a:=⟨b,o,none⟩) e).trans h.c0,(World.cell?_of_block (a:=⟨b,o+1,none⟩) e).trans h.c1,(World.cell?_of_block (a:=⟨b,o+2,none⟩) e).trans h.c2,(World.cell?_of_block (a:=⟨b,o+3,none⟩) e).trans h.c3,(World.cell?_of_block (a:=⟨b,o+4,none⟩) e).trans h.c4,(World.cell?_of_block (a:=⟨b,o+5,none⟩) e).trans h.c5⟩
section
variable{P:Program}
theorem wpList_append_row{ops:Array Oper}{rest:List Oper}{w:World}{o:Oper}{a:Act}{Q:Exit→Act→World→Prop}(hgd:o.guard=none)(s x:Operand)(t:TypeId)(ho:o.op= .call {callee:= .builtin .append,args:=#[s,x],argTypes:=#[t,t]}){v v':Value}{u:Value}{w':World}(hs:a.eval s=v)(hx:a.eval x=u)(hr:(Builtin.append_ #[t,t] o.type #[v,u]).run P w= .ok v' w')(h:wpList P ops Q rest (a.put o.dst v') w'):wpList P ops Q (o::rest) a w:=wpList_plain hgd fun _ hK=>wp_append_row s x t ho hs hx hr (hK _ _ h)
end
end Go.MagM
namespace Go.MagM
theorem noWordI2(x y:Int):∀u∈[Value.int .i64 x,Value.int .i64 y],NoWord u:=by intro u hu;simp at hu;rcases hu with rfl|rfl<;>exact NoWord.int _
end Go.MagM
namespace Go.MagM
open Go.RowKit
structure TriM where
  v0:Int
  v1:Int
  v2:Int
  n0:Int
  n1:Int
  n2:Int
  f0:Bool
  f1:Bool
  f2:Bool
namespace TriM
def v(T:TriM):Nat→Int|0=>T.v0|1=>T.v1|_=>T.v2
def n(T:TriM):Nat→Int|0=>T.n0|1=>T.n1|_=>T.n2
def f(T:TriM):Nat→Bool|0=>T.f0|1=>T.f1|_=>T.f2
def setN(T:TriM)(i:Nat)(x:Int):TriM:=match i with|0=>{T with n0:=x}|1=>{T with n1:=x}|_=>{T with n2:=x}
def setF(T:TriM)(i:Nat)(x:Bool):TriM:=match i with|0=>{T with f0:=x}|1=>{T with f1:=x}|_=>{T with f2:=x}
def cells(T:TriM):List Value:=[.int .i64 T.v0,.int .i64 T.v1,.int .i64 T.v2,.int .i64 T.n0,.int .i64 T.n1,.int .i64 T.n2,.bool T.f0,.bool T.f1,.bool T.f2]
end TriM
def triCells:List TriM→List Value|[]=>[]|T::t=>T.cells++triCells t
theorem triCells_len:∀l,(triCells l).length=l.length*9|[]=>rfl|T::t=>by rw[triCells,List.length_append,triCells_len t,List.length_cons];simp[TriM.cells];omega
theorem triCells_app:∀l k,triCells (l++k)=triCells l++triCells k|[],_=>rfl|T::t,k=>by rw[List.cons_append,triCells,triCells_app t k,triCells,List.append_assoc]
theorem triCells_get:∀(l:List TriM)(i j:Nat)(T:TriM),l[i]?=some T→j<9→(triCells l)[i*9+j]?=T.cells[j]?|[],_,_,_,h,_=>by simp at h|X::t,0,j,T,h,hj=>by simp at h;subst h;rw[triCells,Nat.zero_mul,Nat.zero_add,List.getElem?_append_left (by simpa[TriM.cells] using hj)]|X::t,i+1,j,T,h,hj=>by have:=triCells_get t i j T (by simpa using h) hj;rw[triCells,List.getElem?_append_right (by simp[TriM.cells];omega)];rw[show(i+1)*9+j-X.cells.length=i*9+j by simp[TriM.cells];omega];exact this
theorem triCells_set:∀(l:List TriM)(i j:Nat)(u:Value)(T T':TriM),l[i]?=some T→j<9→T'.cells=T.cells.set j u→(triCells l).set (i*9+j) u=triCells (l.set i T')|[],_,_,_,_,_,h,_,_=>by simp at h|X::t,0,j,u,T,T',h,hj,he=>by simp at h;subst h;rw[triCells,Nat.zero_mul,Nat.zero_add,List.set_append_left _ _ (by simpa[TriM.cells] using hj),List.set_cons_zero,triCells,he]|X::t,i+1,j,u,T,T',h,hj,he=>by have:=triCells_set t i j u T T' (by simpa using h) hj he;rw[triCells,List.set_append_right _ _ (by simp[TriM.cells];omega),List.set_cons_succ,triCells,←this];rw[show(i+1)*9+j-X.cells.length=i*9+j by simp[TriM.cells];omega]
theorem triCells_setN{l:List TriM}{i:Nat}{T:TriM}(h:l[i]?=some T)(j:Nat)(hj:j<3)(x:Int):(triCells l).set (i*9+(3+j)) (.int .i64 x)=triCells (l.set i (T.setN j x)):=by
  refine triCells_set l i (3+j) _ T _ h (by omega) ?_;obtain rfl|rfl|rfl:j=0∨j=1∨j=2:=by omega
  all_goals rfl
theorem triCells_setF{l:List TriM}{i:Nat}{T:TriM}(h:l[i]?=some T)(j:Nat)(hj:j<3)(x:Bool):(triCells l).set (i*9+(6+j)) (.bool x)=triCells (l.set i (T.setF j x)):=by
  refine triCells_set l i (6+j) _ T _ h (by omega) ?_;obtain rfl|rfl|rfl:j=0∨j=1∨j=2:=by omega
  all_goals rfl
end Go.MagM
