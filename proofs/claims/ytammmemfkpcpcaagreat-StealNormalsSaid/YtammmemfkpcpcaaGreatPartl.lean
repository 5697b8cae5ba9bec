import Derived.Test.YtammmemfkpcpcaaGreatPartj
import Derived.Test.YtammmemfkpcpcaaGreatPartk
import Derived.Laws.AppendOwn
import Derived.Test.YtammmemfkpcpcaaGreatParti
import Derived.Test.YtammmemfkpcpcaaGreatPartg
set_option linter.unusedSimpArgs false
set_option linter.unusedVariables false
namespace Go.MagM
open Go.RowKit
def RowN(w:World)(base:Nat)(e:TypeId)(size:Nat)(v:Value)(n:Nat)(xs:List Value):Prop:=xs.length=n*size∧((v= .slice none 0 0∧n=0)∨∃g cap cur,v= .slice (some ⟨g,0,none⟩) n cap∧base≤g∧w.heap[g]?=some (.cells cur e (0,0))∧n≤cap∧cap≤maxLen∧cur.size=cap*size∧cur.toList.take (n*size)=xs∧∀u∈cur.toList,NoWord u)
theorem RowN.own{w:World}{base:Nat}{e:TypeId}{size:Nat}{v:Value}{n:Nat}{xs:List Value}(h:RowN w base e size v n xs):w.ownsRow base e size v n xs:=by
  refine⟨h.1,?_⟩;rcases h.2 with h|⟨g,cap,cur,h1,h2,h3,h4,h5,h6,h7,_⟩;·exact .inl h
  ·exact .inr ⟨g,cap,cur,h1,h2,h3,h4,h5,h6,h7⟩
theorem RowN.nil(w:World)(base:Nat)(e:TypeId)(size:Nat):RowN w base e size (.slice none 0 0) 0 []:=⟨by simp,.inl ⟨rfl,rfl⟩⟩
theorem RowN.lt{w:World}{base:Nat}{e:TypeId}{size:Nat}{v:Value}{n:Nat}{xs:List Value}(h:RowN w base e size v n xs):∀k,v.ownBlock=some k→base≤k∧k<w.heap.size:=h.own.lt
theorem RowN.block{w w':World}{base:Nat}{e:TypeId}{size:Nat}{v:Value}{n:Nat}{xs:List Value}(h:RowN w base e size v n xs)(hb:∀k,v.ownBlock=some k→k<w.heap.size→w'.heap[k]?=w.heap[k]?):RowN w' base e size v n xs:=by
  refine⟨h.1,?_⟩;rcases h.2 with h|⟨g,cap,cur,rfl,h2,h3,h4⟩;·exact .inl h
  ·exact .inr ⟨g,cap,cur,rfl,h2,by rw[hb g rfl (Array.getElem?_eq_some_iff.1 h3).1];exact h3,h4⟩
theorem RowN.below{w w':World}{base:Nat}{e:TypeId}{size:Nat}{v:Value}{n:Nat}{xs:List Value}(h:RowN w base e size v n xs)(hb:Below w.heap.size w w'):RowN w' base e size v n xs:=h.block fun k _ hk=>hb.block k hk
theorem RowN.drew{w:World}{base:Nat}{e:TypeId}{size:Nat}{v:Value}{n:Nat}{xs:List Value}(h:RowN w base e size v n xs):RowN w.drew base e size v n xs:=h
theorem RowN.grown{w w':World}{base:Nat}{e:TypeId}{size:Nat}{v:Value}{n:Nat}{xs:List Value}{row:Option Nat}(h:RowN w base e size v n xs)(hg:w.grownBy w' row)(hne:∀k,v.ownBlock=some k→some k≠row):RowN w' base e size v n xs:=h.block fun k hk hl=>hg.block k hl (hne k hk)
theorem Box.grown{w w':World}{g:Nat}{vs:List Value}{row:Option Nat}(h:Box w g vs)(hg:w.grownBy w' row)(hne:row≠some g)(hl:g<w.heap.size):Box w' g vs:=by have e:=hg.block g hl (fun k=>hne k.symm);exact⟨fun i x hi=>(World.cell?_of_block (a:=⟨g,i,none⟩) e).trans (h.c i x hi),fun i x hi=>(World.frozen?_of_block (a:=⟨g,i,none⟩) e).trans (h.f i x hi)⟩
theorem addr_add(g o j:Nat):(⟨g,o,none⟩:Addr).add j=⟨g,o+j,none⟩:=by unfold Addr.add;split<;>simp_all
theorem Box.news{w:World}{g:Nat}{vs:List Value}(h:Box w g vs):∀j u,vs[j]?=some u→w.cell? ((⟨g,0,none⟩:Addr).add j)=some u:=by intro j u hu;rw[addr_add,Nat.zero_add];exact h.c j u hu
theorem RowN.cells{w:World}{base:Nat}{e:TypeId}{size:Nat}{v:Value}{n:Nat}{xs:List Value}(h:RowN w base e size v n xs){g:Nat}(hg:v.ownBlock=some g):∀j u,xs[j]?=some u→w.cell? ⟨g,j,none⟩=some u:=by intro j u hu;have:=h.own.cells hg j u hu;rwa [addr_add,Nat.zero_add] at this
section
variable{P:Program}
theorem noWord_zero{z:Array Value}(hz:∀u∈z.toList,NoWord u)(n:Nat):∀u∈(Builtin.zeroCells z n).toList,NoWord u:=by
  intro u hu;unfold Builtin.zeroCells at hu;rw[Array.toList_map,List.mem_map] at hu;obtain⟨i,hi,rfl⟩:=hu;have hi':i<n*z.size:=by simpa using hi
  have h0:0<z.size:=by
    rcases Nat.eq_zero_or_pos z.size with h|h;·rw[h] at hi';omega
    ·exact h
  have hm:=Nat.mod_lt i h0;rw[getElem!_pos z (i%z.size) hm];exact hz _ (Array.mem_toList_iff.2 (Array.getElem_mem hm))
theorem Kept.alloc(w:World)(o:Obj):Kept w (w.drew.alloc o):=fun a x h=>by rw[World.cell?_of_block (w:=w) (a:=a) (heap_alloc_old w.drew o (World.block_lt_of_cell? w a h))];exact h
theorem run_append_row(w:World)(base:Nat)(t ty e:TypeId)(i:TypeInfo)(z:Value)(size bytes:Nat)(ht:P.underlying t=some (.slice e))(hi:P.info? e=some i)(hz:i.zero=some z)(hsize:i.size=size)(hby:i.bytes=bytes)(hzs:z.cells.size=size)(hzw:∀u∈z.cells.toList,NoWord u)(v:Value)(n:Nat)(xs:List Value)(hrow:RowN w base e size v n xs)(a:Addr)(m c:Nat)(news:List Value)(hm0:0<m)(hl:news.length=m*size)(hnews:∀j u,news[j]?=some u→w.cell? (a.add j)=some u)(h1:∀u∈news,u.oneCell'=true)(hnw:∀u∈news,NoWord u)(h63:n+m≤maxLen)(hbytes:(n+m)*bytes≤140737488355328)(hbase:base≤w.heap.size):∃v' w',(Builtin.append_ #[t,t] ty #[v,.slice (some a) m c]).run P w= .ok v' w'∧RowN w' base e size v' (n+m) (xs++news)∧w.grownBy w' v.ownBlock∧Kept w w':=by
  subst hsize;subst hby;have hlen:(xs++news).length=(n+m)*i.size:=by rw[List.length_append,hrow.1,hl,Nat.add_mul]
  have grown:∀(old:Nat),old<n+m→(∀u∈xs,NoWord u)→∀(row:Option Nat),RowN (w.drew.alloc (.cells (xs.toArray++news.toArray++Builtin.zeroCells z.cells (grownCap w (n+m) old e-(n+m))) e)) base e i.size (.slice (some ⟨w.heap.size,0,none⟩) (n+m) (grownCap w (n+m) old e)) (n+m) (xs++news)∧w.grownBy (w.drew.alloc (.cells (xs.toArray++news.toArray++Builtin.zeroCells z.cells (grownCap w (n+m) old e-(n+m))) e)) row:=by
    intro old ho hxw row;have hge:=grownCap_ge w (n+m) old e;have hcm:grownCap w (n+m) old e≤maxLen:=grownCap_le_maxLen w (n+m) old e h63;refine⟨⟨hlen,.inr ⟨w.heap.size,_,_,rfl,hbase,heap_alloc_new w.drew _,hge,hcm,?_,?_,?_⟩⟩,⟨rfl,rfl,rfl,by simp,fun k hk _=>heap_alloc_old w.drew _ hk⟩⟩
    · simp only[Array.size_append,List.size_toArray,size_zeroCells,hzs,hrow.1,hl,←Nat.add_mul];congr 1;omega
    · simp only[Array.toList_append,List.append_assoc];rw[←List.append_assoc,←hlen];exact List.take_left
    · intro u hu;simp only[Array.toList_append,List.mem_append] at hu;rcases hu with(hu|hu)|hu;·exact hxw u hu
      ·exact hnw u hu
      ·exact noWord_zero hzw _ u hu
  have hrow':=hrow;rcases hrow.2 with⟨rfl,rfl⟩|⟨g,cap,cur,rfl,hbg,hg,hnc,hcm,hcs,htake,hcw⟩
  · have hx:xs=[]:=List.eq_nil_of_length_eq_zero (by simpa using hrow.1);subst hx;have hr:=run_append_nil (P:=P) w t ty e i z ht hi hz a m c news hl hnews hm0 (by simp only[maxLen] at h63;omega) (by have hb:=hbytes;simp only[Nat.zero_add] at hb;omega);have hgr:=grown 0 (by omega) (fun u hu=>by cases hu) (Value.ownBlock (.slice none 0 0));simp only[Nat.zero_add,List.nil_append,Array.empty_append] at hgr⊢;exact⟨_,_,hr,hgr.1,hgr.2,Kept.alloc w _⟩
  · by_cases hroom:n+m≤cap
    · have hfit:n*i.size+news.length≤cur.size:=by rw[hl,hcs,←Nat.add_mul];exact Nat.mul_le_mul_right _ hroom
      have hr:=run_append_room (P:=P) w t ty e i ht hi g n cap cur hg a m c news hl hnews h1 hroom hfit;have hcells:∀u∈cur.toList.take (n*i.size)++news++cur.toList.drop (n*i.size+news.length),NoWord u:=by
        intro u hu;rw[List.mem_append,List.mem_append] at hu;rcases hu with(hu|hu)|hu;·exact hcw u (List.mem_of_mem_take hu)
        ·exact hnw u hu
        ·exact hcw u (List.mem_of_mem_drop hu)
      refine⟨_,_,hr,⟨hlen,.inr ⟨g,cap,_,rfl,hbg,setRow_heap w g cur _ e _ hg,hroom,hcm,?_,?_,hcells⟩⟩,⟨rfl,rfl,rfl,by simp,fun k _ hk=>setRow_other w g k _ (fun e=>hk (by simp[Value.ownBlock,e]))⟩,?_⟩
      · simp only[List.size_toArray,List.length_append,List.length_take,List.length_drop,Array.length_toList];omega
      · rw[htake,←hlen];exact List.take_left
      · intro p x hp;by_cases hpg:p.block=g
        · exfalso;obtain⟨pb,po,ps⟩:=p;simp at hpg;subst hpg;have hsp:=World.cell?_spot hp;simp at hsp;subst hsp;rw[cell_of_row w pb po cur e (0,0) hg] at hp;have hmem:Value.int .u64 x∈cur.toList:=Array.mem_toList_iff.2 (Array.mem_of_getElem? hp);exact hcw _ hmem x rfl
        ·rw[World.cell?_of_block (w:=w) (a:=p) (setRow_other w g p.block _ hpg)];exact hp
    · have holds:∀j u,xs[j]?=some u→w.cell? ((⟨g,0,none⟩:Addr).add j)=some u:=hrow'.own.cells (g:=g) rfl;have hr:=run_append_grow (P:=P) w t ty e i z ht hi hz ⟨g,0,none⟩ n cap xs hrow'.1 holds a m c news hl hnews (by omega) (by simp only[maxLen] at h63;omega) (growslice_fits (by omega) hbytes);have hgr:=grown cap (by omega) (fun u hu=>hcw u (by rw[←htake] at hu;exact List.mem_of_mem_take hu)) (Value.ownBlock (.slice (some ⟨g,0,none⟩) n cap));exact⟨_,_,hr,hgr.1,hgr.2,Kept.alloc w _⟩
theorem wanted_go{o:Oper}{y:Nat→Option Bool}{A B:Prop}(hg:o.guard=none)(h:A):if Region.wanted o y=true then A else B:=by
  have e:Region.wanted o y=true:=by simp[Region.wanted,hg]
  rw[if_pos e];exact h
theorem wp_append_row{w:World}{o:Oper}{a:Act}{K:Act→World→Prop}{Q:Exit→Act→World→Prop}(s x:Operand)(t:TypeId)(ho:o.op= .call {callee:= .builtin .append,args:=#[s,x],argTypes:=#[t,t]}){v v':Value}{u:Value}{w':World}(hs:a.eval s=v)(hx:a.eval x=u)(hr:(Builtin.append_ #[t,t] o.type #[v,u]).run P w= .ok v' w')(h:K (a.put o.dst v') w'):o.wp P a w K Q:=by unfold Oper.wp execOp;simp only[ho,resolve,invoke,builtin,Sem.run_bind,Sem.run_pure,Result.andThen_ok,List.map_toArray,List.map_cons,List.map_nil,hs,hx,hr];exact h
end
end Go.MagM
namespace Go.MagM
open Go.RowKit
def Spots(w:World)(ao:Option Addr)(L:Nat)(l:List (Rat×Rat)):Prop:=∀i x y,l[i]?=some (x,y)→∃b o m so sn sc tp tn tc m' so' sn' sc' tp' tn' tc',ao=some ⟨b,o,none⟩∧w.cell? ⟨b,o+i*6,none⟩=some (.bool m)∧w.cell? ⟨b,o+i*6+1,none⟩=some (.slice so sn sc)∧w.cell? ⟨b,o+i*6+2,none⟩=some (.slice tp tn tc)∧w.cell? ⟨b,o+i*6+3,none⟩=some (.bool m')∧w.cell? ⟨b,o+i*6+4,none⟩=some (.slice so' sn' sc')∧w.cell? ⟨b,o+i*6+5,none⟩=some (.slice tp' tn' tc')∧FQ w (.agg #[.bool m,.slice so sn sc,.slice tp tn tc]) L x∧FQ w (.agg #[.bool m',.slice so' sn' sc',.slice tp' tn' tc']) L y
theorem Spots.below{w w':World}{ao:Option Addr}{L:Nat}{l:List (Rat×Rat)}(h:Spots w ao L l)(hb:Below w.heap.size w w'):Spots w' ao L l:=by intro i x y hi;obtain⟨b,o,m,so,sn,sc,tp,tn,tc,m',so',sn',sc',tp',tn',tc',h0,h1,h2,h3,h4,h5,h6,h7,h8⟩:=h i x y hi;have hlt:=World.block_lt_of_cell? w _ h1;exact⟨b,o,m,so,sn,sc,tp,tn,tc,m',so',sn',sc',tp',tn',tc',h0,(hb.cell (p:=⟨b,o+i*6,none⟩) hlt).trans h1,(hb.cell (p:=⟨b,o+i*6+1,none⟩) hlt).trans h2,(hb.cell (p:=⟨b,o+i*6+2,none⟩) hlt).trans h3,(hb.cell (p:=⟨b,o+i*6+3,none⟩) hlt).trans h4,(hb.cell (p:=⟨b,o+i*6+4,none⟩) hlt).trans h5,(hb.cell (p:=⟨b,o+i*6+5,none⟩) hlt).trans h6,h7.below hb,h8.below hb⟩
structure At6(w:World)(b o:Nat)(v0 v1 v2 v3 v4 v5:Value):Prop where
  c0:w.cell? ⟨b,o,none⟩=some v0
  c1:w.cell? ⟨b,o+1,none⟩=some v1
  c2:w.cell? ⟨b,o+2,none⟩=some v2
  c3:w.cell? ⟨b,o+3,none⟩=some v3
  c4:w.cell? ⟨b,o+4,none⟩=some v4
  c5:w.cell? ⟨b,o+5,none⟩=some v5
theorem At6.below{w w':World}{b o:Nat}{v0 v1 v2 v3 v4 v5:Value}(h:At6 w b o v0 v1 v2 v3 v4 v5)(hb:Below w.heap.size w w'):At6 w' b o v0 v1 v2 v3 v4 v5:=by have hlt:=World.block_lt_of_cell? w _ h.c0;exact⟨(hb.cell (p:=⟨b,o,none⟩) hlt).trans h.c0,(hb.cell (p:=⟨b,o+1,none⟩) hlt).trans h.c1,(hb.cell (p:=⟨b,o+2,none⟩) hlt).trans h.c2,(hb.cell (p:=⟨b,o+3,none⟩) hlt).trans h.c3,(hb.cell (p:=⟨b,o+4,none⟩) hlt).trans h.c4,(hb.cell (p:=⟨b,o+5,none⟩) hlt).trans h.c5⟩
def Fr(w:World)(L:Nat)(xs:List Value)(l:List Rat):Prop:=∀i q,l[i]?=some q→∃m so sn sc tp tn tc,xs[i*3]?=some (.bool m)∧xs[i*3+1]?=some (.slice so sn sc)∧xs[i*3+2]?=some (.slice tp tn tc)∧RF w (.agg #[.bool m,.slice so sn sc,.slice tp tn tc]) L q
theorem Fr.below{w w':World}{L:Nat}{xs:List Value}{l:List Rat}(h:Fr w L xs l)(hb:Below w.heap.size w w'):Fr w' L xs l:=fun i q hi=>by obtain⟨m,so,sn,sc,tp,tn,tc,h1,h2,h3,h4⟩:=h i q hi;exact⟨m,so,sn,sc,tp,tn,tc,h1,h2,h3,h4.below hb⟩
theorem Fr.kept{w w':World}{L:Nat}{xs:List Value}{l:List Rat}(h:Fr w L xs l)(hb:Kept w w'):Fr w' L xs l:=fun i q hi=>by obtain⟨m,so,sn,sc,tp,tn,tc,h1,h2,h3,h4⟩:=h i q hi;exact⟨m,so,sn,sc,tp,tn,tc,h1,h2,h3,h4.kept hb⟩
theorem Fr.drew{w:World}{L:Nat}{xs:List Value}{l:List Rat}(h:Fr w L xs l):Fr w.drew L xs l:=h
theorem Fr.nil(w:World)(L:Nat):Fr w L [] []:=fun i q hi=>by simp at hi
theorem Fr.snoc{w:World}{L:Nat}{xs:List Value}{l:List Rat}(h:Fr w L xs l)(hl:xs.length=l.length*3){m:Bool}{so:Option Addr}{sn sc:Nat}{tp:Option Addr}{tn tc:Nat}{q:Rat}(hq:RF w (.agg #[.bool m,.slice so sn sc,.slice tp tn tc]) L q):Fr w L (xs++[.bool m,.slice so sn sc,.slice tp tn tc]) (l++[q]):=by
  intro i p hi;by_cases hlt:i<l.length
  · rw[List.getElem?_append_left hlt] at hi;obtain⟨m,so,sn,sc,tp,tn,tc,h1,h2,h3,h4⟩:=h i p hi;refine⟨m,so,sn,sc,tp,tn,tc,?_,?_,?_,h4⟩;·rw[List.getElem?_append_left (by omega)];exact h1
    ·rw[List.getElem?_append_left (by omega)];exact h2
    ·rw[List.getElem?_append_left (by omega)];exact h3
  · have hi':=(List.getElem?_eq_some_iff.1 hi).1;simp at hi';obtain rfl:i=l.length:=by omega
    rw[List.getElem?_append_right (by omega)] at hi;simp at hi;subst hi;refine⟨m,so,sn,sc,tp,tn,tc,?_,?_,?_,hq⟩;·rw[←hl,List.getElem?_append_right (by omega),Nat.sub_self];rfl
    ·rw[←hl,List.getElem?_append_right (by omega),Nat.add_sub_cancel_left];rfl
    ·rw[←hl,List.getElem?_append_right (by omega),Nat.add_sub_cancel_left];rfl
theorem Fr.fracs{w:World}{base:Nat}{e:TypeId}{v:Value}{n L:Nat}{xs:List Value}{l:List Rat}(h:Fr w L xs l)(hr:RowN w base e 3 v n xs)(hl:l.length=n):∃ao c,v= .slice ao n c∧Fracs w ao (l.map (fun q=>(L,q.num,q.den))):=by
  rcases hr.2 with⟨rfl,rfl⟩|⟨g,cap,cur,rfl,_⟩
  · obtain rfl:=List.length_eq_zero_iff.1 hl;exact⟨_,_,rfl,fun i L X D hi=>by simp at hi⟩
  · refine⟨_,_,rfl,fun i L' X D hi=>?_⟩;rw[List.getElem?_map,Option.map_eq_some_iff] at hi;obtain⟨q,hq,he⟩:=hi;simp at he;obtain⟨rfl,rfl,rfl⟩:=he;obtain⟨m,so,sn,sc,tp,tn,tc,h1,h2,h3,h4⟩:=h i q hq;refine⟨g,0,m,so,sn,sc,tp,tn,tc,rfl,?_,?_,?_,h4.fd⟩;·rw[Nat.zero_add];exact hr.cells rfl _ _ h1
    ·rw[Nat.zero_add];exact hr.cells rfl _ _ h2
    ·rw[Nat.zero_add];exact hr.cells rfl _ _ h3
theorem fVal_map(L:Nat)(l:List Rat):fVal (l.map (fun q=>(L,q.num,q.den)))=l.foldl (·+·) 0:=by unfold fVal;rw[List.map_map];congr 1;exact(List.map_congr_left (fun q _=>qv_self q)).trans (List.map_id l)
theorem fLen_map(L:Nat)(l:List Rat):fLen (l.map (fun q=>(L,q.num,q.den)))=1+l.length*(L+2):=by
  unfold fLen;rw[List.map_map];have:∀(l:List Rat)(a:Nat),(l.map ((fun a:Nat×Int×Nat=>a.1+2)∘fun q:Rat=>(L,q.num,q.den))).foldl (·+·) a=a+l.length*(L+2):=by
    intro l;induction l with
    |nil=>intro a;simp|cons x l ih=>intro a;rw[List.map_cons,List.foldl_cons,ih];simp only[Function.comp,List.length_cons,Nat.add_mul];omega
  exact this l 1
end Go.MagM
namespace Go.Proofs.YtammmemfkpcpcaaGreat
open Go.MagM
def termsQ(l:List (Rat×Rat)):List Rat:=(List.range l.length).map (termQ l)
theorem termsQ_len(l:List (Rat×Rat)):(termsQ l).length=l.length:=by simp[termsQ]
theorem termsQ_take{l:List (Rat×Rat)}{k:Nat}(hk:k<l.length):(termsQ l).take (k+1)=(termsQ l).take k++[termQ l k]:=by rw[List.take_succ_eq_append_getElem (by rw[termsQ_len];exact hk)];simp[termsQ]
theorem termQ_at{l:List (Rat×Rat)}{k:Nat}{x y x' y':Rat}(h:l[k]?=some (x,y))(h':l[(k+1)%l.length]?=some (x',y')):termQ l k=x*y'-y*x':=by unfold termQ;rw[List.getD_eq_getElem?_getD,List.getD_eq_getElem?_getD,h,h'];rfl
end Go.Proofs.YtammmemfkpcpcaaGreat
namespace Go.Proofs.YtammmemfkpcpcaaGreat
open Go.RowKit Go.MagM
theorem info_frac:(Tryz.prog.info? 58).map (fun i=>(i.zero,i.size,i.bytes))=some (some (.agg #[.bool false,.slice none 0 0,.slice none 0 0]),3,56):=by kernel_rfl
theorem mod_lt_int(k n:Nat):((k:Int)+1).tmod (n:Int)=(((k+1)%n:Nat):Int):=by rw[show(k:Int)+1=((k+1:Nat):Int) by omega];exact(Int.ofNat_tmod _ _).symm
set_option maxRecDepth 100000 in set_option maxHeartbeats 16000000 in theorem sArea2_any(ao:Option Addr)(n c:Nat)(l:List (Rat×Rat))(L:Nat)(w:World)(hn:l.length=n)(hn9:n≤90)(hL:L≤100000)(hsp:Spots w ao L l):Calls Tryz.prog 47 #[.slice ao n c] w fun e w'=>AnsF w w' e (1+n*(((L+L+2)+(L+L+2)+2)+2)) (areaQ l):=by
  have hB_0:=Below.refl w.heap.size w;have SP:=Lib.hid hsp;clear hsp;obtain⟨i0,hi,hz0,hz1,hz2⟩:=info_parts info_frac;have HI:=Lib.hid hi;have HZ0:=Lib.hid hz0;have HZ1:=Lib.hid hz1;have HZ2:=Lib.hid hz2;clear hi hz0 hz1 hz2;obtain⟨w1,hw1,pr_0,hb1,hs1⟩:=new_box w (w.heap.size) rfl [.bool false,.slice none 0 0,.slice none 0 0] 58;have hb1':Below w.heap.size w w1:=hb1.mono (by omega);clear hb1;have hB_1:=hB_0.trans (hb1'.mono hB_0.size);clear hb1' hB_0;go_enter Tryz.func47,Tryz.ntmps47;go_wp2;go_loopw [3,9] (fun pv iv wr=>∃k:Nat,∃xs:List Value,∃u:Value,k≤n∧iv= .int .i64 k∧u=pv∧RowN wr (w.heap.size+1) 58 3 u k xs∧Fr wr ((L+L+2)+(L+L+2)+2) xs ((termsQ l).take k)∧Below w.heap.size w wr∧Box wr w.heap.size [.bool false,.slice none 0 0,.slice none 0 0]) (fun _ iv _=>n-(intOf iv).toNat);case atStart=>exact⟨0,[],_,Nat.zero_le _,rfl,rfl,RowN.nil _ _ _ _,Fr.nil _ _,hB_1,pr_0⟩
  case round=>
    obtain⟨k,xs,u,hk,rfl,hu,row_0,fr_0,hB_0,pr_0⟩:=hrel;subst hu;by_cases hlt:k<n
    · obtain⟨x,y,hlk⟩:∃x y,l[k]?=some (x,y):=⟨_,_,List.getElem?_eq_getElem (by omega)⟩;obtain⟨j,hj⟩:∃j,(k+1)%n=j:=⟨_,rfl⟩;have hjn:j<n:=by rw[←hj];exact Nat.mod_lt _ (by omega)
      obtain⟨x',y',hlj⟩:∃x' y',l[j]?=some (x',y'):=⟨_,_,List.getElem?_eq_getElem (by omega)⟩;obtain⟨b,o,m1x,o1x,n1x,c1x,p1x,k1x,d1x,m1y,o1y,n1y,c1y,p1y,k1y,d1y,hao,c0,c1,c2,c3,c4,c5,f1x_0,f1y_0⟩:=(SP.out.below hB_0) k x y hlk;obtain⟨b',o',m2x,o2x,n2x,c2x,p2x,k2x,d2x,m2y,o2y,n2y,c2y,p2y,k2y,d2y,hao',d0,d1,d2,d3,d4,d5,f2x_0,f2y_0⟩:=(SP.out.below hB_0) j x' y' hlj;subst hao;simp at hao';obtain⟨rfl,rfl⟩:=hao';have hmod:((k:Int)+1).tmod (n:Int)=(j:Int):=by rw[mod_lt_int k n,hj]
      have hn0:((n:Int)==0)=false:=by simp;omega
      have hT:termQ l k=x*y'-y*x':=termQ_at hlk (by rw[hn,hj];exact hlj);have HT:=Lib.hid hT;clear hT hlk hlj hj;have hxl:xs.length=((termsQ l).take k).length*3:=by rw[row_0.1,List.length_take,termsQ_len];congr 1;omega
      have HXL:=Lib.hid hxl;clear hxl;have hrl:=row_0.lt;have dd_0:At6 wr b (o+j*6) _ _ _ _ _ _:=⟨d0,d1,d2,d3,d4,d5⟩;clear d0 d1 d2 d3 d4 d5;have hl1pr:=pr_0.lt;have hl1B:=hB_0.size;obtain⟨w2,hw2,ps_0,hb2,hs2⟩:=new_box wr (wr.heap.size) rfl [.bool m1x,.slice o1x n1x c1x,.slice p1x k1x d1x,.bool m1y,.slice o1y n1y c1y,.slice p1y k1y d1y] 70;have hb2':Below wr.heap.size wr w2:=hb2.mono (by omega);clear hb2;have hB_1:=hB_0.trans (hb2'.mono hB_0.size);have pr_1:=pr_0.below hb2';have row_1:=row_0.below hb2';have fr_1:=fr_0.below hb2';have f1x_1:=f1x_0.below hb2';have f1y_1:=f1y_0.below hb2';have f2x_1:=f2x_0.below hb2';have f2y_1:=f2y_0.below hb2';have dd_1:=dd_0.below hb2';clear hb2' hB_0 pr_0 row_0 fr_0 f1x_0 f1y_0 f2x_0 f2y_0 dd_0;obtain⟨d0,d1,d2,d3,d4,d5⟩:=dd_1;have hl2pr:=pr_1.lt;have hl2ps:=ps_0.lt;have hl2B:=hB_1.size;obtain⟨w3,hw3,pn_0,hb3,hs3⟩:=new_box w2 (wr.heap.size+1) hs2 [.bool m2x,.slice o2x n2x c2x,.slice p2x k2x d2x,.bool m2y,.slice o2y n2y c2y,.slice p2y k2y d2y] 70;have hb3':Below w2.heap.size w2 w3:=hb3.mono (by omega);clear hb3;have hB_2:=hB_1.trans (hb3'.mono hB_1.size);have pr_2:=pr_1.below hb3';have row_2:=row_1.below hb3';have fr_2:=fr_1.below hb3';have f1x_2:=f1x_1.below hb3';have f1y_2:=f1y_1.below hb3';have f2x_2:=f2x_1.below hb3';have f2y_2:=f2y_1.below hb3';have ps_1:=ps_0.below hb3';clear hb3' hB_1 pr_1 row_1 fr_1 f1x_1 f1y_1 f2x_1 f2y_1 ps_0;go_wp2;try rw[hw2]
      try rw[hw3]
      clear c0 c1 c2 c3 c4 c5 d0 d1 d2 d3 d4 d5;have hWq_0:=Below.refl w3.heap.size w3;have hsq:w.heap.size≤w3.heap.size:=hB_2.size;have hlqpr:=pr_2.lt;have hlqps:=ps_1.lt;have hlqpn:=pn_0.lt;have hB_3:=hB_2.drew';have pr_3:=pr_2.drew;have row_3:=row_2.drew;have fr_3:=fr_2.drew;have f1x_3:=f1x_2.drew;have f1y_3:=f1y_2.drew;have f2x_3:=f2x_2.drew;have f2y_3:=f2y_2.drew;have ps_2:=ps_1.drew;have pn_1:=pn_0.drew;have hWq_1:=hWq_0.drew';clear hB_2 pr_2 row_2 fr_2 f1x_2 f1y_2 f2x_2 f2y_2 ps_1 pn_0 hWq_0;obtain⟨FFq,hFFq⟩:∃F:World→Prop,∀w',F w'↔(Below w.heap.size w w'∧Box w' (w.heap.size) [.bool false,.slice none 0 0,.slice none 0 0]∧RowN w' (w.heap.size+1) 58 3 u k xs∧Fr w' ((L+L+2)+(L+L+2)+2) xs ((termsQ l).take k)∧FQ w' (.agg #[.bool m1x,.slice o1x n1x c1x,.slice p1x k1x d1x]) L (x)∧FQ w' (.agg #[.bool m1y,.slice o1y n1y c1y,.slice p1y k1y d1y]) L (y)∧FQ w' (.agg #[.bool m2x,.slice o2x n2x c2x,.slice p2x k2x d2x]) L (x')∧FQ w' (.agg #[.bool m2y,.slice o2y n2y c2y,.slice p2y k2y d2y]) L (y')∧Box w' (wr.heap.size) [.bool m1x,.slice o1x n1x c1x,.slice p1x k1x d1x,.bool m1y,.slice o1y n1y c1y,.slice p1y k1y d1y]∧Box w' (wr.heap.size+1) [.bool m2x,.slice o2x n2x c2x,.slice p2x k2x d2x,.bool m2y,.slice o2y n2y c2y,.slice p2y k2y d2y]∧Below w3.heap.size w3 w'):=⟨_,fun _=>Iff.rfl⟩;have cFq:∀{w' w'':World},FFq w'→Below w'.heap.size w' w''→FFq w'':=by
        intro w' w'' h hb;obtain⟨y0,y1,y2,y3,y4,y5,y6,y7,y8,y9,y10⟩:=(hFFq _).1 h;exact(hFFq _).2 ⟨y0.trans (hb.mono y0.size),y1.below hb,y2.below hb,y3.below hb,y4.below hb,y5.below hb,y6.below hb,y7.below hb,y8.below hb,y9.below hb,y10.trans (hb.mono y10.size)⟩
      have mFq:∀{w':World},FFq w'→w3.heap.size≤w'.heap.size:=by
        intro w' h;obtain⟨y0,y1,y2,y3,y4,y5,y6,y7,y8,y9,y10⟩:=(hFFq _).1 h;exact y10.size
      have sFq:∀{w':World},FFq w'→(w'.cell? ⟨wr.heap.size,0,none⟩=some (.bool m1x)∧w'.cell? ⟨wr.heap.size,1,none⟩=some (.slice o1x n1x c1x)∧w'.cell? ⟨wr.heap.size,2,none⟩=some (.slice p1x k1x d1x)∧w'.cell? ⟨wr.heap.size,3,none⟩=some (.bool m1y)∧w'.cell? ⟨wr.heap.size,4,none⟩=some (.slice o1y n1y c1y)∧w'.cell? ⟨wr.heap.size,5,none⟩=some (.slice p1y k1y d1y)∧w'.cell? ⟨wr.heap.size+1,0,none⟩=some (.bool m2x)∧w'.cell? ⟨wr.heap.size+1,1,none⟩=some (.slice o2x n2x c2x)∧w'.cell? ⟨wr.heap.size+1,2,none⟩=some (.slice p2x k2x d2x)∧w'.cell? ⟨wr.heap.size+1,3,none⟩=some (.bool m2y)∧w'.cell? ⟨wr.heap.size+1,4,none⟩=some (.slice o2y n2y c2y)∧w'.cell? ⟨wr.heap.size+1,5,none⟩=some (.slice p2y k2y d2y)):=by
        intro w' h;obtain⟨y0,y1,y2,y3,y4,y5,y6,y7,y8,y9,y10⟩:=(hFFq _).1 h;exact⟨y8.c0,y8.c1,y8.c2,y8.c3,y8.c4,y8.c5,y9.c0,y9.c1,y9.c2,y9.c3,y9.c4,y9.c5⟩
      have zF:FFq w3.drew:=(hFFq _).2 ⟨hB_3,pr_3,row_3,fr_3,f1x_3,f1y_3,f2x_3,f2y_3,ps_2,pn_1,hWq_1⟩;clear hB_3 pr_3 row_3 fr_3 f1x_3 f1y_3 f2x_3 f2y_3 ps_2 pn_1 hWq_1;refine wp_region_noPanic ?_;refine wp_region_held_drew (S:=fun w'=>w'.cell? ⟨wr.heap.size,0,none⟩=some (.bool m1x)∧w'.cell? ⟨wr.heap.size,1,none⟩=some (.slice o1x n1x c1x)∧w'.cell? ⟨wr.heap.size,2,none⟩=some (.slice p1x k1x d1x)∧w'.cell? ⟨wr.heap.size,3,none⟩=some (.bool m1y)∧w'.cell? ⟨wr.heap.size,4,none⟩=some (.slice o1y n1y c1y)∧w'.cell? ⟨wr.heap.size,5,none⟩=some (.slice p1y k1y d1y)∧w'.cell? ⟨wr.heap.size+1,0,none⟩=some (.bool m2x)∧w'.cell? ⟨wr.heap.size+1,1,none⟩=some (.slice o2x n2x c2x)∧w'.cell? ⟨wr.heap.size+1,2,none⟩=some (.slice p2x k2x d2x)∧w'.cell? ⟨wr.heap.size+1,3,none⟩=some (.bool m2y)∧w'.cell? ⟨wr.heap.size+1,4,none⟩=some (.slice o2y n2y c2y)∧w'.cell? ⟨wr.heap.size+1,5,none⟩=some (.slice p2y k2y d2y)) (by kernel_rfl) (sFq zF) (fun hHeld=>?_);refine rU 0 _ _ ?_;refine rU 1 _ _ ?_;refine rU 2 _ _ ?_;refine rU 3 _ _ ?_;refine rU 4 _ _ ?_;refine rU 6 _ _ ?_;refine rU 7 _ _ ?_;refine rU 8 _ _ ?_;refine rU 9 _ _ ?_;refine reg_grab (fun WWq aq hWW hAA=>?_);rw[hWW];have HAq:=Lib.hid hAA;clear hWW hAA hHeld;obtain⟨IVq,hIVq⟩:∃IV:Array Bool→Act→World→Prop,∀l a w',IV l a w'↔∃(lb5 lb10 lb11 lb12:Bool) (lv5 lv10 lv11 lv12:Value) (m3:Bool) (o3:Option Addr) (n3:Nat) (c3:Nat) (p3:Option Addr) (k3:Nat) (d3:Nat) (m4:Bool) (o4:Option Addr) (n4:Nat) (c4:Nat) (p4:Option Addr) (k4:Nat) (d4:Nat) (m5:Bool) (o5:Option Addr) (n5:Nat) (c5:Nat) (p5:Option Addr) (k5:Nat) (d5:Nat) (gpq:Nat),l=#[true,true,true,true,true,lb5,true,true,true,true,lb10,lb11,lb12,false,false]∧a=((((aq.put (some 27) lv5).put (some 32) lv10).put (some 33) lv11).put (some 34) lv12)∧FFq w'∧(lb5=true→lv5= .agg #[.bool m3,.slice o3 n3 c3,.slice p3 k3 d3]∧RF w' (.agg #[.bool m3,.slice o3 n3 c3,.slice p3 k3 d3]) (L+L+2) (x*y'))∧(lb10=true→lv10= .agg #[.bool m4,.slice o4 n4 c4,.slice p4 k4 d4]∧RF w' (.agg #[.bool m4,.slice o4 n4 c4,.slice p4 k4 d4]) (L+L+2) (y*x'))∧(lb11=true→lv11= .agg #[.bool m5,.slice o5 n5 c5,.slice p5 k5 d5]∧RF w' (.agg #[.bool m5,.slice o5 n5 c5,.slice p5 k5 d5]) ((L+L+2)+(L+L+2)+2) (x*y'-y*x'))∧(lb12=true→lv12= .slice (some ⟨gpq,0,none⟩) 1 1∧Box w' gpq [.bool m5,.slice o5 n5 c5,.slice p5 k5 d5]∧w3.heap.size≤gpq)∧(lb10=true→lb5=true)∧(lb11=true→lb5=true)∧(lb11=true→lb10=true)∧(lb12=true→lb11=true):=⟨_,fun _ _ _=>Iff.rfl⟩;refine wpAnyH_until IVq ?_ _ _ _ _ ((hIVq _ _ _).2 ⟨false,false,false,false,(aq.tmps.getD 27 undef),(aq.tmps.getD 32 undef),(aq.tmps.getD 33 undef),(aq.tmps.getD 34 undef),false,none,0,0,none,0,0,false,none,0,0,none,0,0,false,none,0,0,none,0,0,0,rfl,(by simp only[put_same]),zF,(fun h=>by cases h),(fun h=>by cases h),(fun h=>by cases h),(fun h=>by cases h),(fun h=>by cases h),(fun h=>by cases h),(fun h=>by cases h),(fun h=>by cases h)⟩) (by kernel_rfl);clear zF;intro ll aa w4 hI;obtain⟨lb5,lb10,lb11,lb12,lv5,lv10,lv11,lv12,m3,o3,n3,c3,p3,k3,d3,m4,o4,n4,c4,p4,k4,d4,m5,o5,n5,c5,p5,k5,d5,gpq,rfl,rfl,zF,F5,F10,F11,F12,dp10_5,dp11_5,dp11_10,dp12_11⟩:=(hIVq _ _ _).1 hI;clear hI;by_cases hL:lb5=true∧lb10=true∧lb11=true∧lb12=true
      · left;obtain⟨rfl,rfl,rfl,rfl⟩:=hL;obtain⟨rfl,f3_0⟩:=F5 rfl;clear F5;obtain⟨rfl,f4_0⟩:=F10 rfl;clear F10;obtain⟨rfl,f5_0⟩:=F11 rfl;clear F11;obtain⟨rfl,pq_0,hgpq⟩:=F12 rfl;clear F12;clear dp10_5 dp11_5 dp11_10 dp12_11;show wpAnyH _ _ _ _ _ 2 _ _ _;rw[HAq.out];try simp only[Act.put,sA,sZ,sS]
        obtain⟨hB_0,pr_0,row_0,fr_0,f1x_0,f1y_0,f2x_0,f2y_0,ps_0,pn_0,hWq_0⟩:=(hFFq _).1 zF;clear zF;clear hWq_0;refine rC 13 _ (fun K hK=>?_);refine wanted_go rfl ?_;have hzpr:=pr_0.lt;have hzps:=ps_0.lt;have hzpn:=pn_0.lt;have hzpq:=pq_0.lt;obtain⟨pv1,wa,hrun,rown,hgrow,hkept⟩:=run_append_row (P:=Tryz.prog) w4 (w.heap.size+1) 114 114 58 i0 (.agg #[.bool false,.slice none 0 0,.slice none 0 0]) 3 56 (by kernel_rfl) HI.out HZ0.out HZ1.out HZ2.out rfl (noWord3 _ _ _ _ _ _ _) u k xs row_0 ⟨gpq,0,none⟩ 1 1 [.bool m5,.slice o5 n5 c5,.slice p5 k5 d5] (by omega) rfl pq_0.news (by intro u hu;simp at hu;rcases hu with rfl|rfl|rfl<;>rfl) (noWord3 _ _ _ _ _ _ _) (by unfold maxLen;omega) (by omega) (by have:=hB_0.size;omega);refine wp_append_row _ _ 114 rfl rfl rfl hrun ?_;clear row_0 hrun;have hB_1:=hB_0.grown hgrow (by have:=hB_0.size;omega) (fun k hk=>by have:=hrl k hk;omega);have pr_1:=pr_0.grown hgrow (fun e=>by have:=hrl _ e;omega) pr_0.lt;have fr_1:=fr_0.kept hkept;have f1x_1:=f1x_0.kept hkept;have f1y_1:=f1y_0.kept hkept;have f2x_1:=f2x_0.kept hkept;have f2y_1:=f2y_0.kept hkept;have ps_1:=ps_0.grown hgrow (fun e=>by have:=hrl _ e;omega) ps_0.lt;have pn_1:=pn_0.grown hgrow (fun e=>by have:=hrl _ e;omega) pn_0.lt;have f3_1:=f3_0.kept hkept;have f4_1:=f4_0.kept hkept;have f5_1:=f5_0.kept hkept;have pq_1:=pq_0.grown hgrow (fun e=>by have:=hrl _ e;omega) pq_0.lt;clear hB_0 pr_0 fr_0 f1x_0 f1y_0 f2x_0 f2y_0 ps_0 pn_0 f3_0 f4_0 f5_0 pq_0;clear hgrow hkept;refine hK.out _ _ ⟨ps_1.c0,ps_1.c1,ps_1.c2,ps_1.c3,ps_1.c4,ps_1.c5,pn_1.c0,pn_1.c1,pn_1.c2,pn_1.c3,pn_1.c4,pn_1.c5⟩ (fun hHeld=>?_);clear hK K;try simp only[Act.put,sA,sZ,sS]
        refine rU 14 _ _ ?_;refine wpAnyH_done (by kernel_rfl) ?_ _;refine NoPanic.normal ?_;go_wp2;refine⟨⟨k+1,_,_,by omega,by go_num,rfl,rown,?_,hB_1,pr_1⟩,by simp[intOf];omega⟩;rw[termsQ_take (by omega),HT.out];exact Fr.snoc fr_1 HXL.out f5_1
      · right;refine⟨?_,fun i hi=>?_⟩
        · clear zF F5 F10 F11 F12;cases lb5;·exact ready_of 5 _ rfl rfl (by kernel_rfl)
          cases lb10;·exact ready_of 10 _ rfl rfl (by kernel_rfl)
          cases lb11;·exact ready_of 11 _ rfl rfl (by kernel_rfl)
          cases lb12;·exact ready_of 12 _ rfl rfl (by kernel_rfl)
          exact absurd ⟨rfl,rfl,rfl,rfl⟩ hL
        have hd:(lb5=false∧i=5)∨(lb10=false∧lb5=true∧i=10)∨(lb11=false∧lb5=true∧lb10=true∧i=11)∨(lb12=false∧lb11=true∧i=12):=by
          have hin:=ready_lt hi;obtain rfl|rfl|rfl|rfl|rfl|rfl|rfl|rfl|rfl|rfl|rfl|rfl|rfl|rfl|rfl:i=0∨i=1∨i=2∨i=3∨i=4∨i=5∨i=6∨i=7∨i=8∨i=9∨i=10∨i=11∨i=12∨i=13∨i=14:=by have hin':i<15:=hin;omega
          ·exact absurd (ready_off hi) (fun h=>Bool.noConfusion (show true=false from h))
          ·exact absurd (ready_off hi) (fun h=>Bool.noConfusion (show true=false from h))
          ·exact absurd (ready_off hi) (fun h=>Bool.noConfusion (show true=false from h))
          ·exact absurd (ready_off hi) (fun h=>Bool.noConfusion (show true=false from h))
          ·exact absurd (ready_off hi) (fun h=>Bool.noConfusion (show true=false from h))
          ·exact .inl ⟨ready_off hi,rfl⟩
          ·exact absurd (ready_off hi) (fun h=>Bool.noConfusion (show true=false from h))
          ·exact absurd (ready_off hi) (fun h=>Bool.noConfusion (show true=false from h))
          ·exact absurd (ready_off hi) (fun h=>Bool.noConfusion (show true=false from h))
          ·exact absurd (ready_off hi) (fun h=>Bool.noConfusion (show true=false from h))
          ·exact .inr (.inl ⟨ready_off hi,ready_dep (d:=5) hi (by kernel_rfl),rfl⟩)
          ·exact .inr (.inr (.inl ⟨ready_off hi,ready_dep (d:=5) hi (by kernel_rfl),ready_dep (d:=10) hi (by kernel_rfl),rfl⟩))
          ·exact .inr (.inr (.inr (⟨ready_off hi,ready_dep (d:=11) hi (by kernel_rfl),rfl⟩)))
          · have k12:lb12=true:=ready_dep (d:=12) hi (by kernel_rfl);have k11:lb11=true:=ready_dep (d:=11) hi (by kernel_rfl);have k5:=dp11_5 k11;have k10:=dp11_10 k11;exact absurd ⟨k5,k10,k11,k12⟩ hL
          ·exact absurd (ready_dep (d:=13) hi (by kernel_rfl)) (fun h=>Bool.noConfusion (show false=true from h))
        clear hi hL;rcases hd with⟨rfl,rfl⟩|⟨rfl,rfl,rfl⟩|⟨rfl,rfl,rfl,rfl⟩|⟨rfl,rfl,rfl⟩
        · obtain⟨-,-,-,-,f1x_0,-,-,f2y_0,-,-,-⟩:=(hFFq _).1 zF;refine step_of 5 ?_ ?_ (fun K hK=>?_);rotate_left 1;·simp only[gA,gS,gZ];exact rfl
          rw[HAq.out];try simp only[Act.put,sA,sZ,sS]
          go_simp;refine(qMul _ _ L L x y' _ (by omega) (by omega) f1x_0 f2y_0).mono ?_;rintro e w5 ⟨m3,o3,n3,c3,p3,k3,d3,rfl,f3_0,hb⟩;go_wp2_with fail;refine hK.out _ _ (sFq (cFq zF hb)) ?_;exact(hIVq _ _ _).2 ⟨true,lb10,lb11,lb12,(.agg #[.bool m3,.slice o3 n3 c3,.slice p3 k3 d3]),lv10,lv11,lv12,m3,o3,n3,c3,p3,k3,d3,m4,o4,n4,c4,p4,k4,d4,m5,o5,n5,c5,p5,k5,d5,gpq,rfl,(by simp only[HAq.out,Act.put,sA,sZ,sS]),(cFq zF hb),(fun _=>⟨rfl,f3_0⟩),(fun h=>absurd (dp10_5 h) (by decide)),(fun h=>absurd (dp11_5 h) (by decide)),(fun h=>absurd (dp11_5 (dp12_11 h)) (by decide)),(fun _=>rfl),(fun _=>rfl),dp11_10,dp12_11⟩
        · obtain⟨rfl,f3_0⟩:=F5 rfl;clear F5;obtain⟨-,-,-,-,-,f1y_0,f2x_0,-,-,-,-⟩:=(hFFq _).1 zF;refine step_of 10 ?_ ?_ (fun K hK=>?_);rotate_left 1;·simp only[gA,gS,gZ];exact rfl
          rw[HAq.out];try simp only[Act.put,sA,sZ,sS]
          go_simp;refine(qMul _ _ L L y x' _ (by omega) (by omega) f1y_0 f2x_0).mono ?_;rintro e w6 ⟨m4,o4,n4,c4,p4,k4,d4,rfl,f4_0,hb⟩;go_wp2_with fail;refine hK.out _ _ (sFq (cFq zF hb)) ?_;exact(hIVq _ _ _).2 ⟨true,true,lb11,lb12,_,(.agg #[.bool m4,.slice o4 n4 c4,.slice p4 k4 d4]),lv11,lv12,m3,o3,n3,c3,p3,k3,d3,m4,o4,n4,c4,p4,k4,d4,m5,o5,n5,c5,p5,k5,d5,gpq,rfl,(by simp only[HAq.out,Act.put,sA,sZ,sS]),(cFq zF hb),(fun _=>⟨rfl,f3_0.below hb⟩),(fun _=>⟨rfl,f4_0⟩),(fun h=>absurd (dp11_10 h) (by decide)),(fun h=>absurd (dp11_10 (dp12_11 h)) (by decide)),(fun _=>rfl),(fun _=>rfl),(fun _=>rfl),dp12_11⟩
        · obtain⟨rfl,f3_0⟩:=F5 rfl;clear F5;obtain⟨rfl,f4_0⟩:=F10 rfl;clear F10;refine step_of 11 ?_ ?_ (fun K hK=>?_);rotate_left 1;·simp only[gA,gS,gZ];exact rfl
          rw[HAq.out];try simp only[Act.put,sA,sZ,sS]
          go_simp;refine(qSub _ _ (L+L+2) (L+L+2) _ _ _ (by omega) (by omega) f3_0.q f4_0.q).mono ?_;rintro e w7 ⟨m5,o5,n5,c5,p5,k5,d5,rfl,f5_0,hb⟩;go_wp2_with fail;refine hK.out _ _ (sFq (cFq zF hb)) ?_;exact(hIVq _ _ _).2 ⟨true,true,true,lb12,_,_,(.agg #[.bool m5,.slice o5 n5 c5,.slice p5 k5 d5]),lv12,m3,o3,n3,c3,p3,k3,d3,m4,o4,n4,c4,p4,k4,d4,m5,o5,n5,c5,p5,k5,d5,gpq,rfl,(by simp only[HAq.out,Act.put,sA,sZ,sS]),(cFq zF hb),(fun _=>⟨rfl,f3_0.below hb⟩),(fun _=>⟨rfl,f4_0.below hb⟩),(fun _=>⟨rfl,f5_0⟩),(fun h=>absurd (dp12_11 h) (by decide)),(fun _=>rfl),(fun _=>rfl),(fun _=>rfl),(fun _=>rfl)⟩
        · obtain rfl:=dp11_5 rfl;obtain rfl:=dp11_10 rfl;obtain⟨rfl,f3_0⟩:=F5 rfl;clear F5;obtain⟨rfl,f4_0⟩:=F10 rfl;clear F10;obtain⟨rfl,f5_0⟩:=F11 rfl;clear F11;refine step_of 12 ?_ ?_ (fun K hK=>?_);rotate_left 1;·simp only[gA,gS,gZ];exact rfl
          rw[HAq.out];try simp only[Act.put,sA,sZ,sS]
          go_simp;have hgn:=mFq zF;obtain⟨wn,hwn,pq_0,hb,-⟩:=new_box w4 _ rfl [.bool m5,.slice o5 n5 c5,.slice p5 k5 d5] 58;rw[hwn];refine hK.out _ _ (sFq (cFq zF hb)) ?_;exact(hIVq _ _ _).2 ⟨true,true,true,true,_,_,_,(.slice (some ⟨w4.heap.size,0,none⟩) 1 1),m3,o3,n3,c3,p3,k3,d3,m4,o4,n4,c4,p4,k4,d4,m5,o5,n5,c5,p5,k5,d5,w4.heap.size,rfl,(by simp only[HAq.out,Act.put,sA,sZ,sS]),(cFq zF hb),(fun _=>⟨rfl,f3_0.below hb⟩),(fun _=>⟨rfl,f4_0.below hb⟩),(fun _=>⟨rfl,f5_0.below hb⟩),(fun _=>⟨rfl,pq_0,hgn⟩),(fun _=>rfl),(fun _=>rfl),(fun _=>rfl),(fun _=>rfl)⟩
    · obtain rfl:k=n:=by omega
      have htk:(termsQ l).take k=termsQ l:=by rw[List.take_of_length_le];rw[termsQ_len,hn];exact Nat.le_refl _
      rw[htk] at fr_0;obtain⟨ao',c',rfl,hfr⟩:=fr_0.fracs row_0 (by rw[termsQ_len,hn]);have HFR:=Lib.hid hfr;clear hfr htk hlt;clear row_0 fr_0;go_wp2_with fail;refine(fSum_go ao' k c' _ _ (by rw[List.length_map,termsQ_len,hn]) hn9 (fun L' X D hm=>by simp at hm;obtain⟨_,_,rfl,_⟩:=hm;omega) HFR.out).mono ?_;rintro e w2 ⟨m1,o1,n1,c1,p1,k1,d1,rfl,f1_0,hb2⟩;have hB_1:=hB_0.trans (hb2.mono hB_0.size);have pr_1:=pr_0.below hb2;clear hb2 hB_0 pr_0;obtain⟨sf1a,sf1b,sf1c,sf1d,sf1e,sf1f⟩:=pr_1.open3;obtain⟨sg1a,sg1b,sg1c,sg1d⟩:=Box.put3 pr_1 (.bool m1) (.slice o1 n1 c1);go_wp2;clear sf1a sf1b sf1c sf1d sf1e sf1f sg1a sg1b sg1c sg1d;have hB_2:=below_setAll hB_1 (g:=w.heap.size) (by omega) [.bool m1,.slice o1 n1 c1,.slice p1 k1 d1];have f1_1:=f1_0.setAll pr_1 (noWord3 _ _ _ _ _ _ _) [.bool m1,.slice o1 n1 c1,.slice p1 k1 d1] rfl;have pr_2:=pr_1.setAll [.bool m1,.slice o1 n1 c1,.slice p1 k1 d1] rfl;simp only[setAll,Nat.zero_add,Nat.reduceAdd] at hB_2 pr_2 f1_1;clear hB_1 f1_0 pr_1;generalize (World.setCell (World.setCell (World.setCell w2 ⟨w.heap.size,0,none⟩ (.bool m1)) ⟨w.heap.size,1,none⟩ (.slice o1 n1 c1)) ⟨w.heap.size,2,none⟩ (.slice p1 k1 d1))=w3 at*;go_wp2;obtain⟨pre0,pre1,pre2,pre3,pre4,pre5⟩:=pr_2.open3;exact bodyPost_ret (v:= .agg #[.bool m1,.slice o1 n1 c1,.slice p1 k1 d1]) (by simp[results,Tryz.results47,go_sem,pre0,pre1,pre2]) rfl ⟨_,_,_,_,_,_,_,rfl,(f1_1.of (by rw[fVal_map];rfl)).more (by rw[fLen_map,termsQ_len,hn];exact Nat.le_refl _),hB_2⟩
end Go.Proofs.YtammmemfkpcpcaaGreat
namespace Go.MagM
open Go.RowKit
theorem RowN.made{w w':World}{base:Nat}{e:TypeId}{size n:Nat}{xs:List Value}(hw:w.alloc (.cells xs.toArray e)=w')(hb:base≤w.heap.size)(hl:xs.length=n*size)(hn:n≤maxLen)(hv:∀u∈xs,NoWord u):RowN w' base e size (.slice (some ⟨w.heap.size,0,none⟩) n n) n xs:=by subst hw;refine⟨hl,.inr ⟨w.heap.size,n,xs.toArray,rfl,hb,heap_alloc_new w _,Nat.le_refl _,hn,by simpa using hl,?_,by simpa using hv⟩⟩;rw[←hl];simp
section
variable{P:Program}
theorem wanted_by{o:Oper}{y:Nat→Option Bool}{A B:Prop}(hg:Region.wanted o y=true)(h:A):if Region.wanted o y=true then A else B:=by rw[if_pos hg];exact h
theorem wpList_append_row{ops:Array Oper}{rest:List Oper}{w:World}{o:Oper}{a:Act}{Q:Exit→Act→World→Prop}(hgd:o.guard=none)(s x:Operand)(t:TypeId)(ho:o.op= .call {callee:= .builtin .append,args:=#[s,x],argTypes:=#[t,t]}){v v':Value}{u:Value}{w':World}(hs:a.eval s=v)(hx:a.eval x=u)(hr:(Builtin.append_ #[t,t] o.type #[v,u]).run P w= .ok v' w')(h:wpList P ops Q rest (a.put o.dst v') w'):wpList P ops Q (o::rest) a w:=wpList_plain hgd fun _ hK=>wp_append_row s x t ho hs hx hr (hK _ _ h)
end
end Go.MagM
namespace Go.MagM
theorem noWordI2(x y:Int):∀u∈[Value.int .i64 x,Value.int .i64 y],NoWord u:=by intro u hu;simp at hu;rcases hu with rfl|rfl<;>exact NoWord.int _
end Go.MagM
namespace Go.MagM
open Go.RowKit
structure TriM where
  v0:Int
  v1:Int
  v2:Int
  n0:Int
  n1:Int
  n2:Int
  f0:Bool
  f1:Bool
  f2:Bool
namespace TriM
def v(T:TriM):Nat→Int|0=>T.v0|1=>T.v1|_=>T.v2
def n(T:TriM):Nat→Int|0=>T.n0|1=>T.n1|_=>T.n2
def f(T:TriM):Nat→Bool|0=>T.f0|1=>T.f1|_=>T.f2
def setN(T:TriM)(i:Nat)(x:Int):TriM:=match i with|0=>{T with n0:=x}|1=>{T with n1:=x}|_=>{T with n2:=x}
def setF(T:TriM)(i:Nat)(x:Bool):TriM:=match i with|0=>{T with f0:=x}|1=>{T with f1:=x}|_=>{T with f2:=x}
def cells(T:TriM):List Value:=[.int .i64 T.v0,.int .i64 T.v1,.int .i64 T.v2,.int .i64 T.n0,.int .i64 T.n1,.int .i64 T.n2,.bool T.f0,.bool T.f1,.bool T.f2]
end TriM
def triCells:List TriM→List Value|[]=>[]|T::t=>T.cells++triCells t
theorem triCells_len:∀l,(triCells l).length=l.length*9|[]=>rfl|T::t=>by rw[triCells,List.length_append,triCells_len t,List.length_cons];simp[TriM.cells];omega
theorem triCells_app:∀l k,triCells (l++k)=triCells l++triCells k|[],_=>rfl|T::t,k=>by rw[List.cons_append,triCells,triCells_app t k,triCells,List.append_assoc]
theorem triCells_get:∀(l:List TriM)(i j:Nat)(T:TriM),l[i]?=some T→j<9→(triCells l)[i*9+j]?=T.cells[j]?|[],_,_,_,h,_=>by simp at h|X::t,0,j,T,h,hj=>by simp at h;subst h;rw[triCells,Nat.zero_mul,Nat.zero_add,List.getElem?_append_left (by simpa[TriM.cells] using hj)]|X::t,i+1,j,T,h,hj=>by have:=triCells_get t i j T (by simpa using h) hj;rw[triCells,List.getElem?_append_right (by simp[TriM.cells];omega)];rw[show(i+1)*9+j-X.cells.length=i*9+j by simp[TriM.cells];omega];exact this
theorem triCells_set:∀(l:List TriM)(i j:Nat)(u:Value)(T T':TriM),l[i]?=some T→j<9→T'.cells=T.cells.set j u→(triCells l).set (i*9+j) u=triCells (l.set i T')|[],_,_,_,_,_,h,_,_=>by simp at h|X::t,0,j,u,T,T',h,hj,he=>by simp at h;subst h;rw[triCells,Nat.zero_mul,Nat.zero_add,List.set_append_left _ _ (by simpa[TriM.cells] using hj),List.set_cons_zero,triCells,he]|X::t,i+1,j,u,T,T',h,hj,he=>by have:=triCells_set t i j u T T' (by simpa using h) hj he;rw[triCells,List.set_append_right _ _ (by simp[TriM.cells];omega),List.set_cons_succ,triCells,←this];rw[show(i+1)*9+j-X.cells.length=i*9+j by simp[TriM.cells];omega]
theorem triCells_setN{l:List TriM}{i:Nat}{T:TriM}(h:l[i]?=some T)(j:Nat)(hj:j<3)(x:Int):(triCells l).set (i*9+(3+j)) (.int .i64 x)=triCells (l.set i (T.setN j x)):=by
  refine triCells_set l i (3+j) _ T _ h (by omega) ?_;obtain rfl|rfl|rfl:j=0∨j=1∨j=2:=by omega
  all_goals rfl
theorem triCells_setF{l:List TriM}{i:Nat}{T:TriM}(h:l[i]?=some T)(j:Nat)(hj:j<3)(x:Bool):(triCells l).set (i*9+(6+j)) (.bool x)=triCells (l.set i (T.setF j x)):=by
  refine triCells_set l i (6+j) _ T _ h (by omega) ?_;obtain rfl|rfl|rfl:j=0∨j=1∨j=2:=by omega
  all_goals rfl
end Go.MagM
