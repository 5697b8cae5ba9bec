import Derived.Test.YtdmfbkhafnkcfaaGreatPartt
import Derived.Test.YtdmfbkhafnkcfaaGreatPredG
import Derived.Test.YtdmfbkhafnkcfaaGreatPartj
import Derived.Test.YtdmfbkhafnkcfaaGreatPartr
import Derived.Test.YtdmfbkhafnkcfaaGreatParth
import Derived.Test.YtdmfbkhafnkcfaaGreatPartp
import Derived.BigQuiet
import Derived.Deep.QuietTactic
import Derived.Test.YtdmfbkhafnkcfaaGreatParto
set_option linter.unusedSimpArgs false
set_option linter.unusedVariables false
namespace Go.Proofs.YtdmfbkhafnkcfaaGreat
open Go.RowKit Go.MagM
theorem infoPt12:(Tryz.prog.info? 33).map (fun i=>(i.zero,i.size,i.bytes))=some (some (.agg #[.int .i64 0,.int .i64 0]),2,16):=by kernel_rfl
def tamePt(p:Int×Int):Int×Int:=(tame p.1,tame p.2)
set_option maxHeartbeats 4000000 in theorem flatNil_any(w:World):Calls Tryz.prog 23 #[.slice none 0 0] w fun e w'=>e= .returned (.bool true)∧w=w':=by
  go_enter Tryz.func23,Tryz.ntmps23;go_wp2;go_loopw [3,4,5,8] (fun _ _ _ iv wr=>iv= .int .i64 0∧wr=w) (fun _ _ _ _ _=>0);case atStart=>exact⟨rfl,rfl⟩
  case round=>
    obtain⟨rfl,rfl⟩:=hrel;go_wp2;go_ret;exact⟨rfl,rfl⟩
end Go.Proofs.YtdmfbkhafnkcfaaGreat
namespace Go.MagM
open Go.RowKit
def SwapG{α:Type}(vs us:List α)(k:Nat):Prop:=us.length=vs.length∧∀x,x<vs.length→us[x]?=if x<k∨vs.length-k≤x then vs[vs.length-1-x]? else vs[x]?
section
variable{α:Type}{vs us:List α}{k:Nat}
theorem SwapG.start(vs:List α):SwapG vs vs 0:=⟨rfl,fun x hx=>by rw[if_neg (by omega)]⟩
theorem SwapG.next(h:SwapG vs us k)(hk:2*k+1<vs.length){a b:α}(ha:vs[k]?=some a)(hb:vs[vs.length-1-k]?=some b):SwapG vs ((us.set k b).set (vs.length-1-k) a) (k+1):=by
  refine⟨by rw[List.length_set,List.length_set];exact h.1,fun x hx=>?_⟩;rw[List.getElem?_set,List.length_set,List.getElem?_set,h.1];by_cases h1:vs.length-1-k=x
  · subst h1;rw[if_pos rfl,if_pos (by omega),if_pos (by omega)];rw[show vs.length-1-(vs.length-1-k)=k by omega];exact ha.symm
  · rw[if_neg h1];by_cases h2:k=x;· subst h2;rw[if_pos rfl,if_pos (by omega),if_pos (by omega)];exact hb.symm
    · rw[if_neg h2,h.2 x hx];by_cases h3:x<k∨vs.length-k≤x;·rw[if_pos h3,if_pos (by omega)]
      ·rw[if_neg h3,if_neg (by omega)]
theorem SwapG.done(h:SwapG vs us k)(hk:vs.length≤2*k+1):us=vs.reverse:=by
  refine List.ext_getElem? fun x=>?_;by_cases hx:x<vs.length
  · rw[h.2 x hx,List.getElem?_reverse hx];by_cases h3:x<k∨vs.length-k≤x;·rw[if_pos h3]
    ·rw[if_neg h3,show vs.length-1-x=x by omega]
  ·rw[List.getElem?_eq_none (by rw[h.1];omega),List.getElem?_eq_none (by simp;omega)]
end
theorem pts_noWord:∀(l:List (Int×Int))(u:Value),u∈ptsCells l→NoWord u
  |[],u,h=>by cases h|q::t,u,h=>by
    rw[ptsCells] at h;rcases List.mem_append.1 h with h|h;·exact noWordI2 q.1 q.2 u h
    ·exact pts_noWord t u h
theorem pts_drop:∀(l:List (Int×Int))(i:Nat),ptsCells (l.drop i)=(ptsCells l).drop (i*2)|l,0=>by simp|[],i+1=>by simp[ptsCells]|p::t,i+1=>by rw[List.drop_succ_cons,pts_drop t i,ptsCells,show(i+1)*2=i*2+1+1 by omega];rfl
theorem pts_take:∀(l:List (Int×Int))(i:Nat),ptsCells (l.take i)=(ptsCells l).take (i*2)|l,0=>by simp[ptsCells]|[],i+1=>by simp[ptsCells]|p::t,i+1=>by rw[List.take_succ_cons,ptsCells,pts_take t i,ptsCells,show(i+1)*2=i*2+1+1 by omega];rfl
theorem pts_set:∀(l:List (Int×Int))(i:Nat)(p:Int×Int),i<l.length→ptsCells (l.set i p)=((ptsCells l).set (i*2) (.int .i64 p.1)).set (i*2+1) (.int .i64 p.2)|[],i,p,h=>by simp at h|q::t,0,p,h=>by simp[ptsCells]|q::t,i+1,p,h=>by rw[List.set_cons_succ,ptsCells,pts_set t i p (by simpa using h),ptsCells,show(i+1)*2=i*2+1+1 by omega];rfl
theorem flat_all{P:List (Int×Int)}(h:FlatIs P):∀a∈P,∀b∈P,∀c∈P,crsP a b c=0:=by
  have hx:∀i k j:Nat,i<P.length→k<P.length→j<P.length→crsP (ptA P i) (ptA P k) (ptA P j)=0:=by
    intro i k j hi hk hj;have s1:∀a b c:Int×Int,crsP a b c=0→crsP b a c=0:=fun a b c h=>by simp only[crsP,crs] at h⊢;grind
    have s2:∀a b c:Int×Int,crsP a b c=0→crsP a c b=0:=fun a b c h=>by simp only[crsP,crs] at h⊢;grind
    have e1:∀a b:Int×Int,crsP a a b=0:=fun a b=>by simp only[crsP,crs];grind
    have e2:∀a b:Int×Int,crsP a b b=0:=fun a b=>by simp only[crsP,crs];grind
    have e3:∀a b:Int×Int,crsP a b a=0:=fun a b=>by simp only[crsP,crs];grind
    rcases Nat.lt_trichotomy i k with h1|rfl|h1
    · rcases Nat.lt_trichotomy k j with h2|rfl|h2;·exact s1 _ _ _ (s2 _ _ _ (s1 _ _ _ (h j k i h1 h2 hj)))
      ·exact e2 _ _
      · rcases Nat.lt_trichotomy i j with h3|rfl|h3;·exact s1 _ _ _ (s2 _ _ _ (h k j i h3 h2 hk))
        ·exact e3 _ _
        ·exact s1 _ _ _ (h k i j h3 h1 hk)
    ·exact e1 _ _
    · rcases Nat.lt_trichotomy k j with h2|rfl|h2
      · rcases Nat.lt_trichotomy i j with h3|rfl|h3;·exact s2 _ _ _ (s1 _ _ _ (h j i k h1 h3 hj))
        ·exact e3 _ _
        ·exact s2 _ _ _ (h i j k h2 h3 hi)
      ·exact e2 _ _
      ·exact h i k j h2 h1 hi
  intro a ha b hb c hc;obtain⟨i,hi⟩:=List.getElem?_of_mem ha;obtain⟨k,hk⟩:=List.getElem?_of_mem hb;obtain⟨j,hj⟩:=List.getElem?_of_mem hc;have:=hx i k j (List.getElem?_eq_some_iff.1 hi).1 (List.getElem?_eq_some_iff.1 hk).1 (List.getElem?_eq_some_iff.1 hj).1;rw[show ptA P i=a from by unfold ptA;rw[hi];rfl,show ptA P k=b from by unfold ptA;rw[hk];rfl,show ptA P j=c from by unfold ptA;rw[hj];rfl] at this;exact this
theorem flat_of{P Q:List (Int×Int)}(h:FlatIs P)(hm:∀p,p∈Q→p∈P):FlatIs Q:=fun i k j h1 h2 h3=>by have m:∀x,x<Q.length→ptA Q x∈P:=fun x hx=>hm _ (List.mem_of_getElem? (ptA_atG hx));exact flat_all h _ (m i h3) _ (m k (by omega)) _ (m j (by omega))
theorem Tidy.border_ne{P:List (Int×Int)}{S:List TriM}{r:Nat}(h:Tidy P S)(hr:RealA S r):borderM S≠[]:=by obtain⟨t0,m,-,m1,-,-,-,-,-,hb⟩:=h.border_is hr;rw[hb];intro e;have:=congrArg List.length e;simp at this;omega
theorem base_ok{P:List (Int×Int)}{s t:Nat}(h:BaseIs P true s t):1≤s∧s<t∧t<P.length:=by
  rcases h with⟨-,h1,h2,h3,-⟩|⟨h,-⟩;·exact⟨h1,h2,h3⟩
  ·cases h
theorem hullL_mem(l:List Int)(v:Int):v∈hullL l↔v∈l:=by unfold hullL;rw[List.mem_append,Or.comm,←List.mem_append,List.take_append_drop]
theorem hull_nodup{P:List (Int×Int)}{l:List Int}(hP:P.Nodup)(hl:l.Nodup)(hin:∀v∈l,0≤v∧v<P.length):((hullL l).map (ptV P)).Nodup:=by
  have h1:(hullL l).Nodup:=by
    unfold hullL;refine(List.perm_append_comm.nodup_iff).1 ?_;rw[List.take_append_drop];exact hl
  unfold List.Nodup at h1⊢;rw[List.pairwise_map];refine List.Pairwise.imp_of_mem (fun{a b} ha hb hne e=>hne ?_) h1;have ha':=hin a ((hullL_mem l a).1 ha);have hb':=hin b ((hullL_mem l b).1 hb);have ga:P[a.toNat]?=some (ptV P a):=by unfold ptV;exact ptA_atG (by omega)
  have gb:P[b.toNat]?=some (ptV P b):=by unfold ptV;exact ptA_atG (by omega)
  rw[e] at ga;have:=(List.getElem?_inj (show a.toNat<P.length by omega) hP).1 (ga.trans gb.symm);omega
def rotP(l:List (Int×Int))(k:Nat):List (Int×Int):=l.drop k++l.take k
theorem rotP_len{l:List (Int×Int)}{k:Nat}(h:k≤l.length):(rotP l k).length=l.length:=by unfold rotP;simp;omega
theorem rotP_mem(l:List (Int×Int))(k:Nat)(p:Int×Int):p∈rotP l k↔p∈l:=by unfold rotP;rw[List.mem_append,Or.comm,←List.mem_append,List.take_append_drop]
theorem rotP_nodup{l:List (Int×Int)}(k:Nat)(h:l.Nodup):(rotP l k).Nodup:=by unfold rotP;refine(List.perm_append_comm.nodup_iff).1 ?_;rw[List.take_append_drop];exact h
section
variable{P:Program}
theorem run_append_anyG(w:World)(base:Nat)(t ty e:TypeId)(i:TypeInfo)(z:Value)(size bytes:Nat)(ht:P.underlying t=some (.slice e))(hi:P.info? e=some i)(hz:i.zero=some z)(hsize:i.size=size)(hby:i.bytes=bytes)(hzs:z.cells.size=size)(hzw:∀u∈z.cells.toList,NoWord u)(v:Value)(n:Nat)(xs:List Value)(hrow:RowN w base e size v n xs)(a:Addr)(m c:Nat)(news:List Value)(hl:news.length=m*size)(hnews:∀j u,news[j]?=some u→w.cell? (a.add j)=some u)(h1:∀u∈news,u.oneCell'=true)(hnw:∀u∈news,NoWord u)(h63:n+m≤maxLen)(hbytes:(n+m)*bytes≤140737488355328)(hbase:base≤w.heap.size):∃v' w',(Builtin.append_ #[t,t] ty #[v,.slice (some a) m c]).run P w= .ok v' w'∧RowN w' base e size v' (n+m) (xs++news)∧w.grownBy w' v.ownBlock∧Kept w w':=by
  by_cases hm:m=0
  · subst hm;obtain rfl:news=[]:=List.eq_nil_of_length_eq_zero (by omega);refine⟨v,w,?_,by rw[List.append_nil];exact hrow,⟨rfl,rfl,rfl,Nat.le_refl _,fun k _ _=>rfl⟩,Kept.refl w⟩;rcases hrow.2 with⟨rfl,rfl⟩|⟨g,cap,cur,rfl,_,_,hnc,_⟩;·simp[Builtin.append_,run_underlying ht,sizeOf,typeInfo,hi,Builtin.lenOf,Builtin.firstCells,loadCells,loadCellsFrom]
    ·simp[Builtin.append_,run_underlying ht,sizeOf,typeInfo,hi,Builtin.lenOf,Builtin.firstCells,loadCells,loadCellsFrom,storeCells,hnc]
  ·exact run_append_row w base t ty e i z size bytes ht hi hz hsize hby hzs hzw v n xs hrow a m c news (by omega) hl hnews h1 hnw h63 hbytes hbase
theorem from_cells{w:World}{base:Nat}{e:TypeId}{g n c i:Nat}{D:List (Int×Int)}(h:RowN w base e 2 (.slice (some ⟨g,0,none⟩) n c) n (ptsCells D)):∀j u,(ptsCells (D.drop i))[j]?=some u→w.cell? ((⟨g,i*2,none⟩:Addr).add j)=some u:=by intro j u hu;rw[show((⟨g,i*2,none⟩:Addr).add j)=⟨g,i*2+j,none⟩ from by simp[Addr.add]];rw[pts_drop,List.getElem?_drop] at hu;exact h.cells rfl _ _ hu
theorem upto_cells{w:World}{base:Nat}{e:TypeId}{g n c i:Nat}{D:List (Int×Int)}(h:RowN w base e 2 (.slice (some ⟨g,0,none⟩) n c) n (ptsCells D)):∀j u,(ptsCells (D.take i))[j]?=some u→w.cell? ((⟨g,0,none⟩:Addr).add j)=some u:=by
  intro j u hu;rw[show((⟨g,0,none⟩:Addr).add j)=⟨g,j,none⟩ from by simp[Addr.add];omega];rw[pts_take,List.getElem?_take] at hu;split at hu;·exact h.cells rfl _ _ hu
  ·cases hu
theorem rowN_cap{w:World}{base:Nat}{e:TypeId}{size g n c:Nat}{xs:List Value}(h:RowN w base e size (.slice (some ⟨g,0,none⟩) n c) n xs):n≤c:=by
  rcases h.2 with⟨h,-⟩|⟨g',cap,cur,h1,-,-,h4,-⟩;·cases h
  ·injection h1 with _ _ h2;omega
end
end Go.MagM
namespace Go.Proofs.YtdmfbkhafnkcfaaGreat
open Go.RowKit Go.MagM
theorem cut_upto{g n c i:Nat}(hi:i<n)(hc:n≤c):∀w:World,(Instr.slice 22 (Value.slice (some ⟨g,0,none⟩) n c) none (some (Value.int .i64 (i:Int))) none).run Tryz.prog w=Result.ok (Value.slice (some ⟨g,0,none⟩) i c) w:=by
  intro w;have h2:¬c<i:=by omega
  simp[Instr.slice,Instr.sliceBounds,Instr.sliceBound,go_sem,h2,Addr.add]
theorem cut_from{g n c i:Nat}(hi:i<n)(hc:n≤c):∀w:World,(Instr.slice 22 (Value.slice (some ⟨g,0,none⟩) n c) (some (Value.int .i64 (i:Int))) none none).run Tryz.prog w=Result.ok (Value.slice (some ⟨g,i*2,none⟩) (n-i) (c-i)) w:=by
  intro w;have h7:i≤n:=by omega
  have h3:¬c=i:=by omega
  simp[Instr.slice,Instr.sliceBounds,Instr.sliceBound,go_sem,h3,h7,Addr.add];omega
end Go.Proofs.YtdmfbkhafnkcfaaGreat
namespace Go.MagM
def keyP(p:Int×Int):Value:= .agg #[.int .i64 p.1,.int .i64 p.2]
def seenE(l:List (Int×Int)):List (Value×Value):=l.map fun p=>(keyP p,Value.int .i64 1)
theorem keyP_inj{p q:Int×Int}(h:keyP p=keyP q):p=q:=by unfold keyP at h;simp at h;exact Prod.ext h.1 h.2
end Go.MagM
namespace Go.Proofs.YtdmfbkhafnkcfaaGreat
open Go.RowKit Go.MagM Go.Maps Go.WideMaps Go.WideShapes
theorem keyedP:Keyed Tryz.prog 33:=Keyed.of_law (deep_law (m:=2) (by omega) (by kernel_rfl) (by kernel_rfl) (by rw[Tryz.underlying33]))
theorem wf_pt{a:Int}(h:InP a):(Lit.int .i64 a).wf=true:=by unfold InP at h;rw[Lit.wf_int_iff];exact⟨by show-9223372036854775808≤a;omega,by show a≤9223372036854775807;omega⟩
theorem keyP_of{p:Int×Int}(hp:InP p.1∧InP p.2):∃l,keyOf Tryz.prog 33 (keyP p)=some l:=by
  obtain⟨a,b⟩:=p;have h1:=wf_pt hp.1;have h2:=wf_pt hp.2;have hk:Tryz.prog.keyType 33=true:=by kernel_rfl
  have hf:Value.formed Tryz.prog 33 (.agg #[.int .i64 a,.int .i64 b])=true:=by kernel_rfl
  have hl:Tryz.prog.keyLits (Tryz.prog.types.size+1) 33 [.int .i64 a,.int .i64 b]=some [.int .i64 a,.int .i64 b]:=by
    have hs:Tryz.prog.types.size+1=(Tryz.prog.types.size-1)+1+1:=by have:0<Tryz.prog.types.size:=of_decide_eq_true (by kernel_rfl);omega
    rw[hs];generalize Tryz.prog.types.size-1=d;unfold Program.keyLits;simp only[Tryz.underlying33];have c1:Tryz.prog.cellsOf 3=1:=by kernel_rfl
    have hk1:∀x:Int,(Lit.int .i64 x).wf=true→Tryz.prog.keyLits (d+1) 3 [.int .i64 x]=some [.int .i64 x]:=by
      intro x hx;unfold Program.keyLits;simp[Tryz.underlying3,hx]
    have c2:Tryz.prog.cellsOf 33=2:=by kernel_rfl
    rw[if_pos ⟨by rw[c2];rfl,by kernel_rfl⟩];simp[c1,hk1 a h1,hk1 b h2]
  refine⟨.string (keyBytes [.int .i64 a,.int .i64 b]),?_⟩;unfold keyOf keyP;simp only[Tryz.underlying33,hk,hf,Bool.and_true,if_true];rw[show(Value.agg #[.int .i64 a,.int .i64 b]).cells.toList=[.int .i64 a,.int .i64 b] from rfl,hl];rfl
theorem seen_look{w:World}{b:Nat}{us:List (Int×Int)}(h:MapB Tryz.prog 33 w b (seenE us)){p:Int×Int}(hp:InP p.1∧InP p.2):(Instr.lookup 46 (.map (some b)) (.agg #[.int .i64 p.1,.int .i64 p.2]) false).run Tryz.prog w= .ok (.int .i64 (if p∈us then 1 else 0)) w:=by
  obtain⟨l,hl⟩:=keyP_of hp;rcases h.look keyedP Tryz.underlying46 hl (z:= .int .i64 0) (by kernel_rfl) false with⟨v,hv,hr⟩|⟨hno,hr⟩
  · obtain⟨q,hx,e⟩:=List.mem_map.1 hv;simp only[Prod.mk.injEq] at e;obtain⟨e1,rfl⟩:=e;obtain rfl:=keyP_inj e1;rw[if_pos hx];exact hr
  · have:p∉us:=fun ht=>hno _ (List.mem_map.2 ⟨_,ht,rfl⟩);rw[if_neg this];exact hr
theorem seen_store{w:World}{b:Nat}{us:List (Int×Int)}(h:MapB Tryz.prog 33 w b (seenE us)){p:Int×Int}(hp:InP p.1∧InP p.2)(hno:p∉us):∃w',(Instr.mapUpdate 46 (.map (some b)) (.agg #[.int .i64 p.1,.int .i64 p.2]) (.int .i64 1)).run Tryz.prog w= .ok () w'∧Turned w w' b∧MapB Tryz.prog 33 w' b (seenE (us++[p])):=by
  obtain⟨l,hl⟩:=keyP_of hp;obtain⟨w',m',h1,h2,h3,h4⟩:=h.store keyedP Tryz.underlying46 hl (.int .i64 1);refine⟨w',h1,h2,?_⟩;rcases h4 with⟨-,rfl⟩|⟨j,u,hj,-⟩;·unfold seenE;rw[List.map_append];exact h3
  · exfalso;have hm:=List.mem_of_getElem? hj;obtain⟨q,hx,e⟩:=List.mem_map.1 hm;simp only[Prod.mk.injEq] at e;obtain rfl:=keyP_inj e.1;exact hno hx
end Go.Proofs.YtdmfbkhafnkcfaaGreat
namespace Go.MagM
open Go.Proofs.YtdmfbkhafnkcfaaGreat
def apartK(l:List (Int×Int)):Nat→List (Int×Int)|0=>[]|n+1=>match l[n]? with|some p=>if tamePt p∈apartK l n then apartK l n else apartK l n++[tamePt p]|none=>apartK l n
theorem apartK_yes{l:List (Int×Int)}{n:Nat}{p:Int×Int}(h:l[n]?=some p)(hm:tamePt p∈apartK l n):apartK l (n+1)=apartK l n:=by rw[apartK,h];simp only[];rw[if_pos hm]
theorem apartK_no{l:List (Int×Int)}{n:Nat}{p:Int×Int}(h:l[n]?=some p)(hm:tamePt p∉apartK l n):apartK l (n+1)=apartK l n++[tamePt p]:=by rw[apartK,h];simp only[];rw[if_neg hm]
theorem apartK_ok(l:List (Int×Int)):∀n,(apartK l n).Nodup∧InPs (apartK l n)∧(apartK l n).length≤n|0=>⟨List.nodup_nil,(fun _ h=>by cases h),Nat.le_refl _⟩|n+1=>by obtain⟨h1,h2,h3⟩:=apartK_ok l n;cases h:l[n]? with
    |none=>
      have e:apartK l (n+1)=apartK l n:=by rw[apartK,h]
      rw[e];exact⟨h1,h2,by omega⟩|some p=>
      by_cases hm:tamePt p∈apartK l n;·rw[apartK_yes h hm];exact⟨h1,h2,by omega⟩
      · rw[apartK_no h hm];refine⟨?_,fun q hq=>?_,by simp;omega⟩;· rw[List.nodup_append];exact⟨h1,by simp,fun a ha b hb e=>hm (by simp at hb;rw[←hb,←e];exact ha)⟩
        · rcases List.mem_append.1 hq with hq|hq;·exact h2 q hq
          · simp only[List.mem_singleton] at hq;subst hq;exact⟨tame_in _,tame_in _⟩
end Go.MagM
namespace Go.Proofs.YtdmfbkhafnkcfaaGreat
open Go.RowKit Go.MagM
set_option maxRecDepth 100000 in set_option maxHeartbeats 8000000 in theorem Apart_any(ao:Option Addr)(n lc most m:Nat)(l:List (Int×Int))(w:World)(hl:l.length=n)(hraw:PtsAt w ao l)(hlc:n≤lc)(hmo:most≤1000)(hm:min n most=m):Calls Tryz.prog 21 #[.slice ao n lc,.int .i64 (most:Int)] w fun e w'=>∃vv,e= .returned vv∧RowN w' w.heap.size 33 2 vv (apartK l m).length (ptsCells (apartK l m))∧(apartK l m=[]→vv= .slice none 0 0)∧Below w.heap.size w w':=by
  obtain⟨i0,hi,hz0,hz1,hz2⟩:=info_parts infoPt12;have HI:=Lib.hid hi;have HZ0:=Lib.hid hz0;have HZ1:=Lib.hid hz1;have HZ2:=Lib.hid hz2;clear hi hz0 hz1 hz2;have HL:=Lib.hid hl;have HRAW:=Lib.hid hraw;clear hl hraw;go_enter Tryz.func21,Tryz.ntmps21;obtain⟨hmk,hmp⟩:=run_new_map (P:=Tryz.prog) w 46 33;obtain⟨w1,hw1⟩:∃w1,w.alloc (.map #[] 0)=w1:=⟨_,rfl⟩;obtain⟨gb,hgb⟩:∃gb,w.heap.size=gb:=⟨_,rfl⟩;rw[hw1,hgb] at hmk hmp;have hb1:Below w.heap.size w w1:=by rw[←hw1];exact(Below.refl _ _).alloc (Nat.le_refl _) _
  have HB1:=Lib.hid hb1;have HMP:=Lib.hid hmp;have HGB:=Lib.hid hgb;clear hw1 hb1 hmp hgb;have em:min (n:Int) (most:Int)=(m:Int):=by omega
  have j0:(0:Int)≤(m:Int):=by omega
  have j1:(m:Int)≤(lc:Int):=by omega
  go_wp2;clear em hmk;obtain⟨B,hB⟩:∃B,w1.heap.size=B:=⟨_,rfl⟩;have HBB:=Lib.hid hB;have HGL:=Lib.hid (show gb<B by rw[←hB];exact HMP.out.lt);clear hB;go_loopw [5,8,9,18] (fun pv _ _ iv wr=>∃(i:Nat) (vv:Value),i≤m∧iv= .int .i64 (i:Int)∧pv=vv∧RowN wr B 33 2 vv (apartK l i).length (ptsCells (apartK l i))∧MapB Tryz.prog 33 wr gb (seenE (apartK l i))∧Below w.heap.size w wr∧B≤wr.heap.size∧(apartK l i=[]→vv= .slice none 0 0)) (fun _ _ _ iv _=>m-(intOf iv).toNat);case atStart=>exact⟨0,_,Nat.zero_le _,rfl,rfl,RowN.nil _ _ _ _,HMP.out,HB1.out,by have:=HBB.out;omega,fun _=>rfl⟩
  case round=>
    obtain⟨i,vv,hi,rfl,hpv,hrow,hmap,hbw,hsz,hnil⟩:=hrel;rw[hpv];clear hpv;by_cases hlt:i<m
    · have hyd:decide ((i:Int)<(m:Int))=true:=decide_eq_true (by omega);obtain⟨⟨xi,yi⟩,hxy⟩:∃q,l[i]?=some q:=⟨_,List.getElem?_eq_getElem (by have:=HL.out;omega)⟩;obtain⟨tx,htx⟩:∃q,tame xi=q:=⟨_,rfl⟩;obtain⟨ty,hty⟩:∃q,tame yi=q:=⟨_,rfl⟩;have htp:tamePt (xi,yi)=(tx,ty):=by simp[tamePt,htx,hty]
      have hinp:InP (tx,ty).1∧InP (tx,ty).2:=by rw[←htp];exact⟨tame_in _,tame_in _⟩
      obtain⟨lb,lo,hao,r0,r1⟩:=HRAW.out.below hbw i xi yi hxy;subst hao;obtain⟨w6,hw6,py6,hb6,hs6⟩:=new_box wr _ rfl [.int .i64 xi,.int .i64 yi] 33;have q0:=py6.c 0 _ rfl;have q1:=py6.c 1 _ rfl;have HTA:=Lib.hid (Tame_any xi yi w6);rw[htx,hty] at HTA;have row_6:=hrow.below hb6;have hB_6:=hbw.trans (hb6.mono hbw.size);have j2:(0:Int)≤(i:Int):=by omega
      have j3:(i:Int)<(m:Int):=by omega
      have ROW6:=Lib.hid row_6;have HB6:=Lib.hid hB_6;have MAP6:=Lib.hid (hmap.below hb6);have HTP:=Lib.hid htp;have HXY:=Lib.hid hxy;have HIN:=Lib.hid hinp;have HS6:=Lib.hid (show B≤w6.heap.size by have:=hb6.size;omega);have HNIL:=Lib.hid hnil;clear hrow hbw hnil hxy htx hty py6 hb6 hs6 row_6 hB_6 hmap hsz htp hinp;go_wp2_with fail;refine HTA.out.mono ?_;rintro e w8 ⟨rfl,hb8⟩;obtain⟨w9,hw9,pq,hb9,hs9⟩:=new_box w8 _ rfl [.int .i64 tx,.int .i64 ty] 33;have u0:=pq.c 0 _ rfl;have u1:=pq.c 1 _ rfl;obtain⟨qb,hqb⟩:∃qb,w8.heap.size=qb:=⟨_,rfl⟩;rw[hqb] at pq u0 u1;have row_9:=(ROW6.out.below hb8).below hb9;have map_9:=(MAP6.out.below hb8).below hb9;have hB_8:=HB6.out.trans (hb8.mono HB6.out.size);have hB_9:=hB_8.trans (hb9.mono hB_8.size);have hrunL:=seen_look (p:=(tx,ty)) map_9 HIN.out;have HS9:=Lib.hid (show B≤w9.heap.size by have:=hb8.size;have:=hb9.size;have:=HS6.out;omega);have ROW9:=Lib.hid row_9;have MAP9:=Lib.hid map_9;have HB9:=Lib.hid hB_9;have PQ:=Lib.hid pq;have HGQ:=Lib.hid (show gb≠qb by have:=HGL.out;have:=HS6.out;have:=hb8.size;omega);clear hb8 pq hb9 hs9 row_9 map_9 hB_8 hB_9;by_cases hm:(tx,ty)∈apartK l i;· rw[if_pos hm] at hrunL;have hnext:=apartK_yes HXY.out (by rw[HTP.out];exact hm);have HNX:=Lib.hid hnext;clear hnext hm;go_wp2;exact⟨⟨i+1,vv,by omega,by go_num,rfl,by rw[HNX.out];exact ROW9.out,by rw[HNX.out];exact MAP9.out,HB9.out,HS9.out,by rw[HNX.out];exact HNIL.out⟩,by simp[intOf];omega⟩
      · rw[if_neg hm] at hrunL;have hnext:=apartK_no HXY.out (by rw[HTP.out];exact hm);rw[HTP.out] at hnext;have HNX:=Lib.hid hnext;obtain⟨w10,hrunS,hturn,map_10⟩:=seen_store (p:=(tx,ty)) MAP9.out HIN.out hm;have hb10:Below w.heap.size w w10:=Below.turned HB9.out hturn (by have:=HGB.out;omega);have pq10:=PQ.out.turned hturn HGQ.out.symm;have row_10:=ROW9.out.turned hturn (fun k hk e=>by have:=(ROW9.out.lt k hk).1;have:=HGL.out;omega);obtain⟨w11,hw11,pn,hb11,hs11⟩:=new_box w10 _ rfl [.int .i64 tx,.int .i64 ty] 33;have row_11:=row_10.below hb11;have hB_11:=hb10.trans (hb11.mono hb10.size);have map_11:=map_10.below hb11;have hsz11:B≤w11.heap.size:=by have:=HS9.out;have:=hb11.size;rw[hturn.size] at*;omega
        obtain⟨v',w12,hrun,rown,hgrow,hkept⟩:=run_append_row (P:=Tryz.prog) w11 B 22 22 33 i0 (.agg #[.int .i64 0,.int .i64 0]) 2 16 (by kernel_rfl) HI.out HZ0.out HZ1.out HZ2.out rfl (noWordI2 _ _) _ (apartK l i).length _ row_11 ⟨w10.heap.size,0,none⟩ 1 1 [.int .i64 tx,.int .i64 ty] (by omega) rfl pn.news (by intro u hu;simp at hu;rcases hu with rfl|rfl<;>rfl) (noWordI2 _ _) (by have:=(apartK_ok l i).2.2;unfold maxLen;omega) (by have:=(apartK_ok l i).2.2;omega) (by omega);have hob:∀k,vv.ownBlock=some k→B≤k:=fun k hk=>(row_11.lt k hk).1;have hB_12:Below w.heap.size w w12:=hB_11.grown hgrow (by have:=hB_11.size;omega) (fun k hk=>by have:=hob k hk;have:=HGL.out;have:=HGB.out;omega);have map_12:=map_11.block (hgrow.block gb map_11.lt (fun e=>by have:=hob gb e.symm;have:=HGL.out;omega));have htk:ptsCells (apartK l i)++[.int .i64 tx,.int .i64 ty]=ptsCells (apartK l (i+1)):=by rw[HNX.out,ptsCells_app];rfl
        have hlk:(apartK l i).length+1=(apartK l (i+1)).length:=by rw[HNX.out];simp
        rw[htk,hlk] at rown;rw[←HNX.out] at map_12;have hs12:B≤w12.heap.size:=by have:=hgrow.size;omega
        have FIN:=Lib.hid (And.intro rown (And.intro map_12 (And.intro hB_12 hs12)));have y0:=pq10.c 0 _ rfl;have y1:=pq10.c 1 _ rfl;clear hnext hm hturn map_10 hb10 pq10 row_10 pn hb11 hs11 row_11 hB_11 map_11 hsz11 rown hgrow hkept hob hB_12 map_12 htk hlk hs12;go_wp2_with (refine wpList_append_row rfl _ _ 22 rfl rfl rfl hrun ?_);exact⟨⟨i+1,_,by omega,by go_num,rfl,FIN.out.1,FIN.out.2.1,FIN.out.2.2.1,FIN.out.2.2.2,fun h=>absurd h (by rw[HNX.out];simp)⟩,by simp[intOf];omega⟩
    · obtain rfl:i=m:=by omega
      have FIN:=Lib.hid (And.intro hrow (And.intro hbw hnil));clear hrow hmap hbw hnil;go_wp2;go_ret;exact⟨vv,rfl,FIN.out.1.base (by have:=HGL.out;have:=HGB.out;omega),FIN.out.2.2,FIN.out.2.1⟩
end Go.Proofs.YtdmfbkhafnkcfaaGreat
namespace Go.Proofs.YtdmfbkhafnkcfaaGreat
open Go.RowKit Go.MagM Go.Shelf
attribute [local go_sem] Oper.semAt_some
theorem and_someG(x:Int)(k:Nat)(hk:k<9223372036854775808):∃y:Int,0≤y∧y≤(k:Int)∧bits .and .i64 x (k:Int)=y:=by
  have h1:(BitVec.ofInt 64 (k:Int)).toNat=k:=by rw[BitVec.ofInt_natCast,BitVec.toNat_ofNat];exact Nat.mod_eq_of_lt (by omega)
  have h2:(BitVec.ofInt 64 x).toNat&&&k≤k:=Nat.and_le_right;refine⟨(((BitVec.ofInt 64 x).toNat&&&k:Nat):Int),by omega,by omega,?_⟩;show IntKind.i64.wrap ((BitVec.ofInt 64 x&&&BitVec.ofInt 64 (k:Int)).toNat:Int)=_;rw[BitVec.toNat_and,h1,IntKind.wrap_i64];omega
set_option maxRecDepth 100000 in set_option maxHeartbeats 16000000 in theorem GrowOrders_walk(ao:Option Addr)(n lc:Nat)(tu:Int)(l:List (Int×Int))(w:World)(hl:l.length=n)(hlc:n≤lc)(hraw:PtsAt w ao l):Calls Tryz.prog 4 #[.slice ao n lc,.int .i64 tu] w fun e w'=>e= .returned (.bool true)∧Below w.heap.size w w':=by
  obtain⟨m,hm⟩:∃m,min n 12=m:=⟨_,rfl⟩;have HF:=Lib.hid (fit12_any w);have HAP:=Lib.hid (fun(W:World) (hW:Below w.heap.size w W)=>Apart_any ao n lc 12 m l W hl (hraw.below hW) hlc (by omega) hm);obtain⟨hq1,hq2,hq3⟩:=apartK_ok l m;have HMM:=Lib.hid (show m≤12 by omega);obtain⟨Q,hQ⟩:∃Q,apartK l m=Q:=⟨_,rfl⟩;rw[hQ] at HAP hq1 hq2 hq3;have HQ1:=Lib.hid hq1;have HQ2:=Lib.hid hq2;have HQ3:=Lib.hid hq3;obtain⟨i0,hi,hz0,hz1,hz2⟩:=info_parts infoPt12;have HI:=Lib.hid hi;have HZ0:=Lib.hid hz0;have HZ1:=Lib.hid hz1;have HZ2:=Lib.hid hz2;clear hi hz0 hz1 hz2;clear hl hlc hraw hm hq1 hq2 hq3 hQ;refine(callsIn_wide (n:=20)).1 (callsIn_of_wp_marks (F:=Fence.wide) (n:=20) Tryz.func4 rfl trivial ?_ rfl);simp only[Tryz.ntmps4,List.size_toArray,List.length_cons,List.length_nil,Nat.reduceAdd,Nat.reduceSub,Array.replicate_succ,Array.replicate_zero,List.push_toArray,List.append_toArray,List.nil_append,List.cons_append];rw[wpIn_wide];go_wp2_with fail;refine HF.out.mono ?_;rintro e w2 ⟨rfl,hb2⟩;have HAP2:=Lib.hid (HAP.out w2 hb2);have HB2:=Lib.hid hb2;clear hb2;go_wp2_with fail;refine HAP2.out.mono ?_;rintro e w3 ⟨vv,rfl,hrow,hnil,hb3⟩;obtain⟨va,vc,rfl⟩:=hrow.shape;obtain⟨qn,hqn⟩:∃x,Q.length=x:=⟨_,rfl⟩;rw[hqn] at hrow hnil;have HQN:=Lib.hid hqn;rw[hqn];have HB3:=Lib.hid (HB2.out.trans (hb3.mono HB2.out.size));have ROW:=Lib.hid hrow;have HNIL:=Lib.hid hnil;clear hrow hnil hb3 hqn;go_wp2_with fail;by_cases hq0:Q=[]
  · obtain⟨rfl,rfl,rfl⟩:va=none∧qn=0∧vc=0:=by have:=HNIL.out hq0;simpa using this
    refine(flatNil_any w3).mono ?_;rintro e w4 ⟨rfl,rfl⟩;clear hq0;go_wp2;exact⟨_,results_tmp rfl _ _ _,rfl,HB3.out⟩
  have hq0l:0<qn:=by rw[←HQN.out];exact List.length_pos_iff.2 hq0
  have HQ0:=Lib.hid hq0;clear hq0;obtain⟨g,rfl⟩:∃g,va=some ⟨g,0,none⟩:=by
    rcases ROW.out.2 with⟨-,h⟩|⟨g,cap,cur,h,-⟩;·omega
    ·injection h with h;exact⟨g,h⟩
  have hpt:PtsIn w3 g Q:=fun k x y hk=>by obtain⟨g1,g2⟩:=ptsCells_get Q k x y hk;exact⟨ROW.out.cells (g:=g) rfl _ _ g1,ROW.out.cells (g:=g) rfl _ _ g2⟩
  have hq12:qn≤12:=by have:=HQ3.out;have:=HMM.out;have:=HQN.out;omega
  refine(Flat_any g qn vc Q w3 HQN.out (by omega) HQ2.out hpt).mono ?_;clear hpt;rintro e w4 ⟨q,rfl,hq,hb4⟩;have HB4:=Lib.hid (HB3.out.trans (hb4.mono HB3.out.size));cases q with
  |true=>
    clear hb4 hq;go_wp2;exact⟨_,results_tmp rfl _ _ _,rfl,HB4.out⟩|false=>
    have HNF:=Lib.hid (show¬FlatIs Q from fun h=>by have:=hq.2 h;cases this);have hrow4:=ROW.out.below hb4;obtain⟨y,y0,y1,hy⟩:=and_someG tu 4095 (by omega);have hy:bits BinOp.and IntKind.i64 tu 4095=y:=by simpa using hy
    obtain⟨k,hk⟩:∃k:Nat,y.tmod (qn:Int)=(k:Int):=⟨(y.tmod (qn:Int)).toNat,by rw[Int.toNat_of_nonneg (Int.tmod_nonneg _ y0)]⟩;have hkq:k<qn:=by have:=Int.tmod_lt_of_pos y (show(0:Int)<(qn:Int) by omega);omega
    have hqz:¬(qn:Int)=0:=by omega
    have hw1:IntKind.i64.wrap (y.tmod (qn:Int))=(k:Int):=by rw[hk,IntKind.wrap_i64];omega
    have ROW4:=Lib.hid hrow4;have HY:=Lib.hid hy;clear hb4 hq hrow4;go_wp2;clear hy hk hw1 y0 y1 hqz;have hcap:=rowN_cap ROW4.out;have hsl1:=cut_from (g:=g) hkq hcap;have hsl2:=cut_upto (g:=g) hkq hcap;refine wp_region_noPanic ?_;refine wp_region_held_drew (S:=fun w'=>True) (by kernel_rfl) (trivial) (fun hHeld=>?_);obtain⟨w5,hw5⟩:∃x,w4.drew=x:=⟨_,rfl⟩;have hb45:Below w4.heap.size w4 w5:=by rw[←hw5];exact(Below.refl _ _).drew'
    rw[hw5];have row5:=ROW4.out.below hb45;have HB5:=Lib.hid (HB4.out.trans (hb45.mono HB4.out.size));clear hb45 hw5;refine rU 0 _ _ ?_;refine rU 1 _ _ ?_;refine rU 2 _ _ ?_;refine rU 4 _ _ ?_;refine rU 5 _ _ ?_;refine rU 6 _ _ ?_;refine rC 3 _ (fun K hK=>?_);obtain⟨v1,wa,hrun,rown,hgrow,hkept⟩:=run_append_anyG (P:=Tryz.prog) w5 w5.heap.size 22 22 33 i0 (.agg #[.int .i64 0,.int .i64 0]) 2 16 (by kernel_rfl) HI.out HZ0.out HZ1.out HZ2.out rfl (noWordI2 _ _) (.slice none 0 0) 0 _ (RowN.nil w5 w5.heap.size 33 2) ⟨g,k*2,none⟩ (qn-k) (vc-k) (ptsCells (Q.drop k)) (by rw[ptsCells_len];simp[HQN.out];try omega) (from_cells row5) (pts_one _) (pts_noWord _) (by unfold maxLen;omega) (by omega) (Nat.le_refl _);have hg5:=(row5.lt g rfl).2;have row6:=row5.grown hgrow (fun k hk e=>by cases e);have hB6:=HB5.out.grown hgrow (by have:=HB5.out.size;omega) (fun k hk=>by cases hk);have hsa:w5.heap.size≤wa.heap.size:=hgrow.size;have row1:=rown;have hr1:=rown.lt;clear rown row5;refine wanted_by (by kernel_rfl) ?_;refine wp_append_row _ _ 22 rfl rfl rfl hrun ?_;clear hrun hgrow hkept;refine hK.out _ _ (trivial) (fun hHeld=>?_);clear hK K;try simp only[Act.put,sA,sZ,sS]
    refine rC 7 _ (fun K hK=>?_);obtain⟨v2,wb,hrun,rown,hgrow,hkept⟩:=run_append_anyG (P:=Tryz.prog) wa w5.heap.size 22 22 33 i0 (.agg #[.int .i64 0,.int .i64 0]) 2 16 (by kernel_rfl) HI.out HZ0.out HZ1.out HZ2.out rfl (noWordI2 _ _) v1 (0+(qn-k)) _ row1 ⟨g,0,none⟩ k vc (ptsCells (Q.take k)) (by rw[ptsCells_len];simp[HQN.out];try omega) (upto_cells row6) (pts_one _) (pts_noWord _) (by unfold maxLen;omega) (by omega) hsa;have row7:=row6.grown hgrow (fun k hk e=>by have h1:=hr1 k e.symm;have h2:g=k:=(by simpa[Value.ownBlock] using hk);omega);have hB7:=hB6.grown hgrow (by have:=hB6.size;omega) (fun k hk=>by have:=hr1 k hk;have:=HB5.out.size;omega);have row6:=row7;have hB6:=hB7;have hgrow2:wa.grownBy wb v1.ownBlock:=hgrow;refine wanted_by (by kernel_rfl) ?_;refine wp_append_row _ _ 22 rfl rfl rfl hrun ?_;clear hrun hgrow hkept row1;refine hK.out _ _ (trivial) (fun hHeld=>?_);clear hK K;try simp only[Act.put,sA,sZ,sS]
    refine rU 8 _ _ ?_;refine wpAnyH_done (by kernel_rfl) ?_ _;refine NoPanic.normal ?_;have hwz:w5.heap.size≤wb.heap.size:=by have:=hgrow2.size;omega
    clear hgrow2 hsl1 hsl2 hcap;have he:[]++ptsCells (Q.drop k)++ptsCells (Q.take k)=ptsCells (rotP Q k):=by unfold rotP;rw[List.nil_append,←ptsCells_app]
    rw[he] at rown;obtain⟨oa,oc,rfl⟩:=rown.shape;obtain⟨on,hon⟩:∃x,0+(qn-k)+k=x:=⟨_,rfl⟩;rw[hon] at rown⊢;obtain rfl:qn=on:=by omega
    clear hon he;obtain⟨o,rfl⟩:∃o,oa=some ⟨o,0,none⟩:=by
      rcases rown.2 with⟨-,h⟩|⟨g,cap,cur,h,-⟩;·omega
      ·injection h with h;exact⟨g,h⟩
    have hol:=rown.lt o rfl;have hgl:=row6.lt g rfl;have hgo:g<w5.heap.size:=hg5;have HROT:=Lib.hid (rotP_len (l:=Q) (k:=k) (by rw[HQN.out];omega));have OBOX:=Lib.hid (owns_box rown.own);have ROW6:=Lib.hid row6;have HB6:=Lib.hid hB6;clear rown row6 hB6;obtain⟨rv,hrv⟩:∃b,(bits BinOp.and IntKind.i64 (tu/4096) 1==1)=b:=⟨_,rfl⟩;cases rv;case' false=>
      have HL:=Lib.hid (show(rotP Q k).length=qn∧(rotP Q k).Nodup∧(∀p,p∈Q↔p∈rotP Q k) from⟨by rw[HROT.out,HQN.out],rotP_nodup k HQ1.out,fun p=>(rotP_mem Q k p).symm⟩);have LBOX:=OBOX;have ROWX:=ROW6;have HBX:=HB6;obtain⟨L,hL⟩:∃L,rotP Q k=L:=⟨_,rfl⟩;rw[hL] at HL LBOX;clear hL OBOX ROW6 HB6 HROT;obtain⟨wx,rfl⟩:∃z:World,z=wb:=⟨_,rfl⟩;go_wp2_with fail
    case' true=>
      go_wp2;go_loopw [8,9] (fun iv jv wr=>∃(x:Nat) (us:List (Int×Int)),2*x≤qn+1∧iv= .int .i64 x∧jv= .int .i64 ((qn:Int)-1-(x:Int))∧SwapG (rotP Q k) us x∧Box wr o (ptsCells us)∧Turned wb wr o) (fun iv _ _=>qn-(intOf iv).toNat);case atStart=>exact⟨0,_,by omega,rfl,by simp,SwapG.start _,OBOX.out,Turned.refl _ _⟩
      case' round=>
        obtain⟨x,us,hx,rfl,rfl,hsw,hbox,htu⟩:=hrel;have HSW:=Lib.hid hsw;have HBXX:=Lib.hid hbox;have HTU:=Lib.hid htu;clear hsw hbox htu;obtain⟨jz,hjz⟩:∃jz:Int,(qn:Int)-1-(x:Int)=jz:=⟨_,rfl⟩;rw[hjz];by_cases hlt:2*x+1<qn
        · obtain⟨j,hj⟩:∃j,qn-1-x=j:=⟨_,rfl⟩;obtain rfl:jz=(j:Int):=by omega
          have hkj:(x:Int)<(j:Int):=by omega
          have hRL:(rotP Q k).length=qn:=by rw[HROT.out,HQN.out]
          obtain⟨⟨a0,a1⟩,ha⟩:∃p,(rotP Q k)[x]?=some p:=⟨_,List.getElem?_eq_getElem (by omega)⟩;obtain⟨⟨b0,b1⟩,hb⟩:∃p,(rotP Q k)[j]?=some p:=⟨_,List.getElem?_eq_getElem (by omega)⟩;have hua:us[x]?=some (a0,a1):=by rw[(HSW.out).2 x (by omega),if_neg (by omega)];exact ha
          have hub:us[j]?=some (b0,b1):=by rw[(HSW.out).2 j (by omega),if_neg (by omega)];exact hb
          have hul:us.length=qn:=by rw[(HSW.out).1];exact hRL
          have hsn:=(HSW.out).next (by omega) ha (by rw[hRL,hj];exact hb);rw[hRL,hj] at hsn;have HSN:=Lib.hid hsn;obtain⟨sa0,sa1⟩:=ptsCells_get us x a0 a1 hua;obtain⟨sb0,sb1⟩:=ptsCells_get us j b0 b1 hub;have hd:=(HBXX.out).drew;have ca0:=hd.c _ _ sa0;have ca1:=hd.c _ _ sa1;have fa0:=hd.f _ _ sa0;have fa1:=hd.f _ _ sa1;have cb0:=hd.c _ _ sb0;have cb1:=hd.c _ _ sb1;have hset:=(hd.set (x*2) (.int .i64 b0)).set (x*2+1) (.int .i64 b1);rw[←pts_set us x (b0,b1) (by omega)] at hset;have hub2:(us.set x (b0,b1))[j]?=some (b0,b1):=by rw[List.getElem?_set,if_neg (by omega)];exact hub
          obtain⟨sc0,sc1⟩:=ptsCells_get _ j b0 b1 hub2;have cc0:=hset.c _ _ sc0;have cc1:=hset.c _ _ sc1;have fc0:=hset.f _ _ sc0;have fc1:=hset.f _ _ sc1;have hset2:=(hset.set (j*2) (.int .i64 a0)).set (j*2+1) (.int .i64 a1);rw[←pts_set _ j (a0,a1) (by rw[List.length_set];omega)] at hset2;have HS2:=Lib.hid hset2;have HTD:=Lib.hid ((HTU.out).drew);have b1_:(0:Int)≤(x:Int):=by omega
          have b2_:(x:Int)<(qn:Int):=by omega
          have b3_:(0:Int)≤(j:Int):=by omega
          have b4_:(j:Int)<(qn:Int):=by omega
          clear hua hub hsn hd hset hset2 hub2 ha hb HSW HBXX HTU sa0 sa1 sb0 sb1 sc0 sc1 hRL hul;go_wp2;obtain⟨SSq,hSSq⟩:∃S:Array Bool→World→Prop,∀l w',S l w'↔((l.getD 13 true=false→w'.cell? ⟨o,x*2,none⟩=some (.int .i64 a0))∧(l.getD 13 true=false→w'.cell? ⟨o,x*2+1,none⟩=some (.int .i64 a1))∧(l.getD 13 true=false→w'.cell? ⟨o,j*2,none⟩=some (.int .i64 b0))∧(l.getD 13 true=false→w'.cell? ⟨o,j*2+1,none⟩=some (.int .i64 b1))):=⟨_,fun _ _=>Iff.rfl⟩;refine wp_region_noPanic ?_;refine wp_region_G SSq 16 #[false,false,false,false,false,false,false,false,false,false,false,false,false,false,false,false] (by kernel_rfl) (by kernel_rfl) (by kernel_rfl) ((hSSq _ _).2 ⟨(fun _=>ca0),(fun _=>ca1),(fun _=>cb0),(fun _=>cb1)⟩) (fun hCl hHeld=>?_);generalize wr.drew=w2_ at*;refine rG 0 ?_ ?_ ?_ ?_ ?_ ?_ hCl hHeld ?_;rotate_left 2;·simp only[gA,gZ];exact rfl
          ·intro l w';rw[hSSq,hSSq];rw[getD_set_ne (i:=0) (j:=13) true (by decide)]
          ·rfl
          ·intro w' hA;clear hA;go_simp;try with_reducible rfl
          clear hCl hHeld;intro hCl hHeld;simp only[List.setIfInBounds_toArray,List.set_cons_zero] at hCl hHeld;try simp only[Act.put,sA,sZ,sS]
          refine rG 1 ?_ ?_ ?_ ?_ ?_ ?_ hCl hHeld ?_;rotate_left 2;·simp only[gA,gS,gZ];exact rfl
          ·intro l w';rw[hSSq,hSSq];rw[getD_set_ne (i:=1) (j:=13) true (by decide)]
          ·rfl
          ·intro w' hA;clear hA;go_simp;try with_reducible rfl
          clear hCl hHeld;intro hCl hHeld;simp only[sA,sZ,sS] at hCl hHeld;try simp only[Act.put,sA,sZ,sS]
          refine rG 2 ?_ ?_ ?_ ?_ ?_ ?_ hCl hHeld ?_;rotate_left 2;·simp only[gA,gS,gZ];exact rfl
          ·intro l w';rw[hSSq,hSSq];rw[getD_set_ne (i:=2) (j:=13) true (by decide)]
          ·rfl
          ·intro w' hA;clear hA;go_simp;try with_reducible rfl
          clear hCl hHeld;intro hCl hHeld;simp only[sA,sZ,sS] at hCl hHeld;try simp only[Act.put,sA,sZ,sS]
          refine rG 3 ?_ ?_ ?_ ?_ ?_ ?_ hCl hHeld ?_;rotate_left 2;·simp only[gA,gS,gZ];exact rfl
          ·intro l w';rw[hSSq,hSSq];rw[getD_set_ne (i:=3) (j:=13) true (by decide)]
          ·rfl
          ·intro w' hA;clear hA;go_simp;try with_reducible rfl
          clear hCl hHeld;intro hCl hHeld;simp only[sA,sZ,sS] at hCl hHeld;try simp only[Act.put,sA,sZ,sS]
          refine rG 4 ?_ ?_ ?_ ?_ ?_ ?_ hCl hHeld ?_;rotate_left 2;·simp only[gA,gS,gZ];exact rfl
          ·intro l w';rw[hSSq,hSSq];rw[getD_set_ne (i:=4) (j:=13) true (by decide)]
          ·rfl
          ·intro w' hA;clear hA;go_simp;try with_reducible rfl
          clear hCl hHeld;intro hCl hHeld;simp only[sA,sZ,sS] at hCl hHeld;try simp only[Act.put,sA,sZ,sS]
          refine rG 5 ?_ ?_ ?_ ?_ ?_ ?_ hCl hHeld ?_;rotate_left 2;·simp only[gA,gS,gZ];exact rfl
          ·intro l w';rw[hSSq,hSSq];rw[getD_set_ne (i:=5) (j:=13) true (by decide)]
          ·rfl
          ·intro w' hA;clear hA;go_simp;try with_reducible rfl
          clear hCl hHeld;intro hCl hHeld;simp only[sA,sZ,sS] at hCl hHeld;try simp only[Act.put,sA,sZ,sS]
          refine rG 6 ?_ ?_ ?_ ?_ ?_ ?_ hCl hHeld ?_;rotate_left 2;·simp only[gA,gS,gZ];exact rfl
          ·intro l w';rw[hSSq,hSSq];rw[getD_set_ne (i:=6) (j:=13) true (by decide)]
          ·rfl
          ·intro w' hA;clear hA;go_simp;try with_reducible rfl
          clear hCl hHeld;intro hCl hHeld;simp only[sA,sZ,sS] at hCl hHeld;try simp only[Act.put,sA,sZ,sS]
          refine rG 7 ?_ ?_ ?_ ?_ ?_ ?_ hCl hHeld ?_;rotate_left 2;·simp only[gA,gS,gZ];exact rfl
          ·intro l w';rw[hSSq,hSSq];rw[getD_set_ne (i:=7) (j:=13) true (by decide)]
          ·rfl
          ·intro w' hA;obtain⟨l,hl,hi,hSl⟩:=hA;have hSl:=(hSSq _ _).1 hSl;obtain⟨hy0,hy1,hy2,hy3⟩:=hSl;have hz0:=hy0 (hl.not (t:=13) (by kernel_rfl) hi);have hz1:=hy1 (hl.not (t:=13) (by kernel_rfl) hi);have hz2:=hy2 (hl.not (t:=13) (by kernel_rfl) hi);have hz3:=hy3 (hl.not (t:=13) (by kernel_rfl) hi);go_simp;try with_reducible rfl
          clear hCl hHeld;intro hCl hHeld;simp only[sA,sZ,sS] at hCl hHeld;try simp only[Act.put,sA,sZ,sS]
          refine rG 8 ?_ ?_ ?_ ?_ ?_ ?_ hCl hHeld ?_;rotate_left 2;·simp only[gA,gS,gZ];exact rfl
          ·intro l w';rw[hSSq,hSSq];rw[getD_set_ne (i:=8) (j:=13) true (by decide)]
          ·rfl
          ·intro w' hA;clear hA;go_simp;try with_reducible rfl
          clear hCl hHeld;intro hCl hHeld;simp only[sA,sZ,sS] at hCl hHeld;try simp only[Act.put,sA,sZ,sS]
          refine rG 9 ?_ ?_ ?_ ?_ ?_ ?_ hCl hHeld ?_;rotate_left 2;·simp only[gA,gS,gZ];exact rfl
          ·intro l w';rw[hSSq,hSSq];rw[getD_set_ne (i:=9) (j:=13) true (by decide)]
          ·rfl
          ·intro w' hA;clear hA;go_simp;try with_reducible rfl
          clear hCl hHeld;intro hCl hHeld;simp only[sA,sZ,sS] at hCl hHeld;try simp only[Act.put,sA,sZ,sS]
          refine rG 10 ?_ ?_ ?_ ?_ ?_ ?_ hCl hHeld ?_;rotate_left 2;·simp only[gA,gS,gZ];exact rfl
          ·intro l w';rw[hSSq,hSSq];rw[getD_set_ne (i:=10) (j:=13) true (by decide)]
          ·rfl
          ·intro w' hA;clear hA;go_simp;try with_reducible rfl
          clear hCl hHeld;intro hCl hHeld;simp only[sA,sZ,sS] at hCl hHeld;try simp only[Act.put,sA,sZ,sS]
          refine rG 11 ?_ ?_ ?_ ?_ ?_ ?_ hCl hHeld ?_;rotate_left 2;·simp only[gA,gS,gZ];exact rfl
          ·intro l w';rw[hSSq,hSSq];rw[getD_set_ne (i:=11) (j:=13) true (by decide)]
          ·rfl
          ·intro w' hA;obtain⟨l,hl,hi,hSl⟩:=hA;have hSl:=(hSSq _ _).1 hSl;obtain⟨hy0,hy1,hy2,hy3⟩:=hSl;have hz0:=hy0 (hl.not (t:=13) (by kernel_rfl) hi);have hz1:=hy1 (hl.not (t:=13) (by kernel_rfl) hi);have hz2:=hy2 (hl.not (t:=13) (by kernel_rfl) hi);have hz3:=hy3 (hl.not (t:=13) (by kernel_rfl) hi);go_simp;try with_reducible rfl
          clear hCl hHeld;intro hCl hHeld;simp only[sA,sZ,sS] at hCl hHeld;try simp only[Act.put,sA,sZ,sS]
          refine rG 12 ?_ ?_ ?_ ?_ ?_ ?_ hCl hHeld ?_;rotate_left 2;·simp only[gA,gS,gZ];exact rfl
          ·intro l w';rw[hSSq,hSSq];rw[getD_set_ne (i:=12) (j:=13) true (by decide)]
          ·rfl
          ·intro w' hA;clear hA;go_simp;try with_reducible rfl
          clear hCl hHeld;intro hCl hHeld;simp only[sA,sZ,sS] at hCl hHeld;try simp only[Act.put,sA,sZ,sS]
          clear hCl hHeld;refine rD 13 _ (fun K hK=>?_);go_simp;refine hK.out _ _ ((hSSq _ _).2 ⟨(fun h=>absurd h (by decide)),(fun h=>absurd h (by decide)),(fun h=>absurd h (by decide)),(fun h=>absurd h (by decide))⟩) ?_;clear hK K;try simp only[Act.put,sA,sZ,sS]
          refine rD 14 _ (fun K hK=>?_);go_simp;refine hK.out _ _ ((hSSq _ _).2 ⟨(fun h=>absurd h (by decide)),(fun h=>absurd h (by decide)),(fun h=>absurd h (by decide)),(fun h=>absurd h (by decide))⟩) ?_;clear hK K;try simp only[Act.put,sA,sZ,sS]
          refine rD 15 _ (fun K hK=>?_);go_simp;refine hK.out _ _ ((hSSq _ _).2 ⟨(fun h=>absurd h (by decide)),(fun h=>absurd h (by decide)),(fun h=>absurd h (by decide)),(fun h=>absurd h (by decide))⟩) ?_;clear hK K;try simp only[Act.put,sA,sZ,sS]
          refine wpAnyG_done (by kernel_rfl) ?_ _;refine NoPanic.normal ?_;clear hSSq SSq;go_wp2;exact⟨⟨x+1,_,by omega,by go_num,by go_num,HSN.out,HS2.out,(((HTD.out.setCell _ _).setCell _ _).setCell _ _).setCell _ _⟩,by simp[intOf];omega⟩
        have hLL:=(HSW.out).done (by rw[HROT.out,HQN.out];omega);have hnj:¬(x:Int)<jz:=by omega
        have hnd:decide ((x:Int)<jz)=false:=decide_eq_false hnj;have HL:=Lib.hid (show us.length=qn∧us.Nodup∧(∀p,p∈Q↔p∈us) from⟨by rw[hLL,List.length_reverse,HROT.out,HQN.out],by rw[hLL];exact((List.reverse_perm (rotP Q k)).nodup_iff).2 (rotP_nodup k HQ1.out),fun p=>by rw[hLL,List.mem_reverse];exact(rotP_mem Q k p).symm⟩);have LBOX:=HBXX;have HBX:=Lib.hid (Below.turned HB6.out HTU.out (by have:=HB5.out.size;omega));have ROWX:=Lib.hid (ROW6.out.block (fun q hq _=>HTU.out.block q (by have h2:g=q:=(by simpa[Value.ownBlock] using hq);omega)));have hwz2:w5.heap.size≤wr.heap.size:=by have:=HTU.out.size;omega
        have hol2:w5.heap.size≤o∧o<wr.heap.size:=by have:=HTU.out.size;omega
        have hgl2:w2.heap.size≤g∧g<wr.heap.size:=by have:=HTU.out.size;omega
        clear hwz hol hgl;have hwz:=hwz2;have hol:=hol2;have hgl:=hgl2;clear hwz2 hol2 hgl2;clear hLL OBOX ROW6 HB6 HROT HSW HBXX HTU hjz hlt hx;obtain⟨wx,rfl⟩:∃z:World,z=wr:=⟨_,rfl⟩;obtain⟨L,rfl⟩:∃z:List (Int×Int),z=us:=⟨_,rfl⟩;go_wp2_with fail
    all_goals
      have hLP:InPs L:=fun p hp=>HQ2.out p ((HL.out.2.2 p).2 hp);have hptx:PtsIn wx g Q:=fun k x y hk=>by obtain⟨g1,g2⟩:=ptsCells_get Q k x y hk;exact⟨ROWX.out.cells (g:=g) rfl _ _ g1,ROWX.out.cells (g:=g) rfl _ _ g2⟩
      have HLP:=Lib.hid hLP;have HPTX:=Lib.hid hptx;refine(grown_any Q g qn vc wx HQ2.out HQN.out hq0l (by omega) hptx).mono ?_;clear hLP hptx;rintro e w7 (⟨s,t,hba,rfl,hb7⟩|⟨s,t,mb,pb,pc,tv,S,hba,hgr,rfl,hmo,hb7⟩);·exact absurd (base_flat hba) HNF.out
      have HBA:=Lib.hid hba;have HGR:=Lib.hid hgr;have HMO:=Lib.hid hmo;have HB7:=Lib.hid (HBX.out.trans (hb7.mono HBX.out.size));have HPT7:=Lib.hid (HPTX.out.below hb7);have hLB:=LBOX.out.below hb7;have hptl:PtsIn w7 o L:=fun i x y hi=>by obtain⟨g1,g2⟩:=ptsCells_get L i x y hi;exact⟨hLB.c _ _ g1,hLB.c _ _ g2⟩
      have HPTL:=Lib.hid hptl;have hx7:wx.heap.size≤w7.heap.size:=hb7.size;clear hba hgr hmo hb7 hLB hptl;go_wp2_with fail;refine(grown_any L o qn oc w7 HLP.out HL.out.1 hq0l (by omega) HPTL.out).mono ?_;rintro e w8 (⟨s',t',hba,rfl,hb8⟩|⟨s',t',mb',pb',pc',tv',S',hba,hgr,rfl,hmo,hb8⟩);·exact absurd (flat_of (base_flat hba) (fun p hp=>(HL.out.2.2 p).1 hp)) HNF.out
      have HGR':=Lib.hid hgr;have HMO':=Lib.hid hmo;have HB8:=Lib.hid (HB7.out.trans (hb8.mono HB7.out.size));have HPT8:=Lib.hid (HPT7.out.below hb8);have HPTL8:=Lib.hid (HPTL.out.below hb8);have HMO8:=Lib.hid (HMO.out.below hb8);obtain⟨hs1,hst,htl⟩:1≤s∧s<t∧t<Q.length:=base_ok HBA.out;obtain⟨hs1',hst',htl'⟩:1≤s'∧s'<t'∧t'<L.length:=base_ok hba;have HSAME:=Lib.hid (same_build (P:=Q) (P':=L) (by rw[HQN.out];exact HGR.out) (by rw[HL.out.1];exact HGR'.out) HQ1.out HL.out.2.1 HL.out.2.2 (by rw[HQN.out,HL.out.1]) hs1 hst htl hs1' hst' htl');have h8s:w.heap.size≤w8.heap.size:=HB8.out.size;have h78:w7.heap.size≤w8.heap.size:=hb8.size;clear hba hgr hmo hb8 hs1 hst htl hs1' hst' htl';obtain⟨tb,tc,rfl,HRD'⟩:=MeshO.sl HMO8.out (by obtain⟨r,hr⟩:=HGR.out.real;have:=hr.1;omega);obtain⟨tb',tc',rfl,HRD2'⟩:=MeshO.sl HMO'.out (by obtain⟨r,hr⟩:=HGR'.out.real;have:=hr.1;omega);have HRD:=Lib.hid HRD';have HRD2:=Lib.hid HRD2';clear HRD' HRD2';obtain⟨ab,hab⟩:∃x,w8.heap.size=x:=⟨_,rfl⟩;obtain⟨w9,hw9,pa9,hb9,hs9⟩:=new_box w8 _ rfl [.int .i64 0] 3;have ba9:Boxed w9 ab 3 (.int .i64 0):=by rw[←hw9,←hab];exact Boxed.new w8 _ _
      obtain⟨bb,hbb⟩:∃x,w9.heap.size=x:=⟨_,rfl⟩;obtain⟨w10,hw10,pb10,hb10,hs10⟩:=new_box w9 _ rfl [.int .i64 0] 3;have bb10:Boxed w10 bb 3 (.int .i64 0):=by rw[←hw10,←hbb];exact Boxed.new w9 _ _
      have hab2:ab<bb:=by omega
      have hbb2:bb<w10.heap.size:=by omega
      have ba10:Boxed w10 ab 3 (.int .i64 0):=(hb10.block ab (by omega)).trans ba9;have hca:=ba10.cell;have hfa:=ba10.frozen;obtain⟨w11,hw11⟩:∃x,w10.setCell ⟨ab,0,none⟩ (.int .i64 0)=x:=⟨_,rfl⟩;have ba11:Boxed w11 ab 3 (.int .i64 0):=by rw[←hw11];exact ba10.set _
      have bb11:Boxed w11 bb 3 (.int .i64 0):=by rw[←hw11];exact bb10.other (by omega) _
      have hcb:=bb11.cell;have hfb:=bb11.frozen;obtain⟨w12,hw12⟩:∃x,w11.setCell ⟨bb,0,none⟩ (.int .i64 0)=x:=⟨_,rfl⟩;have bb12:Boxed w12 bb 3 (.int .i64 0):=by rw[←hw12];exact bb11.set _
      have ba12:Boxed w12 ab 3 (.int .i64 0):=by rw[←hw12];exact ba11.other (by omega) _
      have hs11:w11.heap.size=w10.heap.size:=by rw[←hw11];simp[World.setCell]
      have hs12:w12.heap.size=w10.heap.size:=by rw[←hw12,←hs11];simp[World.setCell]
      have hb812:Below w8.heap.size w8 w12:=by rw[←hw12,←hw11];exact((hb9.trans (hb10.mono hb9.size)).setCell (p:=⟨ab,0,none⟩) (by simp only[];omega) _).setCell (p:=⟨bb,0,none⟩) (by simp only[];omega) _
      have hbb12:bb<w12.heap.size:=by omega
      have hab8:w8.heap.size≤ab:=by omega
      have HB812:=Lib.hid hb812;have BA12:=Lib.hid ba12;have BB12:=Lib.hid bb12;have HAL:=Lib.hid (All_any (some ⟨mb,0,none⟩) w12);clear ba9 pa9 hb9 hs9 pb10 hb10 hs10 bb10 ba10 ba11 bb11 hs11 hs12 hb812 ba12 bb12;go_wp2_with fail;refine HAL.out.mono ?_;rintro e w13 ⟨rfl,hw13⟩;clear hab hbb hw9 hw10 hca hfa hw11 hcb hfb hw12;go_wp2;have hsz:w13.heap.size=w12.heap.size+1:=by rw[←hw13];simp
      have hb123:Below w12.heap.size w12 w13:=by rw[←hw13];exact(Below.refl _ _).alloc (Nat.le_refl _) _
      have bm13:Boxed w13 w12.heap.size 25 (.pointer (some ⟨mb,0,none⟩)):=by rw[←hw13];exact Boxed.new w12 _ _
      have hb813:=HB812.out.trans (hb123.mono HB812.out.size);have ba13:Boxed w13 ab 3 (.int .i64 0):=(hb123.block ab (by omega)).trans BA12.out;have bb13:Boxed w13 bb 3 (.int .i64 0):=(hb123.block bb (by omega)).trans BB12.out;have hr13:=HRD.out.below hb813;have hszA:w12.heap.size+1≤w13.heap.size:=by omega
      have hszA2:w13.heap.size≤w12.heap.size+1:=by omega
      have h813:w8.heap.size≤w12.heap.size:=HB812.out.size;clear hsz hw13;have hlow:=HMO8.out.low;obtain⟨Pb,hPb⟩:∃Pb:Nat→Prop,∀b,Pb b↔(b≠ab∧b<w13.heap.size):=⟨_,fun _=>Iff.rfl⟩;have hltW:∀b,Pb b→b<w13.heap.size:=fun b h=>((hPb b).1 h).2;have hna:¬Pb ab:=fun h=>((hPb _).1 h).1 rfl;have hin13:MeshIn Pb mb pb (some ⟨tb,0,none⟩):=⟨(hPb _).2 (by omega),(hPb _).2 (by omega),fun b hb=>by cases hb;have:=(HMO8.out.row.lt tb rfl).2;exact(hPb _).2 (by omega)⟩;have hPbb:Pb bb:=(hPb _).2 (by omega);rw[←wpIn_wide (n:=20)];refine range_start9 (fun a0_ ha0=>?_);refine wpIn_rangeFunc_ownH rfl (by omega) (gf:=91) (lb:=#[.pointer (some ⟨w12.heap.size,0,none⟩)]) (by rw[ha0];rfl) trivial (enters_of Tryz.func91 (by kernel_rfl) rfl) (all_stops 19 (by omega) w12.heap.size Pb w13 hltW hr13 hin13 bm13.cell ((hPb _).2 (by omega))) (fun h k=>KeepB.trans h k) ?kb (Below.refl _ _) (fun _=>rfl) (fun(pre:List (RA S)) W=>KeepB Pb w13 W∧(Boxed W ab 3 (.int .i64 (pre.length:Int))∧Below w8.heap.size w8 W)) (fun _ _ _=>False) (OwnFrom.and (keepB_own hltW) (OwnFrom.and (Own.from (boxed_own ab 3 (fun pre:List (RA S)=>Value.int .i64 (pre.length:Int))) _) (ownFrom_below (by omega) (by omega)))) (fun _ _ _ _ _ h _ _=>h) ⟨KeepB.refl _ _,ba13,hb813⟩ (fun x a' W=>a'={tmps:=((#[84,85].zip (encA x)).foldl (fun t (p,v)=>t.setIfInBounds p v) a0_.tmps),defers:=[]}) ?own ?assign ?body ?done ?stop;case kb=>
        intro W l o o' hl _ _ _ b hb;exact World.putObj_heap_other (fun e=>by have:=hltW b hb;omega)
      case own=>intro x a' s A B row hs _ _;exact hs
      case assign=>
        intro l pre x W K hI hK;rw[ha0] at hK⊢;dsimp only[encA] at hK⊢;gi_wp2;exact hK _ _ (KeepsFrom.refl _ _) (KeepB.refl _ _) hI (by kernel_rfl)
      case body=>as_aux_lemma=>
          rintro l pre x a' W hWl-⟨hKB,hbx,hBW⟩ rfl hlen;have hln:∀z:RA S,((pre++[z]).length:Int)=(pre.length:Int)+1:=fun z=>by simp
          have HLN:=Lib.hid hln;have hlS:pre.length<S.length:=hlen;have hsh:=HMO8.out.short.2;obtain⟨kc,hkc⟩:∃k,pre.length=k:=⟨_,rfl⟩;rw[hkc] at hbx hlS HLN;obtain⟨W1,hW1⟩:∃x,W.setCell ⟨ab,0,none⟩ (.int .i64 ((kc:Int)+1))=x:=⟨_,rfl⟩;have HKO1:=Lib.hid (show KeepsFrom w13.heap.size W W1 by rw[←hW1];exact(KeepsOthers.setCell _ _ _).from _);have HKW1:=Lib.hid (show KeepB Pb W W1 by rw[←hW1];exact keepB_set9 (KeepB.refl _ _) hna _);have HKB1:=Lib.hid (show KeepB Pb w13 W1 by rw[←hW1];exact keepB_set9 hKB hna _);have HBX1:=Lib.hid (show Boxed W1 ab 3 (.int .i64 ((kc:Int)+1)) by rw[←hW1];exact hbx.set _);have HBW1:=Lib.hid (show Below w8.heap.size w8 W1 by rw[←hW1];exact hBW.setCell (p:=⟨ab,0,none⟩) (by simp only[];omega) _);have cb:=hbx.cell;have fb:=hbx.frozen;rw[ha0];dsimp only[encA];clear hKB hbx hBW hln hlen hkc;gi_wp2;refine⟨HKO1.out,HKW1.out,HKB1.out,?_,HBW1.out⟩;rw[HLN.out];exact HBX1.out
      case stop=>rintro D c pre W _ _ h _;exact h.elim
      case done=>
      rintro D1 xs W hD1 hS ⟨hKB,hbx,hBW⟩ hK1;have hxl:xs.length=(realsK S S.length).length:=by
        have h1:=congrArg List.length hS;rw[List.length_map] at h1;exact h1
      rw[hxl] at hbx;obtain⟨rn,hrn⟩:∃x,(realsK S S.length).length=x:=⟨_,rfl⟩;rw[hrn] at hbx;have HRN:=Lib.hid hrn;have hbbW:Boxed W bb 3 (.int .i64 0):=(hKB bb hPbb).trans bb13;have hW13:w13.heap.size≤W.heap.size:=by have hx:=(hKB w12.heap.size ((hPb _).2 (by omega))).trans bm13;have h1:=(Array.getElem?_eq_some_iff.1 hx).1;omega
      have hD1l:D1<W.heap.size:=(Array.getElem?_eq_some_iff.1 hK1).1;have HBAW:=Lib.hid hbx;have HBBW:=Lib.hid hbbW;have HBWW:=Lib.hid hBW;have HK1:=Lib.hid hK1;have HAL2:=Lib.hid (All_any (some ⟨mb',0,none⟩) W);clear hxl hS hKB hbx hBW hK1 hrn hbbW hPb hltW hna hin13 hPbb hr13 bm13 ba13 bb13 hb813 hb123;rw[ha0];gi_wp2;go_wp2_with fail;refine HAL2.out.mono ?_;rintro e w15 ⟨rfl,hw15⟩;go_wp2;have hsz:w15.heap.size=W.heap.size+1:=by rw[←hw15];simp
      have hbW15:Below W.heap.size W w15:=by rw[←hw15];exact(Below.refl _ _).alloc (Nat.le_refl _) _
      have bm15:Boxed w15 W.heap.size 25 (.pointer (some ⟨mb',0,none⟩)):=by rw[←hw15];exact Boxed.new W _ _
      have hb815:=HBWW.out.trans (hbW15.mono HBWW.out.size);have ba15:Boxed w15 ab 3 (.int .i64 (rn:Int)):=(hbW15.block ab (by omega)).trans HBAW.out;have bb15:Boxed w15 bb 3 (.int .i64 0):=(hbW15.block bb (by omega)).trans HBBW.out;have hd15:w15.heap[D1]?=some (.deferred (some [])):=(hbW15.block D1 hD1l).trans HK1.out;have hr15:=HRD2.out.below hb815;have hszB:W.heap.size+1≤w15.heap.size:=by omega
      have hszB2:w15.heap.size≤W.heap.size+1:=by omega
      clear hsz hw15;have hlow2:=HMO'.out.low;obtain⟨Pc,hPc⟩:∃Pc:Nat→Prop,∀b,Pc b↔(b≠bb∧b<w15.heap.size):=⟨_,fun _=>Iff.rfl⟩;have hltW:∀b,Pc b→b<w15.heap.size:=fun b h=>((hPc b).1 h).2;have hnb:¬Pc bb:=fun h=>((hPc _).1 h).1 rfl;have hin15:MeshIn Pc mb' pb' (some ⟨tb',0,none⟩):=⟨(hPc _).2 (by omega),(hPc _).2 (by omega),fun b hb=>by cases hb;have:=(HMO'.out.row.lt tb' rfl).2;exact(hPc _).2 (by omega)⟩;have hPab:Pc ab:=(hPc _).2 (by omega);have hPD1:Pc D1:=(hPc _).2 (by omega);rw[←wpIn_wide (n:=20)];refine range_start9 (fun a1_ ha1=>?_);refine wpIn_rangeFunc_ownH rfl (by omega) (gf:=91) (lb:=#[.pointer (some ⟨W.heap.size,0,none⟩)]) (by rw[ha1];rfl) trivial (enters_of Tryz.func91 (by kernel_rfl) rfl) (all_stops 19 (by omega) W.heap.size Pc w15 hltW hr15 hin15 bm15.cell ((hPc _).2 (by omega))) (fun h k=>KeepB.trans h k) ?kb (Below.refl _ _) (fun _=>rfl) (fun(pre:List (RA S')) W'=>KeepB Pc w15 W'∧(Boxed W' bb 3 (.int .i64 (pre.length:Int))∧Below w8.heap.size w8 W')) (fun _ _ _=>False) (OwnFrom.and (keepB_own hltW) (OwnFrom.and (Own.from (boxed_own bb 3 (fun pre:List (RA S')=>Value.int .i64 (pre.length:Int))) _) (ownFrom_below (by omega) (by omega)))) (fun _ _ _ _ _ h _ _=>h) ⟨KeepB.refl _ _,bb15,hb815⟩ (fun x a' W=>a'={tmps:=((#[90,91].zip (encA x)).foldl (fun t (p,v)=>t.setIfInBounds p v) a1_.tmps),defers:=[]}) ?own ?assign ?body ?done ?stop;case kb=>
        intro W l o o' hl _ _ _ b hb;exact World.putObj_heap_other (fun e=>by have:=hltW b hb;omega)
      case own=>intro x a' s A B row hs _ _;exact hs
      case assign=>
        intro l pre x W K hI hK;rw[ha1] at hK⊢;dsimp only[encA] at hK⊢;gi_wp2;exact hK _ _ (KeepsFrom.refl _ _) (KeepB.refl _ _) hI (by kernel_rfl)
      case body=>as_aux_lemma=>
          rintro l pre x a' W' hWl-⟨hKB,hbx,hBW⟩ rfl hlen;have hln:∀z:RA S',((pre++[z]).length:Int)=(pre.length:Int)+1:=fun z=>by simp
          have HLN:=Lib.hid hln;have hlS:pre.length<S'.length:=hlen;have hsh:=HMO'.out.short.2;obtain⟨kc,hkc⟩:∃k,pre.length=k:=⟨_,rfl⟩;rw[hkc] at hbx hlS HLN;obtain⟨W1,hW1⟩:∃x,W'.setCell ⟨bb,0,none⟩ (.int .i64 ((kc:Int)+1))=x:=⟨_,rfl⟩;have HKO1:=Lib.hid (show KeepsFrom w15.heap.size W' W1 by rw[←hW1];exact(KeepsOthers.setCell _ _ _).from _);have HKW1:=Lib.hid (show KeepB Pc W' W1 by rw[←hW1];exact keepB_set9 (KeepB.refl _ _) hnb _);have HKB1:=Lib.hid (show KeepB Pc w15 W1 by rw[←hW1];exact keepB_set9 hKB hnb _);have HBX1:=Lib.hid (show Boxed W1 bb 3 (.int .i64 ((kc:Int)+1)) by rw[←hW1];exact hbx.set _);have HBW1:=Lib.hid (show Below w8.heap.size w8 W1 by rw[←hW1];exact hBW.setCell (p:=⟨bb,0,none⟩) (by simp only[];omega) _);have cb:=hbx.cell;have fb:=hbx.frozen;rw[ha1];dsimp only[encA];clear hKB hbx hBW hln hlen hkc;gi_wp2;refine⟨HKO1.out,HKW1.out,HKB1.out,?_,HBW1.out⟩;rw[HLN.out];exact HBX1.out
      case stop=>rintro D c pre W _ _ h _;exact h.elim
      case done=>
      rintro D2 xs V hD2 hS ⟨hKB,hbx,hBW⟩ hK2;have hxl:xs.length=rn:=by
        have h1:=congrArg List.length hS;rw[List.length_map] at h1;rw[h1,←HSAME.out.2.1];exact HRN.out
      rw[hxl] at hbx;have hbaV:Boxed V ab 3 (.int .i64 (rn:Int)):=(hKB ab hPab).trans ba15;have hd1V:V.heap[D1]?=some (.deferred (some [])):=(hKB D1 hPD1).trans hd15;have hV15:w15.heap.size≤V.heap.size:=by
        have hx:=(hKB W.heap.size ((hPc _).2 (by omega))).trans bm15;have h1:=(Array.getElem?_eq_some_iff.1 hx).1;omega
      have HBAV:=Lib.hid hbaV;have HBBV:=Lib.hid hbx;have HBV:=Lib.hid hBW;have HD1V:=Lib.hid hd1V;have HK2:=Lib.hid hK2;have HD12:=Lib.hid (show w8.heap.size≤D1∧w8.heap.size≤D2∧D1≠D2∧D1<V.heap.size∧D2<V.heap.size from⟨by omega,by omega,by omega,by omega,(Array.getElem?_eq_some_iff.1 hK2).1⟩);have hne1:borderM S≠[]:=by obtain⟨r,hr⟩:=HGR.out.real;exact HGR.out.tidy.border_ne hr
      have hne2:borderM S'≠[]:=by obtain⟨r,hr⟩:=HGR'.out.real;exact HGR'.out.tidy.border_ne hr
      have HH1:=Lib.hid (Hull_any V (HRD.out.below hBW) HQ0.out hne1);have HH2:=Lib.hid (fun(V':World) (h:Below V.heap.size V V')=>Hull_any V' (HRD2.out.below (hBW.trans (h.mono hBW.size))) (fun e=>by have:=HL.out.1;rw[e] at this;simp at this;omega) hne2);clear hxl hS hKB hbx hBW hK2 hbaV hd1V hPc hltW hnb hin15 hPab hPD1 hr15 bm15 ba15 bb15 hd15 hb815 hbW15 hne1 hne2;rw[ha1];gi_wp2;go_wp2_with fail;refine HH1.out.mono ?_;rintro e v1w ⟨hg1,hc1,rfl,hbox1,-,-,hb1⟩;have HH3:=Lib.hid (HH2.out v1w hb1);have HBX1:=Lib.hid hbox1;have HB1:=Lib.hid hb1;clear hbox1 hb1;go_wp2_with fail;refine HH3.out.mono ?_;rintro e v2w ⟨hg2,hc2,rfl,hbox2,-,-,hb2⟩;obtain⟨hn,hhn⟩:∃x,(borderM S).length=x:=⟨_,rfl⟩;have hhn2:(borderM S').length=hn:=by rw[←HSAME.out.1];exact hhn
      rw[hhn,hhn2];have HHN:=Lib.hid hhn;have HHN2:=Lib.hid hhn2;have HBX2:=Lib.hid hbox2;have HBX1':=Lib.hid (HBX1.out.below hb2);have hbV2:=HB1.out.trans (hb2.mono HB1.out.size);have HBV2:=Lib.hid (HBV.out.trans (hbV2.mono HBV.out.size));have hVs:V.heap.size≤v2w.heap.size:=hbV2.size;have c14:v2w.cell? ⟨ab,0,none⟩=some (.int .i64 (rn:Int)):=Boxed.cell (show Boxed v2w ab 3 (.int .i64 (rn:Int)) from(hbV2.block ab (by omega)).trans HBAV.out);have c15:v2w.cell? ⟨bb,0,none⟩=some (.int .i64 (rn:Int)):=Boxed.cell (show Boxed v2w bb 3 (.int .i64 (rn:Int)) from(hbV2.block bb (by omega)).trans HBBV.out);have HMK1:=Lib.hid (show v2w.heap[D1]?=some (.deferred (some [])) from(hbV2.block D1 HD12.out.2.2.2.1).trans HD1V.out);have HMK2:=Lib.hid (show v2w.heap[D2]?=some (.deferred (some [])) from(hbV2.block D2 HD12.out.2.2.2.2).trans HK2.out);obtain⟨hmk,hmp⟩:=run_new_map (P:=Tryz.prog) v2w 46 33;obtain⟨w16,hw16⟩:∃x,v2w.alloc (.map #[] 0)=x:=⟨_,rfl⟩;obtain⟨mpb,hmpb⟩:∃x,v2w.heap.size=x:=⟨_,rfl⟩;rw[hw16,hmpb] at hmk hmp;have hb216:Below v2w.heap.size v2w w16:=by rw[←hw16];exact(Below.refl _ _).alloc (Nat.le_refl _) _
      have HB16:=Lib.hid hb216;have HMP:=Lib.hid hmp;have HMPB:=Lib.hid hmpb;have ne1:((rn:Int) !=(rn:Int))=false:=by simp
      have ne2:((hn:Int) !=(hn:Int))=false:=by simp
      obtain⟨r1,hr1⟩:=HGR.out.real;obtain⟨r2,hr2⟩:=HGR'.out.real;obtain⟨nd1,-,in1,-⟩:=HGR.out.tidy.border hr1;obtain⟨nd2,-,in2,-⟩:=HGR'.out.tidy.border hr2;have HND:=Lib.hid (hull_nodup (P:=Q) HQ1.out nd1 in1);have HIN1:=Lib.hid (show∀v∈hullL (borderM S),0≤v∧v<Q.length from fun v hv=>in1 v ((hullL_mem _ v).1 hv));have HIN2:=Lib.hid (show∀v∈hullL (borderM S'),0≤v∧v<L.length from fun v hv=>in2 v ((hullL_mem _ v).1 hv));have HLE:=Lib.hid (show(hullL (borderM S)).length=hn∧(hullL (borderM S')).length=hn from⟨by rw[hullL_len,hhn],by rw[hullL_len,hhn2]⟩);have hnb:hn≤1000000:=by have h1:=border_le S;have h2:=HMO8.out.short.2;omega
      clear hhn hhn2 hbox2 hb2 hbV2 hr1 hr2 nd1 nd2 in1 in2 hb216 hmp;go_wp2;clear c14 c15 hmk hw16 hmpb ne1 ne2;go_loopw [20,111] (fun _ iv wr=>∃x:Nat,x≤hn∧iv= .int .i64 (x:Int)∧MapB Tryz.prog 33 wr mpb (seenE (((hullL (borderM S)).map (ptV Q)).take x))∧Below v2w.heap.size v2w wr) (fun _ iv _=>hn-(intOf iv).toNat);case atStart=>exact⟨0,Nat.zero_le _,rfl,by simpa[seenE] using HMP.out,HB16.out⟩
      case round=>
        obtain⟨x,hx,rfl,hmap,hbr⟩:=hrel;by_cases hlt:x<hn
        · have hyd:decide ((x:Int)<(hn:Int))=true:=decide_eq_true (by omega);obtain⟨v,hv⟩:∃v,(hullL (borderM S))[x]?=some v:=⟨_,List.getElem?_eq_getElem (by rw[HLE.out.1];exact hlt)⟩;obtain⟨h0,h1⟩:=HIN1.out v (List.mem_of_getElem? hv);obtain⟨vn,rfl⟩:∃vn:Nat,v=(vn:Int):=⟨v.toNat,by omega⟩;obtain⟨⟨p0,p1⟩,hp⟩:∃p,Q[vn]?=some p:=⟨_,List.getElem?_eq_getElem (by omega)⟩;have hpv:ptV Q (vn:Int)=(p0,p1):=by unfold ptV ptA;rw[Int.toNat_natCast,hp];rfl
          have hpx:((hullL (borderM S)).map (ptV Q))[x]?=some (p0,p1):=by rw[List.getElem?_map,hv];exact congrArg some hpv
          have hno:(p0,p1)∉((hullL (borderM S)).map (ptV Q)).take x:=fun hm=>by
            obtain⟨i,hi,he⟩:=List.mem_take_iff_getElem.1 hm;have hi':((hullL (borderM S)).map (ptV Q))[i]?=some (p0,p1):=by rw[List.getElem?_eq_getElem (by omega),he]
            have:=(List.getElem?_inj (show i<_ by omega) HND.out).1 (hi'.trans hpx.symm);omega
          obtain⟨w17,hst,htu,hmap2⟩:=seen_store (p:=(p0,p1)) hmap (HQ2.out _ (List.mem_of_getElem? hp)) hno;rw[show((hullL (borderM S)).map (ptV Q)).take x++[(p0,p1)]=((hullL (borderM S)).map (ptV Q)).take (x+1) from by rw[List.take_add_one,hpx];rfl] at hmap2;have hbo:=HBX1'.out.below hbr;have cx:=hbo.c x (.int .i64 (vn:Int)) (by unfold intCells;rw[List.getElem?_map,hv];rfl);have hpt:=(HPT8.out.below (HBV2.out.trans (hbr.mono HBV2.out.size))) vn p0 p1 hp;have cp0:=hpt.1;have cp1:=hpt.2;have i1:(0:Int)≤(x:Int):=by omega
          have i2:(x:Int)<(hn:Int):=by omega
          have i3:(0:Int)≤(vn:Int):=by omega
          have i4:(vn:Int)<(qn:Int):=by have:=HQN.out;omega
          have HMAP2:=Lib.hid hmap2;have HBR:=Lib.hid (Below.turned hbr htu (by have:=HMPB.out;omega));clear hmap hbr hmap2 htu hpt hbo hno hpx hpv hp hv h1;go_wp2;exact⟨⟨x+1,by omega,by go_num,HMAP2.out,HBR.out⟩,by simp[intOf];omega⟩
        · have hyd:decide ((x:Int)<(hn:Int))=false:=decide_eq_false (by omega);have hxe:x=hn:=by omega
          have HALL:=Lib.hid (show MapB Tryz.prog 33 wr mpb (seenE ((hullL (borderM S)).map (ptV Q))) from by have h:=hmap;rw[List.take_of_length_le (by rw[List.length_map,HLE.out.1];omega)] at h;exact h);have HBR:=Lib.hid hbr;clear hmap hbr hxe;go_wp2;go_loopw [22,123] (fun _ iv wq=>∃y:Nat,y≤hn∧iv= .int .i64 (y:Int)∧wq=wr) (fun _ iv _=>hn-(intOf iv).toNat);case atStart=>exact⟨0,Nat.zero_le _,rfl,rfl⟩
          case round=>
            obtain⟨y',hy',rfl,rfl⟩:=hrel;by_cases hlt2:y'<hn
            · have hyd2:decide ((y':Int)<(hn:Int))=true:=decide_eq_true (by omega);obtain⟨v,hv⟩:∃v,(hullL (borderM S'))[y']?=some v:=⟨_,List.getElem?_eq_getElem (by rw[HLE.out.2];exact hlt2)⟩;obtain⟨h0,h1⟩:=HIN2.out v (List.mem_of_getElem? hv);obtain⟨vn,rfl⟩:∃vn:Nat,v=(vn:Int):=⟨v.toNat,by omega⟩;obtain⟨⟨p0,p1⟩,hp⟩:∃p,L[vn]?=some p:=⟨_,List.getElem?_eq_getElem (by omega)⟩;have hpv:ptV L (vn:Int)=(p0,p1):=by unfold ptV ptA;rw[Int.toNat_natCast,hp];rfl
              have hin:(p0,p1)∈(hullL (borderM S)).map (ptV Q):=by obtain⟨u,hu,he⟩:=HSAME.out.2.2 (vn:Int) ((hullL_mem _ _).1 (List.mem_of_getElem? hv));exact List.mem_map.2 ⟨u,(hullL_mem _ u).2 hu,he.trans hpv⟩
              have hlk:=seen_look (p:=(p0,p1)) HALL.out (HLP.out _ (List.mem_of_getElem? hp));rw[if_pos hin] at hlk;have hbo:=HBX2.out.below HBR.out;have cx:=hbo.c y' (.int .i64 (vn:Int)) (by unfold intCells;rw[List.getElem?_map,hv];rfl);have hpt:=(HPTL8.out.below (HBV2.out.trans (HBR.out.mono HBV2.out.size))) vn p0 p1 hp;have cp0:=hpt.1;have cp1:=hpt.2;have i1:(0:Int)≤(y':Int):=by omega
              have i2:(y':Int)<(hn:Int):=by omega
              have i3:(0:Int)≤(vn:Int):=by omega
              have i4:(vn:Int)<(qn:Int):=by have:=HL.out.1;omega
              clear hpt hbo hin hpv hp hv h1;go_wp2;exact⟨⟨y'+1,by omega,by go_num,by first|trivial|rfl⟩,by simp[intOf];omega⟩
            · have hyd2:decide ((y':Int)<(hn:Int))=false:=decide_eq_false (by omega);go_wp2;have hd1:wr.heap[D1]?=some (.deferred (some [])):=(HBR.out.block D1 (by have:=HD12.out.2.2.2.1;omega)).trans HMK1.out;have hd2:wr.heap[D2]?=some (.deferred (some [])):=(HBR.out.block D2 (by have:=HD12.out.2.2.2.2;omega)).trans HMK2.out;have hwB:=(HB8.out.trans (HBV2.out.mono HB8.out.size)).trans (HBR.out.mono (HB8.out.trans (HBV2.out.mono HB8.out.size)).size);have hw8s:=HB8.out.size;have hD:=HD12.out;refine leaves_marks _ _ (MarksOk.cons (r:=D2) hd2 (fun d hd e=>?_) (MarksOk.cons (r:=D1) hd1 (fun d hd=>by cases hd) .nil)) (fun W' g1 g2 g3 g4 g5=>?_)
              · simp only[List.mem_singleton] at hd;subst hd;simp only[Target.collected.injEq] at e;omega
              · have hBf:Below w.heap.size wr W':=⟨g1,g2,g3,by rw[g4];exact Nat.le_refl _,fun k hk=>g5 k (fun d hd e=>by
                  simp only[List.mem_cons,List.not_mem_nil,or_false] at hd;rcases hd with rfl|rfl<;>(simp only[Target.collected.injEq] at e;omega))⟩;exact⟨_,results_tmp rfl _ _ _,rfl,hwB.trans hBf⟩
end Go.Proofs.YtdmfbkhafnkcfaaGreat
