import Derived.Test.YtammmemfkpcpcaaGreatPartj
import Derived.Test.YtammmemfkpcpcaaGreatPartv
import Derived.Deep.Slices
import Derived.Test.YtammmemfkpcpcaaGreatPartq
import Derived.Test.YtammmemfkpcpcaaGreatPartt
import Derived.Test.YtammmemfkpcpcaaGreatParti
import Derived.Test.YtammmemfkpcpcaaGreatPartr
import Derived.BigQuiet
import Derived.Deep.QuietTactic
import Derived.Test.YtammmemfkpcpcaaGreatPartk
import Derived.Test.YtammmemfkpcpcaaGreatPartl
import Derived.Test.YtammmemfkpcpcaaGreatPartm
import Derived.Test.YtammmemfkpcpcaaGreatSortI
import Derived.Test.YtammmemfkpcpcaaGreatParth
import Derived.Test.YtammmemfkpcpcaaGreatPartn
import Derived.RangeFuncNested
import Derived.RangeFuncBound
import Derived.RangeFuncCalls
import Derived.RangeFuncLeaves
import Derived.Test.YtammmemfkpcpcaaGreatWalkSk
set_option linter.unusedSimpArgs false
set_option linter.unusedVariables false
namespace Go.Proofs.YtammmemfkpcpcaaGreat
open Go.ChangeShapes Go.WideShapes Go.RowKit Go.MagM
theorem list4_of{l:List Value}(h:l.length=4):∃a b c d,l=[a,b,c,d]:=by match l,h with|[a,b,c,d],_=>exact⟨a,b,c,d,rfl⟩
theorem shareCells:Tryz.prog.cellsOf 61=4:=by kernel_rfl
theorem open_share{H:Type}{enc:TypeId×Value→H}{W:World}{n:Nat}{c0 c1 c2 c3:Value}{x:DataW H×List MemPlace}(hf:DataW.trod enc Tryz.prog W 0 (fun _=>true) true n 61 [c0,c1,c2,c3]=some x):∃v m ao k c bo l e L X D,c0= .int .i64 v∧c1= .bool m∧c2= .slice ao k c∧c3= .slice bo l e∧FD W (.agg #[.bool m,.slice ao k c,.slice bo l e]) L X D:=by
  obtain⟨y0,y1,n,_,_,h0,h1⟩:=trod_struct2 Tryz.underlying61 hf;have h0':DataW.trod enc Tryz.prog W 0 (fun _=>true) true n 3 [c0]=some y0:=by rw[←h0];simp[ptCell1]
  have h1':DataW.trod enc Tryz.prog W 0 (fun _=>true) true n 58 [c1,c2,c3]=some y1:=by rw[←h1];simp[cells27]
  obtain⟨v,e0,_,_⟩:=DataW.trod_int Tryz.underlying3 h0';simp at e0;subst e0;obtain⟨m,ao,k,c,bo,l,e,L,X,D,rfl,rfl,rfl,hF⟩:=open_frac h1';exact⟨v,m,ao,k,c,bo,l,e,L,X,D,rfl,rfl,rfl,rfl,hF⟩
set_option maxRecDepth 100000 in theorem view_shares{H:Type}{enc:TypeId×Value→H}{W:World}{b0:Nat}{v:Value}{d:DataW H}{p:List MemPlace}(hv:Value.okWide Tryz.prog W .any b0 52 v)(h:DataW.Trod enc Tryz.prog W 0 (fun _=>true) true 52 v d p):∃ao n c l,v= .slice ao n c∧(l.length=n∧RawSh W ao l):=by
  obtain⟨ao,n,c,rfl⟩:=okWide_slice Tryz.underlying52 hv;obtain⟨fuel,hf⟩:=h;rcases Go.Deep.open_slice Tryz.underlying52 hf with⟨hcs,_⟩|⟨a,len,cap,m,k,D,Pl,hcs,_,hlc,_,hm,_,hx⟩
  · simp[Value.cells] at hcs;obtain⟨rfl,rfl,rfl⟩:=hcs;exact⟨_,_,_,[],rfl,rfl,fun i v X D hi=>by simp at hi⟩
  · simp[Value.cells] at hcs;obtain⟨rfl,rfl,rfl⟩:=hcs;simp only[if_true] at hm;subst hm;obtain⟨ab,ao,as'⟩:=a;have hs:0<n→as'=none:=fun h0=>by
      obtain⟨cs',h1,_⟩:=hx 0 (by omega);rw[shareCells] at h1;obtain⟨_,hlen,hcell⟩:=World.cells?_some h1;obtain⟨c0,c1,c2,c3,rfl⟩:=list4_of hlen;have hsp:=World.cell?_spot (hcell 0 (by omega));simpa[Addr.add] using hsp
    have each:∀i,i<n→∃q:Int×Int×Nat,∃m so sn sc tp tn tc,as'=none∧W.cell? ⟨ab,ao+i*4,none⟩=some (.int .i64 q.1)∧W.cell? ⟨ab,ao+i*4+1,none⟩=some (.bool m)∧W.cell? ⟨ab,ao+i*4+2,none⟩=some (.slice so sn sc)∧W.cell? ⟨ab,ao+i*4+3,none⟩=some (.slice tp tn tc)∧(∃L,FD W (.agg #[.bool m,.slice so sn sc,.slice tp tn tc]) L q.2.1 q.2.2):=by
      intro i hi;obtain⟨cs',h1,h2⟩:=hx i (by omega);rw[shareCells] at h1;obtain⟨_,hlen,hcell⟩:=World.cells?_some h1;obtain⟨c0,c1,c2,c3,rfl⟩:=list4_of hlen;obtain⟨v,m,so,sn,sc,tp,tn,tc,L,X,D,rfl,rfl,rfl,rfl,hF⟩:=open_share h2;obtain rfl:=hs (by omega);rw[addr_add] at hcell;refine⟨(v,X,D),m,so,sn,sc,tp,tn,tc,rfl,?_,?_,?_,?_,⟨L,hF⟩⟩;·have:=hcell 0 (by omega);rw[addr_add] at this;exact this
      ·have:=hcell 1 (by omega);rw[addr_add] at this;exact this
      ·have:=hcell 2 (by omega);rw[addr_add] at this;exact this
      ·have:=hcell 3 (by omega);rw[addr_add] at this;exact this
    obtain⟨f,hfa⟩:=Go.Deep.choose_lt each;refine⟨_,_,_,(List.range n).map f,rfl,by simp,fun i v X D hi=>?_⟩;have hin:i<n:=by have:=(List.getElem?_eq_some_iff.1 hi).1;simpa using this
    have hq:f i=(v,X,D):=by rw[List.getElem?_map,List.getElem?_range hin] at hi;simpa using hi
    obtain⟨m,so,sn,sc,tp,tn,tc,rfl,h1,h2,h3,h4,h5⟩:=hfa i hin;rw[hq] at h1 h5;exact⟨ab,ao,m,so,sn,sc,tp,tn,tc,rfl,h1,h2,h3,h4,h5⟩
end Go.Proofs.YtammmemfkpcpcaaGreat
namespace Go.Proofs.YtammmemfkpcpcaaGreat
open Go.RowKit Go.MagM
set_option maxRecDepth 100000 in set_option maxHeartbeats 4000000 in theorem stThere_any{mb pb pc:Nat}{ta:Option Addr}{tc:Nat}{P:List (Int×Int)}{S:List TriM}(t:Nat)(T:TriM)(w:World)(h:MeshR w mb pb pc ta tc P S)(hT:S[t]?=some T):Calls Tryz.prog 146 #[.pointer (some ⟨mb,0,none⟩),.int .i64 (t:Int)] w fun e w'=>e= .returned (.bool true)∧w=w':=by obtain⟨b0,b1,-,-⟩:=h.box.open2;have hlt:=(List.getElem?_eq_some_iff.1 hT).1;have h0:decide ((0:Int)≤(t:Int))=true:=decide_eq_true (by omega);have hd:decide ((t:Int)<(S.length:Int))=true:=decide_eq_true (by omega);clear h hT;go_enter Tryz.func146,Tryz.ntmps146;go_wp2;go_ret;exact⟨rfl,rfl⟩
theorem cell3n{w:World}{b o:Nat}{T:TriM}(h:At9i w b o T){i:Nat}(hi:i<3):w.cell? ⟨b,o+3+i,none⟩=some (.int .i64 (T.n i)):=by
  obtain rfl|rfl|rfl:i=0∨i=1∨i=2:=by omega
  ·exact h.c3
  ·exact h.c4
  ·exact h.c5
set_option maxRecDepth 100000 in set_option maxHeartbeats 4000000 in theorem stInner_any{mb pb pc:Nat}{ta:Option Addr}{tc:Nat}{P:List (Int×Int)}{S:List TriM}(o i:Nat)(T:TriM)(sa sb:Int)(sf:Bool)(w:World)(h:MeshR w mb pb pc ta tc P S)(hT:S[o]?=some T)(hi:i<3):Calls Tryz.prog 147 #[.pointer (some ⟨mb,0,none⟩),.agg #[.int .i64 sa,.int .i64 sb,.int .i64 (o:Int),.int .i64 (i:Int),.bool sf]] w fun e w'=>e= .returned (.int .i64 (T.n i))∧Below w.heap.size w w':=by
  obtain⟨w1,hw1,pp,hb1,hs1⟩:=new_box w _ rfl [.int .i64 sa,.int .i64 sb,.int .i64 (o:Int),.int .i64 (i:Int),.bool sf] 161;have h1:=h.below hb1;have HTH:=Lib.hid (stThere_any o T w1 h1 hT);have hlt:=(List.getElem?_eq_some_iff.1 hT).1;obtain⟨len,hlen⟩:∃len,S.length=len:=⟨_,rfl⟩;have b1:=h1.box.c 1 _ rfl;obtain⟨tb,hta,-,h9⟩:=h1.tris.get hT;subst hta;have nc:=cell3n h9 hi;rw[hlen] at b1 hlt;have i1:(0:Int)≤(o:Int):=by omega
  have i2:(o:Int)<(len:Int):=by omega
  have i3:(0:Int)≤(i:Int):=by omega
  have i4:(i:Int)<3:=by omega
  have d1:decide ((i:Int)<0)=false:=decide_eq_false (by omega);have d2:decide ((i:Int)>2)=false:=decide_eq_false (by omega);have d3:decide ((2:Int)<(i:Int))=false:=decide_eq_false (by omega);have p2:=pp.c 2 _ rfl;have p3:=pp.c 3 _ rfl;have HB1:=Lib.hid hb1;have B1:=Lib.hid b1;have NC:=Lib.hid nc;clear h h1 hT hlen hb1 hs1 h9 pp b1 nc;go_enter Tryz.func147,Tryz.ntmps147;go_wp2_with fail;refine HTH.out.mono ?_;rintro e w2 ⟨rfl,rfl⟩;have b1:=B1.out;have nc:=NC.out;go_wp2;go_quiet (fail);go_wp2;go_ret;exact⟨rfl,HB1.out.drewN' _⟩
end Go.Proofs.YtammmemfkpcpcaaGreat
namespace Go.Proofs.YtammmemfkpcpcaaGreat
open Go.RowKit Go.MagM Go.Shelf
theorem intCells_app(l k:List Int):intCells (l++k)=intCells l++intCells k:=by unfold intCells;rw[List.map_append]
theorem intCells_get{l:List Int}{j:Nat}{z:Int}(h:l[j]?=some z):(intCells l)[j]?=some (.int .i64 z):=by unfold intCells;rw[List.getElem?_map,h];rfl
end Go.Proofs.YtammmemfkpcpcaaGreat
namespace Go.MagM
open Go.RowKit
def lookN(l:List SideM)(a:Int):Nat→Option SideM|0=>none|n+1=>match l[n]? with|some s=>if a=s.a then some s else lookN l a n|none=>lookN l a n
def firstA(l:List SideM):Int:=match l[0]? with|some s=>s.a|none=>0
def leastN(l:List SideM):Nat→Int|0=>firstA l|n+1=>match l[n]? with|some s=>min (leastN l n) s.a|none=>leastN l n
def chainN(L:Int→Option SideM):Nat→Int→List SideM|0,_=>[]|n+1,a=>match L a with|some s=>s::chainN L n s.b|none=>[]
def inRowM(l:List SideM):List SideM:=chainN (fun a=>lookN l a l.length) l.length (leastN l l.length)
theorem chainN_le(L:Int→Option SideM):∀n a,(chainN L n a).length≤n|0,_=>Nat.le_refl _|n+1,a=>by rw[chainN];cases L a with|none=>simp|some s=>have:=chainN_le L n s.b;simp;exact this
theorem lookN_mem{l:List SideM}{a:Int}{s:SideM}:∀{n},lookN l a n=some s→s∈l∧s.a=a|0,h=>by cases h|n+1,h=>by rw[lookN] at h;cases e:l[n]? with|none=>rw[e] at h;exact lookN_mem h|some x=>
      rw[e] at h;simp only[] at h;split at h
      · rename_i ha;cases h;exact⟨List.mem_of_getElem? e,ha.symm⟩
      ·exact lookN_mem h
theorem leastN_le{l:List SideM}:∀n,(∀s∈l.take n,leastN l n≤s.a)∧(l≠[]→∃s∈l,s.a=leastN l n)
  |0=>⟨by simp,fun h=>by cases l with|nil=>exact absurd rfl h|cons s r=>exact⟨s,by simp,rfl⟩⟩|n+1=>by
    obtain⟨h1,h2⟩:=leastN_le (l:=l) n;rw[leastN,List.take_add_one];cases hs:l[n]? with
    |none=>
      simp only[Option.toList,List.append_nil];exact⟨h1,h2⟩|some s=>
      simp only[Option.toList];refine⟨fun x hx=>?_,fun hl=>?_⟩
      · rcases List.mem_append.1 hx with hx|hx;·have:=h1 x hx;omega
        ·simp only[List.mem_singleton] at hx;subst hx;omega
      · obtain⟨y,hy,e⟩:=h2 hl;rcases Int.le_total (leastN l n) s.a with g|g;·exact⟨y,hy,by omega⟩
        ·exact⟨s,List.mem_of_getElem? hs,by omega⟩
theorem inRow_nil:inRowM []=[]:=rfl
end Go.MagM
namespace Go.Proofs.YtammmemfkpcpcaaGreat
open Go.RowKit Go.MagM Go.Maps
structure SideMap(w:World)(b:Nat)(L:Int→Option SideM):Prop where at_:∃m,MapB Tryz.prog 3 w b m∧(∀e∈m,∃s:SideM,e=(.int .i64 s.a,.agg s.cells.toArray)∧L s.a=some s)∧(∀a s,L a=some s→s.a=a∧(Value.int .i64 a,Value.agg s.cells.toArray)∈m)
theorem SideMap.lt{w:World}{b:Nat}{L:Int→Option SideM}(h:SideMap w b L):b<w.heap.size:=by obtain⟨m,h1,-⟩:=h.at_;exact h1.lt
theorem SideMap.block{w w':World}{b:Nat}{L:Int→Option SideM}(h:SideMap w b L)(e:w'.heap[b]?=w.heap[b]?):SideMap w' b L:=by obtain⟨m,h1,h2⟩:=h.at_;exact⟨m,h1.block e,h2⟩
theorem SideMap.below{w w':World}{b:Nat}{L:Int→Option SideM}(h:SideMap w b L)(hw:Below w.heap.size w w'):SideMap w' b L:=h.block (hw.block b h.lt)
theorem SideMap.look{w:World}{b:Nat}{L:Int→Option SideM}(h:SideMap w b L){a:Int}(ha:-1000000≤a∧a≤1000000):(Instr.lookup 223 (.map (some b)) (.int .i64 a) true).run Tryz.prog w= .ok (match L a with|some s=> .tuple #[.agg s.cells.toArray,.bool true]|none=> .tuple #[.agg #[.int .i64 0,.int .i64 0,.int .i64 0,.int .i64 0,.bool false],.bool false]) w:=by
  obtain⟨m,h1,h2,h3⟩:=h.at_;rcases h1.look keyedI Tryz.underlying223 (keyI_of ha) (z:= .agg #[.int .i64 0,.int .i64 0,.int .i64 0,.int .i64 0,.bool false]) (by kernel_rfl) true with⟨v,hv,hr⟩|⟨hno,hr⟩
  · obtain⟨s,e,hs⟩:=h2 _ hv;simp only[Prod.mk.injEq,Value.int.injEq,true_and] at e;obtain⟨rfl,rfl⟩:=e;rw[hs];exact hr
  ·cases hL:L a with|none=>exact hr|some s=>exact absurd (h3 a s hL).2 (hno _)
theorem SideMap.store{w:World}{b:Nat}{L:Int→Option SideM}(h:SideMap w b L)(s:SideM)(ha:-1000000≤s.a∧s.a≤1000000):∃w',(Instr.mapUpdate 223 (.map (some b)) (.int .i64 s.a) (.agg s.cells.toArray)).run Tryz.prog w= .ok () w'∧Turned w w' b∧SideMap w' b (fun a=>if a=s.a then some s else L a):=by
  obtain⟨m,h1,h2,h3⟩:=h.at_;obtain⟨w',m',k1,k2,k3,k4⟩:=h1.store keyedI Tryz.underlying223 (keyI_of ha) (.agg s.cells.toArray);refine⟨w',k1,k2,⟨m',k3,?_,?_⟩⟩
  · intro e he;have hin:e=(.int .i64 s.a,.agg s.cells.toArray)∨(e∈m∧e.1≠ .int .i64 s.a):=by
      rcases k4 with⟨hno,rfl⟩|⟨j,u,hj,rfl⟩
      · rcases List.mem_append.1 he with he|he
        · refine .inr ⟨he,fun e1=>hno e.2 ?_⟩;rw[←e1];exact he
        ·simp at he;exact .inl he
      · obtain⟨i,hi⟩:=List.mem_iff_getElem?.1 he;rw[List.getElem?_set] at hi;split at hi
        · split at hi;·cases hi;exact .inl rfl
          ·cases hi
        · rename_i hij;refine .inr ⟨List.mem_of_getElem? hi,fun e1=>?_⟩;have a1:(m.map (·.1))[i]?=some (.int .i64 s.a):=by rw[List.getElem?_map,hi,←e1];rfl
          have a2:(m.map (·.1))[j]?=some (.int .i64 s.a):=by rw[List.getElem?_map,hj];rfl
          exact hij ((List.getElem?_inj (by have:=(List.getElem?_eq_some_iff.1 a1).1;exact this) h1.once).1 (a1.trans a2.symm)).symm
    rcases hin with rfl|⟨hm,hne⟩;·exact⟨s,rfl,by simp⟩
    · obtain⟨x,rfl,hx⟩:=h2 e hm;refine⟨x,rfl,?_⟩;rw[if_neg (fun e1=>hne (by rw[e1]))];exact hx
  · intro a x hx;split at hx
    · rename_i e1;cases hx;refine⟨e1.symm,?_⟩;rw[e1];rcases k4 with⟨-,rfl⟩|⟨j,u,hj,rfl⟩;·simp
      ·exact List.mem_of_getElem? (i:=j) (by rw[List.getElem?_set,if_pos rfl,if_pos (List.getElem?_eq_some_iff.1 hj).1])
    · rename_i hne;obtain⟨e1,hm⟩:=h3 a x hx;refine⟨e1,?_⟩;rcases k4 with⟨-,rfl⟩|⟨j,u,hj,rfl⟩;·exact List.mem_append_left _ hm
      · obtain⟨i,hi⟩:=List.mem_iff_getElem?.1 hm;refine List.mem_of_getElem? (i:=i) ?_;rw[List.getElem?_set,if_neg ?_];·exact hi
        · rintro rfl;rw[hj] at hi;simp only[Option.some.injEq,Prod.mk.injEq,Value.int.injEq,true_and] at hi;exact hne hi.1.symm
set_option maxRecDepth 100000 in set_option maxHeartbeats 8000000 in theorem cvInRow_any(base:Nat)(v:Value)(l:List SideM)(w:World)(hrow:RowN w base 161 5 v l.length (sideCells l))(hl:l.length≤1000000)(hab:∀s∈l,(-1000000≤s.a∧s.a≤1000000)∧(-1000000≤s.b∧s.b≤1000000)):Calls Tryz.prog 142 #[v] w fun e w'=>∃v',e= .returned v'∧RowN w' w.heap.size 161 5 v' (inRowM l).length (sideCells (inRowM l))∧Below w.heap.size w w':=by
  obtain⟨len,hlen⟩:∃len,l.length=len:=⟨_,rfl⟩;rw[hlen] at hrow hl;rcases hrow.2 with⟨rfl,h0⟩|⟨g,cap,cur,rfl,-⟩
  · subst h0;obtain rfl:l=[]:=List.eq_nil_of_length_eq_zero hlen;clear hrow hl hab;go_enter Tryz.func142,Tryz.ntmps142;go_wp2;go_ret;exact⟨_,rfl,by rw[inRow_nil];exact RowN.nil _ _ _ _,Below.refl _ _⟩
  by_cases hz:len=0
  · subst hz;obtain rfl:l=[]:=List.eq_nil_of_length_eq_zero hlen;clear hrow hl hab;go_enter Tryz.func142,Tryz.ntmps142;go_wp2;go_ret;exact⟨_,rfl,by rw[inRow_nil];exact RowN.nil _ _ _ _,Below.refl _ _⟩
  · obtain⟨i0,hi,hz0,hz1,hz2⟩:=info_parts infoSide;have HI:=Lib.hid hi;have HZ0:=Lib.hid hz0;have HZ1:=Lib.hid hz1;have HZ2:=Lib.hid hz2;clear hi hz0 hz1 hz2;obtain⟨s0,hs0⟩:∃s,l[0]?=some s:=⟨_,List.getElem?_eq_getElem (by omega)⟩;have hget:∀(W:World),Below w.heap.size w W→∀(n:Nat)(s:SideM),l[n]?=some s→W.cell? ⟨g,n*5,none⟩=some (.int .i64 s.a)∧W.cell? ⟨g,n*5+1,none⟩=some (.int .i64 s.b)∧W.cell? ⟨g,n*5+2,none⟩=some (.int .i64 s.u)∧W.cell? ⟨g,n*5+3,none⟩=some (.int .i64 s.i)∧W.cell? ⟨g,n*5+4,none⟩=some (.bool s.f):=by intro W hW n s hs;have hr:=hrow.below hW;exact⟨hr.cells rfl _ _ (by rw[show n*5=n*5+0 by omega,sideCells_get l n 0 s hs (by omega)];rfl),hr.cells rfl _ _ (by rw[sideCells_get l n 1 s hs (by omega)];rfl),hr.cells rfl _ _ (by rw[sideCells_get l n 2 s hs (by omega)];rfl),hr.cells rfl _ _ (by rw[sideCells_get l n 3 s hs (by omega)];rfl),hr.cells rfl _ _ (by rw[sideCells_get l n 4 s hs (by omega)];rfl)⟩
    obtain⟨a0,ha0⟩:∃a,s0.a=a:=⟨_,rfl⟩;have d0:=(hget w (Below.refl _ _) 0 s0 hs0).1;rw[Nat.zero_mul,ha0] at d0;have e0:((len:Int)==0)=false:=by simp;omega
    have e00:(len==0)=false:=by simp;omega
    obtain⟨hrun,hmap⟩:=run_new_map (P:=Tryz.prog) w 223 3;obtain⟨w1,hw1⟩:∃w1,w.alloc (.map #[] 0)=w1:=⟨_,rfl⟩;rw[hw1] at hrun hmap;have hb1:Below w.heap.size w w1:=by rw[←hw1];exact(Below.refl _ _).alloc (Nat.le_refl _) _
    have hs1:w1.heap.size=w.heap.size+1:=by rw[←hw1];simp
    have d1:=(hget w1 hb1 0 s0 hs0).1;rw[Nat.zero_mul,ha0] at d1;have HGET:=Lib.hid hget;have HLEN:=Lib.hid hlen;have HAB:=Lib.hid hab;have HS1:=Lib.hid hs1;have HB1:=Lib.hid hb1;have HM1:=Lib.hid (show SideMap w1 w.heap.size (fun a=>lookN l a 0) from⟨[],hmap,by simp,fun a s h=>by cases h⟩);have HA0:=Lib.hid (show leastN l 0=a0 by unfold leastN firstA;rw[hs0];exact ha0);have j0:(0:Int)<(len:Int):=by omega
    obtain⟨R,hR⟩:∃R,inRowM l=R:=⟨_,rfl⟩;rw[hR];have HRR:=Lib.hid hR;clear hrow hget hlen hab hs1 hb1 hmap hs0 ha0 hw1 hR;go_enter Tryz.func142,Tryz.ntmps142;go_wp2;clear d0 d1 hrun j0;go_loopw [4,20] (fun av iv wr=>∃(n:Nat),n≤len∧av= .int .i64 (leastN l n)∧iv= .int .i64 (n:Int)∧SideMap wr w.heap.size (fun a=>lookN l a n)∧Below w.heap.size w wr) (fun _ iv _=>len-(intOf iv).toNat);case atStart=>exact⟨0,Nat.zero_le _,by rw[HA0.out],rfl,HM1.out,HB1.out⟩
    case round=>
      obtain⟨n,hn,rfl,rfl,hm,hb⟩:=hrel;by_cases hlt:n<len
      · have e1:decide ((n:Int)<(len:Int))=true:=decide_eq_true (by omega);have e2:decide (n<len)=true:=decide_eq_true hlt;obtain⟨s,hs⟩:∃s,l[n]?=some s:=⟨_,List.getElem?_eq_getElem (by have:=HLEN.out;omega)⟩;obtain⟨sa,sb,su,si,sf⟩:=s;obtain⟨c0,c1,c2,c3,c4⟩:=HGET.out wr hb n _ hs;simp only[] at c0 c1 c2 c3 c4;have i1:(0:Int)≤(n:Int):=by omega
        have i2:(n:Int)<(len:Int):=by omega
        obtain⟨w3,hw3,ps,hb3,hs3⟩:=new_box wr _ rfl [.int .i64 sa,.int .i64 sb,.int .i64 su,.int .i64 si,.bool sf] 161;have hsl:=List.mem_of_getElem? hs;obtain⟨w4,hrun,htu,hm4⟩:=(hm.below hb3).store ⟨sa,sb,su,si,sf⟩ (HAB.out _ hsl).1;have hml:=hm.lt;have ps4:=ps.turned htu (by omega);have p0:=ps4.c 0 _ rfl;have q0:=ps.c 0 _ rfl;have q1:=ps.c 1 _ rfl;have q2:=ps.c 2 _ rfl;have q3:=ps.c 3 _ rfl;have q4:=ps.c 4 _ rfl;have hb4:Below w.heap.size w w4:=(hb.trans (hb3.mono hb.size)).trans (htu.below (Nat.le_refl _));have HM4:=Lib.hid (show SideMap w4 w.heap.size (fun a=>lookN l a (n+1)) by
          have e:(fun a=>lookN l a (n+1))=(fun a=>if a=sa then some ⟨sa,sb,su,si,sf⟩ else lookN l a n):=by funext a;rw[lookN,hs]
          rw[e];exact hm4);have HB4:=Lib.hid hb4;have HLE:=Lib.hid (show leastN l (n+1)=min (leastN l n) sa by rw[leastN,hs]);obtain⟨le,hle⟩:∃z,leastN l n=z:=⟨_,rfl⟩;have HLL:=Lib.hid hle;rw[hle];have hrun':Sem.run Tryz.prog (Instr.mapUpdate 223 (.map (some w.heap.size)) (.int .i64 sa) (.agg #[.int .i64 sa,.int .i64 sb,.int .i64 su,.int .i64 si,.bool sf])) w3= .ok () w4:=hrun;clear hm hb hs hsl hrun htu hm4 hb3 hs3 ps ps4 hb4 hml hle;go_wp2;refine⟨⟨n+1,by omega,?_,by go_num,HM4.out,HB4.out⟩,by simp[intOf];omega⟩;first|(rw[HLE.out,HLL.out];done)|(rw[HLE.out,HLL.out];congr 1;by_cases hc:sa<le;·(rw[if_pos hc];omega);·(rw[if_neg hc];omega))
      · obtain rfl:n=len:=by omega
        have e1:decide ((n:Int)<(n:Int))=false:=decide_eq_false (by omega);obtain⟨L,hL⟩:∃L,(fun a=>lookN l a n)=L:=⟨_,rfl⟩;rw[hL] at hm;have HLM:=Lib.hid (show∀a s,L a=some s→s∈l from fun a s h=>by rw[←hL] at h;exact(lookN_mem h).1);have HR:=Lib.hid (show inRowM l=chainN L n (leastN l n) by unfold inRowM;rw[HLEN.out,hL]);obtain⟨le,hle⟩:∃z,leastN l n=z:=⟨_,rfl⟩;have HLR:=Lib.hid (show-1000000≤le∧le≤1000000 by obtain⟨s,hs,e⟩:=(leastN_le (l:=l) n).2 (by rintro rfl;exact hz HLEN.out.symm);rw[←hle,←e];exact(HAB.out s hs).1);rw[hle] at HR;rw[hle];have HM:=Lib.hid hm;have HB:=Lib.hid hb;rw[HRR.out] at HR;clear hm hb hL hle hlt hn;go_wp2;go_loopw [4,7,35] (fun av ov iv wr=>∃(k:Nat) (a:Int) (vv:Value) (done:List SideM),k≤n∧av= .int .i64 a∧vv=ov∧iv= .int .i64 (k:Int)∧RowN wr (w.heap.size+1) 161 5 vv done.length (sideCells done)∧done.length≤k∧R=done++chainN L (n-k) a∧(-1000000≤a∧a≤1000000)∧SideMap wr w.heap.size L∧Below w.heap.size w wr) (fun _ _ iv _=>n-(intOf iv).toNat);case atStart=>exact⟨0,le,_,[],Nat.zero_le _,rfl,rfl,rfl,RowN.nil _ _ _ _,Nat.zero_le _,by rw[HR.out];rfl,HLR.out,HM.out,HB.out⟩
        case round=>
          obtain⟨k,a,vv,done,hk,rfl,rfl,rfl,hrow,hdk,hR,har,hm,hb⟩:=hrel;have hfin:∀(wf:World),RowN wf (w.heap.size+1) 161 5 vv done.length (sideCells done)→R=done→RowN wf w.heap.size 161 5 vv R.length (sideCells R):=by
            intro wf hr e;rw[e];refine⟨hr.1,?_⟩;rcases hr.2 with h1|⟨g1,cap1,cur1,h1,h2,h3⟩;·exact .inl h1
            ·exact .inr ⟨g1,cap1,cur1,h1,by omega,h3⟩
          have HFIN:=Lib.hid hfin;clear hfin;by_cases hlt:k<n
          · have e2:decide ((k:Int)<(n:Int))=true:=decide_eq_true (by omega);have e3:decide (k<n)=true:=decide_eq_true hlt;have hlk:=hm.look har;cases hLa:L a with
            |none=>
              rw[hLa] at hlk;simp only[] at hlk;have HE:=Lib.hid (show R=done by rw[hR,show n-k=(n-k-1)+1 by omega,chainN,hLa];simp);have HROW:=Lib.hid hrow;have HBB:=Lib.hid hb;clear hrow hR hm hb hLa;go_wp2;go_ret;exact⟨_,rfl,HFIN.out _ (HROW.out.below ((Below.refl _ _).alloc (Nat.le_refl _) _)) HE.out,HBB.out.alloc HBB.out.size _⟩|some s=>
              rw[hLa] at hlk;simp only[] at hlk;have hsl:=HLM.out a s hLa;have hsb:=(HAB.out s hsl).2;have hRn:R=(done++[s])++chainN L (n-(k+1)) s.b:=by rw[hR,show n-k=(n-(k+1))+1 by omega,chainN,hLa];simp
              obtain⟨sa,sb,su,si,sf⟩:=s;have hlk':(Instr.lookup 223 (.map (some w.heap.size)) (.int .i64 a) true).run Tryz.prog wr= .ok (.tuple #[.agg #[.int .i64 sa,.int .i64 sb,.int .i64 su,.int .i64 si,.bool sf],.bool true]) wr:=hlk;obtain⟨w3,hw3,ps,hb3,hs3⟩:=new_box wr _ rfl [.int .i64 sa,.int .i64 sb,.int .i64 su,.int .i64 si,.bool sf] 161;obtain⟨w4,hw4,pz,hb4,hs4⟩:=new_box w3 _ rfl [.int .i64 sa,.int .i64 sb,.int .i64 su,.int .i64 si,.bool sf] 161;have hrow4:=(hrow.below hb3).below hb4;have hbs:=hb.size;obtain⟨v1,w5,hrun,rown,hgrow,-⟩:=run_append_row (P:=Tryz.prog) w4 (w.heap.size+1) 97 97 161 i0 _ 5 40 (by kernel_rfl) HI.out HZ0.out HZ1.out HZ2.out rfl (by intro u hu;simp[Value.cells] at hu;rcases hu with rfl|rfl|rfl|rfl|rfl<;>first|exact NoWord.int _|exact NoWord.bool _) _ done.length _ hrow4 ⟨w3.heap.size,0,none⟩ 1 1 [.int .i64 sa,.int .i64 sb,.int .i64 su,.int .i64 si,.bool sf] (by omega) rfl pz.news (by intro u hu;simp at hu;rcases hu with rfl|rfl|rfl|rfl|rfl<;>rfl) (by intro u hu;simp at hu;rcases hu with rfl|rfl|rfl|rfl|rfl<;>first|exact NoWord.int _|exact NoWord.bool _) (by unfold maxLen;omega) (by omega) (by have:=HS1.out;have:=HM.out.lt;have:=hm.lt;omega);have hne:∀g',vv.ownBlock=some g'→w.heap.size+1≤g'∧g'<wr.heap.size:=fun g' hg=>hrow.lt g' hg;have ps4:=ps.below hb4;have ps5:=ps4.grown hgrow (fun e=>by have:=hne _ e;omega) ps4.lt;have hm4:=(hm.below hb3).below hb4;have hm5:=hm4.block (hgrow.block _ hm4.lt (fun e=>by have:=hne _ e.symm;omega));have hb45:Below w.heap.size w w4:=(hb.trans (hb3.mono hb.size)).trans (hb4.mono (by omega));have hb5:Below w.heap.size w w5:=hb45.grown hgrow (by omega) (fun g' hg=>by have:=hne g' hg;omega);have FIN:=Lib.hid (And.intro rown (And.intro hm5 hb5));have HRN:=Lib.hid hRn;have HSB:=Lib.hid hsb;have HDK:=Lib.hid hdk;have z0:=ps.c 0 _ rfl;have z1:=ps.c 1 _ rfl;have z2:=ps.c 2 _ rfl;have z3:=ps.c 3 _ rfl;have z4:=ps.c 4 _ rfl;have y1:=ps5.c 1 _ rfl;clear hrow hdk hR har hm hb hLa hlk hsl hsb hRn ps hb3 hs3 pz hb4 hs4 hrow4 hbs rown hgrow hne ps4 ps5 hm4 hm5 hb45 hb5;go_wp2_with (refine wpList_append_row rfl _ _ 97 rfl rfl rfl hrun ?_);have FI:=FIN.out;refine⟨⟨k+1,sb,_,done++[⟨sa,sb,su,si,sf⟩],by omega,rfl,rfl,by go_num,?_,?_,HRN.out,HSB.out,FI.2.1,FI.2.2⟩,by simp[intOf];omega⟩;· rw[List.length_append,sideCells_app];exact FI.1
              ·rw[List.length_append];have:=HDK.out;simp;omega
          · obtain rfl:k=n:=by omega
            have e2:decide ((k:Int)<(k:Int))=false:=decide_eq_false (by omega);have HE:=Lib.hid (show R=done by rw[hR,Nat.sub_self];simp[chainN]);have HROW:=Lib.hid hrow;have HBB:=Lib.hid hb;clear hrow hR hm hb;go_wp2;go_ret;exact⟨_,rfl,HFIN.out _ HROW.out HE.out,HBB.out⟩
end Go.Proofs.YtammmemfkpcpcaaGreat
namespace Go.MagM
open Go.RowKit
def SmallV(S:List TriM):Prop:=∀(t:Nat)(T:TriM),S[t]?=some T→∀k,-1000000≤T.v k∧T.v k≤1000000
theorem sideS_small{S:List TriM}(h:SmallV S){t i:Nat}{T:TriM}(hT:S[t]?=some T):(-1000000≤(sideS S T i).a∧(sideS S T i).a≤1000000)∧(-1000000≤(sideS S T i).b∧(sideS S T i).b≤1000000):=by unfold sideS edgeV;match i with|0=>exact⟨h t T hT 1,h t T hT 2⟩|1=>exact⟨h t T hT 2,h t T hT 0⟩|_+2=>exact⟨h t T hT 0,h t T hT 1⟩
theorem rimI_small{S:List TriM}(h:SmallV S){ts:List Int}{t:Nat}{T:TriM}(hT:S[t]?=some T):∀n,∀s∈rimI S ts T n,(-1000000≤s.a∧s.a≤1000000)∧(-1000000≤s.b∧s.b≤1000000)
  |0,s,hs=>by cases hs|n+1,s,hs=>by
    rw[rimI] at hs;rcases List.mem_append.1 hs with hs|hs;·exact rimI_small h hT n s hs
    · split at hs;·cases hs
      ·simp only[List.mem_singleton] at hs;subst hs;exact sideS_small h hT
theorem rimP_small{S:List TriM}(h:SmallV S){ts:List Int}:∀n,∀s∈rimP S ts n,(-1000000≤s.a∧s.a≤1000000)∧(-1000000≤s.b∧s.b≤1000000)
  |0,s,hs=>by cases hs|n+1,s,hs=>by
    rw[rimP] at hs;rcases List.mem_append.1 hs with hs|hs;·exact rimP_small h n s hs
    ·cases hz:ts[n]? with
      |none=>rw[hz] at hs;cases hs|some z=>
        rw[hz] at hs;simp only[] at hs;unfold rimT at hs;split at hs
        · rename_i T hT;exact rimI_small h hT 3 s hs
        ·cases hs
end Go.MagM
namespace Go.Proofs.YtammmemfkpcpcaaGreat
open Go.RowKit Go.MagM Go.Maps
set_option maxRecDepth 100000 in set_option maxHeartbeats 8000000 in theorem cvRim_any{lo mb pb pc hb b:Nat}{ta:Option Addr}{tc:Nat}{P:List (Int×Int)}{S:List TriM}{v:Value}{ts:List Int}(w:World)(h:MeshR w mb pb pc ta tc P S)(hH:HoleR w lo hb mb b v ts)(hN:Nexts S)(hin:InS S ts)(hmx:S.length<300000)(hsm:SmallV S):Calls Tryz.prog 103 #[.pointer (some ⟨hb,0,none⟩)] w fun e w'=>∃v',e= .returned v'∧RowN w' w.heap.size 161 5 v' (inRowM (rimP S ts ts.length)).length (sideCells (inRowM (rimP S ts ts.length)))∧Below w.heap.size w w':=by
  obtain⟨i0,hi,hz0,hz1,hz2⟩:=info_parts infoSide;have HI:=Lib.hid hi;have HZ0:=Lib.hid hz0;have HZ1:=Lib.hid hz1;have HZ2:=Lib.hid hz2;clear hi hz0 hz1 hz2;obtain⟨R,hR⟩:∃R,inRowM (rimP S ts ts.length)=R:=⟨_,rfl⟩;rw[hR];obtain⟨ul,hul⟩:∃ul,ts.length=ul:=⟨_,rfl⟩;obtain⟨ao,c,rfl⟩:∃ao c,v= .slice ao ul c:=by
    rcases hH.row.2 with⟨h1,h2⟩|⟨g,cap,cur,h1,-⟩;·exact⟨_,_,by rw[h1,←hul,h2]⟩
    ·exact⟨_,_,by rw[←hul];exact h1⟩
  have hle:=hin.le;rw[hul] at hle hR;obtain⟨len,hlen⟩:∃len,S.length=len:=⟨_,rfl⟩;rw[hlen] at hle hmx;have hub:ul<300000:=by omega
  have b1:=hH.box.c1;have H:=Lib.hid h;have HH:=Lib.hid hH;have HN:=Lib.hid hN;have HIN:=Lib.hid hin;have HMX:=Lib.hid hmx;have HSM:=Lib.hid hsm;have HR:=Lib.hid hR;have HUL:=Lib.hid hul;have HLEN:=Lib.hid hlen;have HLE:=Lib.hid hle;clear h hH hN hin hmx hsm hR hul hlen hle;go_enter Tryz.func103,Tryz.ntmps103;go_wp2;clear b1;go_loopw [3,13] (fun pv iv wr=>∃(n:Nat) (vv:Value),n≤ul∧vv=pv∧iv= .int .i64 (n:Int)∧RowN wr w.heap.size 161 5 vv (rimP S ts n).length (sideCells (rimP S ts n))∧Below w.heap.size w wr) (fun _ iv _=>ul-(intOf iv).toNat);case atStart=>exact⟨0,_,Nat.zero_le _,rfl,rfl,RowN.nil _ _ _ _,Below.refl _ _⟩
  case round=>
    obtain⟨n,vv,hn,rfl,rfl,hrow,hbw⟩:=hrel;by_cases hlt:n<ul
    · have e1:decide ((n:Int)<(ul:Int))=true:=decide_eq_true (by omega);have e2:decide (n<ul)=true:=decide_eq_true hlt;obtain⟨g,rfl⟩:∃g,ao=some ⟨g,0,none⟩:=by
        rcases HH.out.row.2 with⟨h1,h2⟩|⟨g,cap,cur,h1,-⟩;·have:=HUL.out;omega
        ·exact⟨g,by injection h1⟩
      obtain⟨z,hz⟩:∃z,ts[n]?=some z:=⟨_,List.getElem?_eq_getElem (by have:=HUL.out;omega)⟩;obtain⟨t,rfl,htl⟩:=HIN.out.is z (List.mem_of_getElem? hz);obtain⟨T,hT⟩:∃T,S[t]?=some T:=⟨_,List.getElem?_eq_getElem htl⟩;have hhr:=HH.out.below hbw;have hcell:wr.cell? ⟨g,n,none⟩=some (.int .i64 (t:Int)):=hhr.row.cells rfl n _ (by unfold intCells;rw[List.getElem?_map,hz];rfl);have hr_0:=H.out.below hbw;have hsh:=hr_0.short.2;rw[HLEN.out] at htl hsh;obtain⟨tb,hta,-,h9⟩:=hr_0.tris.get hT;subst hta;have d0:=hhr.box.c0;have d1:=hr_0.box.c1;rw[HLEN.out] at d1;have c3:=h9.c3;have c4:=h9.c4;have c5:=h9.c5;have i1:(0:Int)≤(n:Int):=by omega
      have i2:(n:Int)<(ul:Int):=by omega
      have i3:(0:Int)≤(t:Int):=by omega
      have i4:(t:Int)<(len:Int):=by omega
      have HROW:=Lib.hid hrow;have HBW:=Lib.hid hbw;have HZ:=Lib.hid hz;have HT:=Lib.hid hT;have HRP:=Lib.hid (rimP_on hz hT);clear hrow hbw hz hT hhr hr_0 h9 htl hsh;as_aux_lemma=>
        go_wp2;clear hcell d0 d1 c3 c4 c5;go_loopw [3,28] (fun pv iv w2=>∃(i:Nat) (vi:Value),i≤3∧vi=pv∧iv= .int .i64 (i:Int)∧RowN w2 w.heap.size 161 5 vi (rimP S ts n++rimI S ts T i).length (sideCells (rimP S ts n++rimI S ts T i))∧Below w.heap.size w w2) (fun _ iv _=>3-(intOf iv).toNat);case atStart=>exact⟨0,_,Nat.zero_le _,rfl,rfl,by simp only[rimI,List.append_nil];exact HROW.out,HBW.out⟩
        case round=>
          obtain⟨i,vi,hi,rfl,rfl,hrow2,hb2⟩:=hrel;by_cases hi3:i<3
          · obtain⟨u,hu,hul⟩:=HN.out t T HT.out i hi3;obtain⟨U,hU⟩:∃U,S[u]?=some U:=⟨_,List.getElem?_eq_getElem hul⟩;have ir:∀W:World,(Instr.index 39 (.agg #[.int .i64 T.n0,.int .i64 T.n1,.int .i64 T.n2]) (.int .i64 (i:Int))).run Tryz.prog W= .ok (.int .i64 (u:Int)) W:=fun W=>by
              rw[index3v_run ⟨T.n0,T.n1,T.n2,0,0,0,false,false,false⟩ i hi3 W,←hu];obtain rfl|rfl|rfl:i=0∨i=1∨i=2:=by omega
              all_goals rfl
            have hur:-1000000≤(u:Int)∧(u:Int)≤1000000:=by have:=HMX.out;have:=HLEN.out;omega
            have e3:decide ((i:Int)<3)=true:=decide_eq_true (by omega);have hhr:=HH.out.below hb2;have HHO:=Lib.hid (cvHolds_any hb b ts (u:Int) wr hhr.box.c2 hhr.map hur);have HU:=Lib.hid hU;have HUU:=Lib.hid hu;have HROW2:=Lib.hid hrow2;have HB2:=Lib.hid hb2;clear hrow2 hb2 hhr hur hU hu hul;as_aux_lemma=>
              go_wp2_with fail;refine HHO.out.mono ?_;rintro e w3 ⟨rfl,hb3⟩;have HROW3:=Lib.hid (HROW2.out.below hb3);have HB3:=Lib.hid (HB2.out.trans (hb3.mono HB2.out.size));clear hb3;by_cases hm:(u:Int)∈ts
              · have e4:decide ((u:Int)∈ts)=true:=decide_eq_true hm;rw[e4];have HRI:=Lib.hid (show rimI S ts T (i+1)=rimI S ts T i by rw[rimI,HUU.out,if_pos hm,List.append_nil]);clear hm e4;go_wp2;exact⟨⟨i+1,_,by omega,rfl,by go_num,by rw[HRI.out];exact HROW3.out,HB3.out⟩,by simp[intOf];omega⟩
              · have e4:decide ((u:Int)∈ts)=false:=decide_eq_false hm;rw[e4];have HRI:=Lib.hid (show rimI S ts T (i+1)=rimI S ts T i++[sideS S T i] by rw[rimI,HUU.out,if_neg hm]);clear hm e4;as_aux_lemma=>
                  go_wp2_with fail;refine(cvSide_any t u i hi3 T U HUU.out w3 (H.out.below HB3.out) (HH.out.below HB3.out).box.c0 HT.out HU.out).mono ?_;rintro e w4 ⟨rfl,hb4⟩;rw[sideV_is S T i HUU.out HU.out];obtain⟨⟨sa,sb,su,si,sf⟩,hs⟩:∃s,sideS S T i=s:=⟨_,rfl⟩;rw[hs] at HRI⊢;simp only[SideM.cells];have hrow4:=HROW3.out.below hb4;have hb4':=HB3.out.trans (hb4.mono HB3.out.size);obtain⟨w5,hw5,pz,hb5,hs5⟩:=new_box w4 _ rfl [.int .i64 sa,.int .i64 sb,.int .i64 su,.int .i64 si,.bool sf] 161;have hrow5:=hrow4.below hb5;have hlb:(rimP S ts n++rimI S ts T i).length≤1000000:=by
                    rw[List.length_append];have:=rimP_le S ts n;have:=rimI_le S ts T i;have:=HMX.out;have:=HLE.out;omega
                  have hbs:=hb4'.size;obtain⟨v1,w6,hrun,rown,hgrow,-⟩:=run_append_row (P:=Tryz.prog) w5 w.heap.size 97 97 161 i0 _ 5 40 (by kernel_rfl) HI.out HZ0.out HZ1.out HZ2.out rfl (by intro u hu;simp[Value.cells] at hu;rcases hu with rfl|rfl|rfl|rfl|rfl<;>first|exact NoWord.int _|exact NoWord.bool _) _ (rimP S ts n++rimI S ts T i).length _ hrow5 ⟨w4.heap.size,0,none⟩ 1 1 [.int .i64 sa,.int .i64 sb,.int .i64 su,.int .i64 si,.bool sf] (by omega) rfl pz.news (by intro u hu;simp at hu;rcases hu with rfl|rfl|rfl|rfl|rfl<;>rfl) (by intro u hu;simp at hu;rcases hu with rfl|rfl|rfl|rfl|rfl<;>first|exact NoWord.int _|exact NoWord.bool _) (by unfold maxLen;omega) (by omega) (by omega);have hb6:Below w.heap.size w w6:=(hb4'.trans (hb5.mono hbs)).grown hgrow (by omega) (fun g' hg=>(hrow5.lt g' hg).1);have FIN:=Lib.hid (And.intro rown hb6);clear hb4 hrow4 hb4' pz hb5 hs5 hrow5 hlb hbs rown hgrow hb6 hs;as_aux_lemma=>go_wp2_with (refine wpList_append_row rfl _ _ 97 rfl rfl rfl hrun ?_);refine⟨⟨i+1,_,by omega,rfl,by go_num,?_,FIN.out.2⟩,by simp[intOf];omega⟩;rw[HRI.out,←List.append_assoc,List.length_append,sideCells_app];exact FIN.out.1
          · obtain rfl:i=3:=by omega
            have HROW2:=Lib.hid hrow2;have HB2:=Lib.hid hb2;clear hrow2 hb2;go_wp2;exact⟨⟨n+1,_,by omega,rfl,by go_num,by rw[HRP.out];exact HROW2.out,HB2.out⟩,by simp[intOf];omega⟩
    · obtain rfl:n=ul:=by omega
      have e1:decide ((n:Int)<(n:Int))=false:=decide_eq_false (by omega);have HBW:=Lib.hid hbw;have HCR:=Lib.hid (cvInRow_any w.heap.size vv (rimP S ts n) wr hrow (by have:=rimP_le S ts n;have:=HMX.out;have:=HLE.out;omega) (fun s hs=>rimP_small HSM.out n s hs));clear hrow hbw;go_wp2_with fail;refine HCR.out.mono ?_;rintro e w3 ⟨v3,rfl,hrow3,hb3⟩;rw[HR.out] at hrow3;have FIN:=Lib.hid (And.intro hrow3 (HBW.out.trans (hb3.mono HBW.out.size)));have HSZ:=Lib.hid HBW.out.size;clear hrow3 hb3;go_wp2;go_ret;refine⟨_,rfl,⟨FIN.out.1.1,?_⟩,FIN.out.2⟩;rcases FIN.out.1.2 with h1|⟨g1,cap1,cur1,h1,h2,h3⟩;·exact .inl h1
      ·exact .inr ⟨g1,cap1,cur1,h1,by have:=HSZ.out;omega,h3⟩
def valS(s:SideM):Value:= .agg #[.int .i64 s.a,.int .i64 s.b,.int .i64 s.u,.int .i64 s.i,.bool s.f]
def cutQ2(P:List (Int×Int))(S:List TriM)(p:Int×Int)(s:SideM):Bool:=s.f&&confT P S p s.u
set_option maxRecDepth 100000 in set_option maxHeartbeats 8000000 in theorem cvDig1_any{mb pb pc xm xp:Nat}{ta:Option Addr}{tc:Nat}{P:List (Int×Int)}{S:List TriM}(s:SideM)(p0 p1:Int)(w:World)(h:MeshR w mb pb pc ta tc P S)(hP:InPs P)(hp:InP p0∧InP p1)(hm:w.cell? ⟨xm,0,none⟩=some (.pointer (some ⟨mb,0,none⟩)))(hx:Box w xp [.int .i64 p0,.int .i64 p1])(hs:∃u:Nat,s.u=(u:Int)∧u<S.length):Calls Tryz.prog 105 #[valS s,.pointer (some ⟨xm,0,none⟩),.pointer (some ⟨xp,0,none⟩)] w fun e w'=>e= .returned (.bool (cutQ2 P S (p0,p1) s))∧Below w.heap.size w w':=by
  obtain⟨sa,sb,su,si,sf⟩:=s;obtain⟨u,hu,hul⟩:=hs;simp only[] at hu;subst hu;obtain⟨U,hU⟩:∃U,S[u]?=some U:=⟨_,List.getElem?_eq_getElem hul⟩;have hcf:confT P S (p0,p1) (u:Int)=conflictM P U (p0,p1):=by unfold confT;rw[Int.toNat_natCast,hU]
  unfold valS cutQ2;simp only[];rw[hcf];obtain⟨w1,hw1,ps,hb1,hs1⟩:=new_box w _ rfl [.int .i64 sa,.int .i64 sb,.int .i64 (u:Int),.int .i64 si,.bool sf] 161;obtain⟨q,hq⟩:∃q,conflictM P U (p0,p1)=q:=⟨_,rfl⟩;have HC:=Lib.hid (cvConflict_any u U p0 p1 w1 (h.below hb1) hP hp hU);rw[hq] at HC;rw[hq];have z2:=ps.c 2 _ rfl;have z4:=ps.c 4 _ rfl;have m1:=(hb1.cell (World.block_lt_of_cell? _ _ hm)).trans hm;have x1:=hx.below hb1;have x10:=x1.c 0 _ rfl;have x11:=x1.c 1 _ rfl;have HB1:=Lib.hid hb1;clear h hP hp hm hx hul hU hcf hq ps hb1 hs1 x1;cases sf
  · go_enter Tryz.func105,Tryz.ntmps105;go_wp2;go_ret;exact⟨rfl,HB1.out⟩
  · go_enter Tryz.func105,Tryz.ntmps105;go_wp2_with fail;refine HC.out.mono ?_;rintro e w2 ⟨rfl,hb2⟩;have HB2:=Lib.hid (HB1.out.trans (hb2.mono HB1.out.size));clear hb2;go_wp2;go_ret;exact⟨rfl,HB2.out⟩
set_option maxRecDepth 100000 in set_option maxHeartbeats 8000000 in theorem cvIndexF_any{base xm xp:Nat}(l:List SideM)(v:Value)(q:SideM→Bool)(w:World)(hrow:RowN w base 161 5 v l.length (sideCells l))(hl:l.length≤1000000)(hf:∀W:World,Below w.heap.size w W→∀s∈l,Calls Tryz.prog 105 #[valS s,.pointer (some ⟨xm,0,none⟩),.pointer (some ⟨xp,0,none⟩)] W fun e w'=>e= .returned (.bool (q s))∧Below W.heap.size W w'):Calls Tryz.prog 143 #[v,.func (.func 105) #[] #[.pointer (some ⟨xm,0,none⟩),.pointer (some ⟨xp,0,none⟩)]] w fun e w'=>∃r:Int,e= .returned (.int .i64 r)∧decide (0≤r)=l.any q∧Below w.heap.size w w':=by
  obtain⟨len,hlen⟩:∃len,l.length=len:=⟨_,rfl⟩;rw[hlen] at hrow hl;obtain⟨ao,c,rfl⟩:∃ao c,v= .slice ao len c:=by
    rcases hrow.2 with⟨h1,h2⟩|⟨g,cap,cur,h1,-⟩;·exact⟨_,_,by rw[h1,h2]⟩
    ·exact⟨_,_,h1⟩
  have HROW:=Lib.hid hrow;have HLEN:=Lib.hid hlen;have HF:=Lib.hid hf;clear hrow hlen hf;go_enter Tryz.func143,Tryz.ntmps143;go_wp2;go_loopw [8] (fun iv wr=>∃n:Nat,n≤len∧iv= .int .i64 (n:Int)∧(∀s∈l.take n,q s=false)∧Below w.heap.size w wr) (fun iv _=>len-(intOf iv).toNat);case atStart=>exact⟨0,Nat.zero_le _,rfl,by simp,Below.refl _ _⟩
  case round=>
    obtain⟨n,hn,rfl,hno,hb⟩:=hrel;by_cases hlt:n<len
    · have e1:decide ((n:Int)<(len:Int))=true:=decide_eq_true (by omega);have e2:decide (n<len)=true:=decide_eq_true hlt;obtain⟨g,rfl⟩:∃g,ao=some ⟨g,0,none⟩:=by
        rcases HROW.out.2 with⟨h1,h2⟩|⟨g,cap,cur,h1,-⟩;·omega
        ·exact⟨g,by injection h1⟩
      obtain⟨s,hs⟩:∃s,l[n]?=some s:=⟨_,List.getElem?_eq_getElem (by have:=HLEN.out;omega)⟩;have hsl:=List.mem_of_getElem? hs;have hr:=HROW.out.below hb;have c0:wr.cell? ⟨g,n*5,none⟩=some (.int .i64 s.a):=hr.cells rfl _ _ (by rw[show n*5=n*5+0 by omega,sideCells_get l n 0 s hs (by omega)];rfl);have c1:wr.cell? ⟨g,n*5+1,none⟩=some (.int .i64 s.b):=hr.cells rfl _ _ (by rw[sideCells_get l n 1 s hs (by omega)];rfl);have c2:wr.cell? ⟨g,n*5+2,none⟩=some (.int .i64 s.u):=hr.cells rfl _ _ (by rw[sideCells_get l n 2 s hs (by omega)];rfl);have c3:wr.cell? ⟨g,n*5+3,none⟩=some (.int .i64 s.i):=hr.cells rfl _ _ (by rw[sideCells_get l n 3 s hs (by omega)];rfl);have c4:wr.cell? ⟨g,n*5+4,none⟩=some (.bool s.f):=hr.cells rfl _ _ (by rw[sideCells_get l n 4 s hs (by omega)];rfl);have HC:=Lib.hid (HF.out wr hb s hsl);have i1:(0:Int)≤(n:Int):=by omega
      have i2:(n:Int)<(len:Int):=by omega
      obtain⟨qs,hqs⟩:∃z,q s=z:=⟨_,rfl⟩;rw[hqs] at HC;obtain⟨sa,sb,su,si,sf⟩:=s;unfold valS at HC;simp only[] at c0 c1 c2 c3 c4 HC;have HNO:=Lib.hid hno;have HB:=Lib.hid hb;have HS:=Lib.hid hs;have HQ:=Lib.hid hqs;have HSL:=Lib.hid hsl;clear hno hb hr hs hqs hsl;go_wp2_with fail;refine HC.out.mono ?_;rintro e w2 ⟨rfl,hb2⟩;have HB2:=Lib.hid (HB.out.trans (hb2.mono HB.out.size));clear hb2 c0 c1 c2 c3 c4;cases qs
      · go_wp2;refine⟨⟨n+1,by omega,by go_num,fun s' hs'=>?_,HB2.out⟩,by simp[intOf];omega⟩;rw[List.take_add_one,HS.out] at hs';rcases List.mem_append.1 hs' with h1|h1;·exact HNO.out s' h1
        ·simp at h1;subst h1;exact HQ.out
      · go_wp2;go_ret;refine⟨_,rfl,?_,HB2.out⟩;rw[List.any_eq_true.2 ⟨_,HSL.out,HQ.out⟩];exact decide_eq_true (by omega)
    · obtain rfl:n=len:=by omega
      have e1:decide ((n:Int)<(n:Int))=false:=decide_eq_false (by omega);have HNO:=Lib.hid hno;have HB:=Lib.hid hb;clear hno hb;go_wp2;go_ret;refine⟨_,rfl,?_,HB.out⟩;have h1:=HNO.out;rw[←HLEN.out,List.take_length] at h1;rw[List.any_eq_false.2 (fun s hs=>by rw[h1 s hs];simp)];decide
set_option maxRecDepth 100000 in set_option maxHeartbeats 8000000 in theorem cvContains_any{base xm xp:Nat}(l:List SideM)(v:Value)(q:SideM→Bool)(w:World)(hrow:RowN w base 161 5 v l.length (sideCells l))(hl:l.length≤1000000)(hf:∀W:World,Below w.heap.size w W→∀s∈l,Calls Tryz.prog 105 #[valS s,.pointer (some ⟨xm,0,none⟩),.pointer (some ⟨xp,0,none⟩)] W fun e w'=>e= .returned (.bool (q s))∧Below W.heap.size W w'):Calls Tryz.prog 104 #[v,.func (.func 105) #[] #[.pointer (some ⟨xm,0,none⟩),.pointer (some ⟨xp,0,none⟩)]] w fun e w'=>e= .returned (.bool (l.any q))∧Below w.heap.size w w':=by have HC:=Lib.hid (cvIndexF_any l v q w hrow hl hf);obtain⟨r0,hr0⟩:∃z,l.any q=z:=⟨_,rfl⟩;rw[hr0] at HC⊢;clear hrow hl hf hr0;go_enter Tryz.func104,Tryz.ntmps104;go_wp2_with fail;refine HC.out.mono ?_;rintro e w2 ⟨r,rfl,hr,hb2⟩;have HB2:=Lib.hid hb2;clear hb2;go_wp2;go_ret;exact⟨rfl,HB2.out⟩
theorem cvSet_size(g:Nat):∀(xs:List Value)(i:Nat)(w:World),(setAll w g i xs).heap.size=w.heap.size|[],_,_=>rfl|x::xs,i,w=>by rw[setAll,cvSet_size g xs];simp
theorem takeM_grows(P:List (Int×Int))(T:TriM)(t:Int)(ts:List Int):ts.length≤(takeM P T t ts).length:=by
  unfold takeM;split;·rw[List.length_append];omega
  ·exact Nat.le_refl _
theorem step_grows(P:List (Int×Int))(S:List TriM)(p:Int×Int)(T:TriM)(i:Nat)(ts:List Int):ts.length≤(stepM P S p T i ts).length:=by
  unfold stepM;split
  · unfold takeS;split;·exact takeM_grows _ _ _ _
    ·exact Nat.le_refl _
  ·exact Nat.le_refl _
theorem inner_grows(P:List (Int×Int))(S:List TriM)(p:Int×Int)(T:TriM)(ts:List Int):∀n,ts.length≤(innerM P S p T n ts).length|0=>Nat.le_refl _|n+1=>Nat.le_trans (inner_grows P S p T ts n) (step_grows _ _ _ _ _ _)
set_option maxRecDepth 100000 in set_option maxHeartbeats 16000000 in theorem cvSpread_any{w0:World}{mb pb pc hb b:Nat}{ta:Option Addr}{tc:Nat}{P:List (Int×Int)}{S:List TriM}{v:Value}{ts:List Int}(p0 p1:Int)(w:World)(h:MeshR w0 mb pb pc ta tc P S)(hP:InPs P)(hp:InP p0∧InP p1)(hN:Nexts S)(hB:Below w0.heap.size w0 w)(hH:HoleR w w0.heap.size hb mb b v ts)(hin:InS S ts)(hmx:S.length<1000000):Calls Tryz.prog 102 #[.pointer (some ⟨hb,0,none⟩),.agg #[.int .i64 p0,.int .i64 p1]] w fun e w'=>e= .returned (.tuple #[])∧(∃v',HoleR w' w0.heap.size hb mb b v' (spreadM P S (p0,p1) S.length 0 ts))∧Below w0.heap.size w0 w':=by
  obtain⟨w1,hw1,pp,hb1,hs1⟩:=new_box w _ rfl [.int .i64 p0,.int .i64 p1] 24;have H:=Lib.hid h;have HP:=Lib.hid hP;have HPP:=Lib.hid hp;have HN:=Lib.hid hN;have HMX:=Lib.hid hmx;have HB1:=Lib.hid (hB.trans (hb1.mono hB.size));have HH1:=Lib.hid (hH.below hb1);have HIN:=Lib.hid hin;have PP1:=Lib.hid pp;have HAP:=Lib.hid (show w.heap.size<w1.heap.size∧w.heap.size≠hb∧w.heap.size≠b∧v.ownBlock≠some w.heap.size from⟨by omega,by have:=hH.box.lt;omega,by have:=hH.map.lt;omega,fun e=>by have:=(hH.row.lt _ e).2;omega⟩);obtain⟨R,hR⟩:∃R,spreadM P S (p0,p1) S.length 0 ts=R:=⟨_,rfl⟩;rw[hR];have HR:=Lib.hid hR;obtain⟨len,hlen⟩:∃len,S.length=len:=⟨_,rfl⟩;have HLEN:=Lib.hid hlen;rw[hlen] at HR;clear h hP hp hN hB hH hin hmx hb1 hs1 pp hR hlen;go_enter Tryz.func102,Tryz.ntmps102;go_wp2;clear hw1;go_loopw [4] (fun iv wr=>∃(n:Nat) (us:List Int) (vv:Value),iv= .int .i64 (n:Int)∧n≤us.length∧HoleR wr w0.heap.size hb mb b vv us∧InS S us∧spreadM P S (p0,p1) (len-n) n us=R∧KeepH w1 wr hb b v vv∧Below w0.heap.size w0 wr) (fun iv _=>len-(intOf iv).toNat);case atStart=>exact⟨0,ts,v,rfl,Nat.zero_le _,HH1.out,HIN.out,HR.out,KeepH.of_below (Below.refl _ _),HB1.out⟩
  case round=>
    obtain⟨n,us,vv,rfl,hn,hh,hin,hr,hk,hbw⟩:=hrel;obtain⟨ul,hul⟩:∃ul,us.length=ul:=⟨_,rfl⟩;obtain⟨ao,c,rfl⟩:∃ao c,vv= .slice ao ul c:=by
      rcases hh.row.2 with⟨h1,h2⟩|⟨g,cap,cur,h1,-⟩;·exact⟨_,_,by rw[h1,←hul,h2]⟩
      ·exact⟨_,_,by rw[←hul];exact h1⟩
    have hle:=hin.le;rw[HLEN.out] at hle;have b1:=hh.box.c1;by_cases hlt:n<ul
    · have e1:decide ((n:Int)<(ul:Int))=true:=decide_eq_true (by omega);have e2:decide (n<ul)=true:=decide_eq_true hlt;obtain⟨g,rfl⟩:∃g,ao=some ⟨g,0,none⟩:=by
        rcases hh.row.2 with⟨h1,h2⟩|⟨g,cap,cur,h1,-⟩;·omega
        ·exact⟨g,by injection h1⟩
      obtain⟨z,hz⟩:∃z,us[n]?=some z:=⟨_,List.getElem?_eq_getElem (by omega)⟩;obtain⟨t,rfl,htl⟩:=hin.is z (List.mem_of_getElem? hz);obtain⟨T,hT⟩:∃T,S[t]?=some T:=⟨_,List.getElem?_eq_getElem htl⟩;have hcell:wr.cell? ⟨g,n,none⟩=some (.int .i64 (t:Int)):=hh.row.cells rfl n _ (by unfold intCells;rw[List.getElem?_map,hz];rfl);have hsh:=H.out.short.2;rw[HLEN.out] at htl hsh;obtain⟨v0,v1,v2,n0,n1,n2,f0,f1,f2⟩:=T;have SS:∀w',Below wr.heap.size wr w'→∃tb,ta=some ⟨tb,0,none⟩∧w'.cell? ⟨hb,0,none⟩=some (.pointer (some ⟨mb,0,none⟩))∧w'.cell? ⟨hb,1,none⟩=some (.slice (some ⟨g,0,none⟩) ul c)∧w'.cell? ⟨mb,1,none⟩=some (.slice (some ⟨tb,0,none⟩) len tc)∧w'.cell? ⟨g,n,none⟩=some (.int .i64 (t:Int))∧w'.cell? ⟨tb,t*9,none⟩=some (.int .i64 v0)∧w'.cell? ⟨tb,t*9+1,none⟩=some (.int .i64 v1)∧w'.cell? ⟨tb,t*9+2,none⟩=some (.int .i64 v2)∧w'.cell? ⟨tb,t*9+3,none⟩=some (.int .i64 n0)∧w'.cell? ⟨tb,t*9+4,none⟩=some (.int .i64 n1)∧w'.cell? ⟨tb,t*9+5,none⟩=some (.int .i64 n2)∧w'.cell? ⟨tb,t*9+6,none⟩=some (.bool f0)∧w'.cell? ⟨tb,t*9+7,none⟩=some (.bool f1)∧w'.cell? ⟨tb,t*9+8,none⟩=some (.bool f2):=by
        intro w' hw;have q1:=H.out.below (hbw.trans (hw.mono hbw.size));have k1:=q1.box.c1;rw[HLEN.out] at k1;obtain⟨tb,hta,-,k2,k3,k4,k5,k6,k7,k8,k9,k10⟩:=q1.tris.get hT;subst hta;exact⟨tb,rfl,(hh.box.below hw).c0,(hh.box.below hw).c1,k1,(hw.cell (World.block_lt_of_cell? _ _ hcell)).trans hcell,k2,k3,k4,k5,k6,k7,k8,k9,k10⟩
      obtain⟨tb,hta,-⟩:=SS wr (Below.refl _ _);subst hta;have SS:=fun(w':World) (hw:Below wr.heap.size wr w')=>(by obtain⟨tb',e,hs⟩:=SS w' hw;cases e;exact hs:w'.cell? ⟨hb,0,none⟩=some (.pointer (some ⟨mb,0,none⟩))∧w'.cell? ⟨hb,1,none⟩=some (.slice (some ⟨g,0,none⟩) ul c)∧w'.cell? ⟨mb,1,none⟩=some (.slice (some ⟨tb,0,none⟩) len tc)∧w'.cell? ⟨g,n,none⟩=some (.int .i64 (t:Int))∧w'.cell? ⟨tb,t*9,none⟩=some (.int .i64 v0)∧w'.cell? ⟨tb,t*9+1,none⟩=some (.int .i64 v1)∧w'.cell? ⟨tb,t*9+2,none⟩=some (.int .i64 v2)∧w'.cell? ⟨tb,t*9+3,none⟩=some (.int .i64 n0)∧w'.cell? ⟨tb,t*9+4,none⟩=some (.int .i64 n1)∧w'.cell? ⟨tb,t*9+5,none⟩=some (.int .i64 n2)∧w'.cell? ⟨tb,t*9+6,none⟩=some (.bool f0)∧w'.cell? ⟨tb,t*9+7,none⟩=some (.bool f1)∧w'.cell? ⟨tb,t*9+8,none⟩=some (.bool f2));have i1:(0:Int)≤(n:Int):=by omega
      have i2:(n:Int)<(ul:Int):=by omega
      have i3:(0:Int)≤(t:Int):=by omega
      have i4:(t:Int)<(len:Int):=by omega
      have HHH:=Lib.hid hh;have HI:=Lib.hid hin;have HRR:=Lib.hid hr;have HK:=Lib.hid hk;have HBW:=Lib.hid hbw;have HZ:=Lib.hid hz;have HT:=Lib.hid hT;have HUL:=Lib.hid hul;have SSH:=Lib.hid SS;clear hh hin hr hk hbw hz hT hul hcell SS;go_wp2;obtain⟨wd,hwd⟩:∃wd,wr.drew=wd:=⟨_,rfl⟩;have hBd:Below wr.heap.size wr wd:=by rw[←hwd];exact(Below.refl _ _).drew'
      have hsd:wr.heap.size=wd.heap.size:=by rw[←hwd];rfl
      obtain⟨w4,hw4,pz,hb4,hs4⟩:=new_box wd _ rfl [.int .i64 0,.int .i64 0,.int .i64 0,.int .i64 0,.int .i64 0,.int .i64 0,.bool false,.bool false,.bool false] 42;obtain⟨w5,hw5⟩:∃w5,setAll w4 wd.heap.size 0 [.int .i64 v0,.int .i64 v1,.int .i64 v2,.int .i64 n0,.int .i64 n1,.int .i64 n2,.bool f0,.bool f1,.bool f2]=w5:=⟨_,rfl⟩;have pt5:Box w5 wd.heap.size [.int .i64 v0,.int .i64 v1,.int .i64 v2,.int .i64 n0,.int .i64 n1,.int .i64 n2,.bool f0,.bool f1,.bool f2]:=by rw[←hw5];exact pz.setAll _ rfl
      have hB4:Below wr.heap.size wr w4:=hBd.trans (hb4.mono (by omega));have hB5:Below wr.heap.size wr w5:=by rw[←hw5];exact below_setAll hB4 (by omega) _
      have SB:=SSH.out;have hs5:w5.heap.size=wd.heap.size+1:=by rw[←hw5];exact(cvSet_size _ _ 0 _).trans hs4
      have PT5:=Lib.hid pt5;have HB5:=Lib.hid hB5;have HSD:=Lib.hid (And.intro hsd hs5);clear hsd hs4 hs5 pt5;refine wp_region_noPanic ?_;refine wp_region_held_drew (S:=fun w'=>w'.cell? ⟨hb,0,none⟩=some (.pointer (some ⟨mb,0,none⟩))∧w'.cell? ⟨hb,1,none⟩=some (.slice (some ⟨g,0,none⟩) ul c)∧w'.cell? ⟨mb,1,none⟩=some (.slice (some ⟨tb,0,none⟩) len tc)∧w'.cell? ⟨g,n,none⟩=some (.int .i64 (t:Int))∧w'.cell? ⟨tb,t*9,none⟩=some (.int .i64 v0)∧w'.cell? ⟨tb,t*9+1,none⟩=some (.int .i64 v1)∧w'.cell? ⟨tb,t*9+2,none⟩=some (.int .i64 v2)∧w'.cell? ⟨tb,t*9+3,none⟩=some (.int .i64 n0)∧w'.cell? ⟨tb,t*9+4,none⟩=some (.int .i64 n1)∧w'.cell? ⟨tb,t*9+5,none⟩=some (.int .i64 n2)∧w'.cell? ⟨tb,t*9+6,none⟩=some (.bool f0)∧w'.cell? ⟨tb,t*9+7,none⟩=some (.bool f1)∧w'.cell? ⟨tb,t*9+8,none⟩=some (.bool f2)) (by kernel_rfl) (SB _ (Below.refl _ _).drew') (fun hHeld=>?_);rw[hwd] at hHeld⊢;refine rU 0 _ _ ?_;refine rU 1 _ _ ?_;refine rU 2 _ _ ?_;refine rU 3 _ _ ?_;refine rU 4 _ _ ?_;refine rU 5 _ _ ?_;refine rU 6 _ _ ?_;refine rU 7 _ _ ?_;refine rU 8 _ _ ?_;refine rU 9 _ _ ?_;refine rU 10 _ _ ?_;refine rU 11 _ _ ?_;refine rU 12 _ _ ?_;refine rU 13 _ _ ?_;refine rU 14 _ _ ?_;refine rU 15 _ _ ?_;refine rC 16 _ (fun K hK=>?_);go_simp;try rw[hw4]
      refine hK.out _ _ (SB _ hB4) (fun hHeld=>?_);clear hK K;try simp only[Act.put,sA,sZ,sS]
      refine rC 17 _ (fun K hK=>?_);refine wanted_go rfl ?_;refine wp_store_box _ _ _ rfl [.int .i64 v0,.int .i64 v1,.int .i64 v2,.int .i64 n0,.int .i64 n1,.int .i64 n2,.bool f0,.bool f1,.bool f2] pz rfl rfl (by kernel_rfl) (by simp) rfl hw5 ?_;refine hK.out _ _ (SB _ hB5) (fun hHeld=>?_);clear hK K;try simp only[Act.put,sA,sZ,sS]
      refine wpAnyH_done (by kernel_rfl) ?_ _;refine NoPanic.normal ?_;have d3:=PT5.out.c 3 _ rfl;have d4:=PT5.out.c 4 _ rfl;have d5:=PT5.out.c 5 _ rfl;clear SB hw4 hw5 pz hB4 hB5 hBd hwd hb4 i1 i2 i3 i4;obtain⟨T,hTT⟩:∃T:TriM,T=⟨v0,v1,v2,n0,n1,n2,f0,f1,f2⟩:=⟨_,rfl⟩;have HTT:=Lib.hid hTT;rw[←hTT] at HT;clear hTT;go_wp2;clear d3 d4 d5;go_loopw [35] (fun iv wr=>∃(i:Nat) (vi:Value),i≤3∧iv= .int .i64 (i:Int)∧HoleR wr w0.heap.size hb mb b vi (innerM P S (p0,p1) T i us)∧KeepH w5 wr hb b (.slice (some ⟨g,0,none⟩) ul c) vi∧Below w0.heap.size w0 wr) (fun iv _=>3-(intOf iv).toNat);case atStart=>exact⟨0,_,Nat.zero_le _,rfl,HHH.out.below HB5.out,KeepH.of_below (Below.refl _ _),HBW.out.trans (HB5.out.mono HBW.out.size)⟩
      case round=>
        obtain⟨i,vi,hi,rfl,hhi,hki,hbi⟩:=hrel;have HHI:=Lib.hid hhi;have HKI:=Lib.hid hki;have HBI:=Lib.hid hbi;clear hhi hki hbi;by_cases hi3:i<3
        · have PTI:=Lib.hid (show Box wr wd.heap.size [.int .i64 v0,.int .i64 v1,.int .i64 v2,.int .i64 n0,.int .i64 n1,.int .i64 n2,.bool f0,.bool f1,.bool f2] from by
            have hl:=HHH.out.box.lt;have hm:=HHH.out.map.lt;have hs:=HSD.out;exact _root_.Go.Proofs.YtammmemfkpcpcaaGreat.Box.keepH PT5.out HKI.out (by omega) (by omega) (by omega) (fun e=>by have:=(HHH.out.row.lt _ e).2;omega));have PPI:=Lib.hid (show Box wr w.heap.size [.int .i64 p0,.int .i64 p1] from _root_.Go.Proofs.YtammmemfkpcpcaaGreat.Box.keepH PP1.out ((HK.out.trans (KeepH.of_below HB5.out)).trans HKI.out) HAP.out.1 HAP.out.2.1 HAP.out.2.2.1 HAP.out.2.2.2);obtain rfl|rfl|rfl:i=0∨i=1∨i=2:=by omega
          · obtain⟨u,hu,hul⟩:=HN.out t T HT.out 0 (by omega);obtain⟨U,hU⟩:∃U,S[u]?=some U:=⟨_,List.getElem?_eq_getElem hul⟩;rw[HTT.out] at hu;obtain rfl:n0=(u:Int):=hu;have hnu:T.n 0=(u:Int):=by rw[HTT.out];rfl
            have hfi:T.f 0=f0:=by rw[HTT.out];rfl
            have hct:confT P S (p0,p1) (u:Int)=conflictM P U (p0,p1):=by unfold confT;rw[Int.toNat_natCast,hU]
            have htk:takeS P S (u:Int) (innerM P S (p0,p1) T 0 us)=takeM P U (u:Int) (innerM P S (p0,p1) T 0 us):=by unfold takeS;rw[Int.toNat_natCast,hU]
            have hur:-1000000≤(u:Int)∧(u:Int)≤1000000:=by have:=HMX.out;omega
            have HSTEP:=Lib.hid (show innerM P S (p0,p1) T (0+1) us=if f0=false∧(u:Int)∉innerM P S (p0,p1) T 0 us∧conflictM P U (p0,p1)=true then takeM P U (u:Int) (innerM P S (p0,p1) T 0 us) else innerM P S (p0,p1) T 0 us by show stepM P S (p0,p1) T 0 (innerM P S (p0,p1) T 0 us)=_;unfold stepM;rw[hnu,hfi,hct,htk]);have HU:=Lib.hid hU;obtain⟨q1,hq1⟩:∃q,decide ((u:Int)∈innerM P S (p0,p1) T 0 us)=q:=⟨_,rfl⟩;obtain⟨q2,hq2⟩:∃q,conflictM P U (p0,p1)=q:=⟨_,rfl⟩;have HHO:=Lib.hid (show∀W:World,Below wr.heap.size wr W→Calls Tryz.prog 140 #[.pointer (some ⟨hb,0,none⟩),.int .i64 (u:Int)] W fun e w'=>e= .returned (.bool q1)∧Below W.heap.size W w' from fun W hW=>by have:=cvHolds_any hb b _ (u:Int) W (HHI.out.below hW).box.c2 (HHI.out.below hW).map hur;rw[hq1] at this;exact this);have HCO:=Lib.hid (show∀W:World,Below wr.heap.size wr W→Calls Tryz.prog 15 #[.pointer (some ⟨mb,0,none⟩),.int .i64 (u:Int),.agg #[.int .i64 p0,.int .i64 p1]] W fun e w'=>e= .returned (.bool q2)∧Below W.heap.size W w' from fun W hW=>by have:=cvConflict_any u U p0 p1 W (H.out.below (HBI.out.trans (hW.mono HBI.out.size))) HP.out HPP.out HU.out;rw[hq2] at this;exact this);have HQ1:=Lib.hid hq1;have HQ2:=Lib.hid hq2;have K8:=Lib.hid (show∀w':World,Below wr.heap.size wr w'→w'.cell? ⟨hb,0,none⟩=some (.pointer (some ⟨mb,0,none⟩))∧w'.cell? ⟨w.heap.size,0,none⟩=some (.int .i64 p0)∧w'.cell? ⟨w.heap.size,1,none⟩=some (.int .i64 p1)∧w'.cell? ⟨wd.heap.size,6,none⟩=some (.bool f0) from fun w' hw=>⟨(HHI.out.below hw).box.c0,(PPI.out.below hw).c 0 _ rfl,(PPI.out.below hw).c 1 _ rfl,(PTI.out.below hw).c 6 _ rfl⟩);have ir:∀w:World,(Instr.index 39 (.agg #[.int .i64 (u:Int),.int .i64 n1,.int .i64 n2]) (.int .i64 0)).run Tryz.prog w= .ok (.int .i64 (u:Int)) w:=fun w=>index3v_run ⟨(u:Int),n1,n2,0,0,0,false,false,false⟩ 0 (by omega) w;clear hul hU hnu hfi hct htk hur hq1 hq2;cases f0
            · cases q1
              · have HNI:=Lib.hid (of_decide_eq_false HQ1.out);cases q2
                · go_wp2;refine wp_region_noPanic ?_;refine wp_region_held_drew (S:=fun w'=>w'.cell? ⟨hb,0,none⟩=some (.pointer (some ⟨mb,0,none⟩))∧w'.cell? ⟨w.heap.size,0,none⟩=some (.int .i64 p0)∧w'.cell? ⟨w.heap.size,1,none⟩=some (.int .i64 p1)∧w'.cell? ⟨wd.heap.size,6,none⟩=some (.bool false)) (by kernel_rfl) (K8.out _ (Below.refl _ _).drew') (fun hHeld=>?_);refine rU 0 _ _ ?_;refine rU 1 _ _ ?_;refine rU 2 _ _ ?_;refine rU 3 _ _ ?_;refine rU 4 _ _ ?_;refine rU 5 _ _ ?_;refine rU 6 _ _ ?_;refine rU 7 _ _ ?_;refine rC 8 _ (fun K hK=>?_);go_simp;refine(HHO.out _ (Below.refl _ _).drew').mono ?_;rintro e w7 ⟨rfl,hb7⟩;have HB7:=Lib.hid ((Below.refl wr.heap.size wr).drew'.trans hb7);clear hb7;refine hK.out _ _ (K8.out _ HB7.out) (fun hHeld=>?_);clear hK K;try simp only[Act.put,sA,sZ,sS]
                  refine rU 9 _ _ ?_;refine rU 10 _ _ ?_;refine rU 11 _ _ ?_;refine rU 12 _ _ ?_;refine rU 13 _ _ ?_;refine rU 14 _ _ ?_;refine rU 15 _ _ ?_;refine rU 16 _ _ ?_;refine rU 17 _ _ ?_;refine rC 18 _ (fun K hK=>?_);go_simp;refine(HCO.out _ HB7.out).mono ?_;rintro e w8 ⟨rfl,hb8⟩;have HB8:=Lib.hid (HB7.out.trans (hb8.mono HB7.out.size));clear hb8;refine hK.out _ _ (K8.out _ HB8.out) (fun hHeld=>?_);clear hK K;try simp only[Act.put,sA,sZ,sS]
                  refine rU 19 _ _ ?_;refine wpAnyH_done (by kernel_rfl) ?_ _;refine NoPanic.normal ?_;go_wp2;go_roundw;case rel=>exact⟨0+1,vi,by omega,by go_num,by rw[show innerM P S (p0,p1) T (0+1) us=innerM P S (p0,p1) T 0 us from by rw[HSTEP.out,HQ2.out];simp];exact HHI.out.below HB8.out,HKI.out.trans (KeepH.of_below HB8.out),HBI.out.trans ((HB8.out).mono HBI.out.size)⟩
                  case measure=>simp[intOf]
                · go_wp2;refine wp_region_noPanic ?_;refine wp_region_held_drew (S:=fun w'=>w'.cell? ⟨hb,0,none⟩=some (.pointer (some ⟨mb,0,none⟩))∧w'.cell? ⟨w.heap.size,0,none⟩=some (.int .i64 p0)∧w'.cell? ⟨w.heap.size,1,none⟩=some (.int .i64 p1)∧w'.cell? ⟨wd.heap.size,6,none⟩=some (.bool false)) (by kernel_rfl) (K8.out _ (Below.refl _ _).drew') (fun hHeld=>?_);refine rU 0 _ _ ?_;refine rU 1 _ _ ?_;refine rU 2 _ _ ?_;refine rU 3 _ _ ?_;refine rU 4 _ _ ?_;refine rU 5 _ _ ?_;refine rU 6 _ _ ?_;refine rU 7 _ _ ?_;refine rC 8 _ (fun K hK=>?_);go_simp;refine(HHO.out _ (Below.refl _ _).drew').mono ?_;rintro e w7 ⟨rfl,hb7⟩;have HB7:=Lib.hid ((Below.refl wr.heap.size wr).drew'.trans hb7);clear hb7;refine hK.out _ _ (K8.out _ HB7.out) (fun hHeld=>?_);clear hK K;try simp only[Act.put,sA,sZ,sS]
                  refine rU 9 _ _ ?_;refine rU 10 _ _ ?_;refine rU 11 _ _ ?_;refine rU 12 _ _ ?_;refine rU 13 _ _ ?_;refine rU 14 _ _ ?_;refine rU 15 _ _ ?_;refine rU 16 _ _ ?_;refine rU 17 _ _ ?_;refine rC 18 _ (fun K hK=>?_);go_simp;refine(HCO.out _ HB7.out).mono ?_;rintro e w8 ⟨rfl,hb8⟩;have HB8:=Lib.hid (HB7.out.trans (hb8.mono HB7.out.size));clear hb8;refine hK.out _ _ (K8.out _ HB8.out) (fun hHeld=>?_);clear hK K;try simp only[Act.put,sA,sZ,sS]
                  refine rU 19 _ _ ?_;refine wpAnyH_done (by kernel_rfl) ?_ _;refine NoPanic.normal ?_;go_wp2_with fail;refine(cvTake_any u U w8 H.out (HBI.out.trans (HB8.out.mono HBI.out.size)) (HHI.out.below HB8.out) HU.out (by have:=(HI.out.inner P (p0,p1) (HN.out t T HT.out) 0 (by omega)).le;have:=HMX.out;omega)).mono ?_;rintro e w9 ⟨rfl,⟨v9,hh9,hk9⟩,hb9⟩;have HH9:=Lib.hid hh9;have HK9:=Lib.hid (HKI.out.trans ((KeepH.of_below HB8.out).trans hk9));have HB9:=Lib.hid hb9;clear hh9 hk9 hb9;go_wp2;go_roundw;case rel=>exact⟨0+1,v9,by omega,by go_num,by rw[show innerM P S (p0,p1) T (0+1) us=takeM P U (u:Int) (innerM P S (p0,p1) T 0 us) from by rw[HSTEP.out,HQ2.out,if_pos (by refine⟨?_,HNI.out,?_⟩<;>trivial)]];exact HH9.out,HK9.out,HB9.out⟩
                  case measure=>simp[intOf]
              · have HYI:=Lib.hid (of_decide_eq_true HQ1.out);go_wp2;refine wp_region_noPanic ?_;refine wp_region_held_drew (S:=fun w'=>w'.cell? ⟨hb,0,none⟩=some (.pointer (some ⟨mb,0,none⟩))∧w'.cell? ⟨w.heap.size,0,none⟩=some (.int .i64 p0)∧w'.cell? ⟨w.heap.size,1,none⟩=some (.int .i64 p1)∧w'.cell? ⟨wd.heap.size,6,none⟩=some (.bool false)) (by kernel_rfl) (K8.out _ (Below.refl _ _).drew') (fun hHeld=>?_);refine rU 0 _ _ ?_;refine rU 1 _ _ ?_;refine rU 2 _ _ ?_;refine rU 3 _ _ ?_;refine rU 4 _ _ ?_;refine rU 5 _ _ ?_;refine rU 6 _ _ ?_;refine rU 7 _ _ ?_;refine rC 8 _ (fun K hK=>?_);go_simp;refine(HHO.out _ (Below.refl _ _).drew').mono ?_;rintro e w7 ⟨rfl,hb7⟩;have HB7:=Lib.hid ((Below.refl wr.heap.size wr).drew'.trans hb7);clear hb7;refine hK.out _ _ (K8.out _ HB7.out) (fun hHeld=>?_);clear hK K;try simp only[Act.put,sA,sZ,sS]
                refine rU 9 _ _ ?_;refine rU 10 _ _ ?_;refine rU 11 _ _ ?_;refine rS 12 ?_ ?_ ?_ ?_;rotate_left 1;·simp only[gA,gS,gZ];exact rfl
                ·rfl
                try simp only[Act.put,sA,sZ,sS]
                refine rS 13 ?_ ?_ ?_ ?_;rotate_left 1;·simp only[gA,gS,gZ];exact rfl
                ·rfl
                try simp only[Act.put,sA,sZ,sS]
                refine rS 14 ?_ ?_ ?_ ?_;rotate_left 1;·simp only[gA,gS,gZ];exact rfl
                ·rfl
                try simp only[Act.put,sA,sZ,sS]
                refine rS 15 ?_ ?_ ?_ ?_;rotate_left 1;·simp only[gA,gS,gZ];exact rfl
                ·rfl
                try simp only[Act.put,sA,sZ,sS]
                refine rS 16 ?_ ?_ ?_ ?_;rotate_left 1;·simp only[gA,gS,gZ];exact rfl
                ·rfl
                try simp only[Act.put,sA,sZ,sS]
                refine rS 17 ?_ ?_ ?_ ?_;rotate_left 1;·simp only[gA,gS,gZ];exact rfl
                ·rfl
                try simp only[Act.put,sA,sZ,sS]
                refine rS 18 ?_ ?_ ?_ ?_;rotate_left 1;·simp only[gA,gS,gZ];exact rfl
                ·rfl
                try simp only[Act.put,sA,sZ,sS]
                refine rU 19 _ _ ?_;refine wpAnyH_done (by kernel_rfl) ?_ _;refine NoPanic.normal ?_;go_wp2;go_roundw;case rel=>exact⟨0+1,vi,by omega,by go_num,by rw[show innerM P S (p0,p1) T (0+1) us=innerM P S (p0,p1) T 0 us from by rw[HSTEP.out,if_neg (fun h=>h.2.1 HYI.out)]];exact HHI.out.below HB7.out,HKI.out.trans (KeepH.of_below HB7.out),HBI.out.trans ((HB7.out).mono HBI.out.size)⟩
                case measure=>simp[intOf]
            · go_wp2;refine wp_region_noPanic ?_;refine wp_region_held_drew (S:=fun w'=>w'.cell? ⟨hb,0,none⟩=some (.pointer (some ⟨mb,0,none⟩))∧w'.cell? ⟨w.heap.size,0,none⟩=some (.int .i64 p0)∧w'.cell? ⟨w.heap.size,1,none⟩=some (.int .i64 p1)∧w'.cell? ⟨wd.heap.size,6,none⟩=some (.bool true)) (by kernel_rfl) (K8.out _ (Below.refl _ _).drew') (fun hHeld=>?_);refine rU 0 _ _ ?_;refine rU 1 _ _ ?_;refine rU 2 _ _ ?_;refine rU 3 _ _ ?_;refine rU 4 _ _ ?_;refine rU 5 _ _ ?_;refine rS 6 ?_ ?_ ?_ ?_;rotate_left 1;·simp only[gA,gS,gZ];exact rfl
              ·rfl
              try simp only[Act.put,sA,sZ,sS]
              refine rS 7 ?_ ?_ ?_ ?_;rotate_left 1;·simp only[gA,gS,gZ];exact rfl
              ·rfl
              try simp only[Act.put,sA,sZ,sS]
              refine rS 8 ?_ ?_ ?_ ?_;rotate_left 1;·simp only[gA,gS,gZ];exact rfl
              ·rfl
              try simp only[Act.put,sA,sZ,sS]
              refine rS 9 ?_ ?_ ?_ ?_;rotate_left 1;·simp only[gA,gS,gZ];exact rfl
              ·rfl
              try simp only[Act.put,sA,sZ,sS]
              refine rU 10 _ _ ?_;refine rU 11 _ _ ?_;refine rS 12 ?_ ?_ ?_ ?_;rotate_left 1;·simp only[gA,gS,gZ];exact rfl
              ·rfl
              try simp only[Act.put,sA,sZ,sS]
              refine rS 13 ?_ ?_ ?_ ?_;rotate_left 1;·simp only[gA,gS,gZ];exact rfl
              ·rfl
              try simp only[Act.put,sA,sZ,sS]
              refine rS 14 ?_ ?_ ?_ ?_;rotate_left 1;·simp only[gA,gS,gZ];exact rfl
              ·rfl
              try simp only[Act.put,sA,sZ,sS]
              refine rS 15 ?_ ?_ ?_ ?_;rotate_left 1;·simp only[gA,gS,gZ];exact rfl
              ·rfl
              try simp only[Act.put,sA,sZ,sS]
              refine rS 16 ?_ ?_ ?_ ?_;rotate_left 1;·simp only[gA,gS,gZ];exact rfl
              ·rfl
              try simp only[Act.put,sA,sZ,sS]
              refine rS 17 ?_ ?_ ?_ ?_;rotate_left 1;·simp only[gA,gS,gZ];exact rfl
              ·rfl
              try simp only[Act.put,sA,sZ,sS]
              refine rS 18 ?_ ?_ ?_ ?_;rotate_left 1;·simp only[gA,gS,gZ];exact rfl
              ·rfl
              try simp only[Act.put,sA,sZ,sS]
              refine rU 19 _ _ ?_;refine wpAnyH_done (by kernel_rfl) ?_ _;refine NoPanic.normal ?_;go_wp2;go_roundw;case rel=>exact⟨0+1,vi,by omega,by go_num,by rw[show innerM P S (p0,p1) T (0+1) us=innerM P S (p0,p1) T 0 us from by rw[HSTEP.out,if_neg (fun h=>by cases h.1)]];exact HHI.out.below (Below.refl wr.heap.size wr).drew',HKI.out.trans (KeepH.of_below (Below.refl wr.heap.size wr).drew'),HBI.out.trans (((Below.refl wr.heap.size wr).drew').mono HBI.out.size)⟩
              case measure=>simp[intOf]
          · obtain⟨u,hu,hul⟩:=HN.out t T HT.out 1 (by omega);obtain⟨U,hU⟩:∃U,S[u]?=some U:=⟨_,List.getElem?_eq_getElem hul⟩;rw[HTT.out] at hu;obtain rfl:n1=(u:Int):=hu;have hnu:T.n 1=(u:Int):=by rw[HTT.out];rfl
            have hfi:T.f 1=f1:=by rw[HTT.out];rfl
            have hct:confT P S (p0,p1) (u:Int)=conflictM P U (p0,p1):=by unfold confT;rw[Int.toNat_natCast,hU]
            have htk:takeS P S (u:Int) (innerM P S (p0,p1) T 1 us)=takeM P U (u:Int) (innerM P S (p0,p1) T 1 us):=by unfold takeS;rw[Int.toNat_natCast,hU]
            have hur:-1000000≤(u:Int)∧(u:Int)≤1000000:=by have:=HMX.out;omega
            have HSTEP:=Lib.hid (show innerM P S (p0,p1) T (1+1) us=if f1=false∧(u:Int)∉innerM P S (p0,p1) T 1 us∧conflictM P U (p0,p1)=true then takeM P U (u:Int) (innerM P S (p0,p1) T 1 us) else innerM P S (p0,p1) T 1 us by show stepM P S (p0,p1) T 1 (innerM P S (p0,p1) T 1 us)=_;unfold stepM;rw[hnu,hfi,hct,htk]);have HU:=Lib.hid hU;obtain⟨q1,hq1⟩:∃q,decide ((u:Int)∈innerM P S (p0,p1) T 1 us)=q:=⟨_,rfl⟩;obtain⟨q2,hq2⟩:∃q,conflictM P U (p0,p1)=q:=⟨_,rfl⟩;have HHO:=Lib.hid (show∀W:World,Below wr.heap.size wr W→Calls Tryz.prog 140 #[.pointer (some ⟨hb,0,none⟩),.int .i64 (u:Int)] W fun e w'=>e= .returned (.bool q1)∧Below W.heap.size W w' from fun W hW=>by have:=cvHolds_any hb b _ (u:Int) W (HHI.out.below hW).box.c2 (HHI.out.below hW).map hur;rw[hq1] at this;exact this);have HCO:=Lib.hid (show∀W:World,Below wr.heap.size wr W→Calls Tryz.prog 15 #[.pointer (some ⟨mb,0,none⟩),.int .i64 (u:Int),.agg #[.int .i64 p0,.int .i64 p1]] W fun e w'=>e= .returned (.bool q2)∧Below W.heap.size W w' from fun W hW=>by have:=cvConflict_any u U p0 p1 W (H.out.below (HBI.out.trans (hW.mono HBI.out.size))) HP.out HPP.out HU.out;rw[hq2] at this;exact this);have HQ1:=Lib.hid hq1;have HQ2:=Lib.hid hq2;have K8:=Lib.hid (show∀w':World,Below wr.heap.size wr w'→w'.cell? ⟨hb,0,none⟩=some (.pointer (some ⟨mb,0,none⟩))∧w'.cell? ⟨w.heap.size,0,none⟩=some (.int .i64 p0)∧w'.cell? ⟨w.heap.size,1,none⟩=some (.int .i64 p1)∧w'.cell? ⟨wd.heap.size,7,none⟩=some (.bool f1) from fun w' hw=>⟨(HHI.out.below hw).box.c0,(PPI.out.below hw).c 0 _ rfl,(PPI.out.below hw).c 1 _ rfl,(PTI.out.below hw).c 7 _ rfl⟩);have ir:∀w:World,(Instr.index 39 (.agg #[.int .i64 n0,.int .i64 (u:Int),.int .i64 n2]) (.int .i64 1)).run Tryz.prog w= .ok (.int .i64 (u:Int)) w:=fun w=>index3v_run ⟨n0,(u:Int),n2,0,0,0,false,false,false⟩ 1 (by omega) w;clear hul hU hnu hfi hct htk hur hq1 hq2;cases f1
            · cases q1
              · have HNI:=Lib.hid (of_decide_eq_false HQ1.out);cases q2
                · go_wp2;refine wp_region_noPanic ?_;refine wp_region_held_drew (S:=fun w'=>w'.cell? ⟨hb,0,none⟩=some (.pointer (some ⟨mb,0,none⟩))∧w'.cell? ⟨w.heap.size,0,none⟩=some (.int .i64 p0)∧w'.cell? ⟨w.heap.size,1,none⟩=some (.int .i64 p1)∧w'.cell? ⟨wd.heap.size,7,none⟩=some (.bool false)) (by kernel_rfl) (K8.out _ (Below.refl _ _).drew') (fun hHeld=>?_);refine rU 0 _ _ ?_;refine rU 1 _ _ ?_;refine rU 2 _ _ ?_;refine rU 3 _ _ ?_;refine rU 4 _ _ ?_;refine rU 5 _ _ ?_;refine rU 6 _ _ ?_;refine rU 7 _ _ ?_;refine rC 8 _ (fun K hK=>?_);go_simp;refine(HHO.out _ (Below.refl _ _).drew').mono ?_;rintro e w7 ⟨rfl,hb7⟩;have HB7:=Lib.hid ((Below.refl wr.heap.size wr).drew'.trans hb7);clear hb7;refine hK.out _ _ (K8.out _ HB7.out) (fun hHeld=>?_);clear hK K;try simp only[Act.put,sA,sZ,sS]
                  refine rU 9 _ _ ?_;refine rU 10 _ _ ?_;refine rU 11 _ _ ?_;refine rU 12 _ _ ?_;refine rU 13 _ _ ?_;refine rU 14 _ _ ?_;refine rU 15 _ _ ?_;refine rU 16 _ _ ?_;refine rU 17 _ _ ?_;refine rC 18 _ (fun K hK=>?_);go_simp;refine(HCO.out _ HB7.out).mono ?_;rintro e w8 ⟨rfl,hb8⟩;have HB8:=Lib.hid (HB7.out.trans (hb8.mono HB7.out.size));clear hb8;refine hK.out _ _ (K8.out _ HB8.out) (fun hHeld=>?_);clear hK K;try simp only[Act.put,sA,sZ,sS]
                  refine rU 19 _ _ ?_;refine wpAnyH_done (by kernel_rfl) ?_ _;refine NoPanic.normal ?_;go_wp2;go_roundw;case rel=>exact⟨1+1,vi,by omega,by go_num,by rw[show innerM P S (p0,p1) T (1+1) us=innerM P S (p0,p1) T 1 us from by rw[HSTEP.out,HQ2.out];simp];exact HHI.out.below HB8.out,HKI.out.trans (KeepH.of_below HB8.out),HBI.out.trans ((HB8.out).mono HBI.out.size)⟩
                  case measure=>simp[intOf]
                · go_wp2;refine wp_region_noPanic ?_;refine wp_region_held_drew (S:=fun w'=>w'.cell? ⟨hb,0,none⟩=some (.pointer (some ⟨mb,0,none⟩))∧w'.cell? ⟨w.heap.size,0,none⟩=some (.int .i64 p0)∧w'.cell? ⟨w.heap.size,1,none⟩=some (.int .i64 p1)∧w'.cell? ⟨wd.heap.size,7,none⟩=some (.bool false)) (by kernel_rfl) (K8.out _ (Below.refl _ _).drew') (fun hHeld=>?_);refine rU 0 _ _ ?_;refine rU 1 _ _ ?_;refine rU 2 _ _ ?_;refine rU 3 _ _ ?_;refine rU 4 _ _ ?_;refine rU 5 _ _ ?_;refine rU 6 _ _ ?_;refine rU 7 _ _ ?_;refine rC 8 _ (fun K hK=>?_);go_simp;refine(HHO.out _ (Below.refl _ _).drew').mono ?_;rintro e w7 ⟨rfl,hb7⟩;have HB7:=Lib.hid ((Below.refl wr.heap.size wr).drew'.trans hb7);clear hb7;refine hK.out _ _ (K8.out _ HB7.out) (fun hHeld=>?_);clear hK K;try simp only[Act.put,sA,sZ,sS]
                  refine rU 9 _ _ ?_;refine rU 10 _ _ ?_;refine rU 11 _ _ ?_;refine rU 12 _ _ ?_;refine rU 13 _ _ ?_;refine rU 14 _ _ ?_;refine rU 15 _ _ ?_;refine rU 16 _ _ ?_;refine rU 17 _ _ ?_;refine rC 18 _ (fun K hK=>?_);go_simp;refine(HCO.out _ HB7.out).mono ?_;rintro e w8 ⟨rfl,hb8⟩;have HB8:=Lib.hid (HB7.out.trans (hb8.mono HB7.out.size));clear hb8;refine hK.out _ _ (K8.out _ HB8.out) (fun hHeld=>?_);clear hK K;try simp only[Act.put,sA,sZ,sS]
                  refine rU 19 _ _ ?_;refine wpAnyH_done (by kernel_rfl) ?_ _;refine NoPanic.normal ?_;go_wp2_with fail;refine(cvTake_any u U w8 H.out (HBI.out.trans (HB8.out.mono HBI.out.size)) (HHI.out.below HB8.out) HU.out (by have:=(HI.out.inner P (p0,p1) (HN.out t T HT.out) 1 (by omega)).le;have:=HMX.out;omega)).mono ?_;rintro e w9 ⟨rfl,⟨v9,hh9,hk9⟩,hb9⟩;have HH9:=Lib.hid hh9;have HK9:=Lib.hid (HKI.out.trans ((KeepH.of_below HB8.out).trans hk9));have HB9:=Lib.hid hb9;clear hh9 hk9 hb9;go_wp2;go_roundw;case rel=>exact⟨1+1,v9,by omega,by go_num,by rw[show innerM P S (p0,p1) T (1+1) us=takeM P U (u:Int) (innerM P S (p0,p1) T 1 us) from by rw[HSTEP.out,HQ2.out,if_pos (by refine⟨?_,HNI.out,?_⟩<;>trivial)]];exact HH9.out,HK9.out,HB9.out⟩
                  case measure=>simp[intOf]
              · have HYI:=Lib.hid (of_decide_eq_true HQ1.out);go_wp2;refine wp_region_noPanic ?_;refine wp_region_held_drew (S:=fun w'=>w'.cell? ⟨hb,0,none⟩=some (.pointer (some ⟨mb,0,none⟩))∧w'.cell? ⟨w.heap.size,0,none⟩=some (.int .i64 p0)∧w'.cell? ⟨w.heap.size,1,none⟩=some (.int .i64 p1)∧w'.cell? ⟨wd.heap.size,7,none⟩=some (.bool false)) (by kernel_rfl) (K8.out _ (Below.refl _ _).drew') (fun hHeld=>?_);refine rU 0 _ _ ?_;refine rU 1 _ _ ?_;refine rU 2 _ _ ?_;refine rU 3 _ _ ?_;refine rU 4 _ _ ?_;refine rU 5 _ _ ?_;refine rU 6 _ _ ?_;refine rU 7 _ _ ?_;refine rC 8 _ (fun K hK=>?_);go_simp;refine(HHO.out _ (Below.refl _ _).drew').mono ?_;rintro e w7 ⟨rfl,hb7⟩;have HB7:=Lib.hid ((Below.refl wr.heap.size wr).drew'.trans hb7);clear hb7;refine hK.out _ _ (K8.out _ HB7.out) (fun hHeld=>?_);clear hK K;try simp only[Act.put,sA,sZ,sS]
                refine rU 9 _ _ ?_;refine rU 10 _ _ ?_;refine rU 11 _ _ ?_;refine rS 12 ?_ ?_ ?_ ?_;rotate_left 1;·simp only[gA,gS,gZ];exact rfl
                ·rfl
                try simp only[Act.put,sA,sZ,sS]
                refine rS 13 ?_ ?_ ?_ ?_;rotate_left 1;·simp only[gA,gS,gZ];exact rfl
                ·rfl
                try simp only[Act.put,sA,sZ,sS]
                refine rS 14 ?_ ?_ ?_ ?_;rotate_left 1;·simp only[gA,gS,gZ];exact rfl
                ·rfl
                try simp only[Act.put,sA,sZ,sS]
                refine rS 15 ?_ ?_ ?_ ?_;rotate_left 1;·simp only[gA,gS,gZ];exact rfl
                ·rfl
                try simp only[Act.put,sA,sZ,sS]
                refine rS 16 ?_ ?_ ?_ ?_;rotate_left 1;·simp only[gA,gS,gZ];exact rfl
                ·rfl
                try simp only[Act.put,sA,sZ,sS]
                refine rS 17 ?_ ?_ ?_ ?_;rotate_left 1;·simp only[gA,gS,gZ];exact rfl
                ·rfl
                try simp only[Act.put,sA,sZ,sS]
                refine rS 18 ?_ ?_ ?_ ?_;rotate_left 1;·simp only[gA,gS,gZ];exact rfl
                ·rfl
                try simp only[Act.put,sA,sZ,sS]
                refine rU 19 _ _ ?_;refine wpAnyH_done (by kernel_rfl) ?_ _;refine NoPanic.normal ?_;go_wp2;go_roundw;case rel=>exact⟨1+1,vi,by omega,by go_num,by rw[show innerM P S (p0,p1) T (1+1) us=innerM P S (p0,p1) T 1 us from by rw[HSTEP.out,if_neg (fun h=>h.2.1 HYI.out)]];exact HHI.out.below HB7.out,HKI.out.trans (KeepH.of_below HB7.out),HBI.out.trans ((HB7.out).mono HBI.out.size)⟩
                case measure=>simp[intOf]
            · go_wp2;refine wp_region_noPanic ?_;refine wp_region_held_drew (S:=fun w'=>w'.cell? ⟨hb,0,none⟩=some (.pointer (some ⟨mb,0,none⟩))∧w'.cell? ⟨w.heap.size,0,none⟩=some (.int .i64 p0)∧w'.cell? ⟨w.heap.size,1,none⟩=some (.int .i64 p1)∧w'.cell? ⟨wd.heap.size,7,none⟩=some (.bool true)) (by kernel_rfl) (K8.out _ (Below.refl _ _).drew') (fun hHeld=>?_);refine rU 0 _ _ ?_;refine rU 1 _ _ ?_;refine rU 2 _ _ ?_;refine rU 3 _ _ ?_;refine rU 4 _ _ ?_;refine rU 5 _ _ ?_;refine rS 6 ?_ ?_ ?_ ?_;rotate_left 1;·simp only[gA,gS,gZ];exact rfl
              ·rfl
              try simp only[Act.put,sA,sZ,sS]
              refine rS 7 ?_ ?_ ?_ ?_;rotate_left 1;·simp only[gA,gS,gZ];exact rfl
              ·rfl
              try simp only[Act.put,sA,sZ,sS]
              refine rS 8 ?_ ?_ ?_ ?_;rotate_left 1;·simp only[gA,gS,gZ];exact rfl
              ·rfl
              try simp only[Act.put,sA,sZ,sS]
              refine rS 9 ?_ ?_ ?_ ?_;rotate_left 1;·simp only[gA,gS,gZ];exact rfl
              ·rfl
              try simp only[Act.put,sA,sZ,sS]
              refine rU 10 _ _ ?_;refine rU 11 _ _ ?_;refine rS 12 ?_ ?_ ?_ ?_;rotate_left 1;·simp only[gA,gS,gZ];exact rfl
              ·rfl
              try simp only[Act.put,sA,sZ,sS]
              refine rS 13 ?_ ?_ ?_ ?_;rotate_left 1;·simp only[gA,gS,gZ];exact rfl
              ·rfl
              try simp only[Act.put,sA,sZ,sS]
              refine rS 14 ?_ ?_ ?_ ?_;rotate_left 1;·simp only[gA,gS,gZ];exact rfl
              ·rfl
              try simp only[Act.put,sA,sZ,sS]
              refine rS 15 ?_ ?_ ?_ ?_;rotate_left 1;·simp only[gA,gS,gZ];exact rfl
              ·rfl
              try simp only[Act.put,sA,sZ,sS]
              refine rS 16 ?_ ?_ ?_ ?_;rotate_left 1;·simp only[gA,gS,gZ];exact rfl
              ·rfl
              try simp only[Act.put,sA,sZ,sS]
              refine rS 17 ?_ ?_ ?_ ?_;rotate_left 1;·simp only[gA,gS,gZ];exact rfl
              ·rfl
              try simp only[Act.put,sA,sZ,sS]
              refine rS 18 ?_ ?_ ?_ ?_;rotate_left 1;·simp only[gA,gS,gZ];exact rfl
              ·rfl
              try simp only[Act.put,sA,sZ,sS]
              refine rU 19 _ _ ?_;refine wpAnyH_done (by kernel_rfl) ?_ _;refine NoPanic.normal ?_;go_wp2;go_roundw;case rel=>exact⟨1+1,vi,by omega,by go_num,by rw[show innerM P S (p0,p1) T (1+1) us=innerM P S (p0,p1) T 1 us from by rw[HSTEP.out,if_neg (fun h=>by cases h.1)]];exact HHI.out.below (Below.refl wr.heap.size wr).drew',HKI.out.trans (KeepH.of_below (Below.refl wr.heap.size wr).drew'),HBI.out.trans (((Below.refl wr.heap.size wr).drew').mono HBI.out.size)⟩
              case measure=>simp[intOf]
          · obtain⟨u,hu,hul⟩:=HN.out t T HT.out 2 (by omega);obtain⟨U,hU⟩:∃U,S[u]?=some U:=⟨_,List.getElem?_eq_getElem hul⟩;rw[HTT.out] at hu;obtain rfl:n2=(u:Int):=hu;have hnu:T.n 2=(u:Int):=by rw[HTT.out];rfl
            have hfi:T.f 2=f2:=by rw[HTT.out];rfl
            have hct:confT P S (p0,p1) (u:Int)=conflictM P U (p0,p1):=by unfold confT;rw[Int.toNat_natCast,hU]
            have htk:takeS P S (u:Int) (innerM P S (p0,p1) T 2 us)=takeM P U (u:Int) (innerM P S (p0,p1) T 2 us):=by unfold takeS;rw[Int.toNat_natCast,hU]
            have hur:-1000000≤(u:Int)∧(u:Int)≤1000000:=by have:=HMX.out;omega
            have HSTEP:=Lib.hid (show innerM P S (p0,p1) T (2+1) us=if f2=false∧(u:Int)∉innerM P S (p0,p1) T 2 us∧conflictM P U (p0,p1)=true then takeM P U (u:Int) (innerM P S (p0,p1) T 2 us) else innerM P S (p0,p1) T 2 us by show stepM P S (p0,p1) T 2 (innerM P S (p0,p1) T 2 us)=_;unfold stepM;rw[hnu,hfi,hct,htk]);have HU:=Lib.hid hU;obtain⟨q1,hq1⟩:∃q,decide ((u:Int)∈innerM P S (p0,p1) T 2 us)=q:=⟨_,rfl⟩;obtain⟨q2,hq2⟩:∃q,conflictM P U (p0,p1)=q:=⟨_,rfl⟩;have HHO:=Lib.hid (show∀W:World,Below wr.heap.size wr W→Calls Tryz.prog 140 #[.pointer (some ⟨hb,0,none⟩),.int .i64 (u:Int)] W fun e w'=>e= .returned (.bool q1)∧Below W.heap.size W w' from fun W hW=>by have:=cvHolds_any hb b _ (u:Int) W (HHI.out.below hW).box.c2 (HHI.out.below hW).map hur;rw[hq1] at this;exact this);have HCO:=Lib.hid (show∀W:World,Below wr.heap.size wr W→Calls Tryz.prog 15 #[.pointer (some ⟨mb,0,none⟩),.int .i64 (u:Int),.agg #[.int .i64 p0,.int .i64 p1]] W fun e w'=>e= .returned (.bool q2)∧Below W.heap.size W w' from fun W hW=>by have:=cvConflict_any u U p0 p1 W (H.out.below (HBI.out.trans (hW.mono HBI.out.size))) HP.out HPP.out HU.out;rw[hq2] at this;exact this);have HQ1:=Lib.hid hq1;have HQ2:=Lib.hid hq2;have K8:=Lib.hid (show∀w':World,Below wr.heap.size wr w'→w'.cell? ⟨hb,0,none⟩=some (.pointer (some ⟨mb,0,none⟩))∧w'.cell? ⟨w.heap.size,0,none⟩=some (.int .i64 p0)∧w'.cell? ⟨w.heap.size,1,none⟩=some (.int .i64 p1)∧w'.cell? ⟨wd.heap.size,8,none⟩=some (.bool f2) from fun w' hw=>⟨(HHI.out.below hw).box.c0,(PPI.out.below hw).c 0 _ rfl,(PPI.out.below hw).c 1 _ rfl,(PTI.out.below hw).c 8 _ rfl⟩);have ir:∀w:World,(Instr.index 39 (.agg #[.int .i64 n0,.int .i64 n1,.int .i64 (u:Int)]) (.int .i64 2)).run Tryz.prog w= .ok (.int .i64 (u:Int)) w:=fun w=>index3v_run ⟨n0,n1,(u:Int),0,0,0,false,false,false⟩ 2 (by omega) w;clear hul hU hnu hfi hct htk hur hq1 hq2;cases f2
            · cases q1
              · have HNI:=Lib.hid (of_decide_eq_false HQ1.out);cases q2
                · go_wp2;refine wp_region_noPanic ?_;refine wp_region_held_drew (S:=fun w'=>w'.cell? ⟨hb,0,none⟩=some (.pointer (some ⟨mb,0,none⟩))∧w'.cell? ⟨w.heap.size,0,none⟩=some (.int .i64 p0)∧w'.cell? ⟨w.heap.size,1,none⟩=some (.int .i64 p1)∧w'.cell? ⟨wd.heap.size,8,none⟩=some (.bool false)) (by kernel_rfl) (K8.out _ (Below.refl _ _).drew') (fun hHeld=>?_);refine rU 0 _ _ ?_;refine rU 1 _ _ ?_;refine rU 2 _ _ ?_;refine rU 3 _ _ ?_;refine rU 4 _ _ ?_;refine rU 5 _ _ ?_;refine rU 6 _ _ ?_;refine rU 7 _ _ ?_;refine rC 8 _ (fun K hK=>?_);go_simp;refine(HHO.out _ (Below.refl _ _).drew').mono ?_;rintro e w7 ⟨rfl,hb7⟩;have HB7:=Lib.hid ((Below.refl wr.heap.size wr).drew'.trans hb7);clear hb7;refine hK.out _ _ (K8.out _ HB7.out) (fun hHeld=>?_);clear hK K;try simp only[Act.put,sA,sZ,sS]
                  refine rU 9 _ _ ?_;refine rU 10 _ _ ?_;refine rU 11 _ _ ?_;refine rU 12 _ _ ?_;refine rU 13 _ _ ?_;refine rU 14 _ _ ?_;refine rU 15 _ _ ?_;refine rU 16 _ _ ?_;refine rU 17 _ _ ?_;refine rC 18 _ (fun K hK=>?_);go_simp;refine(HCO.out _ HB7.out).mono ?_;rintro e w8 ⟨rfl,hb8⟩;have HB8:=Lib.hid (HB7.out.trans (hb8.mono HB7.out.size));clear hb8;refine hK.out _ _ (K8.out _ HB8.out) (fun hHeld=>?_);clear hK K;try simp only[Act.put,sA,sZ,sS]
                  refine rU 19 _ _ ?_;refine wpAnyH_done (by kernel_rfl) ?_ _;refine NoPanic.normal ?_;go_wp2;go_roundw;case rel=>exact⟨2+1,vi,by omega,by go_num,by rw[show innerM P S (p0,p1) T (2+1) us=innerM P S (p0,p1) T 2 us from by rw[HSTEP.out,HQ2.out];simp];exact HHI.out.below HB8.out,HKI.out.trans (KeepH.of_below HB8.out),HBI.out.trans ((HB8.out).mono HBI.out.size)⟩
                  case measure=>simp[intOf]
                · go_wp2;refine wp_region_noPanic ?_;refine wp_region_held_drew (S:=fun w'=>w'.cell? ⟨hb,0,none⟩=some (.pointer (some ⟨mb,0,none⟩))∧w'.cell? ⟨w.heap.size,0,none⟩=some (.int .i64 p0)∧w'.cell? ⟨w.heap.size,1,none⟩=some (.int .i64 p1)∧w'.cell? ⟨wd.heap.size,8,none⟩=some (.bool false)) (by kernel_rfl) (K8.out _ (Below.refl _ _).drew') (fun hHeld=>?_);refine rU 0 _ _ ?_;refine rU 1 _ _ ?_;refine rU 2 _ _ ?_;refine rU 3 _ _ ?_;refine rU 4 _ _ ?_;refine rU 5 _ _ ?_;refine rU 6 _ _ ?_;refine rU 7 _ _ ?_;refine rC 8 _ (fun K hK=>?_);go_simp;refine(HHO.out _ (Below.refl _ _).drew').mono ?_;rintro e w7 ⟨rfl,hb7⟩;have HB7:=Lib.hid ((Below.refl wr.heap.size wr).drew'.trans hb7);clear hb7;refine hK.out _ _ (K8.out _ HB7.out) (fun hHeld=>?_);clear hK K;try simp only[Act.put,sA,sZ,sS]
                  refine rU 9 _ _ ?_;refine rU 10 _ _ ?_;refine rU 11 _ _ ?_;refine rU 12 _ _ ?_;refine rU 13 _ _ ?_;refine rU 14 _ _ ?_;refine rU 15 _ _ ?_;refine rU 16 _ _ ?_;refine rU 17 _ _ ?_;refine rC 18 _ (fun K hK=>?_);go_simp;refine(HCO.out _ HB7.out).mono ?_;rintro e w8 ⟨rfl,hb8⟩;have HB8:=Lib.hid (HB7.out.trans (hb8.mono HB7.out.size));clear hb8;refine hK.out _ _ (K8.out _ HB8.out) (fun hHeld=>?_);clear hK K;try simp only[Act.put,sA,sZ,sS]
                  refine rU 19 _ _ ?_;refine wpAnyH_done (by kernel_rfl) ?_ _;refine NoPanic.normal ?_;go_wp2_with fail;refine(cvTake_any u U w8 H.out (HBI.out.trans (HB8.out.mono HBI.out.size)) (HHI.out.below HB8.out) HU.out (by have:=(HI.out.inner P (p0,p1) (HN.out t T HT.out) 2 (by omega)).le;have:=HMX.out;omega)).mono ?_;rintro e w9 ⟨rfl,⟨v9,hh9,hk9⟩,hb9⟩;have HH9:=Lib.hid hh9;have HK9:=Lib.hid (HKI.out.trans ((KeepH.of_below HB8.out).trans hk9));have HB9:=Lib.hid hb9;clear hh9 hk9 hb9;go_wp2;go_roundw;case rel=>exact⟨2+1,v9,by omega,by go_num,by rw[show innerM P S (p0,p1) T (2+1) us=takeM P U (u:Int) (innerM P S (p0,p1) T 2 us) from by rw[HSTEP.out,HQ2.out,if_pos (by refine⟨?_,HNI.out,?_⟩<;>trivial)]];exact HH9.out,HK9.out,HB9.out⟩
                  case measure=>simp[intOf]
              · have HYI:=Lib.hid (of_decide_eq_true HQ1.out);go_wp2;refine wp_region_noPanic ?_;refine wp_region_held_drew (S:=fun w'=>w'.cell? ⟨hb,0,none⟩=some (.pointer (some ⟨mb,0,none⟩))∧w'.cell? ⟨w.heap.size,0,none⟩=some (.int .i64 p0)∧w'.cell? ⟨w.heap.size,1,none⟩=some (.int .i64 p1)∧w'.cell? ⟨wd.heap.size,8,none⟩=some (.bool false)) (by kernel_rfl) (K8.out _ (Below.refl _ _).drew') (fun hHeld=>?_);refine rU 0 _ _ ?_;refine rU 1 _ _ ?_;refine rU 2 _ _ ?_;refine rU 3 _ _ ?_;refine rU 4 _ _ ?_;refine rU 5 _ _ ?_;refine rU 6 _ _ ?_;refine rU 7 _ _ ?_;refine rC 8 _ (fun K hK=>?_);go_simp;refine(HHO.out _ (Below.refl _ _).drew').mono ?_;rintro e w7 ⟨rfl,hb7⟩;have HB7:=Lib.hid ((Below.refl wr.heap.size wr).drew'.trans hb7);clear hb7;refine hK.out _ _ (K8.out _ HB7.out) (fun hHeld=>?_);clear hK K;try simp only[Act.put,sA,sZ,sS]
                refine rU 9 _ _ ?_;refine rU 10 _ _ ?_;refine rU 11 _ _ ?_;refine rS 12 ?_ ?_ ?_ ?_;rotate_left 1;·simp only[gA,gS,gZ];exact rfl
                ·rfl
                try simp only[Act.put,sA,sZ,sS]
                refine rS 13 ?_ ?_ ?_ ?_;rotate_left 1;·simp only[gA,gS,gZ];exact rfl
                ·rfl
                try simp only[Act.put,sA,sZ,sS]
                refine rS 14 ?_ ?_ ?_ ?_;rotate_left 1;·simp only[gA,gS,gZ];exact rfl
                ·rfl
                try simp only[Act.put,sA,sZ,sS]
                refine rS 15 ?_ ?_ ?_ ?_;rotate_left 1;·simp only[gA,gS,gZ];exact rfl
                ·rfl
                try simp only[Act.put,sA,sZ,sS]
                refine rS 16 ?_ ?_ ?_ ?_;rotate_left 1;·simp only[gA,gS,gZ];exact rfl
                ·rfl
                try simp only[Act.put,sA,sZ,sS]
                refine rS 17 ?_ ?_ ?_ ?_;rotate_left 1;·simp only[gA,gS,gZ];exact rfl
                ·rfl
                try simp only[Act.put,sA,sZ,sS]
                refine rS 18 ?_ ?_ ?_ ?_;rotate_left 1;·simp only[gA,gS,gZ];exact rfl
                ·rfl
                try simp only[Act.put,sA,sZ,sS]
                refine rU 19 _ _ ?_;refine wpAnyH_done (by kernel_rfl) ?_ _;refine NoPanic.normal ?_;go_wp2;go_roundw;case rel=>exact⟨2+1,vi,by omega,by go_num,by rw[show innerM P S (p0,p1) T (2+1) us=innerM P S (p0,p1) T 2 us from by rw[HSTEP.out,if_neg (fun h=>h.2.1 HYI.out)]];exact HHI.out.below HB7.out,HKI.out.trans (KeepH.of_below HB7.out),HBI.out.trans ((HB7.out).mono HBI.out.size)⟩
                case measure=>simp[intOf]
            · go_wp2;refine wp_region_noPanic ?_;refine wp_region_held_drew (S:=fun w'=>w'.cell? ⟨hb,0,none⟩=some (.pointer (some ⟨mb,0,none⟩))∧w'.cell? ⟨w.heap.size,0,none⟩=some (.int .i64 p0)∧w'.cell? ⟨w.heap.size,1,none⟩=some (.int .i64 p1)∧w'.cell? ⟨wd.heap.size,8,none⟩=some (.bool true)) (by kernel_rfl) (K8.out _ (Below.refl _ _).drew') (fun hHeld=>?_);refine rU 0 _ _ ?_;refine rU 1 _ _ ?_;refine rU 2 _ _ ?_;refine rU 3 _ _ ?_;refine rU 4 _ _ ?_;refine rU 5 _ _ ?_;refine rS 6 ?_ ?_ ?_ ?_;rotate_left 1;·simp only[gA,gS,gZ];exact rfl
              ·rfl
              try simp only[Act.put,sA,sZ,sS]
              refine rS 7 ?_ ?_ ?_ ?_;rotate_left 1;·simp only[gA,gS,gZ];exact rfl
              ·rfl
              try simp only[Act.put,sA,sZ,sS]
              refine rS 8 ?_ ?_ ?_ ?_;rotate_left 1;·simp only[gA,gS,gZ];exact rfl
              ·rfl
              try simp only[Act.put,sA,sZ,sS]
              refine rS 9 ?_ ?_ ?_ ?_;rotate_left 1;·simp only[gA,gS,gZ];exact rfl
              ·rfl
              try simp only[Act.put,sA,sZ,sS]
              refine rU 10 _ _ ?_;refine rU 11 _ _ ?_;refine rS 12 ?_ ?_ ?_ ?_;rotate_left 1;·simp only[gA,gS,gZ];exact rfl
              ·rfl
              try simp only[Act.put,sA,sZ,sS]
              refine rS 13 ?_ ?_ ?_ ?_;rotate_left 1;·simp only[gA,gS,gZ];exact rfl
              ·rfl
              try simp only[Act.put,sA,sZ,sS]
              refine rS 14 ?_ ?_ ?_ ?_;rotate_left 1;·simp only[gA,gS,gZ];exact rfl
              ·rfl
              try simp only[Act.put,sA,sZ,sS]
              refine rS 15 ?_ ?_ ?_ ?_;rotate_left 1;·simp only[gA,gS,gZ];exact rfl
              ·rfl
              try simp only[Act.put,sA,sZ,sS]
              refine rS 16 ?_ ?_ ?_ ?_;rotate_left 1;·simp only[gA,gS,gZ];exact rfl
              ·rfl
              try simp only[Act.put,sA,sZ,sS]
              refine rS 17 ?_ ?_ ?_ ?_;rotate_left 1;·simp only[gA,gS,gZ];exact rfl
              ·rfl
              try simp only[Act.put,sA,sZ,sS]
              refine rS 18 ?_ ?_ ?_ ?_;rotate_left 1;·simp only[gA,gS,gZ];exact rfl
              ·rfl
              try simp only[Act.put,sA,sZ,sS]
              refine rU 19 _ _ ?_;refine wpAnyH_done (by kernel_rfl) ?_ _;refine NoPanic.normal ?_;go_wp2;go_roundw;case rel=>exact⟨2+1,vi,by omega,by go_num,by rw[show innerM P S (p0,p1) T (2+1) us=innerM P S (p0,p1) T 2 us from by rw[HSTEP.out,if_neg (fun h=>by cases h.1)]];exact HHI.out.below (Below.refl wr.heap.size wr).drew',HKI.out.trans (KeepH.of_below (Below.refl wr.heap.size wr).drew'),HBI.out.trans (((Below.refl wr.heap.size wr).drew').mono HBI.out.size)⟩
              case measure=>simp[intOf]
        · obtain rfl:i=3:=by omega
          have hsp:=spreadM_on (fuel:=len-(n+1)) P S (p0,p1) HZ.out HT.out;have hin3:=HI.out.inner P (p0,p1) (HN.out t T HT.out) 3 (by omega);have hgr:=inner_grows P S (p0,p1) T us 3;rw[show len-(n+1)+1=len-n by(have:=HUL.out;omega),HRR.out] at hsp;have FIN:=Lib.hid (And.intro hsp.symm (And.intro hin3 (show n+1≤(innerM P S (p0,p1) T 3 us).length by have:=HUL.out;omega)));clear hsp hin3 hgr;go_wp2;have hul9:=HUL.out;exact⟨⟨n+1,_,vi,by go_num,FIN.out.2.2,HHI.out,FIN.out.2.1,FIN.out.1,(HK.out.trans (KeepH.of_below HB5.out)).trans HKI.out,HBI.out⟩,by simp[intOf];omega⟩
    · obtain rfl:n=ul:=by omega
      have FIN:=Lib.hid (And.intro hh hbw);have HRE:=Lib.hid (show us=R by rw[←hr,spreadM_end _ _ _ _ (by omega)]);have e1:decide ((n:Int)<(n:Int))=false:=decide_eq_false (by omega);clear hh hin hr hk hbw hul;go_wp2;go_end0;exact⟨rfl,⟨_,by rw[←HRE.out];exact FIN.out.1⟩,FIN.out.2⟩
end Go.Proofs.YtammmemfkpcpcaaGreat
namespace Go.Proofs.YtammmemfkpcpcaaGreat
open Go.RowKit Go.MagM
inductive Reach(S:List TriM)(conf:Int→Bool)(st:List Int):Int→Prop|base{t:Int}:t∈st→Reach S conf st t|step{t i:Nat}{T:TriM}:Reach S conf st (t:Int)→S[t]?=some T→i<3→T.f i=false→conf (T.n i)=true→Reach S conf st (T.n i)
def Closed(S:List TriM)(conf:Int→Bool)(us:List Int):Prop:=∀(t i:Nat)(T:TriM),(t:Int)∈us→S[t]?=some T→i<3→T.f i=false→conf (T.n i)=true→T.n i∈us
theorem Closed.reach{S:List TriM}{conf:Int→Bool}{st us:List Int}(h:Closed S conf us)(hs:∀t∈st,t∈us):∀{x},Reach S conf st x→x∈us:=by intro x hx;induction hx with|base ht=>exact hs _ ht|step _ hT hi hf hc ih=>exact h _ _ _ ih hT hi hf hc
def Cornered(P:List (Int×Int))(S:List TriM):Prop:=∀(t:Nat)(T:TriM),S[t]?=some T→0<(cors P T).length
section
variable{P:List (Int×Int)}{S:List TriM}{p:Int×Int}
theorem takeM_mem{U:TriM}{u:Int}{ts:List Int}(h:0<(cors P U).length):u∈takeM P U u ts:=by
  unfold takeM;by_cases hm:u∈ts;·rw[if_neg (fun k=>k.2 hm)];exact hm
  ·rw[if_pos ⟨h,hm⟩];simp
theorem takeM_pre(P:List (Int×Int))(U:TriM)(u:Int)(ts:List Int):∃k,takeM P U u ts=ts++k∧∀x∈k,x=u:=by
  unfold takeM;split;·exact⟨[u],rfl,by simp⟩
  ·exact⟨[],by simp,by simp⟩
theorem stepM_pre(P:List (Int×Int))(S:List TriM)(p:Int×Int)(T:TriM)(i:Nat)(ts:List Int):∃k,stepM P S p T i ts=ts++k∧∀x∈k,x=T.n i∧T.f i=false∧confT P S p (T.n i)=true:=by
  unfold stepM;split
  · rename_i hc;unfold takeS;split;· obtain⟨k,h1,h2⟩:=takeM_pre P _ (T.n i) ts;exact⟨k,h1,fun x hx=>⟨h2 x hx,hc.1,hc.2.2⟩⟩
    ·exact⟨[],by simp,by simp⟩
  ·exact⟨[],by simp,by simp⟩
theorem inner_pre(P:List (Int×Int))(S:List TriM)(p:Int×Int)(T:TriM)(ts:List Int):∀n,n≤3→∃k,innerM P S p T n ts=ts++k∧∀x∈k,∃i,i<3∧x=T.n i∧T.f i=false∧confT P S p (T.n i)=true
  |0,_=>⟨[],by simp[innerM],by simp⟩|n+1,hn=>by
    obtain⟨k,h1,h2⟩:=inner_pre P S p T ts n (by omega);obtain⟨k',h3,h4⟩:=stepM_pre P S p T n (innerM P S p T n ts);refine⟨k++k',by rw[innerM,h3,h1,List.append_assoc],fun x hx=>?_⟩;rcases List.mem_append.1 hx with hx|hx;·exact h2 x hx
    ·exact⟨n,by omega,h4 x hx⟩
theorem step_has(hN:Nexts S)(hC:Cornered P S){t:Nat}{T:TriM}(hT:S[t]?=some T){i:Nat}(hi:i<3)(hf:T.f i=false)(hc:confT P S p (T.n i)=true)(ts:List Int):T.n i∈stepM P S p T i ts:=by
  by_cases hm:T.n i∈ts
  · obtain⟨k,h1,-⟩:=stepM_pre P S p T i ts;rw[h1];exact List.mem_append_left _ hm
  · obtain⟨u,hu,hul⟩:=hN t T hT i hi;unfold stepM;rw[if_pos ⟨hf,hm,hc⟩];unfold takeS;rw[hu,Int.toNat_natCast,List.getElem?_eq_getElem hul];exact takeM_mem (hC u _ (List.getElem?_eq_getElem hul))
theorem inner_has(hN:Nexts S)(hC:Cornered P S){t:Nat}{T:TriM}(hT:S[t]?=some T)(ts:List Int){i:Nat}(hf:T.f i=false)(hc:confT P S p (T.n i)=true):∀n,n≤3→i<n→T.n i∈innerM P S p T n ts
  |0,_,h=>by omega|n+1,hn,h=>by
    rw[innerM];rcases Nat.lt_or_ge i n with g|g;· obtain⟨k,h1,-⟩:=stepM_pre P S p T n (innerM P S p T n ts);rw[h1];exact List.mem_append_left _ (inner_has hN hC hT ts hf hc n (by omega) g)
    · obtain rfl:i=n:=by omega
      exact step_has hN hC hT (by omega) hf hc _
def ClosedN(P:List (Int×Int))(S:List TriM)(p:Int×Int)(us:List Int)(n:Nat):Prop:=∀j,j<n→∀(t i:Nat)(T:TriM),us[j]?=some (t:Int)→S[t]?=some T→i<3→T.f i=false→confT P S p (T.n i)=true→T.n i∈us
theorem spread_is(hN:Nexts S)(hC:Cornered P S){st:List Int}:∀(fuel n:Nat)(us:List Int),InS S us→n≤us.length→S.length≤fuel+n→ClosedN P S p us n→(∀x∈us,Reach S (confT P S p) st x)→(∀x∈st,x∈us)→InS S (spreadM P S p fuel n us)∧Closed S (confT P S p) (spreadM P S p fuel n us)∧(∀x∈spreadM P S p fuel n us,Reach S (confT P S p) st x)∧(∀x∈st,x∈spreadM P S p fuel n us)
  |0,n,us,hI,hn,hf,hcl,hr,hs=>by
    rw[spreadM];refine⟨hI,fun t i T ht hT hi h1 h2=>?_,hr,hs⟩;obtain⟨j,hj⟩:=List.mem_iff_getElem?.1 ht;have:=hI.le;have:=(List.getElem?_eq_some_iff.1 hj).1;exact hcl j (by omega) t i T hj hT hi h1 h2|fuel+1,n,us,hI,hn,hf,hcl,hr,hs=>by cases hz:us[n]? with
    |none=>
      have hl:us.length≤n:=List.getElem?_eq_none_iff.1 hz;rw[spreadM_end P S p _ hl];refine⟨hI,fun t i T ht hT hi h1 h2=>?_,hr,hs⟩;obtain⟨j,hj⟩:=List.mem_iff_getElem?.1 ht;have:=(List.getElem?_eq_some_iff.1 hj).1;exact hcl j (by omega) t i T hj hT hi h1 h2|some z=>
      obtain⟨t,rfl,htl⟩:=hI.is z (List.mem_of_getElem? hz);obtain⟨T,hT⟩:∃T,S[t]?=some T:=⟨_,List.getElem?_eq_getElem htl⟩;rw[spreadM_on P S p hz hT];have hI':=hI.inner P p (hN t T hT) 3 (by omega);obtain⟨k,hk,hk2⟩:=inner_pre P S p T us 3 (by omega);have hnl:=(List.getElem?_eq_some_iff.1 hz).1;refine spread_is hN hC fuel (n+1) _ hI' (by rw[hk,List.length_append];omega) (by omega) ?_ ?_ ?_
      · intro j hj t' i T' hj' hT' hi h1 h2;rcases Nat.lt_or_ge j n with g|g
        · rw[hk,List.getElem?_append_left (by omega)] at hj';rw[hk];exact List.mem_append_left _ (hcl j g t' i T' hj' hT' hi h1 h2)
        · obtain rfl:j=n:=by omega
          rw[hk,List.getElem?_append_left hnl,hz] at hj';have e0:(t:Int)=(t':Int):=by simpa using hj'
          have e:t=t':=by omega
          subst e;rw[hT] at hT';cases hT';exact inner_has hN hC hT us h1 h2 3 (by omega) hi
      · intro x hx;rw[hk] at hx;rcases List.mem_append.1 hx with hx|hx;·exact hr x hx
        · obtain⟨i,hi,rfl,h1,h2⟩:=hk2 x hx;exact .step (hr _ (List.mem_of_getElem? hz)) hT hi h1 h2
      · intro x hx;rw[hk];exact List.mem_append_left _ (hs x hx)
theorem spread_reach(hN:Nexts S)(hC:Cornered P S){st:List Int}(hI:InS S st):InS S (spreadM P S p S.length 0 st)∧∀x,x∈spreadM P S p S.length 0 st↔Reach S (confT P S p) st x:=by obtain⟨h1,h2,h3,h4⟩:=spread_is (p:=p) (st:=st) hN hC S.length 0 st hI (Nat.zero_le _) (by omega) (fun j hj=>by omega) (fun x hx=> .base hx) (fun x hx=>hx);exact⟨h1,fun x=>⟨h3 x,fun hx=>h2.reach h4 hx⟩⟩
end
end Go.Proofs.YtammmemfkpcpcaaGreat
namespace Go.MagM
open Go.RowKit
theorem RowN.base{w:World}{lo lo':Nat}{e:TypeId}{size n:Nat}{v:Value}{xs:List Value}(h:RowN w lo e size v n xs)(hl:lo'≤lo):RowN w lo' e size v n xs:=by
  refine⟨h.1,?_⟩;rcases h.2 with h1|⟨g1,cap1,cur1,h1,h2,h3⟩;·exact .inl h1
  ·exact .inr ⟨g1,cap1,cur1,h1,by omega,h3⟩
theorem RowN.setAllFar{base:Nat}{e:TypeId}{size:Nat}{v:Value}{n:Nat}{xs:List Value}{g':Nat}(hne:∀k,v.ownBlock=some k→k≠g'):∀(ys:List Value)(i:Nat){w:World},RowN w base e size v n xs→RowN (Go.MagM.setAll w g' i ys) base e size v n xs|[],_,_,h=>h|y::ys,i,w,h=>RowN.setAllFar hne ys (i+1) (h.block fun k hk _=>Below.heap_setCell w ⟨g',i,none⟩ y k (by simpa using hne k hk))
end Go.MagM
namespace Go.Proofs.YtammmemfkpcpcaaGreat
open Go.RowKit Go.MagM Go.Maps
theorem rimP_u{S:List TriM}{ts:List Int}(hI:InS S ts):∀n,∀s∈rimP S ts n,∃(t i:Nat) (T:TriM),(t:Int)∈ts∧S[t]?=some T∧i<3∧T.n i∉ts∧s=sideS S T i
  |0,s,hs=>by cases hs|n+1,s,hs=>by
    rw[rimP] at hs;rcases List.mem_append.1 hs with hs|hs;·exact rimP_u hI n s hs
    ·cases hz:ts[n]? with|none=>rw[hz] at hs;cases hs|some z=>
        rw[hz] at hs;simp only[] at hs;unfold rimT at hs;split at hs
        · rename_i T hT;have hi:∀k,k≤3→∀s∈rimI S ts T k,∃i,i<3∧T.n i∉ts∧s=sideS S T i:=by intro k;induction k with|zero=>intro _ s hs;cases hs|succ k ih=>
              intro hk s hs;rw[rimI] at hs;rcases List.mem_append.1 hs with hs|hs;·exact ih (by omega) s hs
              · split at hs;·cases hs
                · rename_i hno;simp only[List.mem_singleton] at hs;exact⟨k,by omega,hno,hs⟩
          obtain⟨i,h1,h2,h3⟩:=hi 3 (Nat.le_refl _) s hs;obtain⟨u,rfl,-⟩:=hI.is z (List.mem_of_getElem? hz);rw[Int.toNat_natCast] at hT;exact⟨u,i,T,List.mem_of_getElem? hz,hT,h1,h2,h3⟩
        ·cases hs
theorem inRow_sub{l:List SideM}:∀s∈inRowM l,s∈l:=by
  have h:∀n a,∀s∈chainN (fun a=>lookN l a l.length) n a,s∈l:=by
    intro n;induction n with
    |zero=>intro a s hs;cases hs|succ n ih=>intro a s hs;rw[chainN] at hs;cases hL:lookN l a l.length with|none=>rw[hL] at hs;cases hs|some x=>
        rw[hL] at hs;simp only[] at hs;rcases List.mem_cons.1 hs with rfl|hs;·exact(lookN_mem hL).1
        ·exact ih _ s hs
  exact h _ _
theorem inRow_le(l:List SideM):(inRowM l).length≤l.length:=chainN_le _ _ _
set_option maxRecDepth 100000 in set_option maxHeartbeats 8000000 in theorem cvDig_any{mb pb pc:Nat}{ta:Option Addr}{tc:Nat}{P:List (Int×Int)}{S:List TriM}(st:List Int)(kd at_ a b p0 p1:Int)(w:World)(h:MeshR w mb pb pc ta tc P S)(hP:InPs P)(hp:InP p0∧InP p1)(hN:Nexts S)(hC:Cornered P S)(hmx:S.length<300000)(hsm:SmallV S)(hI:InS S st)(hne:st≠[])(hbeg:∀W:World,Below w.heap.size w W→Calls Tryz.prog 101 #[.pointer (some ⟨mb,0,none⟩),.agg #[.int .i64 kd,.int .i64 at_,.int .i64 a,.int .i64 b]] W fun e w'=>∃(hb m:Nat) (v:Value),e= .returned (.pointer (some ⟨hb,0,none⟩))∧HoleR w' W.heap.size hb mb m v st∧Below W.heap.size W w'):Calls Tryz.prog 44 #[.pointer (some ⟨mb,0,none⟩),.agg #[.int .i64 p0,.int .i64 p1],.agg #[.int .i64 kd,.int .i64 at_,.int .i64 a,.int .i64 b]] w fun e w'=>∃(g c:Nat) (rv:Value) (ts:List Int),e= .returned (.agg #[.slice (some ⟨g,0,none⟩) ts.length c,rv,.bool ((inRowM (rimP S ts ts.length)).any (cutQ2 P S (p0,p1)))])∧InS S ts∧(∀x,x∈ts↔Reach S (confT P S (p0,p1)) st x)∧RowN w' w.heap.size 3 1 (.slice (some ⟨g,0,none⟩) ts.length c) ts.length (intCells (sortL ts))∧RowN w' w.heap.size 161 5 rv (inRowM (rimP S ts ts.length)).length (sideCells (inRowM (rimP S ts ts.length)))∧Below w.heap.size w w':=by
  obtain⟨hIT,hTR⟩:=spread_reach (p:=(p0,p1)) hN hC hI;obtain⟨ts,hts⟩:∃ts,spreadM P S (p0,p1) S.length 0 st=ts:=⟨_,rfl⟩;rw[hts] at hIT hTR;have htne:0<ts.length:=by cases st with
    |nil=>exact absurd rfl hne|cons x r=>exact List.length_pos_of_mem ((hTR x).2 (.base (by simp)))
  have htl:=hIT.le;have hrl:(inRowM (rimP S ts ts.length)).length≤1000000:=by have:=inRow_le (rimP S ts ts.length);have:=rimP_le S ts ts.length;omega
  have hru:∀s∈inRowM (rimP S ts ts.length),∃u:Nat,s.u=(u:Int)∧u<S.length:=fun s hs=>by obtain⟨t,i,T,-,hT,hi,-,rfl⟩:=rimP_u hIT _ s (inRow_sub s hs);exact hN t T hT i hi
  obtain⟨R,hR⟩:∃R,inRowM (rimP S ts ts.length)=R:=⟨_,rfl⟩;obtain⟨w1,hw1,pm,hb1,hs1⟩:=new_box w _ rfl [.pointer (some ⟨mb,0,none⟩)] 26;obtain⟨w2,hw2,pp,hb2,hs2⟩:=new_box w1 _ rfl [.int .i64 p0,.int .i64 p1] 24;obtain⟨w3,hw3,pl,hb3,hs3⟩:=new_box w2 _ rfl [.int .i64 kd,.int .i64 at_,.int .i64 a,.int .i64 b] 83;obtain⟨w4,hw4,pr,hb4,hs4⟩:=new_box w3 _ rfl [.slice none 0 0,.slice none 0 0,.bool false] 99;have hb12:Below w.heap.size w w2:=hb1.trans (hb2.mono (by omega));have hb13:Below w.heap.size w w3:=hb12.trans (hb3.mono (by omega));have hb14:Below w.heap.size w w4:=hb13.trans (hb4.mono (by omega));have PM:=Lib.hid (((pm.below hb2).below hb3).below hb4);have PP:=Lib.hid ((pp.below hb3).below hb4);have PL:=Lib.hid (pl.below hb4);have PR:=Lib.hid pr;have HB4:=Lib.hid hb14;have HW4:=Lib.hid hs4;have HW3:=Lib.hid hb13.size;have H4:=Lib.hid (h.below hb14);have HP:=Lib.hid hP;have HPP:=Lib.hid hp;have HN:=Lib.hid hN;have HC:=Lib.hid hC;have HMX:=Lib.hid hmx;have HSM:=Lib.hid hsm;have HI:=Lib.hid hI;have HIT:=Lib.hid hIT;have HTR:=Lib.hid hTR;have HTNE:=Lib.hid htne;have HTL:=Lib.hid htl;have HRL:=Lib.hid hrl;have HRU:=Lib.hid hru;have HR:=Lib.hid hR;have HTS:=Lib.hid hts;have HBEG:=Lib.hid (hbeg w4 hb14);have m0:=PM.out.c 0 _ rfl;have l0:=PL.out.c 0 _ rfl;have l1:=PL.out.c 1 _ rfl;have l2:=PL.out.c 2 _ rfl;have l3:=PL.out.c 3 _ rfl;clear hb1 hb2 hb3 hb4 hb12 hb13 hb14 pm pp pl pr h hP hp hN hC hmx hsm hI hIT hTR htne htl hrl hru hR hts hne hbeg hs1 hs2 hs3 hs4;go_enter Tryz.func44,Tryz.ntmps44;go_wp2_with fail;refine HBEG.out.mono ?_;rintro e w5 ⟨hb,m,v,rfl,hh5,hb5⟩;have HH5:=Lib.hid hh5;have HB5:=Lib.hid hb5;clear hh5 hb5 m0 l0 l1 l2 l3;have x0:=(PP.out.below HB5.out).c 0 _ rfl;have x1:=(PP.out.below HB5.out).c 1 _ rfl;go_wp2_with fail;refine(cvSpread_any p0 p1 w5 H4.out HP.out HPP.out HN.out HB5.out HH5.out HI.out (by have:=HMX.out;omega)).mono ?_;rintro e w6 ⟨rfl,⟨v6,hh6⟩,hb6⟩;rw[HTS.out] at hh6;have HH6:=Lib.hid hh6;have HB6:=Lib.hid hb6;clear hh6 hb6 x0 x1;go_wp2_with fail;refine(cvRim_any w6 (H4.out.below HB6.out) HH6.out HN.out HIT.out HMX.out HSM.out).mono ?_;rintro e w7 ⟨rv,rfl,hrow7,hb7⟩;have hrow7':RowN w7 w4.heap.size 161 5 rv (inRowM (rimP S ts ts.length)).length (sideCells (inRowM (rimP S ts ts.length))):=by
    refine⟨hrow7.1,?_⟩;rcases hrow7.2 with h1|⟨g1,cap1,cur1,h1,h2,h3⟩;·exact .inl h1
    ·exact .inr ⟨g1,cap1,cur1,h1,by have:=HB6.out.size;omega,h3⟩
  have HROW7:=Lib.hid hrow7';have HH7:=Lib.hid (HH6.out.below hb7);have HB7:=Lib.hid (HB6.out.trans (hb7.mono HB6.out.size));have HRV:=Lib.hid (show∀k,rv.ownBlock=some k→w6.heap.size≤k from fun k hk=>(hrow7.lt k hk).1);obtain⟨ro,rn,rc,rfl⟩:∃ro rn rc,rv= .slice ro rn rc:=by
    rcases hrow7.2 with⟨h1,-⟩|⟨g1,cap1,cur1,h1,-⟩;·exact⟨_,_,_,h1⟩
    ·exact⟨_,_,_,h1⟩
  clear hrow7 hrow7' hb7;go_wp2_with fail;refine(cvContains_any (inRowM (rimP S ts ts.length)) (.slice ro rn rc) (cutQ2 P S (p0,p1)) w7 HROW7.out HRL.out (fun W hW s hs=>cvDig1_any s p0 p1 W (H4.out.below (HB7.out.trans (hW.mono HB7.out.size))) HP.out HPP.out ((PM.out.below (HB7.out.trans (hW.mono HB7.out.size))).c 0 _ rfl) (PP.out.below (HB7.out.trans (hW.mono HB7.out.size))) (HRU.out s hs))).mono ?_;rintro e w8 ⟨rfl,hb8⟩;obtain⟨q,hq⟩:∃q,(inRowM (rimP S ts ts.length)).any (cutQ2 P S (p0,p1))=q:=⟨_,rfl⟩;rw[hq];have HQ:=Lib.hid hq;have HH8:=Lib.hid (HH7.out.below hb8);have HROW8:=Lib.hid (HROW7.out.below hb8);have HB8:=Lib.hid (HB7.out.trans (hb8.mono HB7.out.size));clear hb8 hq;obtain⟨n,hn⟩:∃n,ts.length=n:=⟨_,rfl⟩;obtain⟨g,c,rfl⟩:∃g c,v6= .slice (some ⟨g,0,none⟩) n c:=by
    rcases HH8.out.row.2 with⟨h1,h2⟩|⟨g,cap,cur,h1,-⟩;·have:=HTNE.out;omega
    ·exact⟨g,cap,by rw[←hn];exact h1⟩
  have HSO:=Lib.hid (show Calls Tryz.prog 106 #[.slice (some ⟨g,0,none⟩) n c] w8 fun e w'=>e= .returned (.tuple #[])∧RowN w' w4.heap.size 3 1 (.slice (some ⟨g,0,none⟩) n c) (sortL ts).length (intCells (sortL ts))∧(∀k,k<w8.heap.size→k≠g→w'.heap[k]?=w8.heap[k]?)∧Below w4.heap.size w8 w'∧w8.heap.size≤w'.heap.size from by
    have hr:=HH8.out.row;rw[←hn] at hr⊢;exact cvSort_any w8 hr (by have:=HTL.out;have:=HMX.out;omega));have d1:=HH8.out.box.c1;have HNN:=Lib.hid hn;clear hn;go_wp2_with fail;refine HSO.out.mono ?_;rintro e w9 ⟨rfl,hrow9,hk9,hb9,hs9⟩;clear d1;have hgl:=(HH8.out.row.lt g rfl);have hlow:=HH8.out.low;have hbx9:=HH8.out.box.same (hk9 hb HH8.out.box.lt (fun e=>hlow.2.2.2.1 (by rw[e];rfl)));have hrv9:=HROW8.out.block (w':=w9) (fun k hk hl=>hk9 k hl (fun e=>by subst e;have h1:=HRV.out k hk;have h2:=(HH6.out.row.lt k rfl).2;omega));have hb49:Below w4.heap.size w4 w9:=HB8.out.trans hb9;have pr9:=PR.out.below hb49;have d9:=hbx9.c1;have HROW9:=Lib.hid hrow9;have HRV9:=Lib.hid hrv9;have HB9:=Lib.hid hb49;have PR9:=Lib.hid pr9;clear hrow9 hk9 hb9 hs9 hgl hlow hbx9 hrv9 hb49 pr9;have q0:=PR9.out.c 0 _ rfl;have q1:=PR9.out.c 1 _ rfl;have q2:=PR9.out.c 2 _ rfl;have f0:=PR9.out.f 0 _ rfl;have f1:=PR9.out.f 1 _ rfl;have f2:=PR9.out.f 2 _ rfl;obtain⟨wz,hwz⟩:∃wz,setAll w9 w3.heap.size 0 [.slice (some ⟨g,0,none⟩) n c,.slice ro rn rc,.bool q]=wz:=⟨_,rfl⟩;have z:=PR9.out.setAll (w:=w9) [.slice (some ⟨g,0,none⟩) n c,.slice ro rn rc,.bool q] rfl;rw[hwz] at z;have z0:=z.c 0 _ rfl;have z1:=z.c 1 _ rfl;have z2:=z.c 2 _ rfl;have hlt4:=HW4.out;have rz1:=(RowN.setAllFar (g':=w3.heap.size) (fun k hk=>by have:=(HROW9.out.lt k hk).1;omega) [.slice (some ⟨g,0,none⟩) n c,.slice ro rn rc,.bool q] 0 HROW9.out).base (lo':=w.heap.size) HB4.out.size;have rz2:=(RowN.setAllFar (g':=w3.heap.size) (fun k hk=>by have:=(HRV9.out.lt k hk).1;omega) [.slice (some ⟨g,0,none⟩) n c,.slice ro rn rc,.bool q] 0 HRV9.out).base (lo':=w.heap.size) HB4.out.size;have hbz:=below_setAll (g:=w3.heap.size) (HB4.out.trans (HB9.out.mono HB4.out.size)) HW3.out [.slice (some ⟨g,0,none⟩) n c,.slice ro rn rc,.bool q];rw[hwz] at rz1 rz2 hbz;have FIN:=Lib.hid (And.intro rz1 (And.intro rz2 hbz));clear rz1 rz2 hbz hlt4;go_wp2_with fail;simp only[setAll] at hwz;rw[hwz];refine bodyPost_ret (v:= .agg #[.slice (some ⟨g,0,none⟩) n c,.slice ro rn rc,.bool q]) ?_ rfl ?_;·simp[results,Tryz.results44,go_sem,z0,z1,z2]
  · refine⟨g,c,.slice ro rn rc,ts,by rw[HQ.out,HNN.out],HIT.out,HTR.out,?_,FIN.out.2.1,FIN.out.2.2⟩;rw[HNN.out];have:=FIN.out.1;rw[sortL_len,HNN.out] at this;exact this
end Go.Proofs.YtammmemfkpcpcaaGreat
namespace Go.MagM
open Go.RowKit
def nextM(S:List TriM)(v x:Int):Option Int:=match getT S x with|none=>none|some T=>if 0≤idxZ [T.v0,T.v1,T.v2] v∧idxZ [T.v0,T.v1,T.v2] v<3 then some (T.n (((idxZ [T.v0,T.v1,T.v2] v).toNat+1)%3)) else none
def fanM(S:List TriM)(ts:List Int)(v last:Int):Nat→Int→List Int→Option (List Int)|0,_,out=>some out|n+1,x,out=>if ts.contains x then(if x=last then some (out++[((ts.countP (·<x):Nat):Int)]) else match nextM S v x with|none=>none|some y=>fanM S ts v last n y (out++[((ts.countP (·<x):Nat):Int)])) else some out
end Go.MagM
namespace Go.Proofs.YtammmemfkpcpcaaGreat
open Go.RowKit Go.MagM
set_option maxRecDepth 100000 in set_option maxHeartbeats 8000000 in theorem stNext_any{mb pb pc:Nat}{ta:Option Addr}{tc:Nat}{P:List (Int×Int)}{S:List TriM}(x v y:Int)(w:World)(h:MeshR w mb pb pc ta tc P S)(hy:nextM S v x=some y):Calls Tryz.prog 149 #[.pointer (some ⟨mb,0,none⟩),.int .i64 x,.int .i64 v] w fun e w'=>e= .returned (.int .i64 y)∧Below w.heap.size w w':=by
  obtain⟨t,T,rfl,hT,r,hr,hr0,hr3,hyT⟩:∃(t:Nat) (T:TriM),x=(t:Int)∧S[t]?=some T∧∃r:Int,idxZ [T.v0,T.v1,T.v2] v=r∧0≤r∧r<3∧T.n ((r.toNat+1)%3)=y:=by
    unfold nextM at hy;cases hg:getT S x with
    |none=>rw[hg] at hy;cases hy|some T=>
      rw[hg] at hy;simp only[] at hy;split at hy
      · rename_i hc;obtain⟨h0,-,h2⟩:=getT_some hg;exact⟨x.toNat,T,by omega,h2,_,rfl,hc.1,hc.2,by injection hy⟩
      ·cases hy
  obtain⟨w1,hw1,pp,hb1,hs1⟩:=new_box w _ rfl [.int .i64 T.v0,.int .i64 T.v1,.int .i64 T.v2,.int .i64 T.n0,.int .i64 T.n1,.int .i64 T.n2,.bool T.f0,.bool T.f1,.bool T.f2] 42;have HTH:=Lib.hid (stThere_any t T w h hT);obtain⟨j,hj⟩:∃j:Nat,(r.toNat+1)%3=j:=⟨_,rfl⟩;have hj3:j<3:=by omega
  have hyc:w1.cell? ⟨w.heap.size,3+j,none⟩=some (.int .i64 y):=by
    rw[←hyT,hj];obtain rfl|rfl|rfl:j=0∨j=1∨j=2:=by omega
    ·exact pp.c 3 _ rfl
    ·exact pp.c 4 _ rfl
    ·exact pp.c 5 _ rfl
  have HIX:=Lib.hid (show Calls Tryz.prog 78 #[.slice (some ⟨w.heap.size,0,none⟩) 3 3,.int .i64 v] w1 fun e w'=>e= .returned (.int .i64 r)∧w1=w' from by
    have:=index_any w.heap.size 0 3 3 [T.v0,T.v1,T.v2] v w1 rfl (by omega) (fun j v hj=>by
      obtain⟨hl,-⟩:=List.getElem?_eq_some_iff.1 hj;have hj3:j<3:=by simpa using hl
      obtain rfl|rfl|rfl:j=0∨j=1∨j=2:=by omega
      ·cases hj;exact pp.c 0 _ rfl
      ·cases hj;exact pp.c 1 _ rfl
      ·cases hj;exact pp.c 2 _ rfl);rw[hr] at this;exact this);have hrj:(wrap64 (r+1)).tmod 3=(j:Int):=by
    rw[←hj,←IntWalk.i64_left];obtain rfl|rfl|rfl:r=0∨r=1∨r=2:=by omega
    all_goals decide
  have hlt:=(List.getElem?_eq_some_iff.1 hT).1;obtain⟨len,hlen⟩:∃len,S.length=len:=⟨_,rfl⟩;have b1:=h.box.c 1 _ rfl;obtain⟨tb,hta,-,h9⟩:=h.tris.get hT;subst hta;obtain⟨c0,c1,c2,c3,c4,c5,c6,c7,c8⟩:=h9;rw[hlen] at b1 hlt;have i1:(0:Int)≤(t:Int):=by omega
  have i2:(t:Int)<(len:Int):=by omega
  have i3:(0:Int)≤(j:Int):=by omega
  have i4:(j:Int)<3:=by omega
  have HB1:=Lib.hid hb1;have HYC:=Lib.hid hyc;have HYT:=Lib.hid hyT;have HY:=Lib.hid hy;clear h hT hlen hb1 hs1 pp hr hyc hyT hy hj hr0 hr3;go_enter Tryz.func149,Tryz.ntmps149;go_wp2_with fail;refine HTH.out.mono ?_;rintro e w2 ⟨rfl,rfl⟩;go_wp2_with fail;refine HIX.out.mono ?_;rintro e w3 ⟨rfl,rfl⟩;clear c0 c1 c2 c3 c4 c5 c6 c7 c8 hw1 b1;have hyc:=HYC.out;go_wp2;go_ret;exact⟨rfl,HB1.out⟩
set_option maxRecDepth 100000 in set_option maxHeartbeats 16000000 in theorem stFan_any{mb pb pc:Nat}{ta:Option Addr}{tc:Nat}{P:List (Int×Int)}{S:List TriM}(fa fb ga gb:Int)(ff gf:Bool)(fo fi go gi:Nat)(TF TG:TriM)(ts F:List Int)(g n c:Nat)(w:World)(h:MeshR w mb pb pc ta tc P S)(hF:S[fo]?=some TF)(hG:S[go]?=some TG)(hfi:fi<3)(hgi:gi<3)(hn:ts.length=n)(hn9:n≤1000000)(hts:∀j v,ts[j]?=some v→w.cell? ⟨g,j,none⟩=some (.int .i64 v))(hsort:ts.Pairwise (·≤·))(hfan:fanM S ts fa (TG.n gi) n (TF.n fi) []=some F):Calls Tryz.prog 110 #[.pointer (some ⟨mb,0,none⟩),.slice (some ⟨g,0,none⟩) n c,.agg #[.int .i64 fa,.int .i64 fb,.int .i64 (fo:Int),.int .i64 (fi:Int),.bool ff],.agg #[.int .i64 ga,.int .i64 gb,.int .i64 (go:Int),.int .i64 (gi:Int),.bool gf]] w fun e w'=>∃v,e= .returned v∧RowN w' w.heap.size 3 1 v F.length (intCells F)∧Below w.heap.size w w':=by
  obtain⟨i0,hi,hz0,hz1,hz2⟩:=info_parts infoI;have HI:=Lib.hid hi;have HZ0:=Lib.hid hz0;have HZ1:=Lib.hid hz1;have HZ2:=Lib.hid hz2;clear hi hz0 hz1 hz2;obtain⟨w1,hw1,pf,hb1,hs1⟩:=new_box w _ rfl [.int .i64 fa,.int .i64 fb,.int .i64 (fo:Int),.int .i64 (fi:Int),.bool ff] 161;obtain⟨w2,hw2,pg,hb2,hs2⟩:=new_box w1 _ hs1 [.int .i64 ga,.int .i64 gb,.int .i64 (go:Int),.int .i64 (gi:Int),.bool gf] 161;have HB2:=Lib.hid (show Below w.heap.size w w2 from hb1.trans (hb2.mono (by omega)));have HM:=Lib.hid (h.below HB2.out);have PF:=Lib.hid (pf.below (hb2.mono (by omega)));have PG:=Lib.hid pg;have HTS:=Lib.hid (show∀wr,Below w2.heap.size w2 wr→∀j v,ts[j]?=some v→wr.cell? ⟨g,j,none⟩=some (.int .i64 v) from fun wr hb j v hj=>(hb.cell (World.block_lt_of_cell? _ _ ((HB2.out.cell (World.block_lt_of_cell? _ _ (hts j v hj))).trans (hts j v hj)))).trans ((HB2.out.cell (World.block_lt_of_cell? _ _ (hts j v hj))).trans (hts j v hj)));have HI1:=Lib.hid (show∀W,Below w2.heap.size w2 W→Calls Tryz.prog 147 #[.pointer (some ⟨mb,0,none⟩),.agg #[.int .i64 fa,.int .i64 fb,.int .i64 (fo:Int),.int .i64 (fi:Int),.bool ff]] W fun e w'=>e= .returned (.int .i64 (TF.n fi))∧Below W.heap.size W w' from fun W hW=>stInner_any fo fi TF fa fb ff W (HM.out.below hW) hF hfi);have HI2:=Lib.hid (show∀W,Below w2.heap.size w2 W→Calls Tryz.prog 147 #[.pointer (some ⟨mb,0,none⟩),.agg #[.int .i64 ga,.int .i64 gb,.int .i64 (go:Int),.int .i64 (gi:Int),.bool gf]] W fun e w'=>e= .returned (.int .i64 (TG.n gi))∧Below W.heap.size W w' from fun W hW=>stInner_any go gi TG ga gb gf W (HM.out.below hW) hG hgi);have CC:=Lib.hid (show∀w',Below w2.heap.size w2 w'→w'.cell? ⟨w.heap.size,0,none⟩=some (.int .i64 fa)∧w'.cell? ⟨w.heap.size,1,none⟩=some (.int .i64 fb)∧w'.cell? ⟨w.heap.size,2,none⟩=some (.int .i64 (fo:Int))∧w'.cell? ⟨w.heap.size,3,none⟩=some (.int .i64 (fi:Int))∧w'.cell? ⟨w.heap.size,4,none⟩=some (.bool ff)∧w'.cell? ⟨w.heap.size+1,0,none⟩=some (.int .i64 ga)∧w'.cell? ⟨w.heap.size+1,1,none⟩=some (.int .i64 gb)∧w'.cell? ⟨w.heap.size+1,2,none⟩=some (.int .i64 (go:Int))∧w'.cell? ⟨w.heap.size+1,3,none⟩=some (.int .i64 (gi:Int))∧w'.cell? ⟨w.heap.size+1,4,none⟩=some (.bool gf) from fun w' hb=>by have p:=PF.out.below hb;have q:=PG.out.below hb;exact⟨p.c 0 _ rfl,p.c 1 _ rfl,p.c 2 _ rfl,p.c 3 _ rfl,p.c 4 _ rfl,q.c 0 _ rfl,q.c 1 _ rfl,q.c 2 _ rfl,q.c 3 _ rfl,q.c 4 _ rfl⟩);obtain⟨x0,hx0⟩:∃x0,TF.n fi=x0:=⟨_,rfl⟩;obtain⟨last,hlast⟩:∃last,TG.n gi=last:=⟨_,rfl⟩;rw[hx0,hlast] at hfan;rw[hx0] at HI1;rw[hlast] at HI2;have HFAN:=Lib.hid hfan;have HN:=Lib.hid hn;have HSO:=Lib.hid hsort;have HS2:=Lib.hid (show w2.heap.size=w.heap.size+1+1 from by omega);clear h hF hG hfi hgi hn hts hsort hfan pf pg hb1 hb2 hs2 hx0 hlast;go_enter Tryz.func110,Tryz.ntmps110;go_wp2;clear hw1 hw2 hs1;have hB_0:=(Below.refl w2.heap.size w2).drew';refine wp_region_noPanic ?_;refine wp_region_held_drew (S:=fun w'=>w'.cell? ⟨w.heap.size,0,none⟩=some (.int .i64 fa)∧w'.cell? ⟨w.heap.size,1,none⟩=some (.int .i64 fb)∧w'.cell? ⟨w.heap.size,2,none⟩=some (.int .i64 (fo:Int))∧w'.cell? ⟨w.heap.size,3,none⟩=some (.int .i64 (fi:Int))∧w'.cell? ⟨w.heap.size,4,none⟩=some (.bool ff)∧w'.cell? ⟨w.heap.size+1,0,none⟩=some (.int .i64 ga)∧w'.cell? ⟨w.heap.size+1,1,none⟩=some (.int .i64 gb)∧w'.cell? ⟨w.heap.size+1,2,none⟩=some (.int .i64 (go:Int))∧w'.cell? ⟨w.heap.size+1,3,none⟩=some (.int .i64 (gi:Int))∧w'.cell? ⟨w.heap.size+1,4,none⟩=some (.bool gf)) (by kernel_rfl) (CC.out _ hB_0) (fun hHeld=>?_);refine rU 0 _ _ ?_;refine rU 1 _ _ ?_;refine rU 3 _ _ ?_;refine rU 4 _ _ ?_;refine rC 2 _ (fun K hK=>?_);go_simp;refine(HI1.out _ hB_0).mono ?_;rintro e u1 ⟨rfl,hbq1⟩;have hB_1:=hB_0.trans (hbq1.mono hB_0.size);clear hbq1;go_wp2_with fail;refine hK.out _ _ (CC.out _ hB_1) (fun hHeld=>?_);clear hK K;try simp only[Act.put,sA,sZ,sS]
  refine rC 5 _ (fun K hK=>?_);go_simp;refine(HI2.out _ hB_1).mono ?_;rintro e u2 ⟨rfl,hbq2⟩;have hB_2:=hB_1.trans (hbq2.mono hB_1.size);clear hbq2;go_wp2_with fail;refine hK.out _ _ (CC.out _ hB_2) (fun hHeld=>?_);clear hK K;try simp only[Act.put,sA,sZ,sS]
  refine rU 6 _ _ ?_;refine rU 7 _ _ ?_;refine wpAnyH_done (by kernel_rfl) ?_ _;refine NoPanic.normal ?_;have HBU:=Lib.hid hB_2;clear hHeld hB_0 hB_1 hB_2;go_wp2;go_loopw [9,10,12,13,22] (fun lv xv _ _ iv wr=>∃(k:Nat) (x:Int) (out:List Int) (vv:Value),k≤n∧iv= .int .i64 (k:Int)∧xv= .int .i64 x∧vv=lv∧RowN wr u2.heap.size 3 1 vv out.length (intCells out)∧out.length≤k∧fanM S ts fa last (n-k) x out=some F∧Below w2.heap.size w2 wr∧Below u2.heap.size u2 wr) (fun _ _ _ _ iv _=>n-(intOf iv).toNat);case atStart=>exact⟨0,x0,[],_,Nat.zero_le _,rfl,rfl,rfl,RowN.nil _ _ _ _,Nat.le_refl _,HFAN.out,HBU.out,Below.refl _ _⟩
  case round=>
    obtain⟨k,x,out,vv,hk,rfl,rfl,rfl,hrow,hol,hf,hbw,hbu⟩:=hrel;have FIN:∀(F':List Int)(wr:World)(v:Value),some F'=some F→RowN wr u2.heap.size 3 1 v F'.length (intCells F')→Below w2.heap.size w2 wr→RowN wr w.heap.size 3 1 v F.length (intCells F)∧Below w.heap.size w wr:=fun F' wr v e hr hb=>by injection e with e;subst e;exact⟨hr.base (by have:=HBU.out.size;have:=HB2.out.size;omega),HB2.out.trans (hb.mono HB2.out.size)⟩
    have FIN:=Lib.hid FIN;by_cases hlt:k<n
    · obtain⟨m,hm⟩:∃m,n-k=m+1:=⟨n-k-1,by omega⟩;rw[hm] at hf;obtain⟨nb,hnb⟩:∃nb,ts.contains x=nb:=⟨_,rfl⟩;obtain⟨q,hq⟩:∃q:Nat,ts.countP (·<x)=q:=⟨_,rfl⟩;have HBS:=Lib.hid (show Calls Tryz.prog 148 #[.slice (some ⟨g,0,none⟩) n c,.int .i64 x] wr fun e w'=>e= .returned (.tuple #[.int .i64 (q:Int),.bool nb])∧Below wr.heap.size wr w' from by have:=AnyG.slices_BinarySearch_int Tryz.mBin g 0 n c ts x wr (by rw[HN.out];omega) (by omega) (fun j hj=>by rw[Nat.zero_add,HTS.out wr hbw j _ (List.getElem?_eq_getElem hj),List.getD_eq_getElem?_getD,List.getElem?_eq_getElem hj];rfl) (by rw[List.take_of_length_le (by rw[HN.out];omega)];exact HSO.out);rw[List.take_of_length_le (by rw[HN.out];omega),hnb,hq] at this;refine Calls.mono this ?_;rintro e w' ⟨rfl,q',rfl⟩;exact⟨rfl,below_drewN wr q'⟩);unfold fanM at hf;rw[hnb,hq] at hf;have HBW:=Lib.hid hbw;have HBU2:=Lib.hid hbu;have HROW:=Lib.hid hrow;have HOL:=Lib.hid hol;have HM1:=Lib.hid hm;have HF:=Lib.hid hf;have HNB:=Lib.hid hnb;clear hrow hol hf hbw hbu hm hnb hq;go_wp2_with fail;refine HBS.out.mono ?_;rintro e w4 ⟨rfl,hb4⟩;have HBW4:=Lib.hid (HBW.out.trans (hb4.mono HBW.out.size));have HBU4:=Lib.hid (HBU2.out.trans (hb4.mono HBU2.out.size));have HROW4:=Lib.hid (HROW.out.below hb4);clear hb4;cases nb with|false=>have hf:=HF.out;rw[if_neg (by decide)] at hf;have HFI:=Lib.hid (FIN.out out w4 vv hf HROW4.out HBW4.out);clear hf;go_wp2;go_ret;exact⟨_,rfl,HFI.out⟩|true=>
        have hf:=HF.out;rw[if_pos rfl] at hf;obtain⟨w5,hw5,pn,hb5,hs5⟩:=new_box w4 _ rfl [.int .i64 (q:Int)] 3;have hrow5:=HROW4.out.below hb5;have hbw5:=HBW4.out.trans (hb5.mono HBW4.out.size);have hbu5:=HBU4.out.trans (hb5.mono HBU4.out.size);have hol:=HOL.out;obtain⟨v1,w6,hrun,rown,hgrow,hkept⟩:=run_append_row (P:=Tryz.prog) w5 u2.heap.size 75 75 3 i0 (.int .i64 0) 1 8 (by kernel_rfl) HI.out HZ0.out HZ1.out HZ2.out rfl (by intro u hu;simp[Value.cells] at hu;subst hu;exact NoWord.int _) _ out.length _ hrow5 ⟨w4.heap.size,0,none⟩ 1 1 [.int .i64 (q:Int)] (by omega) rfl pn.news (by intro u hu;simp at hu;subst hu;rfl) (by intro u hu;simp at hu;subst hu;exact NoWord.int _) (by unfold maxLen;omega) (by omega) hbu5.size;have hbu6:Below u2.heap.size u2 w6:=hbu5.grown hgrow hbu5.size (fun q hq=>(hrow5.lt q hq).1);have hbw6:Below w2.heap.size w2 w6:=hbw5.grown hgrow hbw5.size (fun q hq=>Nat.le_trans HBU.out.size (hrow5.lt q hq).1);have rown:RowN w6 u2.heap.size 3 1 v1 (out++[(q:Int)]).length (intCells (out++[(q:Int)])):=by rw[intCells_app,List.length_append];exact rown
        have ROW6:=Lib.hid rown;have HBW6:=Lib.hid hbw6;have HBU6:=Lib.hid hbu6;clear pn hb5 hs5 hrow5 hbw5 hbu5 hgrow hkept hbu6 hbw6 rown;by_cases hxl:x=last
        · have hxe:(x==last)=true:=by simp[hxl]
          rw[if_pos hxl] at hf;have HFI:=Lib.hid (FIN.out _ w6 v1 hf ROW6.out HBW6.out);clear hf hxl;go_wp2_with (refine wpList_append_row rfl _ _ 75 rfl rfl rfl hrun ?_);go_ret;exact⟨_,rfl,HFI.out⟩
        · have hxe:(x==last)=false:=by simp[hxl]
          rw[if_neg hxl] at hf;cases hnx:nextM S fa x with|none=>rw[hnx] at hf;cases hf|some y=>
            rw[hnx] at hf;have HNX:=Lib.hid (stNext_any x fa y w6 (HM.out.below HBW6.out) hnx);have HF2:=Lib.hid hf;have e0:=(PF.out.below HBW6.out).c 0 _ rfl;clear hf hxl hnx;go_wp2_with (refine wpList_append_row rfl _ _ 75 rfl rfl rfl hrun ?_);refine HNX.out.mono ?_;rintro e w7 ⟨rfl,hb7⟩;have HBW7:=Lib.hid (HBW6.out.trans (hb7.mono HBW6.out.size));have HBU7:=Lib.hid (HBU6.out.trans (hb7.mono HBU6.out.size));have ROW7:=Lib.hid (ROW6.out.below hb7);clear hb7 e0;go_wp2;refine⟨⟨k+1,y,_,_,by omega,by go_num,rfl,rfl,ROW7.out,by simp;omega,?_,HBW7.out,HBU7.out⟩,by simp[intOf];omega⟩;have hm1:=HM1.out;rw[show n-(k+1)=m by omega];exact HF2.out
    · have hke:n-k=0:=by omega
      rw[hke] at hf;have HFI:=Lib.hid (FIN.out out wr vv hf hrow hbw);clear hf hrow hbw hbu hke;go_wp2;go_ret;exact⟨_,rfl,HFI.out⟩
def cenP(P:List (Int×Int))(T:TriM):Rat×Rat:=(cx (ptA P T.v0.toNat).1 (ptA P T.v0.toNat).2 (ptA P T.v1.toNat).1 (ptA P T.v1.toNat).2 (ptA P T.v2.toNat).1 (ptA P T.v2.toNat).2,cy (ptA P T.v0.toNat).1 (ptA P T.v0.toNat).2 (ptA P T.v1.toNat).1 (ptA P T.v1.toNat).2 (ptA P T.v2.toNat).1 (ptA P T.v2.toNat).2)
def cenS(P:List (Int×Int))(S:List TriM)(x:Int):Rat×Rat:=match getT S x with|some T=>cenP P T|none=>(0,0)
def TrisOk(P:List (Int×Int))(S:List TriM)(ts:List Int):Prop:=∀x∈ts,∃(t:Nat) (T:TriM) (a b c:Nat),x=(t:Int)∧S[t]?=some T∧T.v0=(a:Int)∧T.v1=(b:Int)∧T.v2=(c:Int)∧a<P.length∧b<P.length∧c<P.length∧crs (ptA P a).1 (ptA P a).2 (ptA P b).1 (ptA P b).2 (ptA P c).1 (ptA P c).2≠0
set_option maxRecDepth 100000 in set_option maxHeartbeats 16000000 in theorem stCentres_any{mb pb pc:Nat}{ta:Option Addr}{tcc:Nat}{P:List (Int×Int)}{S:List TriM}(ts:List Int)(g n c:Nat)(w:World)(hm:MeshR w mb pb pc ta tcc P S)(hts:∀j v,ts[j]?=some v→w.cell? ⟨g,j,none⟩=some (.int .i64 v))(hn:ts.length=n)(hn9:n≤100000)(hok:TrisOk P S ts)(hin:InPs P):Calls Tryz.prog 109 #[.pointer (some ⟨mb,0,none⟩),.slice (some ⟨g,0,none⟩) n c] w fun e w'=>∃v xs,e= .returned v∧RowN w' w.heap.size 70 6 v n xs∧SrR w' 7 xs (ts.map (cenS P S))∧Below w.heap.size w w':=by
  have hB_0:=Below.refl w.heap.size w;have HM:=Lib.hid hm;have HTS:=Lib.hid (show∀wr,Below w.heap.size w wr→∀j v,ts[j]?=some v→wr.cell? ⟨g,j,none⟩=some (.int .i64 v) from fun wr hb j v hj=>(hb.cell (World.block_lt_of_cell? _ _ (hts j v hj))).trans (hts j v hj));have HN:=Lib.hid hn;have HOK:=Lib.hid hok;have HIN:=Lib.hid hin;clear hm hts hn hok hin;obtain⟨i0,hi,hz0,hz1,hz2⟩:=info_parts info_spotL;have Hi:=Lib.hid hi;have Hi0:=Lib.hid hz0;have Hi1:=Lib.hid hz1;have Hi2:=Lib.hid hz2;clear hi hz0 hz1 hz2;go_enter Tryz.func109,Tryz.ntmps109;go_wp2;clear hB_0;go_loopw [5,7,8,9,10,11,12,15,30] (fun pv _ _ _ _ _ _ iv _ wr=>∃k:Nat,∃xs:List Value,∃u:Value,k≤n∧iv= .int .i64 k∧u=pv∧RowN wr w.heap.size 70 6 u k xs∧SrR wr 7 xs ((ts.map (cenS P S)).take k)∧Below w.heap.size w wr) (fun _ _ _ _ _ _ _ iv _ _=>n-(intOf iv).toNat);case atStart=>exact⟨0,[],_,Nat.zero_le _,rfl,rfl,RowN.nil _ _ _ _,SrR.nil _ _,Below.refl _ _⟩
  case round=>
    obtain⟨k,xs,u,hk,rfl,hu,row_0,sr_0,hB_0⟩:=hrel;subst hu;by_cases hlt:k<n
    · have hlt':decide ((k:Int)<(n:Int))=true:=decide_eq_true (by omega);obtain⟨x,hx⟩:∃x,ts[k]?=some x:=⟨_,List.getElem?_eq_getElem (by rw[HN.out];exact hlt)⟩;obtain⟨t,T,va,vb,vc,ex,hT,ea,eb,ec,hva,hvb,hvc,hne⟩:=HOK.out _ (List.mem_of_getElem? hx);subst ex;obtain⟨⟨a0,a1⟩,hA⟩:∃q,P[va]?=some q:=⟨_,List.getElem?_eq_getElem hva⟩;obtain⟨⟨b0,b1⟩,hB'⟩:∃q,P[vb]?=some q:=⟨_,List.getElem?_eq_getElem hvb⟩;obtain⟨⟨c0,c1⟩,hC⟩:∃q,P[vc]?=some q:=⟨_,List.getElem?_eq_getElem hvc⟩;rw[ptA_ofL hA,ptA_ofL hB',ptA_ofL hC] at hne;simp only[] at hne;have hcr:cenS P S (t:Int)=(cx a0 a1 b0 b1 c0 c1,cy a0 a1 b0 b1 c0 c1):=by unfold cenS;rw[getT_nat,hT];unfold cenP;simp only[ea,eb,ec,Int.toNat_natCast];rw[ptA_ofL hA,ptA_ofL hB',ptA_ofL hC]
      have hTk:(ts.map (cenS P S)).take (k+1)=(ts.map (cenS P S)).take k++[(cx a0 a1 b0 b1 c0 c1,cy a0 a1 b0 b1 c0 c1)]:=by rw[List.take_add_one,List.getElem?_map,hx];exact congrArg _ (congrArg (fun z=>[z]) hcr)
      have iA:=HIN.out _ (List.mem_of_getElem? hA);have iB:=HIN.out _ (List.mem_of_getElem? hB');have iC:=HIN.out _ (List.mem_of_getElem? hC);have xc:=HTS.out wr hB_0 k _ hx;have hmr:=HM.out.below hB_0;obtain⟨len,hlen⟩:∃len,S.length=len:=⟨_,rfl⟩;have tl:=(List.getElem?_eq_some_iff.1 hT).1;have m1:=hmr.box.c 1 _ rfl;obtain⟨tb,hta,-,h9⟩:=hmr.tris.get hT;obtain⟨t0,t1,t2,-,-,-,-,-,-⟩:=h9;rw[ea] at t0;rw[eb] at t1;rw[ec] at t2;rw[hlen,hta] at m1;rw[hlen] at tl;have HA:=Lib.hid hA;have HBB:=Lib.hid hB';have HCC:=Lib.hid hC;have HNE:=Lib.hid hne;have HTK:=Lib.hid hTk;have HIA:=Lib.hid iA;have HIB:=Lib.hid iB;have HIC:=Lib.hid iC;have HT:=Lib.hid hT;have j1:(0:Int)≤(k:Int):=by omega
      have j2:(k:Int)<(n:Int):=by omega
      have j3:(0:Int)≤(t:Int):=by omega
      have j4:(t:Int)<(len:Int):=by omega
      have hxl:xs.length=((ts.map (cenS P S)).take k).length*6:=by rw[row_0.1,List.length_take,List.length_map,HN.out];omega
      have HXL:=Lib.hid hxl;have hrlt:=row_0.lt;have HROW:=Lib.hid row_0;have HSRR:=Lib.hid sr_0;have hX_0:=Below.refl wr.heap.size wr;have HMC:=Lib.hid (show∀W,Below wr.heap.size wr W→W.cell? ⟨mb,1,none⟩=some (.slice (some ⟨tb,0,none⟩) len tcc)∧W.cell? ⟨tb,t*9,none⟩=some (.int .i64 (va:Int))∧W.cell? ⟨tb,t*9+1,none⟩=some (.int .i64 (vb:Int))∧W.cell? ⟨tb,t*9+2,none⟩=some (.int .i64 (vc:Int)) from fun W hb=>⟨(hb.cell (World.block_lt_of_cell? _ _ m1)).trans m1,(hb.cell (World.block_lt_of_cell? _ _ t0)).trans t0,(hb.cell (World.block_lt_of_cell? _ _ t1)).trans t1,(hb.cell (World.block_lt_of_cell? _ _ t2)).trans t2⟩);clear hx hT ea eb ec hA hB' hC hne hcr hTk iA iB iC hmr hlen tl m1 hta t0 t1 t2 hxl hva hvb hvc row_0 sr_0;have hl1B:=hB_0.size;obtain⟨w1,hw1,pl_0,hb1,hs1⟩:=new_box wr (wr.heap.size) rfl [.int .i64 0,.int .i64 0,.int .i64 0,.int .i64 0,.int .i64 0,.int .i64 0] 198;have hb1':Below wr.heap.size wr w1:=hb1.mono (by omega);clear hb1;have hB_1:=hB_0.trans (hb1'.mono hB_0.size);have hX_1:=hX_0.trans (hb1'.mono hX_0.size);clear hb1' hB_0 hX_0;go_wp2_with fail;try clear hw1
      refine(stThere_any t T _ (HM.out.below hB_1) HT.out).mono ?_;rintro e ww ⟨rfl,rfl⟩;obtain⟨m1,t0,t1,t2⟩:=HMC.out _ hX_1;clear xc;go_wp2;clear m1 t0 t1 t2;have ix0:∀W:World,(Instr.index 39 (.agg #[.int .i64 (va:Int),.int .i64 (vb:Int),.int .i64 (vc:Int)]) (.int .i64 0)).run Tryz.prog W= .ok (.int .i64 (va:Int)) W:=fun W=>by kernel_rfl
      have ix1:∀W:World,(Instr.index 39 (.agg #[.int .i64 (va:Int),.int .i64 (vb:Int),.int .i64 (vc:Int)]) (.int .i64 1)).run Tryz.prog W= .ok (.int .i64 (vb:Int)) W:=fun W=>by kernel_rfl
      have ix2:∀W:World,(Instr.index 39 (.agg #[.int .i64 (va:Int),.int .i64 (vb:Int),.int .i64 (vc:Int)]) (.int .i64 2)).run Tryz.prog W= .ok (.int .i64 (vc:Int)) W:=fun W=>by kernel_rfl
      refine wp_loop_rounds 4 ?_;rw[rounds_succ];go_wp2_with fail;refine(stPoint_any va a0 a1 _ (HM.out.below hB_1) HA.out).mono ?_;rintro e w2 ⟨rfl,hb2⟩;have hB_2:=hB_1.trans (hb2.mono hB_1.size);have hX_2:=hX_1.trans (hb2.mono hX_1.size);have pl_1:=pl_0.below hb2;clear hb2 hB_1 hX_1 pl_0;have sf1c0:=pl_1.c 0 _ rfl;have sf1f0:=pl_1.f 0 _ rfl;have sf1b0:Box (World.setCell w2 ⟨wr.heap.size,0,none⟩ (.int .i64 a0)) (wr.heap.size) [.int .i64 a0,.int .i64 0,.int .i64 0,.int .i64 0,.int .i64 0,.int .i64 0]:=pl_1.set 0 (.int .i64 a0);have sf1c1:=sf1b0.c 1 _ rfl;have sf1f1:=sf1b0.f 1 _ rfl;go_wp2;clear sf1c0 sf1f0 sf1b0 sf1c1 sf1f1;have hB_3:=below_setFrom (g:=wr.heap.size) (by omega) [.int .i64 a0,.int .i64 a1] 0 hB_2;have hX_3:=below_setFrom (g:=wr.heap.size) (by omega) [.int .i64 a0,.int .i64 a1] 0 hX_2;simp only[setAll,Nat.zero_add] at hB_3 hX_3;have pl_2:Box (World.setCell (World.setCell w2 ⟨wr.heap.size,0,none⟩ (.int .i64 a0)) ⟨wr.heap.size,1,none⟩ (.int .i64 a1)) (wr.heap.size) [.int .i64 a0,.int .i64 a1,.int .i64 0,.int .i64 0,.int .i64 0,.int .i64 0]:=((pl_1.set 0 (.int .i64 a0)).set 1 (.int .i64 a1));clear hB_2 hX_2 pl_1;generalize (World.setCell (World.setCell w2 ⟨wr.heap.size,0,none⟩ (.int .i64 a0)) ⟨wr.heap.size,1,none⟩ (.int .i64 a1))=w3 at*;rw[rounds_succ];go_wp2_with fail;refine(stPoint_any vb b0 b1 _ (HM.out.below hB_3) HBB.out).mono ?_;rintro e w4 ⟨rfl,hb4⟩;have hB_4:=hB_3.trans (hb4.mono hB_3.size);have hX_4:=hX_3.trans (hb4.mono hX_3.size);have pl_3:=pl_2.below hb4;clear hb4 hB_3 hX_3 pl_2;have sf2c0:=pl_3.c 2 _ rfl;have sf2f0:=pl_3.f 2 _ rfl;have sf2b0:Box (World.setCell w4 ⟨wr.heap.size,2,none⟩ (.int .i64 b0)) (wr.heap.size) [.int .i64 a0,.int .i64 a1,.int .i64 b0,.int .i64 0,.int .i64 0,.int .i64 0]:=pl_3.set 2 (.int .i64 b0);have sf2c1:=sf2b0.c 3 _ rfl;have sf2f1:=sf2b0.f 3 _ rfl;go_wp2;clear sf2c0 sf2f0 sf2b0 sf2c1 sf2f1;have hB_5:=below_setFrom (g:=wr.heap.size) (by omega) [.int .i64 b0,.int .i64 b1] 2 hB_4;have hX_5:=below_setFrom (g:=wr.heap.size) (by omega) [.int .i64 b0,.int .i64 b1] 2 hX_4;simp only[setAll,Nat.reduceAdd] at hB_5 hX_5;have pl_4:Box (World.setCell (World.setCell w4 ⟨wr.heap.size,2,none⟩ (.int .i64 b0)) ⟨wr.heap.size,3,none⟩ (.int .i64 b1)) (wr.heap.size) [.int .i64 a0,.int .i64 a1,.int .i64 b0,.int .i64 b1,.int .i64 0,.int .i64 0]:=((pl_3.set 2 (.int .i64 b0)).set 3 (.int .i64 b1));clear hB_4 hX_4 pl_3;generalize (World.setCell (World.setCell w4 ⟨wr.heap.size,2,none⟩ (.int .i64 b0)) ⟨wr.heap.size,3,none⟩ (.int .i64 b1))=w5 at*;rw[rounds_succ];go_wp2_with fail;refine(stPoint_any vc c0 c1 _ (HM.out.below hB_5) HCC.out).mono ?_;rintro e w6 ⟨rfl,hb6⟩;have hB_6:=hB_5.trans (hb6.mono hB_5.size);have hX_6:=hX_5.trans (hb6.mono hX_5.size);have pl_5:=pl_4.below hb6;clear hb6 hB_5 hX_5 pl_4;have sf3c0:=pl_5.c 4 _ rfl;have sf3f0:=pl_5.f 4 _ rfl;have sf3b0:Box (World.setCell w6 ⟨wr.heap.size,4,none⟩ (.int .i64 c0)) (wr.heap.size) [.int .i64 a0,.int .i64 a1,.int .i64 b0,.int .i64 b1,.int .i64 c0,.int .i64 0]:=pl_5.set 4 (.int .i64 c0);have sf3c1:=sf3b0.c 5 _ rfl;have sf3f1:=sf3b0.f 5 _ rfl;go_wp2;clear sf3c0 sf3f0 sf3b0 sf3c1 sf3f1;have hB_7:=below_setFrom (g:=wr.heap.size) (by omega) [.int .i64 c0,.int .i64 c1] 4 hB_6;have hX_7:=below_setFrom (g:=wr.heap.size) (by omega) [.int .i64 c0,.int .i64 c1] 4 hX_6;simp only[setAll,Nat.reduceAdd] at hB_7 hX_7;have pl_6:Box (World.setCell (World.setCell w6 ⟨wr.heap.size,4,none⟩ (.int .i64 c0)) ⟨wr.heap.size,5,none⟩ (.int .i64 c1)) (wr.heap.size) [.int .i64 a0,.int .i64 a1,.int .i64 b0,.int .i64 b1,.int .i64 c0,.int .i64 c1]:=((pl_5.set 4 (.int .i64 c0)).set 5 (.int .i64 c1));clear hB_6 hX_6 pl_5;generalize (World.setCell (World.setCell w6 ⟨wr.heap.size,4,none⟩ (.int .i64 c0)) ⟨wr.heap.size,5,none⟩ (.int .i64 c1))=w7 at*;rw[rounds_succ];clear ix0 ix1 ix2;obtain⟨ple0,ple1,ple2,ple3,ple4,ple5,ple6,ple7,ple8,ple9,ple10,ple11⟩:=pl_6.open6;go_wp2_with fail;clear ple0 ple1 ple2 ple3 ple4 ple5 ple6 ple7 ple8 ple9 ple10 ple11;refine(sCentre_s a0 a1 b0 b1 c0 c1 HIA.out.1 HIA.out.2 HIB.out.1 HIB.out.2 HIC.out.1 HIC.out.2 HNE.out _).mono ?_;rintro e w8 ⟨m3x,o3x,n3x,c3x,p3x,k3x,d3x,m3y,o3y,n3y,c3y,p3y,k3y,d3y,rfl,f3x_0,f3y_0,hb8⟩;clear pl_6;have hB_8:=hB_7.trans (hb8.mono hB_7.size);have hX_8:=hX_7.trans (hb8.mono hX_7.size);clear hb8 hB_7 hX_7;have row_0:=HROW.out.below hX_8;have sr_0:=HSRR.out.below hX_8;have hrlw:=hX_8.size;clear hX_8;have hl2B:=hB_8.size;obtain⟨w9,hw9,pq_0,hb9,hs9⟩:=new_box w8 (w8.heap.size) rfl [.bool m3x,.slice o3x n3x c3x,.slice p3x k3x d3x,.bool m3y,.slice o3y n3y c3y,.slice p3y k3y d3y] 70;have hb9':Below w8.heap.size w8 w9:=hb9.mono (by omega);clear hb9;have hB_9:=hB_8.trans (hb9'.mono hB_8.size);have f3x_1:=f3x_0.below hb9';have f3y_1:=f3y_0.below hb9';have row_1:=row_0.below hb9';have sr_1:=sr_0.below hb9';clear hb9' hB_8 f3x_0 f3y_0 row_0 sr_0;have lq0:=pq_0.c 0 _ rfl;have lq1:=pq_0.c 1 _ rfl;have lq2:=pq_0.c 2 _ rfl;have lq3:=pq_0.c 3 _ rfl;have lq4:=pq_0.c 4 _ rfl;have lq5:=pq_0.c 5 _ rfl;have hl3pq:=pq_0.lt;have hl3B:=hB_9.size;obtain⟨w10,hw10,pz_0,hb10,hs10⟩:=new_box w9 (w8.heap.size+1) hs9 [.bool m3x,.slice o3x n3x c3x,.slice p3x k3x d3x,.bool m3y,.slice o3y n3y c3y,.slice p3y k3y d3y] 70;have hb10':Below w9.heap.size w9 w10:=hb10.mono (by omega);clear hb10;have hB_10:=hB_9.trans (hb10'.mono hB_9.size);have f3x_2:=f3x_1.below hb10';have f3y_2:=f3y_1.below hb10';have row_2:=row_1.below hb10';have sr_2:=sr_1.below hb10';have pq_1:=pq_0.below hb10';clear hb10' hB_9 f3x_1 f3y_1 row_1 sr_1 pq_0;have hzpq:=pq_1.lt;have hzpz:=pz_0.lt;obtain⟨v1,wa,hrun,rown,hgrow,hkept,hnew⟩:=run_append_row' (P:=Tryz.prog) w10 (w.heap.size) 104 104 70 i0 (.agg #[.bool false,.slice none 0 0,.slice none 0 0,.bool false,.slice none 0 0,.slice none 0 0]) 6 112 (by kernel_rfl) Hi.out Hi0.out Hi1.out Hi2.out rfl (noWord6 _ _ _ _ _ _ _ _ _ _ _ _ _ _) u k xs row_2 ⟨w8.heap.size+1,0,none⟩ 1 1 [.bool m3x,.slice o3x n3x c3x,.slice p3x k3x d3x,.bool m3y,.slice o3y n3y c3y,.slice p3y k3y d3y] (by omega) rfl pz_0.news (by intro u hu;simp at hu;rcases hu with rfl|rfl|rfl|rfl|rfl|rfl<;>rfl) (noWord6 _ _ _ _ _ _ _ _ _ _ _ _ _ _) (by unfold maxLen;omega) (by omega) (by have:=hB_10.size;omega);go_wp2_with (refine wpList_append_row rfl _ _ 104 rfl rfl rfl hrun ?_);clear row_2 hrun;have hB_11:=hB_10.grown hgrow (by have:=hB_10.size;omega) (fun k hk=>by have:=hrlt k hk;omega);have f3x_3:=f3x_2.kept hkept;have f3y_3:=f3y_2.kept hkept;have sr_3:=sr_2.kept hkept;clear hB_10 f3x_2 f3y_2 sr_2;have hsn:=sr_3.append (SrR.one f3x_3 f3y_3);go_wp2;refine⟨⟨k+1,_,_,by omega,by go_num,rfl,rown,?_,hB_11⟩,by simp[intOf];omega⟩;rw[HTK.out];exact hsn
    · have hlt':decide ((k:Int)<(n:Int))=false:=decide_eq_false (by omega);have hke:k=n:=by omega
      have hsr:SrR wr 7 xs (ts.map (cenS P S)):=by
        have h:=sr_0;rw[List.take_of_length_le (by rw[List.length_map,HN.out];omega)] at h;exact h
      have HSR:=Lib.hid hsr;have HROW:=Lib.hid (show RowN wr w.heap.size 70 6 u n xs by rw[←hke];exact row_0);have HBW:=Lib.hid hB_0;clear hsr row_0 sr_0 hB_0;go_wp2;go_ret;exact⟨u,xs,rfl,HROW.out,HSR.out,HBW.out⟩
end Go.Proofs.YtammmemfkpcpcaaGreat
namespace Go.MagM
open Go.RowKit
def FansOk(S:List TriM)(ts:List Int)(R:List SideM)(FL:Nat→List Int):Prop:=∀i s s',R[i]?=some s→R[(i+R.length-1)%R.length]?=some s'→∃(fo fi go gi:Nat) (TF TG:TriM),s.u=(fo:Int)∧s.i=(fi:Int)∧s'.u=(go:Int)∧s'.i=(gi:Int)∧S[fo]?=some TF∧S[go]?=some TG∧fi<3∧gi<3∧fanM S ts s.a (TG.n gi) ts.length (TF.n fi) []=some (FL i)∧(FL i).length≤60∧∀f∈FL i,∃q:Nat,f=(q:Int)∧q<ts.length
end Go.MagM
namespace Go.Proofs.YtammmemfkpcpcaaGreat
open Go.RowKit Go.MagM
def takenL(P:List (Int×Int))(S:List TriM)(p0 p1:Int)(R:List SideM)(ts:List Int)(FL:Nat→List Int)(i:Nat):List (Rat×Rat):=[cornR P p0 p1 (R.getD ((i+R.length-1)%R.length) sd0),cornR P p0 p1 (R.getD i sd0)]++(FL i).map (fun f=>cenS P S (ts.getD f.toNat 0))
def areaL(P:List (Int×Int))(S:List TriM)(p0 p1:Int)(R:List SideM)(ts:List Int)(FL:Nat→List Int)(i:Nat):Int×Rat:=((R.getD i sd0).a,areaQ (takenL P S p0 p1 R ts FL i))
def areasL(P:List (Int×Int))(S:List TriM)(p0 p1:Int)(R:List SideM)(ts:List Int)(FL:Nat→List Int):List (Int×Rat):=(List.range R.length).map (areaL P S p0 p1 R ts FL)
set_option maxRecDepth 100000 in set_option maxHeartbeats 32000000 in theorem stAreas_any{mb pb pc:Nat}{ta:Option Addr}{tcc:Nat}{P:List (Int×Int)}{S:List TriM}(p0 p1:Int)(tg tn tc:Nat)(ro:Option Addr)(rn rc:Nat)(ct:Bool)(R:List SideM)(ts:List Int)(FL:Nat→List Int)(base:Nat)(w:World)(hm:MeshR w mb pb pc ta tcc P S)(hrim:RowN w base 161 5 (.slice ro rn rc) rn (sideCells R))(hrl:R.length=rn)(hr0:0<rn)(hr9:rn≤1000)(hok:SidesOk P p0 p1 R)(hin:InPs P)(hp:InP p0∧InP p1)(hts:∀j v,ts[j]?=some v→w.cell? ⟨tg,j,none⟩=some (.int .i64 v))(htn:ts.length=tn)(ht9:tn≤1000)(hto:TrisOk P S ts)(hso:ts.Pairwise (·≤·))(hfan:FansOk S ts R FL):Calls Tryz.prog 46 #[.pointer (some ⟨mb,0,none⟩),.agg #[.int .i64 p0,.int .i64 p1],.agg #[.slice (some ⟨tg,0,none⟩) tn tc,.slice ro rn rc,.bool ct]] w fun e w'=>∃v xs,e= .returned v∧RowN w' w.heap.size 61 4 v rn xs∧ShR w' 2233 xs (areasL P S p0 p1 R ts FL)∧Below w.heap.size w w':=by
  obtain⟨rg,rfl⟩:∃rg,ro=some ⟨rg,0,none⟩:=by
    rcases hrim.2 with⟨h1,h2⟩|⟨rg,cap,cur,h1,-⟩;·omega
    ·exact⟨rg,by injection h1⟩
  obtain⟨i0,hi,hz0,hz1,hz2⟩:=info_parts info_spotL;have HI:=Lib.hid hi;have HI0:=Lib.hid hz0;have HI1:=Lib.hid hz1;have HI2:=Lib.hid hz2;clear hi hz0 hz1 hz2;obtain⟨j0,hi,hz0,hz1,hz2⟩:=info_parts info_share;have HJ:=Lib.hid hi;have HJ0:=Lib.hid hz0;have HJ1:=Lib.hid hz1;have HJ2:=Lib.hid hz2;clear hi hz0 hz1 hz2;obtain⟨w1,hw1,pp,hb1,hs1⟩:=new_box w _ rfl [.int .i64 p0,.int .i64 p1] 24;obtain⟨w2,hw2,pc2,hb2,hs2⟩:=new_box w1 _ hs1 [.slice (some ⟨tg,0,none⟩) tn tc,.slice (some ⟨rg,0,none⟩) rn rc,.bool ct] 99;have HB2:=Lib.hid (show Below w.heap.size w w2 from hb1.trans (hb2.mono (by omega)));have HM:=Lib.hid (hm.below HB2.out);have HRIM:=Lib.hid (hrim.below HB2.out);have HRL:=Lib.hid hrl;have HOK:=Lib.hid hok;have HIN:=Lib.hid hin;have HP:=Lib.hid hp;have HTN:=Lib.hid htn;have HTO:=Lib.hid hto;have HSO:=Lib.hid hso;have HFN:=Lib.hid hfan;have PP:=Lib.hid (pp.below (hb2.mono (by omega)));have PC:=Lib.hid pc2;have HTS:=Lib.hid (show∀wr,Below w2.heap.size w2 wr→∀j v,ts[j]?=some v→wr.cell? ⟨tg,j,none⟩=some (.int .i64 v) from fun wr hb j v hj=>(hb.cell (World.block_lt_of_cell? _ _ ((HB2.out.cell (World.block_lt_of_cell? _ _ (hts j v hj))).trans (hts j v hj)))).trans ((HB2.out.cell (World.block_lt_of_cell? _ _ (hts j v hj))).trans (hts j v hj)));have CC:=Lib.hid (show∀w',Below w2.heap.size w2 w'→w'.cell? ⟨w.heap.size,0,none⟩=some (.int .i64 p0)∧w'.cell? ⟨w.heap.size,1,none⟩=some (.int .i64 p1)∧w'.cell? ⟨w.heap.size+1,0,none⟩=some (.slice (some ⟨tg,0,none⟩) tn tc)∧w'.cell? ⟨w.heap.size+1,1,none⟩=some (.slice (some ⟨rg,0,none⟩) rn rc)∧w'.cell? ⟨w.heap.size+1,2,none⟩=some (.bool ct) from fun w' hb=>by have p:=PP.out.below hb;have q:=PC.out.below hb;exact⟨p.c 0 _ rfl,p.c 1 _ rfl,q.c 0 _ rfl,q.c 1 _ rfl,q.c 2 _ rfl⟩);clear hm hrim hrl hok hin hp hts htn hto hso hfan pp pc2 hb1 hb2 hs2;go_enter Tryz.func46,Tryz.ntmps46;go_wp2;clear hw1 hw2 hs1;have hB_0:=(Below.refl w2.heap.size w2).drew';refine wp_region_noPanic ?_;refine wp_region_held_drew (S:=fun w'=>w'.cell? ⟨w.heap.size,0,none⟩=some (.int .i64 p0)∧w'.cell? ⟨w.heap.size,1,none⟩=some (.int .i64 p1)∧w'.cell? ⟨w.heap.size+1,0,none⟩=some (.slice (some ⟨tg,0,none⟩) tn tc)∧w'.cell? ⟨w.heap.size+1,1,none⟩=some (.slice (some ⟨rg,0,none⟩) rn rc)∧w'.cell? ⟨w.heap.size+1,2,none⟩=some (.bool ct)) (by kernel_rfl) (CC.out _ hB_0) (fun hHeld=>?_);refine rU 0 _ _ ?_;refine rU 1 _ _ ?_;refine rU 2 _ _ ?_;refine rU 4 _ _ ?_;refine rU 5 _ _ ?_;refine rU 6 _ _ ?_;refine rC 3 _ (fun K hK=>?_);go_simp;refine(stCell_any p0 p1 (some ⟨tg,0,none⟩) tn tc (some ⟨rg,0,none⟩) rn rc ct R base _ (HM.out.below hB_0) (HRIM.out.below hB_0) HRL.out (by omega) HOK.out HIN.out HP.out).mono ?_;rintro e u1 ⟨cv,cxs,rfl,crow_0,csr_0,hbhB1⟩;obtain⟨co,cc,rfl⟩:=crow_0.shape;have hB_1:=hB_0.trans (hbhB1.mono hB_0.size);clear hbhB1;go_wp2_with fail;refine hK.out _ _ (CC.out _ hB_1) (fun hHeld=>?_);clear hK K;try simp only[Act.put,sA,sZ,sS]
  refine rC 7 _ (fun K hK=>?_);go_simp;refine(stCentres_any ts tg tn tc _ (HM.out.below hB_1) (HTS.out _ hB_1) HTN.out (by omega) HTO.out HIN.out).mono ?_;rintro e u2 ⟨mv,mxs,rfl,mrow_0,msr_0,hbhB2⟩;obtain⟨mo,mc,rfl⟩:=mrow_0.shape;have crow_1:=crow_0.below hbhB2;have csr_1:=csr_0.below hbhB2;have hB_2:=hB_1.trans (hbhB2.mono hB_1.size);clear hbhB2;go_wp2_with fail;refine hK.out _ _ (CC.out _ hB_2) (fun hHeld=>?_);clear hK K;try simp only[Act.put,sA,sZ,sS]
  refine rU 8 _ _ ?_;refine rU 9 _ _ ?_;refine wpAnyH_done (by kernel_rfl) ?_ _;refine NoPanic.normal ?_;have HCROW:=Lib.hid crow_1;have HCSR:=Lib.hid csr_1;have HMROW:=Lib.hid mrow_0;have HMSR:=Lib.hid msr_0;have HBU:=Lib.hid hB_2;have lc0:=(PC.out.below hB_2).c 0 _ rfl;have lc1:=(PC.out.below hB_2).c 1 _ rfl;clear hHeld hB_0 hB_1 hB_2 crow_0 csr_0 crow_1 csr_1 mrow_0 msr_0;go_wp2;clear lc0 lc1;go_loopw [10,11,12,13,14,16,31,62] (fun pv _ _ _ _ _ iv _ wr=>∃k:Nat,∃xs:List Value,∃u:Value,k≤rn∧iv= .int .i64 k∧u=pv∧RowN wr u2.heap.size 61 4 u k xs∧ShR wr 2233 xs ((areasL P S p0 p1 R ts FL).take k)∧Below u2.heap.size u2 wr) (fun _ _ _ _ _ _ iv _ _=>rn-(intOf iv).toNat);case atStart=>exact⟨0,[],_,Nat.zero_le _,rfl,rfl,RowN.nil _ _ _ _,ShR.nil _ _,Below.refl _ _⟩
  case round=>
    obtain⟨k,xs,u,hk,rfl,hu,row_0,sh_0,hB_0⟩:=hrel;subst hu;by_cases hlt:k<rn
    · have hlt':decide ((k:Int)<(rn:Int))=true:=decide_eq_true (by omega);obtain⟨⟨sa,sb,so,si,sf⟩,hs⟩:∃s,R[k]?=some s:=⟨_,List.getElem?_eq_getElem (by rw[HRL.out];exact hlt)⟩;obtain⟨va,vb,ea,eb,hva,hvb,hne⟩:=HOK.out _ (List.mem_of_getElem? hs);simp only[] at ea eb;subst ea;subst eb;obtain⟨j,hj⟩:∃j,(k+rn-1)%rn=j:=⟨_,rfl⟩;have hjn:j<rn:=by rw[←hj];exact Nat.mod_lt _ (by omega)
      obtain⟨⟨xa,xb,xo,xi,xf⟩,hs'⟩:∃s,R[j]?=some s:=⟨_,List.getElem?_eq_getElem (by rw[HRL.out];exact hjn)⟩;obtain⟨fo,fi,go,gi,TF,TG,e1,e2,e3,e4,hTF,hTG,hfi,hgi,hfan,hfl,hfq⟩:=HFN.out k _ _ hs (by rw[HRL.out,hj];exact hs');simp only[] at e1 e2 e3 e4 hfan;subst e1;subst e2;subst e3;subst e4;obtain⟨F,hF⟩:∃F,FL k=F:=⟨_,rfl⟩;rw[hF] at hfan hfl hfq;rw[HTN.out] at hfan hfq;obtain⟨⟨x1,y1⟩,hc1⟩:∃q,cornR P p0 p1 ⟨xa,xb,(go:Int),(gi:Int),xf⟩=q:=⟨_,rfl⟩;obtain⟨⟨x2,y2⟩,hc2⟩:∃q,cornR P p0 p1 ⟨(va:Int),(vb:Int),(fo:Int),(fi:Int),sf⟩=q:=⟨_,rfl⟩;have hk1:(R.map (cornR P p0 p1))[j]?=some (x1,y1):=by rw[List.getElem?_map,hs'];exact congrArg some hc1
      have hk2:(R.map (cornR P p0 p1))[k]?=some (x2,y2):=by rw[List.getElem?_map,hs];exact congrArg some hc2
      have htk:takenL P S p0 p1 R ts FL k=[(x1,y1),(x2,y2)]++F.map (fun f=>cenS P S (ts.getD f.toNat 0)):=by
        unfold takenL;rw[HRL.out,hj,hF,List.getD_eq_getElem?_getD,List.getD_eq_getElem?_getD,hs,hs'];simp only[Option.getD_some];rw[hc1,hc2]
      have hT:(areasL P S p0 p1 R ts FL).take (k+1)=(areasL P S p0 p1 R ts FL).take k++[((va:Int),areaQ ([(x1,y1),(x2,y2)]++F.map (fun f=>cenS P S (ts.getD f.toNat 0))))]:=by
        have e:(areasL P S p0 p1 R ts FL)[k]?=some ((va:Int),areaQ ([(x1,y1),(x2,y2)]++F.map (fun f=>cenS P S (ts.getD f.toNat 0)))):=by
          unfold areasL;rw[List.getElem?_map,List.getElem?_range (by rw[HRL.out];exact hlt)];refine congrArg some ?_;unfold areaL;rw[htk,List.getD_eq_getElem?_getD,hs];rfl
        rw[List.take_add_one,e];rfl
      have HT:=Lib.hid hT;have HTF:=Lib.hid hTF;have HTG:=Lib.hid hTG;have HFAN:=Lib.hid hfan;have HFQ:=Lib.hid hfq;have hr0':=HRIM.out.below (HBU.out.trans (hB_0.mono HBU.out.size));have HEE:=Lib.hid (show∀W,Below wr.heap.size wr W→(∀j u,(SideM.cells ⟨(va:Int),(vb:Int),(fo:Int),(fi:Int),sf⟩)[j]?=some u→j<5→W.cell? ⟨rg,k*5+j,none⟩=some u)∧(∀i u,(SideM.cells ⟨xa,xb,(go:Int),(gi:Int),xf⟩)[i]?=some u→i<5→W.cell? ⟨rg,j*5+i,none⟩=some u) from fun W hb=>⟨fun i u hi h5=>(hr0'.below hb).cells (g:=rg) rfl _ _ ((sideCells_get R k i _ hs h5).trans hi),fun i u hi h5=>(hr0'.below hb).cells (g:=rg) rfl _ _ ((sideCells_get R j i _ hs' h5).trans hi)⟩);have ee0:wr.cell? ⟨rg,k*5,none⟩=some (.int .i64 (va:Int)):=(HEE.out wr (Below.refl _ _)).1 0 _ rfl (by omega);have ee1:=(HEE.out wr (Below.refl _ _)).1 1 _ rfl (by omega);have ee2:=(HEE.out wr (Below.refl _ _)).1 2 _ rfl (by omega);have ee3:=(HEE.out wr (Below.refl _ _)).1 3 _ rfl (by omega);have ee4:=(HEE.out wr (Below.refl _ _)).1 4 _ rfl (by omega);obtain⟨cg,cc',m1x,o1x,n1x,c1x,p1x,k1x,d1x,m1y,o1y,n1y,c1y,p1y,k1y,d1y,hce,dd,f1x_0,f1y_0⟩:=(HCSR.out.below hB_0).at (HCROW.out.below hB_0) hk1;obtain⟨cg',cc'',m2x,o2x,n2x,c2x,p2x,k2x,d2x,m2y,o2y,n2y,c2y,p2y,k2y,d2y,hce',dc,f2x_0,f2y_0⟩:=(HCSR.out.below hB_0).at (HCROW.out.below hB_0) hk2;obtain⟨rfl,rfl⟩:co=some ⟨cg,0,none⟩∧cc=cc':=by injection hce with h1 h2 h3;exact⟨h1,h3⟩
      obtain rfl:cg=cg':=by injection hce' with h1 h2 h3;injection h1 with h1;injection h1
      have j1:(0:Int)≤(k:Int):=by omega
      have j2:(k:Int)<(rn:Int):=by omega
      have j3:(0:Int)≤(j:Int):=by omega
      have j4:(j:Int)<(rn:Int):=by omega
      have hn0:((rn:Int)==0)=false:=by simp;omega
      have hn1:¬(rn:Int)=0:=by omega
      obtain⟨hmod,hw1,hw2⟩:=ahead_mod hlt (by omega) hj;have hk9:k+1≤1000:=Nat.le_trans hlt hr9;obtain⟨w7,hw7,ps7,hb7,hs7⟩:=new_box wr _ rfl [.int .i64 (va:Int),.int .i64 (vb:Int),.int .i64 (fo:Int),.int .i64 (fi:Int),.bool sf] 161;have HBX7:=Lib.hid (hB_0.trans (hb7.mono hB_0.size));have HROW:=Lib.hid (row_0.below hb7);have HSH:=Lib.hid (sh_0.below hb7);have DD:=Lib.hid (dd.below hb7);have DC:=Lib.hid (dc.below hb7);have FX:=Lib.hid (show∀W,Below w7.heap.size w7 W→RF W (.agg #[.bool m1x,.slice o1x n1x c1x,.slice p1x k1x d1x]) 7 x1∧RF W (.agg #[.bool m1y,.slice o1y n1y c1y,.slice p1y k1y d1y]) 7 y1∧RF W (.agg #[.bool m2x,.slice o2x n2x c2x,.slice p2x k2x d2x]) 7 x2∧RF W (.agg #[.bool m2y,.slice o2y n2y c2y,.slice p2y k2y d2y]) 7 y2 from fun W hb=>⟨(f1x_0.below hb7).below hb,(f1y_0.below hb7).below hb,(f2x_0.below hb7).below hb,(f2y_0.below hb7).below hb⟩);have HB7:=Lib.hid hb7;have hsz7:wr.heap.size<w7.heap.size:=ps7.lt;obtain⟨sb8,hsb8⟩:∃x,wr.heap.size=x:=⟨_,rfl⟩;have PS7:=Lib.hid (show Box w7 sb8 [.int .i64 (va:Int),.int .i64 (vb:Int),.int .i64 (fo:Int),.int .i64 (fi:Int),.bool sf] from hsb8▸ps7);have HLR:=Lib.hid (show∀g,u.ownBlock=some g→g<sb8 from fun g hg=>hsb8▸(row_0.lt g hg).2);have C8:=Lib.hid (show∀w',Below w7.heap.size w7 w'→w'.cell? ⟨cg,j*6,none⟩=some (.bool m1x)∧w'.cell? ⟨cg,j*6+1,none⟩=some (.slice o1x n1x c1x)∧w'.cell? ⟨cg,j*6+2,none⟩=some (.slice p1x k1x d1x)∧w'.cell? ⟨cg,j*6+3,none⟩=some (.bool m1y)∧w'.cell? ⟨cg,j*6+4,none⟩=some (.slice o1y n1y c1y)∧w'.cell? ⟨cg,j*6+5,none⟩=some (.slice p1y k1y d1y)∧w'.cell? ⟨cg,k*6,none⟩=some (.bool m2x)∧w'.cell? ⟨cg,k*6+1,none⟩=some (.slice o2x n2x c2x)∧w'.cell? ⟨cg,k*6+2,none⟩=some (.slice p2x k2x d2x)∧w'.cell? ⟨cg,k*6+3,none⟩=some (.bool m2y)∧w'.cell? ⟨cg,k*6+4,none⟩=some (.slice o2y n2y c2y)∧w'.cell? ⟨cg,k*6+5,none⟩=some (.slice p2y k2y d2y) from fun w' hb=>by obtain⟨a0,a1,a2,a3,a4,a5⟩:=DD.out.below hb;obtain⟨b0,b1,b2,b3,b4,b5⟩:=DC.out.below hb;exact⟨a0,a1,a2,a3,a4,a5,b0,b1,b2,b3,b4,b5⟩);clear hs hs' hne hva hvb hTF hTG hfan hfq hF hc1 hc2 hk1 hk2 htk hT hr0' hce hce' dd dc f1x_0 f1y_0 f2x_0 f2y_0 row_0 sh_0 hB_0 ps7 hb7 hs7 hj;go_wp2;clear ee0 ee1 ee2 ee3 ee4 hmod hw1 hw2 hw7 hsb8;refine wp_region_noPanic ?_;refine wp_region_held_drew (S:=fun w'=>w'.cell? ⟨cg,j*6,none⟩=some (.bool m1x)∧w'.cell? ⟨cg,j*6+1,none⟩=some (.slice o1x n1x c1x)∧w'.cell? ⟨cg,j*6+2,none⟩=some (.slice p1x k1x d1x)∧w'.cell? ⟨cg,j*6+3,none⟩=some (.bool m1y)∧w'.cell? ⟨cg,j*6+4,none⟩=some (.slice o1y n1y c1y)∧w'.cell? ⟨cg,j*6+5,none⟩=some (.slice p1y k1y d1y)∧w'.cell? ⟨cg,k*6,none⟩=some (.bool m2x)∧w'.cell? ⟨cg,k*6+1,none⟩=some (.slice o2x n2x c2x)∧w'.cell? ⟨cg,k*6+2,none⟩=some (.slice p2x k2x d2x)∧w'.cell? ⟨cg,k*6+3,none⟩=some (.bool m2y)∧w'.cell? ⟨cg,k*6+4,none⟩=some (.slice o2y n2y c2y)∧w'.cell? ⟨cg,k*6+5,none⟩=some (.slice p2y k2y d2y)) (by kernel_rfl) (C8.out _ (Below.refl w7.heap.size w7).drew') (fun hHeld=>?_);refine rU 0 _ _ ?_;refine rU 1 _ _ ?_;refine rU 2 _ _ ?_;refine rU 3 _ _ ?_;refine rU 4 _ _ ?_;refine rU 5 _ _ ?_;refine rU 6 _ _ ?_;refine rU 7 _ _ ?_;refine rC 8 _ (fun K hK=>?_);obtain⟨w8,hw8,pt8,hb8,hs8⟩:=new_box w7.drew _ rfl [.bool m1x,.slice o1x n1x c1x,.slice p1x k1x d1x,.bool m1y,.slice o1y n1y c1y,.slice p1y k1y d1y,.bool m2x,.slice o2x n2x c2x,.slice p2x k2x d2x,.bool m2y,.slice o2y n2y c2y,.slice p2y k2y d2y] 70;go_simp;try rw[hw8]
      refine hK.out _ _ (C8.out _ ((Below.refl w7.heap.size w7).drew'.trans (hb8.mono (Below.refl w7.heap.size w7).drew'.size))) (fun hHeld=>?_);clear hK K;try simp only[Act.put,sA,sZ,sS]
      refine rU 9 _ _ ?_;refine wpAnyH_done (by kernel_rfl) ?_ _;refine NoPanic.normal ?_;have HB8:=Lib.hid (show Below w2.heap.size w2 w8 from HBU.out.trans ((HBX7.out.trans ((Below.refl w7.heap.size w7).drew'.trans (hb8.mono (Below.refl w7.heap.size w7).drew'.size)|>.mono HBX7.out.size)).mono HBU.out.size));have hb78:Below w7.heap.size w7 w8:=(Below.refl w7.heap.size w7).drew'.trans (hb8.mono (Below.refl w7.heap.size w7).drew'.size);have hm8:∀u∈[.bool m1x,.slice o1x n1x c1x,.slice p1x k1x d1x,.bool m1y,.slice o1y n1y c1y,.slice p1y k1y d1y,.bool m2x,.slice o2x n2x c2x,.slice p2x k2x d2x,.bool m2y,.slice o2y n2y c2y,.slice p2y k2y d2y],NoWord u:=by intro u hu;simp at hu;rcases hu with rfl|rfl|rfl|rfl|rfl|rfl|rfl|rfl|rfl|rfl|rfl|rfl<;>first|exact NoWord.bool _|exact NoWord.slice _ _ _
      have TROW:=Lib.hid (RowN.made (base:=w7.heap.size) (n:=2) (size:=6) (xs:=[.bool m1x,.slice o1x n1x c1x,.slice p1x k1x d1x,.bool m1y,.slice o1y n1y c1y,.slice p1y k1y d1y,.bool m2x,.slice o2x n2x c2x,.slice p2x k2x d2x,.bool m2y,.slice o2y n2y c2y,.slice p2y k2y d2y]) hw8 (Nat.le_refl _) rfl (by unfold maxLen;omega) hm8);have TSR:=Lib.hid (show SrR w8 7 [.bool m1x,.slice o1x n1x c1x,.slice p1x k1x d1x,.bool m1y,.slice o1y n1y c1y,.slice p1y k1y d1y,.bool m2x,.slice o2x n2x c2x,.slice p2x k2x d2x,.bool m2y,.slice o2y n2y c2y,.slice p2y k2y d2y] [(x1,y1),(x2,y2)] from by obtain⟨a1,a2,a3,a4⟩:=FX.out w8 hb78;exact(SrR.one a1 a2).append (SrR.one a3 a4));have HB78:=Lib.hid hb78;have C9:=Lib.hid (show∀w',Below w8.heap.size w8 w'→w'.cell? ⟨w.heap.size+1,0,none⟩=some (.slice (some ⟨tg,0,none⟩) tn tc)∧w'.cell? ⟨w.heap.size+1,1,none⟩=some (.slice (some ⟨rg,0,none⟩) rn rc)∧w'.cell? ⟨sb8,0,none⟩=some (.int .i64 (va:Int))∧w'.cell? ⟨sb8,1,none⟩=some (.int .i64 (vb:Int))∧w'.cell? ⟨sb8,2,none⟩=some (.int .i64 (fo:Int))∧w'.cell? ⟨sb8,3,none⟩=some (.int .i64 (fi:Int))∧w'.cell? ⟨sb8,4,none⟩=some (.bool sf)∧w'.cell? ⟨rg,j*5,none⟩=some (.int .i64 xa)∧w'.cell? ⟨rg,j*5+1,none⟩=some (.int .i64 xb)∧w'.cell? ⟨rg,j*5+2,none⟩=some (.int .i64 (go:Int))∧w'.cell? ⟨rg,j*5+3,none⟩=some (.int .i64 (gi:Int))∧w'.cell? ⟨rg,j*5+4,none⟩=some (.bool xf) from fun w' hb=>by have hw':=HB8.out.trans (hb.mono HB8.out.size);have h7:=HB78.out.trans (hb.mono HB78.out.size);have q:=PC.out.below hw';have s:=PS7.out.below h7;have r:=(HEE.out w' (HB7.out.trans (h7.mono HB7.out.size))).2;exact⟨q.c 0 _ rfl,q.c 1 _ rfl,s.c 0 _ rfl,s.c 1 _ rfl,s.c 2 _ rfl,s.c 3 _ rfl,s.c 4 _ rfl,r 0 _ rfl (by omega),r 1 _ rfl (by omega),r 2 _ rfl (by omega),r 3 _ rfl (by omega),r 4 _ rfl (by omega)⟩);clear hHeld hm8 hb78 pt8 hb8 hs8 hw8;go_wp2;have hq_0:=(Below.refl w8.heap.size w8).drew';refine wp_region_noPanic ?_;refine wp_region_held_drew (S:=fun w'=>w'.cell? ⟨w.heap.size+1,0,none⟩=some (.slice (some ⟨tg,0,none⟩) tn tc)∧w'.cell? ⟨w.heap.size+1,1,none⟩=some (.slice (some ⟨rg,0,none⟩) rn rc)∧w'.cell? ⟨sb8,0,none⟩=some (.int .i64 (va:Int))∧w'.cell? ⟨sb8,1,none⟩=some (.int .i64 (vb:Int))∧w'.cell? ⟨sb8,2,none⟩=some (.int .i64 (fo:Int))∧w'.cell? ⟨sb8,3,none⟩=some (.int .i64 (fi:Int))∧w'.cell? ⟨sb8,4,none⟩=some (.bool sf)∧w'.cell? ⟨rg,j*5,none⟩=some (.int .i64 xa)∧w'.cell? ⟨rg,j*5+1,none⟩=some (.int .i64 xb)∧w'.cell? ⟨rg,j*5+2,none⟩=some (.int .i64 (go:Int))∧w'.cell? ⟨rg,j*5+3,none⟩=some (.int .i64 (gi:Int))∧w'.cell? ⟨rg,j*5+4,none⟩=some (.bool xf)) (by kernel_rfl) (C9.out _ hq_0) (fun hHeld=>?_);refine rU 0 _ _ ?_;refine rU 1 _ _ ?_;refine rU 2 _ _ ?_;refine rU 3 _ _ ?_;refine rU 4 _ _ ?_;refine rU 5 _ _ ?_;refine rU 6 _ _ ?_;refine rU 7 _ _ ?_;refine rU 8 _ _ ?_;refine rU 11 _ _ ?_;refine rC 9 _ (fun K hK=>?_);go_simp;refine(stFan_any (va:Int) (vb:Int) xa xb sf xf fo fi go gi TF TG ts F tg tn tc _ (HM.out.below (HB8.out.trans (hq_0.mono HB8.out.size))) HTF.out HTG.out hfi hgi HTN.out (by omega) (HTS.out _ (HB8.out.trans (hq_0.mono HB8.out.size))) HSO.out HFAN.out).mono ?_;rintro e u9 ⟨fv,rfl,frow,hbhq1⟩;obtain⟨fo9,fc9,rfl⟩:=frow.shape;have hq_1:=hq_0.trans (hbhq1.mono hq_0.size);clear hbhq1;go_wp2_with fail;refine hK.out _ _ (C9.out _ hq_1) (fun hHeld=>?_);clear hK K;try simp only[Act.put,sA,sZ,sS]
      refine rU 10 _ _ ?_;refine wpAnyH_done (by kernel_rfl) ?_ _;refine NoPanic.normal ?_;have HBU9:=Lib.hid hq_1;have FROW:=Lib.hid (show RowN u9 w8.heap.size 3 1 (.slice fo9 F.length fc9) F.length (intCells F) from frow);have hfl2:F.length≤60:=hfl;obtain⟨fn9,hfn9⟩:∃n,F.length=n:=⟨_,rfl⟩;have HFN9:=Lib.hid hfn9;rw[hfn9] at hfl2 FROW;clear hHeld hq_0 hq_1 frow hfl;rw[hfn9];clear hfn9;go_wp2;go_loopw [14,16,62] (fun pv _ iv wr=>∃m:Nat,∃ys:List Value,∃u2_:Value,m≤fn9∧iv= .int .i64 m∧u2_=pv∧RowN wr w7.heap.size 70 6 u2_ (2+m) ys∧SrR wr 7 ys ([(x1,y1),(x2,y2)]++(F.take m).map (fun f=>cenS P S (ts.getD f.toNat 0)))∧Below w7.heap.size w7 wr∧RowN wr w8.heap.size 3 1 (.slice fo9 fn9 fc9) fn9 (intCells F)∧(∀g,u2_.ownBlock=some g→g<w8.heap.size∨u9.heap.size≤g)∧u9.heap.size≤wr.heap.size) (fun _ _ iv _=>fn9-(intOf iv).toNat);case atStart=>exact⟨0,_,_,Nat.zero_le _,rfl,rfl,TROW.out.below HBU9.out,TSR.out.below HBU9.out,HB78.out.trans (HBU9.out.mono HB78.out.size),FROW.out,fun g hg=> .inl ((TROW.out.lt g hg).2),Nat.le_refl _⟩
      case round=>
        obtain⟨m,ys,u3,hm9,rfl,hu3,trow,tsr,hb7r,hfr,hob,hsz9⟩:=hrel;subst hu3;by_cases hmf:m<fn9
        · have hmf':decide ((m:Int)<(fn9:Int))=true:=decide_eq_true (by omega);obtain⟨f,hf⟩:∃f,F[m]?=some f:=⟨_,List.getElem?_eq_getElem (by rw[HFN9.out];exact hmf)⟩;obtain⟨q,rfl,hqn⟩:=HFQ.out f (List.mem_of_getElem? hf);obtain⟨fg,rfl⟩:∃fg,fo9=some ⟨fg,0,none⟩:=by
            rcases FROW.out.2 with⟨h1,h2⟩|⟨fg,cap,cur,h1,-⟩;·omega
            ·exact⟨fg,by injection h1⟩
          have fc0:=hfr.cells (g:=fg) rfl m _ (intCells_get hf);obtain⟨⟨x3,y3⟩,hc3⟩:∃z,cenS P S (ts.getD q 0)=z:=⟨_,rfl⟩;have hk3:(ts.map (cenS P S))[q]?=some (x3,y3):=by
            rw[List.getElem?_map,List.getElem?_eq_getElem (by rw[HTN.out];exact hqn)];rw[List.getD_eq_getElem?_getD,List.getElem?_eq_getElem (by rw[HTN.out];exact hqn)] at hc3;exact congrArg some hc3
          have hTm:(F.take (m+1)).map (fun f=>cenS P S (ts.getD f.toNat 0))=(F.take m).map (fun f=>cenS P S (ts.getD f.toNat 0))++[(x3,y3)]:=by rw[List.take_add_one,hf,List.map_append];exact congrArg _ (congrArg (fun z=>[z]) (by show cenS P S (ts.getD ((q:Int)).toNat 0)=_;rw[Int.toNat_natCast];exact hc3))
          have hb2r:Below u2.heap.size u2 wr:=HBX7.out.trans (hb7r.mono HBX7.out.size);obtain⟨mg,mc',m3x,o3x,n3x,c3x,p3x,k3x,d3x,m3y,o3y,n3y,c3y,p3y,k3y,d3y,hme,dm,f3x_0,f3y_0⟩:=(HMSR.out.below hb2r).at (HMROW.out.below hb2r) hk3;obtain⟨rfl,rfl⟩:mo=some ⟨mg,0,none⟩∧mc=mc':=by injection hme with h1 h2 h3;exact⟨h1,h3⟩
          obtain⟨l0,l1,l2,l3,l4,l5⟩:=dm;have k1:(0:Int)≤(m:Int):=by omega
          have k2:(m:Int)<(fn9:Int):=by omega
          have k3:(0:Int)≤(q:Int):=by omega
          have k4:(q:Int)<(tn:Int):=by omega
          obtain⟨w10,hw10,pz,hb10,hs10⟩:=new_box wr _ rfl [.bool m3x,.slice o3x n3x c3x,.slice p3x k3x d3x,.bool m3y,.slice o3y n3y c3y,.slice p3y k3y d3y] 70;have trow1:=trow.below hb10;have tsr1:=(tsr.below hb10).append (SrR.one (f3x_0.below hb10) (f3y_0.below hb10));have hb7s:=hb7r.trans (hb10.mono hb7r.size);have hfr1:=hfr.below hb10;have hflt:=FROW.out.lt;have htlt:=trow1.lt;obtain⟨v1,wa,hrun,rown,hgrow,hkept,hnew⟩:=run_append_row' (P:=Tryz.prog) w10 w7.heap.size 104 104 70 i0 (.agg #[.bool false,.slice none 0 0,.slice none 0 0,.bool false,.slice none 0 0,.slice none 0 0]) 6 112 (by kernel_rfl) HI.out HI0.out HI1.out HI2.out rfl (noWord6 _ _ _ _ _ _ _ _ _ _ _ _ _ _) _ (2+m) ys trow1 ⟨wr.heap.size,0,none⟩ 1 1 [.bool m3x,.slice o3x n3x c3x,.slice p3x k3x d3x,.bool m3y,.slice o3y n3y c3y,.slice p3y k3y d3y] (by omega) rfl pz.news (by intro u hu;simp at hu;rcases hu with rfl|rfl|rfl|rfl|rfl|rfl<;>rfl) (noWord6 _ _ _ _ _ _ _ _ _ _ _ _ _ _) (by unfold maxLen;omega) (by omega) hb7s.size;have hfr2:=hfr1.grown hgrow (fun g hg e=>by have h1:=hflt g hg;have h2:=hob g e.symm;omega);have FINI:=Lib.hid (show RowN wa w7.heap.size 70 6 v1 (2+(m+1)) (ys++[.bool m3x,.slice o3x n3x c3x,.slice p3x k3x d3x,.bool m3y,.slice o3y n3y c3y,.slice p3y k3y d3y])∧SrR wa 7 (ys++[.bool m3x,.slice o3x n3x c3x,.slice p3x k3x d3x,.bool m3y,.slice o3y n3y c3y,.slice p3y k3y d3y]) ([(x1,y1),(x2,y2)]++(F.take (m+1)).map (fun f=>cenS P S (ts.getD f.toNat 0)))∧Below w7.heap.size w7 wa∧RowN wa w8.heap.size 3 1 (.slice (some ⟨fg,0,none⟩) fn9 fc9) fn9 (intCells F)∧(∀g,v1.ownBlock=some g→g<w8.heap.size∨u9.heap.size≤g)∧u9.heap.size≤wa.heap.size from⟨rown,by rw[hTm,←List.append_assoc];exact tsr1.kept hkept,hb7s.grown hgrow hb7s.size (fun q hq=>(htlt q hq).1),hfr2,fun g hg=>by
            have h1:=hb10.size;rcases hnew g hg with h|h;·exact hob g h
            ·right;omega,by have h1:=hb10.size;have h2:=hgrow.size;omega⟩);clear trow tsr hb7r hf hc3 hk3 hTm hb2r hme f3x_0 f3y_0 pz hb10 hs10 trow1 tsr1 hb7s rown hfr hob hfr1 hfr2 hgrow hkept hnew htlt hflt;go_wp2_with (refine wpList_append_row rfl _ _ 104 rfl rfl rfl hrun ?_);refine⟨⟨m+1,_,_,by omega,by go_num,rfl,FINI.out.1,FINI.out.2.1,FINI.out.2.2.1,FINI.out.2.2.2⟩,by simp[intOf];omega⟩
        · have hmf':decide ((m:Int)<(fn9:Int))=false:=decide_eq_false (by omega);obtain rfl:m=fn9:=by omega
          obtain⟨to9,tc9,rfl⟩:=trow.shape;obtain⟨tl,htl0⟩:∃tl,[(x1,y1),(x2,y2)]++F.map (fun f=>cenS P S (ts.getD f.toNat 0))=tl:=⟨_,rfl⟩;have hFl:=HFN9.out;rw[List.take_of_length_le (by omega),htl0] at tsr;have htl:tl.length=2+m:=by rw[←htl0];simp;omega
          have HTL:=Lib.hid htl0;have TSR0:=Lib.hid tsr;have TROW0:=Lib.hid trow;have HTLL:=Lib.hid htl;have HBX:=Lib.hid (HBX7.out.trans (hb7r.mono HBX7.out.size));have HB7R:=Lib.hid hb7r;have row_0:=HROW.out.below hb7r;have sh_0:=HSH.out.below hb7r;have hle:1+(2+m)*(((7+7+2)+(7+7+2)+2)+2)≤2233:=by omega
          have C14:=Lib.hid (show∀w',Below wr.heap.size wr w'→w'.cell? ⟨sb8,0,none⟩=some (.int .i64 (va:Int)) from fun w' hb=>(PS7.out.below (HB7R.out.trans (hb.mono HB7R.out.size))).c 0 _ rfl);clear htl0 trow tsr hb7r hfr hob hFl;go_wp2;have SP:=Lib.hid (show SpotsR wr to9 7 tl from by
            obtain⟨sa9,sc9,hse,hsp⟩:=TSR0.out.spotsR TROW0.out HTLL.out;injection hse with h1 h2 h3;subst h1;exact hsp);have hq_0:=(Below.refl wr.heap.size wr).drew';refine wp_region_noPanic ?_;refine wp_region_held_drew (S:=fun w'=>w'.cell? ⟨sb8,0,none⟩=some (.int .i64 (va:Int))) (by kernel_rfl) (C14.out _ hq_0) (fun hHeld=>?_);refine rU 0 _ _ ?_;refine rU 1 _ _ ?_;refine rU 2 _ _ ?_;refine rU 3 _ _ ?_;refine rC 4 _ (fun K hK=>?_);go_simp;refine(sArea2_any to9 (2+m) tc9 tl 7 _ htl (by omega) (by omega) (SP.out.below hq_0).spots).mono ?_;rintro e w14 ⟨m5,o5,n5,c5,p5,k5,d5,rfl,f5_0,hbq1⟩;have hq_1:=hq_0.trans (hbq1.mono hq_0.size);clear hbq1;go_wp2_with fail;refine hK.out _ _ (C14.out _ hq_1) (fun hHeld=>?_);clear hK K;try simp only[Act.put,sA,sZ,sS]
          refine rU 5 _ _ ?_;refine rC 6 _ (fun K hK=>?_);obtain⟨w15,hw15,pz,hb15,hs15⟩:=new_box w14 _ rfl [.int .i64 (va:Int),.bool m5,.slice o5 n5 c5,.slice p5 k5 d5] 61;have hq_2:=hq_1.trans (hb15.mono hq_1.size);have f5_1:=f5_0.below hb15;go_simp;try rw[hw15]
          refine hK.out _ _ (C14.out _ hq_2) (fun hHeld=>?_);clear hK K;try simp only[Act.put,sA,sZ,sS]
          refine rC 7 _ (fun K hK=>?_);have row5:=row_0.below hq_2;have sh5:=(sh_0.below hq_2).snoc (va:Int) (f5_1.more hle);have hrl5:=row5.lt;obtain⟨v1q,wa,hrun,rown,hgrow,hkept,hnew⟩:=run_append_row' (P:=Tryz.prog) w15 u2.heap.size 52 52 61 j0 (.agg #[.int .i64 0,.bool false,.slice none 0 0,.slice none 0 0]) 4 64 (by kernel_rfl) HJ.out HJ0.out HJ1.out HJ2.out rfl (noWordB _ rfl) _ k _ row5 ⟨w14.heap.size,0,none⟩ 1 1 [.int .i64 (va:Int),.bool m5,.slice o5 n5 c5,.slice p5 k5 d5] (by omega) rfl pz.news (by intro u hu;simp at hu;rcases hu with rfl|rfl|rfl|rfl<;>rfl) (noWordB _ rfl) (by unfold maxLen;omega) (by omega) (by have:=hq_2.size;have:=HBX.out.size;omega);have hq_3:=(HBX.out.trans (hq_2.mono HBX.out.size)).grown hgrow (by have:=hq_2.size;have:=HBX.out.size;omega) (fun q hq=>(hrl5 q hq).1);have sh6:=sh5.kept hkept;have hps:=((PS7.out.below (HB7R.out.trans (hq_2.mono HB7R.out.size))).grown hgrow (fun e=>absurd (HLR.out _ e) (Nat.lt_irrefl _)) (PS7.out.below (HB7R.out.trans (hq_2.mono HB7R.out.size))).lt).c 0 _ rfl;clear hgrow hkept hnew row5 sh5;refine wanted_by (by kernel_rfl) ?_;refine wp_append_row _ _ 52 rfl rfl rfl hrun ?_;clear hrun;refine hK.out _ _ (hps) (fun hHeld=>?_);clear hK K;try simp only[Act.put,sA,sZ,sS]
          refine rU 8 _ _ ?_;refine wpAnyH_done (by kernel_rfl) ?_ _;refine NoPanic.normal ?_;have FIN:=Lib.hid (And.intro rown (And.intro sh6 hq_3));clear hHeld hps hq_0 hq_1 hq_2 hq_3 rown sh6 row_0 sh_0 f5_0 f5_1;go_wp2;refine⟨⟨k+1,_,_,by omega,by go_num,rfl,FIN.out.1,?_,FIN.out.2.2⟩,by simp[intOf];omega⟩;rw[HT.out,HTL.out];exact FIN.out.2.1
    · have hlt':decide ((k:Int)<(rn:Int))=false:=decide_eq_false (by omega);have hke:k=rn:=by omega
      have hsr:ShR wr 2233 xs (areasL P S p0 p1 R ts FL):=by have h:=sh_0;rw[List.take_of_length_le (by unfold areasL;rw[List.length_map,List.length_range,HRL.out];omega)] at h;exact h
      have hro:RowN wr u2.heap.size 61 4 u rn xs:=by rw[←hke];exact row_0
      have FIN:=Lib.hid (show RowN wr w.heap.size 61 4 u rn xs∧ShR wr 2233 xs (areasL P S p0 p1 R ts FL)∧Below w.heap.size w wr from⟨rowN_base (by have:=HBU.out.size;have:=HB2.out.size;omega) hro,hsr,HB2.out.trans ((HBU.out.trans (hB_0.mono HBU.out.size)).mono HB2.out.size)⟩);clear hsr hro row_0 sh_0 hB_0;go_wp2;go_ret;exact⟨u,xs,rfl,FIN.out⟩
end Go.Proofs.YtammmemfkpcpcaaGreat
namespace Go.MagM
open Go.RowKit
def Alive(S:List TriM)(t:Nat):Prop:=∃T,S[t]?=some T∧goneB T=false
theorem newT_aliveG(a b c:Int)(hc:c≠-2):goneB (newT a b c)=false:=by unfold goneB newT;exact decide_eq_false (fun h=>hc h.2.2)
theorem free_gone{S:List TriM}{k:Nat}(h:freeK S=some k):∃T,S[k]?=some T∧goneB T=true:=by unfold freeK at h;obtain⟨h1,h2,-⟩:=List.findIdx?_eq_some_iff_getElem.1 h;exact⟨S[k],List.getElem?_eq_getElem h1,h2⟩
theorem alive_make{S:List TriM}{t:Nat}(h:Alive S t)(a b c:Int):Alive (makeM S a b c) t:=by
  obtain⟨T,hT,hg⟩:=h;unfold makeM;cases hf:freeK S with
  |none=>exact⟨T,by rw[List.getElem?_append_left (List.getElem?_eq_some_iff.1 hT).1];exact hT,hg⟩|some k=>
    obtain⟨U,hU,hgU⟩:=free_gone hf;have hne:k≠t:=fun e=>by subst e;rw[hU] at hT;cases hT;rw[hg] at hgU;cases hgU
    exact⟨T,by rw[List.getElem?_set_ne hne];exact hT,hg⟩
theorem alive_made(S:List TriM)(a b c:Int)(hc:c≠-2):Alive (makeM S a b c) (makeK S):=by unfold makeM makeK;cases hf:freeK S with|none=>exact⟨newT a b c,by simp,newT_aliveG a b c hc⟩|some k=>obtain⟨U,hU,-⟩:=free_gone hf;exact⟨newT a b c,by rw[List.getElem?_set_self (List.getElem?_eq_some_iff.1 hU).1],newT_aliveG a b c hc⟩
theorem alive_link{S:List TriM}{t:Nat}(h:Alive S t)(t' i u j:Nat)(f:Bool):Alive (linkL S t' i u j f) t:=by obtain⟨T,hT,hg⟩:=h;have h1:=linkL_v S t' i u j f t;unfold rdV at h1;rw[hT] at h1;cases hT':(linkL S t' i u j f)[t]? with|none=>rw[hT'] at h1;cases h1|some T'=>rw[hT'] at h1;simp only[Option.map_some,Option.some.injEq,Prod.mk.injEq] at h1;refine⟨T',hT'▸rfl,?_⟩;unfold goneB at hg⊢;rw[h1.1,h1.2.1,h1.2.2];exact hg
theorem makeM_len(S:List TriM)(a b c:Int):S.length≤(makeM S a b c).length∧(makeM S a b c).length≤S.length+1:=by unfold makeM;cases freeK S with|none=>simp|some k=>simp
def fillA(R:List SideM)(v:Int)(S:List TriM):Nat→List TriM×List Nat|0=>(S,[])|n+1=>match R[n]? with|none=>fillA R v S n|some s=>(linkL (makeM (fillA R v S n).1 s.a s.b v) (makeK (fillA R v S n).1) 2 s.u.toNat s.i.toNat s.f,(fillA R v S n).2++[makeK (fillA R v S n).1])
def fillB(R:List SideM)(pl:List Int)(M:List Nat)(S:List TriM):Nat→List TriM|0=>S|n+1=>match R[n]? with|none=>fillB R pl M S n|some s=>linkL (fillB R pl M S n) (natA M n) 0 (natA M ((n+1)%R.length)) 1 (decide (s.b∈pl))
def fillM(R:List SideM)(v:Int)(pl:List Int)(S:List TriM):List TriM:=fillB R pl (fillA R v S R.length).2 (fillA R v S R.length).1 R.length
def RimOkG(S:List TriM)(R:List SideM):Prop:=∀s,s∈R→∃u i:Nat,s.u=(u:Int)∧s.i=(i:Int)∧i<3∧Alive S u
theorem fillA_some{R:List SideM}{v:Int}{S:List TriM}{n:Nat}{s:SideM}(h:R[n]?=some s):fillA R v S (n+1)=(linkL (makeM (fillA R v S n).1 s.a s.b v) (makeK (fillA R v S n).1) 2 s.u.toNat s.i.toNat s.f,(fillA R v S n).2++[makeK (fillA R v S n).1]):=by rw[fillA,h]
theorem fillB_some{R:List SideM}{pl:List Int}{M:List Nat}{S:List TriM}{n:Nat}{s:SideM}(h:R[n]?=some s):fillB R pl M S (n+1)=linkL (fillB R pl M S n) (natA M n) 0 (natA M ((n+1)%R.length)) 1 (decide (s.b∈pl)):=by rw[fillB,h]
theorem fillA_ok{R:List SideM}{v:Int}{S:List TriM}(hv:v≠-2):∀n,n≤R.length→(fillA R v S n).2.length=n∧(fillA R v S n).1.length≤S.length+n∧(∀t,Alive S t→Alive (fillA R v S n).1 t)∧(∀k,k∈(fillA R v S n).2→Alive (fillA R v S n).1 k)
  |0,_=>⟨rfl,Nat.le_refl _,fun _ h=>h,fun k h=>by cases h⟩|n+1,hn=>by
    obtain⟨h1,h2,h3,h4⟩:=fillA_ok (R:=R) (S:=S) hv n (by omega);have hs:R[n]?=some R[n]:=List.getElem?_eq_getElem (by omega);rw[fillA_some hs];refine⟨by simp[h1],?_,fun t ht=>alive_link (alive_make (h3 t ht) _ _ _) _ _ _ _ _,fun k hk=>alive_link ?_ _ _ _ _ _⟩;· have:=makeM_len (fillA R v S n).1 R[n].a R[n].b v;simp only[linkL_len];omega
    · simp only[List.mem_append,List.mem_singleton] at hk;rcases hk with hk|rfl;·exact alive_make (h4 k hk) _ _ _
      ·exact alive_made _ _ _ _ hv
theorem fillB_ok{R:List SideM}{pl:List Int}{M:List Nat}{S:List TriM}:∀n,n≤R.length→(fillB R pl M S n).length=S.length∧(∀t,Alive S t→Alive (fillB R pl M S n) t)|0,_=>⟨rfl,fun _ h=>h⟩|n+1,hn=>by obtain⟨h1,h2⟩:=fillB_ok (R:=R) (pl:=pl) (M:=M) (S:=S) n (by omega);have hs:R[n]?=some R[n]:=List.getElem?_eq_getElem (by omega);rw[fillB_some hs];exact⟨by rw[linkL_len];exact h1,fun t ht=>alive_link (h2 t ht) _ _ _ _ _⟩
def Off(w:World)(mb:Nat)(tv:Value)(k:Nat):Prop:=k<w.heap.size∧k≠mb∧tv.ownBlock≠some k
theorem Off.mut{w w':World}{mb k:Nat}{tv tv':Value}(h:Off w mb tv k)(hm:Mut w w' mb tv tv'):Off w' mb tv' k∧w'.heap[k]?=w.heap[k]?:=by obtain⟨h1,h2,h3⟩:=h;obtain⟨h4,h5⟩:=hm.keep k h1 h2 h3;exact⟨⟨Nat.lt_of_lt_of_le h1 hm.size,h2,h5⟩,h4⟩
theorem Off.below{w w':World}{mb k:Nat}{tv:Value}(h:Off w mb tv k)(hb:Below w.heap.size w w'):Off w' mb tv k:=⟨Nat.lt_of_lt_of_le h.1 hb.size,h.2⟩
def SidesAt(w:World)(b:Nat)(R:List SideM):Prop:=∀(i:Nat)(s:SideM),R[i]?=some s→∀(j:Nat)(u:Value),s.cells[j]?=some u→w.cell? ⟨b,i*5+j,none⟩=some u
theorem SidesAt.same{w w':World}{b:Nat}{R:List SideM}(h:SidesAt w b R)(e:w'.heap[b]?=w.heap[b]?):SidesAt w' b R:=fun i s hs j u hj=>(World.cell?_of_block (a:=⟨b,i*5+j,none⟩) e).trans (h i s hs j u hj)
def IntsAt(w:World)(b:Nat)(l:List Int):Prop:=∀(j:Nat)(z:Int),l[j]?=some z→w.cell? ⟨b,j,none⟩=some (.int .i64 z)
theorem IntsAt.same{w w':World}{b:Nat}{l:List Int}(h:IntsAt w b l)(e:w'.heap[b]?=w.heap[b]?):IntsAt w' b l:=fun j z hj=>(World.cell?_of_block (a:=⟨b,j,none⟩) e).trans (h j z hj)
def Parts(w:World)(mb:Nat)(tv pv:Value)(pl:List Int):Prop:=(pv= .slice none 0 0∧pl=[])∨∃qb c,pv= .slice (some ⟨qb,0,none⟩) pl.length c∧IntsAt w qb pl∧Off w mb tv qb∧pl.length≤1000
theorem Parts.mut{w w':World}{mb:Nat}{tv tv' pv:Value}{pl:List Int}(h:Parts w mb tv pv pl)(hm:Mut w w' mb tv tv'):Parts w' mb tv' pv pl:=by
  rcases h with h|⟨qb,c,h1,h2,h3,h4⟩;·exact .inl h
  · obtain⟨h5,h6⟩:=h3.mut hm;exact .inr ⟨qb,c,h1,h2.same h6,h5,h4⟩
theorem Parts.below{w w':World}{mb:Nat}{tv pv:Value}{pl:List Int}(h:Parts w mb tv pv pl)(hb:Below w.heap.size w w'):Parts w' mb tv pv pl:=by
  rcases h with h|⟨qb,c,h1,h2,h3,h4⟩;·exact .inl h
  ·exact .inr ⟨qb,c,h1,h2.same (hb.block qb h3.1),h3.below hb,h4⟩
end Go.MagM
namespace Go.Proofs.YtammmemfkpcpcaaGreat
open Go.RowKit Go.MagM
theorem idxZ_has(zs:List Int)(x:Int):decide (0≤idxZ zs x)=decide (x∈zs):=by
  unfold idxZ;cases h:zs.findIdx? (·==x) with
  |none=>
    rw[List.findIdx?_eq_none_iff] at h;rw[decide_eq_false (by simp),decide_eq_false];intro hx;have:=h x hx;simp at this|some i=>
    obtain⟨h1,h2,-⟩:=List.findIdx?_eq_some_iff_getElem.1 h;rw[decide_eq_true (by simp),decide_eq_true];have e:zs[i]=x:=by simpa using h2
    rw[←e];exact List.getElem_mem h1
set_option maxHeartbeats 4000000 in theorem indexNil_any(x:Int)(w:World):Calls Tryz.prog 78 #[.slice none 0 0,.int .i64 x] w fun e w'=>e= .returned (.int .i64 (-1))∧w=w':=by
  go_enter Tryz.func78,Tryz.ntmps78;go_wp2;go_loop [5,8] (fun _ iv=>iv= .int .i64 0) (fun _ iv=>0);case atStart=>rfl
  case round=>
    subst hrel;go_wp2;go_ret;exact⟨rfl,rfl⟩
set_option maxHeartbeats 4000000 in theorem containsI_any(pv:Value)(pl:List Int)(x:Int)(w:World)(h:(pv= .slice none 0 0∧pl=[])∨∃qb c,pv= .slice (some ⟨qb,0,none⟩) pl.length c∧IntsAt w qb pl∧pl.length≤1000):Calls Tryz.prog 70 #[pv,.int .i64 x] w fun e w'=>e= .returned (.bool (decide (x∈pl)))∧w=w':=by
  obtain⟨z,hz,hidx⟩:∃z:Int,decide (0≤z)=decide (x∈pl)∧Calls Tryz.prog 78 #[pv,.int .i64 x] w fun e w'=>e= .returned (.int .i64 z)∧w=w':=by
    rcases h with⟨rfl,rfl⟩|⟨qb,c,rfl,hi,hl⟩;·exact⟨-1,by simp,indexNil_any x w⟩
    · refine⟨idxZ pl x,idxZ_has pl x,?_⟩;obtain⟨n,hn⟩:∃n,pl.length=n:=⟨_,rfl⟩;rw[hn];exact index_any qb 0 n c pl x w hn (by omega) (fun j v hj=>by rw[Nat.zero_add];exact hi j v hj)
  obtain⟨q,hq⟩:∃q,decide (x∈pl)=q:=⟨_,rfl⟩;rw[hq] at hz;rw[hq];have HI:=Lib.hid hidx;clear hidx hq h;go_enter Tryz.func70,Tryz.ntmps70;go_wp2_with fail;refine HI.out.mono ?_;rintro e w' ⟨rfl,rfl⟩;go_wp2;go_ret;refine⟨?_,rfl⟩;rw[←hz];rfl
theorem infoInts:(Tryz.prog.info? 3).map (fun i=>(i.zero,i.size,i.bytes))=some (some (.int .i64 0),1,8):=by kernel_rfl
theorem wpList_make_zeros{P:Program}{w:World}{ops:Array Oper}{rest:List Oper}{o:Oper}{a:Act}{Q:Exit→Act→World→Prop}(hgd:o.guard=none)(l c:Operand)(t:TypeId)(hop:o.op=Op.makeSlice t l c)(e:TypeId)(hu:P.underlying t=some (.slice e))(hi:(P.info? e).map (fun i=>(i.zero,i.size,i.bytes))=some (some (.int .i64 0),1,8))(kl kc:IntKind)(L C:Int)(n:Nat)(hl:a.eval l= .int kl L)(hc:a.eval c= .int kc C)(hL:L=(n:Int))(hC:C=(n:Int))(hn:n≤9000000000)(hK:∀w',Box w' w.heap.size (List.replicate n (.int .i64 0))→Below w.heap.size w w'→w.heap.size<w'.heap.size→wpList P ops Q rest (a.put o.dst (.slice (some ⟨w.heap.size,0,none⟩) n n)) w'):wpList P ops Q (o::rest) a w:=by
  obtain⟨i0,h2,hz0,hz1,hz2⟩:=info_parts hi;refine wpList_make_full w hgd l c t hop w.heap.size e i0 (.int .i64 0) 1 hu h2 hz0 hz1 kl kc L C n hl hc hL hC (by rw[hz2];omega) (by unfold maxLen;omega) (Nat.le_refl _) ?_;intro w' hown hg;have hcells:=fun i (h:i<n)=>hown.cells (g:=w.heap.size) rfl i (.int .i64 0) (by show(madeCells #[.int .i64 0] (n*1)).toList[i]?=_;rw[toList_madeCells_one];simp[h]);have hfz:∀j,w'.frozen? ⟨w.heap.size,j,none⟩=false∧w.heap.size<w'.heap.size:=by
    intro j;rcases hown.2 with⟨h,_⟩|⟨g,cap,cur,hv,_,hh,_⟩;·cases h
    · simp at hv;obtain⟨rfl,_⟩:=hv;exact⟨by simp[World.frozen?,hh],(Array.getElem?_eq_some_iff.1 hh).1⟩
  have hadd:∀j,(⟨w.heap.size,0,none⟩:Addr).add j=⟨w.heap.size,j,none⟩:=fun j=>by unfold Addr.add;split<;>simp_all
  refine hK w' ⟨fun i u hi=>?_,fun i u hi=>(hfz i).1⟩ ⟨hg.os,hg.tape,hg.output,hg.size,fun k hk=>hg.block k hk (by simp)⟩ (hfz 0).2;have hin:i<n:=by have:=(List.getElem?_eq_some_iff.1 hi).1;simpa using this
  have hu':u= .int .i64 0:=by rw[List.getElem?_replicate,if_pos hin] at hi;cases hi;rfl
  have:=hcells i hin;rw[hadd] at this;rw[hu'];exact this
def madeL(M:List Nat)(n:Nat):List Value:=M.map (fun k:Nat=>Value.int .i64 (k:Int))++List.replicate (n-M.length) (.int .i64 0)
theorem madeL_set{M:List Nat}{n k:Nat}(h:M.length<n):(madeL M n).set M.length (.int .i64 (k:Int))=madeL (M++[k]) n:=by
  unfold madeL;have e:(M.map (fun k:Nat=>Value.int .i64 (k:Int))).length=M.length:=List.length_map _;rw[List.set_append_right _ _ (by rw[e];exact Nat.le_refl _),e,Nat.sub_self,List.map_append,List.length_append,List.append_assoc];congr 1;obtain⟨d,hd⟩:∃d,n-M.length=d+1:=⟨n-M.length-1,by omega⟩;rw[hd,List.replicate_succ,List.set_cons_zero];have:n-(M.length+[k].length)=d:=by simp;omega
  rw[this];rfl
theorem madeL_get{M:List Nat}{n i:Nat}(h:i<M.length):(madeL M n)[i]?=some (.int .i64 ((natA M i:Nat):Int)):=by unfold madeL;rw[List.getElem?_append_left (by rw[List.length_map];exact h),List.getElem?_map,natA_at h];rfl
theorem madeL_len{M:List Nat}{n:Nat}(h:M.length≤n):(madeL M n).length=n:=by unfold madeL;simp;omega
theorem box_ltG{w:World}{g:Nat}{vs:List Value}(h:Box w g vs)(h0:0<vs.length):g<w.heap.size:=World.block_lt_of_cell? w _ (h.c 0 _ (List.getElem?_eq_getElem h0))
theorem mut_turnedNew{w w' w'':World}{mb g:Nat}{tv tv':Value}(h:Mut w w' mb tv tv')(ht:Turned w' w'' g)(hg:w.heap.size≤g):Mut w w'' mb tv tv':=⟨ht.os.trans h.os,ht.tape.trans h.tape,ht.output.trans h.output,by rw[ht.size];exact h.size,fun k hk h1 h2=>by obtain⟨e1,e2⟩:=h.keep k hk h1 h2;exact⟨(ht.block k (by omega)).trans e1,e2⟩⟩
theorem turnedG_setCell(w:World)(g i:Nat)(v:Value):Turned w (w.setCell ⟨g,i,none⟩ v) g:=⟨rfl,rfl,rfl,by simp,fun k hk=>heap_set_far _ _ _ _ _ hk⟩
theorem sideBox{w:World}{b i:Nat}{R:List SideM}{s:SideM}(h:SidesAt w b R)(hs:R[i]?=some s):w.cell? ⟨b,i*5,none⟩=some (.int .i64 s.a)∧w.cell? ⟨b,i*5+1,none⟩=some (.int .i64 s.b)∧w.cell? ⟨b,i*5+2,none⟩=some (.int .i64 s.u)∧w.cell? ⟨b,i*5+3,none⟩=some (.int .i64 s.i)∧w.cell? ⟨b,i*5+4,none⟩=some (.bool s.f):=⟨h i s hs 0 _ rfl,h i s hs 1 _ rfl,h i s hs 2 _ rfl,h i s hs 3 _ rfl,h i s hs 4 _ rfl⟩
set_option maxRecDepth 100000 in set_option maxHeartbeats 16000000 in theorem fill_any{lo mb pb pc:Nat}{tv:Value}{P:List (Int×Int)}{S:List TriM}(v:Int)(R:List SideM)(n rb rc:Nat)(pv:Value)(pl:List Int)(w:World)(h:MeshO 24 42 w lo mb pb pc tv P (S))(hv:v≠-2)(hn:R.length=n)(h0:0<n)(hroom:S.length+n≤1000000)(hR:RimOkG S R)(hrb:SidesAt w rb R)(hro:Off w mb tv rb)(hp:Parts w mb tv pv pl):Calls Tryz.prog 91 #[.pointer (some ⟨mb,0,none⟩),.int .i64 v,.slice (some ⟨rb,0,none⟩) n rc,pv] w fun e w'=>∃tv',e= .returned (.tuple #[])∧MeshO 24 42 w' lo mb pb pc tv' P (fillM R v pl S)∧Mut w w' mb tv tv':=by
  have hlow:=h.low;have H:=Lib.hid h;have HV:=Lib.hid hv;have HN:=Lib.hid hn;have HRM:=Lib.hid hR;have HRB:=Lib.hid hrb;have HRO:=Lib.hid hro;have HP:=Lib.hid hp;have hn9:n≤9000000000:=by omega
  have HRO2:=Lib.hid hroom;have HLT:=Lib.hid h.row.lt;have HFA:=Lib.hid (fun i (hi:i≤n)=>fillA_ok (R:=R) (v:=v) (S:=S) hv i (by omega));clear h hv hn hR hrb hro hp hroom;go_enter Tryz.func91,Tryz.ntmps91;go_wp2_with (first|(at_make;refine wpList_make_zeros rfl (.tmp 15) (.tmp 15) 75 rfl 3 (by kernel_rfl) infoInts .i64 .i64 _ _ n rfl rfl (by omega) (by omega) hn9 ?_;intro w1 hbx1 hb1 hs1;replace hbx1:=Lib.hid hbx1;replace hb1:=Lib.hid hb1;replace hs1:=Lib.hid hs1));obtain⟨g,hg⟩:∃g,w.heap.size=g:=⟨_,rfl⟩;rw[hg] at hbx1 hs1⊢;have HG:=Lib.hid hg;have HTV:Hid (tv.ownBlock≠some g):=Lib.hid (fun e=>by have:=(HLT.out g e).2;omega);have HMG:Hid (mb<g):=Lib.hid (by omega);have HPG:Hid (pb<g):=Lib.hid (by omega);clear hg hlow;go_loopw [9,10,19] (fun _ _ iv wr=>∃(i:Nat) (tw:Value),i≤n∧iv= .int .i64 (i:Int)∧MeshO 24 42 wr lo mb pb pc tw P ((fillA R v S i).1)∧Mut w wr mb tv tw∧Box wr g (madeL (fillA R v S i).2 n)∧tw.ownBlock≠some g) (fun _ _ iv _=>n-(intOf iv).toNat);case atStart=>exact⟨0,tv,Nat.zero_le _,rfl,H.out.below hb1.out,Mut.of_below hb1.out (fun k hk=>(HLT.out k hk).2),hbx1.out,HTV.out⟩
  case round=>
    obtain⟨i,tw,hi,rfl,hm,hmu,hbx,hne⟩:=hrel;by_cases hlt:i<n
    · have hyd:decide ((i:Int)<(n:Int))=true:=decide_eq_true (by omega);obtain⟨⟨sa,sb,su,si,sf⟩,hs⟩:∃s,R[i]?=some s:=⟨_,List.getElem?_eq_getElem (by rw[HN.out];exact hlt)⟩;obtain⟨u,j,hu,hj,hj3,hal⟩:=HRM.out _ (List.mem_of_getElem? hs);simp only[] at hu hj;subst hu;subst hj;obtain⟨hl1,hl2,hl3,hl4⟩:=HFA.out i (by omega);have hfs:=fillA_some (v:=v) (S:=S) hs;simp only[Int.toNat_natCast] at hfs;obtain⟨SA,hSA⟩:∃X,(fillA R v S i).1=X:=⟨_,rfl⟩;obtain⟨MA,hMA⟩:∃X,(fillA R v S i).2=X:=⟨_,rfl⟩;rw[hSA] at hm hl2 hl3 hl4 hfs;rw[hMA] at hbx hl1 hl4 hfs;obtain⟨ho1,ho2⟩:=HRO.out.mut hmu;obtain⟨c0,c1,c2,c3,c4⟩:=sideBox (HRB.out.same ho2) hs;simp only[] at c0 c1 c2 c3 c4;obtain⟨xb,hxb⟩:∃x,wr.heap.size=x:=⟨_,rfl⟩;obtain⟨w2,hw2,px,hb2,hs2⟩:=new_box wr _ rfl [.int .i64 sa,.int .i64 sb,.int .i64 (u:Int),.int .i64 (j:Int),.bool sf] 161;rw[hxb] at px hs2;have hgr:=box_ltG hbx (by rw[madeL_len (by omega)];omega);have hm2:=hm.below hb2;have hbx2:=hbx.below hb2;have hal2:=hl3 u hal;have hroom2:SA.length+1≤1000000:=by have:=HRO2.out;omega
      have hmk:=mkTri_any sa sb v w2 hm2 hroom2;have e0:=px.c 0 _ rfl;have e1:=px.c 1 _ rfl;obtain⟨kk,hkk⟩:∃kk,makeK SA=kk:=⟨_,rfl⟩;have halk:=alive_made SA sa sb v HV.out;have halu:=alive_make hal2 sa sb v;rw[hkk] at hmk halk hfs;obtain⟨SB,hSB⟩:∃X,makeM SA sa sb v=X:=⟨_,rfl⟩;rw[hSB] at hmk halk halu hfs;have hof2g:Off w2 mb tw g:=⟨by have:=hb2.size;omega,by have:=HMG.out;omega,hne⟩;have hltw:=hm.row.lt;have hof2x:Off w2 mb tw xb:=⟨by omega,by have:=hm.low.2.1;omega,fun e=>by have:=(hltw xb e).2;omega⟩;have hmu2:Mut w w2 mb tv tw:=hmu.trans (Mut.of_below hb2 (fun k hk=>(hltw k hk).2));have hgx:g≠xb:=by omega
      have HMK:=Lib.hid hmk;have HBX2:=Lib.hid hbx2;have PX:=Lib.hid px;have HFS:=Lib.hid hfs;have HALK:=Lib.hid halk;have HALU:=Lib.hid halu;have HOG:=Lib.hid hof2g;have HOX:=Lib.hid hof2x;have HMU2:=Lib.hid hmu2;have HL1:=Lib.hid hl1;have HGX:=Lib.hid hgx;have hj1:(0:Int)≤(i:Int):=by omega
      have hj2:(i:Int)<(n:Int):=by omega
      clear hs hal hl1 hl2 hl3 hl4 hfs hSA hMA hm hmu hbx hne ho1 ho2 px hb2 hs2 hm2 hbx2 hal2 hroom2 hmk hkk halk halu hSB hof2g hltw hof2x hmu2 hgr hgx;go_wp2_with fail;refine HMK.out.mono ?_;rintro e w3 ⟨tw3,rfl,hm3,hmu3⟩;obtain⟨hog3,hgh3⟩:=HOG.out.mut hmu3;obtain⟨hox3,hxh3⟩:=HOX.out.mut hmu3;have hbx3:=HBX2.out.same hgh3;have px3:=PX.out.same hxh3;have hlm:(madeL MA n).length=n:=madeL_len (by have:=HL1.out;omega);obtain⟨zz,hzz⟩:∃zz,(madeL MA n)[i]?=some zz:=⟨_,List.getElem?_eq_getElem (by rw[hlm];exact hlt)⟩;have hgc:=hbx3.c i _ hzz;have hgf:=hbx3.f i _ hzz;clear hzz;obtain⟨w4,hw4⟩:∃w4,w3.setCell ⟨g,i,none⟩ (.int .i64 (kk:Int))=w4:=⟨_,rfl⟩;have ht4:Turned w3 w4 g:=by rw[←hw4];exact turnedG_setCell w3 g i _
      have hbx4:Box w4 g (madeL (MA++[kk]) n):=by
        have:=hbx3.set i (.int .i64 (kk:Int));rw[hw4] at this;rwa [←HL1.out,madeL_set (by have:=HL1.out;omega)] at this
      have px4:=px3.turned ht4 (fun e=>HGX.out e.symm);have hm4:MeshO 24 42 w4 lo mb pb pc tw3 P (SB):=hm3.turned ht4 (by have:=HMG.out;omega) (by have:=HPG.out;omega) hog3.2.2;have hmu4:Mut w w4 mb tv tw3:=mut_turnedNew (HMU2.out.trans hmu3) ht4 (by have:=HG.out;omega);have hog4:Off w4 mb tw3 g:=⟨by rw[ht4.size];exact hog3.1,hog3.2⟩;have hox4:Off w4 mb tw3 xb:=⟨by rw[ht4.size];exact hox3.1,hox3.2⟩;have hgi4:(madeL (MA++[kk]) n)[i]?=some (.int .i64 (kk:Int)):=by rw[madeL_get (by rw[List.length_append,HL1.out];simp)];unfold natA;rw[←HL1.out,List.getElem?_append_right (Nat.le_refl _),Nat.sub_self];rfl
      obtain⟨T1,hT1,hgT1⟩:=HALK.out;obtain⟨U1,hU1,hgU1⟩:=HALU.out;have HLK:=Lib.hid (show∀W,Below w4.heap.size w4 W→Calls Tryz.prog 83 #[.pointer (some ⟨mb,0,none⟩),.int .i64 (kk:Int),.int .i64 2,.int .i64 (u:Int),.int .i64 (j:Int),.bool sf] W fun e w'=>e= .returned (.tuple #[])∧MeshO 24 42 w' lo mb pb pc tw3 P (linkL SB kk 2 u j sf)∧Mut W w' mb tw3 tw3 from fun W hW=>Link_any kk 2 u j sf T1 U1 W (hm4.below hW) hT1 hgT1 (by omega) hU1 hgU1 hj3);have C5:=Lib.hid (show∀w',Below w4.heap.size w4 w'→w'.cell? ⟨g,i,none⟩=some (.int .i64 (kk:Int))∧w'.cell? ⟨xb,2,none⟩=some (.int .i64 (u:Int))∧w'.cell? ⟨xb,3,none⟩=some (.int .i64 (j:Int))∧w'.cell? ⟨xb,4,none⟩=some (.bool sf) from fun w' hb=>by have hq:=hbx4.below hb;have hy:=px4.below hb;exact⟨hq.c i _ hgi4,hy.c 2 _ rfl,hy.c 3 _ rfl,hy.c 4 _ rfl⟩);have K5:=Lib.hid (show∀(w':World)(t5:Value),Mut w4.drew w' mb tw3 t5→w'.cell? ⟨g,i,none⟩=some (.int .i64 (kk:Int))∧w'.cell? ⟨xb,2,none⟩=some (.int .i64 (u:Int))∧w'.cell? ⟨xb,3,none⟩=some (.int .i64 (j:Int))∧w'.cell? ⟨xb,4,none⟩=some (.bool sf) from fun w' t5 hmu=>by have hq:=hbx4.drew.same ((show Off w4.drew mb tw3 g from hog4).mut hmu).2;have hy:=px4.drew.same ((show Off w4.drew mb tw3 xb from hox4).mut hmu).2;exact⟨hq.c i _ hgi4,hy.c 2 _ rfl,hy.c 3 _ rfl,hy.c 4 _ rfl⟩);have HBX4:=Lib.hid hbx4;have HOG4:=Lib.hid hog4;have HMU4:=Lib.hid hmu4;have HW4:=Lib.hid hw4;clear hm3 hmu3 hog3 hgh3 hox3 hxh3 hbx3 px3 hlm ht4 hbx4 px4 hm4 hmu4 hog4 hox4 hgi4 hT1 hgT1 hU1 hgU1 hw4;go_wp2_with fail;rw[HW4.out];clear hxb hw2;clear c0 c1 c2 c3 c4 e0 e1 hgc hgf;refine wp_region_noPanic ?_;refine wp_region_held_drew (S:=fun w'=>w'.cell? ⟨g,i,none⟩=some (.int .i64 (kk:Int))∧w'.cell? ⟨xb,2,none⟩=some (.int .i64 (u:Int))∧w'.cell? ⟨xb,3,none⟩=some (.int .i64 (j:Int))∧w'.cell? ⟨xb,4,none⟩=some (.bool sf)) (by kernel_rfl) (C5.out _ (Below.refl _ _).drew') (fun hHeld=>?_);refine rU 0 _ _ ?_;refine rU 1 _ _ ?_;refine rU 2 _ _ ?_;refine rU 3 _ _ ?_;refine rU 4 _ _ ?_;refine rU 5 _ _ ?_;refine rU 6 _ _ ?_;refine rU 7 _ _ ?_;refine rU 8 _ _ ?_;refine rU 9 _ _ ?_;refine rU 10 _ _ ?_;refine rC 11 _ (fun K hK=>?_);have hh5:=(Below.refl w4.heap.size w4).drew';go_simp;refine(HLK.out _ hh5).mono ?_;rintro e w5 ⟨rfl,hm5,hmu5⟩;go_wp2_with fail;refine hK.out _ _ (⟨(K5.out _ _ hmu5).1,(K5.out _ _ hmu5).2.1,(K5.out _ _ hmu5).2.2.1,(K5.out _ _ hmu5).2.2.2⟩) (fun hHeld=>?_);clear hK K;try simp only[Act.put,sA,sZ,sS]
      refine wpAnyH_done (by kernel_rfl) ?_ _;refine NoPanic.normal ?_;have hmuD:Mut w4 w4.drew mb tw3 tw3:=Mut.drew (Mut.refl _ _ _);obtain⟨hog5,hgh5⟩:=(show Off w4.drew mb tw3 g from HOG4.out).mut hmu5;have FIN:=Lib.hid (And.intro hm5 (And.intro ((HMU4.out.trans hmuD).trans hmu5) (And.intro (HBX4.out.drew.same hgh5) hog5.2.2)));clear hm5 hmu5 hmuD hog5 hgh5 hh5;go_wp2;refine⟨⟨i+1,tw3,by omega,by go_num,?_⟩,by simp[intOf];omega⟩;rw[HFS.out];exact FIN.out
    · obtain rfl:i=n:=by omega
      obtain⟨hl1,hl2,hl3,hl4⟩:=HFA.out i (by omega);have hfm:fillM R v pl S=fillB R pl (fillA R v S i).2 (fillA R v S i).1 i:=by unfold fillM;rw[HN.out]
      obtain⟨SA,hSA⟩:∃X,(fillA R v S i).1=X:=⟨_,rfl⟩;obtain⟨MA,hMA⟩:∃X,(fillA R v S i).2=X:=⟨_,rfl⟩;rw[hSA] at hm hl2 hl3 hl4 hfm;rw[hMA] at hbx hl1 hl4 hfm;have HFM:=Lib.hid hfm;have HM:=Lib.hid hm;have HMU:=Lib.hid hmu;have HBX:=Lib.hid hbx;have HNE:=Lib.hid hne;have HL1:=Lib.hid hl1;have HL4:=Lib.hid hl4;have hpar:=HP.out.mut hmu;have HPAR:=Lib.hid hpar;have hroR:=HRO.out.mut hmu;have HRR:=Lib.hid (And.intro hroR.1 (HRB.out.same hroR.2));clear hfm hl1 hl2 hl3 hl4 hSA hMA hm hmu hbx hne hpar hroR;obtain⟨wo,rfl⟩:∃wo,wo=wr:=⟨_,rfl⟩;go_wp2;go_loopw [11,12,13,49] (fun _ _ _ iv wr=>∃(k:Nat),k≤i∧iv= .int .i64 (k:Int)∧MeshO 24 42 wr lo mb pb pc tw P (fillB R pl MA SA k)∧Mut wo wr mb tw tw∧Box wr g (madeL MA i)) (fun _ _ _ iv _=>i-(intOf iv).toNat);case atStart=>exact⟨0,Nat.zero_le _,rfl,HM.out,Mut.refl _ _ _,HBX.out⟩
      case round=>
        obtain⟨k,hk,rfl,hm,hmu,hbx⟩:=hrel;by_cases hlt:k<i
        · have hyd:decide ((k:Int)<(i:Int))=true:=decide_eq_true (by omega);obtain⟨⟨sa,sb,su,si,sf⟩,hs⟩:∃s,R[k]?=some s:=⟨_,List.getElem?_eq_getElem (by rw[HN.out];exact hlt)⟩;have hfs:=fillB_some (pl:=pl) (M:=MA) (S:=SA) hs;simp only[] at hfs;rw[HN.out] at hfs;obtain⟨m,hmm⟩:∃m,(k+1)%i=m:=⟨_,rfl⟩;have hmi:m<i:=by rw[←hmm];exact Nat.mod_lt _ (by omega)
          have hmod:((k:Int)+1).tmod (i:Int)=(m:Int):=by rw[mod_one,hmm]
          rw[hmm] at hfs;obtain⟨k1,hk1⟩:∃x,natA MA k=x:=⟨_,rfl⟩;obtain⟨k2,hk2⟩:∃x,natA MA m=x:=⟨_,rfl⟩;have g1:=madeL_get (M:=MA) (n:=i) (i:=k) (by rw[HL1.out];exact hlt);have g2:=madeL_get (M:=MA) (n:=i) (i:=m) (by rw[HL1.out];exact hmi);have a1:=HL4.out k1 (by rw[←hk1];exact List.mem_of_getElem? (natA_at (by rw[HL1.out];exact hlt)));have a2:=HL4.out k2 (by rw[←hk2];exact List.mem_of_getElem? (natA_at (by rw[HL1.out];exact hmi)));rw[hk1] at g1 hfs;rw[hk2] at g2 hfs;obtain⟨q,hq⟩:∃q,decide (sb∈pl)=q:=⟨_,rfl⟩;rw[hq] at hfs;obtain⟨hB1,hB2⟩:=fillB_ok (R:=R) (pl:=pl) (M:=MA) (S:=SA) k (by rw[HN.out];omega);obtain⟨T1,hT1,hgT1⟩:=hB2 k1 a1;obtain⟨U1,hU1,hgU1⟩:=hB2 k2 a2;obtain⟨SB,hSB⟩:∃X,fillB R pl MA SA k=X:=⟨_,rfl⟩;rw[hSB] at hm hfs hT1 hU1;obtain⟨ho1,ho2⟩:=HRR.out.1.mut hmu;obtain⟨c0,c1,c2,c3,c4⟩:=sideBox (HRR.out.2.same ho2) hs;simp only[] at c0 c1 c2 c3 c4;obtain⟨xb,hxb⟩:∃x,wr.heap.size=x:=⟨_,rfl⟩;obtain⟨w3,hw3,px,hb3,hs3⟩:=new_box wr _ rfl [.int .i64 sa,.int .i64 sb,.int .i64 su,.int .i64 si,.bool sf] 161;rw[hxb] at px hs3;have hgr:=box_ltG hbx (by rw[madeL_len (by have:=HL1.out;omega)];omega);have hm3:=hm.below hb3;have hbx3:=hbx.below hb3;have hltw:=hm.row.lt;have hpar3:=(HPAR.out.mut hmu).below hb3;have hmu3:Mut wo w3 mb tw tw:=hmu.trans (Mut.of_below hb3 (fun k hk=>(hltw k hk).2));have hnw:tw.ownBlock≠some g:=HNE.out;have hog3:Off w3 mb tw g:=⟨by omega,by have:=HMG.out;omega,hnw⟩;have hox3:Off w3 mb tw xb:=⟨by omega,by have:=hm.low.2.1;omega,fun e=>by have:=(hltw xb e).2;omega⟩;have gg:=hbx3.c m _ g2;have HCO:=Lib.hid (show∀W,Below w3.heap.size w3 W→Calls Tryz.prog 70 #[pv,.int .i64 sb] W fun e w'=>e= .returned (.bool q)∧W=w' from fun W hW=>by
            rw[←hq];refine containsI_any pv pl sb W ?_;rcases hpar3.below hW with h|⟨qb,c,h1,h2,h3,h4⟩;·exact .inl h
            ·exact .inr ⟨qb,c,h1,h2,h4⟩);have HLK:=Lib.hid (show∀W,Below w3.heap.size w3 W→Calls Tryz.prog 83 #[.pointer (some ⟨mb,0,none⟩),.int .i64 (k1:Int),.int .i64 0,.int .i64 (k2:Int),.int .i64 1,.bool q] W fun e w'=>e= .returned (.tuple #[])∧MeshO 24 42 w' lo mb pb pc tw P (linkL SB k1 0 k2 1 q)∧Mut W w' mb tw tw from fun W hW=>Link_any k1 0 k2 1 q T1 U1 W (hm3.below hW) hT1 hgT1 (by omega) hU1 hgU1 (by omega));have C11:=Lib.hid (show∀w',Below w3.heap.size w3 w'→w'.cell? ⟨g,k,none⟩=some (.int .i64 (k1:Int))∧w'.cell? ⟨xb,1,none⟩=some (.int .i64 sb) from fun w' hb=>by have hq:=hbx3.below hb;have hy:=px.below hb;exact⟨hq.c k _ g1,hy.c 1 _ rfl⟩);have K11:=Lib.hid (show∀(w':World)(t5:Value),Mut w3.drew w' mb tw t5→w'.cell? ⟨g,k,none⟩=some (.int .i64 (k1:Int))∧w'.cell? ⟨xb,1,none⟩=some (.int .i64 sb) from fun w' t5 hmu=>by have hq:=hbx3.drew.same ((show Off w3.drew mb tw g from hog3).mut hmu).2;have hy:=px.drew.same ((show Off w3.drew mb tw xb from hox3).mut hmu).2;exact⟨hq.c k _ g1,hy.c 1 _ rfl⟩);have HBX3:=Lib.hid hbx3;have HOG3:=Lib.hid hog3;have HMU3:=Lib.hid hmu3;have HFS:=Lib.hid hfs;have hk0:((i:Int)==0)=false:=by simp;omega
          have hkn:¬i=0:=by omega
          have hwj:IntKind.i64.wrap ((k:Int)+1)=(k:Int)+1:=by rw[IntKind.wrap_i64];omega
          have hj1:(0:Int)≤(k:Int):=by omega
          have hj2:(k:Int)<(i:Int):=by omega
          have hj3:(0:Int)≤(m:Int):=by omega
          have hj4:(m:Int)<(i:Int):=by omega
          clear hs hfs hmm hk1 hk2 g1 g2 a1 a2 hq hB1 hB2 hT1 hgT1 hU1 hgU1 hSB ho1 ho2 px hb3 hs3 hgr hm3 hbx3 hltw hpar3 hmu3 hnw hog3 hox3 hm hmu hbx;go_wp2_with fail;clear c0 c1 c2 c3 c4 gg hw3 hxb;refine wp_region_noPanic ?_;refine wp_region_held_drew (S:=fun w'=>w'.cell? ⟨g,k,none⟩=some (.int .i64 (k1:Int))∧w'.cell? ⟨xb,1,none⟩=some (.int .i64 sb)) (by kernel_rfl) (C11.out _ (Below.refl _ _).drew') (fun hHeld=>?_);refine rU 0 _ _ ?_;refine rU 1 _ _ ?_;refine rU 2 _ _ ?_;refine rU 3 _ _ ?_;refine rU 4 _ _ ?_;refine rU 5 _ _ ?_;refine rU 6 _ _ ?_;refine rU 7 _ _ ?_;refine rU 8 _ _ ?_;refine rC 9 _ (fun K hK=>?_);have hh9:=(Below.refl w3.heap.size w3).drew';go_simp;refine(HCO.out _ hh9).mono ?_;rintro e w4 ⟨rfl,rfl⟩;go_wp2_with fail;refine hK.out _ _ (C11.out _ hh9) (fun hHeld=>?_);clear hK K;try simp only[Act.put,sA,sZ,sS]
          refine rC 10 _ (fun K hK=>?_);go_simp;refine(HLK.out _ hh9).mono ?_;rintro e w5 ⟨rfl,hm5,hmu5⟩;go_wp2_with fail;refine hK.out _ _ (⟨(K11.out _ _ hmu5).1,(K11.out _ _ hmu5).2⟩) (fun hHeld=>?_);clear hK K;try simp only[Act.put,sA,sZ,sS]
          refine wpAnyH_done (by kernel_rfl) ?_ _;refine NoPanic.normal ?_;have hmuD:Mut w3 w3.drew mb tw tw:=Mut.drew (Mut.refl _ _ _);obtain⟨hog5,hgh5⟩:=(show Off w3.drew mb tw g from HOG3.out).mut hmu5;have FIN:=Lib.hid (And.intro hm5 (And.intro ((HMU3.out.trans hmuD).trans hmu5) (HBX3.out.drew.same hgh5)));clear hm5 hmu5 hmuD hog5 hgh5 hh9;go_wp2;refine⟨⟨k+1,by omega,by go_num,?_⟩,by simp[intOf];omega⟩;rw[HFS.out];exact FIN.out
        · obtain rfl:k=i:=by omega
          have FIN:=Lib.hid (And.intro hm (HMU.out.trans hmu));clear hm hmu hbx;go_wp2;go_end0;refine⟨tw,rfl,?_,FIN.out.2⟩;rw[HFM.out];exact FIN.out.1
end Go.Proofs.YtammmemfkpcpcaaGreat
namespace Go.MagM
open Go.RowKit
def rimR(S:List TriM)(ts:List Int):List SideM:=inRowM (rimP S ts ts.length)
def dropN(S:List TriM)(l:List Int):Nat→List TriM|0=>S|n+1=>match l[n]? with|none=>dropN S l n|some t=>(dropN S l n).set t.toNat goneTri
theorem dropN_some{S:List TriM}{l:List Int}{n:Nat}{t:Int}(h:l[n]?=some t):dropN S l (n+1)=(dropN S l n).set t.toNat goneTri:=by rw[dropN,h]
theorem dropN_len(S:List TriM)(l:List Int):∀n,(dropN S l n).length=S.length
  |0=>rfl|n+1=>by
    have:=dropN_len S l n;rw[dropN];split;·exact this
    ·rw[List.length_set];exact this
theorem alive_set{S:List TriM}{u t:Nat}(h:Alive S u)(hne:t≠u):Alive (S.set t goneTri) u:=by obtain⟨T,hT,hg⟩:=h;exact⟨T,by rw[List.getElem?_set_ne hne];exact hT,hg⟩
theorem dropN_keep{S:List TriM}{l:List Int}{u:Nat}(h:Alive S u)(h0:∀t,t∈l→0≤t):∀n,(∀i,i<n→l[i]?≠some (u:Int))→Alive (dropN S l n) u|0,_=>h|n+1,hn=>by have ih:=dropN_keep h h0 n (fun i hi=>hn i (by omega));rw[dropN];cases hl:l[n]? with|none=>exact ih|some t=>refine alive_set ih fun e=>hn n (by omega) ?_;have:=h0 t (List.mem_of_getElem? hl);rw[hl,show t=(u:Int) by omega]
theorem dropN_off{S:List TriM}{l:List Int}{u:Nat}(h:Alive S u)(hu:(u:Int)∉l)(h0:∀t,t∈l→0≤t)(n:Nat):Alive (dropN S l n) u:=dropN_keep h h0 n fun _ _ e=>hu (List.mem_of_getElem? e)
theorem dropN_alive{S:List TriM}{l:List Int}{n t:Nat}(h:Alive S t)(hl:l.Nodup∧∀t,t∈l→0≤t)(ht:l[n]?=some (t:Int)):Alive (dropN S l n) t:=dropN_keep h hl.2 n fun i hi e=>by have hn:=(List.getElem?_eq_some_iff.1 ht).1;have:=(List.getElem?_inj (by omega:i<l.length) hl.1).1 (e.trans ht.symm);omega
end Go.MagM
namespace Go.Proofs.YtammmemfkpcpcaaGreat
open Go.RowKit Go.MagM
theorem ins_sorted{S:List TriM}{ts:List Int}(h:InS S ts):(sortL ts).Nodup∧∀t,t∈sortL ts→0≤t:=⟨(sortL_perm ts).nodup_iff.2 h.once,fun t ht=>by obtain⟨u,e,-⟩:=h.is t ((sortL_perm ts).mem_iff.1 ht);rw[e];omega⟩
def putM(S:List TriM)(v:Int)(pl:List Int)(ts:List Int):List TriM:=fillM (rimR S ts) v pl (dropN S (sortL ts) ts.length)
set_option maxRecDepth 100000 in set_option maxHeartbeats 16000000 in theorem put_any{lo mb pb pc:Nat}{tv:Value}{P:List (Int×Int)}{S:List TriM}(v:Nat)(p0 p1 x0 x1 x2 x3:Int)(pl:List Int)(Good:List Int→Prop)(w:World)(h:MeshO 24 42 w lo mb pb pc tv P (S))(hv:P[v]?=some (p0,p1))(hlive:∀t,t<S.length→Alive S t)(hsh:S.length≤200000)(hG:∀ts,Good ts→InS S ts∧rimR S ts≠[]∧∀s,s∈rimR S ts→∃u i:Nat,s.u=(u:Int)∧(u:Int)∉ts∧u<S.length∧s.i=(i:Int)∧i<3)(hfa:∀W:World,Below w.heap.size w W→Calls Tryz.prog 90 #[.pointer (some ⟨mb,0,none⟩),.agg #[.int .i64 x0,.int .i64 x1,.int .i64 x2,.int .i64 x3]] W fun e w'=>∃pv,e= .returned pv∧((pv= .slice none 0 0∧pl=[])∨∃qb c,pv= .slice (some ⟨qb,0,none⟩) pl.length c∧IntsAt w' qb pl∧(W.heap.size≤qb∧qb<w'.heap.size)∧pl.length≤1000)∧Below W.heap.size W w')(hdg:∀W:World,Below w.heap.size w W→Calls Tryz.prog 44 #[.pointer (some ⟨mb,0,none⟩),.agg #[.int .i64 p0,.int .i64 p1],.agg #[.int .i64 x0,.int .i64 x1,.int .i64 x2,.int .i64 x3]] W fun e w'=>∃(gd c rb rc:Nat) (ts:List Int) (cb:Bool),e= .returned (.agg #[.slice (some ⟨gd,0,none⟩) ts.length c,.slice (some ⟨rb,0,none⟩) (rimR S ts).length rc,.bool cb])∧Good ts∧IntsAt w' gd (sortL ts)∧SidesAt w' rb (rimR S ts)∧(W.heap.size≤gd∧gd<w'.heap.size∧W.heap.size≤rb∧rb<w'.heap.size)∧Below W.heap.size W w'):Calls Tryz.prog 35 #[.pointer (some ⟨mb,0,none⟩),.int .i64 (v:Int),.agg #[.int .i64 x0,.int .i64 x1,.int .i64 x2,.int .i64 x3]] w fun e w'=>∃(ts:List Int) (tv':Value),e= .returned (.tuple #[])∧Good ts∧MeshO 24 42 w' lo mb pb pc tv' P (putM S (v:Int) pl ts)∧Mut w w' mb tv tv':=by
  have hvl:=(List.getElem?_eq_some_iff.1 hv).1;obtain⟨lb,hlb⟩:∃lb,w.heap.size=lb:=⟨_,rfl⟩;obtain⟨w1,hw1,px,hb1,hs1⟩:=new_box w _ rfl [.int .i64 x0,.int .i64 x1,.int .i64 x2,.int .i64 x3] 83;rw[hlb] at px;have H:=Lib.hid h;have HV:=Lib.hid hv;have HLV:=Lib.hid hlive;have HSH:=Lib.hid hsh;have HG:=Lib.hid hG;have HFA:=Lib.hid (hfa w1 hb1);have HDG:=Lib.hid hdg;have PX:=Lib.hid px;have HB1:=Lib.hid hb1;obtain⟨N,hN⟩:∃N,P.length=N:=⟨_,rfl⟩;rw[hN] at hvl;have HNP:=Lib.hid hN;have i0:=px.c 0 _ rfl;have i1:=px.c 1 _ rfl;have i2:=px.c 2 _ rfl;have i3:=px.c 3 _ rfl;have j3:(0:Int)≤(v:Int):=by omega
  have j4:(v:Int)<(N:Int):=by omega
  clear h hv hlive hsh hG hfa hdg px hb1 hs1 hN hvl;go_enter Tryz.func35,Tryz.ntmps35;go_wp2_with fail;refine HFA.out.mono ?_;rintro e w2 ⟨pv,rfl,hpv,hb2⟩;have hB2:Below w.heap.size w w2:=HB1.out.trans (hb2.mono HB1.out.size);obtain⟨WD,hwd⟩:∃WD,w2.drew=WD:=⟨_,rfl⟩;have hBD:Below w.heap.size w WD:=by rw[←hwd];exact hB2.drew'
  have HWD:=Lib.hid hBD;have HWD2:=Lib.hid hwd;have HPV:=Lib.hid hpv;have C2:=Lib.hid (show∀w',Below WD.heap.size WD w'→w'.cell? ⟨mb,0,none⟩=some (.slice (some ⟨pb,0,none⟩) N pc)∧w'.cell? ⟨pb,v*2,none⟩=some (.int .i64 p0)∧w'.cell? ⟨pb,v*2+1,none⟩=some (.int .i64 p1)∧w'.cell? ⟨lb,0,none⟩=some (.int .i64 x0)∧w'.cell? ⟨lb,1,none⟩=some (.int .i64 x1)∧w'.cell? ⟨lb,2,none⟩=some (.int .i64 x2)∧w'.cell? ⟨lb,3,none⟩=some (.int .i64 x3) from fun w' hb=>by
    have hh:Below w.heap.size w w':=hBD.trans (hb.mono hBD.size);have hm:=H.out.below hh;obtain⟨ta,tc,-,hr⟩:=hm.read;have e0:=hm.box.c 0 _ rfl;rw[HNP.out] at e0;have hx:=(PX.out.below hb2);have e1:Below w2.heap.size w2 w':=by
      have e1:Below w2.heap.size w2 WD:=by rw[←hwd];exact(Below.refl _ _).drew'
      exact e1.trans (hb.mono e1.size)
    have hx:=hx.below e1;exact⟨e0,(hr.pt HV.out).1,(hr.pt HV.out).2,hx.c 0 _ rfl,hx.c 1 _ rfl,hx.c 2 _ rfl,hx.c 3 _ rfl⟩);clear hpv hb2 hB2 hBD i0 i1 i2 i3;go_wp2_with fail;clear hlb hw1;refine wp_region_noPanic ?_;refine wp_region_held_drew (S:=fun w'=>w'.cell? ⟨mb,0,none⟩=some (.slice (some ⟨pb,0,none⟩) N pc)∧w'.cell? ⟨pb,v*2,none⟩=some (.int .i64 p0)∧w'.cell? ⟨pb,v*2+1,none⟩=some (.int .i64 p1)∧w'.cell? ⟨lb,0,none⟩=some (.int .i64 x0)∧w'.cell? ⟨lb,1,none⟩=some (.int .i64 x1)∧w'.cell? ⟨lb,2,none⟩=some (.int .i64 x2)∧w'.cell? ⟨lb,3,none⟩=some (.int .i64 x3)) (by kernel_rfl) (C2.out _ (by rw[←hwd];exact Below.refl _ _)) (fun hHeld=>?_);rw[hwd] at hHeld⊢;refine rU 0 _ _ ?_;refine rU 1 _ _ ?_;refine rU 2 _ _ ?_;refine rU 3 _ _ ?_;refine rU 4 _ _ ?_;refine rU 5 _ _ ?_;refine rU 6 _ _ ?_;refine rU 7 _ _ ?_;refine rU 8 _ _ ?_;refine reg_grab (fun WWx ax hWW hAA=>?_);have LEAF:∀(k gd c rb rc:Nat)(ts:List Int)(cb:Bool)(Wx:World),Below WD.heap.size WD Wx→WD.heap.size≤k→Box Wx k [.slice none 0 0,.slice none 0 0,.bool false]→(WD.heap.size≤gd∧gd<Wx.heap.size∧gd≠k∧WD.heap.size≤rb∧rb<Wx.heap.size∧rb≠k)→Good ts→IntsAt Wx gd (sortL ts)→SidesAt Wx rb (rimR S ts)→WWx 1 #[true,true,true,true,true,true,true,true,true,true,true,false] ((ax.put (some 22) (.agg #[.slice (some ⟨gd,0,none⟩) ts.length c,.slice (some ⟨rb,0,none⟩) (rimR S ts).length rc,.bool cb])).put (some 7) (.pointer (some ⟨k,0,none⟩))) Wx:=by
    intro k gd c rb rc ts cb Wx hbx hk pz hgd hgo hin hsi;have hHeld:=C2.out _ hbx;rw[hWW,hAA];try simp only[Act.put,sA,sZ,sS]
    refine rC 11 _ (fun K hK=>?_);obtain⟨wy,hwy_⟩:∃wy,setAll Wx k 0 [.slice (some ⟨gd,0,none⟩) ts.length c,.slice (some ⟨rb,0,none⟩) (rimR S ts).length rc,.bool cb]=wy:=⟨_,rfl⟩;refine wanted_go rfl ?_;refine wp_store_box _ _ _ rfl [.slice (some ⟨gd,0,none⟩) ts.length c,.slice (some ⟨rb,0,none⟩) (rimR S ts).length rc,.bool cb] pz rfl rfl (by kernel_rfl) (by simp) rfl hwy_ ?_;have hby:Below WD.heap.size WD wy:=by rw[←hwy_];exact below_setAll hbx hk _
    refine hK.out _ _ (C2.out _ hby) (fun hHeld=>?_);clear hK K;try simp only[Act.put,sA,sZ,sS]
    refine wpAnyH_done (by kernel_rfl) ?_ _;refine NoPanic.normal ?_;have hwx:Below w.heap.size w Wx:=HWD.out.trans (hbx.mono HWD.out.size);have hwy:Below w.heap.size w wy:=by rw[←hwy_];exact below_setAll hwx (by have:=HWD.out.size;omega) _
    have py:Box wy k [.slice (some ⟨gd,0,none⟩) ts.length c,.slice (some ⟨rb,0,none⟩) (rimR S ts).length rc,.bool cb]:=by rw[←hwy_];exact pz.setAll [.slice (some ⟨gd,0,none⟩) ts.length c,.slice (some ⟨rb,0,none⟩) (rimR S ts).length rc,.bool cb] rfl
    have hty:Turned Wx wy k:=by rw[←hwy_];exact turned_setAll _ _ (Turned.refl _ _)
    have hsy:wy.heap.size=Wx.heap.size:=hty.size;have hin':=hin.same (hty.block gd hgd.2.2.1);have hsi':=hsi.same (hty.block rb hgd.2.2.2.2.2);have hmy:=H.out.below hwy;obtain⟨n,hn⟩:∃n,ts.length=n:=⟨_,rfl⟩;obtain⟨hI,hR0,hR⟩:=HG.out ts hgo;have hn9:n≤200000:=by have:=hI.le;have:=HSH.out;omega
    have hsl:(sortL ts).length=n:=by rw[sortL_len];exact hn
    rw[hn] at py⊢;have hofk:∀b,w.heap.size≤b→b<wy.heap.size→Off wy mb tv b:=fun b h1 h2=>⟨h2,by have:=H.out.low.2.1;omega,fun e=>by have:=(H.out.row.lt b e).2;omega⟩;have hwD:=HWD.out.size;have hkl:=py.lt;have OGD:=Lib.hid (hofk gd (by omega) (by omega));have ORB:=Lib.hid (hofk rb (by omega) (by omega));have OK:=Lib.hid (hofk k (by omega) (by omega));have OPV:Hid (Parts wy mb tv pv pl):=Lib.hid (by
      rcases HPV.out with h|⟨qb,c,h1,h2,⟨h3,h4⟩,h5⟩;·exact .inl h
      · have e:Below w2.heap.size w2 wy:=by
          have e1:Below w2.heap.size w2 WD:=by rw[←HWD2.out];exact(Below.refl _ _).drew'
          rw[←hwy_];exact below_setAll (e1.trans (hbx.mono e1.size)) (by have:=e1.size;omega) _
        exact .inr ⟨qb,c,h1,h2.same (e.block qb h4),hofk qb (by have:=HB1.out.size;omega) (by have:=e.size;omega),h5⟩);have PY:=Lib.hid py;have HIN:=Lib.hid hin';have HSI:=Lib.hid hsi';have HMY:=Lib.hid hmy;have HWY:=Lib.hid hwy;have HI:=Lib.hid hI;have HR0:=Lib.hid hR0;have HR:=Lib.hid hR;have HSL:=Lib.hid hsl;have HGO:=Lib.hid hgo;have HN:=Lib.hid hn;have y0:=py.c 0 _ rfl;clear hkl hwx hwy py hty hsy hin' hsi' hmy hI hR0 hR hsl hofk hwD hin hsi hgo hgd pz hbx hHeld;go_wp2;clear y0;go_loopw [9,26] (fun _ iv wr=>∃i:Nat,i≤n∧iv= .int .i64 (i:Int)∧MeshO 24 42 wr lo mb pb pc tv P (dropN S (sortL ts) i)∧Mut wy wr mb tv tv) (fun _ iv _=>n-(intOf iv).toNat);case atStart=>exact⟨0,Nat.zero_le _,rfl,HMY.out,Mut.refl _ _ _⟩
    case round=>
      obtain⟨i,hi,rfl,hm,hmu⟩:=hrel;by_cases hlt:i<n
      · have hyd:decide ((i:Int)<(n:Int))=true:=decide_eq_true (by omega);obtain⟨z,hz⟩:∃z,(sortL ts)[i]?=some z:=⟨_,List.getElem?_eq_getElem (by rw[HSL.out];exact hlt)⟩;obtain⟨t,ht,htl⟩:=HI.out.is z ((sortL_perm ts).mem_iff.1 (List.mem_of_getElem? hz));subst ht;have hz_:=(HIN.out.same (OGD.out.mut hmu).2) i _ hz;have hdn:=dropN_some (S:=S) hz;have hal:Alive (dropN S (sortL ts) i) t:=dropN_alive (HLV.out t htl) (ins_sorted HI.out) hz;obtain⟨T,hT,hgT⟩:=hal;have HDR:=Lib.hid (Drop_any t T wr hm hT hgT);have HDN:=Lib.hid hdn;have HMU:=Lib.hid hmu;have j1:(0:Int)≤(i:Int):=by omega
        have j2:(i:Int)<(n:Int):=by omega
        clear hz hdn hT hgT hm hmu;go_wp2_with fail;refine HDR.out.mono ?_;rintro e wd ⟨rfl,hmd,hmud⟩;have FIN:=Lib.hid (And.intro hmd (HMU.out.trans hmud));clear hmd hmud hz_;go_wp2;refine⟨⟨i+1,by omega,by go_num,?_⟩,by simp[intOf];omega⟩;rw[HDN.out,Int.toNat_natCast];exact FIN.out
      · obtain rfl:i=n:=by omega
        obtain⟨R,hRR⟩:∃R,rimR S ts=R:=⟨_,rfl⟩;obtain⟨r,hr⟩:∃r,R.length=r:=⟨_,rfl⟩;have hsi:=HSI.out.same (ORB.out.mut hmu).2;have hr0:=HR0.out;have hr1:=HR.out;have hle:(rimR S ts).length≤3*ts.length:=by unfold rimR;have:=inRow_le (rimP S ts ts.length);have:=rimP_le S ts ts.length;omega
        rw[hRR] at hsi hr0 hr1 hle;have h0r:0<r:=by rw[←hr];exact List.length_pos_iff.2 hr0
        have hdl:=dropN_len S (sortL ts) i;have hro:RimOkG (dropN S (sortL ts) i) R:=fun s hs=>by obtain⟨u,j,e1,e2,e3,e4,e5⟩:=hr1 s hs;exact⟨u,j,e1,e4,e5,dropN_off (HLV.out u e3) (fun e=>e2 ((sortL_perm ts).mem_iff.1 e)) (fun t ht=>by
            obtain⟨u,e,-⟩:=HI.out.is t ((sortL_perm ts).mem_iff.1 ht);rw[e];omega) i⟩
        have hfi:=fill_any (v:Int) R r rb rc pv pl wr hm (by omega) hr h0r (by rw[hdl];have:=HSH.out;have:=HI.out.le;have:=HN.out;omega) hro hsi (ORB.out.mut hmu).1 (OPV.out.mut hmu);have HFI:=Lib.hid hfi;have py:=PY.out.same (OK.out.mut hmu).2;rw[hRR,hr] at py;have y1:=py.c 1 _ rfl;have HMU:=Lib.hid hmu;have HRR:=Lib.hid hRR;clear hsi hr0 hr1 hle hdl hro hfi py hmu hm hRR;go_wp2_with fail;refine HFI.out.mono ?_;rintro e wf ⟨tv',rfl,hmf,hmuf⟩;have FIN:=Lib.hid (And.intro hmf (((Mut.of_below HWY.out (fun k hk=>(H.out.row.lt k hk).2)).trans HMU.out).trans hmuf));clear hmf hmuf;go_wp2;go_end0;refine⟨ts,tv',rfl,HGO.out,?_,FIN.out.2⟩;unfold putM;rw[HRR.out,HN.out];exact FIN.out.1
  rw[hWW,hAA];try simp only[Act.put,sA,sZ,sS]
  refine reg_all2 9 10 _ _ (by kernel_rfl) rfl rfl (fun K hK=>?_) (fun K hK=>?_)
  · go_simp;refine(HDG.out WD (HWD.out.trans ((Below.refl _ _).mono HWD.out.size))).mono ?_;rintro e wc ⟨gd,c,rb,rc,ts,cb,rfl,hgo,hin,hsi,⟨hg1,hg2,hg3,hg4⟩,hbc⟩;go_wp2_with fail;refine hK.out _ _ (C2.out _ hbc) (fun hHeld=>?_);clear hK K;try simp only[Act.put,sA,sZ,sS]
    refine rC 10 _ (fun K hK=>?_);obtain⟨wb,hwb,pz,hbb,hsb⟩:=new_box wc _ rfl [.slice none 0 0,.slice none 0 0,.bool false] 99;have hbx:=hbc.trans (hbb.mono hbc.size);go_simp;try rw[hwb]
    refine hK.out _ _ (C2.out _ hbx) (fun hHeld=>?_);clear hK K;try simp only[Act.put,sA,sZ,sS]
    have hL:=LEAF wc.heap.size gd c rb rc ts cb wb hbx (by have:=hbc.size;omega) pz ⟨by omega,by have:=hbb.size;omega,by omega,by omega,by have:=hbb.size;omega,by omega⟩ hgo (hin.same (hbb.block gd (by omega))) (hsi.same (hbb.block rb (by omega)));rw[hWW,hAA] at hL;try simp only[Act.put] at hL
    try simp only[sA,sZ,sS] at hL
    exact hL
  · obtain⟨wb,hwb,pz,hbb,hsb⟩:=new_box WD _ rfl [.slice none 0 0,.slice none 0 0,.bool false] 99;go_simp;try rw[hwb]
    refine hK.out _ _ (C2.out _ hbb) (fun hHeld=>?_);clear hK K;try simp only[Act.put,sA,sZ,sS]
    refine rC 9 _ (fun K hK=>?_);go_simp;refine(HDG.out wb (HWD.out.trans (hbb.mono HWD.out.size))).mono ?_;rintro e wc ⟨gd,c,rb,rc,ts,cb,rfl,hgo,hin,hsi,⟨hg1,hg2,hg3,hg4⟩,hbc⟩;go_wp2_with fail;have hbx:=hbb.trans (hbc.mono hbb.size);refine hK.out _ _ (C2.out _ hbx) (fun hHeld=>?_);clear hK K;try simp only[Act.put,sA,sZ,sS]
    have hL:=LEAF WD.heap.size gd c rb rc ts cb wc hbx (Nat.le_refl _) (pz.below hbc) ⟨by omega,by omega,by omega,by omega,by omega,by omega⟩ hgo hin hsi;rw[hWW,hAA] at hL;try simp only[Act.put] at hL
    try simp only[sA,sZ,sS] at hL
    exact hL
set_option maxRecDepth 100000 in set_option maxHeartbeats 4000000 in theorem faultAt_off(mv:Value)(x0 x1 x2 x3:Int)(hx:x0≠1)(w:World):Calls Tryz.prog 90 #[mv,.agg #[.int .i64 x0,.int .i64 x1,.int .i64 x2,.int .i64 x3]] w fun e w'=>e= .returned (.slice none 0 0)∧Below w.heap.size w w':=by
  obtain⟨w1,hw1,px,hb1,hs1⟩:=new_box w _ rfl [.int .i64 x0,.int .i64 x1,.int .i64 x2,.int .i64 x3] 83;have i0:=px.c 0 _ rfl;have q1:(x0 !=1)=true:=by simpa using hx
  have q2:(x0==1)=false:=by simpa using hx
  have HB1:=Lib.hid hb1;clear px hb1 hs1 hx;go_enter Tryz.func90,Tryz.ntmps90;go_wp2;go_ret;exact⟨rfl,HB1.out⟩
set_option maxRecDepth 100000 in set_option maxHeartbeats 16000000 in theorem Insert_any{mb pb pc:Nat}{ta:Option Addr}{tc:Nat}{P:List (Int×Int)}{S:List TriM}(v:Nat)(p0 p1 x0 x1 x2 x3 cnt fr:Int)(Q:World→World→Prop)(w:World)(h:MeshR w mb pb pc ta tc P S)(hv:P[v]?=some (p0,p1))(hfd:∀W:World,Below w.heap.size w W→Calls Tryz.prog 34 #[.pointer (some ⟨mb,0,none⟩),.agg #[.int .i64 p0,.int .i64 p1],.int .i64 fr,.int .i64 ((S.length:Nat):Int)] W fun e w'=>e= .returned (.tuple #[.agg #[.int .i64 x0,.int .i64 x1,.int .i64 x2,.int .i64 x3],.int .i64 cnt])∧Below W.heap.size W w')(hput:x0≠2→∀W:World,Below w.heap.size w W→Calls Tryz.prog 35 #[.pointer (some ⟨mb,0,none⟩),.int .i64 (v:Int),.agg #[.int .i64 x0,.int .i64 x1,.int .i64 x2,.int .i64 x3]] W fun e w'=>e= .returned (.tuple #[])∧Q W w'):Calls Tryz.prog 11 #[.pointer (some ⟨mb,0,none⟩),.int .i64 (v:Int),.int .i64 fr] w fun e w'=>(x0=2∧e= .returned (.bool false)∧Below w.heap.size w w')∨(x0≠2∧e= .returned (.bool true)∧∃W,Below w.heap.size w W∧Q W w'):=by
  have hvl:=(List.getElem?_eq_some_iff.1 hv).1;have e0:=h.box.c 0 _ rfl;have HS:=Lib.hid h;obtain⟨SL,hSL⟩:∃SL,S.length=SL:=⟨_,rfl⟩;obtain⟨N,hN⟩:∃N,P.length=N:=⟨_,rfl⟩;rw[hN] at hvl e0;rw[hSL] at hfd;obtain⟨qk,hqk⟩:∃q,decide (x0=2)=q:=⟨_,rfl⟩;have HV:=Lib.hid hv;have HFD:=Lib.hid hfd;have HPUT:=Lib.hid hput;have HN:=Lib.hid hN;have HSL:=Lib.hid hSL;have HQK:=Lib.hid hqk;have j1:¬((v:Int)<0):=by omega
  have j2:¬((N:Int)≤(v:Int)):=by omega
  have j3:(0:Int)≤(v:Int):=by omega
  have j4:(v:Int)<(N:Int):=by omega
  clear h hv hfd hput hvl hN hSL hqk;go_enter Tryz.func11,Tryz.ntmps11;go_wp2;obtain⟨WD,hwd⟩:∃WD,w.drew=WD:=⟨_,rfl⟩;have hBD:Below w.heap.size w WD:=by rw[←hwd];exact(Below.refl _ _).drew'
  have HWD:=Lib.hid hBD;have C3:=Lib.hid (show∀w',Below WD.heap.size WD w'→w'.cell? ⟨mb,0,none⟩=some (.slice (some ⟨pb,0,none⟩) N pc)∧w'.cell? ⟨mb,1,none⟩=some (.slice ta SL tc)∧w'.cell? ⟨pb,v*2,none⟩=some (.int .i64 p0)∧w'.cell? ⟨pb,v*2+1,none⟩=some (.int .i64 p1) from fun w' hb=>by
    have hh:Below w.heap.size w w':=hBD.trans (hb.mono hBD.size);have hr:=HS.out.below hh;have e0:=hr.box.c 0 _ rfl;have e1:=hr.box.c 1 _ rfl;rw[HN.out] at e0;rw[HSL.out] at e1;exact⟨e0,e1,(hr.pt HV.out).1,(hr.pt HV.out).2⟩);clear hBD e0;refine wp_region_noPanic ?_;refine wp_region_held_drew (S:=fun w'=>w'.cell? ⟨mb,0,none⟩=some (.slice (some ⟨pb,0,none⟩) N pc)∧w'.cell? ⟨mb,1,none⟩=some (.slice ta SL tc)∧w'.cell? ⟨pb,v*2,none⟩=some (.int .i64 p0)∧w'.cell? ⟨pb,v*2+1,none⟩=some (.int .i64 p1)) (by kernel_rfl) (C3.out _ (by rw[←hwd];exact Below.refl _ _)) (fun hHeld=>?_);rw[hwd] at hHeld⊢;refine rU 0 _ _ ?_;refine rU 1 _ _ ?_;refine rU 2 _ _ ?_;refine rU 3 _ _ ?_;refine rU 4 _ _ ?_;refine rU 5 _ _ ?_;refine rU 6 _ _ ?_;refine rU 7 _ _ ?_;refine rU 8 _ _ ?_;refine rU 9 _ _ ?_;refine rU 10 _ _ ?_;refine rU 11 _ _ ?_;refine rU 12 _ _ ?_;refine rU 13 _ _ ?_;refine reg_grab (fun WWx ax hWW hAA=>?_);have LEAF:∀(k:Nat)(Wx:World),Below WD.heap.size WD Wx→WD.heap.size≤k→Box Wx k [.int .i64 0,.int .i64 0,.int .i64 0,.int .i64 0]→WWx 2 #[true,true,true,true,true,true,true,true,true,true,true,true,true,true,true,true,true,true,true,false,false] (((((ax.put (some 35) (.tuple #[.agg #[.int .i64 x0,.int .i64 x1,.int .i64 x2,.int .i64 x3],.int .i64 cnt])).put (some 20) (.tuple #[.agg #[.int .i64 x0,.int .i64 x1,.int .i64 x2,.int .i64 x3],.int .i64 cnt])).put (some 36) (.agg #[.int .i64 x0,.int .i64 x1,.int .i64 x2,.int .i64 x3])).put (some 37) (.int .i64 cnt)).put (some 7) (.pointer (some ⟨k,0,none⟩))) Wx:=by
    intro k Wx hbx hk pz;have hHeld:=C3.out _ hbx;rw[hWW,hAA];try simp only[Act.put,sA,sZ,sS]
    refine rC 19 _ (fun K hK=>?_);obtain⟨wy,hwy_⟩:∃wy,setAll Wx k 0 [.int .i64 x0,.int .i64 x1,.int .i64 x2,.int .i64 x3]=wy:=⟨_,rfl⟩;refine wanted_go rfl ?_;refine wp_store_box _ _ _ rfl [.int .i64 x0,.int .i64 x1,.int .i64 x2,.int .i64 x3] pz rfl rfl (by kernel_rfl) (by simp) rfl hwy_ ?_;have hby:Below WD.heap.size WD wy:=by rw[←hwy_];exact below_setAll hbx hk _
    refine hK.out _ _ (C3.out _ hby) (fun hHeld=>?_);clear hK K;try simp only[Act.put,sA,sZ,sS]
    refine rU 20 _ _ ?_;refine wpAnyH_done (by kernel_rfl) ?_ _;refine NoPanic.normal ?_;have hwx:Below w.heap.size w Wx:=HWD.out.trans (hbx.mono HWD.out.size);have hwy:Below w.heap.size w wy:=by rw[←hwy_];exact below_setAll hwx (by have:=HWD.out.size;omega) _
    have py:Box wy k [.int .i64 x0,.int .i64 x1,.int .i64 x2,.int .i64 x3]:=by rw[←hwy_];exact pz.setAll [.int .i64 x0,.int .i64 x1,.int .i64 x2,.int .i64 x3] rfl
    have y0:=py.c 0 _ rfl;have y1:=py.c 1 _ rfl;have y2:=py.c 2 _ rfl;have y3:=py.c 3 _ rfl;have HWY:=Lib.hid hwy;clear hwx hwy py pz hbx hHeld hk;cases qk with
    |true=>
      obtain rfl:x0=2:=of_decide_eq_true HQK.out;go_wp2;go_ret;first|exact .inl ⟨rfl,rfl,HWY.out⟩|exact⟨rfl,HWY.out⟩|exact⟨rfl,rfl,HWY.out⟩
    |false=>
      have hne:=of_decide_eq_false HQK.out;have q1:(x0==2)=false:=by simpa using hne
      have HPW:=Lib.hid (HPUT.out hne wy HWY.out);have HNE:=Lib.hid hne;clear hne;go_wp2_with fail;refine HPW.out.mono ?_;rintro e wp ⟨rfl,hq⟩;have FIN:=Lib.hid hq;clear hq;go_wp2;go_ret;exact .inr ⟨HNE.out,rfl,wy,HWY.out,FIN.out⟩
  rw[hWW,hAA];try simp only[Act.put,sA,sZ,sS]
  refine reg_all2 14 18 _ _ (by kernel_rfl) rfl rfl (fun K hK=>?_) (fun K hK=>?_)
  · go_simp;refine(HFD.out WD (HWD.out.trans ((Below.refl _ _).mono HWD.out.size))).mono ?_;rintro e wc ⟨rfl,hbc⟩;go_wp2_with fail;refine hK.out _ _ (C3.out _ hbc) (fun hHeld=>?_);clear hK K;try simp only[Act.put,sA,sZ,sS]
    refine rU 15 _ _ ?_;refine rU 16 _ _ ?_;refine rU 17 _ _ ?_;refine rC 18 _ (fun K hK=>?_);obtain⟨wb,hwb,pz,hbb,hsb⟩:=new_box wc _ rfl [.int .i64 0,.int .i64 0,.int .i64 0,.int .i64 0] 83;have hbx:=hbc.trans (hbb.mono hbc.size);go_simp;try rw[hwb]
    refine hK.out _ _ (C3.out _ hbx) (fun hHeld=>?_);clear hK K;try simp only[Act.put,sA,sZ,sS]
    have hL:=LEAF wc.heap.size wb hbx (by have:=hbc.size;omega) pz;rw[hWW,hAA] at hL;try simp only[Act.put] at hL
    try simp only[sA,sZ,sS] at hL
    exact hL
  · obtain⟨wb,hwb,pz,hbb,hsb⟩:=new_box WD _ rfl [.int .i64 0,.int .i64 0,.int .i64 0,.int .i64 0] 83;go_simp;try rw[hwb]
    refine hK.out _ _ (C3.out _ hbb) (fun hHeld=>?_);clear hK K;try simp only[Act.put,sA,sZ,sS]
    refine rC 14 _ (fun K hK=>?_);go_simp;refine(HFD.out wb (HWD.out.trans (hbb.mono HWD.out.size))).mono ?_;rintro e wc ⟨rfl,hbc⟩;go_wp2_with fail;have hbx:=hbb.trans (hbc.mono hbb.size);refine hK.out _ _ (C3.out _ hbx) (fun hHeld=>?_);clear hK K;try simp only[Act.put,sA,sZ,sS]
    refine rU 15 _ _ ?_;refine rU 16 _ _ ?_;refine rU 17 _ _ ?_;have hL:=LEAF WD.heap.size wc hbx (Nat.le_refl _) (pz.below hbc);rw[hWW,hAA] at hL;try simp only[Act.put] at hL
    try simp only[sA,sZ,sS] at hL
    exact hL
end Go.Proofs.YtammmemfkpcpcaaGreat
namespace Go.MagM
def crsP(p q r:Int×Int):Int:=crs p.1 p.2 q.1 q.2 r.1 r.2
def BaseIs(P:List (Int×Int))(ok:Bool)(s t:Nat):Prop:=(ok=true∧1≤s∧s<t∧t<P.length∧(∀i,i<s→ptA P i=ptA P 0)∧ptA P s≠ptA P 0∧(∀i,s<i→i<t→crsP (ptA P 0) (ptA P s) (ptA P i)=0)∧crsP (ptA P 0) (ptA P s) (ptA P t)≠0)∨(ok=false∧s=0∧t=0∧∃k,(∀i,i<k→i<P.length→ptA P i=ptA P 0)∧(P.length≤k∨(ptA P k≠ptA P 0∧∀i,k<i→i<P.length→crsP (ptA P 0) (ptA P k) (ptA P i)=0)))
end Go.MagM
namespace Go.Proofs.YtammmemfkpcpcaaGreat
open Go.RowKit Go.MagM
theorem turnM_cases(P:List (Int×Int))(a b c:Int):turnM P a b c=0∨turnM P a b c=1∨turnM P a b c=-1:=by
  unfold turnM;split
  · rename_i p q r _ _ _;rcases Int.lt_trichotomy (crs p.1 p.2 q.1 q.2 r.1 r.2) 0 with h|h|h;·exact .inr (.inr (Int.sign_eq_neg_one_of_neg h))
    ·rw[h];exact .inl rfl
    ·exact .inr (.inl (Int.sign_eq_one_of_pos h))
  ·exact .inl rfl
theorem New_ok(so:Option Addr)(sb n sc:Nat)(P:List (Int×Int))(w:World)(hn:P.length=n)(h0:0<n)(hn9:n≤1000000)(hP:InPs P)(ho:so=some ⟨sb,0,none⟩)(hc:∀j u,(ptsCells P)[j]?=some u→w.cell? ⟨sb,0+j,none⟩=some u)(a b c:Nat):Calls Tryz.prog 69 #[.slice so n sc,.int .i64 (a:Int),.int .i64 (b:Int),.int .i64 (c:Int)] w fun e w'=>∃pv,e= .returned (.tuple #[pv,.bool (decide (turnM P (a:Int) (b:Int) (c:Int)≠0))])∧Below w.heap.size w w':=by
  rcases turnM_cases P a b c with h|h|h;· refine(New_no so sb n sc P w hn h0 hn9 hP ho hc a b c h).mono ?_;rintro e w' ⟨rfl,hb⟩;exact⟨_,by rw[h];rfl,hb⟩
  · refine(New_yes so sb n sc P w hn h0 hn9 hP ho hc a b c h).mono ?_;rintro e w' ⟨mb,pb,pc,tv,rfl,-,-,hb⟩;exact⟨_,by rw[h];rfl,hb⟩
  · refine(New_back so sb n sc P w hn h0 hn9 hP ho hc a b c h).mono ?_;rintro e w' ⟨mb,pb,pc,tv,rfl,-,-,hb⟩;exact⟨_,by rw[h];rfl,hb⟩
theorem signZ_ne{z:Int}:z.sign≠0↔z≠0:=by
  constructor;·intro h e;rw[e] at h;exact h rfl
  ·intro h e;exact h (Int.sign_eq_zero_iff_zero.1 e)
set_option maxRecDepth 100000 in set_option maxHeartbeats 8000000 in theorem hasArea_any(a0 a1 b0 b1 c0 c1:Int)(ha:InP a0∧InP a1)(hb:InP b0∧InP b1)(hc:InP c0∧InP c1)(q:Bool)(hq:decide (crsP (a0,a1) (b0,b1) (c0,c1)≠0)=q)(w:World):Calls Tryz.prog 127 #[.agg #[.int .i64 a0,.int .i64 a1],.agg #[.int .i64 b0,.int .i64 b1],.agg #[.int .i64 c0,.int .i64 c1]] w fun e w'=>e= .returned (.bool q)∧Below w.heap.size w w':=by
  obtain⟨w1,hw1,pa,hb1,hs1⟩:=new_box w _ rfl [.int .i64 a0,.int .i64 a1] 24;obtain⟨w2,hw2,pb,hb2,hs2⟩:=new_box w1 _ rfl [.int .i64 b0,.int .i64 b1] 24;obtain⟨w3,hw3,pc,hb3,hs3⟩:=new_box w2 _ rfl [.int .i64 c0,.int .i64 c1] 24;obtain⟨w4,hw4,pq,hb4,hs4⟩:=new_box w3 _ rfl [.int .i64 a0,.int .i64 a1,.int .i64 b0,.int .i64 b1,.int .i64 c0,.int .i64 c1] 24;have hb12:Below w.heap.size w w2:=hb1.trans (hb2.mono hb1.size);have hb13:Below w.heap.size w w3:=hb12.trans (hb3.mono hb12.size);have hb14:Below w.heap.size w w4:=hb13.trans (hb4.mono hb13.size);have pa3:=(pa.below hb2).below hb3;have pb3:=pb.below hb3;obtain⟨z0,z1⟩:w3.cell? ⟨w.heap.size,0,none⟩=some (.int .i64 a0)∧w3.cell? ⟨w.heap.size,1,none⟩=some (.int .i64 a1):=⟨pa3.c 0 _ rfl,pa3.c 1 _ rfl⟩;obtain⟨z2,z3⟩:w3.cell? ⟨w1.heap.size,0,none⟩=some (.int .i64 b0)∧w3.cell? ⟨w1.heap.size,1,none⟩=some (.int .i64 b1):=⟨pb3.c 0 _ rfl,pb3.c 1 _ rfl⟩;obtain⟨z4,z5⟩:w3.cell? ⟨w2.heap.size,0,none⟩=some (.int .i64 c0)∧w3.cell? ⟨w2.heap.size,1,none⟩=some (.int .i64 c1):=⟨pc.c 0 _ rfl,pc.c 1 _ rfl⟩;have hP:InPs [(a0,a1),(b0,b1),(c0,c1)]:=by
    intro p hp;simp at hp;rcases hp with rfl|rfl|rfl;·exact ha
    ·exact hb
    ·exact hc
  have hnew:=New_ok (some ⟨w3.heap.size,0,none⟩) w3.heap.size 3 3 [(a0,a1),(b0,b1),(c0,c1)] w4 rfl (by omega) (by omega) hP rfl (fun j u hj=>by rw[Nat.zero_add];exact pq.c j u hj) 0 1 2;have hz:decide (turnM [(a0,a1),(b0,b1),(c0,c1)] ((0:Nat):Int) ((1:Nat):Int) ((2:Nat):Int)≠0)=q:=by
    rw[←hq];exact decide_eq_decide.2 (show(crs a0 a1 b0 b1 c0 c1).sign≠0↔crs a0 a1 b0 b1 c0 c1≠0 from signZ_ne)
  rw[hz] at hnew;have hnew':Calls Tryz.prog 69 #[.slice (some ⟨w3.heap.size,0,none⟩) 3 3,.int .i64 0,.int .i64 1,.int .i64 2] w4 fun e w'=>∃pv,e= .returned (.tuple #[pv,.bool q])∧Below w4.heap.size w4 w':=hnew;have HN:=Lib.hid hnew';have HB:=Lib.hid hb14;clear hnew hnew' hz hP hb12 hb13 hb14 pa pb pc pa3 pb3 hb1 hb2 hb3 hb4 hq pq ha hb hc;clear hs1 hs2 hs3 hs4;go_enter Tryz.func127,Tryz.ntmps127;go_wp2_with fail;refine HN.out.mono ?_;rintro e w5 ⟨pv,rfl,hb5⟩;have FIN:=Lib.hid (HB.out.trans (hb5.mono HB.out.size));clear hb5;go_wp2;go_ret;exact⟨rfl,FIN.out⟩
theorem ptsIn_at{w:World}{sb:Nat}{P:List (Int×Int)}(h:PtsIn w sb P):∀w':World,Below w.heap.size w w'→∀i x y,P[i]?=some (x,y)→w'.cell? ⟨sb,i*2,none⟩=some (.int .i64 x)∧w'.cell? ⟨sb,i*2+1,none⟩=some (.int .i64 y):=fun _ hb i x y hi=>(h.below hb) i x y hi
theorem ptA_get{P:List (Int×Int)}{i:Nat}{p:Int×Int}(h:P[i]?=some p):ptA P i=p:=by unfold ptA;rw[h];rfl
set_option maxRecDepth 100000 in set_option maxHeartbeats 8000000 in theorem Base_any(sb n sc:Nat)(P:List (Int×Int))(w:World)(hn:P.length=n)(h0:0<n)(hn9:n≤1000000)(hP:InPs P)(hc:PtsIn w sb P):Calls Tryz.prog 68 #[.slice (some ⟨sb,0,none⟩) n sc] w fun e w'=>∃ok s t,e= .returned (.tuple #[.agg #[.int .i64 0,.int .i64 ((s:Nat):Int),.int .i64 ((t:Nat):Int)],.bool ok])∧BaseIs P ok s t∧Below w.heap.size w w':=by
  obtain⟨⟨z0,z1⟩,hz⟩:∃p,P[0]?=some p:=⟨_,List.getElem?_eq_getElem (by omega)⟩;obtain⟨w1,hw1,pr,hb1,hs1⟩:=new_box w _ rfl [.int .i64 0,.int .i64 0,.int .i64 0] 39;have HPT:=Lib.hid (ptsIn_at hc);have HIN:=Lib.hid hP;have HN:=Lib.hid hn;have HZ:=Lib.hid hz;have PR:=Lib.hid pr;have HB1:=Lib.hid hb1;have HS1:=Lib.hid hs1;have HZP:=Lib.hid (ptA_get hz);have y0:(0:Int)<(n:Int):=by omega
  clear hc hP hn hz pr hb1 hs1;go_enter Tryz.func68,Tryz.ntmps68;go_wp2;go_loopw [4] (fun kv wr=>∃k:Nat,1≤k∧k≤n+1∧kv= .int .i64 (k:Int)∧(∀i,i<k→i<n→ptA P i=ptA P 0)∧Below w1.heap.size w1 wr) (fun kv _=>n+1-(intOf kv).toNat);case atStart=>exact⟨1,by omega,by omega,rfl,fun i h1 _=>(by rw[show i=0 by omega]),Below.refl _ _⟩
  case round=>
    obtain⟨k,hk1,hkn,rfl,hI,hbw⟩:=hrel;by_cases hlt:k<n
    · have hyd:decide ((k:Int)<(n:Int))=true:=decide_eq_true (by omega);obtain⟨⟨a0,a1⟩,hk'⟩:∃p,P[k]?=some p:=⟨_,List.getElem?_eq_getElem (by rw[HN.out];exact hlt)⟩;have hbw0:=HB1.out.trans (hbw.mono HB1.out.size);obtain⟨d0,d1⟩:=HPT.out _ hbw0 k _ _ hk';obtain⟨d2,d3⟩:=HPT.out _ hbw0 0 _ _ HZ.out;obtain⟨q,hq⟩:∃q,decide (a0=z0∧a1=z1)=q:=⟨_,rfl⟩;have heq:∀W:World,Sem.run Tryz.prog (binOp BinOp.eql 24 (Value.agg #[.int .i64 a0,.int .i64 a1]) (Value.agg #[.int .i64 z0,.int .i64 z1])) W=Result.ok (Value.bool q) W:=fun W=>by rw[eqPt_run,hq]
      have HQ:=Lib.hid hq;have HI:=Lib.hid hI;have HBW:=Lib.hid hbw;have HPK:=Lib.hid (ptA_get hk');have j1:(0:Int)≤(k:Int):=by omega
      have j2:(k:Int)<(n:Int):=by omega
      have j3:(0:Int)≤0:=by omega
      rw[Nat.zero_mul] at d2 d3;clear hq hI hbw hbw0 hk';have DD:=Lib.hid (And.intro d0 (And.intro d1 (And.intro d2 d3)));clear d0 d1 d2 d3;go_wp2_with fail;refine wp_region_noPanic ?_;refine wp_region_held_drew (S:=fun w'=>w'.cell? ⟨sb,k*2,none⟩=some (.int .i64 a0)∧w'.cell? ⟨sb,k*2+1,none⟩=some (.int .i64 a1)∧w'.cell? ⟨sb,0,none⟩=some (.int .i64 z0)∧w'.cell? ⟨sb,1,none⟩=some (.int .i64 z1)) (by kernel_rfl) (DD.out) (fun hHeld=>?_);refine rU 0 _ _ ?_;refine rU 1 _ _ ?_;refine rU 2 _ _ ?_;refine rU 3 _ _ ?_;refine rU 4 _ _ ?_;refine rU 5 _ _ ?_;refine rU 6 _ _ ?_;refine rU 7 _ _ ?_;refine rU 8 _ _ ?_;refine rU 9 _ _ ?_;refine rU 10 _ _ ?_;refine rU 11 _ _ ?_;refine rU 12 _ _ ?_;refine rU 13 _ _ ?_;refine wpAnyH_done (by kernel_rfl) ?_ _;refine NoPanic.normal ?_;clear heq;cases q with
      |true=>
        go_wp2;have hB_:=HBW.out.drew';exact⟨⟨k+1,by omega,by omega,by go_num,fun i h1 h2=>(by
          rcases Nat.lt_or_ge i k with g|g;·exact HI.out i g h2
          · obtain rfl:i=k:=by omega
            have e:=of_decide_eq_true HQ.out;rw[HPK.out,HZP.out,e.1,e.2]),hB_⟩,by simp[intOf];omega⟩|false=>
        have HLT:=Lib.hid (And.intro hk1 hlt);have HPZ:=Lib.hid (show ptA P k≠ptA P 0 from by
          intro e;rw[HPK.out,HZP.out] at e;exact of_decide_eq_false HQ.out ⟨congrArg Prod.fst e,congrArg Prod.snd e⟩);have hkw:IntKind.i64.wrap ((k:Int)+1)=((k+1:Nat):Int):=by rw[IntKind.wrap_i64];omega
        clear j3;go_wp2;have hB_:=HBW.out.drew';have HB2:=Lib.hid hB_;clear hB_;go_loopw [5] (fun tv wr=>∃t:Nat,k+1≤t∧t≤n∧tv= .int .i64 (t:Int)∧(∀i,k<i→i<t→crsP (ptA P 0) (ptA P k) (ptA P i)=0)∧Below w1.heap.size w1 wr) (fun tv _=>n-(intOf tv).toNat);case atStart=>exact⟨k+1,by omega,by omega,by go_num,fun i h1 h2=>by omega,HB2.out⟩
        case round=>
          obtain⟨t,ht1,htn,rfl,hT,hbw⟩:=hrel;have HTT:=Lib.hid hT;clear hT;by_cases hlt2:t<n
          · have hye:decide ((t:Int)<(n:Int))=true:=decide_eq_true (by omega);obtain⟨⟨b0,b1⟩,ht'⟩:∃p,P[t]?=some p:=⟨_,List.getElem?_eq_getElem (by rw[HN.out];exact hlt2)⟩;obtain⟨⟨a0',a1'⟩,hs'⟩:∃p,P[k]?=some p:=⟨_,List.getElem?_eq_getElem (by rw[HN.out];omega)⟩;have iz:=HIN.out _ (List.mem_of_getElem? HZ.out);have ia:=HIN.out _ (List.mem_of_getElem? hs');have ib:=HIN.out _ (List.mem_of_getElem? ht');obtain⟨q,hq⟩:∃q,decide (crsP (z0,z1) (a0',a1') (b0,b1)≠0)=q:=⟨_,rfl⟩;have HAR:=Lib.hid (fun W=>hasArea_any z0 z1 a0' a1' b0 b1 iz ia ib q hq W);have hcr:crsP (ptA P 0) (ptA P k) (ptA P t)=crsP (z0,z1) (a0',a1') (b0,b1):=by rw[HZP.out,ptA_get hs',ptA_get ht']
            have HCR:=Lib.hid hcr;have HS:=Lib.hid hs';have HT:=Lib.hid ht';have HQ2:=Lib.hid hq;have hB_0:=(HB1.out.trans (hbw.mono HB1.out.size)).drew';have hW_0:=hbw.drew';have j5:(0:Int)≤(t:Int):=by omega
            have j6:(t:Int)<(n:Int):=by omega
            clear iz ia ib hq hcr hs' ht' hbw;go_wp2_with fail;refine wp_region_noPanic ?_;refine wp_region_held_drew (S:=fun w'=>w'.cell? ⟨sb,0,none⟩=some (.int .i64 z0)∧w'.cell? ⟨sb,1,none⟩=some (.int .i64 z1)∧w'.cell? ⟨sb,k*2,none⟩=some (.int .i64 a0')∧w'.cell? ⟨sb,k*2+1,none⟩=some (.int .i64 a1')∧w'.cell? ⟨sb,t*2,none⟩=some (.int .i64 b0)∧w'.cell? ⟨sb,t*2+1,none⟩=some (.int .i64 b1)) (by kernel_rfl) (⟨(HPT.out _ hB_0 0 _ _ HZ.out).1,(HPT.out _ hB_0 0 _ _ HZ.out).2,(HPT.out _ hB_0 k _ _ HS.out).1,(HPT.out _ hB_0 k _ _ HS.out).2,(HPT.out _ hB_0 t _ _ HT.out).1,(HPT.out _ hB_0 t _ _ HT.out).2⟩) (fun hHeld=>?_);refine rU 0 _ _ ?_;refine rU 1 _ _ ?_;refine rU 2 _ _ ?_;refine rU 3 _ _ ?_;refine rU 4 _ _ ?_;refine rU 5 _ _ ?_;refine rU 6 _ _ ?_;refine rU 7 _ _ ?_;refine rU 8 _ _ ?_;refine rU 9 _ _ ?_;refine rU 10 _ _ ?_;refine rC 11 _ (fun K hK=>?_);go_simp;refine(HAR.out _).mono ?_;rintro e wz ⟨rfl,hbz⟩;have hB_1:=hB_0.trans (hbz.mono hB_0.size);have hW_1:=hW_0.trans (hbz.mono hW_0.size);clear hbz;go_wp2_with fail;refine hK.out _ _ (⟨(HPT.out _ hB_1 0 _ _ HZ.out).1,(HPT.out _ hB_1 0 _ _ HZ.out).2,(HPT.out _ hB_1 k _ _ HS.out).1,(HPT.out _ hB_1 k _ _ HS.out).2,(HPT.out _ hB_1 t _ _ HT.out).1,(HPT.out _ hB_1 t _ _ HT.out).2⟩) (fun hHeld=>?_);clear hK K;try simp only[Act.put,sA,sZ,sS]
            refine wpAnyH_done (by kernel_rfl) ?_ _;refine NoPanic.normal ?_;have HW:=Lib.hid hW_1;clear hB_0 hB_1 hW_0 hW_1;cases q with
            |true=>
              have pz:=PR.out.below HW.out;have o0:=pz.c 0 _ rfl;have o1:=pz.c 1 _ rfl;have o2:=pz.c 2 _ rfl;have g0:=pz.f 0 _ rfl;have g1:=pz.f 1 _ rfl;have g2:=pz.f 2 _ rfl;obtain⟨wy,hwy⟩:∃wy,setAll wz w.heap.size 0 [.int .i64 0,.int .i64 (k:Int),.int .i64 (t:Int)]=wy:=⟨_,rfl⟩;have pz2:Box wy w.heap.size [.int .i64 0,.int .i64 (k:Int),.int .i64 (t:Int)]:=by rw[←hwy];exact pz.setAll [.int .i64 0,.int .i64 (k:Int),.int .i64 (t:Int)] rfl
              have hbz:Below w.heap.size w wy:=by rw[←hwy];exact below_setAll (HB1.out.trans (HW.out.mono HB1.out.size)) (Nat.le_refl _) _
              have Z0:=Lib.hid (pz2.c 0 _ rfl);have Z1:=Lib.hid (pz2.c 1 _ rfl);have Z2:=Lib.hid (pz2.c 2 _ rfl);have HWZ:=Lib.hid hwy;have HBZ:=Lib.hid hbz;clear pz pz2 hbz hwy;go_wp2;have z0_:=Z0.out;have z1_:=Z1.out;have z2_:=Z2.out;have hwy:=HWZ.out;simp only[setAll] at hwy;rw[hwy];(try simp only[Exit.inBlock,Exit.then]);refine bodyPost_ret (v:= .tuple #[.agg #[.int .i64 0,.int .i64 (k:Int),.int .i64 (t:Int)],.bool true]) ?_ rfl ?_;·simp[results,Tryz.results68,go_sem,z0_,z1_,z2_]
              ·exact⟨true,k,t,rfl,.inl ⟨rfl,HLT.out.1,by omega,by have:=HN.out;omega,fun i hi=>HI.out i hi (by have:=HLT.out.2;omega),HPZ.out,HTT.out,by rw[HCR.out];exact of_decide_eq_true HQ2.out⟩,HBZ.out⟩|false=>
              go_wp2;exact⟨⟨t+1,by omega,by omega,by go_num,fun i h1 h2=>(by
                rcases Nat.lt_or_ge i t with g|g;·exact HTT.out i h1 g
                · obtain rfl:i=t:=by omega
                  rw[HCR.out];have:=of_decide_eq_false HQ2.out;exact Classical.not_not.1 this),HW.out⟩,by simp[intOf];omega⟩
          · obtain rfl:t=n:=by omega
            have HW:=Lib.hid hbw;clear hbw;have pz:=PR.out.below HW.out;have o0:=pz.c 0 _ rfl;have o1:=pz.c 1 _ rfl;have o2:=pz.c 2 _ rfl;have g0:=pz.f 0 _ rfl;have g1:=pz.f 1 _ rfl;have g2:=pz.f 2 _ rfl;obtain⟨wy,hwy⟩:∃wy,setAll wr w.heap.size 0 [.int .i64 0,.int .i64 0,.int .i64 0]=wy:=⟨_,rfl⟩;have pz2:Box wy w.heap.size [.int .i64 0,.int .i64 0,.int .i64 0]:=by rw[←hwy];exact pz.setAll [.int .i64 0,.int .i64 0,.int .i64 0] rfl
            have hbz:Below w.heap.size w wy:=by rw[←hwy];exact below_setAll (HB1.out.trans (HW.out.mono HB1.out.size)) (Nat.le_refl _) _
            have Z0:=Lib.hid (pz2.c 0 _ rfl);have Z1:=Lib.hid (pz2.c 1 _ rfl);have Z2:=Lib.hid (pz2.c 2 _ rfl);have HWZ:=Lib.hid hwy;have HBZ:=Lib.hid hbz;clear pz pz2 hbz hwy;go_wp2;have z0_:=Z0.out;have z1_:=Z1.out;have z2_:=Z2.out;have hwy:=HWZ.out;simp only[setAll] at hwy;rw[hwy];(try simp only[Exit.inBlock,Exit.then]);refine bodyPost_ret (v:= .tuple #[.agg #[.int .i64 0,.int .i64 0,.int .i64 0],.bool false]) ?_ rfl ?_;·simp[results,Tryz.results68,go_sem,z0_,z1_,z2_]
            ·exact⟨false,0,0,rfl,.inr ⟨rfl,rfl,rfl,k,fun i hi _=>HI.out i hi (by have:=HLT.out.2;omega),.inr ⟨HPZ.out,fun i h1 h2=>HTT.out i h1 (by have:=HN.out;omega)⟩⟩,HBZ.out⟩
    · have hyd:decide ((k:Int)<(n:Int))=false:=decide_eq_false (by omega);have HI:=Lib.hid hI;have HBW:=Lib.hid hbw;clear hI hbw;go_wp2_with fail;refine wp_region_noPanic ?_;refine wp_region_held_drew (S:=fun w'=>True) (by kernel_rfl) (trivial) (fun hHeld=>?_);refine rU 0 _ _ ?_;refine rU 1 _ _ ?_;refine rU 2 _ _ ?_;refine rU 3 _ _ ?_;refine rU 4 _ _ ?_;refine rS 5 ?_ ?_ ?_ ?_;rotate_left 1;·simp only[gA,gS,gZ];exact rfl
      ·rfl
      try simp only[Act.put,sA,sZ,sS]
      refine rS 6 ?_ ?_ ?_ ?_;rotate_left 1;·simp only[gA,gS,gZ];exact rfl
      ·rfl
      try simp only[Act.put,sA,sZ,sS]
      refine rS 7 ?_ ?_ ?_ ?_;rotate_left 1;·simp only[gA,gS,gZ];exact rfl
      ·rfl
      try simp only[Act.put,sA,sZ,sS]
      refine rS 8 ?_ ?_ ?_ ?_;rotate_left 1;·simp only[gA,gS,gZ];exact rfl
      ·rfl
      try simp only[Act.put,sA,sZ,sS]
      refine rS 9 ?_ ?_ ?_ ?_;rotate_left 1;·simp only[gA,gS,gZ];exact rfl
      ·rfl
      try simp only[Act.put,sA,sZ,sS]
      refine rS 10 ?_ ?_ ?_ ?_;rotate_left 1;·simp only[gA,gS,gZ];exact rfl
      ·rfl
      try simp only[Act.put,sA,sZ,sS]
      refine rS 11 ?_ ?_ ?_ ?_;rotate_left 1;·simp only[gA,gS,gZ];exact rfl
      ·rfl
      try simp only[Act.put,sA,sZ,sS]
      refine rS 12 ?_ ?_ ?_ ?_;rotate_left 1;·simp only[gA,gS,gZ];exact rfl
      ·rfl
      try simp only[Act.put,sA,sZ,sS]
      refine rU 13 _ _ ?_;refine wpAnyH_done (by kernel_rfl) ?_ _;refine NoPanic.normal ?_;go_wp2;have hB_:=HBW.out.drew';have HB2:=Lib.hid hB_;clear hB_;go_loopw [5] (fun tv wr=>tv= .int .i64 ((k:Int)+1)∧Below w1.heap.size w1 wr) (fun _ _=>0);case atStart=>exact⟨by go_num,HB2.out⟩
      case round=>
        obtain⟨rfl,hbw⟩:=hrel;have hyd2:decide (((k:Int)+1)<(n:Int))=false:=decide_eq_false (by omega);have HW:=Lib.hid hbw;clear hbw;have pz:=PR.out.below HW.out;have o0:=pz.c 0 _ rfl;have o1:=pz.c 1 _ rfl;have o2:=pz.c 2 _ rfl;have g0:=pz.f 0 _ rfl;have g1:=pz.f 1 _ rfl;have g2:=pz.f 2 _ rfl;obtain⟨wy,hwy⟩:∃wy,setAll wr w.heap.size 0 [.int .i64 0,.int .i64 0,.int .i64 0]=wy:=⟨_,rfl⟩;have pz2:Box wy w.heap.size [.int .i64 0,.int .i64 0,.int .i64 0]:=by rw[←hwy];exact pz.setAll [.int .i64 0,.int .i64 0,.int .i64 0] rfl
        have hbz:Below w.heap.size w wy:=by rw[←hwy];exact below_setAll (HB1.out.trans (HW.out.mono HB1.out.size)) (Nat.le_refl _) _
        have Z0:=Lib.hid (pz2.c 0 _ rfl);have Z1:=Lib.hid (pz2.c 1 _ rfl);have Z2:=Lib.hid (pz2.c 2 _ rfl);have HWZ:=Lib.hid hwy;have HBZ:=Lib.hid hbz;clear pz pz2 hbz hwy;go_wp2;have z0_:=Z0.out;have z1_:=Z1.out;have z2_:=Z2.out;have hwy:=HWZ.out;simp only[setAll] at hwy;rw[hwy];(try simp only[Exit.inBlock,Exit.then]);refine bodyPost_ret (v:= .tuple #[.agg #[.int .i64 0,.int .i64 0,.int .i64 0],.bool false]) ?_ rfl ?_;·simp[results,Tryz.results68,go_sem,z0_,z1_,z2_]
        ·exact⟨false,0,0,rfl,.inr ⟨rfl,rfl,rfl,k,fun i hi h2=>HI.out i hi (by have:=HN.out;omega),.inl (by rw[HN.out];omega)⟩,HBZ.out⟩
end Go.Proofs.YtammmemfkpcpcaaGreat
namespace Go.MagM
open Go.RowKit
theorem cors_real{P:List (Int×Int)}{T:TriM}(_hr:realT T=true)(h:∀i,i<3→InV P (T.v i)):cors P T=[ptT P T 0,ptT P T 1,ptT P T 2]:=by
  have h0:=h 0 (by omega);have h1:=h 1 (by omega);have h2:=h 2 (by omega);unfold InV at h0 h1 h2;have hf:corF T=0:=by
    unfold corF placeT;have a0:T.v 0=T.v0:=rfl;have a1:T.v 1=T.v1:=rfl;have a2:T.v 2=T.v2:=rfl;rw[if_neg (by omega),if_neg (by omega),if_neg (by omega)];rfl
  unfold cors;simp only[corsN,hf,List.nil_append];unfold corK;rw[if_pos h0,if_pos h1,if_pos h2];rfl
theorem cors_ghost{P:List (Int×Int)}{T:TriM}{j:Nat}(hj:j<3)(hg:placeT T (-1)=(j:Int))(h1:InV P (T.v ((j+1)%3)))(h2:InV P (T.v ((j+2)%3)))(h0:T.v j=-1):cors P T=[ptT P T ((j+1)%3),ptT P T ((j+2)%3)]:=by
  unfold InV at h1 h2;have hf:corF T=j+1:=by unfold corF;rw[hg];omega
  unfold cors;simp only[corsN,hf,List.nil_append];obtain rfl|rfl|rfl:j=0∨j=1∨j=2:=by omega
  all_goals (unfold corK;rw[if_pos h1,if_pos h2,if_neg (by simp[h0])];rfl)
end Go.MagM
namespace Go.Proofs.YtammmemfkpcpcaaGreat
open Go.RowKit Go.MagM
end Go.Proofs.YtammmemfkpcpcaaGreat
namespace Go.MagM
open Go.RowKit Go.Shelf
section
variable{a b c:Nat}
theorem one_only9{y:Nat}{U:TriM}(h:(newM (a:Int) b c)[y]?=some U)(hr:realT U=true):y=0∧U=⟨(a:Int),b,c,1,2,3,false,false,false⟩:=by
  have hl:y<4:=(List.getElem?_eq_some_iff.1 h).1;obtain rfl|rfl|rfl|rfl:y=0∨y=1∨y=2∨y=3:=by omega
  all_goals simp only[newM,List.getElem?_cons_zero,List.getElem?_cons_succ,Option.some.injEq] at h
  ·exact⟨rfl,h.symm⟩
  all_goals subst h;unfold realT at hr;have:=of_decide_eq_true hr;simp only[] at this;omega
end
end Go.MagM
namespace Go.MagM
open Go.RowKit Go.Shelf
end Go.MagM
namespace Go.Proofs.YtammmemfkpcpcaaGreat
open Go.RowKit Go.MagM Go.Shelf
attribute [local go_sem] Oper.semAt_some
theorem round_stops_at(n:Nat)(hn:1≤n)(Bb Bv Bm:Nat)(Pb:Nat→Prop){mb pb pc:Nat}{ta:Option Addr}{tc:Nat}{P:List (Int×Int)}{S:List TriM}(v:Int)(w:World)(hm:MeshR w mb pb pc ta tc P S)(hin:MeshIn Pb mb pb ta)(hBb:w.cell? ⟨Bb,0,none⟩=some (.func (.func 12) #[.pointer (some ⟨mb,0,none⟩)] #[]))(hBv:w.cell? ⟨Bv,0,none⟩=some (.int .i64 v))(hBm:w.cell? ⟨Bm,0,none⟩=some (.pointer (some ⟨mb,0,none⟩)))(hPv:Pb Bv)(hPm:Pb Bm):SeqStopsK Fence.wide n Tryz.prog 92 #[.pointer (some ⟨Bb,0,none⟩),.pointer (some ⟨Bv,0,none⟩),.pointer (some ⟨Bm,0,none⟩)] encR (KeepB Pb) (fun ys:List (RB S)=>ys.map (·.1)=walkM S v (atM S v) S.length (atM S v)) (fun pre:List (RB S)=>pre.map (·.1)<+:walkM S v (atM S v) S.length (atM S v)) S.length w:=fun l J Jx W hW _ _ hY h0=>round1_at n hn l Bb Bv Bm Pb v J Jx hY W (hm.below hW) hin ((hW.cell (p:=⟨Bb,0,none⟩) (World.block_lt_of_cell? w _ hBb)).trans hBb) ((hW.cell (p:=⟨Bv,0,none⟩) (World.block_lt_of_cell? w _ hBv)).trans hBv) ((hW.cell (p:=⟨Bm,0,none⟩) (World.block_lt_of_cell? w _ hBm)).trans hBm) hPv hPm h0
set_option maxHeartbeats 1000000 in theorem Around_any(mb:Nat)(v:Int)(w:World):Calls Tryz.prog 13 #[.pointer (some ⟨mb,0,none⟩),.int .i64 v] w fun e w'=>e= .returned (.func (.func 92) #[] #[.pointer (some ⟨w.heap.size+1+1,0,none⟩),.pointer (some ⟨w.heap.size+1,0,none⟩),.pointer (some ⟨w.heap.size,0,none⟩)])∧w'=((w.alloc (.cells #[.pointer (some ⟨mb,0,none⟩)] 26)).alloc (.cells #[.int .i64 v] 3)).alloc (.cells #[.func (.func 12) #[.pointer (some ⟨mb,0,none⟩)] #[]] 43):=by go_enter Tryz.func13,Tryz.ntmps13;go_wp2_with (go_at_call 37;refine(round_any _ _ v mb 12 _ rfl rfl).mono ?_;rintro e w' ⟨rfl,rfl⟩);go_ret;exact⟨rfl,rfl⟩
end Go.Proofs.YtammmemfkpcpcaaGreat
namespace Go.MagM
open Go.RowKit
def HavX(rb:Nat)(ty:TypeId)(W:World):Prop:=∃t:Int,Boxed W rb ty (.int .i64 t)
theorem havX_own{S:List TriM}(rb:Nat)(ty:TypeId)(B:Nat):OwnFrom B (fun(_:List (RB S)) W=>HavX rb ty W):=by intro s A B' row hs hg hr;obtain⟨t,hb⟩:=hs;exact⟨t,(Own.from (boxed_own rb ty (fun _:List (RB S)=>Value.int .i64 t)) B) s A B' row hb hg hr⟩
end Go.MagM
namespace Go.Proofs.YtammmemfkpcpcaaGreat
open Go.RowKit Go.MagM Go.Shelf
attribute [local go_sem] Oper.semAt_some
theorem keepsOthersG{W W':World}(h:Below W.heap.size W W'):KeepsOthers W W':=⟨h.size,fun k _ hk _=>(h.block k (Array.getElem?_eq_some_iff.1 hk).1).trans hk⟩
set_option maxRecDepth 100000 in set_option maxHeartbeats 8000000 in theorem having_any{mb pb pc:Nat}{ta:Option Addr}{tc:Nat}{P:List (Int×Int)}{S:List TriM}(v:Int)(w:World)(h:MeshR w mb pb pc ta tc P S)(hin:MeshIn (fun b=>b<w.heap.size) mb pb ta):Calls Tryz.prog 71 #[.pointer (some ⟨mb,0,none⟩),.int .i64 v] w fun e w'=>∃t:Int,e= .returned (.int .i64 t)∧Below w.heap.size w w':=by
  obtain⟨w1,hw1,pm,hb1,hs1⟩:=new_box w _ rfl [.pointer (some ⟨mb,0,none⟩)] 26;obtain⟨w2,hw2,pp,hb2,hs2⟩:=new_box w1 _ rfl [.int .i64 0] 3;obtain⟨b0,hb0⟩:∃x,w.heap.size=x:=⟨_,rfl⟩;obtain⟨rb,hrb⟩:∃x,w1.heap.size=x:=⟨_,rfl⟩;have bx2:Boxed w2 rb 3 (.int .i64 0):=by rw[←hw2,←hrb];exact Boxed.new w1 _ _
  have hB2:Below w.heap.size w w2:=hb1.trans (hb2.mono hb1.size);have bm2:Boxed w2 b0 26 (.pointer (some ⟨mb,0,none⟩)):=by
    have e1:Boxed w1 b0 26 (.pointer (some ⟨mb,0,none⟩)):=by rw[←hw1,←hb0];exact Boxed.new w _ _
    exact(hb2.block b0 (by omega)).trans e1
  have hm2:=h.below hB2;have c0:=bm2.cell;have hz1:rb=b0+1:=by omega
  have hz2:w2.heap.size=rb+1:=by omega
  have HB2:=Lib.hid hB2;have BX2:=Lib.hid bx2;have BM2:=Lib.hid bm2;have HM2:=Lib.hid hm2;have HIN:=Lib.hid hin;have HZ1:=Lib.hid hz1;have HZ2:=Lib.hid hz2;have HB0:=Lib.hid hb0;clear h hin pm pp hb1 hb2 hB2 bx2 bm2 hm2 hs1 hs2 hz1 hz2;refine(callsIn_wide (n:=20)).1 (callsIn_of_wp_marks (F:=Fence.wide) (n:=20) Tryz.func71 rfl trivial ?_ rfl);simp only[Tryz.ntmps71,List.size_toArray,List.length_cons,List.length_nil,Nat.reduceAdd,Nat.reduceSub,Array.replicate_succ,Array.replicate_zero,List.push_toArray,List.append_toArray,List.nil_append,List.cons_append];rw[wpIn_wide];go_wp2_with fail;clear hw1 hw2 hb0 hrb;refine(Around_any mb v w2).mono ?_;rintro e w3 ⟨rfl,hw3⟩;obtain⟨b,hb⟩:∃x,w2.heap.size=x:=⟨_,rfl⟩;rw[hb];have hW3:w3.heap.size=b+3:=by rw[hw3];simp;omega
  have hb23:Below w2.heap.size w2 w3:=by rw[hw3];exact(((Below.refl _ _).alloc (Nat.le_refl _) _).alloc (by simp) _).alloc (by simp;omega) _
  have q0:Boxed w3 b 26 (.pointer (some ⟨mb,0,none⟩)):=by rw[hw3,←hb];exact(((Boxed.new w2 _ _).alloc _).alloc _)
  have q1:Boxed w3 (b+1) 3 (.int .i64 v):=by rw[hw3];have:Boxed ((w2.alloc (.cells #[.pointer (some ⟨mb,0,none⟩)] 26)).alloc (.cells #[.int .i64 v] 3)) (w2.alloc (.cells #[.pointer (some ⟨mb,0,none⟩)] 26)).heap.size 3 (.int .i64 v):=Boxed.new _ _ _;rw[show(w2.alloc (.cells #[.pointer (some ⟨mb,0,none⟩)] 26)).heap.size=b+1 by simp;omega] at this;exact this.alloc _
  have q2:Boxed w3 (b+1+1) 43 (.func (.func 12) #[.pointer (some ⟨mb,0,none⟩)] #[]):=by
    rw[hw3];have:Boxed (((w2.alloc (.cells #[.pointer (some ⟨mb,0,none⟩)] 26)).alloc (.cells #[.int .i64 v] 3)).alloc (.cells #[.func (.func 12) #[.pointer (some ⟨mb,0,none⟩)] #[]] 43)) ((w2.alloc (.cells #[.pointer (some ⟨mb,0,none⟩)] 26)).alloc (.cells #[.int .i64 v] 3)).heap.size 43 (.func (.func 12) #[.pointer (some ⟨mb,0,none⟩)] #[]):=Boxed.new _ _ _;rw[show((w2.alloc (.cells #[.pointer (some ⟨mb,0,none⟩)] 26)).alloc (.cells #[.int .i64 v] 3)).heap.size=b+1+1 by simp;omega] at this;exact this
  have hm3:=HM2.out.below hb23;have hB3:=HB2.out.trans (hb23.mono HB2.out.size);have hz1:=HZ1.out;have hz2:=HZ2.out;have bx3:Boxed w3 rb 3 (.int .i64 0):=(hb23.block rb (by omega)).trans BX2.out;have bm3:Boxed w3 b0 26 (.pointer (some ⟨mb,0,none⟩)):=(hb23.block b0 (by omega)).trans BM2.out;clear hw3 c0;have hw0:w.heap.size≤b0∧b0≤w.heap.size:=by have:=HB0.out;omega
  have hl1:b0<rb:=by omega
  have hl2:rb<b:=by omega
  have hl3:b+3≤w3.heap.size∧w3.heap.size≤b+3:=by omega
  clear hz1 hz2 hW3 hb;have hin3:MeshIn (fun k=>k≠rb∧k<b+3) mb pb ta:=⟨by have:=HIN.out.m;omega,by have:=HIN.out.p;omega,fun k hk=>by have:=HIN.out.t k hk;omega⟩;have HM3:=Lib.hid hm3;have HI3:=Lib.hid hin3;go_wp2;rw[←wpIn_wide (n:=20)];refine wpIn_rangeFunc_ownG rfl (by omega) (gf:=92) (lb:=#[.pointer (some ⟨b+1+1,0,none⟩),.pointer (some ⟨b+1,0,none⟩),.pointer (some ⟨b,0,none⟩)]) rfl trivial (enters_of Tryz.func92 (by kernel_rfl) rfl) (round_stops_at 19 (by omega) (b+1+1) (b+1) b (fun k=>k≠rb∧k<b+3) v w3 hm3 hin3 q2.cell q1.cell q0.cell (by omega) (by omega)) (fun h k=>KeepB.trans h k) ?kb (Below.refl _ _) (fun _=>rfl) (fun(_:List (RB S)) W=>Boxed W rb 3 (.int .i64 0)∧KeepB (fun k=>k≠rb∧k<b+3) w3 W∧Below w.heap.size w W) (fun c (_:List (RB S)) W=>(c= .ret∧HavX rb 3 W)∧Below w.heap.size w W) (OwnFrom.and (Own.from (boxed_own rb 3 (fun _:List (RB S)=>Value.int .i64 0)) w3.heap.size) (OwnFrom.and (keepB_own (fun k hk=>by omega)) (ownFrom_below (Nat.le_refl _) (by omega)))) (fun c=>OwnFrom.and (fun s A B row hs hg hr=>⟨hs.1,havX_own _ _ _ s A B row hs.2 hg hr⟩) (ownFrom_below (Nat.le_refl _) (by omega))) ⟨bx3,KeepB.refl _ _,hB3⟩ (fun x=>{tmps:=#[.pointer (some ⟨mb,0,none⟩),.int .i64 v,.pointer (some ⟨b0,0,none⟩),undef,.pointer (some ⟨rb,0,none⟩),.int .i64 (x.1.1:Int),.pointer (some ⟨mb,0,none⟩),.int .i64 v,.func (.func 92) #[] #[.pointer (some ⟨b+1+1,0,none⟩),.pointer (some ⟨b+1,0,none⟩),.pointer (some ⟨b,0,none⟩)],.int .i64 (x.1.1:Int),.int .i64 (x.1.2:Int),undef,undef,undef,undef],defers:=[]}) ?assign ?body ?done ?stop;case kb=>
    intro W l o o' hl h _ _ k hk;exact World.putObj_heap_other (fun e=>by omega)
  case assign=>
    intro l x W K hK;dsimp only[encR];gi_wp2;exact hK
  case body=>
    rintro l pre ⟨⟨m,k⟩,hm,hk⟩ W ⟨hbx,hKB,hB⟩ _;simp only[] at hm hk;have hmW:=HM3.out.keep HI3.out hKB;have hbm:Boxed W b0 26 (.pointer (some ⟨mb,0,none⟩)):=(hKB b0 (by omega)).trans bm3;have cm:=hbm.cell;have hre:=Real_any (m:Int) W hmW;obtain⟨r,hr⟩:∃r,realM S (m:Int)=r:=⟨_,rfl⟩;rw[hr] at hre;have HRE:=Lib.hid hre;have HBX:=Lib.hid hbx;have HKB:=Lib.hid hKB;have HBB:=Lib.hid hB;clear hre hr hmW hbx hKB hB;gi_wp2_with fail;refine⟨trivial,(CallsIn.inRound l (callsIn_wide.2 HRE.out)).mono ?_⟩;rintro e W1 ⟨rfl,q,rfl⟩;have hbx1:Boxed (W.drewN q) rb 3 (.int .i64 0):=HBX.out;have hc:=hbx1.cell;have hf:=hbx1.frozen;have hb1:Below w.heap.size w (W.drewN q):=HBB.out.trans ((Drew.below ⟨q,rfl⟩:Below W.heap.size W (W.drewN q)).mono HBB.out.size);have hd1:Below W.heap.size W (W.drewN q):=Drew.below ⟨q,rfl⟩;have hkb1:KeepB (fun k=>k≠rb∧k<b+3) W (W.drewN q):=fun _ _=>rfl;cases r with
    |true=>
      gi_wp2;exact⟨((keepsOthersG hd1).trans (KeepsOthers.setCell _ _ _)).from _,⟨rfl,⟨_,hbx1.set _⟩⟩,hb1.setCell (p:=⟨rb,0,none⟩) (by simp only[];omega) _⟩|false=>gi_wp2;exact⟨(keepsOthersG hd1).from _,hkb1,hbx1,HKB.out.trans hkb1,hb1⟩
  case done=>
    rintro D xs W hD hS ⟨hbx,hKB,hB⟩ hK;have hc:=hbx.cell;have hf:=hbx.frozen;gi_wp2;go_wp2;have hK':=(KeepsOthers.setCell W ⟨rb,0,none⟩ (.int .i64 0)).same D _ hK rfl;have hb':=hB.setCell (p:=⟨rb,0,none⟩) (by simp only[];omega) (.int .i64 0);have hbx':=hbx.set (.int .i64 0);refine⟨by simp,.inl ⟨_,_,rfl,run_takeDeferred hK',?_⟩⟩;have hc5:=cell_kept hbx'.cell (grownBy_putObj' _ D (.deferred none)) (fun r e=>by cases e;exact⟨_,hK',rfl⟩);refine⟨.int .i64 0,?_,0,rfl,hb'.trans (belowK_b (w:=w) (Nat.le_refl _) _ D _ _ (by omega) hK' rfl rfl)⟩;simp[results,Tryz.results71,go_sem,hc5]
  case stop=>
    rintro D c pre W hD hS ⟨⟨rfl,⟨x,hbx⟩⟩,hB⟩ hK;gi_wp2;refine⟨by simp,.inl ⟨_,_,rfl,run_takeDeferred hK,?_⟩⟩;have hc5:=cell_kept hbx.cell (grownBy_putObj' _ D (.deferred none)) (fun r e=>by cases e;exact⟨_,hK,rfl⟩);refine⟨.int .i64 x,?_,x,rfl,hB.trans (belowK_b (w:=w) (Nat.le_refl _) _ D _ _ (by omega) hK rfl rfl)⟩;simp[results,Tryz.results71,go_sem,hc5]
end Go.Proofs.YtammmemfkpcpcaaGreat
namespace Go.MagM
open Go.RowKit
theorem begin_at{S:List TriM}{T:TriM}(h0:S[0]?=some T)(hr:realT T=true)(fr:Int):∃(t0:Nat) (T0:TriM),beginM S fr=(t0:Int)∧S[t0]?=some T0∧realT T0=true:=by
  unfold beginM;by_cases h:realM S fr=true;· obtain⟨T0,hg,hr0⟩:=realM_some h;obtain⟨h1,-,h3⟩:=getT_some hg;exact⟨fr.toNat,T0,by rw[if_pos h];omega,h3,hr0⟩
  · refine⟨0,T,?_,h0,hr⟩;rw[if_neg h];have h1:realsK S 1=[(0,T)]:=by rw[realsK_yes h0 hr];rfl
    obtain⟨rest,he⟩:=realsK_pre S S.length 1 (by have:=(List.getElem?_eq_some_iff.1 h0).1;omega);rw[←he,h1];rfl
theorem MeshR.in_{w:World}{mb pb pc:Nat}{ta:Option Addr}{tc:Nat}{P:List (Int×Int)}{S:List TriM}(h:MeshR w mb pb pc ta tc P S)(hP:0<P.length)(hS:0<S.length):MeshIn (fun b=>b<w.heap.size) mb pb ta:=by
  refine⟨World.block_lt_of_cell? w _ (h.box.c 0 _ rfl),?_,fun b hb=>?_⟩
  · obtain⟨⟨x,y⟩,hp⟩:∃q,P[0]?=some q:=⟨_,List.getElem?_eq_getElem hP⟩;exact World.block_lt_of_cell? w _ (h.pts 0 x y hp).1
  · obtain⟨T,hT⟩:∃T,S[0]?=some T:=⟨_,List.getElem?_eq_getElem hS⟩;obtain⟨tb,e,hl,-⟩:=h.tris.get hT;rw[hb] at e;cases e;exact hl
end Go.MagM
namespace Go.Proofs.YtammmemfkpcpcaaGreat
open Go.RowKit Go.MagM
theorem dig_put{S:List TriM}{ts:List Int}{W w':World}{e:Ending}{cb:Bool}{gd c:Nat}{rv:Value}(Good:List Int→Prop)(hg:Good ts)(hne:rimR S ts≠[])(he:e= .returned (.agg #[.slice (some ⟨gd,0,none⟩) ts.length c,rv,.bool cb]))(h1:RowN w' W.heap.size 3 1 (.slice (some ⟨gd,0,none⟩) ts.length c) ts.length (intCells (sortL ts)))(h2:RowN w' W.heap.size 161 5 rv (rimR S ts).length (sideCells (rimR S ts)))(hb:Below W.heap.size W w'):∃(gd c rb rc:Nat) (ts:List Int) (cb:Bool),e= .returned (.agg #[.slice (some ⟨gd,0,none⟩) ts.length c,.slice (some ⟨rb,0,none⟩) (rimR S ts).length rc,.bool cb])∧Good ts∧IntsAt w' gd (sortL ts)∧SidesAt w' rb (rimR S ts)∧(W.heap.size≤gd∧gd<w'.heap.size∧W.heap.size≤rb∧rb<w'.heap.size)∧Below W.heap.size W w':=by
  obtain⟨rb,rc,rfl⟩:∃rb rc,rv= .slice (some ⟨rb,0,none⟩) (rimR S ts).length rc:=by
    rcases h2.2 with⟨-,h⟩|⟨g,cap,cur,h,-⟩;·exact absurd (List.eq_nil_of_length_eq_zero h) hne
    ·exact⟨g,cap,h⟩
  refine⟨gd,c,rb,rc,ts,cb,he,hg,fun j z hj=>h1.cells (g:=gd) rfl j _ (intCells_get hj),fun i s hs j u hj=>?_,⟨(h1.lt gd rfl).1,(h1.lt gd rfl).2,(h2.lt rb rfl).1,(h2.lt rb rfl).2⟩,hb⟩;have hj5:j<5:=by have:=(List.getElem?_eq_some_iff.1 hj).1;exact this
  exact h2.cells (g:=rb) rfl _ u ((sideCells_get _ i j s hs hj5).trans hj)
theorem one_begin{a b c:Nat}(fr:Int):beginM (newM (a:Int) b c) fr=((0:Nat):Int):=by obtain⟨t0,T0,h1,h2,h3⟩:=begin_at (S:=newM (a:Int) b c) (T:=⟨(a:Int),b,c,1,2,3,false,false,false⟩) rfl (by unfold realT;exact decide_eq_true (by simp only[];omega)) fr;rw[h1,(one_only9 h2 h3).1]
theorem single_of{ts:List Int}{x:Int}(h:ts.Nodup)(hm:∀y,y∈ts↔y=x):ts=[x]:=by cases ts with|nil=>exact absurd ((hm x).2 rfl) (by simp)|cons a l=>have ha:a=x:=(hm a).1 (by simp);cases l with|nil=>rw[ha]|cons b l=>have hb:b=x:=(hm b).1 (by simp);rw[ha,hb] at h;simp at h
theorem sortL_one(x:Int):sortL [x]=[x]:=List.perm_singleton.1 (sortL_perm [x])
set_option maxRecDepth 100000 in set_option maxHeartbeats 16000000 in theorem Build4_any(P:List (Int×Int))(g:Nat)(cnt p0 p1:Int)(S4:List TriM)(sb sc:Nat)(w:World)(hP:InPs P)(hl:P.length=4)(hc:PtsIn w sb P)(hbase:∀ok s t,BaseIs P ok s t→ok=true∧s=1∧t=2)(hturn:turnM P ((0:Nat):Int) ((1:Nat):Int) ((2:Nat):Int)=1)(h3:P[3]?=some (p0,p1))(hg:1≤g∧g<4)(hfind:findF P (newM ((0:Nat):Int) ((1:Nat):Int) ((2:Nat):Int)) ⟨((0:Nat):Int),((1:Nat):Int),((2:Nat):Int),1,2,3,false,false,false⟩ (p0,p1) 4 0 ((0:Nat):Int)=((3,(g:Int),0,0),cnt))(hconf:∀k:Nat,k<4→k≠g→confT P (newM ((0:Nat):Int) ((1:Nat):Int) ((2:Nat):Int)) (p0,p1) (k:Int)=false)(hput:putM (newM ((0:Nat):Int) ((1:Nat):Int) ((2:Nat):Int)) ((3:Nat):Int) [] [(g:Int)]=S4)(hrim:rimR (newM ((0:Nat):Int) ((1:Nat):Int) ((2:Nat):Int)) [(g:Int)]≠[])(hok:∀s,s∈rimR (newM ((0:Nat):Int) ((1:Nat):Int) ((2:Nat):Int)) [(g:Int)]→∃u i:Nat,s.u=(u:Int)∧(u:Int)∉[(g:Int)]∧u<4∧s.i=(i:Int)∧i<3):Calls Tryz.prog 27 #[.slice (some ⟨sb,0,none⟩) 4 sc] w fun e w'=>∃mb pb pc tv,e= .returned (.tuple #[.pointer (some ⟨mb,0,none⟩),.bool true])∧MeshO 24 42 w' w.heap.size mb pb pc tv P (S4)∧Below w.heap.size w w':=by
  have hP0:P≠[]:=by intro e;rw[e] at hl;cases hl
  obtain⟨S0,hS0⟩:∃S0,newM ((0:Nat):Int) ((1:Nat):Int) ((2:Nat):Int)=S0:=⟨_,rfl⟩;have hlook:LookIn P S0:=by
    intro t T hT;rw[←hS0] at hT;rcases newM_get _ _ _ t T hT with⟨rfl,rfl⟩|⟨rfl,rfl⟩|⟨rfl,rfl⟩|⟨rfl,rfl⟩
    · refine⟨fun _ i hi=>?_,fun k hk=>?_⟩
      · obtain rfl|rfl|rfl:i=0∨i=1∨i=2:=by omega
        all_goals (unfold InV;rw[hl];decide)
      · exfalso;have:placeT (⟨((0:Nat):Int),((1:Nat):Int),((2:Nat):Int),1,2,3,false,false,false⟩:TriM) (-1)=-1:=by decide
        omega
    all_goals
      refine⟨fun hr=>?_,fun k hk=>?_⟩;·exact absurd hr (by decide)
      · have hk2:k=2:=by
          simp[placeT] at hk;omega
        subst hk2;unfold InV;rw[hl];decide
  have hnx:Nexts S0:=by
    intro t T hT i hi;rw[←hS0] at hT⊢;rcases newM_get _ _ _ t T hT with⟨rfl,rfl⟩|⟨rfl,rfl⟩|⟨rfl,rfl⟩|⟨rfl,rfl⟩;all_goals
      obtain rfl|rfl|rfl:i=0∨i=1∨i=2:=by omega
      all_goals first|exact⟨0,rfl,by decide⟩|exact⟨1,rfl,by decide⟩|exact⟨2,rfl,by decide⟩|exact⟨3,rfl,by decide⟩
  have hcor:Cornered P S0:=by
    intro t T hT;have hlk:=hlook t T hT;rw[←hS0] at hT;rcases newM_get _ _ _ t T hT with⟨rfl,rfl⟩|⟨rfl,rfl⟩|⟨rfl,rfl⟩|⟨rfl,rfl⟩
    · have hv:=hlk.1 (by decide);rw[cors_real (by decide) hv];simp
    all_goals have hv:=hlk.2 2 (by decide);rw[cors_ghost (j:=2) (by omega) (by decide) hv.1 hv.2 rfl];simp
  have hsm:SmallV S0:=by
    intro t T hT k;rw[←hS0] at hT;rcases newM_get _ _ _ t T hT with⟨rfl,rfl⟩|⟨rfl,rfl⟩|⟨rfl,rfl⟩|⟨rfl,rfl⟩;all_goals match k with|0=>decide|1=>decide|k+2=>exact(show-1000000≤(TriM.v _ 2)∧(TriM.v _ 2)≤1000000 by decide)
  have hlen0:S0.length=4:=by rw[←hS0];rfl
  have hlive:∀t,t<S0.length→Alive S0 t:=by
    intro t ht;obtain⟨T,hT⟩:∃T,S0[t]?=some T:=⟨_,List.getElem?_eq_getElem ht⟩;refine⟨T,hT,?_⟩;rw[←hS0] at hT;rcases newM_get _ _ _ t T hT with⟨rfl,rfl⟩|⟨rfl,rfl⟩|⟨rfl,rfl⟩|⟨rfl,rfl⟩;all_goals decide
  have hT0:S0[0]?=some ⟨((0:Nat):Int),((1:Nat):Int),((2:Nat):Int),1,2,3,false,false,false⟩:=by rw[←hS0];rfl
  have hbeg:∀fr,beginM S0 fr=((0:Nat):Int):=fun fr=>by rw[←hS0];exact one_begin fr
  rw[hS0] at hfind hconf hput hrim hok;obtain⟨Tg,hTg⟩:∃T,S0[g]?=some T:=⟨_,List.getElem?_eq_getElem (by omega)⟩;have hIS:InS S0 [(g:Int)]:=⟨by simp,fun z hz=>⟨g,by simpa using hz,by omega⟩⟩;have hreach:∀x,Reach S0 (confT P S0 (p0,p1)) [(g:Int)] x→x=(g:Int):=by
    intro x hx;have hcl:Closed S0 (confT P S0 (p0,p1)) [(g:Int)]:=by
      intro t i T ht hT hi _ hcf;obtain⟨u,hu,hul⟩:=hnx t T hT i hi;rw[hu] at hcf⊢;by_cases e:u=g;·rw[e];simp
      ·rw[hconf u (by omega) e] at hcf;cases hcf
    simpa using hcl.reach (fun t ht=>ht) hx
  have hpt:InP p0∧InP p1:=hP _ (List.mem_of_getElem? h3);have hdig:∀(mb pb pc:Nat)(ta:Option Addr)(tc:Nat)(W:World),MeshR W mb pb pc ta tc P S0→Calls Tryz.prog 44 #[.pointer (some ⟨mb,0,none⟩),.agg #[.int .i64 p0,.int .i64 p1],.agg #[.int .i64 3,.int .i64 (g:Int),.int .i64 0,.int .i64 0]] W fun e w'=>∃(gd c rb rc:Nat) (ts:List Int) (cb:Bool),e= .returned (.agg #[.slice (some ⟨gd,0,none⟩) ts.length c,.slice (some ⟨rb,0,none⟩) (rimR S0 ts).length rc,.bool cb])∧ts=[(g:Int)]∧IntsAt w' gd (sortL ts)∧SidesAt w' rb (rimR S0 ts)∧(W.heap.size≤gd∧gd<w'.heap.size∧W.heap.size≤rb∧rb<w'.heap.size)∧Below W.heap.size W w':=by
    intro mb pb pc ta tc W hm;refine(cvDig_any [(g:Int)] 3 (g:Int) 0 0 p0 p1 W hm hP hpt hnx hcor (by omega) hsm hIS (by simp) (fun V hV=>?_)).mono ?_
    · have:=cvBegin_off g Tg 3 0 0 V (hm.below hV) hTg (by decide);have e:takeM P Tg (g:Int) []=[(g:Int)]:=by unfold takeM;rw[if_pos ⟨hcor g Tg hTg,by simp⟩];rfl
      rw[e] at this;exact this
    · rintro e w' ⟨gd,c,rv,ts,he,hI,hts,h1,h2,hb⟩;have e1:ts=[(g:Int)]:=single_of hI.once (fun y=>⟨fun hy=>hreach y ((hts y).1 hy),fun hy=>(hts y).2 (.base (by rw[hy];simp))⟩);exact dig_put (fun ts=>ts=[(g:Int)]) e1 (by rw[e1];exact hrim) he h1 h2 hb
  have hPUT:∀(lo mb pb pc:Nat)(tv:Value)(W:World),MeshO 24 42 W lo mb pb pc tv P (S0)→Calls Tryz.prog 35 #[.pointer (some ⟨mb,0,none⟩),.int .i64 ((3:Nat):Int),.agg #[.int .i64 3,.int .i64 (g:Int),.int .i64 0,.int .i64 0]] W fun e w'=>e= .returned (.tuple #[])∧∃tv',MeshO 24 42 w' lo mb pb pc tv' P (S4)∧Mut W w' mb tv tv':=by
    intro lo mb pb pc tv W hm;refine(put_any 3 p0 p1 3 (g:Int) 0 0 [] (fun ts=>ts=[(g:Int)]) W hm h3 hlive (by omega) (fun ts e=>by subst e;rw[hlen0];exact⟨hIS,hrim,hok⟩) (fun V hV=>?_) (fun V hV=>?_)).mono ?_;·exact(faultAt_off _ 3 _ _ _ (by decide) V).mono fun e w' ⟨h1,h2⟩=>⟨_,h1,.inl ⟨rfl,rfl⟩,h2⟩
    · obtain⟨ta,tc,-,hr⟩:=(hm.below hV).read;exact hdig mb pb pc ta tc V hr
    · rintro e w' ⟨ts,tv',he,hts,h1,h2⟩;subst hts;rw[hput] at h1;exact⟨he,tv',h1,h2⟩
  have hFD:∀(mb pb pc:Nat)(ta:Option Addr)(tc:Nat)(fr:Int)(W:World),MeshR W mb pb pc ta tc P S0→MeshIn (fun b=>b<W.heap.size) mb pb ta→Calls Tryz.prog 34 #[.pointer (some ⟨mb,0,none⟩),.agg #[.int .i64 p0,.int .i64 p1],.int .i64 fr,.int .i64 ((S0.length:Nat):Int)] W fun e w'=>e= .returned (.tuple #[.agg #[.int .i64 3,.int .i64 (g:Int),.int .i64 0,.int .i64 0],.int .i64 cnt])∧Below W.heap.size W w':=by
    intro mb pb pc ta tc fr W hm hin;have:=WFind_any 0 ⟨((0:Nat):Int),((1:Nat):Int),((2:Nat):Int),1,2,3,false,false,false⟩ (p0,p1) fr ((S0.length:Nat):Int) W hm hin hP hpt hlook (hbeg fr) hT0 (by decide);rw[hlen0] at this⊢;rw[show(min ((4:Nat):Int) ((4:Nat):Int)).toNat=4 by decide,hfind] at this;exact this
  have HB:=Lib.hid (Base_any sb 4 sc P w hl (by omega) (by omega) hP hc);have HNEW:=Lib.hid (fun W (hW:PtsIn W sb P)=>New_yes (some ⟨sb,0,none⟩) sb 4 sc P W hl (by omega) (by omega) hP rfl (fun j u hj=>by
    rw[Nat.zero_add];obtain⟨q,r,hr,rfl⟩:∃q r,r<2∧j=q*2+r:=⟨j/2,j%2,Nat.mod_lt _ (by omega),by omega⟩;have hq:q<P.length:=by have:=(List.getElem?_eq_some_iff.1 hj).1;rw[ptsCells_len] at this;omega
    obtain⟨⟨x,y⟩,hxy⟩:∃p,P[q]?=some p:=⟨_,List.getElem?_eq_getElem hq⟩;obtain⟨g1,g2⟩:=ptsCells_get P q x y hxy;obtain⟨g3,g4⟩:=hW q x y hxy;obtain rfl|rfl:r=0∨r=1:=by omega
    · rw[Nat.add_zero] at hj⊢;rw[g1] at hj;cases hj;exact g3
    ·rw[g2] at hj;cases hj;exact g4) 0 1 2 hturn);have HBA:=Lib.hid hbase;have HC:=Lib.hid hc;have H3:=Lib.hid h3;have HPU:=Lib.hid hPUT;have HFN:=Lib.hid hFD;have HS0:=Lib.hid hS0;have HL4:=Lib.hid hlen0;have HL:=Lib.hid hl;clear hdig hPUT hFD hpt hreach hIS hTg hbeg hT0 hlive hsm hcor hnx hlook hfind hconf hput hrim hok hbase hturn h3 hc hP hP0 hS0 hlen0 hl;go_enter Tryz.func27,Tryz.ntmps27;go_wp2_with fail;refine HB.out.mono ?_;rintro e w1 ⟨ok,s,t,rfl,hba,hb1⟩;obtain⟨rfl,rfl,rfl⟩:=HBA.out ok s t hba;obtain⟨bb,hbb⟩:∃x,w1.heap.size=x:=⟨_,rfl⟩;obtain⟨w2,hw2,pb2,hb2,hs2⟩:=new_box w1 _ rfl [.int .i64 0,.int .i64 1,.int .i64 2] 39;rw[hbb] at pb2;have hB2:Below w.heap.size w w2:=hb1.trans (hb2.mono hb1.size);have HN:=Lib.hid (show Calls Tryz.prog 69 #[.slice (some ⟨sb,0,none⟩) 4 sc,.int .i64 0,.int .i64 1,.int .i64 2] w2 fun e w'=>∃mb pb pc tv,e= .returned (.tuple #[.pointer (some ⟨mb,0,none⟩),.bool true])∧MeshO 24 42 w' w2.heap.size mb pb pc tv P (newM ((0:Nat):Int) ((1:Nat):Int) ((2:Nat):Int))∧w2.heap.size≤pb∧Below w2.heap.size w2 w' from HNEW.out w2 (HC.out.below hB2));have z0:=pb2.c 0 _ rfl;have z1:=pb2.c 1 _ rfl;have z2:=pb2.c 2 _ rfl;have PB2:=Lib.hid pb2;have HB2:=Lib.hid hB2;have hlb:w.heap.size≤bb:=by rw[←hbb];exact hb1.size
  have HLB:=Lib.hid hlb;clear hba hb1 pb2 hb2 hs2 hB2 hlb;go_wp2_with fail;clear hbb hw2;refine HN.out.mono ?_;rintro e w3 ⟨mb,pb,pc,tv,rfl,hm,hpb,hb3⟩;rw[HS0.out] at hm;have pb3:=PB2.out.below hb3;have hB3:Below w.heap.size w w3:=HB2.out.trans (hb3.mono HB2.out.size);have hio:IntsAt w3 bb [0,1,2]:=fun j z hj=>by match j,hj with
    |0,hj=>cases hj;exact pb3.c 0 _ rfl|1,hj=>cases hj;exact pb3.c 1 _ rfl|2,hj=>cases hj;exact pb3.c 2 _ rfl|_+3,hj=>cases hj
  have HCO:=Lib.hid (fun x=>containsI_any (.slice (some ⟨bb,0,none⟩) 3 3) [0,1,2] x w3 (.inr ⟨bb,3,rfl,hio,by decide⟩));have HM:=Lib.hid hm;have HB3:=Lib.hid hB3;have y0:=pb3.c 0 _ rfl;have hlo:w.heap.size≤w2.heap.size:=HB2.out.size;have HLO:=Lib.hid hlo;have HPB:=Lib.hid hpb;clear z0 z1 z2 hm hpb hb3 hB3 pb3 hio hlo;go_wp2;clear y0;go_loopw [7,8,31] (fun lv _ iv wr=>∃k:Nat,iv= .int .i64 (k:Int)∧((k≤3∧lv= .int .i64 0∧wr=w3)∨(k=4∧∃tv',MeshO 24 42 wr w2.heap.size mb pb pc tv' P (S4)∧Below w.heap.size w wr))) (fun _ _ iv _=>4-(intOf iv).toNat);case atStart=>exact⟨0,rfl,.inl ⟨by omega,rfl,rfl⟩⟩
  case round=>
    obtain⟨k,rfl,⟨hk,rfl,rfl⟩|⟨rfl,tv',hm4,hb4⟩⟩:=hrel
    · obtain rfl|rfl|rfl|rfl:k=0∨k=1∨k=2∨k=3:=by omega
      · have HC0:=Lib.hid (HCO.out 0);rw[show decide ((0:Int)∈[(0:Int),1,2])=true by decide] at HC0;go_wp2_with fail;refine HC0.out.mono ?_;rintro e w5 ⟨rfl,rfl⟩;go_wp2;exact⟨⟨1,rfl,.inl ⟨by omega,rfl,by first|rfl|trivial⟩⟩,by simp[intOf]⟩
      · have HC0:=Lib.hid (HCO.out 1);rw[show decide ((1:Int)∈[(0:Int),1,2])=true by decide] at HC0;go_wp2_with fail;refine HC0.out.mono ?_;rintro e w5 ⟨rfl,rfl⟩;go_wp2;exact⟨⟨2,rfl,.inl ⟨by omega,rfl,by first|rfl|trivial⟩⟩,by simp[intOf]⟩
      · have HC0:=Lib.hid (HCO.out 2);rw[show decide ((2:Int)∈[(0:Int),1,2])=true by decide] at HC0;go_wp2_with fail;refine HC0.out.mono ?_;rintro e w5 ⟨rfl,rfl⟩;go_wp2;exact⟨⟨3,rfl,.inl ⟨by omega,rfl,by first|rfl|trivial⟩⟩,by simp[intOf]⟩
      · have HC0:=Lib.hid (HCO.out 3);rw[show decide ((3:Int)∈[(0:Int),1,2])=false by decide] at HC0;go_wp2_with fail;refine HC0.out.mono ?_;rintro e w5 ⟨rfl,rfl⟩;obtain⟨ta,tc,-,hr⟩:=HM.out.read;have hin:=hr.in_ (by rw[HL.out];omega) (by rw[HL4.out];omega);have HHA:=Lib.hid (having_any 0 wr hr hin);clear hin hr;go_wp2_with fail;refine HHA.out.mono ?_;rintro e w6 ⟨fr,rfl,hb6⟩;have hm6:=HM.out.below hb6;have hB6:Below w.heap.size w w6:=HB3.out.trans (hb6.mono HB3.out.size);obtain⟨ta,tc,-,hr6⟩:=hm6.read;have hin6:=hr6.in_ (by rw[HL.out];omega) (by rw[HL4.out];omega);have HIN:=Lib.hid (Insert_any 3 p0 p1 3 (g:Int) 0 0 cnt fr (fun W w'=>∃tv',MeshO 24 42 w' w2.heap.size mb pb pc tv' P (S4)∧Mut W w' mb tv tv') w6 hr6 H3.out (fun W hW=>HFN.out mb pb pc ta tc fr W (hr6.below hW) ⟨Nat.lt_of_lt_of_le hin6.m hW.size,Nat.lt_of_lt_of_le hin6.p hW.size,fun b hb=>Nat.lt_of_lt_of_le (hin6.t b hb) hW.size⟩) (fun _ W hW=>HPU.out w2.heap.size mb pb pc tv W (hm6.below hW)));have HB6:=Lib.hid hB6;clear hb6 hm6 hB6 hr6 hin6;go_wp2_with fail;refine HIN.out.mono ?_;rintro e w7 (⟨h,-⟩|⟨-,rfl,W,hW,tv',hm7,hmu7⟩);·exact absurd h (by decide)
        · have hlow:=HM.out.low;have FIN:=Lib.hid (And.intro hm7 ((HB6.out.trans (hW.mono HB6.out.size)).trans (hmu7.below (by have:=HB6.out.size;have:=hW.size;omega) (by have:=HLO.out;omega) (fun k hk=>by have:=(HM.out.row.lt k hk).1;have:=HLO.out;omega))));clear hm7 hmu7 hlow;go_wp2;exact⟨⟨4,rfl,.inr ⟨rfl,tv',FIN.out.1,FIN.out.2⟩⟩,by simp[intOf]⟩
    · have FIN:=Lib.hid (And.intro hm4 hb4);clear hm4 hb4;go_wp2;refine bodyPost_ret (v:= .tuple #[.pointer (some ⟨mb,0,none⟩),.bool true]) ?_ rfl ?_;·simp[results,Tryz.results27,go_sem]
      exact⟨mb,pb,pc,tv',rfl,⟨FIN.out.1.box,owns_mono FIN.out.1.prow HLO.out,owns_mono FIN.out.1.row HLO.out,by have:=FIN.out.1.low;have:=HLO.out;omega,FIN.out.1.apart,FIN.out.1.short⟩,FIN.out.2⟩
end Go.Proofs.YtammmemfkpcpcaaGreat
namespace Go.MagM
def qsP:List (Int×Int):=[(0,0),(2,0),(2,2),(0,2)]
def qsS:List TriM:=[⟨0,1,2,1,4,3,false,false,false⟩,⟨2,1,-1,3,5,0,false,false,false⟩,⟨-1,0,3,4,5,3,false,false,false⟩,⟨1,0,-1,2,1,0,false,false,false⟩,⟨0,2,3,5,2,0,false,false,false⟩,⟨2,-1,3,2,4,1,false,false,false⟩]
def qsR:List SideM:=[⟨0,1,3,2,false⟩,⟨1,2,1,2,false⟩,⟨2,3,5,1,false⟩,⟨3,0,2,0,false⟩]
theorem qs_get{t:Nat}{T:TriM}(h:qsS[t]?=some T):(t=0∧T=⟨0,1,2,1,4,3,false,false,false⟩)∨(t=1∧T=⟨2,1,-1,3,5,0,false,false,false⟩)∨(t=2∧T=⟨-1,0,3,4,5,3,false,false,false⟩)∨(t=3∧T=⟨1,0,-1,2,1,0,false,false,false⟩)∨(t=4∧T=⟨0,2,3,5,2,0,false,false,false⟩)∨(t=5∧T=⟨2,-1,3,2,4,1,false,false,false⟩):=by match t,h with|0,h=>cases h;exact .inl ⟨rfl,rfl⟩|1,h=>cases h;exact .inr (.inl ⟨rfl,rfl⟩)|2,h=>cases h;exact .inr (.inr (.inl ⟨rfl,rfl⟩))|3,h=>cases h;exact .inr (.inr (.inr (.inl ⟨rfl,rfl⟩)))|4,h=>cases h;exact .inr (.inr (.inr (.inr (.inl ⟨rfl,rfl⟩))))|5,h=>cases h;exact .inr (.inr (.inr (.inr (.inr ⟨rfl,rfl⟩))))|_+6,h=>cases h
end Go.MagM
namespace Go.Proofs.YtammmemfkpcpcaaGreat
open Go.RowKit Go.MagM
theorem qs_in:InPs qsP:=by intro p hp;simp[qsP] at hp;rcases hp with rfl|rfl|rfl|rfl<;>(unfold InP;omega)
theorem qs_base(ok:Bool)(s t:Nat)(h:BaseIs qsP ok s t):ok=true∧s=1∧t=2:=by
  have e1:ptA qsP 1≠ptA qsP 0:=by decide
  have e2:crsP (ptA qsP 0) (ptA qsP 1) (ptA qsP 2)≠0:=by decide
  have hl:qsP.length=4:=rfl;rcases h with⟨h0,h1,h2,h3,h4,h5,h6,h7⟩|⟨h0,-,-,k,h1,h2⟩
  · have hs:s=1:=by
      rcases Nat.lt_or_ge 1 s with g|g;·exact absurd (h4 1 g) e1
      ·omega
    subst hs;refine⟨h0,rfl,?_⟩;rcases Nat.lt_or_ge 2 t with g|g;·exact absurd (h6 2 (by omega) g) e2
    ·omega
  · exfalso;have hk:k≤1:=by
      rcases Nat.lt_or_ge 1 k with g|g;·exact absurd (h1 1 g (by omega)) e1
      ·exact g
    rcases h2 with h2|⟨h2,h3⟩;·omega
    · have hk1:k=1:=by
        rcases Nat.lt_or_ge 0 k with g|g;·omega
        · obtain rfl:k=0:=by omega
          exact absurd rfl h2
      subst hk1;exact e2 (h3 2 (by omega) (by omega))
theorem qs_build(sb sc:Nat)(w:World)(hc:PtsIn w sb qsP):Calls Tryz.prog 27 #[.slice (some ⟨sb,0,none⟩) 4 sc] w fun e w'=>∃mb pb pc tv,e= .returned (.tuple #[.pointer (some ⟨mb,0,none⟩),.bool true])∧MeshO 24 42 w' w.heap.size mb pb pc tv qsP qsS∧Below w.heap.size w w':=by
  have e:sortL [((2:Nat):Int)]=[((2:Nat):Int)]:=sortL_one _;refine Build4_any qsP 2 2 0 2 qsS sb sc w qs_in rfl hc qs_base (by decide+kernel) rfl (by omega) (by decide+kernel) (fun k hk hne=>?_) ?_ ?_ (fun s hs=>?_)
  · obtain rfl|rfl|rfl:k=0∨k=1∨k=3:=by omega
    all_goals decide+kernel
  · unfold putM;rw[e];rfl
  ·exact(show rimR (newM ((0:Nat):Int) ((1:Nat):Int) ((2:Nat):Int)) [((2:Nat):Int)]=[⟨-1,0,3,0,false⟩,⟨0,2,0,1,false⟩,⟨2,-1,1,1,false⟩] from rfl)▸(by simp)
  · rw[show rimR (newM ((0:Nat):Int) ((1:Nat):Int) ((2:Nat):Int)) [((2:Nat):Int)]=[⟨-1,0,3,0,false⟩,⟨0,2,0,1,false⟩,⟨2,-1,1,1,false⟩] from rfl] at hs;simp only[List.mem_cons,List.not_mem_nil,or_false] at hs;rcases hs with rfl|rfl|rfl;·exact⟨3,0,rfl,by decide,by omega,rfl,by omega⟩
    ·exact⟨0,1,rfl,by decide,by omega,rfl,by omega⟩
    ·exact⟨1,1,rfl,by decide,by omega,rfl,by omega⟩
theorem qs_look:LookIn qsP qsS:=by intro t T hT;have hl:qsP.length=4:=rfl;rcases qs_get hT with⟨rfl,rfl⟩|⟨rfl,rfl⟩|⟨rfl,rfl⟩|⟨rfl,rfl⟩|⟨rfl,rfl⟩|⟨rfl,rfl⟩;all_goals
    refine⟨fun hr i hi=>?_,fun k hk=>?_⟩;·first
        |exact absurd hr (by decide)
        | (obtain rfl|rfl|rfl:i=0∨i=1∨i=2:=by omega
           all_goals (unfold InV;rw[hl];decide))
    · simp[placeT] at hk;all_goals first
        |omega
        | (obtain rfl:k=2:=by omega
           unfold InV;rw[hl];decide)
        | (obtain rfl:k=1:=by omega
           unfold InV;rw[hl];decide)
        | (obtain rfl:k=0:=by omega
           unfold InV;rw[hl];decide)
theorem qs_nexts:Nexts qsS:=by
  intro t T hT i hi;rcases qs_get hT with⟨rfl,rfl⟩|⟨rfl,rfl⟩|⟨rfl,rfl⟩|⟨rfl,rfl⟩|⟨rfl,rfl⟩|⟨rfl,rfl⟩;all_goals
    obtain rfl|rfl|rfl:i=0∨i=1∨i=2:=by omega
    all_goals first|exact⟨0,rfl,by decide⟩|exact⟨1,rfl,by decide⟩|exact⟨2,rfl,by decide⟩|exact⟨3,rfl,by decide⟩|exact⟨4,rfl,by decide⟩|exact⟨5,rfl,by decide⟩
theorem qs_cornered:Cornered qsP qsS:=by intro t T hT;rcases qs_get hT with⟨rfl,rfl⟩|⟨rfl,rfl⟩|⟨rfl,rfl⟩|⟨rfl,rfl⟩|⟨rfl,rfl⟩|⟨rfl,rfl⟩;all_goals decide+kernel
theorem qs_small:SmallV qsS:=by intro t T hT k;rcases qs_get hT with⟨rfl,rfl⟩|⟨rfl,rfl⟩|⟨rfl,rfl⟩|⟨rfl,rfl⟩|⟨rfl,rfl⟩|⟨rfl,rfl⟩;all_goals match k with|0=>decide|1=>decide|k+2=>exact(show-1000000≤(TriM.v _ 2)∧(TriM.v _ 2)≤1000000 by decide)
theorem qs_conf:confT qsP qsS (1,1) 1=false∧confT qsP qsS (1,1) 2=false∧confT qsP qsS (1,1) 3=false∧confT qsP qsS (1,1) 5=false:=by decide+kernel
theorem two_of{ts:List Int}{x y:Int}(hxy:x≠y)(h:ts.Nodup)(hm:∀z,z∈ts↔z=x∨z=y):ts=[x,y]∨ts=[y,x]:=by match ts,h,hm with
  |[],_,hm=>exact absurd ((hm x).2 (.inl rfl)) (by simp)|[a],_,hm=>
    have h1:=(hm x).2 (.inl rfl);have h2:=(hm y).2 (.inr rfl);simp at h1 h2;exact absurd (h1.trans h2.symm) hxy|[a,b],h,hm=>
    have ha:=(hm a).1 (by simp);have hb:=(hm b).1 (by simp);have hab:a≠b:=by simp at h;exact h
    rcases ha with rfl|rfl<;>rcases hb with rfl|rfl;·exact absurd rfl hab
    ·exact .inl rfl
    ·exact .inr rfl
    ·exact absurd rfl hab|a::b::c::l,h,hm=>exfalso;have ha:=(hm a).1 (by simp);have hb:=(hm b).1 (by simp);have hc:=(hm c).1 (by simp);simp at h;obtain⟨⟨h1,h2,-⟩,⟨h3,-⟩,-⟩:=h;rcases ha with rfl|rfl<;>rcases hb with rfl|rfl<;>rcases hc with rfl|rfl<;>simp_all
theorem qs_place{mb pb pc:Nat}{ta:Option Addr}{tc:Nat}(w:World)(h:MeshR w mb pb pc ta tc qsP qsS):Calls Tryz.prog 45 #[.pointer (some ⟨mb,0,none⟩),.agg #[.int .i64 1,.int .i64 1]] w fun e w'=>e= .returned (.agg #[.int .i64 1,.int .i64 0,.int .i64 0,.int .i64 2])∧Below w.heap.size w w':=by have:=Look_any (1,1) w h qs_in (by unfold InP;omega) qs_look;rw[show lookM qsP qsS (1,1)=(1,0,0,2) from by decide+kernel] at this;exact this
theorem qs_dig{mb pb pc:Nat}{ta:Option Addr}{tc:Nat}(w:World)(h:MeshR w mb pb pc ta tc qsP qsS):Calls Tryz.prog 44 #[.pointer (some ⟨mb,0,none⟩),.agg #[.int .i64 1,.int .i64 1],.agg #[.int .i64 1,.int .i64 0,.int .i64 0,.int .i64 2]] w fun e w'=>∃(g c:Nat) (rv:Value) (ct:Bool),e= .returned (.agg #[.slice (some ⟨g,0,none⟩) 2 c,rv,.bool ct])∧RowN w' w.heap.size 161 5 rv 4 (sideCells qsR)∧RowN w' w.heap.size 3 1 (.slice (some ⟨g,0,none⟩) 2 c) 2 (intCells [0,4])∧Below w.heap.size w w':=by
  have hIS:InS qsS [((0:Nat):Int),((4:Nat):Int)]:=⟨by decide,fun z hz=>by
    simp at hz;rcases hz with rfl|rfl;·exact⟨0,rfl,by decide⟩
    ·exact⟨4,rfl,by decide⟩⟩;have hreach:∀x,Reach qsS (confT qsP qsS (1,1)) [((0:Nat):Int),((4:Nat):Int)] x→x∈[((0:Nat):Int),((4:Nat):Int)]:=by
    intro x hx;have hcl:Closed qsS (confT qsP qsS (1,1)) [((0:Nat):Int),((4:Nat):Int)]:=by
      intro t i T ht hT hi _ hcf;obtain⟨c1,c2,c3,c5⟩:=qs_conf;have ht':t=0∨t=4:=by simp at ht;omega
      rcases qs_get hT with⟨rfl,rfl⟩|⟨rfl,rfl⟩|⟨rfl,rfl⟩|⟨rfl,rfl⟩|⟨rfl,rfl⟩|⟨rfl,rfl⟩;all_goals first
        |omega
        | (obtain rfl|rfl|rfl:i=0∨i=1∨i=2:=by omega
           all_goals (simp only[TriM.n] at hcf⊢;first|decide|(rw[c1] at hcf;cases hcf)|(rw[c2] at hcf;cases hcf)|(rw[c3] at hcf;cases hcf)|(rw[c5] at hcf;cases hcf)))
    exact hcl.reach (fun t ht=>ht) hx
  refine(cvDig_any [((0:Nat):Int),((4:Nat):Int)] 1 0 0 2 1 1 w h qs_in (by unfold InP;omega) qs_nexts qs_cornered (by decide) qs_small hIS (by simp) (fun V hV=>?_)).mono ?_
  · have:=cvBegin_on 0 ⟨0,1,2,1,4,3,false,false,false⟩ 0 2 V (h.below hV) rfl 1 (by omega) 4 ⟨0,2,3,5,2,0,false,false,false⟩ rfl rfl (.inr ⟨by decide,by decide⟩);rw[show takeM qsP ⟨0,2,3,5,2,0,false,false,false⟩ ((4:Nat):Int) (takeM qsP ⟨0,1,2,1,4,3,false,false,false⟩ ((0:Nat):Int) [])=[((0:Nat):Int),((4:Nat):Int)] from by decide+kernel] at this;exact this
  · rintro e w' ⟨g,c,rv,ts,he,hI,hts,h1,h2,hb⟩;have e1:ts=[((0:Nat):Int),((4:Nat):Int)]∨ts=[((4:Nat):Int),((0:Nat):Int)]:=two_of (by decide) hI.once fun z=>⟨fun hz=>by simpa using hreach z ((hts z).1 hz),fun hz=>(hts z).2 (.base (by simpa using hz))⟩;have er:inRowM (rimP qsS ts ts.length)=qsR:=by rcases e1 with rfl|rfl<;>rfl
    have el:ts.length=2:=by rcases e1 with rfl|rfl<;>rfl
    have es:sortL ts=[0,4]:=by
      have hp:=sortL_perm ts;have hm:∀z,z∈ts↔z=0∨z=4:=fun z=>by
        rcases e1 with rfl|rfl;·simp
        ·simp[or_comm]
      rcases two_of (x:=0) (y:=4) (by decide) (hp.nodup_iff.2 hI.once) (fun z=>by rw[hp.mem_iff];exact hm z) with h|h;·exact h
      · have hu:=sortL_up ts;rw[h] at hu;simp at hu
    rw[er] at h2 he;rw[es,el] at h1;rw[el] at he;exact⟨g,c,rv,_,he,h2,h1,hb⟩
theorem int_sub(a b:Int):((a-b:Int):Rat)=(a:Rat)-(b:Rat):=Rat.intCast_sub a b
theorem cx_is{a0 a1 b0 b1 v0 v1:Int}(X:Int)(h:crs a0 a1 b0 b1 v0 v1≠0)(e:(X-a0)*(crs a0 a1 b0 b1 v0 v1+crs a0 a1 b0 b1 v0 v1)=cxN a0 a1 b0 b1 v0 v1):cx a0 a1 b0 b1 v0 v1=(X:Rat):=by have hd:((crs a0 a1 b0 b1 v0 v1+crs a0 a1 b0 b1 v0 v1:Int):Rat)≠0:=ic_ne (by omega);have h1:=cx_mul h;rw[←e,ic_mul,int_sub] at h1;have:=mul_cancel hd h1;grind
theorem cy_is{a0 a1 b0 b1 v0 v1:Int}(Y:Int)(h:crs a0 a1 b0 b1 v0 v1≠0)(e:(Y-a1)*(crs a0 a1 b0 b1 v0 v1+crs a0 a1 b0 b1 v0 v1)=cyN a0 a1 b0 b1 v0 v1):cy a0 a1 b0 b1 v0 v1=(Y:Rat):=by have hd:((crs a0 a1 b0 b1 v0 v1+crs a0 a1 b0 b1 v0 v1:Int):Rat)≠0:=ic_ne (by omega);have h1:=cy_mul h;rw[←e,ic_mul,int_sub] at h1;have:=mul_cancel hd h1;grind
theorem qs_corn:cornR qsP 1 1 ⟨0,1,3,2,false⟩=(((1:Int):Rat),((0:Int):Rat))∧cornR qsP 1 1 ⟨1,2,1,2,false⟩=(((2:Int):Rat),((1:Int):Rat))∧cornR qsP 1 1 ⟨2,3,5,1,false⟩=(((1:Int):Rat),((2:Int):Rat))∧cornR qsP 1 1 ⟨3,0,2,0,false⟩=(((0:Int):Rat),((1:Int):Rat)):=by
  refine⟨?_,?_,?_,?_⟩;·exact Prod.ext (cx_is (a0:=1) (a1:=1) (b0:=0) (b1:=0) (v0:=2) (v1:=0) 1 (by decide) (by decide)) (cy_is (a0:=1) (a1:=1) (b0:=0) (b1:=0) (v0:=2) (v1:=0) 0 (by decide) (by decide))
  ·exact Prod.ext (cx_is (a0:=1) (a1:=1) (b0:=2) (b1:=0) (v0:=2) (v1:=2) 2 (by decide) (by decide)) (cy_is (a0:=1) (a1:=1) (b0:=2) (b1:=0) (v0:=2) (v1:=2) 1 (by decide) (by decide))
  ·exact Prod.ext (cx_is (a0:=1) (a1:=1) (b0:=2) (b1:=2) (v0:=0) (v1:=2) 1 (by decide) (by decide)) (cy_is (a0:=1) (a1:=1) (b0:=2) (b1:=2) (v0:=0) (v1:=2) 2 (by decide) (by decide))
  ·exact Prod.ext (cx_is (a0:=1) (a1:=1) (b0:=0) (b1:=2) (v0:=0) (v1:=0) 0 (by decide) (by decide)) (cy_is (a0:=1) (a1:=1) (b0:=0) (b1:=2) (v0:=0) (v1:=0) 1 (by decide) (by decide))
theorem qs_sides:SidesOk qsP 1 1 qsR:=by
  intro s hs;simp only[qsR,List.mem_cons,List.not_mem_nil,or_false] at hs;rcases hs with rfl|rfl|rfl|rfl;·exact⟨0,1,rfl,rfl,by decide,by decide,by decide⟩
  ·exact⟨1,2,rfl,rfl,by decide,by decide,by decide⟩
  ·exact⟨2,3,rfl,rfl,by decide,by decide,by decide⟩
  ·exact⟨3,0,rfl,rfl,by decide,by decide,by decide⟩
def qsT:List Int:=[0,4]
def qsF:Nat→List Int:=fun i=>match i with|0=>[0,1]|1=>[0]|2=>[1,0]|_=>[1]
theorem qs_fans:FansOk qsS qsT qsR qsF:=by intro i s s' h h';match i,h with
  |0,h=>cases h;cases h';exact⟨3,2,2,0,_,_,rfl,rfl,rfl,rfl,rfl,rfl,by decide,by decide,by decide+kernel,by decide,fun f hf=>by
      have:f=0∨f=1:=by simpa[qsF] using hf
      rcases this with rfl|rfl;·exact⟨0,rfl,by decide⟩
      ·exact⟨1,rfl,by decide⟩⟩|1,h=>cases h;cases h';exact⟨1,2,3,2,_,_,rfl,rfl,rfl,rfl,rfl,rfl,by decide,by decide,by decide+kernel,by decide,fun f hf=>by
      have:f=0:=by simpa[qsF] using hf
      subst this;exact⟨0,rfl,by decide⟩⟩|2,h=>cases h;cases h';exact⟨5,1,1,2,_,_,rfl,rfl,rfl,rfl,rfl,rfl,by decide,by decide,by decide+kernel,by decide,fun f hf=>by
      have:f=1∨f=0:=by simpa[qsF] using hf
      rcases this with rfl|rfl;·exact⟨1,rfl,by decide⟩
      ·exact⟨0,rfl,by decide⟩⟩|3,h=>cases h;cases h';exact⟨2,0,5,1,_,_,rfl,rfl,rfl,rfl,rfl,rfl,by decide,by decide,by decide+kernel,by decide,fun f hf=>by
      have:f=1:=by simpa[qsF] using hf
      subst this;exact⟨1,rfl,by decide⟩⟩|_+4,h=>cases h
theorem qs_trisOk:TrisOk qsP qsS qsT:=by
  intro x hx;simp[qsT] at hx;rcases hx with rfl|rfl;·exact⟨0,_,0,1,2,rfl,rfl,rfl,rfl,rfl,by decide,by decide,by decide,by decide⟩
  ·exact⟨4,_,0,2,3,rfl,rfl,rfl,rfl,rfl,by decide,by decide,by decide,by decide⟩
theorem qs_cen:cenS qsP qsS 0=(((1:Int):Rat),((1:Int):Rat))∧cenS qsP qsS 4=(((1:Int):Rat),((1:Int):Rat)):=by
  refine⟨?_,?_⟩;·exact Prod.ext (cx_is (a0:=0) (a1:=0) (b0:=2) (b1:=0) (v0:=2) (v1:=2) 1 (by decide) (by decide)) (cy_is (a0:=0) (a1:=0) (b0:=2) (b1:=0) (v0:=2) (v1:=2) 1 (by decide) (by decide))
  ·exact Prod.ext (cx_is (a0:=0) (a1:=0) (b0:=2) (b1:=2) (v0:=0) (v1:=2) 1 (by decide) (by decide)) (cy_is (a0:=0) (a1:=0) (b0:=2) (b1:=2) (v0:=0) (v1:=2) 1 (by decide) (by decide))
theorem areaQ_four(ax ay bx by' cx cy dx dy:Rat):areaQ [(ax,ay),(bx,by'),(cx,cy),(dx,dy)]=(ax*by'-ay*bx)+(bx*cy-by'*cx)+(cx*dy-cy*dx)+(dx*ay-dy*ax):=by simp[areaQ,termQ,List.range,List.range.loop,Rat.zero_add]
theorem qs_areas:areasL qsP qsS 1 1 qsR qsT qsF=[(0,((1:Int):Rat)),(1,((1:Int):Rat)),(2,((1:Int):Rat)),(3,((1:Int):Rat))]:=by
  obtain⟨c0,c1,c2,c3⟩:=qs_corn;obtain⟨z0,z4⟩:=qs_cen;have e0:areaL qsP qsS 1 1 qsR qsT qsF 0=(0,((1:Int):Rat)):=by
    show((0:Int),areaQ [cornR qsP 1 1 ⟨3,0,2,0,false⟩,cornR qsP 1 1 ⟨0,1,3,2,false⟩,cenS qsP qsS 0,cenS qsP qsS 4])=_;rw[c3,c0,z0,z4,areaQ_four];simp only[←ic_mul,←int_sub,←Rat.intCast_add];rfl
  have e1:areaL qsP qsS 1 1 qsR qsT qsF 1=(1,((1:Int):Rat)):=by show((1:Int),areaQ [cornR qsP 1 1 ⟨0,1,3,2,false⟩,cornR qsP 1 1 ⟨1,2,1,2,false⟩,cenS qsP qsS 0])=_;rw[c0,c1,z0,areaQ_three];simp only[←ic_mul,←int_sub,←Rat.intCast_add];rfl
  have e2:areaL qsP qsS 1 1 qsR qsT qsF 2=(2,((1:Int):Rat)):=by
    show((2:Int),areaQ [cornR qsP 1 1 ⟨1,2,1,2,false⟩,cornR qsP 1 1 ⟨2,3,5,1,false⟩,cenS qsP qsS 4,cenS qsP qsS 0])=_;rw[c1,c2,z0,z4,areaQ_four];simp only[←ic_mul,←int_sub,←Rat.intCast_add];rfl
  have e3:areaL qsP qsS 1 1 qsR qsT qsF 3=(3,((1:Int):Rat)):=by show((3:Int),areaQ [cornR qsP 1 1 ⟨2,3,5,1,false⟩,cornR qsP 1 1 ⟨3,0,2,0,false⟩,cenS qsP qsS 4])=_;rw[c2,c3,z4,areaQ_three];simp only[←ic_mul,←int_sub,←Rat.intCast_add];rfl
  show[areaL qsP qsS 1 1 qsR qsT qsF 0,areaL qsP qsS 1 1 qsR qsT qsF 1,areaL qsP qsS 1 1 qsR qsT qsF 2,areaL qsP qsS 1 1 qsR qsT qsF 3]=_;rw[e0,e1,e2,e3]
theorem qs_cell:areaQ (qsR.map (cornR qsP 1 1))=((4:Int):Rat):=by obtain⟨c0,c1,c2,c3⟩:=qs_corn;show areaQ [cornR qsP 1 1 ⟨0,1,3,2,false⟩,cornR qsP 1 1 ⟨1,2,1,2,false⟩,cornR qsP 1 1 ⟨2,3,5,1,false⟩,cornR qsP 1 1 ⟨3,0,2,0,false⟩]=_;rw[c0,c1,c2,c3,areaQ_four];simp only[←ic_mul,←int_sub,←Rat.intCast_add];rfl
def qsA:List (Int×Rat):=[(0,((1:Int):Rat)),(1,((1:Int):Rat)),(2,((1:Int):Rat)),(3,((1:Int):Rat))]
theorem qs_tot:totQ (qsA.map (·.2))=((4:Int):Rat):=by show(0:Rat)+((1:Int):Rat)+((1:Int):Rat)+((1:Int):Rat)+((1:Int):Rat)=_;rw[show(0:Rat)=((0:Int):Rat) from rfl];simp only[←Rat.intCast_add];rfl
theorem qs_kept:(keptL (totQ (qsA.map (·.2))) qsA).length=4:=by
  rw[qs_tot];have h:((1:Int):Rat)/((4:Int):Rat)≠0:=by
    intro e;have:=Rat.div_mul_cancel (a:=((1:Int):Rat)) (b:=((4:Int):Rat)) (ic_ne (by decide));rw[e,Rat.zero_mul] at this;exact absurd this.symm (ic_ne (by decide))
  obtain⟨z,hz⟩:∃z,((1:Int):Rat)/((4:Int):Rat)=z:=⟨_,rfl⟩;rw[hz] at h;show(List.filter (fun x:Int×Rat=>decide (x.2≠0)) [((0:Int),((1:Int):Rat)/((4:Int):Rat)),(1,((1:Int):Rat)/((4:Int):Rat)),(2,((1:Int):Rat)/((4:Int):Rat)),(3,((1:Int):Rat)/((4:Int):Rat))]).length=4;rw[hz];simp[h]
end Go.Proofs.YtammmemfkpcpcaaGreat
