import Derived.Test.YtammmemfkpcpcaaGreatMath
import Derived.WalkKit
import Derived.Lib.Hide
import Derived.Laws.CopyOwn
import Derived.Laws.IdiomCopy
import Derived.Deep.Draws
import Derived.OwnWalk
namespace Go.MagM
open Go.RowKit
def Reads(w:World)(ao:Option Addr)(n:Nat)(f:Nat→Nat):Prop:=∀i,i<n→∃b o,ao=some ⟨b,o,none⟩∧w.cell? ⟨b,o+i,none⟩=some (.int .u64 ((f i:Nat):Int))∧f i<B
def Held(w:World)(g o n:Nat)(f:Nat→Nat):Prop:=∀i,i<n→w.cell? ⟨g,o+i,none⟩=some (.int .u64 ((f i:Nat):Int))∧w.frozen? ⟨g,o+i,none⟩=false∧f i<B
structure Turn(g o n:Nat)(w w':World):Prop where
  os:w'.os=w.os
  tape:w'.tape=w.tape
  output:w'.output=w.output
  size:w.heap.size≤w'.heap.size
  block:∀k,k<w.heap.size→k≠g→w'.heap[k]?=w.heap[k]?
  cell:∀j,(j<o∨o+n≤j)→w'.cell? ⟨g,j,none⟩=w.cell? ⟨g,j,none⟩
  frz:∀j,w'.frozen? ⟨g,j,none⟩=w.frozen? ⟨g,j,none⟩
theorem Turn.refl(g o n:Nat)(w:World):Turn g o n w w:=⟨rfl,rfl,rfl,Nat.le_refl _,fun _ _ _=>rfl,fun _ _=>rfl,fun _=>rfl⟩
theorem Turn.trans{g o n:Nat}{a b c:World}(h:Turn g o n a b)(k:Turn g o n b c):Turn g o n a c:=⟨k.os.trans h.os,k.tape.trans h.tape,k.output.trans h.output,Nat.le_trans h.size k.size,fun i hi hg=>(k.block i (Nat.lt_of_lt_of_le hi h.size) hg).trans (h.block i hi hg),fun j hj=>(k.cell j hj).trans (h.cell j hj),fun j=>(k.frz j).trans (h.frz j)⟩
theorem Turn.wider{g o n o' n':Nat}{w w':World}(h:Turn g o n w w')(h1:o'≤o)(h2:o+n≤o'+n'):Turn g o' n' w w':=⟨h.os,h.tape,h.output,h.size,h.block,fun j hj=>h.cell j (by omega),h.frz⟩
theorem Turn.drewN{g o n:Nat}{a w:World}(h:Turn g o n a w)(q:Nat):Turn g o n a (w.drewN q):=⟨h.os,h.tape,h.output,h.size,h.block,h.cell,h.frz⟩
theorem Turn.drew{g o n:Nat}{a w:World}(h:Turn g o n a w):Turn g o n a w.drew:=⟨h.os,h.tape,h.output,h.size,h.block,h.cell,h.frz⟩
theorem Turn.setCell{g o n j:Nat}{a w:World}(h:Turn g o n a w)(h1:o≤j)(h2:j<o+n)(v:Value):Turn g o n a (w.setCell ⟨g,j,none⟩ v):=h.trans ⟨rfl,rfl,rfl,by simp[World.setCell],fun k hk hg=>Below.heap_setCell _ _ _ _ (by simpa using hg),fun i hi=>World.cell?_setCell_other _ _ _ _ (by intro e;simp at e<;>omega),fun i=>World.frozen?_setCell _ _ _ _⟩
theorem Turn.below{g o n M:Nat}{w0 w w':World}(h:Turn g o n w w')(hb:Below M w0 w)(hg:M≤g)(hm:M≤w.heap.size):Below M w0 w':=hb.trans ⟨h.os,h.tape,h.output,h.size,fun k hk=>h.block k (by omega) (by omega)⟩
theorem Held.congr{w:World}{b o n:Nat}{f g:Nat→Nat}(h:Held w b o n f)(e:∀i,i<n→f i=g i):Held w b o n g:=by intro i hi;obtain⟨h1,h2,h3⟩:=h i hi;rw[e i hi] at h1 h3;exact⟨h1,h2,h3⟩
theorem Reads.lt{w:World}{ao:Option Addr}{n:Nat}{f:Nat→Nat}(h:Reads w ao n f):∀i,i<n→f i<B:=fun i hi=>by obtain⟨_,_,_,_,h3⟩:=h i hi;exact h3
theorem Held.lt{w:World}{b o n:Nat}{f:Nat→Nat}(h:Held w b o n f):∀i,i<n→f i<B:=fun i hi=>(h i hi).2.2
theorem Reads.less{w:World}{ao:Option Addr}{n m:Nat}{f:Nat→Nat}(h:Reads w ao n f)(hm:m≤n):Reads w ao m f:=fun i hi=>h i (by omega)
theorem Held.less{w:World}{b o n m:Nat}{f:Nat→Nat}(h:Held w b o n f)(hm:m≤n):Held w b o m f:=fun i hi=>h i (by omega)
theorem Held.part{w:World}{b o n k m:Nat}{f:Nat→Nat}(h:Held w b o n f)(hm:k+m≤n):Held w b (o+k) m (fun i=>f (k+i)):=fun i hi=>by have:=h (k+i) (by omega);rwa [←Nat.add_assoc] at this
theorem Held.join{w:World}{b o k m:Nat}{f:Nat→Nat}(h:Held w b o k f)(h':Held w b (o+k) m (fun i=>f (k+i))):Held w b o (k+m) f:=fun i hi=>by
  by_cases hk:i<k;·exact h i hk
  · have:=h' (i-k) (by omega);rw[show o+k+(i-k)=o+i from by omega] at this;simp only[show k+(i-k)=i from by omega] at this;exact this
theorem Held.reads{w:World}{b o n:Nat}{f:Nat→Nat}(h:Held w b o n f):Reads w (some ⟨b,o,none⟩) n f:=fun i hi=>⟨b,o,rfl,(h i hi).1,(h i hi).2.2⟩
theorem Reads.nil(w:World)(ao:Option Addr)(f:Nat→Nat):Reads w ao 0 f:=fun i hi=>by omega
theorem Held.lt_size{w:World}{b o n:Nat}{f:Nat→Nat}(h:Held w b o n f)(hn:0<n):b<w.heap.size:=World.block_lt_of_cell? w ⟨b,o+0,none⟩ (h 0 hn).1
def Apart(bo:Option Addr)(m g:Nat):Prop:=0<m→∀b' o',bo=some ⟨b',o',none⟩→b'≠g
theorem Reads.apart{w:World}{bo:Option Addr}{m g:Nat}{h:Nat→Nat}(hr:Reads w bo m h)(hg:w.heap.size≤g):Apart bo m g:=by intro hm b' o' e;obtain⟨b,o,e',hc,_⟩:=hr 0 hm;rw[e] at e';simp at e';have:=World.block_lt_of_cell? w _ hc;simp at this;omega
theorem Reads.turn{g o n m:Nat}{w w':World}{bo:Option Addr}{h:Nat→Nat}(hr:Reads w bo m h)(ht:Turn g o n w w')(hne:Apart bo m g):Reads w' bo m h:=by intro i hi;obtain⟨b',o',e,hc,hl⟩:=hr i hi;refine⟨b',o',e,?_,hl⟩;rw[World.cell?_of_block (a:=⟨b',o'+i,none⟩) (ht.block b' (World.block_lt_of_cell? w _ hc) (hne (by omega) b' o' e))];exact hc
theorem Reads.below{m:Nat}{w w':World}{bo:Option Addr}{h:Nat→Nat}(hr:Reads w bo m h)(hb:Below w.heap.size w w'):Reads w' bo m h:=by intro i hi;obtain⟨b',o',e,hc,hl⟩:=hr i hi;exact⟨b',o',e,by rw[hb.cell (p:=⟨b',o'+i,none⟩) (World.block_lt_of_cell? w _ hc)];exact hc,hl⟩
theorem Held.below{g o n:Nat}{w w':World}{f:Nat→Nat}(hr:Held w g o n f)(hb:Below w.heap.size w w'):Held w' g o n f:=by intro i hi;obtain⟨hc,hf,hl⟩:=hr i hi;have hlt:=World.block_lt_of_cell? w _ hc;exact⟨by rw[hb.cell (p:=⟨g,o+i,none⟩) hlt];exact hc,by rw[hb.frozen (p:=⟨g,o+i,none⟩) hlt];exact hf,hl⟩
theorem Held.turn{g o n o' n':Nat}{w w':World}{f:Nat→Nat}(hr:Held w g o' n' f)(ht:Turn g o n w w')(hd:o'+n'≤o∨o+n≤o'):Held w' g o' n' f:=by intro i hi;obtain⟨hc,hf,hl⟩:=hr i hi;exact⟨by rw[ht.cell (o'+i) (by omega)];exact hc,by rw[ht.frz];exact hf,hl⟩
theorem Held.turn_other{g o n b o' n':Nat}{w w':World}{f:Nat→Nat}(hr:Held w b o' n' f)(ht:Turn g o n w w')(hne:b≠g):Held w' b o' n' f:=by intro i hi;obtain⟨hc,hf,hl⟩:=hr i hi;have e:=ht.block b (World.block_lt_of_cell? w _ hc) hne;exact⟨by rw[World.cell?_of_block (a:=⟨b,o'+i,none⟩) e];exact hc,by rw[World.frozen?_of_block (a:=⟨b,o'+i,none⟩) e];exact hf,hl⟩
theorem Held.setCell{w:World}{g o n k x:Nat}{f:Nat→Nat}(h:Held w g o n f)(hx:x<B)(hk:k<n):Held (w.setCell ⟨g,o+k,none⟩ (.int .u64 ((x:Nat):Int))) g o n (upd f k x):=by
  intro i hi;obtain⟨hc,hf,hl⟩:=h i hi;rw[World.frozen?_setCell];by_cases e:i=k
  · subst e;rw[upd_same];exact⟨World.cell?_setCell_same _ _ _ hc,hf,hx⟩
  · rw[upd_other _ _ _ e];exact⟨by rw[World.cell?_setCell_other _ _ _ _ (by intro e';simp at e'<;>omega)];exact hc,hf,hl⟩
theorem Held.splice{w w':World}{g o n k m:Nat}{f h:Nat→Nat}(hf:Held w g o n f)(ht:Turn g (o+k) m w w')(hh:Held w' g (o+k) m h)(_hk:k+m≤n):Held w' g o n (spl f h k m):=by
  intro i hi;by_cases e:k≤i∧i<k+m
  · have:=hh (i-k) (by omega);rw[show o+k+(i-k)=o+i from by omega] at this;unfold spl;rw[if_pos e];exact this
  · obtain⟨hc,hf,hl⟩:=hf i hi;unfold spl;rw[if_neg e];exact⟨by rw[ht.cell (o+i) (by omega)];exact hc,by rw[ht.frz];exact hf,hl⟩
theorem Held.drewN{w:World}{g o n:Nat}{f:Nat→Nat}(h:Held w g o n f)(q:Nat):Held (w.drewN q) g o n f:=h
def Mag(w:World)(v:Value)(L N:Nat):Prop:=∃ao n c f,v= .slice ao n c∧n≤c∧n≤L∧Reads w ao n f∧V f n=N
def RMag(w:World)(v:Value)(L N:Nat):Prop:=∃ao n c f,v= .slice ao n c∧n≤c∧n≤L∧Reads w ao n f∧V f n=N∧Right f n
theorem RMag.mag{w:World}{v:Value}{L N:Nat}(h:RMag w v L N):Mag w v L N:=by obtain⟨ao,n,c,f,h1,h2,h3,h4,h5,_⟩:=h;exact⟨ao,n,c,f,h1,h2,h3,h4,h5⟩
theorem Mag.below{w w':World}{v:Value}{L N:Nat}(h:Mag w v L N)(hb:Below w.heap.size w w'):Mag w' v L N:=by obtain⟨ao,n,c,f,h1,h2,h3,h4,h5⟩:=h;exact⟨ao,n,c,f,h1,h2,h3,h4.below hb,h5⟩
theorem RMag.below{w w':World}{v:Value}{L N:Nat}(h:RMag w v L N)(hb:Below w.heap.size w w'):RMag w' v L N:=by obtain⟨ao,n,c,f,h1,h2,h3,h4,h5⟩:=h;exact⟨ao,n,c,f,h1,h2,h3,h4.below hb,h5⟩
theorem Mag.more{w:World}{v:Value}{L L' N:Nat}(h:Mag w v L N)(hL:L≤L'):Mag w v L' N:=by obtain⟨ao,n,c,f,h1,h2,h3,h4,h5⟩:=h;exact⟨ao,n,c,f,h1,h2,by omega,h4,h5⟩
theorem RMag.more{w:World}{v:Value}{L L' N:Nat}(h:RMag w v L N)(hL:L≤L'):RMag w v L' N:=by obtain⟨ao,n,c,f,h1,h2,h3,h4,h5⟩:=h;exact⟨ao,n,c,f,h1,h2,by omega,h4,h5⟩
theorem Mag.lt{w:World}{v:Value}{L N:Nat}(h:Mag w v L N):N<B^L:=by obtain⟨ao,n,c,f,h1,h2,h3,h4,h5⟩:=h;have:=V_lt h4.lt;have h6:B^n≤B^L:=Nat.pow_le_pow_right B_pos h3;omega
theorem RMag.short{w:World}{v:Value}{L N K:Nat}(h:RMag w v L N)(hN:N<B^K):RMag w v K N:=by obtain⟨ao,n,c,f,h1,h2,h3,h4,h5,h6⟩:=h;exact⟨ao,n,c,f,h1,h2,len_le_of_lt h6 (by rw[h5];exact hN),h4,h5,h6⟩
theorem RMag.of_trim{w:World}{ao:Option Addr}{n c:Nat}{f:Nat→Nat}(hr:Reads w ao n f)(hc:n≤c):RMag w (.slice ao (tlen f n) c) n (V f n):=⟨ao,tlen f n,c,f,rfl,by have:=tlen_le f n;omega,tlen_le f n,hr.less (tlen_le f n),tlen_V f n,tlen_right f n⟩
theorem RMag.nil(w:World):RMag w (.slice none 0 0) 0 0:=⟨none,0,0,fun _=>0,rfl,Nat.le_refl _,Nat.le_refl _,Reads.nil _ _ _,rfl,fun k h=>by omega⟩
theorem wpList_make_words{P:Program}{w:World}{ops:Array Oper}{rest:List Oper}{o:Oper}{a:Act}{Q:Exit→Act→World→Prop}(hgd:o.guard=none)(l c:Operand)(t:TypeId)(hop:o.op=Op.makeSlice t l c)(e:TypeId)(hu:P.underlying t=some (.slice e))(hi:(P.info? e).map (fun i=>(i.zero,i.size,i.bytes))=some (some (.int .u64 0),1,8))(kl kc:IntKind)(L C:Int)(n:Nat)(hl:a.eval l= .int kl L)(hc:a.eval c= .int kc C)(hL:L=(n:Int))(hC:C=(n:Int))(hn:n≤9000000000)(hK:∀w',Held w' w.heap.size 0 n (fun _=>0)→Below w.heap.size w w'→w.heap.size<w'.heap.size→wpList P ops Q rest (a.put o.dst (.slice (some ⟨w.heap.size,0,none⟩) n n)) w'):wpList P ops Q (o::rest) a w:=by
  obtain⟨i0,h2,hz0,hz1,hz2⟩:=info_parts hi;refine wpList_make_full w hgd l c t hop w.heap.size e i0 (.int .u64 0) 1 hu h2 hz0 hz1 kl kc L C n hl hc hL hC (by rw[hz2];omega) (by unfold maxLen;omega) (Nat.le_refl _) ?_;intro w' hown hg;have hcells:=fun i (h:i<n)=>hown.cells (g:=w.heap.size) rfl i (.int .u64 0) (by show(madeCells #[.int .u64 0] (n*1)).toList[i]?=_;rw[toList_madeCells_one];simp[h]);have hfz:∀j,w'.frozen? ⟨w.heap.size,j,none⟩=false∧w.heap.size<w'.heap.size:=by
    intro j;rcases hown.2 with⟨h,_⟩|⟨g,cap,cur,hv,_,hh,_⟩;·cases h
    · simp at hv;obtain⟨rfl,_⟩:=hv;exact⟨by simp[World.frozen?,hh],(Array.getElem?_eq_some_iff.1 hh).1⟩
  have hadd:∀j,(⟨w.heap.size,0,none⟩:Addr).add j=⟨w.heap.size,0+j,none⟩:=fun j=>by unfold Addr.add;split<;>simp_all
  refine hK w' ?_ ⟨hg.os,hg.tape,hg.output,hg.size,fun k hk=>hg.block k hk (by simp)⟩ (hfz 0).2;intro i hi;have:=hcells i hi;rw[hadd] at this;exact⟨this,(hfz _).1,B_pos⟩
theorem wpList_copy_words{P:Program}{w:World}{ops:Array Oper}{rest:List Oper}{o:Oper}{a:Act}{Q:Exit→Act→World→Prop}(hgd:o.guard=none)(d s:Operand)(dT sT:TypeId)(ho:o.op= .call {callee:= .builtin .copy,args:=#[d,s],argTypes:=#[dT,sT]})(elem:TypeId)(hu:P.underlying dT=some (.slice elem))(hsz:(P.info? elem).map (·.size)=some 1)(g off dLen dCap:Nat)(sp:Option Addr)(sLen sCap:Nat)(hd:a.eval d= .slice (some ⟨g,off,none⟩) dLen dCap)(hs:a.eval s= .slice sp sLen sCap)(f h:Nat→Nat)(hf:Held w g off dLen f)(hr:Reads w sp sLen h)(hK:∀w',Held w' g off dLen (fun i=>if i<sLen then h i else f i)→Turn g off dLen w w'→wpList P ops Q rest (a.put o.dst (goInt (Nat.min sLen dLen))) w'):wpList P ops Q (o::rest) a w:=by
  by_cases hn:Nat.min sLen dLen=0
  · have h0:wpList P ops Q rest (a.put o.dst (goInt 0)) w:=by
      have:=hK w (by
        intro i hi;have hs0:sLen=0:=by simp only[Nat.min_def] at hn;split at hn<;>omega
        simp only[hs0,Nat.not_lt_zero,if_false];exact hf i hi) (Turn.refl _ _ _ _);rwa [hn] at this
    exact wpList_copy_nothing hgd d s dT sT ho elem hu hsz _ sp dLen dCap sLen sCap hd hs hn h0
  · have hpos:0<sLen:=by simp only[Nat.min_def] at hn;split at hn<;>omega
    obtain⟨sb,so,rfl,_,_⟩:=hr 0 hpos;refine wpList_plain hgd fun K hK'=>?_;let cs:List Value:=(List.range (Nat.min sLen dLen)).map fun i=> .int .u64 ((h i:Nat):Int);have hlen:cs.length=Nat.min sLen dLen:=by simp[cs]
    have hmin1:Nat.min sLen dLen≤sLen:=Nat.min_le_left _ _;have hmin2:Nat.min sLen dLen≤dLen:=Nat.min_le_right _ _;have hadd:∀j,(⟨sb,so,none⟩:Addr).add j=⟨sb,so+j,none⟩:=fun j=>by unfold Addr.add;split<;>simp_all
    have hget:∀j v,cs[j]?=some v→j<Nat.min sLen dLen∧v= .int .u64 ((h j:Nat):Int):=by
      intro j v hv;have hj:j<cs.length:=(List.getElem?_eq_some_iff.1 hv).1;rw[hlen] at hj;refine⟨hj,?_⟩;simp[cs,List.getElem?_map,List.getElem?_range hj] at hv;exact hv.symm
    have hrun:=run_copy_cells (P:=P) w dT sT o.type elem g off dLen dCap ⟨sb,so,none⟩ sLen sCap cs hu hsz hlen (fun j v hv=>by
        obtain⟨hj,rfl⟩:=hget j v hv;obtain⟨b',o',e,hc,_⟩:=hr j (by omega);simp at e;obtain⟨rfl,rfl⟩:=e;rw[hadd];exact hc) (fun j hj=>by rw[(hf j (by omega)).1];rfl) (fun j hj=>(hf j (by omega)).2.1) (fun v hv=>by obtain⟨j,hj⟩:=List.getElem?_of_mem hv;obtain⟨_,rfl⟩:=hget j v hj;rfl);unfold Oper.wp;have hex:(execOp a.eval o).run P w= .ok (.value (goInt cs.length)) (w.setCells g off cs):=by simp[execOp,ho,resolve,invoke,builtin,hd,hs,hrun,Result.andThen]
    rw[hex];refine hK' _ _ ?_;rw[hlen];refine hK _ ?_ ?_
    · intro i hi;have hfz:(w.setCells g off cs).frozen? ⟨g,off+i,none⟩=false:=by rw[World.frozen?_setCells];exact(hf i hi).2.1
      by_cases hic:i<Nat.min sLen dLen
      · have hin:=World.cell?_setCells_in g cs off w (fun j hj=>by rw[(hf j (by omega)).1];rfl) i (by omega);have hcs:cs[i]'(by omega)= .int .u64 ((h i:Nat):Int):=(hget i _ (List.getElem?_eq_getElem (by omega))).2;rw[hcs] at hin;have hsl:i<sLen:=by omega
        simp only[hsl,if_true];obtain⟨_,_,_,_,hl⟩:=hr i (by omega);exact⟨hin,hfz,hl⟩
      · have hge:sLen≤i:=by simp only[Nat.min_def] at hic;split at hic<;>omega
        have hsl:¬i<sLen:=by omega
        simp only[hsl,if_false];refine⟨?_,hfz,(hf i hi).2.2⟩;rw[World.cell?_setCells_out g cs off w _ (fun _ _=>by simp;omega)];exact(hf i hi).1
    · have hbl:∀(vs:List Value)(o:Nat)(w:World)(k:Nat),k≠g→(w.setCells g o vs).heap[k]?=w.heap[k]?:=by
        intro vs;induction vs with
        |nil=>intros;rfl|cons v r ih=>intro o w k hk;rw[World.setCells,ih _ _ _ hk];exact Below.heap_setCell _ _ _ _ (by simpa using hk)
      have hall:∀(vs:List Value)(o:Nat)(w:World),(w.setCells g o vs).os=w.os∧(w.setCells g o vs).tape=w.tape∧(w.setCells g o vs).output=w.output∧(w.setCells g o vs).heap.size=w.heap.size:=by
        intro vs;induction vs with
        |nil=>intros;exact⟨rfl,rfl,rfl,rfl⟩|cons v r ih=>intro o w;obtain⟨a1,a2,a3,a4⟩:=ih (o+1) (w.setCell ⟨g,o,none⟩ v);exact⟨a1,a2,a3,by rw[World.setCells,a4];simp[World.setCell]⟩
      obtain⟨a1,a2,a3,a4⟩:=hall cs off w;exact⟨a1,a2,a3,by omega,fun k _ hk=>hbl cs off w k hk,fun j hj=>World.cell?_setCells_out g cs off w _ (fun _ _=>by simp;omega),fun j=>World.frozen?_setCells g cs off w _⟩
end Go.MagM
