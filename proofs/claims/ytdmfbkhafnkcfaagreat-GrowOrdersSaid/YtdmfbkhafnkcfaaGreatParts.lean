import Derived.Shelf.SlGeneric
import Derived.Shelf.SortM.Plain
import Derived.Shelf.SortM.SortNone
import Derived.Ground.SlgmProg
import Derived.Test.YtdmfbkhafnkcfaaGreatProg
import Derived.Test.YtdmfbkhafnkcfaaGreatPartr
import Derived.Test.YtdmfbkhafnkcfaaGreatParth
import Derived.Test.YtdmfbkhafnkcfaaGreatParto
import Derived.Test.YtdmfbkhafnkcfaaGreatPartp
import Derived.BigQuiet
import Derived.Deep.QuietTactic
import Derived.Test.YtdmfbkhafnkcfaaGreatPartj
import Derived.Test.YtdmfbkhafnkcfaaGreatPartk
import Derived.Test.YtdmfbkhafnkcfaaGreatPartl
set_option linter.unusedSimpArgs false
set_option linter.unusedVariables false
namespace Go.Proofs
open Go.Shelf
def Tryz.mSort_ren:Go.Shelf.Ren:=⟨fun|5=>134|8=>197|7=>206|19=>246|20=>225|10=>249|11=>250|12=>251|13=>252|14=>253|15=>254|16=>255|17=>256|18=>257|30=>291|31=>287|32=>288|33=>292|34=>293|35=>198|40=>309|n=>n,fun|23=>44|25=>3|3=>3|32=>43|22=>44|0=>0|44=>48|46=>176|4=>4|36=>293|35=>292|41=>270|5=>5|9=>9|53=>329|57=>333|63=>350|64=>223|n=>n,fun|n=>n⟩
theorem Tryz.mSort:Go.Proofs.SlLaysM.n5 Tryz.prog Tryz.mSort_ren:={
  mixed:=by kernel_rfl
  f5:=⟨Tryz.f134.name,by decide,Tryz.func134.trans (congrArg some (by kernel_rfl))⟩
  f7:=⟨Tryz.f206.name,by decide,Tryz.func206.trans (congrArg some (by kernel_rfl))⟩
  f8:=Tryz.func197.trans (congrArg some (by kernel_rfl))
  f10:=⟨Tryz.f249.name,by decide,Tryz.func249.trans (congrArg some (by kernel_rfl))⟩
  f11:=⟨Tryz.f250.name,by decide,Tryz.func250.trans (congrArg some (by kernel_rfl))⟩
  f12:=⟨Tryz.f251.name,by decide,Tryz.func251.trans (congrArg some (by kernel_rfl))⟩
  f13:=⟨Tryz.f252.name,by decide,Tryz.func252.trans (congrArg some (by kernel_rfl))⟩
  f14:=⟨Tryz.f253.name,by decide,Tryz.func253.trans (congrArg some (by kernel_rfl))⟩
  f15:=⟨Tryz.f254.name,by decide,Tryz.func254.trans (congrArg some (by kernel_rfl))⟩
  f16:=⟨Tryz.f255.name,by decide,Tryz.func255.trans (congrArg some (by kernel_rfl))⟩
  f17:=⟨Tryz.f256.name,by decide,Tryz.func256.trans (congrArg some (by kernel_rfl))⟩
  f18:=⟨Tryz.f257.name,by decide,Tryz.func257.trans (congrArg some (by kernel_rfl))⟩
  f19:=Tryz.func246.trans (congrArg some (by kernel_rfl))
  f20:=Tryz.func225.trans (congrArg some (by kernel_rfl))
  f30:=⟨Tryz.f291.name,by decide,Tryz.func291.trans (congrArg some (by kernel_rfl))⟩
  f31:=Tryz.func287.trans (congrArg some (by kernel_rfl))
  f32:=Tryz.func288.trans (congrArg some (by kernel_rfl))
  f33:=⟨Tryz.f292.name,by decide,Tryz.func292.trans (congrArg some (by kernel_rfl))⟩
  f34:=⟨Tryz.f293.name,by decide,Tryz.func293.trans (congrArg some (by kernel_rfl))⟩
  f35:=⟨Tryz.f198.name,by decide,Tryz.func198.trans (congrArg some (by kernel_rfl))⟩
  f40:=⟨Tryz.f309.name,by decide,Tryz.func309.trans (congrArg some (by kernel_rfl))⟩
  t0:=Tryz.underlying0
  a0:=Tryz.isAgg0
  z0:=Tryz.sizeOf0
  v0:=Tryz.zeroValue0
  t3:=Tryz.underlying3
  a3:=Tryz.isAgg3
  z3:=Tryz.sizeOf3
  v3:=Tryz.zeroValue3
  t4:=Tryz.underlying4
  a4:=Tryz.isAgg4
  z4:=Tryz.sizeOf4
  v4:=Tryz.zeroValue4
  t5:=Tryz.underlying5
  a5:=Tryz.isAgg5
  z5:=Tryz.sizeOf5
  v5:=Tryz.zeroValue5
  t9:=Tryz.underlying9
  a9:=Tryz.isAgg9
  z9:=Tryz.sizeOf9
  v9:=Tryz.zeroValue9
  t22:=Tryz.underlying44
  a22:=Tryz.isAgg44
  z22:=Tryz.sizeOf44
  v22:=Tryz.zeroValue44
  t23:=Tryz.underlying44
  a23:=Tryz.isAgg44
  z23:=Tryz.sizeOf44
  v23:=Tryz.zeroValue44
  t25:=Tryz.underlying3
  a25:=Tryz.isAgg3
  z25:=Tryz.sizeOf3
  v25:=Tryz.zeroValue3
  t32:=Tryz.underlying43
  a32:=Tryz.isAgg43
  z32:=Tryz.sizeOf43
  v32:=Tryz.zeroValue43
  t35:=Tryz.underlying292
  a35:=Tryz.isAgg292
  z35:=Tryz.sizeOf292
  v35:=Tryz.zeroValue292
  t36:=Tryz.underlying293
  a36:=Tryz.isAgg293
  z36:=Tryz.sizeOf293
  v36:=Tryz.zeroValue293
  t41:=Tryz.underlying270
  a41:=Tryz.isAgg270
  z41:=Tryz.sizeOf270
  v41:=Tryz.zeroValue270
  t44:=Tryz.underlying48
  a44:=Tryz.isAgg48
  z44:=Tryz.sizeOf48
  v44:=Tryz.zeroValue48
  t46:=Tryz.underlying176
  a46:=Tryz.isAgg176
  z46:=Tryz.sizeOf176
  v46:=Tryz.zeroValue176
  t53:=Tryz.underlying329
  a53:=Tryz.isAgg329
  z53:=Tryz.sizeOf329
  v53:=Tryz.zeroValue329
  t57:=Tryz.underlying333
  a57:=Tryz.isAgg333
  z57:=Tryz.sizeOf333
  v57:=Tryz.zeroValue333
  t63:=Tryz.underlying350
  a63:=Tryz.isAgg350
  z63:=Tryz.sizeOf350
  v63:=Tryz.zeroValue350
  t64:=Tryz.underlying223
  a64:=Tryz.isAgg223
  z64:=Tryz.sizeOf223
  v64:=Tryz.zeroValue223}
end Go.Proofs
namespace Go.MagM
open Go.RowKit
def sortL(l:List Int):List Int:=l.mergeSort fun x y=>decide (x≤y)
theorem sortL_perm(l:List Int):(sortL l).Perm l:=List.mergeSort_perm l _
theorem sortL_len(l:List Int):(sortL l).length=l.length:=(sortL_perm l).length_eq
theorem put_cells(cur:Array Value)(L:List Int)(hl:L.length≤cur.size):((Sort.putCells (Value.int .i64) 0 L.toArray cur).toList.take L.length)=intCells L:=by
  refine List.ext_getElem? fun j=>?_;rw[List.getElem?_take];unfold intCells Sort.putCells;rw[List.getElem?_map];split
  · rename_i hj;rw[List.getElem?_eq_getElem hj,Array.getElem?_toList,Array.getElem?_mapIdx,Array.getElem?_eq_getElem (by omega)];simp[hj]
  · rename_i hj;rw[List.getElem?_eq_none (by omega)];rfl
theorem put_size(cur:Array Value)(L:List Int):(Sort.putCells (Value.int .i64) 0 L.toArray cur).size=cur.size:=by unfold Sort.putCells;simp
theorem put_noWord(cur:Array Value)(L:List Int)(h:∀u∈cur.toList,NoWord u):∀u∈(Sort.putCells (Value.int .i64) 0 L.toArray cur).toList,NoWord u:=by
  intro u hu;obtain⟨j,hj⟩:=List.mem_iff_getElem?.1 hu;rw[Array.getElem?_toList] at hj;unfold Sort.putCells at hj;rw[Array.getElem?_mapIdx] at hj;cases hc:cur[j]? with
  |none=>rw[hc] at hj;cases hj|some x=>
    rw[hc] at hj;simp only[Option.map_some,Option.some.injEq] at hj;split at hj;·subst hj;exact NoWord.int _
    · subst hj;exact h x (List.mem_of_getElem? (i:=j) (by rw[Array.getElem?_toList];exact hc))
end Go.MagM
namespace Go.Proofs.YtdmfbkhafnkcfaaGreat
open Go.RowKit Go.MagM Go.Maps
theorem cvSort_any{lo g c:Nat}{ts:List Int}(w:World)(h:RowN w lo 3 1 (.slice (some ⟨g,0,none⟩) ts.length c) ts.length (intCells ts))(hl:ts.length≤1000000):Calls Tryz.prog 134 #[.slice (some ⟨g,0,none⟩) ts.length c] w fun e w'=>e= .returned (.tuple #[])∧RowN w' lo 3 1 (.slice (some ⟨g,0,none⟩) ts.length c) (sortL ts).length (intCells (sortL ts))∧(∀k,k<w.heap.size→k≠g→w'.heap[k]?=w.heap[k]?)∧Below lo w w'∧w.heap.size≤w'.heap.size:=by
  have hown:=owns_box h.own;have hH:Sort.Holds (Value.int .i64) w g 0 ts.toArray:=by
    intro j hj;have hj':j<ts.length:=by simpa using hj
    have hc:(intCells ts)[j]?=some (.int .i64 ts[j]):=by unfold intCells;rw[List.getElem?_map,List.getElem?_eq_getElem hj'];rfl
    rw[Nat.zero_add,getElem!_pos ts.toArray j hj];exact⟨hown.c _ _ hc,hown.f _ _ hc⟩
  obtain⟨g',cap,cur,e1,hlo,hh,hnc,hcm,hcs,htk,hnw⟩:∃g' cap cur,Value.slice (some ⟨g,0,none⟩) ts.length c= .slice (some ⟨g',0,none⟩) ts.length cap∧lo≤g'∧w.heap[g']?=some (.cells cur 3 (0,0))∧ts.length≤cap∧cap≤maxLen∧cur.size=cap*1∧cur.toList.take (ts.length*1)=intCells ts∧∀u∈cur.toList,NoWord u:=by
    rcases h.2 with⟨h1,-⟩|h1;·cases h1
    ·exact h1
  simp only[Value.slice.injEq,Option.some.injEq,Addr.mk.injEq,and_true,true_and] at e1;obtain⟨rfl,rfl⟩:=e1;have hlt:g<w.heap.size:=(Array.getElem?_eq_some_iff.1 hh).1;have hcon:=AnyM.slices_Sort_int Tryz.mSort g 0 c ts w hH hlt (by omega);change Calls Tryz.prog 134 _ _ _ at hcon;refine hcon.mono ?_;rintro e w' ⟨rfl,n,os,rfl⟩;obtain⟨L,hL⟩:∃L,ts.mergeSort (fun x y=>decide (x≤y))=L:=⟨_,rfl⟩;have hLe:sortL ts=L:=hL;have hLl:L.length=ts.length:=by rw[←hLe];exact sortL_len ts
  rw[hL,hLe];have hsz:(Sort.putRow (Value.int .i64) (Sort.ahead w n) g 0 L.toArray).heap.size=w.heap.size:=by unfold Sort.putRow Sort.mapBlock Sort.ahead;simp
  have hk:∀k,k<w.heap.size→k≠g→(Sort.grow (Sort.putRow (Value.int .i64) (Sort.ahead w n) g 0 L.toArray) os).heap[k]?=w.heap[k]?:=by
    intro k hk hne;show((Sort.putRow (Value.int .i64) (Sort.ahead w n) g 0 L.toArray).heap++os)[k]?=_;rw[Array.getElem?_append_left (by omega)];unfold Sort.putRow Sort.mapBlock Sort.ahead;simp only[Array.getElem?_modify];rw[if_neg (fun e=>hne e.symm)]
  have hg:(Sort.grow (Sort.putRow (Value.int .i64) (Sort.ahead w n) g 0 L.toArray) os).heap[g]?=some (.cells (Sort.putCells (Value.int .i64) 0 L.toArray cur) 3 (0,0)):=by show((Sort.putRow (Value.int .i64) (Sort.ahead w n) g 0 L.toArray).heap++os)[g]?=_;rw[Array.getElem?_append_left (by omega)];unfold Sort.putRow Sort.mapBlock Sort.ahead;simp only[Array.getElem?_modify];rw[if_pos trivial,hh];rfl
  refine⟨rfl,⟨by rw[intCells_len,Nat.mul_one],.inr ⟨g,c,_,by rw[hLl],hlo,hg,by omega,hcm,by rw[put_size];exact hcs,?_,put_noWord cur L hnw⟩⟩,hk,⟨rfl,rfl,rfl,?_,fun k hk2=>hk k (by omega) (by omega)⟩,?_⟩;·rw[Nat.mul_one];exact put_cells cur L (by omega)
  · show w.heap.size≤((Sort.putRow (Value.int .i64) (Sort.ahead w n) g 0 L.toArray).heap++os).size;rw[Array.size_append];omega
  · show w.heap.size≤((Sort.putRow (Value.int .i64) (Sort.ahead w n) g 0 L.toArray).heap++os).size;rw[Array.size_append];omega
def valS(s:SideM):Value:= .agg #[.int .i64 s.a,.int .i64 s.b,.int .i64 s.u,.int .i64 s.i,.bool s.f]
def cutQ2(P:List (Int×Int))(S:List TriM)(p:Int×Int)(s:SideM):Bool:=s.f&&confT P S p s.u
set_option maxRecDepth 100000 in set_option maxHeartbeats 8000000 in theorem cvDig1_any{mb pb pc xm xp:Nat}{ta:Option Addr}{tc:Nat}{P:List (Int×Int)}{S:List TriM}(s:SideM)(p0 p1:Int)(w:World)(h:MeshR w mb pb pc ta tc P S)(hP:InPs P)(hp:InP p0∧InP p1)(hm:w.cell? ⟨xm,0,none⟩=some (.pointer (some ⟨mb,0,none⟩)))(hx:Box w xp [.int .i64 p0,.int .i64 p1])(hs:∃u:Nat,s.u=(u:Int)∧u<S.length):Calls Tryz.prog 133 #[valS s,.pointer (some ⟨xm,0,none⟩),.pointer (some ⟨xp,0,none⟩)] w fun e w'=>e= .returned (.bool (cutQ2 P S (p0,p1) s))∧Below w.heap.size w w':=by
  obtain⟨sa,sb,su,si,sf⟩:=s;obtain⟨u,hu,hul⟩:=hs;simp only[] at hu;subst hu;obtain⟨U,hU⟩:∃U,S[u]?=some U:=⟨_,List.getElem?_eq_getElem hul⟩;have hcf:confT P S (p0,p1) (u:Int)=conflictM P U (p0,p1):=by unfold confT;rw[Int.toNat_natCast,hU]
  unfold valS cutQ2;simp only[];rw[hcf];obtain⟨w1,hw1,ps,hb1,hs1⟩:=new_box w _ rfl [.int .i64 sa,.int .i64 sb,.int .i64 (u:Int),.int .i64 si,.bool sf] 118;obtain⟨q,hq⟩:∃q,conflictM P U (p0,p1)=q:=⟨_,rfl⟩;have HC:=Lib.hid (cvConflict_any u U p0 p1 w1 (h.below hb1) hP hp hU);rw[hq] at HC;rw[hq];have z2:=ps.c 2 _ rfl;have z4:=ps.c 4 _ rfl;have m1:=(hb1.cell (World.block_lt_of_cell? _ _ hm)).trans hm;have x1:=hx.below hb1;have x10:=x1.c 0 _ rfl;have x11:=x1.c 1 _ rfl;have HB1:=Lib.hid hb1;clear h hP hp hm hx hul hU hcf hq ps hb1 hs1 x1;cases sf
  · go_enter Tryz.func133,Tryz.ntmps133;go_wp2;go_ret;exact⟨rfl,HB1.out⟩
  · go_enter Tryz.func133,Tryz.ntmps133;go_wp2_with fail;refine HC.out.mono ?_;rintro e w2 ⟨rfl,hb2⟩;have HB2:=Lib.hid (HB1.out.trans (hb2.mono HB1.out.size));clear hb2;go_wp2;go_ret;exact⟨rfl,HB2.out⟩
set_option maxRecDepth 100000 in set_option maxHeartbeats 8000000 in theorem cvIndexF_any{base xm xp:Nat}(l:List SideM)(v:Value)(q:SideM→Bool)(w:World)(hrow:RowN w base 118 5 v l.length (sideCells l))(hl:l.length≤1000000)(hf:∀W:World,Below w.heap.size w W→∀s∈l,Calls Tryz.prog 133 #[valS s,.pointer (some ⟨xm,0,none⟩),.pointer (some ⟨xp,0,none⟩)] W fun e w'=>e= .returned (.bool (q s))∧Below W.heap.size W w'):Calls Tryz.prog 205 #[v,.func (.func 133) #[] #[.pointer (some ⟨xm,0,none⟩),.pointer (some ⟨xp,0,none⟩)]] w fun e w'=>∃r:Int,e= .returned (.int .i64 r)∧decide (0≤r)=l.any q∧Below w.heap.size w w':=by
  obtain⟨len,hlen⟩:∃len,l.length=len:=⟨_,rfl⟩;rw[hlen] at hrow hl;obtain⟨ao,c,rfl⟩:∃ao c,v= .slice ao len c:=by
    rcases hrow.2 with⟨h1,h2⟩|⟨g,cap,cur,h1,-⟩;·exact⟨_,_,by rw[h1,h2]⟩
    ·exact⟨_,_,h1⟩
  have HROW:=Lib.hid hrow;have HLEN:=Lib.hid hlen;have HF:=Lib.hid hf;clear hrow hlen hf;go_enter Tryz.func205,Tryz.ntmps205;go_wp2;go_loopw [8] (fun iv wr=>∃n:Nat,n≤len∧iv= .int .i64 (n:Int)∧(∀s∈l.take n,q s=false)∧Below w.heap.size w wr) (fun iv _=>len-(intOf iv).toNat);case atStart=>exact⟨0,Nat.zero_le _,rfl,by simp,Below.refl _ _⟩
  case round=>
    obtain⟨n,hn,rfl,hno,hb⟩:=hrel;by_cases hlt:n<len
    · have e1:decide ((n:Int)<(len:Int))=true:=decide_eq_true (by omega);have e2:decide (n<len)=true:=decide_eq_true hlt;obtain⟨g,rfl⟩:∃g,ao=some ⟨g,0,none⟩:=by
        rcases HROW.out.2 with⟨h1,h2⟩|⟨g,cap,cur,h1,-⟩;·omega
        ·exact⟨g,by injection h1⟩
      obtain⟨s,hs⟩:∃s,l[n]?=some s:=⟨_,List.getElem?_eq_getElem (by have:=HLEN.out;omega)⟩;have hsl:=List.mem_of_getElem? hs;have hr:=HROW.out.below hb;have c0:wr.cell? ⟨g,n*5,none⟩=some (.int .i64 s.a):=hr.cells rfl _ _ (by rw[show n*5=n*5+0 by omega,sideCells_get l n 0 s hs (by omega)];rfl);have c1:wr.cell? ⟨g,n*5+1,none⟩=some (.int .i64 s.b):=hr.cells rfl _ _ (by rw[sideCells_get l n 1 s hs (by omega)];rfl);have c2:wr.cell? ⟨g,n*5+2,none⟩=some (.int .i64 s.u):=hr.cells rfl _ _ (by rw[sideCells_get l n 2 s hs (by omega)];rfl);have c3:wr.cell? ⟨g,n*5+3,none⟩=some (.int .i64 s.i):=hr.cells rfl _ _ (by rw[sideCells_get l n 3 s hs (by omega)];rfl);have c4:wr.cell? ⟨g,n*5+4,none⟩=some (.bool s.f):=hr.cells rfl _ _ (by rw[sideCells_get l n 4 s hs (by omega)];rfl);have HC:=Lib.hid (HF.out wr hb s hsl);have i1:(0:Int)≤(n:Int):=by omega
      have i2:(n:Int)<(len:Int):=by omega
      obtain⟨qs,hqs⟩:∃z,q s=z:=⟨_,rfl⟩;rw[hqs] at HC;obtain⟨sa,sb,su,si,sf⟩:=s;unfold valS at HC;simp only[] at c0 c1 c2 c3 c4 HC;have HNO:=Lib.hid hno;have HB:=Lib.hid hb;have HS:=Lib.hid hs;have HQ:=Lib.hid hqs;have HSL:=Lib.hid hsl;clear hno hb hr hs hqs hsl;go_wp2_with fail;refine HC.out.mono ?_;rintro e w2 ⟨rfl,hb2⟩;have HB2:=Lib.hid (HB.out.trans (hb2.mono HB.out.size));clear hb2 c0 c1 c2 c3 c4;cases qs
      · go_wp2;refine⟨⟨n+1,by omega,by go_num,fun s' hs'=>?_,HB2.out⟩,by simp[intOf];omega⟩;rw[List.take_add_one,HS.out] at hs';rcases List.mem_append.1 hs' with h1|h1;·exact HNO.out s' h1
        ·simp at h1;subst h1;exact HQ.out
      · go_wp2;go_ret;refine⟨_,rfl,?_,HB2.out⟩;rw[List.any_eq_true.2 ⟨_,HSL.out,HQ.out⟩];exact decide_eq_true (by omega)
    · obtain rfl:n=len:=by omega
      have e1:decide ((n:Int)<(n:Int))=false:=decide_eq_false (by omega);have HNO:=Lib.hid hno;have HB:=Lib.hid hb;clear hno hb;go_wp2;go_ret;refine⟨_,rfl,?_,HB.out⟩;have h1:=HNO.out;rw[←HLEN.out,List.take_length] at h1;rw[List.any_eq_false.2 (fun s hs=>by rw[h1 s hs];simp)];decide
set_option maxRecDepth 100000 in set_option maxHeartbeats 8000000 in theorem cvContains_any{base xm xp:Nat}(l:List SideM)(v:Value)(q:SideM→Bool)(w:World)(hrow:RowN w base 118 5 v l.length (sideCells l))(hl:l.length≤1000000)(hf:∀W:World,Below w.heap.size w W→∀s∈l,Calls Tryz.prog 133 #[valS s,.pointer (some ⟨xm,0,none⟩),.pointer (some ⟨xp,0,none⟩)] W fun e w'=>e= .returned (.bool (q s))∧Below W.heap.size W w'):Calls Tryz.prog 132 #[v,.func (.func 133) #[] #[.pointer (some ⟨xm,0,none⟩),.pointer (some ⟨xp,0,none⟩)]] w fun e w'=>e= .returned (.bool (l.any q))∧Below w.heap.size w w':=by have HC:=Lib.hid (cvIndexF_any l v q w hrow hl hf);obtain⟨r0,hr0⟩:∃z,l.any q=z:=⟨_,rfl⟩;rw[hr0] at HC⊢;clear hrow hl hf hr0;go_enter Tryz.func132,Tryz.ntmps132;go_wp2_with fail;refine HC.out.mono ?_;rintro e w2 ⟨r,rfl,hr,hb2⟩;have HB2:=Lib.hid hb2;clear hb2;go_wp2;go_ret;exact⟨rfl,HB2.out⟩
theorem cvSet_size(g:Nat):∀(xs:List Value)(i:Nat)(w:World),(setAll w g i xs).heap.size=w.heap.size|[],_,_=>rfl|x::xs,i,w=>by rw[setAll,cvSet_size g xs];simp
theorem takeM_grows(P:List (Int×Int))(T:TriM)(t:Int)(ts:List Int):ts.length≤(takeM P T t ts).length:=by
  unfold takeM;split;·rw[List.length_append];omega
  ·exact Nat.le_refl _
theorem step_grows(P:List (Int×Int))(S:List TriM)(p:Int×Int)(T:TriM)(i:Nat)(ts:List Int):ts.length≤(stepM P S p T i ts).length:=by
  unfold stepM;split
  · unfold takeS;split;·exact takeM_grows _ _ _ _
    ·exact Nat.le_refl _
  ·exact Nat.le_refl _
theorem inner_grows(P:List (Int×Int))(S:List TriM)(p:Int×Int)(T:TriM)(ts:List Int):∀n,ts.length≤(innerM P S p T n ts).length|0=>Nat.le_refl _|n+1=>Nat.le_trans (inner_grows P S p T ts n) (step_grows _ _ _ _ _ _)
set_option maxRecDepth 100000 in set_option maxHeartbeats 16000000 in theorem cvSpread_any{w0:World}{mb pb pc hb b:Nat}{ta:Option Addr}{tc:Nat}{P:List (Int×Int)}{S:List TriM}{v:Value}{ts:List Int}(p0 p1:Int)(w:World)(h:MeshR w0 mb pb pc ta tc P S)(hP:InPs P)(hp:InP p0∧InP p1)(hN:Nexts S)(hB:Below w0.heap.size w0 w)(hH:HoleR w w0.heap.size hb mb b v ts)(hin:InS S ts)(hmx:S.length<1000000):Calls Tryz.prog 130 #[.pointer (some ⟨hb,0,none⟩),.agg #[.int .i64 p0,.int .i64 p1]] w fun e w'=>e= .returned (.tuple #[])∧(∃v',HoleR w' w0.heap.size hb mb b v' (spreadM P S (p0,p1) S.length 0 ts))∧Below w0.heap.size w0 w':=by
  obtain⟨w1,hw1,pp,hb1,hs1⟩:=new_box w _ rfl [.int .i64 p0,.int .i64 p1] 33;have H:=Lib.hid h;have HP:=Lib.hid hP;have HPP:=Lib.hid hp;have HN:=Lib.hid hN;have HMX:=Lib.hid hmx;have HB1:=Lib.hid (hB.trans (hb1.mono hB.size));have HH1:=Lib.hid (hH.below hb1);have HIN:=Lib.hid hin;have PP1:=Lib.hid pp;have HAP:=Lib.hid (show w.heap.size<w1.heap.size∧w.heap.size≠hb∧w.heap.size≠b∧v.ownBlock≠some w.heap.size from⟨by omega,by have:=hH.box.lt;omega,by have:=hH.map.lt;omega,fun e=>by have:=(hH.row.lt _ e).2;omega⟩);obtain⟨R,hR⟩:∃R,spreadM P S (p0,p1) S.length 0 ts=R:=⟨_,rfl⟩;rw[hR];have HR:=Lib.hid hR;obtain⟨len,hlen⟩:∃len,S.length=len:=⟨_,rfl⟩;have HLEN:=Lib.hid hlen;rw[hlen] at HR;clear h hP hp hN hB hH hin hmx hb1 hs1 pp hR hlen;go_enter Tryz.func130,Tryz.ntmps130;go_wp2;clear hw1;go_loopw [4] (fun iv wr=>∃(n:Nat) (us:List Int) (vv:Value),iv= .int .i64 (n:Int)∧n≤us.length∧HoleR wr w0.heap.size hb mb b vv us∧InS S us∧spreadM P S (p0,p1) (len-n) n us=R∧KeepH w1 wr hb b v vv∧Below w0.heap.size w0 wr) (fun iv _=>len-(intOf iv).toNat);case atStart=>exact⟨0,ts,v,rfl,Nat.zero_le _,HH1.out,HIN.out,HR.out,KeepH.of_below (Below.refl _ _),HB1.out⟩
  case round=>
    obtain⟨n,us,vv,rfl,hn,hh,hin,hr,hk,hbw⟩:=hrel;obtain⟨ul,hul⟩:∃ul,us.length=ul:=⟨_,rfl⟩;obtain⟨ao,c,rfl⟩:∃ao c,vv= .slice ao ul c:=by
      rcases hh.row.2 with⟨h1,h2⟩|⟨g,cap,cur,h1,-⟩;·exact⟨_,_,by rw[h1,←hul,h2]⟩
      ·exact⟨_,_,by rw[←hul];exact h1⟩
    have hle:=hin.le;rw[HLEN.out] at hle;have b1:=hh.box.c1;by_cases hlt:n<ul
    · have e1:decide ((n:Int)<(ul:Int))=true:=decide_eq_true (by omega);have e2:decide (n<ul)=true:=decide_eq_true hlt;obtain⟨g,rfl⟩:∃g,ao=some ⟨g,0,none⟩:=by
        rcases hh.row.2 with⟨h1,h2⟩|⟨g,cap,cur,h1,-⟩;·omega
        ·exact⟨g,by injection h1⟩
      obtain⟨z,hz⟩:∃z,us[n]?=some z:=⟨_,List.getElem?_eq_getElem (by omega)⟩;obtain⟨t,rfl,htl⟩:=hin.is z (List.mem_of_getElem? hz);obtain⟨T,hT⟩:∃T,S[t]?=some T:=⟨_,List.getElem?_eq_getElem htl⟩;have hcell:wr.cell? ⟨g,n,none⟩=some (.int .i64 (t:Int)):=hh.row.cells rfl n _ (by unfold intCells;rw[List.getElem?_map,hz];rfl);have hsh:=H.out.short.2;rw[HLEN.out] at htl hsh;obtain⟨v0,v1,v2,n0,n1,n2,f0,f1,f2⟩:=T;have SS:∀w',Below wr.heap.size wr w'→∃tb,ta=some ⟨tb,0,none⟩∧w'.cell? ⟨hb,0,none⟩=some (.pointer (some ⟨mb,0,none⟩))∧w'.cell? ⟨hb,1,none⟩=some (.slice (some ⟨g,0,none⟩) ul c)∧w'.cell? ⟨mb,1,none⟩=some (.slice (some ⟨tb,0,none⟩) len tc)∧w'.cell? ⟨g,n,none⟩=some (.int .i64 (t:Int))∧w'.cell? ⟨tb,t*9,none⟩=some (.int .i64 v0)∧w'.cell? ⟨tb,t*9+1,none⟩=some (.int .i64 v1)∧w'.cell? ⟨tb,t*9+2,none⟩=some (.int .i64 v2)∧w'.cell? ⟨tb,t*9+3,none⟩=some (.int .i64 n0)∧w'.cell? ⟨tb,t*9+4,none⟩=some (.int .i64 n1)∧w'.cell? ⟨tb,t*9+5,none⟩=some (.int .i64 n2)∧w'.cell? ⟨tb,t*9+6,none⟩=some (.bool f0)∧w'.cell? ⟨tb,t*9+7,none⟩=some (.bool f1)∧w'.cell? ⟨tb,t*9+8,none⟩=some (.bool f2):=by
        intro w' hw;have q1:=H.out.below (hbw.trans (hw.mono hbw.size));have k1:=q1.box.c1;rw[HLEN.out] at k1;obtain⟨tb,hta,-,k2,k3,k4,k5,k6,k7,k8,k9,k10⟩:=q1.tris.get hT;subst hta;exact⟨tb,rfl,(hh.box.below hw).c0,(hh.box.below hw).c1,k1,(hw.cell (World.block_lt_of_cell? _ _ hcell)).trans hcell,k2,k3,k4,k5,k6,k7,k8,k9,k10⟩
      obtain⟨tb,hta,-⟩:=SS wr (Below.refl _ _);subst hta;have SS:=fun(w':World) (hw:Below wr.heap.size wr w')=>(by obtain⟨tb',e,hs⟩:=SS w' hw;cases e;exact hs:w'.cell? ⟨hb,0,none⟩=some (.pointer (some ⟨mb,0,none⟩))∧w'.cell? ⟨hb,1,none⟩=some (.slice (some ⟨g,0,none⟩) ul c)∧w'.cell? ⟨mb,1,none⟩=some (.slice (some ⟨tb,0,none⟩) len tc)∧w'.cell? ⟨g,n,none⟩=some (.int .i64 (t:Int))∧w'.cell? ⟨tb,t*9,none⟩=some (.int .i64 v0)∧w'.cell? ⟨tb,t*9+1,none⟩=some (.int .i64 v1)∧w'.cell? ⟨tb,t*9+2,none⟩=some (.int .i64 v2)∧w'.cell? ⟨tb,t*9+3,none⟩=some (.int .i64 n0)∧w'.cell? ⟨tb,t*9+4,none⟩=some (.int .i64 n1)∧w'.cell? ⟨tb,t*9+5,none⟩=some (.int .i64 n2)∧w'.cell? ⟨tb,t*9+6,none⟩=some (.bool f0)∧w'.cell? ⟨tb,t*9+7,none⟩=some (.bool f1)∧w'.cell? ⟨tb,t*9+8,none⟩=some (.bool f2));have i1:(0:Int)≤(n:Int):=by omega
      have i2:(n:Int)<(ul:Int):=by omega
      have i3:(0:Int)≤(t:Int):=by omega
      have i4:(t:Int)<(len:Int):=by omega
      have HHH:=Lib.hid hh;have HI:=Lib.hid hin;have HRR:=Lib.hid hr;have HK:=Lib.hid hk;have HBW:=Lib.hid hbw;have HZ:=Lib.hid hz;have HT:=Lib.hid hT;have HUL:=Lib.hid hul;have SSH:=Lib.hid SS;clear hh hin hr hk hbw hz hT hul hcell SS;go_wp2;obtain⟨wd,hwd⟩:∃wd,wr.drew=wd:=⟨_,rfl⟩;have hBd:Below wr.heap.size wr wd:=by rw[←hwd];exact(Below.refl _ _).drew'
      have hsd:wr.heap.size=wd.heap.size:=by rw[←hwd];rfl
      obtain⟨w4,hw4,pz,hb4,hs4⟩:=new_box wd _ rfl [.int .i64 0,.int .i64 0,.int .i64 0,.int .i64 0,.int .i64 0,.int .i64 0,.bool false,.bool false,.bool false] 41;obtain⟨w5,hw5⟩:∃w5,setAll w4 wd.heap.size 0 [.int .i64 v0,.int .i64 v1,.int .i64 v2,.int .i64 n0,.int .i64 n1,.int .i64 n2,.bool f0,.bool f1,.bool f2]=w5:=⟨_,rfl⟩;have pt5:Box w5 wd.heap.size [.int .i64 v0,.int .i64 v1,.int .i64 v2,.int .i64 n0,.int .i64 n1,.int .i64 n2,.bool f0,.bool f1,.bool f2]:=by rw[←hw5];exact pz.setAll _ rfl
      have hB4:Below wr.heap.size wr w4:=hBd.trans (hb4.mono (by omega));have hB5:Below wr.heap.size wr w5:=by rw[←hw5];exact below_setAll hB4 (by omega) _
      have SB:=SSH.out;have hs5:w5.heap.size=wd.heap.size+1:=by rw[←hw5];exact(cvSet_size _ _ 0 _).trans hs4
      have PT5:=Lib.hid pt5;have HB5:=Lib.hid hB5;have HSD:=Lib.hid (And.intro hsd hs5);clear hsd hs4 hs5 pt5;refine wp_region_noPanic ?_;refine wp_region_held_drew (S:=fun w'=>w'.cell? ⟨hb,0,none⟩=some (.pointer (some ⟨mb,0,none⟩))∧w'.cell? ⟨hb,1,none⟩=some (.slice (some ⟨g,0,none⟩) ul c)∧w'.cell? ⟨mb,1,none⟩=some (.slice (some ⟨tb,0,none⟩) len tc)∧w'.cell? ⟨g,n,none⟩=some (.int .i64 (t:Int))∧w'.cell? ⟨tb,t*9,none⟩=some (.int .i64 v0)∧w'.cell? ⟨tb,t*9+1,none⟩=some (.int .i64 v1)∧w'.cell? ⟨tb,t*9+2,none⟩=some (.int .i64 v2)∧w'.cell? ⟨tb,t*9+3,none⟩=some (.int .i64 n0)∧w'.cell? ⟨tb,t*9+4,none⟩=some (.int .i64 n1)∧w'.cell? ⟨tb,t*9+5,none⟩=some (.int .i64 n2)∧w'.cell? ⟨tb,t*9+6,none⟩=some (.bool f0)∧w'.cell? ⟨tb,t*9+7,none⟩=some (.bool f1)∧w'.cell? ⟨tb,t*9+8,none⟩=some (.bool f2)) (by kernel_rfl) (SB _ (Below.refl _ _).drew') (fun hHeld=>?_);rw[hwd] at hHeld⊢;refine rU 0 _ _ ?_;refine rU 1 _ _ ?_;refine rU 2 _ _ ?_;refine rU 3 _ _ ?_;refine rU 4 _ _ ?_;refine rU 5 _ _ ?_;refine rU 6 _ _ ?_;refine rU 7 _ _ ?_;refine rU 8 _ _ ?_;refine rU 9 _ _ ?_;refine rU 10 _ _ ?_;refine rU 11 _ _ ?_;refine rU 12 _ _ ?_;refine rU 13 _ _ ?_;refine rU 14 _ _ ?_;refine rU 15 _ _ ?_;refine rC 16 _ (fun K hK=>?_);go_simp;try rw[hw4]
      refine hK.out _ _ (SB _ hB4) (fun hHeld=>?_);clear hK K;try simp only[Act.put,sA,sZ,sS]
      refine rC 17 _ (fun K hK=>?_);refine wanted_go rfl ?_;refine wp_store_box _ _ _ rfl [.int .i64 v0,.int .i64 v1,.int .i64 v2,.int .i64 n0,.int .i64 n1,.int .i64 n2,.bool f0,.bool f1,.bool f2] pz rfl rfl (by kernel_rfl) (by simp) rfl hw5 ?_;refine hK.out _ _ (SB _ hB5) (fun hHeld=>?_);clear hK K;try simp only[Act.put,sA,sZ,sS]
      refine wpAnyH_done (by kernel_rfl) ?_ _;refine NoPanic.normal ?_;have d3:=PT5.out.c 3 _ rfl;have d4:=PT5.out.c 4 _ rfl;have d5:=PT5.out.c 5 _ rfl;clear SB hw4 hw5 pz hB4 hB5 hBd hwd hb4 i1 i2 i3 i4;obtain⟨T,hTT⟩:∃T:TriM,T=⟨v0,v1,v2,n0,n1,n2,f0,f1,f2⟩:=⟨_,rfl⟩;have HTT:=Lib.hid hTT;rw[←hTT] at HT;clear hTT;go_wp2;clear d3 d4 d5;go_loopw [35] (fun iv wr=>∃(i:Nat) (vi:Value),i≤3∧iv= .int .i64 (i:Int)∧HoleR wr w0.heap.size hb mb b vi (innerM P S (p0,p1) T i us)∧KeepH w5 wr hb b (.slice (some ⟨g,0,none⟩) ul c) vi∧Below w0.heap.size w0 wr) (fun iv _=>3-(intOf iv).toNat);case atStart=>exact⟨0,_,Nat.zero_le _,rfl,HHH.out.below HB5.out,KeepH.of_below (Below.refl _ _),HBW.out.trans (HB5.out.mono HBW.out.size)⟩
      case round=>
        obtain⟨i,vi,hi,rfl,hhi,hki,hbi⟩:=hrel;have HHI:=Lib.hid hhi;have HKI:=Lib.hid hki;have HBI:=Lib.hid hbi;clear hhi hki hbi;by_cases hi3:i<3
        · have PTI:=Lib.hid (show Box wr wd.heap.size [.int .i64 v0,.int .i64 v1,.int .i64 v2,.int .i64 n0,.int .i64 n1,.int .i64 n2,.bool f0,.bool f1,.bool f2] from by
            have hl:=HHH.out.box.lt;have hm:=HHH.out.map.lt;have hs:=HSD.out;exact _root_.Go.Proofs.YtdmfbkhafnkcfaaGreat.Box.keepH PT5.out HKI.out (by omega) (by omega) (by omega) (fun e=>by have:=(HHH.out.row.lt _ e).2;omega));have PPI:=Lib.hid (show Box wr w.heap.size [.int .i64 p0,.int .i64 p1] from _root_.Go.Proofs.YtdmfbkhafnkcfaaGreat.Box.keepH PP1.out ((HK.out.trans (KeepH.of_below HB5.out)).trans HKI.out) HAP.out.1 HAP.out.2.1 HAP.out.2.2.1 HAP.out.2.2.2);obtain rfl|rfl|rfl:i=0∨i=1∨i=2:=by omega
          · obtain⟨u,hu,hul⟩:=HN.out t T HT.out 0 (by omega);obtain⟨U,hU⟩:∃U,S[u]?=some U:=⟨_,List.getElem?_eq_getElem hul⟩;rw[HTT.out] at hu;obtain rfl:n0=(u:Int):=hu;have hnu:T.n 0=(u:Int):=by rw[HTT.out];rfl
            have hfi:T.f 0=f0:=by rw[HTT.out];rfl
            have hct:confT P S (p0,p1) (u:Int)=conflictM P U (p0,p1):=by unfold confT;rw[Int.toNat_natCast,hU]
            have htk:takeS P S (u:Int) (innerM P S (p0,p1) T 0 us)=takeM P U (u:Int) (innerM P S (p0,p1) T 0 us):=by unfold takeS;rw[Int.toNat_natCast,hU]
            have hur:-1000000≤(u:Int)∧(u:Int)≤1000000:=by have:=HMX.out;omega
            have HSTEP:=Lib.hid (show innerM P S (p0,p1) T (0+1) us=if f0=false∧(u:Int)∉innerM P S (p0,p1) T 0 us∧conflictM P U (p0,p1)=true then takeM P U (u:Int) (innerM P S (p0,p1) T 0 us) else innerM P S (p0,p1) T 0 us by show stepM P S (p0,p1) T 0 (innerM P S (p0,p1) T 0 us)=_;unfold stepM;rw[hnu,hfi,hct,htk]);have HU:=Lib.hid hU;obtain⟨q1,hq1⟩:∃q,decide ((u:Int)∈innerM P S (p0,p1) T 0 us)=q:=⟨_,rfl⟩;obtain⟨q2,hq2⟩:∃q,conflictM P U (p0,p1)=q:=⟨_,rfl⟩;have HHO:=Lib.hid (show∀W:World,Below wr.heap.size wr W→Calls Tryz.prog 202 #[.pointer (some ⟨hb,0,none⟩),.int .i64 (u:Int)] W fun e w'=>e= .returned (.bool q1)∧Below W.heap.size W w' from fun W hW=>by have:=cvHolds_any hb b _ (u:Int) W (HHI.out.below hW).box.c2 (HHI.out.below hW).map hur;rw[hq1] at this;exact this);have HCO:=Lib.hid (show∀W:World,Below wr.heap.size wr W→Calls Tryz.prog 40 #[.pointer (some ⟨mb,0,none⟩),.int .i64 (u:Int),.agg #[.int .i64 p0,.int .i64 p1]] W fun e w'=>e= .returned (.bool q2)∧Below W.heap.size W w' from fun W hW=>by have:=cvConflict_any u U p0 p1 W (H.out.below (HBI.out.trans (hW.mono HBI.out.size))) HP.out HPP.out HU.out;rw[hq2] at this;exact this);have HQ1:=Lib.hid hq1;have HQ2:=Lib.hid hq2;have K8:=Lib.hid (show∀w':World,Below wr.heap.size wr w'→w'.cell? ⟨hb,0,none⟩=some (.pointer (some ⟨mb,0,none⟩))∧w'.cell? ⟨w.heap.size,0,none⟩=some (.int .i64 p0)∧w'.cell? ⟨w.heap.size,1,none⟩=some (.int .i64 p1)∧w'.cell? ⟨wd.heap.size,6,none⟩=some (.bool f0) from fun w' hw=>⟨(HHI.out.below hw).box.c0,(PPI.out.below hw).c 0 _ rfl,(PPI.out.below hw).c 1 _ rfl,(PTI.out.below hw).c 6 _ rfl⟩);have ir:∀w:World,(Instr.index 38 (.agg #[.int .i64 (u:Int),.int .i64 n1,.int .i64 n2]) (.int .i64 0)).run Tryz.prog w= .ok (.int .i64 (u:Int)) w:=fun w=>index3v_run ⟨(u:Int),n1,n2,0,0,0,false,false,false⟩ 0 (by omega) w;clear hul hU hnu hfi hct htk hur hq1 hq2;cases f0
            · cases q1
              · have HNI:=Lib.hid (of_decide_eq_false HQ1.out);cases q2
                · go_wp2;refine wp_region_noPanic ?_;refine wp_region_held_drew (S:=fun w'=>w'.cell? ⟨hb,0,none⟩=some (.pointer (some ⟨mb,0,none⟩))∧w'.cell? ⟨w.heap.size,0,none⟩=some (.int .i64 p0)∧w'.cell? ⟨w.heap.size,1,none⟩=some (.int .i64 p1)∧w'.cell? ⟨wd.heap.size,6,none⟩=some (.bool false)) (by kernel_rfl) (K8.out _ (Below.refl _ _).drew') (fun hHeld=>?_);refine rU 0 _ _ ?_;refine rU 1 _ _ ?_;refine rU 2 _ _ ?_;refine rU 3 _ _ ?_;refine rU 4 _ _ ?_;refine rU 5 _ _ ?_;refine rU 6 _ _ ?_;refine rU 7 _ _ ?_;refine rC 8 _ (fun K hK=>?_);go_simp;refine(HHO.out _ (Below.refl _ _).drew').mono ?_;rintro e w7 ⟨rfl,hb7⟩;have HB7:=Lib.hid ((Below.refl wr.heap.size wr).drew'.trans hb7);clear hb7;refine hK.out _ _ (K8.out _ HB7.out) (fun hHeld=>?_);clear hK K;try simp only[Act.put,sA,sZ,sS]
                  refine rU 9 _ _ ?_;refine rU 10 _ _ ?_;refine rU 11 _ _ ?_;refine rU 12 _ _ ?_;refine rU 13 _ _ ?_;refine rU 14 _ _ ?_;refine rU 15 _ _ ?_;refine rU 16 _ _ ?_;refine rU 17 _ _ ?_;refine rC 18 _ (fun K hK=>?_);go_simp;refine(HCO.out _ HB7.out).mono ?_;rintro e w8 ⟨rfl,hb8⟩;have HB8:=Lib.hid (HB7.out.trans (hb8.mono HB7.out.size));clear hb8;refine hK.out _ _ (K8.out _ HB8.out) (fun hHeld=>?_);clear hK K;try simp only[Act.put,sA,sZ,sS]
                  refine rU 19 _ _ ?_;refine wpAnyH_done (by kernel_rfl) ?_ _;refine NoPanic.normal ?_;go_wp2;go_roundw;case rel=>exact⟨0+1,vi,by omega,by go_num,by rw[show innerM P S (p0,p1) T (0+1) us=innerM P S (p0,p1) T 0 us from by rw[HSTEP.out,HQ2.out];simp];exact HHI.out.below HB8.out,HKI.out.trans (KeepH.of_below HB8.out),HBI.out.trans ((HB8.out).mono HBI.out.size)⟩
                  case measure=>simp[intOf]
                · go_wp2;refine wp_region_noPanic ?_;refine wp_region_held_drew (S:=fun w'=>w'.cell? ⟨hb,0,none⟩=some (.pointer (some ⟨mb,0,none⟩))∧w'.cell? ⟨w.heap.size,0,none⟩=some (.int .i64 p0)∧w'.cell? ⟨w.heap.size,1,none⟩=some (.int .i64 p1)∧w'.cell? ⟨wd.heap.size,6,none⟩=some (.bool false)) (by kernel_rfl) (K8.out _ (Below.refl _ _).drew') (fun hHeld=>?_);refine rU 0 _ _ ?_;refine rU 1 _ _ ?_;refine rU 2 _ _ ?_;refine rU 3 _ _ ?_;refine rU 4 _ _ ?_;refine rU 5 _ _ ?_;refine rU 6 _ _ ?_;refine rU 7 _ _ ?_;refine rC 8 _ (fun K hK=>?_);go_simp;refine(HHO.out _ (Below.refl _ _).drew').mono ?_;rintro e w7 ⟨rfl,hb7⟩;have HB7:=Lib.hid ((Below.refl wr.heap.size wr).drew'.trans hb7);clear hb7;refine hK.out _ _ (K8.out _ HB7.out) (fun hHeld=>?_);clear hK K;try simp only[Act.put,sA,sZ,sS]
                  refine rU 9 _ _ ?_;refine rU 10 _ _ ?_;refine rU 11 _ _ ?_;refine rU 12 _ _ ?_;refine rU 13 _ _ ?_;refine rU 14 _ _ ?_;refine rU 15 _ _ ?_;refine rU 16 _ _ ?_;refine rU 17 _ _ ?_;refine rC 18 _ (fun K hK=>?_);go_simp;refine(HCO.out _ HB7.out).mono ?_;rintro e w8 ⟨rfl,hb8⟩;have HB8:=Lib.hid (HB7.out.trans (hb8.mono HB7.out.size));clear hb8;refine hK.out _ _ (K8.out _ HB8.out) (fun hHeld=>?_);clear hK K;try simp only[Act.put,sA,sZ,sS]
                  refine rU 19 _ _ ?_;refine wpAnyH_done (by kernel_rfl) ?_ _;refine NoPanic.normal ?_;go_wp2_with fail;refine(cvTake_any u U w8 H.out (HBI.out.trans (HB8.out.mono HBI.out.size)) (HHI.out.below HB8.out) HU.out (by have:=(HI.out.inner P (p0,p1) (HN.out t T HT.out) 0 (by omega)).le;have:=HMX.out;omega)).mono ?_;rintro e w9 ⟨rfl,⟨v9,hh9,hk9⟩,hb9⟩;have HH9:=Lib.hid hh9;have HK9:=Lib.hid (HKI.out.trans ((KeepH.of_below HB8.out).trans hk9));have HB9:=Lib.hid hb9;clear hh9 hk9 hb9;go_wp2;go_roundw;case rel=>exact⟨0+1,v9,by omega,by go_num,by rw[show innerM P S (p0,p1) T (0+1) us=takeM P U (u:Int) (innerM P S (p0,p1) T 0 us) from by rw[HSTEP.out,HQ2.out,if_pos (by refine⟨?_,HNI.out,?_⟩<;>trivial)]];exact HH9.out,HK9.out,HB9.out⟩
                  case measure=>simp[intOf]
              · have HYI:=Lib.hid (of_decide_eq_true HQ1.out);go_wp2;refine wp_region_noPanic ?_;refine wp_region_held_drew (S:=fun w'=>w'.cell? ⟨hb,0,none⟩=some (.pointer (some ⟨mb,0,none⟩))∧w'.cell? ⟨w.heap.size,0,none⟩=some (.int .i64 p0)∧w'.cell? ⟨w.heap.size,1,none⟩=some (.int .i64 p1)∧w'.cell? ⟨wd.heap.size,6,none⟩=some (.bool false)) (by kernel_rfl) (K8.out _ (Below.refl _ _).drew') (fun hHeld=>?_);refine rU 0 _ _ ?_;refine rU 1 _ _ ?_;refine rU 2 _ _ ?_;refine rU 3 _ _ ?_;refine rU 4 _ _ ?_;refine rU 5 _ _ ?_;refine rU 6 _ _ ?_;refine rU 7 _ _ ?_;refine rC 8 _ (fun K hK=>?_);go_simp;refine(HHO.out _ (Below.refl _ _).drew').mono ?_;rintro e w7 ⟨rfl,hb7⟩;have HB7:=Lib.hid ((Below.refl wr.heap.size wr).drew'.trans hb7);clear hb7;refine hK.out _ _ (K8.out _ HB7.out) (fun hHeld=>?_);clear hK K;try simp only[Act.put,sA,sZ,sS]
                refine rU 9 _ _ ?_;refine rU 10 _ _ ?_;refine rU 11 _ _ ?_;refine rS 12 ?_ ?_ ?_ ?_;rotate_left 1;·simp only[gA,gS,gZ];exact rfl
                ·rfl
                try simp only[Act.put,sA,sZ,sS]
                refine rS 13 ?_ ?_ ?_ ?_;rotate_left 1;·simp only[gA,gS,gZ];exact rfl
                ·rfl
                try simp only[Act.put,sA,sZ,sS]
                refine rS 14 ?_ ?_ ?_ ?_;rotate_left 1;·simp only[gA,gS,gZ];exact rfl
                ·rfl
                try simp only[Act.put,sA,sZ,sS]
                refine rS 15 ?_ ?_ ?_ ?_;rotate_left 1;·simp only[gA,gS,gZ];exact rfl
                ·rfl
                try simp only[Act.put,sA,sZ,sS]
                refine rS 16 ?_ ?_ ?_ ?_;rotate_left 1;·simp only[gA,gS,gZ];exact rfl
                ·rfl
                try simp only[Act.put,sA,sZ,sS]
                refine rS 17 ?_ ?_ ?_ ?_;rotate_left 1;·simp only[gA,gS,gZ];exact rfl
                ·rfl
                try simp only[Act.put,sA,sZ,sS]
                refine rS 18 ?_ ?_ ?_ ?_;rotate_left 1;·simp only[gA,gS,gZ];exact rfl
                ·rfl
                try simp only[Act.put,sA,sZ,sS]
                refine rU 19 _ _ ?_;refine wpAnyH_done (by kernel_rfl) ?_ _;refine NoPanic.normal ?_;go_wp2;go_roundw;case rel=>exact⟨0+1,vi,by omega,by go_num,by rw[show innerM P S (p0,p1) T (0+1) us=innerM P S (p0,p1) T 0 us from by rw[HSTEP.out,if_neg (fun h=>h.2.1 HYI.out)]];exact HHI.out.below HB7.out,HKI.out.trans (KeepH.of_below HB7.out),HBI.out.trans ((HB7.out).mono HBI.out.size)⟩
                case measure=>simp[intOf]
            · go_wp2;refine wp_region_noPanic ?_;refine wp_region_held_drew (S:=fun w'=>w'.cell? ⟨hb,0,none⟩=some (.pointer (some ⟨mb,0,none⟩))∧w'.cell? ⟨w.heap.size,0,none⟩=some (.int .i64 p0)∧w'.cell? ⟨w.heap.size,1,none⟩=some (.int .i64 p1)∧w'.cell? ⟨wd.heap.size,6,none⟩=some (.bool true)) (by kernel_rfl) (K8.out _ (Below.refl _ _).drew') (fun hHeld=>?_);refine rU 0 _ _ ?_;refine rU 1 _ _ ?_;refine rU 2 _ _ ?_;refine rU 3 _ _ ?_;refine rU 4 _ _ ?_;refine rU 5 _ _ ?_;refine rS 6 ?_ ?_ ?_ ?_;rotate_left 1;·simp only[gA,gS,gZ];exact rfl
              ·rfl
              try simp only[Act.put,sA,sZ,sS]
              refine rS 7 ?_ ?_ ?_ ?_;rotate_left 1;·simp only[gA,gS,gZ];exact rfl
              ·rfl
              try simp only[Act.put,sA,sZ,sS]
              refine rS 8 ?_ ?_ ?_ ?_;rotate_left 1;·simp only[gA,gS,gZ];exact rfl
              ·rfl
              try simp only[Act.put,sA,sZ,sS]
              refine rS 9 ?_ ?_ ?_ ?_;rotate_left 1;·simp only[gA,gS,gZ];exact rfl
              ·rfl
              try simp only[Act.put,sA,sZ,sS]
              refine rU 10 _ _ ?_;refine rU 11 _ _ ?_;refine rS 12 ?_ ?_ ?_ ?_;rotate_left 1;·simp only[gA,gS,gZ];exact rfl
              ·rfl
              try simp only[Act.put,sA,sZ,sS]
              refine rS 13 ?_ ?_ ?_ ?_;rotate_left 1;·simp only[gA,gS,gZ];exact rfl
              ·rfl
              try simp only[Act.put,sA,sZ,sS]
              refine rS 14 ?_ ?_ ?_ ?_;rotate_left 1;·simp only[gA,gS,gZ];exact rfl
              ·rfl
              try simp only[Act.put,sA,sZ,sS]
              refine rS 15 ?_ ?_ ?_ ?_;rotate_left 1;·simp only[gA,gS,gZ];exact rfl
              ·rfl
              try simp only[Act.put,sA,sZ,sS]
              refine rS 16 ?_ ?_ ?_ ?_;rotate_left 1;·simp only[gA,gS,gZ];exact rfl
              ·rfl
              try simp only[Act.put,sA,sZ,sS]
              refine rS 17 ?_ ?_ ?_ ?_;rotate_left 1;·simp only[gA,gS,gZ];exact rfl
              ·rfl
              try simp only[Act.put,sA,sZ,sS]
              refine rS 18 ?_ ?_ ?_ ?_;rotate_left 1;·simp only[gA,gS,gZ];exact rfl
              ·rfl
              try simp only[Act.put,sA,sZ,sS]
              refine rU 19 _ _ ?_;refine wpAnyH_done (by kernel_rfl) ?_ _;refine NoPanic.normal ?_;go_wp2;go_roundw;case rel=>exact⟨0+1,vi,by omega,by go_num,by rw[show innerM P S (p0,p1) T (0+1) us=innerM P S (p0,p1) T 0 us from by rw[HSTEP.out,if_neg (fun h=>by cases h.1)]];exact HHI.out.below (Below.refl wr.heap.size wr).drew',HKI.out.trans (KeepH.of_below (Below.refl wr.heap.size wr).drew'),HBI.out.trans (((Below.refl wr.heap.size wr).drew').mono HBI.out.size)⟩
              case measure=>simp[intOf]
          · obtain⟨u,hu,hul⟩:=HN.out t T HT.out 1 (by omega);obtain⟨U,hU⟩:∃U,S[u]?=some U:=⟨_,List.getElem?_eq_getElem hul⟩;rw[HTT.out] at hu;obtain rfl:n1=(u:Int):=hu;have hnu:T.n 1=(u:Int):=by rw[HTT.out];rfl
            have hfi:T.f 1=f1:=by rw[HTT.out];rfl
            have hct:confT P S (p0,p1) (u:Int)=conflictM P U (p0,p1):=by unfold confT;rw[Int.toNat_natCast,hU]
            have htk:takeS P S (u:Int) (innerM P S (p0,p1) T 1 us)=takeM P U (u:Int) (innerM P S (p0,p1) T 1 us):=by unfold takeS;rw[Int.toNat_natCast,hU]
            have hur:-1000000≤(u:Int)∧(u:Int)≤1000000:=by have:=HMX.out;omega
            have HSTEP:=Lib.hid (show innerM P S (p0,p1) T (1+1) us=if f1=false∧(u:Int)∉innerM P S (p0,p1) T 1 us∧conflictM P U (p0,p1)=true then takeM P U (u:Int) (innerM P S (p0,p1) T 1 us) else innerM P S (p0,p1) T 1 us by show stepM P S (p0,p1) T 1 (innerM P S (p0,p1) T 1 us)=_;unfold stepM;rw[hnu,hfi,hct,htk]);have HU:=Lib.hid hU;obtain⟨q1,hq1⟩:∃q,decide ((u:Int)∈innerM P S (p0,p1) T 1 us)=q:=⟨_,rfl⟩;obtain⟨q2,hq2⟩:∃q,conflictM P U (p0,p1)=q:=⟨_,rfl⟩;have HHO:=Lib.hid (show∀W:World,Below wr.heap.size wr W→Calls Tryz.prog 202 #[.pointer (some ⟨hb,0,none⟩),.int .i64 (u:Int)] W fun e w'=>e= .returned (.bool q1)∧Below W.heap.size W w' from fun W hW=>by have:=cvHolds_any hb b _ (u:Int) W (HHI.out.below hW).box.c2 (HHI.out.below hW).map hur;rw[hq1] at this;exact this);have HCO:=Lib.hid (show∀W:World,Below wr.heap.size wr W→Calls Tryz.prog 40 #[.pointer (some ⟨mb,0,none⟩),.int .i64 (u:Int),.agg #[.int .i64 p0,.int .i64 p1]] W fun e w'=>e= .returned (.bool q2)∧Below W.heap.size W w' from fun W hW=>by have:=cvConflict_any u U p0 p1 W (H.out.below (HBI.out.trans (hW.mono HBI.out.size))) HP.out HPP.out HU.out;rw[hq2] at this;exact this);have HQ1:=Lib.hid hq1;have HQ2:=Lib.hid hq2;have K8:=Lib.hid (show∀w':World,Below wr.heap.size wr w'→w'.cell? ⟨hb,0,none⟩=some (.pointer (some ⟨mb,0,none⟩))∧w'.cell? ⟨w.heap.size,0,none⟩=some (.int .i64 p0)∧w'.cell? ⟨w.heap.size,1,none⟩=some (.int .i64 p1)∧w'.cell? ⟨wd.heap.size,7,none⟩=some (.bool f1) from fun w' hw=>⟨(HHI.out.below hw).box.c0,(PPI.out.below hw).c 0 _ rfl,(PPI.out.below hw).c 1 _ rfl,(PTI.out.below hw).c 7 _ rfl⟩);have ir:∀w:World,(Instr.index 38 (.agg #[.int .i64 n0,.int .i64 (u:Int),.int .i64 n2]) (.int .i64 1)).run Tryz.prog w= .ok (.int .i64 (u:Int)) w:=fun w=>index3v_run ⟨n0,(u:Int),n2,0,0,0,false,false,false⟩ 1 (by omega) w;clear hul hU hnu hfi hct htk hur hq1 hq2;cases f1
            · cases q1
              · have HNI:=Lib.hid (of_decide_eq_false HQ1.out);cases q2
                · go_wp2;refine wp_region_noPanic ?_;refine wp_region_held_drew (S:=fun w'=>w'.cell? ⟨hb,0,none⟩=some (.pointer (some ⟨mb,0,none⟩))∧w'.cell? ⟨w.heap.size,0,none⟩=some (.int .i64 p0)∧w'.cell? ⟨w.heap.size,1,none⟩=some (.int .i64 p1)∧w'.cell? ⟨wd.heap.size,7,none⟩=some (.bool false)) (by kernel_rfl) (K8.out _ (Below.refl _ _).drew') (fun hHeld=>?_);refine rU 0 _ _ ?_;refine rU 1 _ _ ?_;refine rU 2 _ _ ?_;refine rU 3 _ _ ?_;refine rU 4 _ _ ?_;refine rU 5 _ _ ?_;refine rU 6 _ _ ?_;refine rU 7 _ _ ?_;refine rC 8 _ (fun K hK=>?_);go_simp;refine(HHO.out _ (Below.refl _ _).drew').mono ?_;rintro e w7 ⟨rfl,hb7⟩;have HB7:=Lib.hid ((Below.refl wr.heap.size wr).drew'.trans hb7);clear hb7;refine hK.out _ _ (K8.out _ HB7.out) (fun hHeld=>?_);clear hK K;try simp only[Act.put,sA,sZ,sS]
                  refine rU 9 _ _ ?_;refine rU 10 _ _ ?_;refine rU 11 _ _ ?_;refine rU 12 _ _ ?_;refine rU 13 _ _ ?_;refine rU 14 _ _ ?_;refine rU 15 _ _ ?_;refine rU 16 _ _ ?_;refine rU 17 _ _ ?_;refine rC 18 _ (fun K hK=>?_);go_simp;refine(HCO.out _ HB7.out).mono ?_;rintro e w8 ⟨rfl,hb8⟩;have HB8:=Lib.hid (HB7.out.trans (hb8.mono HB7.out.size));clear hb8;refine hK.out _ _ (K8.out _ HB8.out) (fun hHeld=>?_);clear hK K;try simp only[Act.put,sA,sZ,sS]
                  refine rU 19 _ _ ?_;refine wpAnyH_done (by kernel_rfl) ?_ _;refine NoPanic.normal ?_;go_wp2;go_roundw;case rel=>exact⟨1+1,vi,by omega,by go_num,by rw[show innerM P S (p0,p1) T (1+1) us=innerM P S (p0,p1) T 1 us from by rw[HSTEP.out,HQ2.out];simp];exact HHI.out.below HB8.out,HKI.out.trans (KeepH.of_below HB8.out),HBI.out.trans ((HB8.out).mono HBI.out.size)⟩
                  case measure=>simp[intOf]
                · go_wp2;refine wp_region_noPanic ?_;refine wp_region_held_drew (S:=fun w'=>w'.cell? ⟨hb,0,none⟩=some (.pointer (some ⟨mb,0,none⟩))∧w'.cell? ⟨w.heap.size,0,none⟩=some (.int .i64 p0)∧w'.cell? ⟨w.heap.size,1,none⟩=some (.int .i64 p1)∧w'.cell? ⟨wd.heap.size,7,none⟩=some (.bool false)) (by kernel_rfl) (K8.out _ (Below.refl _ _).drew') (fun hHeld=>?_);refine rU 0 _ _ ?_;refine rU 1 _ _ ?_;refine rU 2 _ _ ?_;refine rU 3 _ _ ?_;refine rU 4 _ _ ?_;refine rU 5 _ _ ?_;refine rU 6 _ _ ?_;refine rU 7 _ _ ?_;refine rC 8 _ (fun K hK=>?_);go_simp;refine(HHO.out _ (Below.refl _ _).drew').mono ?_;rintro e w7 ⟨rfl,hb7⟩;have HB7:=Lib.hid ((Below.refl wr.heap.size wr).drew'.trans hb7);clear hb7;refine hK.out _ _ (K8.out _ HB7.out) (fun hHeld=>?_);clear hK K;try simp only[Act.put,sA,sZ,sS]
                  refine rU 9 _ _ ?_;refine rU 10 _ _ ?_;refine rU 11 _ _ ?_;refine rU 12 _ _ ?_;refine rU 13 _ _ ?_;refine rU 14 _ _ ?_;refine rU 15 _ _ ?_;refine rU 16 _ _ ?_;refine rU 17 _ _ ?_;refine rC 18 _ (fun K hK=>?_);go_simp;refine(HCO.out _ HB7.out).mono ?_;rintro e w8 ⟨rfl,hb8⟩;have HB8:=Lib.hid (HB7.out.trans (hb8.mono HB7.out.size));clear hb8;refine hK.out _ _ (K8.out _ HB8.out) (fun hHeld=>?_);clear hK K;try simp only[Act.put,sA,sZ,sS]
                  refine rU 19 _ _ ?_;refine wpAnyH_done (by kernel_rfl) ?_ _;refine NoPanic.normal ?_;go_wp2_with fail;refine(cvTake_any u U w8 H.out (HBI.out.trans (HB8.out.mono HBI.out.size)) (HHI.out.below HB8.out) HU.out (by have:=(HI.out.inner P (p0,p1) (HN.out t T HT.out) 1 (by omega)).le;have:=HMX.out;omega)).mono ?_;rintro e w9 ⟨rfl,⟨v9,hh9,hk9⟩,hb9⟩;have HH9:=Lib.hid hh9;have HK9:=Lib.hid (HKI.out.trans ((KeepH.of_below HB8.out).trans hk9));have HB9:=Lib.hid hb9;clear hh9 hk9 hb9;go_wp2;go_roundw;case rel=>exact⟨1+1,v9,by omega,by go_num,by rw[show innerM P S (p0,p1) T (1+1) us=takeM P U (u:Int) (innerM P S (p0,p1) T 1 us) from by rw[HSTEP.out,HQ2.out,if_pos (by refine⟨?_,HNI.out,?_⟩<;>trivial)]];exact HH9.out,HK9.out,HB9.out⟩
                  case measure=>simp[intOf]
              · have HYI:=Lib.hid (of_decide_eq_true HQ1.out);go_wp2;refine wp_region_noPanic ?_;refine wp_region_held_drew (S:=fun w'=>w'.cell? ⟨hb,0,none⟩=some (.pointer (some ⟨mb,0,none⟩))∧w'.cell? ⟨w.heap.size,0,none⟩=some (.int .i64 p0)∧w'.cell? ⟨w.heap.size,1,none⟩=some (.int .i64 p1)∧w'.cell? ⟨wd.heap.size,7,none⟩=some (.bool false)) (by kernel_rfl) (K8.out _ (Below.refl _ _).drew') (fun hHeld=>?_);refine rU 0 _ _ ?_;refine rU 1 _ _ ?_;refine rU 2 _ _ ?_;refine rU 3 _ _ ?_;refine rU 4 _ _ ?_;refine rU 5 _ _ ?_;refine rU 6 _ _ ?_;refine rU 7 _ _ ?_;refine rC 8 _ (fun K hK=>?_);go_simp;refine(HHO.out _ (Below.refl _ _).drew').mono ?_;rintro e w7 ⟨rfl,hb7⟩;have HB7:=Lib.hid ((Below.refl wr.heap.size wr).drew'.trans hb7);clear hb7;refine hK.out _ _ (K8.out _ HB7.out) (fun hHeld=>?_);clear hK K;try simp only[Act.put,sA,sZ,sS]
                refine rU 9 _ _ ?_;refine rU 10 _ _ ?_;refine rU 11 _ _ ?_;refine rS 12 ?_ ?_ ?_ ?_;rotate_left 1;·simp only[gA,gS,gZ];exact rfl
                ·rfl
                try simp only[Act.put,sA,sZ,sS]
                refine rS 13 ?_ ?_ ?_ ?_;rotate_left 1;·simp only[gA,gS,gZ];exact rfl
                ·rfl
                try simp only[Act.put,sA,sZ,sS]
                refine rS 14 ?_ ?_ ?_ ?_;rotate_left 1;·simp only[gA,gS,gZ];exact rfl
                ·rfl
                try simp only[Act.put,sA,sZ,sS]
                refine rS 15 ?_ ?_ ?_ ?_;rotate_left 1;·simp only[gA,gS,gZ];exact rfl
                ·rfl
                try simp only[Act.put,sA,sZ,sS]
                refine rS 16 ?_ ?_ ?_ ?_;rotate_left 1;·simp only[gA,gS,gZ];exact rfl
                ·rfl
                try simp only[Act.put,sA,sZ,sS]
                refine rS 17 ?_ ?_ ?_ ?_;rotate_left 1;·simp only[gA,gS,gZ];exact rfl
                ·rfl
                try simp only[Act.put,sA,sZ,sS]
                refine rS 18 ?_ ?_ ?_ ?_;rotate_left 1;·simp only[gA,gS,gZ];exact rfl
                ·rfl
                try simp only[Act.put,sA,sZ,sS]
                refine rU 19 _ _ ?_;refine wpAnyH_done (by kernel_rfl) ?_ _;refine NoPanic.normal ?_;go_wp2;go_roundw;case rel=>exact⟨1+1,vi,by omega,by go_num,by rw[show innerM P S (p0,p1) T (1+1) us=innerM P S (p0,p1) T 1 us from by rw[HSTEP.out,if_neg (fun h=>h.2.1 HYI.out)]];exact HHI.out.below HB7.out,HKI.out.trans (KeepH.of_below HB7.out),HBI.out.trans ((HB7.out).mono HBI.out.size)⟩
                case measure=>simp[intOf]
            · go_wp2;refine wp_region_noPanic ?_;refine wp_region_held_drew (S:=fun w'=>w'.cell? ⟨hb,0,none⟩=some (.pointer (some ⟨mb,0,none⟩))∧w'.cell? ⟨w.heap.size,0,none⟩=some (.int .i64 p0)∧w'.cell? ⟨w.heap.size,1,none⟩=some (.int .i64 p1)∧w'.cell? ⟨wd.heap.size,7,none⟩=some (.bool true)) (by kernel_rfl) (K8.out _ (Below.refl _ _).drew') (fun hHeld=>?_);refine rU 0 _ _ ?_;refine rU 1 _ _ ?_;refine rU 2 _ _ ?_;refine rU 3 _ _ ?_;refine rU 4 _ _ ?_;refine rU 5 _ _ ?_;refine rS 6 ?_ ?_ ?_ ?_;rotate_left 1;·simp only[gA,gS,gZ];exact rfl
              ·rfl
              try simp only[Act.put,sA,sZ,sS]
              refine rS 7 ?_ ?_ ?_ ?_;rotate_left 1;·simp only[gA,gS,gZ];exact rfl
              ·rfl
              try simp only[Act.put,sA,sZ,sS]
              refine rS 8 ?_ ?_ ?_ ?_;rotate_left 1;·simp only[gA,gS,gZ];exact rfl
              ·rfl
              try simp only[Act.put,sA,sZ,sS]
              refine rS 9 ?_ ?_ ?_ ?_;rotate_left 1;·simp only[gA,gS,gZ];exact rfl
              ·rfl
              try simp only[Act.put,sA,sZ,sS]
              refine rU 10 _ _ ?_;refine rU 11 _ _ ?_;refine rS 12 ?_ ?_ ?_ ?_;rotate_left 1;·simp only[gA,gS,gZ];exact rfl
              ·rfl
              try simp only[Act.put,sA,sZ,sS]
              refine rS 13 ?_ ?_ ?_ ?_;rotate_left 1;·simp only[gA,gS,gZ];exact rfl
              ·rfl
              try simp only[Act.put,sA,sZ,sS]
              refine rS 14 ?_ ?_ ?_ ?_;rotate_left 1;·simp only[gA,gS,gZ];exact rfl
              ·rfl
              try simp only[Act.put,sA,sZ,sS]
              refine rS 15 ?_ ?_ ?_ ?_;rotate_left 1;·simp only[gA,gS,gZ];exact rfl
              ·rfl
              try simp only[Act.put,sA,sZ,sS]
              refine rS 16 ?_ ?_ ?_ ?_;rotate_left 1;·simp only[gA,gS,gZ];exact rfl
              ·rfl
              try simp only[Act.put,sA,sZ,sS]
              refine rS 17 ?_ ?_ ?_ ?_;rotate_left 1;·simp only[gA,gS,gZ];exact rfl
              ·rfl
              try simp only[Act.put,sA,sZ,sS]
              refine rS 18 ?_ ?_ ?_ ?_;rotate_left 1;·simp only[gA,gS,gZ];exact rfl
              ·rfl
              try simp only[Act.put,sA,sZ,sS]
              refine rU 19 _ _ ?_;refine wpAnyH_done (by kernel_rfl) ?_ _;refine NoPanic.normal ?_;go_wp2;go_roundw;case rel=>exact⟨1+1,vi,by omega,by go_num,by rw[show innerM P S (p0,p1) T (1+1) us=innerM P S (p0,p1) T 1 us from by rw[HSTEP.out,if_neg (fun h=>by cases h.1)]];exact HHI.out.below (Below.refl wr.heap.size wr).drew',HKI.out.trans (KeepH.of_below (Below.refl wr.heap.size wr).drew'),HBI.out.trans (((Below.refl wr.heap.size wr).drew').mono HBI.out.size)⟩
              case measure=>simp[intOf]
          · obtain⟨u,hu,hul⟩:=HN.out t T HT.out 2 (by omega);obtain⟨U,hU⟩:∃U,S[u]?=some U:=⟨_,List.getElem?_eq_getElem hul⟩;rw[HTT.out] at hu;obtain rfl:n2=(u:Int):=hu;have hnu:T.n 2=(u:Int):=by rw[HTT.out];rfl
            have hfi:T.f 2=f2:=by rw[HTT.out];rfl
            have hct:confT P S (p0,p1) (u:Int)=conflictM P U (p0,p1):=by unfold confT;rw[Int.toNat_natCast,hU]
            have htk:takeS P S (u:Int) (innerM P S (p0,p1) T 2 us)=takeM P U (u:Int) (innerM P S (p0,p1) T 2 us):=by unfold takeS;rw[Int.toNat_natCast,hU]
            have hur:-1000000≤(u:Int)∧(u:Int)≤1000000:=by have:=HMX.out;omega
            have HSTEP:=Lib.hid (show innerM P S (p0,p1) T (2+1) us=if f2=false∧(u:Int)∉innerM P S (p0,p1) T 2 us∧conflictM P U (p0,p1)=true then takeM P U (u:Int) (innerM P S (p0,p1) T 2 us) else innerM P S (p0,p1) T 2 us by show stepM P S (p0,p1) T 2 (innerM P S (p0,p1) T 2 us)=_;unfold stepM;rw[hnu,hfi,hct,htk]);have HU:=Lib.hid hU;obtain⟨q1,hq1⟩:∃q,decide ((u:Int)∈innerM P S (p0,p1) T 2 us)=q:=⟨_,rfl⟩;obtain⟨q2,hq2⟩:∃q,conflictM P U (p0,p1)=q:=⟨_,rfl⟩;have HHO:=Lib.hid (show∀W:World,Below wr.heap.size wr W→Calls Tryz.prog 202 #[.pointer (some ⟨hb,0,none⟩),.int .i64 (u:Int)] W fun e w'=>e= .returned (.bool q1)∧Below W.heap.size W w' from fun W hW=>by have:=cvHolds_any hb b _ (u:Int) W (HHI.out.below hW).box.c2 (HHI.out.below hW).map hur;rw[hq1] at this;exact this);have HCO:=Lib.hid (show∀W:World,Below wr.heap.size wr W→Calls Tryz.prog 40 #[.pointer (some ⟨mb,0,none⟩),.int .i64 (u:Int),.agg #[.int .i64 p0,.int .i64 p1]] W fun e w'=>e= .returned (.bool q2)∧Below W.heap.size W w' from fun W hW=>by have:=cvConflict_any u U p0 p1 W (H.out.below (HBI.out.trans (hW.mono HBI.out.size))) HP.out HPP.out HU.out;rw[hq2] at this;exact this);have HQ1:=Lib.hid hq1;have HQ2:=Lib.hid hq2;have K8:=Lib.hid (show∀w':World,Below wr.heap.size wr w'→w'.cell? ⟨hb,0,none⟩=some (.pointer (some ⟨mb,0,none⟩))∧w'.cell? ⟨w.heap.size,0,none⟩=some (.int .i64 p0)∧w'.cell? ⟨w.heap.size,1,none⟩=some (.int .i64 p1)∧w'.cell? ⟨wd.heap.size,8,none⟩=some (.bool f2) from fun w' hw=>⟨(HHI.out.below hw).box.c0,(PPI.out.below hw).c 0 _ rfl,(PPI.out.below hw).c 1 _ rfl,(PTI.out.below hw).c 8 _ rfl⟩);have ir:∀w:World,(Instr.index 38 (.agg #[.int .i64 n0,.int .i64 n1,.int .i64 (u:Int)]) (.int .i64 2)).run Tryz.prog w= .ok (.int .i64 (u:Int)) w:=fun w=>index3v_run ⟨n0,n1,(u:Int),0,0,0,false,false,false⟩ 2 (by omega) w;clear hul hU hnu hfi hct htk hur hq1 hq2;cases f2
            · cases q1
              · have HNI:=Lib.hid (of_decide_eq_false HQ1.out);cases q2
                · go_wp2;refine wp_region_noPanic ?_;refine wp_region_held_drew (S:=fun w'=>w'.cell? ⟨hb,0,none⟩=some (.pointer (some ⟨mb,0,none⟩))∧w'.cell? ⟨w.heap.size,0,none⟩=some (.int .i64 p0)∧w'.cell? ⟨w.heap.size,1,none⟩=some (.int .i64 p1)∧w'.cell? ⟨wd.heap.size,8,none⟩=some (.bool false)) (by kernel_rfl) (K8.out _ (Below.refl _ _).drew') (fun hHeld=>?_);refine rU 0 _ _ ?_;refine rU 1 _ _ ?_;refine rU 2 _ _ ?_;refine rU 3 _ _ ?_;refine rU 4 _ _ ?_;refine rU 5 _ _ ?_;refine rU 6 _ _ ?_;refine rU 7 _ _ ?_;refine rC 8 _ (fun K hK=>?_);go_simp;refine(HHO.out _ (Below.refl _ _).drew').mono ?_;rintro e w7 ⟨rfl,hb7⟩;have HB7:=Lib.hid ((Below.refl wr.heap.size wr).drew'.trans hb7);clear hb7;refine hK.out _ _ (K8.out _ HB7.out) (fun hHeld=>?_);clear hK K;try simp only[Act.put,sA,sZ,sS]
                  refine rU 9 _ _ ?_;refine rU 10 _ _ ?_;refine rU 11 _ _ ?_;refine rU 12 _ _ ?_;refine rU 13 _ _ ?_;refine rU 14 _ _ ?_;refine rU 15 _ _ ?_;refine rU 16 _ _ ?_;refine rU 17 _ _ ?_;refine rC 18 _ (fun K hK=>?_);go_simp;refine(HCO.out _ HB7.out).mono ?_;rintro e w8 ⟨rfl,hb8⟩;have HB8:=Lib.hid (HB7.out.trans (hb8.mono HB7.out.size));clear hb8;refine hK.out _ _ (K8.out _ HB8.out) (fun hHeld=>?_);clear hK K;try simp only[Act.put,sA,sZ,sS]
                  refine rU 19 _ _ ?_;refine wpAnyH_done (by kernel_rfl) ?_ _;refine NoPanic.normal ?_;go_wp2;go_roundw;case rel=>exact⟨2+1,vi,by omega,by go_num,by rw[show innerM P S (p0,p1) T (2+1) us=innerM P S (p0,p1) T 2 us from by rw[HSTEP.out,HQ2.out];simp];exact HHI.out.below HB8.out,HKI.out.trans (KeepH.of_below HB8.out),HBI.out.trans ((HB8.out).mono HBI.out.size)⟩
                  case measure=>simp[intOf]
                · go_wp2;refine wp_region_noPanic ?_;refine wp_region_held_drew (S:=fun w'=>w'.cell? ⟨hb,0,none⟩=some (.pointer (some ⟨mb,0,none⟩))∧w'.cell? ⟨w.heap.size,0,none⟩=some (.int .i64 p0)∧w'.cell? ⟨w.heap.size,1,none⟩=some (.int .i64 p1)∧w'.cell? ⟨wd.heap.size,8,none⟩=some (.bool false)) (by kernel_rfl) (K8.out _ (Below.refl _ _).drew') (fun hHeld=>?_);refine rU 0 _ _ ?_;refine rU 1 _ _ ?_;refine rU 2 _ _ ?_;refine rU 3 _ _ ?_;refine rU 4 _ _ ?_;refine rU 5 _ _ ?_;refine rU 6 _ _ ?_;refine rU 7 _ _ ?_;refine rC 8 _ (fun K hK=>?_);go_simp;refine(HHO.out _ (Below.refl _ _).drew').mono ?_;rintro e w7 ⟨rfl,hb7⟩;have HB7:=Lib.hid ((Below.refl wr.heap.size wr).drew'.trans hb7);clear hb7;refine hK.out _ _ (K8.out _ HB7.out) (fun hHeld=>?_);clear hK K;try simp only[Act.put,sA,sZ,sS]
                  refine rU 9 _ _ ?_;refine rU 10 _ _ ?_;refine rU 11 _ _ ?_;refine rU 12 _ _ ?_;refine rU 13 _ _ ?_;refine rU 14 _ _ ?_;refine rU 15 _ _ ?_;refine rU 16 _ _ ?_;refine rU 17 _ _ ?_;refine rC 18 _ (fun K hK=>?_);go_simp;refine(HCO.out _ HB7.out).mono ?_;rintro e w8 ⟨rfl,hb8⟩;have HB8:=Lib.hid (HB7.out.trans (hb8.mono HB7.out.size));clear hb8;refine hK.out _ _ (K8.out _ HB8.out) (fun hHeld=>?_);clear hK K;try simp only[Act.put,sA,sZ,sS]
                  refine rU 19 _ _ ?_;refine wpAnyH_done (by kernel_rfl) ?_ _;refine NoPanic.normal ?_;go_wp2_with fail;refine(cvTake_any u U w8 H.out (HBI.out.trans (HB8.out.mono HBI.out.size)) (HHI.out.below HB8.out) HU.out (by have:=(HI.out.inner P (p0,p1) (HN.out t T HT.out) 2 (by omega)).le;have:=HMX.out;omega)).mono ?_;rintro e w9 ⟨rfl,⟨v9,hh9,hk9⟩,hb9⟩;have HH9:=Lib.hid hh9;have HK9:=Lib.hid (HKI.out.trans ((KeepH.of_below HB8.out).trans hk9));have HB9:=Lib.hid hb9;clear hh9 hk9 hb9;go_wp2;go_roundw;case rel=>exact⟨2+1,v9,by omega,by go_num,by rw[show innerM P S (p0,p1) T (2+1) us=takeM P U (u:Int) (innerM P S (p0,p1) T 2 us) from by rw[HSTEP.out,HQ2.out,if_pos (by refine⟨?_,HNI.out,?_⟩<;>trivial)]];exact HH9.out,HK9.out,HB9.out⟩
                  case measure=>simp[intOf]
              · have HYI:=Lib.hid (of_decide_eq_true HQ1.out);go_wp2;refine wp_region_noPanic ?_;refine wp_region_held_drew (S:=fun w'=>w'.cell? ⟨hb,0,none⟩=some (.pointer (some ⟨mb,0,none⟩))∧w'.cell? ⟨w.heap.size,0,none⟩=some (.int .i64 p0)∧w'.cell? ⟨w.heap.size,1,none⟩=some (.int .i64 p1)∧w'.cell? ⟨wd.heap.size,8,none⟩=some (.bool false)) (by kernel_rfl) (K8.out _ (Below.refl _ _).drew') (fun hHeld=>?_);refine rU 0 _ _ ?_;refine rU 1 _ _ ?_;refine rU 2 _ _ ?_;refine rU 3 _ _ ?_;refine rU 4 _ _ ?_;refine rU 5 _ _ ?_;refine rU 6 _ _ ?_;refine rU 7 _ _ ?_;refine rC 8 _ (fun K hK=>?_);go_simp;refine(HHO.out _ (Below.refl _ _).drew').mono ?_;rintro e w7 ⟨rfl,hb7⟩;have HB7:=Lib.hid ((Below.refl wr.heap.size wr).drew'.trans hb7);clear hb7;refine hK.out _ _ (K8.out _ HB7.out) (fun hHeld=>?_);clear hK K;try simp only[Act.put,sA,sZ,sS]
                refine rU 9 _ _ ?_;refine rU 10 _ _ ?_;refine rU 11 _ _ ?_;refine rS 12 ?_ ?_ ?_ ?_;rotate_left 1;·simp only[gA,gS,gZ];exact rfl
                ·rfl
                try simp only[Act.put,sA,sZ,sS]
                refine rS 13 ?_ ?_ ?_ ?_;rotate_left 1;·simp only[gA,gS,gZ];exact rfl
                ·rfl
                try simp only[Act.put,sA,sZ,sS]
                refine rS 14 ?_ ?_ ?_ ?_;rotate_left 1;·simp only[gA,gS,gZ];exact rfl
                ·rfl
                try simp only[Act.put,sA,sZ,sS]
                refine rS 15 ?_ ?_ ?_ ?_;rotate_left 1;·simp only[gA,gS,gZ];exact rfl
                ·rfl
                try simp only[Act.put,sA,sZ,sS]
                refine rS 16 ?_ ?_ ?_ ?_;rotate_left 1;·simp only[gA,gS,gZ];exact rfl
                ·rfl
                try simp only[Act.put,sA,sZ,sS]
                refine rS 17 ?_ ?_ ?_ ?_;rotate_left 1;·simp only[gA,gS,gZ];exact rfl
                ·rfl
                try simp only[Act.put,sA,sZ,sS]
                refine rS 18 ?_ ?_ ?_ ?_;rotate_left 1;·simp only[gA,gS,gZ];exact rfl
                ·rfl
                try simp only[Act.put,sA,sZ,sS]
                refine rU 19 _ _ ?_;refine wpAnyH_done (by kernel_rfl) ?_ _;refine NoPanic.normal ?_;go_wp2;go_roundw;case rel=>exact⟨2+1,vi,by omega,by go_num,by rw[show innerM P S (p0,p1) T (2+1) us=innerM P S (p0,p1) T 2 us from by rw[HSTEP.out,if_neg (fun h=>h.2.1 HYI.out)]];exact HHI.out.below HB7.out,HKI.out.trans (KeepH.of_below HB7.out),HBI.out.trans ((HB7.out).mono HBI.out.size)⟩
                case measure=>simp[intOf]
            · go_wp2;refine wp_region_noPanic ?_;refine wp_region_held_drew (S:=fun w'=>w'.cell? ⟨hb,0,none⟩=some (.pointer (some ⟨mb,0,none⟩))∧w'.cell? ⟨w.heap.size,0,none⟩=some (.int .i64 p0)∧w'.cell? ⟨w.heap.size,1,none⟩=some (.int .i64 p1)∧w'.cell? ⟨wd.heap.size,8,none⟩=some (.bool true)) (by kernel_rfl) (K8.out _ (Below.refl _ _).drew') (fun hHeld=>?_);refine rU 0 _ _ ?_;refine rU 1 _ _ ?_;refine rU 2 _ _ ?_;refine rU 3 _ _ ?_;refine rU 4 _ _ ?_;refine rU 5 _ _ ?_;refine rS 6 ?_ ?_ ?_ ?_;rotate_left 1;·simp only[gA,gS,gZ];exact rfl
              ·rfl
              try simp only[Act.put,sA,sZ,sS]
              refine rS 7 ?_ ?_ ?_ ?_;rotate_left 1;·simp only[gA,gS,gZ];exact rfl
              ·rfl
              try simp only[Act.put,sA,sZ,sS]
              refine rS 8 ?_ ?_ ?_ ?_;rotate_left 1;·simp only[gA,gS,gZ];exact rfl
              ·rfl
              try simp only[Act.put,sA,sZ,sS]
              refine rS 9 ?_ ?_ ?_ ?_;rotate_left 1;·simp only[gA,gS,gZ];exact rfl
              ·rfl
              try simp only[Act.put,sA,sZ,sS]
              refine rU 10 _ _ ?_;refine rU 11 _ _ ?_;refine rS 12 ?_ ?_ ?_ ?_;rotate_left 1;·simp only[gA,gS,gZ];exact rfl
              ·rfl
              try simp only[Act.put,sA,sZ,sS]
              refine rS 13 ?_ ?_ ?_ ?_;rotate_left 1;·simp only[gA,gS,gZ];exact rfl
              ·rfl
              try simp only[Act.put,sA,sZ,sS]
              refine rS 14 ?_ ?_ ?_ ?_;rotate_left 1;·simp only[gA,gS,gZ];exact rfl
              ·rfl
              try simp only[Act.put,sA,sZ,sS]
              refine rS 15 ?_ ?_ ?_ ?_;rotate_left 1;·simp only[gA,gS,gZ];exact rfl
              ·rfl
              try simp only[Act.put,sA,sZ,sS]
              refine rS 16 ?_ ?_ ?_ ?_;rotate_left 1;·simp only[gA,gS,gZ];exact rfl
              ·rfl
              try simp only[Act.put,sA,sZ,sS]
              refine rS 17 ?_ ?_ ?_ ?_;rotate_left 1;·simp only[gA,gS,gZ];exact rfl
              ·rfl
              try simp only[Act.put,sA,sZ,sS]
              refine rS 18 ?_ ?_ ?_ ?_;rotate_left 1;·simp only[gA,gS,gZ];exact rfl
              ·rfl
              try simp only[Act.put,sA,sZ,sS]
              refine rU 19 _ _ ?_;refine wpAnyH_done (by kernel_rfl) ?_ _;refine NoPanic.normal ?_;go_wp2;go_roundw;case rel=>exact⟨2+1,vi,by omega,by go_num,by rw[show innerM P S (p0,p1) T (2+1) us=innerM P S (p0,p1) T 2 us from by rw[HSTEP.out,if_neg (fun h=>by cases h.1)]];exact HHI.out.below (Below.refl wr.heap.size wr).drew',HKI.out.trans (KeepH.of_below (Below.refl wr.heap.size wr).drew'),HBI.out.trans (((Below.refl wr.heap.size wr).drew').mono HBI.out.size)⟩
              case measure=>simp[intOf]
        · obtain rfl:i=3:=by omega
          have hsp:=spreadM_on (fuel:=len-(n+1)) P S (p0,p1) HZ.out HT.out;have hin3:=HI.out.inner P (p0,p1) (HN.out t T HT.out) 3 (by omega);have hgr:=inner_grows P S (p0,p1) T us 3;rw[show len-(n+1)+1=len-n by(have:=HUL.out;omega),HRR.out] at hsp;have FIN:=Lib.hid (And.intro hsp.symm (And.intro hin3 (show n+1≤(innerM P S (p0,p1) T 3 us).length by have:=HUL.out;omega)));clear hsp hin3 hgr;go_wp2;have hul9:=HUL.out;exact⟨⟨n+1,_,vi,by go_num,FIN.out.2.2,HHI.out,FIN.out.2.1,FIN.out.1,(HK.out.trans (KeepH.of_below HB5.out)).trans HKI.out,HBI.out⟩,by simp[intOf];omega⟩
    · obtain rfl:n=ul:=by omega
      have FIN:=Lib.hid (And.intro hh hbw);have HRE:=Lib.hid (show us=R by rw[←hr,spreadM_end _ _ _ _ (by omega)]);have e1:decide ((n:Int)<(n:Int))=false:=decide_eq_false (by omega);clear hh hin hr hk hbw hul;go_wp2;go_end0;exact⟨rfl,⟨_,by rw[←HRE.out];exact FIN.out.1⟩,FIN.out.2⟩
end Go.Proofs.YtdmfbkhafnkcfaaGreat
namespace Go.Proofs.YtdmfbkhafnkcfaaGreat
open Go.RowKit Go.MagM
inductive Reach(S:List TriM)(conf:Int→Bool)(st:List Int):Int→Prop|base{t:Int}:t∈st→Reach S conf st t|step{t i:Nat}{T:TriM}:Reach S conf st (t:Int)→S[t]?=some T→i<3→T.f i=false→conf (T.n i)=true→Reach S conf st (T.n i)
def Closed(S:List TriM)(conf:Int→Bool)(us:List Int):Prop:=∀(t i:Nat)(T:TriM),(t:Int)∈us→S[t]?=some T→i<3→T.f i=false→conf (T.n i)=true→T.n i∈us
theorem Closed.reach{S:List TriM}{conf:Int→Bool}{st us:List Int}(h:Closed S conf us)(hs:∀t∈st,t∈us):∀{x},Reach S conf st x→x∈us:=by intro x hx;induction hx with|base ht=>exact hs _ ht|step _ hT hi hf hc ih=>exact h _ _ _ ih hT hi hf hc
def Cornered(P:List (Int×Int))(S:List TriM):Prop:=∀(t:Nat)(T:TriM),S[t]?=some T→0<(cors P T).length
section
variable{P:List (Int×Int)}{S:List TriM}{p:Int×Int}
theorem takeM_mem{U:TriM}{u:Int}{ts:List Int}(h:0<(cors P U).length):u∈takeM P U u ts:=by
  unfold takeM;by_cases hm:u∈ts;·rw[if_neg (fun k=>k.2 hm)];exact hm
  ·rw[if_pos ⟨h,hm⟩];simp
theorem takeM_pre(P:List (Int×Int))(U:TriM)(u:Int)(ts:List Int):∃k,takeM P U u ts=ts++k∧∀x∈k,x=u:=by
  unfold takeM;split;·exact⟨[u],rfl,by simp⟩
  ·exact⟨[],by simp,by simp⟩
theorem stepM_pre(P:List (Int×Int))(S:List TriM)(p:Int×Int)(T:TriM)(i:Nat)(ts:List Int):∃k,stepM P S p T i ts=ts++k∧∀x∈k,x=T.n i∧T.f i=false∧confT P S p (T.n i)=true:=by
  unfold stepM;split
  · rename_i hc;unfold takeS;split;· obtain⟨k,h1,h2⟩:=takeM_pre P _ (T.n i) ts;exact⟨k,h1,fun x hx=>⟨h2 x hx,hc.1,hc.2.2⟩⟩
    ·exact⟨[],by simp,by simp⟩
  ·exact⟨[],by simp,by simp⟩
theorem inner_pre(P:List (Int×Int))(S:List TriM)(p:Int×Int)(T:TriM)(ts:List Int):∀n,n≤3→∃k,innerM P S p T n ts=ts++k∧∀x∈k,∃i,i<3∧x=T.n i∧T.f i=false∧confT P S p (T.n i)=true
  |0,_=>⟨[],by simp[innerM],by simp⟩|n+1,hn=>by
    obtain⟨k,h1,h2⟩:=inner_pre P S p T ts n (by omega);obtain⟨k',h3,h4⟩:=stepM_pre P S p T n (innerM P S p T n ts);refine⟨k++k',by rw[innerM,h3,h1,List.append_assoc],fun x hx=>?_⟩;rcases List.mem_append.1 hx with hx|hx;·exact h2 x hx
    ·exact⟨n,by omega,h4 x hx⟩
theorem step_has(hN:Nexts S)(hC:Cornered P S){t:Nat}{T:TriM}(hT:S[t]?=some T){i:Nat}(hi:i<3)(hf:T.f i=false)(hc:confT P S p (T.n i)=true)(ts:List Int):T.n i∈stepM P S p T i ts:=by
  by_cases hm:T.n i∈ts
  · obtain⟨k,h1,-⟩:=stepM_pre P S p T i ts;rw[h1];exact List.mem_append_left _ hm
  · obtain⟨u,hu,hul⟩:=hN t T hT i hi;unfold stepM;rw[if_pos ⟨hf,hm,hc⟩];unfold takeS;rw[hu,Int.toNat_natCast,List.getElem?_eq_getElem hul];exact takeM_mem (hC u _ (List.getElem?_eq_getElem hul))
theorem inner_has(hN:Nexts S)(hC:Cornered P S){t:Nat}{T:TriM}(hT:S[t]?=some T)(ts:List Int){i:Nat}(hf:T.f i=false)(hc:confT P S p (T.n i)=true):∀n,n≤3→i<n→T.n i∈innerM P S p T n ts
  |0,_,h=>by omega|n+1,hn,h=>by
    rw[innerM];rcases Nat.lt_or_ge i n with g|g;· obtain⟨k,h1,-⟩:=stepM_pre P S p T n (innerM P S p T n ts);rw[h1];exact List.mem_append_left _ (inner_has hN hC hT ts hf hc n (by omega) g)
    · obtain rfl:i=n:=by omega
      exact step_has hN hC hT (by omega) hf hc _
def ClosedN(P:List (Int×Int))(S:List TriM)(p:Int×Int)(us:List Int)(n:Nat):Prop:=∀j,j<n→∀(t i:Nat)(T:TriM),us[j]?=some (t:Int)→S[t]?=some T→i<3→T.f i=false→confT P S p (T.n i)=true→T.n i∈us
theorem spread_is(hN:Nexts S)(hC:Cornered P S){st:List Int}:∀(fuel n:Nat)(us:List Int),InS S us→n≤us.length→S.length≤fuel+n→ClosedN P S p us n→(∀x∈us,Reach S (confT P S p) st x)→(∀x∈st,x∈us)→InS S (spreadM P S p fuel n us)∧Closed S (confT P S p) (spreadM P S p fuel n us)∧(∀x∈spreadM P S p fuel n us,Reach S (confT P S p) st x)∧(∀x∈st,x∈spreadM P S p fuel n us)
  |0,n,us,hI,hn,hf,hcl,hr,hs=>by
    rw[spreadM];refine⟨hI,fun t i T ht hT hi h1 h2=>?_,hr,hs⟩;obtain⟨j,hj⟩:=List.mem_iff_getElem?.1 ht;have:=hI.le;have:=(List.getElem?_eq_some_iff.1 hj).1;exact hcl j (by omega) t i T hj hT hi h1 h2|fuel+1,n,us,hI,hn,hf,hcl,hr,hs=>by cases hz:us[n]? with
    |none=>
      have hl:us.length≤n:=List.getElem?_eq_none_iff.1 hz;rw[spreadM_end P S p _ hl];refine⟨hI,fun t i T ht hT hi h1 h2=>?_,hr,hs⟩;obtain⟨j,hj⟩:=List.mem_iff_getElem?.1 ht;have:=(List.getElem?_eq_some_iff.1 hj).1;exact hcl j (by omega) t i T hj hT hi h1 h2|some z=>
      obtain⟨t,rfl,htl⟩:=hI.is z (List.mem_of_getElem? hz);obtain⟨T,hT⟩:∃T,S[t]?=some T:=⟨_,List.getElem?_eq_getElem htl⟩;rw[spreadM_on P S p hz hT];have hI':=hI.inner P p (hN t T hT) 3 (by omega);obtain⟨k,hk,hk2⟩:=inner_pre P S p T us 3 (by omega);have hnl:=(List.getElem?_eq_some_iff.1 hz).1;refine spread_is hN hC fuel (n+1) _ hI' (by rw[hk,List.length_append];omega) (by omega) ?_ ?_ ?_
      · intro j hj t' i T' hj' hT' hi h1 h2;rcases Nat.lt_or_ge j n with g|g
        · rw[hk,List.getElem?_append_left (by omega)] at hj';rw[hk];exact List.mem_append_left _ (hcl j g t' i T' hj' hT' hi h1 h2)
        · obtain rfl:j=n:=by omega
          rw[hk,List.getElem?_append_left hnl,hz] at hj';have e0:(t:Int)=(t':Int):=by simpa using hj'
          have e:t=t':=by omega
          subst e;rw[hT] at hT';cases hT';exact inner_has hN hC hT us h1 h2 3 (by omega) hi
      · intro x hx;rw[hk] at hx;rcases List.mem_append.1 hx with hx|hx;·exact hr x hx
        · obtain⟨i,hi,rfl,h1,h2⟩:=hk2 x hx;exact .step (hr _ (List.mem_of_getElem? hz)) hT hi h1 h2
      · intro x hx;rw[hk];exact List.mem_append_left _ (hs x hx)
theorem spread_reach(hN:Nexts S)(hC:Cornered P S){st:List Int}(hI:InS S st):InS S (spreadM P S p S.length 0 st)∧∀x,x∈spreadM P S p S.length 0 st↔Reach S (confT P S p) st x:=by obtain⟨h1,h2,h3,h4⟩:=spread_is (p:=p) (st:=st) hN hC S.length 0 st hI (Nat.zero_le _) (by omega) (fun j hj=>by omega) (fun x hx=> .base hx) (fun x hx=>hx);exact⟨h1,fun x=>⟨h3 x,fun hx=>h2.reach h4 hx⟩⟩
end
end Go.Proofs.YtdmfbkhafnkcfaaGreat
namespace Go.MagM
open Go.RowKit
theorem RowN.base{w:World}{lo lo':Nat}{e:TypeId}{size n:Nat}{v:Value}{xs:List Value}(h:RowN w lo e size v n xs)(hl:lo'≤lo):RowN w lo' e size v n xs:=by
  refine⟨h.1,?_⟩;rcases h.2 with h1|⟨g1,cap1,cur1,h1,h2,h3⟩;·exact .inl h1
  ·exact .inr ⟨g1,cap1,cur1,h1,by omega,h3⟩
theorem RowN.setAllFar{base:Nat}{e:TypeId}{size:Nat}{v:Value}{n:Nat}{xs:List Value}{g':Nat}(hne:∀k,v.ownBlock=some k→k≠g'):∀(ys:List Value)(i:Nat){w:World},RowN w base e size v n xs→RowN (Go.MagM.setAll w g' i ys) base e size v n xs|[],_,_,h=>h|y::ys,i,w,h=>RowN.setAllFar hne ys (i+1) (h.block fun k hk _=>Below.heap_setCell w ⟨g',i,none⟩ y k (by simpa using hne k hk))
end Go.MagM
namespace Go.Proofs.YtdmfbkhafnkcfaaGreat
open Go.RowKit Go.MagM Go.Maps
theorem rimP_u{S:List TriM}{ts:List Int}(hI:InS S ts):∀n,∀s∈rimP S ts n,∃(t i:Nat) (T:TriM),(t:Int)∈ts∧S[t]?=some T∧i<3∧T.n i∉ts∧s=sideS S T i
  |0,s,hs=>by cases hs|n+1,s,hs=>by
    rw[rimP] at hs;rcases List.mem_append.1 hs with hs|hs;·exact rimP_u hI n s hs
    ·cases hz:ts[n]? with|none=>rw[hz] at hs;cases hs|some z=>
        rw[hz] at hs;simp only[] at hs;unfold rimT at hs;split at hs
        · rename_i T hT;have hi:∀k,k≤3→∀s∈rimI S ts T k,∃i,i<3∧T.n i∉ts∧s=sideS S T i:=by intro k;induction k with|zero=>intro _ s hs;cases hs|succ k ih=>
              intro hk s hs;rw[rimI] at hs;rcases List.mem_append.1 hs with hs|hs;·exact ih (by omega) s hs
              · split at hs;·cases hs
                · rename_i hno;simp only[List.mem_singleton] at hs;exact⟨k,by omega,hno,hs⟩
          obtain⟨i,h1,h2,h3⟩:=hi 3 (Nat.le_refl _) s hs;obtain⟨u,rfl,-⟩:=hI.is z (List.mem_of_getElem? hz);rw[Int.toNat_natCast] at hT;exact⟨u,i,T,List.mem_of_getElem? hz,hT,h1,h2,h3⟩
        ·cases hs
theorem inRow_sub{l:List SideM}:∀s∈inRowM l,s∈l:=by
  have h:∀n a,∀s∈chainN (fun a=>lookN l a l.length) n a,s∈l:=by
    intro n;induction n with
    |zero=>intro a s hs;cases hs|succ n ih=>intro a s hs;rw[chainN] at hs;cases hL:lookN l a l.length with|none=>rw[hL] at hs;cases hs|some x=>
        rw[hL] at hs;simp only[] at hs;rcases List.mem_cons.1 hs with rfl|hs;·exact(lookN_mem hL).1
        ·exact ih _ s hs
  exact h _ _
theorem inRow_le(l:List SideM):(inRowM l).length≤l.length:=chainN_le _ _ _
set_option maxRecDepth 100000 in set_option maxHeartbeats 8000000 in theorem cvDig_any{mb pb pc:Nat}{ta:Option Addr}{tc:Nat}{P:List (Int×Int)}{S:List TriM}(st:List Int)(kd at_ a b p0 p1:Int)(w:World)(h:MeshR w mb pb pc ta tc P S)(hP:InPs P)(hp:InP p0∧InP p1)(hN:Nexts S)(hC:Cornered P S)(hmx:S.length<300000)(hsm:SmallV S)(hI:InS S st)(hne:st≠[])(hbeg:∀W:World,Below w.heap.size w W→Calls Tryz.prog 129 #[.pointer (some ⟨mb,0,none⟩),.agg #[.int .i64 kd,.int .i64 at_,.int .i64 a,.int .i64 b]] W fun e w'=>∃(hb m:Nat) (v:Value),e= .returned (.pointer (some ⟨hb,0,none⟩))∧HoleR w' W.heap.size hb mb m v st∧Below W.heap.size W w'):Calls Tryz.prog 53 #[.pointer (some ⟨mb,0,none⟩),.agg #[.int .i64 p0,.int .i64 p1],.agg #[.int .i64 kd,.int .i64 at_,.int .i64 a,.int .i64 b]] w fun e w'=>∃(g c:Nat) (rv:Value) (ts:List Int),e= .returned (.agg #[.slice (some ⟨g,0,none⟩) ts.length c,rv,.bool ((inRowM (rimP S ts ts.length)).any (cutQ2 P S (p0,p1)))])∧InS S ts∧(∀x,x∈ts↔Reach S (confT P S (p0,p1)) st x)∧RowN w' w.heap.size 3 1 (.slice (some ⟨g,0,none⟩) ts.length c) ts.length (intCells (sortL ts))∧RowN w' w.heap.size 118 5 rv (inRowM (rimP S ts ts.length)).length (sideCells (inRowM (rimP S ts ts.length)))∧Below w.heap.size w w':=by
  obtain⟨hIT,hTR⟩:=spread_reach (p:=(p0,p1)) hN hC hI;obtain⟨ts,hts⟩:∃ts,spreadM P S (p0,p1) S.length 0 st=ts:=⟨_,rfl⟩;rw[hts] at hIT hTR;have htne:0<ts.length:=by cases st with
    |nil=>exact absurd rfl hne|cons x r=>exact List.length_pos_of_mem ((hTR x).2 (.base (by simp)))
  have htl:=hIT.le;have hrl:(inRowM (rimP S ts ts.length)).length≤1000000:=by have:=inRow_le (rimP S ts ts.length);have:=rimP_le S ts ts.length;omega
  have hru:∀s∈inRowM (rimP S ts ts.length),∃u:Nat,s.u=(u:Int)∧u<S.length:=fun s hs=>by obtain⟨t,i,T,-,hT,hi,-,rfl⟩:=rimP_u hIT _ s (inRow_sub s hs);exact hN t T hT i hi
  obtain⟨R,hR⟩:∃R,inRowM (rimP S ts ts.length)=R:=⟨_,rfl⟩;obtain⟨w1,hw1,pm,hb1,hs1⟩:=new_box w _ rfl [.pointer (some ⟨mb,0,none⟩)] 25;obtain⟨w2,hw2,pp,hb2,hs2⟩:=new_box w1 _ rfl [.int .i64 p0,.int .i64 p1] 33;obtain⟨w3,hw3,pl,hb3,hs3⟩:=new_box w2 _ rfl [.int .i64 kd,.int .i64 at_,.int .i64 a,.int .i64 b] 89;obtain⟨w4,hw4,pr,hb4,hs4⟩:=new_box w3 _ rfl [.slice none 0 0,.slice none 0 0,.bool false] 95;have hb12:Below w.heap.size w w2:=hb1.trans (hb2.mono (by omega));have hb13:Below w.heap.size w w3:=hb12.trans (hb3.mono (by omega));have hb14:Below w.heap.size w w4:=hb13.trans (hb4.mono (by omega));have PM:=Lib.hid (((pm.below hb2).below hb3).below hb4);have PP:=Lib.hid ((pp.below hb3).below hb4);have PL:=Lib.hid (pl.below hb4);have PR:=Lib.hid pr;have HB4:=Lib.hid hb14;have HW4:=Lib.hid hs4;have HW3:=Lib.hid hb13.size;have H4:=Lib.hid (h.below hb14);have HP:=Lib.hid hP;have HPP:=Lib.hid hp;have HN:=Lib.hid hN;have HC:=Lib.hid hC;have HMX:=Lib.hid hmx;have HSM:=Lib.hid hsm;have HI:=Lib.hid hI;have HIT:=Lib.hid hIT;have HTR:=Lib.hid hTR;have HTNE:=Lib.hid htne;have HTL:=Lib.hid htl;have HRL:=Lib.hid hrl;have HRU:=Lib.hid hru;have HR:=Lib.hid hR;have HTS:=Lib.hid hts;have HBEG:=Lib.hid (hbeg w4 hb14);have m0:=PM.out.c 0 _ rfl;have l0:=PL.out.c 0 _ rfl;have l1:=PL.out.c 1 _ rfl;have l2:=PL.out.c 2 _ rfl;have l3:=PL.out.c 3 _ rfl;clear hb1 hb2 hb3 hb4 hb12 hb13 hb14 pm pp pl pr h hP hp hN hC hmx hsm hI hIT hTR htne htl hrl hru hR hts hne hbeg hs1 hs2 hs3 hs4;go_enter Tryz.func53,Tryz.ntmps53;go_wp2_with fail;refine HBEG.out.mono ?_;rintro e w5 ⟨hb,m,v,rfl,hh5,hb5⟩;have HH5:=Lib.hid hh5;have HB5:=Lib.hid hb5;clear hh5 hb5 m0 l0 l1 l2 l3;have x0:=(PP.out.below HB5.out).c 0 _ rfl;have x1:=(PP.out.below HB5.out).c 1 _ rfl;go_wp2_with fail;refine(cvSpread_any p0 p1 w5 H4.out HP.out HPP.out HN.out HB5.out HH5.out HI.out (by have:=HMX.out;omega)).mono ?_;rintro e w6 ⟨rfl,⟨v6,hh6⟩,hb6⟩;rw[HTS.out] at hh6;have HH6:=Lib.hid hh6;have HB6:=Lib.hid hb6;clear hh6 hb6 x0 x1;go_wp2_with fail;refine(cvRim_any w6 (H4.out.below HB6.out) HH6.out HN.out HIT.out HMX.out HSM.out).mono ?_;rintro e w7 ⟨rv,rfl,hrow7,hb7⟩;have hrow7':RowN w7 w4.heap.size 118 5 rv (inRowM (rimP S ts ts.length)).length (sideCells (inRowM (rimP S ts ts.length))):=by
    refine⟨hrow7.1,?_⟩;rcases hrow7.2 with h1|⟨g1,cap1,cur1,h1,h2,h3⟩;·exact .inl h1
    ·exact .inr ⟨g1,cap1,cur1,h1,by have:=HB6.out.size;omega,h3⟩
  have HROW7:=Lib.hid hrow7';have HH7:=Lib.hid (HH6.out.below hb7);have HB7:=Lib.hid (HB6.out.trans (hb7.mono HB6.out.size));have HRV:=Lib.hid (show∀k,rv.ownBlock=some k→w6.heap.size≤k from fun k hk=>(hrow7.lt k hk).1);obtain⟨ro,rn,rc,rfl⟩:∃ro rn rc,rv= .slice ro rn rc:=by
    rcases hrow7.2 with⟨h1,-⟩|⟨g1,cap1,cur1,h1,-⟩;·exact⟨_,_,_,h1⟩
    ·exact⟨_,_,_,h1⟩
  clear hrow7 hrow7' hb7;go_wp2_with fail;refine(cvContains_any (inRowM (rimP S ts ts.length)) (.slice ro rn rc) (cutQ2 P S (p0,p1)) w7 HROW7.out HRL.out (fun W hW s hs=>cvDig1_any s p0 p1 W (H4.out.below (HB7.out.trans (hW.mono HB7.out.size))) HP.out HPP.out ((PM.out.below (HB7.out.trans (hW.mono HB7.out.size))).c 0 _ rfl) (PP.out.below (HB7.out.trans (hW.mono HB7.out.size))) (HRU.out s hs))).mono ?_;rintro e w8 ⟨rfl,hb8⟩;obtain⟨q,hq⟩:∃q,(inRowM (rimP S ts ts.length)).any (cutQ2 P S (p0,p1))=q:=⟨_,rfl⟩;rw[hq];have HQ:=Lib.hid hq;have HH8:=Lib.hid (HH7.out.below hb8);have HROW8:=Lib.hid (HROW7.out.below hb8);have HB8:=Lib.hid (HB7.out.trans (hb8.mono HB7.out.size));clear hb8 hq;obtain⟨n,hn⟩:∃n,ts.length=n:=⟨_,rfl⟩;obtain⟨g,c,rfl⟩:∃g c,v6= .slice (some ⟨g,0,none⟩) n c:=by
    rcases HH8.out.row.2 with⟨h1,h2⟩|⟨g,cap,cur,h1,-⟩;·have:=HTNE.out;omega
    ·exact⟨g,cap,by rw[←hn];exact h1⟩
  have HSO:=Lib.hid (show Calls Tryz.prog 134 #[.slice (some ⟨g,0,none⟩) n c] w8 fun e w'=>e= .returned (.tuple #[])∧RowN w' w4.heap.size 3 1 (.slice (some ⟨g,0,none⟩) n c) (sortL ts).length (intCells (sortL ts))∧(∀k,k<w8.heap.size→k≠g→w'.heap[k]?=w8.heap[k]?)∧Below w4.heap.size w8 w'∧w8.heap.size≤w'.heap.size from by
    have hr:=HH8.out.row;rw[←hn] at hr⊢;exact cvSort_any w8 hr (by have:=HTL.out;have:=HMX.out;omega));have d1:=HH8.out.box.c1;have HNN:=Lib.hid hn;clear hn;go_wp2_with fail;refine HSO.out.mono ?_;rintro e w9 ⟨rfl,hrow9,hk9,hb9,hs9⟩;clear d1;have hgl:=(HH8.out.row.lt g rfl);have hlow:=HH8.out.low;have hbx9:=HH8.out.box.same (hk9 hb HH8.out.box.lt (fun e=>hlow.2.2.2.1 (by rw[e];rfl)));have hrv9:=HROW8.out.block (w':=w9) (fun k hk hl=>hk9 k hl (fun e=>by subst e;have h1:=HRV.out k hk;have h2:=(HH6.out.row.lt k rfl).2;omega));have hb49:Below w4.heap.size w4 w9:=HB8.out.trans hb9;have pr9:=PR.out.below hb49;have d9:=hbx9.c1;have HROW9:=Lib.hid hrow9;have HRV9:=Lib.hid hrv9;have HB9:=Lib.hid hb49;have PR9:=Lib.hid pr9;clear hrow9 hk9 hb9 hs9 hgl hlow hbx9 hrv9 hb49 pr9;have q0:=PR9.out.c 0 _ rfl;have q1:=PR9.out.c 1 _ rfl;have q2:=PR9.out.c 2 _ rfl;have f0:=PR9.out.f 0 _ rfl;have f1:=PR9.out.f 1 _ rfl;have f2:=PR9.out.f 2 _ rfl;obtain⟨wz,hwz⟩:∃wz,setAll w9 w3.heap.size 0 [.slice (some ⟨g,0,none⟩) n c,.slice ro rn rc,.bool q]=wz:=⟨_,rfl⟩;have z:=PR9.out.setAll (w:=w9) [.slice (some ⟨g,0,none⟩) n c,.slice ro rn rc,.bool q] rfl;rw[hwz] at z;have z0:=z.c 0 _ rfl;have z1:=z.c 1 _ rfl;have z2:=z.c 2 _ rfl;have hlt4:=HW4.out;have rz1:=(RowN.setAllFar (g':=w3.heap.size) (fun k hk=>by have:=(HROW9.out.lt k hk).1;omega) [.slice (some ⟨g,0,none⟩) n c,.slice ro rn rc,.bool q] 0 HROW9.out).base (lo':=w.heap.size) HB4.out.size;have rz2:=(RowN.setAllFar (g':=w3.heap.size) (fun k hk=>by have:=(HRV9.out.lt k hk).1;omega) [.slice (some ⟨g,0,none⟩) n c,.slice ro rn rc,.bool q] 0 HRV9.out).base (lo':=w.heap.size) HB4.out.size;have hbz:=below_setAll (g:=w3.heap.size) (HB4.out.trans (HB9.out.mono HB4.out.size)) HW3.out [.slice (some ⟨g,0,none⟩) n c,.slice ro rn rc,.bool q];rw[hwz] at rz1 rz2 hbz;have FIN:=Lib.hid (And.intro rz1 (And.intro rz2 hbz));clear rz1 rz2 hbz hlt4;go_wp2_with fail;simp only[setAll] at hwz;rw[hwz];refine bodyPost_ret (v:= .agg #[.slice (some ⟨g,0,none⟩) n c,.slice ro rn rc,.bool q]) ?_ rfl ?_;·simp[results,Tryz.results53,go_sem,z0,z1,z2]
  · refine⟨g,c,.slice ro rn rc,ts,by rw[HQ.out,HNN.out],HIT.out,HTR.out,?_,FIN.out.2.1,FIN.out.2.2⟩;rw[HNN.out];have:=FIN.out.1;rw[sortL_len,HNN.out] at this;exact this
end Go.Proofs.YtdmfbkhafnkcfaaGreat
namespace Go.MagM
open Go.RowKit
def rimR(S:List TriM)(ts:List Int):List SideM:=inRowM (rimP S ts ts.length)
def dropN(S:List TriM)(l:List Int):Nat→List TriM|0=>S|n+1=>match l[n]? with|none=>dropN S l n|some t=>(dropN S l n).set t.toNat goneTri
theorem dropN_some{S:List TriM}{l:List Int}{n:Nat}{t:Int}(h:l[n]?=some t):dropN S l (n+1)=(dropN S l n).set t.toNat goneTri:=by rw[dropN,h]
theorem dropN_len(S:List TriM)(l:List Int):∀n,(dropN S l n).length=S.length
  |0=>rfl|n+1=>by
    have:=dropN_len S l n;rw[dropN];split;·exact this
    ·rw[List.length_set];exact this
theorem alive_set{S:List TriM}{u t:Nat}(h:Alive S u)(hne:t≠u):Alive (S.set t goneTri) u:=by obtain⟨T,hT,hg⟩:=h;exact⟨T,by rw[List.getElem?_set_ne hne];exact hT,hg⟩
theorem dropN_keep{S:List TriM}{l:List Int}{u:Nat}(h:Alive S u)(h0:∀t,t∈l→0≤t):∀n,(∀i,i<n→l[i]?≠some (u:Int))→Alive (dropN S l n) u|0,_=>h|n+1,hn=>by have ih:=dropN_keep h h0 n (fun i hi=>hn i (by omega));rw[dropN];cases hl:l[n]? with|none=>exact ih|some t=>refine alive_set ih fun e=>hn n (by omega) ?_;have:=h0 t (List.mem_of_getElem? hl);rw[hl,show t=(u:Int) by omega]
theorem dropN_off{S:List TriM}{l:List Int}{u:Nat}(h:Alive S u)(hu:(u:Int)∉l)(h0:∀t,t∈l→0≤t)(n:Nat):Alive (dropN S l n) u:=dropN_keep h h0 n fun _ _ e=>hu (List.mem_of_getElem? e)
theorem dropN_alive{S:List TriM}{l:List Int}{n t:Nat}(h:Alive S t)(hl:l.Nodup∧∀t,t∈l→0≤t)(ht:l[n]?=some (t:Int)):Alive (dropN S l n) t:=dropN_keep h hl.2 n fun i hi e=>by have hn:=(List.getElem?_eq_some_iff.1 ht).1;have:=(List.getElem?_inj (by omega:i<l.length) hl.1).1 (e.trans ht.symm);omega
end Go.MagM
namespace Go.Proofs.YtdmfbkhafnkcfaaGreat
open Go.RowKit Go.MagM
theorem ins_sorted{S:List TriM}{ts:List Int}(h:InS S ts):(sortL ts).Nodup∧∀t,t∈sortL ts→0≤t:=⟨(sortL_perm ts).nodup_iff.2 h.once,fun t ht=>by obtain⟨u,e,-⟩:=h.is t ((sortL_perm ts).mem_iff.1 ht);rw[e];omega⟩
def putM(S:List TriM)(v:Int)(pl:List Int)(ts:List Int):List TriM:=fillM (rimR S ts) v pl (dropN S (sortL ts) ts.length)
set_option maxRecDepth 100000 in set_option maxHeartbeats 16000000 in theorem put_any{lo mb pb pc:Nat}{tv:Value}{P:List (Int×Int)}{S:List TriM}(v:Nat)(p0 p1 x0 x1 x2 x3:Int)(pl:List Int)(Good:List Int→Prop)(w:World)(h:MeshO 33 41 w lo mb pb pc tv P (S))(hv:P[v]?=some (p0,p1))(hlive:∀t,t<S.length→Alive S t)(hsh:S.length≤200000)(hG:∀ts,Good ts→InS S ts∧rimR S ts≠[]∧∀s,s∈rimR S ts→∃u i:Nat,s.u=(u:Int)∧(u:Int)∉ts∧u<S.length∧s.i=(i:Int)∧i<3)(hfa:∀W:World,Below w.heap.size w W→Calls Tryz.prog 183 #[.pointer (some ⟨mb,0,none⟩),.agg #[.int .i64 x0,.int .i64 x1,.int .i64 x2,.int .i64 x3]] W fun e w'=>∃pv,e= .returned pv∧((pv= .slice none 0 0∧pl=[])∨∃qb c,pv= .slice (some ⟨qb,0,none⟩) pl.length c∧IntsAt w' qb pl∧(W.heap.size≤qb∧qb<w'.heap.size)∧pl.length≤1000)∧Below W.heap.size W w')(hdg:∀W:World,Below w.heap.size w W→Calls Tryz.prog 53 #[.pointer (some ⟨mb,0,none⟩),.agg #[.int .i64 p0,.int .i64 p1],.agg #[.int .i64 x0,.int .i64 x1,.int .i64 x2,.int .i64 x3]] W fun e w'=>∃(gd c rb rc:Nat) (ts:List Int) (cb:Bool),e= .returned (.agg #[.slice (some ⟨gd,0,none⟩) ts.length c,.slice (some ⟨rb,0,none⟩) (rimR S ts).length rc,.bool cb])∧Good ts∧IntsAt w' gd (sortL ts)∧SidesAt w' rb (rimR S ts)∧(W.heap.size≤gd∧gd<w'.heap.size∧W.heap.size≤rb∧rb<w'.heap.size)∧Below W.heap.size W w'):Calls Tryz.prog 106 #[.pointer (some ⟨mb,0,none⟩),.int .i64 (v:Int),.agg #[.int .i64 x0,.int .i64 x1,.int .i64 x2,.int .i64 x3]] w fun e w'=>∃(ts:List Int) (tv':Value),e= .returned (.tuple #[])∧Good ts∧MeshO 33 41 w' lo mb pb pc tv' P (putM S (v:Int) pl ts)∧Mut w w' mb tv tv':=by
  have hvl:=(List.getElem?_eq_some_iff.1 hv).1;obtain⟨lb,hlb⟩:∃lb,w.heap.size=lb:=⟨_,rfl⟩;obtain⟨w1,hw1,px,hb1,hs1⟩:=new_box w _ rfl [.int .i64 x0,.int .i64 x1,.int .i64 x2,.int .i64 x3] 89;rw[hlb] at px;have H:=Lib.hid h;have HV:=Lib.hid hv;have HLV:=Lib.hid hlive;have HSH:=Lib.hid hsh;have HG:=Lib.hid hG;have HFA:=Lib.hid (hfa w1 hb1);have HDG:=Lib.hid hdg;have PX:=Lib.hid px;have HB1:=Lib.hid hb1;obtain⟨N,hN⟩:∃N,P.length=N:=⟨_,rfl⟩;rw[hN] at hvl;have HNP:=Lib.hid hN;have i0:=px.c 0 _ rfl;have i1:=px.c 1 _ rfl;have i2:=px.c 2 _ rfl;have i3:=px.c 3 _ rfl;have j3:(0:Int)≤(v:Int):=by omega
  have j4:(v:Int)<(N:Int):=by omega
  clear h hv hlive hsh hG hfa hdg px hb1 hs1 hN hvl;go_enter Tryz.func106,Tryz.ntmps106;go_wp2_with fail;refine HFA.out.mono ?_;rintro e w2 ⟨pv,rfl,hpv,hb2⟩;have hB2:Below w.heap.size w w2:=HB1.out.trans (hb2.mono HB1.out.size);obtain⟨WD,hwd⟩:∃WD,w2.drew=WD:=⟨_,rfl⟩;have hBD:Below w.heap.size w WD:=by rw[←hwd];exact hB2.drew'
  have HWD:=Lib.hid hBD;have HWD2:=Lib.hid hwd;have HPV:=Lib.hid hpv;have C2:=Lib.hid (show∀w',Below WD.heap.size WD w'→w'.cell? ⟨mb,0,none⟩=some (.slice (some ⟨pb,0,none⟩) N pc)∧w'.cell? ⟨pb,v*2,none⟩=some (.int .i64 p0)∧w'.cell? ⟨pb,v*2+1,none⟩=some (.int .i64 p1)∧w'.cell? ⟨lb,0,none⟩=some (.int .i64 x0)∧w'.cell? ⟨lb,1,none⟩=some (.int .i64 x1)∧w'.cell? ⟨lb,2,none⟩=some (.int .i64 x2)∧w'.cell? ⟨lb,3,none⟩=some (.int .i64 x3) from fun w' hb=>by
    have hh:Below w.heap.size w w':=hBD.trans (hb.mono hBD.size);have hm:=H.out.below hh;obtain⟨ta,tc,-,hr⟩:=hm.read;have e0:=hm.box.c 0 _ rfl;rw[HNP.out] at e0;have hx:=(PX.out.below hb2);have e1:Below w2.heap.size w2 w':=by
      have e1:Below w2.heap.size w2 WD:=by rw[←hwd];exact(Below.refl _ _).drew'
      exact e1.trans (hb.mono e1.size)
    have hx:=hx.below e1;exact⟨e0,(hr.pt HV.out).1,(hr.pt HV.out).2,hx.c 0 _ rfl,hx.c 1 _ rfl,hx.c 2 _ rfl,hx.c 3 _ rfl⟩);clear hpv hb2 hB2 hBD i0 i1 i2 i3;go_wp2_with fail;clear hlb hw1;refine wp_region_noPanic ?_;refine wp_region_held_drew (S:=fun w'=>w'.cell? ⟨mb,0,none⟩=some (.slice (some ⟨pb,0,none⟩) N pc)∧w'.cell? ⟨pb,v*2,none⟩=some (.int .i64 p0)∧w'.cell? ⟨pb,v*2+1,none⟩=some (.int .i64 p1)∧w'.cell? ⟨lb,0,none⟩=some (.int .i64 x0)∧w'.cell? ⟨lb,1,none⟩=some (.int .i64 x1)∧w'.cell? ⟨lb,2,none⟩=some (.int .i64 x2)∧w'.cell? ⟨lb,3,none⟩=some (.int .i64 x3)) (by kernel_rfl) (C2.out _ (by rw[←hwd];exact Below.refl _ _)) (fun hHeld=>?_);rw[hwd] at hHeld⊢;refine rU 0 _ _ ?_;refine rU 1 _ _ ?_;refine rU 2 _ _ ?_;refine rU 3 _ _ ?_;refine rU 4 _ _ ?_;refine rU 5 _ _ ?_;refine rU 6 _ _ ?_;refine rU 7 _ _ ?_;refine rU 8 _ _ ?_;refine reg_grab (fun WWx ax hWW hAA=>?_);have LEAF:∀(k gd c rb rc:Nat)(ts:List Int)(cb:Bool)(Wx:World),Below WD.heap.size WD Wx→WD.heap.size≤k→Box Wx k [.slice none 0 0,.slice none 0 0,.bool false]→(WD.heap.size≤gd∧gd<Wx.heap.size∧gd≠k∧WD.heap.size≤rb∧rb<Wx.heap.size∧rb≠k)→Good ts→IntsAt Wx gd (sortL ts)→SidesAt Wx rb (rimR S ts)→WWx 1 #[true,true,true,true,true,true,true,true,true,true,true,false] ((ax.put (some 22) (.agg #[.slice (some ⟨gd,0,none⟩) ts.length c,.slice (some ⟨rb,0,none⟩) (rimR S ts).length rc,.bool cb])).put (some 7) (.pointer (some ⟨k,0,none⟩))) Wx:=by
    intro k gd c rb rc ts cb Wx hbx hk pz hgd hgo hin hsi;have hHeld:=C2.out _ hbx;rw[hWW,hAA];try simp only[Act.put,sA,sZ,sS]
    refine rC 11 _ (fun K hK=>?_);obtain⟨wy,hwy_⟩:∃wy,setAll Wx k 0 [.slice (some ⟨gd,0,none⟩) ts.length c,.slice (some ⟨rb,0,none⟩) (rimR S ts).length rc,.bool cb]=wy:=⟨_,rfl⟩;refine wanted_go rfl ?_;refine wp_store_box _ _ _ rfl [.slice (some ⟨gd,0,none⟩) ts.length c,.slice (some ⟨rb,0,none⟩) (rimR S ts).length rc,.bool cb] pz rfl rfl (by kernel_rfl) (by simp) rfl hwy_ ?_;have hby:Below WD.heap.size WD wy:=by rw[←hwy_];exact below_setAll hbx hk _
    refine hK.out _ _ (C2.out _ hby) (fun hHeld=>?_);clear hK K;try simp only[Act.put,sA,sZ,sS]
    refine wpAnyH_done (by kernel_rfl) ?_ _;refine NoPanic.normal ?_;have hwx:Below w.heap.size w Wx:=HWD.out.trans (hbx.mono HWD.out.size);have hwy:Below w.heap.size w wy:=by rw[←hwy_];exact below_setAll hwx (by have:=HWD.out.size;omega) _
    have py:Box wy k [.slice (some ⟨gd,0,none⟩) ts.length c,.slice (some ⟨rb,0,none⟩) (rimR S ts).length rc,.bool cb]:=by rw[←hwy_];exact pz.setAll [.slice (some ⟨gd,0,none⟩) ts.length c,.slice (some ⟨rb,0,none⟩) (rimR S ts).length rc,.bool cb] rfl
    have hty:Turned Wx wy k:=by rw[←hwy_];exact turned_setAll _ _ (Turned.refl _ _)
    have hsy:wy.heap.size=Wx.heap.size:=hty.size;have hin':=hin.same (hty.block gd hgd.2.2.1);have hsi':=hsi.same (hty.block rb hgd.2.2.2.2.2);have hmy:=H.out.below hwy;obtain⟨n,hn⟩:∃n,ts.length=n:=⟨_,rfl⟩;obtain⟨hI,hR0,hR⟩:=HG.out ts hgo;have hn9:n≤200000:=by have:=hI.le;have:=HSH.out;omega
    have hsl:(sortL ts).length=n:=by rw[sortL_len];exact hn
    rw[hn] at py⊢;have hofk:∀b,w.heap.size≤b→b<wy.heap.size→Off wy mb tv b:=fun b h1 h2=>⟨h2,by have:=H.out.low.2.1;omega,fun e=>by have:=(H.out.row.lt b e).2;omega⟩;have hwD:=HWD.out.size;have hkl:=py.lt;have OGD:=Lib.hid (hofk gd (by omega) (by omega));have ORB:=Lib.hid (hofk rb (by omega) (by omega));have OK:=Lib.hid (hofk k (by omega) (by omega));have OPV:Hid (Parts wy mb tv pv pl):=Lib.hid (by
      rcases HPV.out with h|⟨qb,c,h1,h2,⟨h3,h4⟩,h5⟩;·exact .inl h
      · have e:Below w2.heap.size w2 wy:=by
          have e1:Below w2.heap.size w2 WD:=by rw[←HWD2.out];exact(Below.refl _ _).drew'
          rw[←hwy_];exact below_setAll (e1.trans (hbx.mono e1.size)) (by have:=e1.size;omega) _
        exact .inr ⟨qb,c,h1,h2.same (e.block qb h4),hofk qb (by have:=HB1.out.size;omega) (by have:=e.size;omega),h5⟩);have PY:=Lib.hid py;have HIN:=Lib.hid hin';have HSI:=Lib.hid hsi';have HMY:=Lib.hid hmy;have HWY:=Lib.hid hwy;have HI:=Lib.hid hI;have HR0:=Lib.hid hR0;have HR:=Lib.hid hR;have HSL:=Lib.hid hsl;have HGO:=Lib.hid hgo;have HN:=Lib.hid hn;have y0:=py.c 0 _ rfl;clear hkl hwx hwy py hty hsy hin' hsi' hmy hI hR0 hR hsl hofk hwD hin hsi hgo hgd pz hbx hHeld;go_wp2;clear y0;go_loopw [9,26] (fun _ iv wr=>∃i:Nat,i≤n∧iv= .int .i64 (i:Int)∧MeshO 33 41 wr lo mb pb pc tv P (dropN S (sortL ts) i)∧Mut wy wr mb tv tv) (fun _ iv _=>n-(intOf iv).toNat);case atStart=>exact⟨0,Nat.zero_le _,rfl,HMY.out,Mut.refl _ _ _⟩
    case round=>
      obtain⟨i,hi,rfl,hm,hmu⟩:=hrel;by_cases hlt:i<n
      · have hyd:decide ((i:Int)<(n:Int))=true:=decide_eq_true (by omega);obtain⟨z,hz⟩:∃z,(sortL ts)[i]?=some z:=⟨_,List.getElem?_eq_getElem (by rw[HSL.out];exact hlt)⟩;obtain⟨t,ht,htl⟩:=HI.out.is z ((sortL_perm ts).mem_iff.1 (List.mem_of_getElem? hz));subst ht;have hz_:=(HIN.out.same (OGD.out.mut hmu).2) i _ hz;have hdn:=dropN_some (S:=S) hz;have hal:Alive (dropN S (sortL ts) i) t:=dropN_alive (HLV.out t htl) (ins_sorted HI.out) hz;obtain⟨T,hT,hgT⟩:=hal;have HDR:=Lib.hid (Drop_any t T wr hm hT hgT);have HDN:=Lib.hid hdn;have HMU:=Lib.hid hmu;have j1:(0:Int)≤(i:Int):=by omega
        have j2:(i:Int)<(n:Int):=by omega
        clear hz hdn hT hgT hm hmu;go_wp2_with fail;refine HDR.out.mono ?_;rintro e wd ⟨rfl,hmd,hmud⟩;have FIN:=Lib.hid (And.intro hmd (HMU.out.trans hmud));clear hmd hmud hz_;go_wp2;refine⟨⟨i+1,by omega,by go_num,?_⟩,by simp[intOf];omega⟩;rw[HDN.out,Int.toNat_natCast];exact FIN.out
      · obtain rfl:i=n:=by omega
        obtain⟨R,hRR⟩:∃R,rimR S ts=R:=⟨_,rfl⟩;obtain⟨r,hr⟩:∃r,R.length=r:=⟨_,rfl⟩;have hsi:=HSI.out.same (ORB.out.mut hmu).2;have hr0:=HR0.out;have hr1:=HR.out;have hle:(rimR S ts).length≤3*ts.length:=by unfold rimR;have:=inRow_le (rimP S ts ts.length);have:=rimP_le S ts ts.length;omega
        rw[hRR] at hsi hr0 hr1 hle;have h0r:0<r:=by rw[←hr];exact List.length_pos_iff.2 hr0
        have hdl:=dropN_len S (sortL ts) i;have hro:RimOkG (dropN S (sortL ts) i) R:=fun s hs=>by obtain⟨u,j,e1,e2,e3,e4,e5⟩:=hr1 s hs;exact⟨u,j,e1,e4,e5,dropN_off (HLV.out u e3) (fun e=>e2 ((sortL_perm ts).mem_iff.1 e)) (fun t ht=>by
            obtain⟨u,e,-⟩:=HI.out.is t ((sortL_perm ts).mem_iff.1 ht);rw[e];omega) i⟩
        have hfi:=fill_any (v:Int) R r rb rc pv pl wr hm (by omega) hr h0r (by rw[hdl];have:=HSH.out;have:=HI.out.le;have:=HN.out;omega) hro hsi (ORB.out.mut hmu).1 (OPV.out.mut hmu);have HFI:=Lib.hid hfi;have py:=PY.out.same (OK.out.mut hmu).2;rw[hRR,hr] at py;have y1:=py.c 1 _ rfl;have HMU:=Lib.hid hmu;have HRR:=Lib.hid hRR;clear hsi hr0 hr1 hle hdl hro hfi py hmu hm hRR;go_wp2_with fail;refine HFI.out.mono ?_;rintro e wf ⟨tv',rfl,hmf,hmuf⟩;have FIN:=Lib.hid (And.intro hmf (((Mut.of_below HWY.out (fun k hk=>(H.out.row.lt k hk).2)).trans HMU.out).trans hmuf));clear hmf hmuf;go_wp2;go_end0;refine⟨ts,tv',rfl,HGO.out,?_,FIN.out.2⟩;unfold putM;rw[HRR.out,HN.out];exact FIN.out.1
  rw[hWW,hAA];try simp only[Act.put,sA,sZ,sS]
  refine reg_all2 9 10 _ _ (by kernel_rfl) rfl rfl (fun K hK=>?_) (fun K hK=>?_)
  · go_simp;refine(HDG.out WD (HWD.out.trans ((Below.refl _ _).mono HWD.out.size))).mono ?_;rintro e wc ⟨gd,c,rb,rc,ts,cb,rfl,hgo,hin,hsi,⟨hg1,hg2,hg3,hg4⟩,hbc⟩;go_wp2_with fail;refine hK.out _ _ (C2.out _ hbc) (fun hHeld=>?_);clear hK K;try simp only[Act.put,sA,sZ,sS]
    refine rC 10 _ (fun K hK=>?_);obtain⟨wb,hwb,pz,hbb,hsb⟩:=new_box wc _ rfl [.slice none 0 0,.slice none 0 0,.bool false] 95;have hbx:=hbc.trans (hbb.mono hbc.size);go_simp;try rw[hwb]
    refine hK.out _ _ (C2.out _ hbx) (fun hHeld=>?_);clear hK K;try simp only[Act.put,sA,sZ,sS]
    have hL:=LEAF wc.heap.size gd c rb rc ts cb wb hbx (by have:=hbc.size;omega) pz ⟨by omega,by have:=hbb.size;omega,by omega,by omega,by have:=hbb.size;omega,by omega⟩ hgo (hin.same (hbb.block gd (by omega))) (hsi.same (hbb.block rb (by omega)));rw[hWW,hAA] at hL;try simp only[Act.put] at hL
    try simp only[sA,sZ,sS] at hL
    exact hL
  · obtain⟨wb,hwb,pz,hbb,hsb⟩:=new_box WD _ rfl [.slice none 0 0,.slice none 0 0,.bool false] 95;go_simp;try rw[hwb]
    refine hK.out _ _ (C2.out _ hbb) (fun hHeld=>?_);clear hK K;try simp only[Act.put,sA,sZ,sS]
    refine rC 9 _ (fun K hK=>?_);go_simp;refine(HDG.out wb (HWD.out.trans (hbb.mono HWD.out.size))).mono ?_;rintro e wc ⟨gd,c,rb,rc,ts,cb,rfl,hgo,hin,hsi,⟨hg1,hg2,hg3,hg4⟩,hbc⟩;go_wp2_with fail;have hbx:=hbb.trans (hbc.mono hbb.size);refine hK.out _ _ (C2.out _ hbx) (fun hHeld=>?_);clear hK K;try simp only[Act.put,sA,sZ,sS]
    have hL:=LEAF WD.heap.size gd c rb rc ts cb wc hbx (Nat.le_refl _) (pz.below hbc) ⟨by omega,by omega,by omega,by omega,by omega,by omega⟩ hgo hin hsi;rw[hWW,hAA] at hL;try simp only[Act.put] at hL
    try simp only[sA,sZ,sS] at hL
    exact hL
end Go.Proofs.YtdmfbkhafnkcfaaGreat
namespace Go.MagM
open Go.Proofs.YtdmfbkhafnkcfaaGreat
def sdM(S:List TriM)(s:Nat×Nat):SideM:=match S[s.1]? with|some T=>sideS S T s.2|none=>⟨0,0,0,0,false⟩
def pairI(S:List TriM)(ts:List Int)(t:Nat)(T:TriM):Nat→List (Nat×Nat)|0=>[]|n+1=>pairI S ts t T n++(if T.n n∈ts then[] else[(t,n)])
def pairT(S:List TriM)(ts:List Int)(t:Int):List (Nat×Nat):=match S[t.toNat]? with|some T=>pairI S ts t.toNat T 3|none=>[]
def pairP(S:List TriM)(ts:List Int):Nat→List (Nat×Nat)|0=>[]|n+1=>pairP S ts n++(match ts[n]? with|some t=>pairT S ts t|none=>[])
section
variable{n:Nat}{P:List (Int×Int)}{S:List TriM}{d p:Int×Int}{st us:List Nat}{ts:List Int}{t u i j:Nat}
theorem pairI_is(t:Nat)(T:TriM)(hT:S[t]?=some T):∀n,rimI S ts T n=(pairI S ts t T n).map (sdM S)
  |0=>rfl|n+1=>by
    rw[rimI,pairI,List.map_append,pairI_is t T hT n];split;·rfl
    · simp only[List.map_cons,List.map_nil];unfold sdM;simp only[];rw[hT]
theorem pairP_is:∀n,rimP S ts n=(pairP S ts n).map (sdM S)|0=>rfl|n+1=>by rw[rimP,pairP,List.map_append,pairP_is n];cases ts[n]? with|none=>rfl|some t=>simp only[];unfold rimT pairT;cases hT:S[t.toNat]? with|none=>rfl|some T=>simp only[];rw[pairI_is t.toNat T hT 3]
theorem pairI_mem(t:Nat)(T:TriM):∀n s,s∈pairI S ts t T n↔s.1=t∧s.2<n∧T.n s.2∉ts
  |0,s=>by simp[pairI]|n+1,s=>by
    rw[pairI,List.mem_append,pairI_mem t T n s];constructor
    · rintro(⟨h1,h2,h3⟩|h);·exact⟨h1,by omega,h3⟩
      · split at h;·cases h
        · simp only[List.mem_singleton] at h;subst h;rename_i hn;exact⟨rfl,by simp only[];omega,hn⟩
    · rintro⟨h1,h2,h3⟩;rcases Nat.lt_or_ge s.2 n with g|g;·exact .inl ⟨h1,g,h3⟩
      · have e:s.2=n:=by omega
        right;rw[e] at h3;rw[if_neg h3];simp only[List.mem_singleton];exact Prod.ext h1 e
theorem pairI_nodup(t:Nat)(T:TriM):∀n,(pairI S ts t T n).Nodup
  |0=>by simp[pairI]|n+1=>by
    rw[pairI,List.nodup_append];refine⟨pairI_nodup t T n,by split<;>simp,fun a ha b hb=>?_⟩;obtain⟨-,h2,-⟩:=(pairI_mem t T n a).1 ha;split at hb;·cases hb
    · simp only[List.mem_singleton] at hb;subst hb;rintro rfl;simp at h2
theorem pairP_mem(hI:InS S ts):∀n s,s∈pairP S ts n↔∃T,(s.1:Int)∈ts.take n∧S[s.1]?=some T∧s.2<3∧T.n s.2∉ts
  |0,s=>by simp[pairP]|n+1,s=>by
    rw[pairP,List.mem_append,pairP_mem hI n s,List.take_add_one];cases ht:ts[n]? with
    |none=>simp|some t=>
      obtain⟨u,rfl,hu⟩:=hI.is t (List.mem_of_getElem? ht);simp only[Option.toList,List.mem_append,List.mem_singleton];unfold pairT;rw[Int.toNat_natCast,List.getElem?_eq_getElem hu];simp only[];rw[pairI_mem];constructor
      · rintro(⟨T,h1,h2⟩|⟨h1,h2,h3⟩);·exact⟨T,.inl h1,h2⟩
        ·exact⟨S[u],.inr (by rw[h1]),by rw[h1];exact List.getElem?_eq_getElem hu,h2,h3⟩
      · rintro⟨T,h1|h1,h2,h3,h4⟩;·exact .inl ⟨T,h1,h2,h3,h4⟩
        · right;have e:s.1=u:=by omega
          rw[e,List.getElem?_eq_getElem hu] at h2;cases h2;exact⟨e,h3,h4⟩
theorem pairP_nodup(hI:InS S ts):∀n,(pairP S ts n).Nodup
  |0=>by simp[pairP]|n+1=>by
    rw[pairP,List.nodup_append];cases ht:ts[n]? with
    |none=>exact⟨pairP_nodup hI n,by simp,by simp⟩|some t=>
      obtain⟨u,rfl,hu⟩:=hI.is t (List.mem_of_getElem? ht);simp only[];unfold pairT;rw[Int.toNat_natCast,List.getElem?_eq_getElem hu];simp only[];refine⟨pairP_nodup hI n,pairI_nodup _ _ _,fun a ha b hb=>?_⟩;obtain⟨T,h1,-⟩:=(pairP_mem hI n a).1 ha;obtain⟨h2,-⟩:=(pairI_mem _ _ _ b).1 hb;rintro rfl;rw[h2] at h1;obtain⟨k,hk,e⟩:=List.mem_take_iff_getElem.1 h1;have hn:=(List.getElem?_eq_some_iff.1 ht);obtain⟨hn1,hn2⟩:=hn;have hk':k<ts.length:=by omega
      have:=(List.getElem?_inj hk' hI.once).1 (show ts[k]?=ts[n]? by rw[List.getElem?_eq_getElem hk',List.getElem?_eq_getElem hn1,e,hn2]);omega
theorem Hole.pairs(hN:Net n S)(hI:InS S ts)(hus:∀x:Nat,(x:Int)∈ts↔x∈us){rim:List (Nat×Nat)}(h:Hole P S d p st us rim):(pairP S ts ts.length).Perm rim:=by
  have hnd:rim.Nodup:=by
    have:=h.sorted;rw[List.pairwise_map] at this;exact List.nodup_iff_pairwise_ne.2 (this.imp fun{a b} hab e=>by rw[e] at hab;exact ltV_irr hab)
  rw[List.perm_ext_iff_of_nodup (pairP_nodup hI _) hnd];intro s;rw[pairP_mem hI,List.take_length];have key:∀T,S[s.1]?=some T→s.2<3→(T.n s.2∈ts↔nA S s.1 s.2∈us):=fun T hT h3=>by
    have h0:=hN.nn s.1 T hT s.2 h3;have:T.n s.2=((nA S s.1 s.2:Nat):Int):=by unfold nA;rw[hT];simp only[];rw[Nat.mod_eq_of_lt h3];omega
    rw[this];exact hus _
  constructor
  · rintro⟨T,h1,h2,h3,h4⟩;exact h.all s.1 ((hus _).1 h1) s.2 h3 (fun k=>h4 ((key T h2 h3).2 k))
  · intro hs;obtain⟨h1,h2,h3⟩:=h.rl s hs;have hl:=h.lt _ h1;exact⟨S[s.1],(hus _).2 h1,List.getElem?_eq_getElem hl,h2,fun k=>h3 ((key _ (List.getElem?_eq_getElem hl) h2).1 k)⟩
theorem sdM_a{s:Nat×Nat}(ht:s.1<S.length)(hi:s.2<3):(sdM S s).a=edA S s∧(sdM S s).b=edB S s:=by unfold sdM edA edB vA;rw[List.getElem?_eq_getElem ht];simp only[sideS];rw[edgeV_is _ hi];exact⟨rfl,rfl⟩
theorem lookN_hit{l:List SideM}{s:SideM}:∀{n},s∈l.take n→(∀s'∈l,s'.a=s.a→s'=s)→lookN l s.a n=some s
  |0,h,_=>by simp at h|n+1,h,hu=>by
    rw[lookN];rw[List.take_add_one] at h;cases e:l[n]? with
    |none=>rw[e] at h;simp only[Option.toList,List.append_nil] at h;exact lookN_hit h hu|some x=>
      rw[e] at h;simp only[];by_cases hx:s.a=x.a;·rw[if_pos hx,hu x (List.mem_of_getElem? e) hx.symm]
      · rw[if_neg hx];simp only[Option.toList,List.mem_append,List.mem_singleton] at h;rcases h with h|h;·exact lookN_hit h hu
        ·rw[h] at hx;exact absurd rfl hx
theorem chain_is{rim:List (Nat×Nat)}{L:Int→Option SideM}(hL:∀s∈rim,L (edA S s)=some (sdM S s))(hb:∀s∈rim,(sdM S s).b=edB S s):∀(m:List (Nat×Nat))(a b:Int),(∀s∈m,s∈rim)→Chn S m a b→chainN L m.length a=m.map (sdM S)|[],_,_,_,_=>rfl|s::m,a,b,hm,h=>by rw[List.length_cons,chainN,←h.1,hL s (hm s (by simp))];simp only[List.map_cons];rw[hb s (hm s (by simp)),chain_is hL hb m _ b (fun x hx=>hm x (by simp[hx])) h.2]
theorem Hole.row(hN:Net n S)(hI:InS S ts)(hus:∀x:Nat,(x:Int)∈ts↔x∈us){rim:List (Nat×Nat)}(h:Hole P S d p st us rim):∃l r,rim=l++r∧rimR S ts=(r++l).map (sdM S):=by
  have hp:=h.pairs hN hI hus;have hL:rimP S ts ts.length=(pairP S ts ts.length).map (sdM S):=pairP_is _;have hab:∀s∈rim,(sdM S s).a=edA S s∧(sdM S s).b=edB S s:=fun s hs=>by
    obtain⟨h1,h2,-⟩:=h.rl s hs;exact sdM_a (h.lt _ h1) h2
  have hinj:∀s∈rim,∀s'∈rim,edA S s'=edA S s→s'=s:=fun s hs s' hs' e=>by
    obtain⟨l,r,rfl⟩:=List.append_of_mem hs;simp only[List.mem_append,List.mem_cons] at hs';rcases hs' with hs'|hs'|hs';· have:=h.sorted_l hs';rw[e] at this;exact(ltV_irr this).elim
    ·exact hs'
    · have:=h.sorted_r hs';rw[e] at this;exact(ltV_irr this).elim
  have hlook:∀s∈rim,lookN (rimP S ts ts.length) (edA S s) (rimP S ts ts.length).length=some (sdM S s):=fun s hs=>by
    rw[←(hab s hs).1];refine lookN_hit ?_ fun s' hs' e=>?_;· rw[List.take_length,hL];exact List.mem_map_of_mem (hp.mem_iff.2 hs)
    · rw[hL] at hs';obtain⟨x,hx,rfl⟩:=List.mem_map.1 hs';have hx':=hp.mem_iff.1 hx;rw[(hab x hx').1,(hab s hs).1] at e;rw[hinj s hs x hx' e]
  have hne:rimP S ts ts.length≠[]:=fun e=>by
    have:=h.cnt;have hl:=hp.length_eq;rw[hL] at e;rw[List.map_eq_nil_iff] at e;rw[e] at hl;simp at hl;omega
  obtain⟨s0,hs0,e0⟩:=(leastN_le (l:=rimP S ts ts.length) (rimP S ts ts.length).length).2 hne;rw[hL] at hs0;obtain⟨x,hx,rfl⟩:=List.mem_map.1 hs0;have hx':=hp.mem_iff.1 hx;obtain⟨l,r,rfl⟩:=List.append_of_mem hx';refine⟨l,x::r,rfl,?_⟩;unfold rimR inRowM;rw[←e0,(hab x hx').1];have hlen:(rimP S ts ts.length).length=(x::r++l).length:=by
    rw[hL,List.length_map,hp.length_eq];simp only[List.length_append,List.length_cons];omega
  rw[hlen] at hlook⊢;obtain⟨a,hch⟩:=h.chn;obtain⟨c,hc1,hc2⟩:=chn_app.1 hch;refine chain_is (rim:=l++x::r) hlook (fun s hs=>(hab s hs).2) _ _ c (fun s hs=>?_) (chn_app.2 ⟨a,?_,hc1⟩)
  · simp only[List.mem_append,List.mem_cons] at hs⊢;rcases hs with(hs|hs)|hs;·exact .inr (.inl hs)
    ·exact .inr (.inr hs)
    ·exact .inl hs
  ·exact⟨rfl,hc2.2⟩
end
end Go.MagM
namespace Go.MagM
open Go.Proofs.YtdmfbkhafnkcfaaGreat
section
variable{S:List TriM}{a b c:Int}{t i:Nat}
theorem rdV_make(S:List TriM)(a b c:Int)(t:Nat):rdV (makeM S a b c) t=if t=makeK S then some (a,b,c) else rdV S t:=by unfold rdV makeM makeK freeK;cases h:S.findIdx? goneB with
  |none=>
    simp only[];by_cases e:t=S.length;·subst e;simp[newT]
    · rw[if_neg e];rcases Nat.lt_or_ge t S.length with g|g;·rw[List.getElem?_append_left g]
      ·rw[List.getElem?_eq_none (by simp;omega),List.getElem?_eq_none g]|some k=>
    simp only[];have hk:=(List.findIdx?_eq_some_iff_getElem.1 h).1;by_cases e:t=k;·subst e;rw[List.getElem?_set_self hk];simp[newT]
    ·rw[if_neg e,List.getElem?_set_ne (fun h=>e h.symm)]
theorem rdN_make(S:List TriM)(a b c:Int)(t i:Nat)(hi:i<3):rdN (makeM S a b c) t i=if t=makeK S then some (-1,false) else rdN S t i:=by
  have hn:((newT a b c).n i,(newT a b c).f i)=(-1,false):=by
    obtain rfl|rfl|rfl:i=0∨i=1∨i=2:=by omega
    all_goals rfl
  unfold rdN makeM makeK freeK;cases h:S.findIdx? goneB with
  |none=>
    simp only[];by_cases e:t=S.length;·subst e;simp;exact Prod.mk.inj hn
    · rw[if_neg e];rcases Nat.lt_or_ge t S.length with g|g;·rw[List.getElem?_append_left g]
      ·rw[List.getElem?_eq_none (by simp;omega),List.getElem?_eq_none g]|some k=>
    simp only[];have hk:=(List.findIdx?_eq_some_iff_getElem.1 h).1;by_cases e:t=k;·subst e;rw[List.getElem?_set_self hk];simp;exact Prod.mk.inj hn
    ·rw[if_neg e,List.getElem?_set_ne (fun h=>e h.symm)]
def GoneAt(S:List TriM)(t:Nat):Prop:=rdV S t=some (-2,-2,-2)
theorem gone_iff{T:TriM}:goneB T=true↔(T.v0,T.v1,T.v2)=(-2,-2,-2):=by unfold goneB;simp only[decide_eq_true_eq,Prod.mk.injEq]
theorem GoneAt.lt(h:GoneAt S t):t<S.length:=by unfold GoneAt rdV at h;cases e:S[t]? with|none=>rw[e] at h;cases h|some T=>exact(List.getElem?_eq_some_iff.1 e).1
theorem makeK_cases(S:List TriM):(GoneAt S (makeK S)∧(∀a b c,(makeM S a b c).length=S.length))∨(makeK S=S.length∧(∀t,¬GoneAt S t)∧∀a b c,(makeM S a b c).length=S.length+1):=by unfold makeM makeK freeK GoneAt rdV;cases h:S.findIdx? goneB with
  |none=>
    refine .inr ⟨rfl,fun t ht=>?_,fun a b c=>by simp⟩;cases e:S[t]? with
    |none=>rw[e] at ht;cases ht|some T=>
      rw[e] at ht;simp only[Option.map_some,Option.some.injEq] at ht;have:=List.findIdx?_eq_none_iff.1 h T (List.mem_of_getElem? e);rw[gone_iff.2 ht] at this;cases this
  |some k=>
    obtain⟨h1,h2,-⟩:=List.findIdx?_eq_some_iff_getElem.1 h;refine .inl ⟨?_,fun a b c=>by simp⟩;simp only[];rw[List.getElem?_eq_getElem h1];simp only[Option.map_some,Option.some.injEq];exact gone_iff.1 h2
end
structure RowOk(S:List TriM)(ts:List Int)(R:List SideM):Prop where
  out:∀s∈R,∃u i:Nat,s.u=(u:Int)∧s.i=(i:Int)∧i<3∧u<S.length∧(u:Int)∉ts
  inj:∀(j k:Nat)(s s':SideM),R[j]?=some s→R[k]?=some s'→s.u=s'.u→s.i=s'.i→j=k
structure FillA(S:List TriM)(ts:List Int)(R:List SideM)(v:Int)(k:Nat)(Z:List TriM)(M:List Nat):Prop where
  len:M.length=k
  nd:M.Nodup
  big:S.length≤Z.length
  lt:∀m∈M,m<Z.length∧((m:Int)∈ts∨S.length≤m)
  new:∀m,S.length≤m→m<Z.length→m∈M
  gon:∀m:Nat,GoneAt Z m→(m:Int)∈ts∧m<S.length
  live:∀m:Nat,(m:Int)∈ts→¬GoneAt Z m→m∈M
  full:S.length<Z.length→∀m:Nat,¬GoneAt Z m
  newV:∀(j:Nat)(s:SideM),j<k→R[j]?=some s→rdV Z (natA M j)=some (s.a,s.b,v)∧rdN Z (natA M j) 2=some (s.u,s.f)
  oldV:∀t:Nat,t<S.length→(t:Int)∉ts→rdV Z t=rdV S t
  oldN:∀t i:Nat,t<S.length→(t:Int)∉ts→i<3→(∃j s,j<k∧R[j]?=some s∧s.u=(t:Int)∧s.i=(i:Int)∧rdN Z t i=some (((natA M j:Nat):Int),s.f))∨((∀(j:Nat)(s:SideM),j<k→R[j]?=some s→¬(s.u=(t:Int)∧s.i=(i:Int)))∧rdN Z t i=rdN S t i)
theorem natA_app{M:List Nat}{m j:Nat}(h:j<M.length):natA (M++[m]) j=natA M j:=by unfold natA;rw[List.getElem?_append_left h]
theorem natA_last{M:List Nat}{m:Nat}:natA (M++[m]) M.length=m:=by unfold natA;simp
theorem natA_mem{M:List Nat}{j:Nat}(h:j<M.length):natA M j∈M:=List.mem_of_getElem? (natA_at h)
section
variable{S:List TriM}{ts:List Int}{R:List SideM}{v:Int}{k:Nat}{Z:List TriM}{M:List Nat}
theorem fillA_step(hR:RowOk S ts R)(hv:v≠-2)(h:FillA S ts R v k Z M){s:SideM}(hs:R[k]?=some s):FillA S ts R v (k+1) (linkL (makeM Z s.a s.b v) (makeK Z) 2 s.u.toNat s.i.toNat s.f) (M++[makeK Z]):=by
  obtain⟨u,i,hu,hi,hi3,hul,hut⟩:=hR.out s (List.mem_of_getElem? hs);rw[hu,hi,Int.toNat_natCast,Int.toNat_natCast];have hul':u<Z.length:=Nat.lt_of_lt_of_le hul h.big;have hngu:¬GoneAt Z u:=fun hg=>hut (h.gon u hg).1;have hum:u≠makeK Z:=by
    rcases makeK_cases Z with⟨hg,-⟩|⟨he,-⟩;·exact fun e=>hngu (e▸hg)
    ·omega
  have hlen:Z.length≤(makeM Z s.a s.b v).length∧makeK Z<(makeM Z s.a s.b v).length:=by
    rcases makeK_cases Z with⟨hg,e⟩|⟨he,-,e⟩;·rw[e];exact⟨Nat.le_refl _,hg.lt⟩
    ·rw[e];omega
  have hnm:makeK Z∉M:=fun hm=>by
    rcases makeK_cases Z with⟨hg,-⟩|⟨he,-,-⟩
    · obtain⟨j,hj⟩:=List.mem_iff_getElem?.1 hm;have hjl:=(List.getElem?_eq_some_iff.1 hj).1;have hjR:j<R.length:=by have:=(List.getElem?_eq_some_iff.1 hs).1;rw[h.len] at hjl;omega
      have:=(h.newV j R[j] (by rw[h.len] at hjl;exact hjl) (List.getElem?_eq_getElem hjR)).1;have e:natA M j=makeK Z:=by unfold natA;rw[hj];rfl
      rw[e] at this;rw[hg] at this;simp only[Option.some.injEq,Prod.mk.injEq] at this;exact hv this.2.2.symm
    ·have:=(h.lt _ hm).1;omega
  have V:∀t,rdV (linkL (makeM Z s.a s.b v) (makeK Z) 2 u i s.f) t=if t=makeK Z then some (s.a,s.b,v) else rdV Z t:=fun t=>by rw[linkL_v,rdV_make]
  have N:∀t k,k<3→rdN (linkL (makeM Z s.a s.b v) (makeK Z) 2 u i s.f) t k=if t=u∧k=i then some (((makeK Z:Nat):Int),s.f) else if t=makeK Z∧k=2 then some ((u:Int),s.f) else if t=makeK Z then some (-1,false) else rdN Z t k:=fun t k hk=>by rw[linkL_n _ _ (by omega) hi3 hlen.2 (by omega) _ _ hk,rdN_make _ _ _ _ _ _ hk]
  have G:∀m,GoneAt (linkL (makeM Z s.a s.b v) (makeK Z) 2 u i s.f) m↔GoneAt Z m∧m≠makeK Z:=fun m=>by
    unfold GoneAt;rw[V];by_cases e:m=makeK Z
    · rw[if_pos e];constructor;·intro h;simp only[Option.some.injEq,Prod.mk.injEq] at h;exact absurd h.2.2 hv
      ·intro h;exact absurd e h.2
    ·rw[if_neg e];exact⟨fun h=>⟨h,e⟩,fun h=>h.1⟩
  refine⟨by rw[List.length_append,h.len];rfl,?_,by rw[linkL_len];have:=h.big;omega,fun m hm=>?_,fun m h1 h2=>?_,fun m hm=>h.gon m ((G m).1 hm).1,fun m hm hg=>?_,fun hl m hm=>?_,fun j s' hj hs'=>?_,fun t ht htn=>?_,fun t k' ht htn hk'=>?_⟩
  · rw[List.nodup_append];refine⟨h.nd,by simp,fun a ha b hb=>?_⟩;simp only[List.mem_singleton] at hb;rintro rfl;rw[hb] at ha;exact hnm ha
  · rw[linkL_len];rcases List.mem_append.1 hm with hm|hm;·have:=h.lt m hm;exact⟨by omega,this.2⟩
    · simp only[List.mem_singleton] at hm;subst hm;refine⟨hlen.2,?_⟩;rcases makeK_cases Z with⟨hg,-⟩|⟨he,-,-⟩;·exact .inl (h.gon _ hg).1
      ·right;rw[he];exact h.big
  · rw[linkL_len] at h2;rw[List.mem_append];by_cases g:m<Z.length;·exact .inl (h.new m h1 g)
    · right;rcases makeK_cases Z with⟨-,e⟩|⟨he,-,e⟩;·rw[e] at h2;omega
      ·rw[e] at h2;simp;omega
  · rw[List.mem_append];by_cases e:m=makeK Z;·right;simp[e]
    ·exact .inl (h.live m hm (fun hz=>hg ((G m).2 ⟨hz,e⟩)))
  · rw[linkL_len] at hl;have hm':=(G m).1 hm;rcases makeK_cases Z with⟨-,e⟩|⟨-,hn,-⟩;·rw[e] at hl;exact h.full hl m hm'.1
    ·exact hn m hm'.1
  · by_cases e:j=k
    · subst e;rw[hs] at hs';cases hs';have e2:natA (M++[makeK Z]) j=makeK Z:=by rw[←h.len];exact natA_last
      rw[e2];refine⟨by rw[V,if_pos rfl],?_⟩;rw[N _ _ (by omega),if_neg (fun k=>hum k.1.symm),if_pos ⟨rfl,rfl⟩,hu]
    · have hjk:j<k:=by omega
      have hjM:j<M.length:=by rw[h.len];exact hjk
      rw[natA_app hjM];have hmj:natA M j∈M:=natA_mem hjM;have hne:natA M j≠makeK Z:=fun e=>hnm (e▸hmj);have hnu:natA M j≠u:=fun e=>by
        rw[e] at hmj;rcases(h.lt u hmj).2 with g|g;·exact hut g
        ·omega
      obtain⟨g1,g2⟩:=h.newV j s' hjk hs';refine⟨by rw[V,if_neg hne];exact g1,?_⟩;rw[N _ _ (by omega),if_neg (fun k=>hnu k.1),if_neg (fun k=>hne k.1),if_neg hne];exact g2
  · have hne:t≠makeK Z:=fun e=>by
      rcases makeK_cases Z with⟨hg,-⟩|⟨he,-⟩;·rw[←e] at hg;exact htn (h.gon t hg).1
      ·have:=h.big;omega
    rw[V,if_neg hne];exact h.oldV t ht htn
  · have hne:t≠makeK Z:=fun e=>by
      rcases makeK_cases Z with⟨hg,-⟩|⟨he,-⟩;·rw[←e] at hg;exact htn (h.gon t hg).1
      ·have:=h.big;omega
    rw[N _ _ hk'];by_cases e:t=u∧k'=i
    · left;refine⟨k,s,by omega,hs,by rw[hu,e.1],by rw[hi,e.2],?_⟩;rw[if_pos e,←h.len,natA_last]
    · rw[if_neg e,if_neg (fun x=>hne x.1),if_neg hne];rcases h.oldN t k' ht htn hk' with⟨j,s',h1,h2,h3,h4,h5⟩|⟨h1,h2⟩
      · left;refine⟨j,s',by omega,h2,h3,h4,?_⟩;rw[natA_app (by rw[h.len];exact h1)];exact h5
      · right;refine⟨fun j s' hj hs'=>?_,h2⟩;by_cases e2:j=k
        · subst e2;rw[hs] at hs';cases hs';rw[hu,hi];rintro⟨x,y⟩;exact e ⟨by omega,by omega⟩
        ·exact h1 j s' (by omega) hs'
theorem fillA_all(hR:RowOk S ts R)(hv:v≠-2){Z0:List TriM}(h0:FillA S ts R v 0 Z0 []):∀k,k≤R.length→FillA S ts R v k (fillA R v Z0 k).1 (fillA R v Z0 k).2|0,_=>h0|k+1,hk=>by have ih:=fillA_all hR hv h0 k (by omega);have hs:R[k]?=some R[k]:=List.getElem?_eq_getElem (by omega);rw[fillA_some hs];exact fillA_step hR hv ih hs
end
end Go.MagM
namespace Go.MagM
open Go.Proofs.YtdmfbkhafnkcfaaGreat
section
variable{S:List TriM}{ts:List Int}{R:List SideM}{v:Int}{k:Nat}{Z Y:List TriM}{M:List Nat}{pl:List Int}
theorem dropN_get{S:List TriM}{l:List Int}(hl:∀t∈l,∃u:Nat,t=(u:Int)∧u<S.length):∀n(t:Nat),(dropN S l n)[t]?=if(t:Int)∈l.take n then some goneTri else S[t]?|0,t=>by simp[dropN]|n+1,t=>by rw[dropN,List.take_add_one];cases e:l[n]? with|none=>simp only[Option.toList,List.append_nil];exact dropN_get hl n t|some z=>
      obtain⟨u,rfl,hu⟩:=hl z (List.mem_of_getElem? e);simp only[Option.toList,List.mem_append,List.mem_singleton,Int.toNat_natCast];by_cases h:t=u
      · subst h;rw[List.getElem?_set_self (by rw[dropN_len];exact hu)];simp
      · rw[List.getElem?_set_ne (fun h'=>h h'.symm),dropN_get hl n t];have:((t:Int)=(u:Int))↔False:=⟨fun h'=>h (by omega),False.elim⟩;simp only[this,or_false]
theorem fillA_start(hI:InS S ts)(hal:∀t,¬GoneAt S t):FillA S ts R v 0 (dropN S (sortL ts) ts.length) []:=by
  have hl:∀t∈sortL ts,∃u:Nat,t=(u:Int)∧u<S.length:=fun t ht=>hI.is t ((sortL_perm ts).mem_iff.1 ht);have hg:∀t:Nat,(dropN S (sortL ts) ts.length)[t]?=if(t:Int)∈ts then some goneTri else S[t]?:=fun t=>by
    rw[dropN_get hl,show ts.length=(sortL ts).length from(sortL_len ts).symm,List.take_length];have:=(sortL_perm ts).mem_iff (a:=(t:Int));by_cases h:(t:Int)∈ts;·rw[if_pos h,if_pos (this.2 h)]
    ·rw[if_neg h,if_neg (fun k=>h (this.1 k))]
  have hn:∀t:Nat,(t:Int)∉ts→(dropN S (sortL ts) ts.length)[t]?=S[t]?:=fun t ht=>by rw[hg,if_neg ht]
  refine⟨rfl,List.nodup_nil,by rw[dropN_len];exact Nat.le_refl _,fun m hm=>(by cases hm),fun m h1 h2=>?_,fun m hm=>?_,fun m hm hng=>?_,fun hl=>?_,fun j s hj=>by omega,fun t _ ht=>?_,fun t i _ ht _=> .inr ⟨fun j s hj=>by omega,?_⟩⟩;·rw[dropN_len] at h2;omega
  · have hlt:=hm.lt;rw[dropN_len] at hlt;refine⟨Classical.byContradiction fun hc=>?_,hlt⟩;refine hal m ?_;unfold GoneAt rdV at hm⊢;rw[hn m hc] at hm;exact hm
  · exfalso;refine hng ?_;unfold GoneAt rdV;rw[hg,if_pos hm];rfl
  ·rw[dropN_len] at hl;omega
  ·unfold rdV;rw[hn t ht]
  ·unfold rdN;rw[hn t ht]
theorem FillA.full_(h:FillA S ts R v k Z M)(hI:InS S ts)(hk:k=ts.length+2):Z.length=S.length+2∧∀t,t<Z.length→t∈M∨(t<S.length∧(t:Int)∉ts):=by
  have hmap:(ts.map Int.toNat).Nodup:=by
    rw[List.nodup_iff_pairwise_ne,List.pairwise_map];refine(List.nodup_iff_pairwise_ne.1 hI.once).imp_of_mem ?_;intro a b ha hb hne e;obtain⟨x,rfl,-⟩:=hI.is a ha;obtain⟨y,rfl,-⟩:=hI.is b hb;exact hne (by simp at e;rw[e])
  have hmm:∀m:Nat,m∈ts.map Int.toNat↔(m:Int)∈ts:=fun m=>by
    rw[List.mem_map];constructor;· rintro⟨t,ht,rfl⟩;obtain⟨u,rfl,-⟩:=hI.is t ht;simpa using ht
    ·intro hm;exact⟨_,hm,by simp⟩
  have hbig:S.length<Z.length:=by
    refine Nat.lt_of_le_of_ne h.big fun e=>?_;have:=List.Nodup.length_le_of_subset h.nd (l₂:=ts.map Int.toNat) (fun m hm=>by
      obtain⟨h1,h2⟩:=h.lt m hm;rw[hmm];rcases h2 with h2|h2;·exact h2
      ·omega);rw[h.len,List.length_map] at this;omega
  have hng:=h.full hbig;have hperm:M.Perm (ts.map Int.toNat++List.range' S.length (Z.length-S.length)):=by
    rw[List.perm_ext_iff_of_nodup h.nd]
    · intro m;rw[List.mem_append,hmm,List.mem_range'_1];constructor
      · intro hm;obtain⟨h1,h2⟩:=h.lt m hm;rcases h2 with h2|h2;·exact .inl h2
        ·exact .inr ⟨h2,by omega⟩
      · rintro(hm|⟨h1,h2⟩);·exact h.live m hm (hng m)
        ·exact h.new m h1 (by omega)
    · rw[List.nodup_append];refine⟨hmap,List.nodup_range',fun a ha b hb=>?_⟩;rw[hmm] at ha;obtain⟨u,e,hu⟩:=hI.is _ ha;rw[List.mem_range'_1] at hb;omega
  have hlen:=hperm.length_eq;rw[h.len,List.length_append,List.length_map,List.length_range'] at hlen;refine⟨by omega,fun t ht=>?_⟩;by_cases hts:(t:Int)∈ts;·exact .inl (h.live t hts (hng t))
  · rcases Nat.lt_or_ge t S.length with g|g;·exact .inr ⟨g,hts⟩
    ·exact .inl (h.new t g ht)
structure FillB(R:List SideM)(pl:List Int)(M:List Nat)(Z:List TriM)(k:Nat)(Y:List TriM):Prop where
  len:Y.length=Z.length
  V:∀t,rdV Y t=rdV Z t
  keep:∀t i,i<3→(t∉M∨i=2)→rdN Y t i=rdN Z t i
  n0:∀(j:Nat)(s:SideM),j<k→R[j]?=some s→rdN Y (natA M j) 0=some (((natA M ((j+1)%R.length):Nat):Int),decide (s.b∈pl))
  n1:∀(j:Nat)(s:SideM),j<k→R[j]?=some s→rdN Y (natA M ((j+1)%R.length)) 1=some (((natA M j:Nat):Int),decide (s.b∈pl))
theorem natA_inj(hM:M.Nodup){i j:Nat}(hi:i<M.length)(hj:j<M.length)(e:natA M i=natA M j):i=j:=(List.getElem?_inj hi hM).1 (by rw[natA_at hi,natA_at hj,e])
theorem mod_succ_inj{j k n:Nat}(hj:j<n)(hk:k<n)(h:(j+1)%n=(k+1)%n):j=k:=by
  have e1:(j+1)%n=if j+1=n then 0 else j+1:=by
    split;·rename_i h;rw[h,Nat.mod_self]
    ·exact Nat.mod_eq_of_lt (by omega)
  have e2:(k+1)%n=if k+1=n then 0 else k+1:=by
    split;·rename_i h;rw[h,Nat.mod_self]
    ·exact Nat.mod_eq_of_lt (by omega)
  rw[e1,e2] at h;split at h<;>split at h<;>omega
theorem fillB_step(hM:M.Nodup)(hl:M.length=R.length)(hlt:∀m∈M,m<Z.length)(h:FillB R pl M Z k Y){s:SideM}(hs:R[k]?=some s):FillB R pl M Z (k+1) (linkL Y (natA M k) 0 (natA M ((k+1)%R.length)) 1 (decide (s.b∈pl))):=by
  have hk:k<R.length:=(List.getElem?_eq_some_iff.1 hs).1;have hk1:(k+1)%R.length<R.length:=Nat.mod_lt _ (by omega);have m0:natA M k∈M:=natA_mem (by omega);have m1:natA M ((k+1)%R.length)∈M:=natA_mem (by omega);have N:∀t i,i<3→rdN (linkL Y (natA M k) 0 (natA M ((k+1)%R.length)) 1 (decide (s.b∈pl))) t i=if t=natA M ((k+1)%R.length)∧i=1 then some (((natA M k:Nat):Int),decide (s.b∈pl)) else if t=natA M k∧i=0 then some (((natA M ((k+1)%R.length):Nat):Int),decide (s.b∈pl)) else rdN Y t i:=fun t i hi=>by rw[linkL_n _ _ (by omega) (by omega) (by rw[h.len];exact hlt _ m0) (by rw[h.len];exact hlt _ m1) _ _ hi]
  refine⟨by rw[linkL_len];exact h.len,fun t=>by rw[linkL_v];exact h.V t,fun t i hi hc=>?_,fun j s' hj hs'=>?_,fun j s' hj hs'=>?_⟩
  · rw[N t i hi,if_neg,if_neg];·exact h.keep t i hi hc
    · rintro⟨rfl,e⟩;rcases hc with hc|hc;·exact hc m0
      ·omega
    · rintro⟨rfl,e⟩;rcases hc with hc|hc;·exact hc m1
      ·omega
  · rw[N _ _ (by omega),if_neg (fun x=>by have:=x.2;omega)];by_cases e:j=k
    · subst e;rw[hs] at hs';cases hs';rw[if_pos ⟨rfl,rfl⟩]
    · have hjl:j<R.length:=(List.getElem?_eq_some_iff.1 hs').1;rw[if_neg (fun x=>e (natA_inj hM (by omega) (by omega) x.1))];exact h.n0 j s' (by omega) hs'
  · rw[N _ _ (by omega)];by_cases e:j=k
    · subst e;rw[hs] at hs';cases hs';rw[if_pos ⟨rfl,rfl⟩]
    · have hjl:j<R.length:=(List.getElem?_eq_some_iff.1 hs').1;have hj1:(j+1)%R.length<R.length:=Nat.mod_lt _ (by omega);rw[if_neg (fun x=>e (mod_succ_inj hjl hk (natA_inj hM (by omega) (by omega) x.1))),if_neg (fun x=>by have:=x.2;omega)];exact h.n1 j s' (by omega) hs'
theorem fillB_all(hM:M.Nodup)(hl:M.length=R.length)(hlt:∀m∈M,m<Z.length):∀k,k≤R.length→FillB R pl M Z k (fillB R pl M Z k)|0,_=>⟨rfl,fun _=>rfl,fun _ _ _ _=>rfl,fun j s hj=>by omega,fun j s hj=>by omega⟩|k+1,hk=>by have hs:R[k]?=some R[k]:=List.getElem?_eq_getElem (by omega);rw[fillB_some hs];exact fillB_step hM hl hlt (fillB_all hM hl hlt k (by omega)) hs
structure StarM(S:List TriM)(ts:List Int)(R:List SideM)(v:Int)(pl:List Int)(Y:List TriM)(M:List Nat):Prop where
  len:Y.length=S.length+2
  mlen:M.length=R.length
  nd:M.Nodup
  mlt:∀m∈M,m<Y.length∧((m:Int)∈ts∨S.length≤m)
  all:∀t,t<Y.length→t∈M∨(t<S.length∧(t:Int)∉ts)
  newV:∀(j:Nat)(s:SideM),R[j]?=some s→rdV Y (natA M j)=some (s.a,s.b,v)
  new2:∀(j:Nat)(s:SideM),R[j]?=some s→rdN Y (natA M j) 2=some (s.u,s.f)
  new0:∀(j:Nat)(s:SideM),R[j]?=some s→rdN Y (natA M j) 0=some (((natA M ((j+1)%R.length):Nat):Int),decide (s.b∈pl))
  new1:∀(j:Nat)(s:SideM),R[j]?=some s→rdN Y (natA M ((j+1)%R.length)) 1=some (((natA M j:Nat):Int),decide (s.b∈pl))
  oldV:∀t:Nat,t<S.length→(t:Int)∉ts→rdV Y t=rdV S t
  oldN:∀t i:Nat,t<S.length→(t:Int)∉ts→i<3→(∃j s,R[j]?=some s∧s.u=(t:Int)∧s.i=(i:Int)∧rdN Y t i=some (((natA M j:Nat):Int),s.f))∨((∀(j:Nat)(s:SideM),R[j]?=some s→¬(s.u=(t:Int)∧s.i=(i:Int)))∧rdN Y t i=rdN S t i)
theorem put_star(hI:InS S ts)(hal:∀t,¬GoneAt S t)(hR:RowOk S ts (rimR S ts))(hl:(rimR S ts).length=ts.length+2)(hv:v≠-2):∃M,StarM S ts (rimR S ts) v pl (putM S v pl ts) M:=by
  have hA:=fillA_all hR hv (fillA_start (R:=rimR S ts) (v:=v) hI hal) (rimR S ts).length (Nat.le_refl _);obtain⟨f1,f2⟩:=hA.full_ hI hl;have hB:=fillB_all (R:=rimR S ts) (pl:=pl) hA.nd hA.len (fun m hm=>(hA.lt m hm).1) (rimR S ts).length (Nat.le_refl _);have hjl:∀{j s},(rimR S ts)[j]?=some s→j<(rimR S ts).length:=fun h=>(List.getElem?_eq_some_iff.1 h).1;have hold:∀t:Nat,t<S.length→(t:Int)∉ts→t∉(fillA (rimR S ts) v (dropN S (sortL ts) ts.length) (rimR S ts).length).2:=fun t h1 h2 hm=>by
    rcases(hA.lt t hm).2 with g|g;·exact h2 g
    ·omega
  refine⟨_,by rw[←f1];exact hB.len,hA.len,hA.nd,fun m hm=>⟨by have:=(hA.lt m hm).1;rw[←hB.len] at this;exact this,(hA.lt m hm).2⟩,fun t ht=>f2 t (by rw[←hB.len];exact ht),fun j s hs=>?_,fun j s hs=>?_,fun j s hs=>hB.n0 j s (hjl hs) hs,fun j s hs=>hB.n1 j s (hjl hs) hs,fun t h1 h2=>?_,fun t i h1 h2 hi=>?_⟩;·exact(hB.V _).trans (hA.newV j s (hjl hs) hs).1
  ·exact(hB.keep _ 2 (by omega) (.inr rfl)).trans (hA.newV j s (hjl hs) hs).2
  ·exact(hB.V t).trans (hA.oldV t h1 h2)
  · have e:=hB.keep t i hi (.inl (hold t h1 h2));rcases hA.oldN t i h1 h2 hi with⟨j,s,g1,g2,g3,g4,g5⟩|⟨g1,g2⟩;·exact .inl ⟨j,s,g2,g3,g4,e.trans g5⟩
    ·exact .inr ⟨fun j s hs=>g1 j s (hjl hs) hs,e.trans g2⟩
end
end Go.MagM
namespace Go.MagM
open Go.Proofs.YtdmfbkhafnkcfaaGreat
theorem rd_vA{S:List TriM}{t:Nat}{x y z:Int}(h:rdV S t=some (x,y,z)):t<S.length∧vA S t 0=x∧vA S t 1=y∧vA S t 2=z:=by unfold rdV at h;cases e:S[t]? with|none=>rw[e] at h;cases h|some T=>rw[e] at h;simp only[Option.map_some,Option.some.injEq,Prod.mk.injEq] at h;refine⟨(List.getElem?_eq_some_iff.1 e).1,?_⟩;unfold vA;rw[e];exact h
theorem rd_nA{S:List TriM}{t i:Nat}{x:Int}{f:Bool}(hi:i<3)(h:rdN S t i=some (x,f)):nA S t i=x.toNat∧fA S t i=f:=by unfold rdN at h;cases e:S[t]? with|none=>rw[e] at h;cases h|some T=>rw[e] at h;simp only[Option.map_some,Option.some.injEq,Prod.mk.injEq] at h;unfold nA fA;rw[e];simp only[];rw[Nat.mod_eq_of_lt hi,h.1,h.2];exact⟨rfl,rfl⟩
theorem vA_rd{S Y:List TriM}{t u:Nat}(h:rdV Y t=rdV S u)(i:Nat)(hu:u<S.length):vA Y t i=vA S u i:=by
  have hs:rdV S u=some (S[u].v0,S[u].v1,S[u].v2):=by unfold rdV;rw[List.getElem?_eq_getElem hu];rfl
  obtain⟨-,a0,a1,a2⟩:=rd_vA (h.trans hs);obtain⟨-,b0,b1,b2⟩:=rd_vA hs;obtain e|e|e:i%3=0%3∨i%3=1%3∨i%3=2%3:=by omega
  ·rw[vA_eq Y t e,vA_eq S u e,a0,b0]
  ·rw[vA_eq Y t e,vA_eq S u e,a1,b1]
  ·rw[vA_eq Y t e,vA_eq S u e,a2,b2]
structure Rim(S:List TriM)(us:List Nat)(R:List SideM):Prop where
  src:∀(k:Nat)(s:SideM),R[k]?=some s→∃t i j u,t∈us∧i<3∧s.a=vA S t (i+1)∧s.b=vA S t (i+2)∧s.u=((u:Nat):Int)∧u=nA S t i∧u<S.length∧u∉us∧s.i=((j:Nat):Int)∧j<3∧vA S u (j+1)=s.b∧vA S u (j+2)=s.a∧nA S u j=t∧s.f=fA S t i∧fA S u j=s.f
  tgt:∀t∈us,∀i,nA S t i∉us→∃(k:Nat) (s:SideM),R[k]?=some s∧s.a=vA S t (i+1)∧s.b=vA S t (i+2)
  nxt:∀(k:Nat)(s s':SideM),R[k]?=some s→R[(k+1)%R.length]?=some s'→s'.a=s.b
  inj:∀(j k:Nat)(s s':SideM),R[j]?=some s→R[k]?=some s'→s.a=s'.a→j=k
  three:3≤R.length
section
variable{n:Nat}{P:List (Int×Int)}{S:List TriM}{d p:Int×Int}{st us:List Nat}{ts:List Int}
theorem sdM_src(hN:Net n S){s:Nat×Nat}(ht:s.1<S.length)(hi:s.2<3):∃j u,(sdM S s).u=((u:Nat):Int)∧u=nA S s.1 s.2∧u<S.length∧(sdM S s).i=((j:Nat):Int)∧j<3∧vA S u (j+1)=edB S s∧vA S u (j+2)=edA S s∧nA S u j=s.1∧(sdM S s).f=fA S s.1 s.2∧fA S u j=(sdM S s).f:=by
  obtain⟨j,hu,m1,m2,m3,m4⟩:=hN.mate s.1 ht s.2;have hT:S[s.1]?=some S[s.1]:=List.getElem?_eq_getElem ht;have hn:S[s.1].n s.2=((nA S s.1 s.2:Nat):Int):=by
    have h0:=hN.nn s.1 _ hT s.2 hi;unfold nA;rw[hT];simp only[];rw[Nat.mod_eq_of_lt hi];omega
  have hf:S[s.1].f s.2=fA S s.1 s.2:=by unfold fA;rw[hT];simp only[];rw[Nat.mod_eq_of_lt hi]
  have hsd:sdM S s=sideS S S[s.1] s.2:=by unfold sdM;rw[hT]
  have hU:S[nA S s.1 s.2]?=some S[nA S s.1 s.2]:=List.getElem?_eq_getElem hu;refine⟨j%3,nA S s.1 s.2,by rw[hsd];exact hn,rfl,hu,?_,Nat.mod_lt _ (by omega),?_,?_,by rw[nA_mod];exact m3,by rw[hsd];exact hf,by rw[hsd,fA_mod,m4];exact hf.symm⟩
  · rw[hsd];show outI S (S[s.1].n s.2) (edgeV S[s.1] s.2).2 (edgeV S[s.1] s.2).1=_;have he:edgeV S[s.1] s.2=(edA S s,edB S s):=by rw[edgeV_is _ hi];unfold edA edB vA;rw[hT]
    rw[he,hn];unfold outI;rw[Int.toNat_natCast,hU];simp only[];have hev:∀k,k<3→edgeV S[nA S s.1 s.2] k=(vA S (nA S s.1 s.2) (k+1),vA S (nA S s.1 s.2) (k+2)):=fun k hk=>by rw[edgeV_is _ hk];unfold vA;rw[hU]
    refine edgeT_hit (Nat.mod_lt _ (by omega)) ?_ fun k hk e=>?_;·rw[hev _ (Nat.mod_lt _ (by omega)),vA_eq S _ (show(j%3+1)%3=(j+1)%3 by omega),vA_eq S _ (show(j%3+2)%3=(j+2)%3 by omega),m1,m2];rfl
    · rw[hev _ (by omega),Prod.mk.injEq] at e;have:=hN.corner hu (e.1.trans m1.symm);omega
  ·rw[vA_eq S _ (show(j%3+1)%3=(j+1)%3 by omega)];exact m1
  ·rw[vA_eq S _ (show(j%3+2)%3=(j+2)%3 by omega)];exact m2
theorem chn_next{rim:List (Nat×Nat)}:∀{a b:Int},Chn S rim a b→∀(k:Nat)(s s':Nat×Nat),rim[k]?=some s→rim[k+1]?=some s'→edA S s'=edB S s:=by induction rim with|nil=>intro a b _ k s s' h;simp at h|cons x r ih=>intro a b h k s s' h1 h2;cases k with
    |zero=>
      simp at h1;subst h1;cases r with|nil=>simp at h2|cons y r=>simp at h2;subst h2;exact h.2.1
    |succ k=>exact ih h.2 k s s' (by simpa using h1) (by simpa using h2)
theorem chn_end{rim:List (Nat×Nat)}:∀{a b:Int},Chn S rim a b→∀(s:Nat×Nat),rim[rim.length-1]?=some s→edB S s=b:=by induction rim with|nil=>intro a b _ s h;simp at h|cons x r ih=>intro a b h s h1;cases r with|nil=>simp at h1;subst h1;exact h.2|cons y r=>refine ih h.2 s ?_;simpa using h1
theorem Hole.rim(hN:Net n S)(hI:InS S ts)(hus:∀x:Nat,(x:Int)∈ts↔x∈us){rim:List (Nat×Nat)}(h:Hole P S d p st us rim)(hne:us≠[]):∃m:List (Nat×Nat),m.Perm rim∧rimR S ts=m.map (sdM S)∧Rim S us (rimR S ts):=by
  obtain⟨l,r,rfl,hR⟩:=h.row hN hI hus;have hp:(r++l).Perm (l++r):=List.perm_append_comm;refine⟨r++l,hp,hR,?_⟩;rw[hR];obtain⟨a,hch⟩:=h.chn;obtain⟨c,hc1,hc2⟩:=chn_app.1 hch;have hch':Chn S (r++l) c c:=chn_app.2 ⟨a,hc2,hc1⟩;have hmem:∀{k:Nat}{s},(r++l)[k]?=some s→s∈l++r:=fun hk=>hp.mem_iff.1 (List.mem_of_getElem? hk);have hab:∀s∈l++r,(sdM S s).a=edA S s∧(sdM S s).b=edB S s:=fun s hs=>by obtain⟨h1,h2,-⟩:=h.rl s hs;exact sdM_a (h.lt _ h1) h2
  have hinj:∀s∈l++r,∀s'∈l++r,edA S s'=edA S s→s'=s:=fun s hs s' hs' e=>by
    obtain⟨l',r',e'⟩:=List.append_of_mem hs;rw[e'] at hs' h;simp only[List.mem_append,List.mem_cons] at hs';rcases hs' with hs'|hs'|hs';· have:=h.sorted_l hs';rw[e] at this;exact(ltV_irr this).elim
    ·exact hs'
    · have:=h.sorted_r hs';rw[e] at this;exact(ltV_irr this).elim
  have hnd:(r++l).Nodup:=by
    refine hp.nodup_iff.2 ?_;have:=h.sorted;rw[List.pairwise_map] at this;exact List.nodup_iff_pairwise_ne.2 (this.imp fun{a b} hab e=>by rw[e] at hab;exact ltV_irr hab)
  have hlen:3≤(r++l).length:=by
    rw[hp.length_eq,h.cnt];have:0<us.length:=List.length_pos_iff.2 hne;omega
  refine⟨fun k s hs=>?_,fun t ht i hi=>?_,fun k s s' h1 h2=>?_,fun j k s s' h1 h2 e=>?_,by rw[List.length_map];exact hlen⟩
  · rw[List.getElem?_map] at hs;obtain⟨x,hx,rfl⟩:=Option.map_eq_some_iff.1 hs;obtain⟨h1,h2,h3⟩:=h.rl x (hmem hx);obtain⟨e1,e2⟩:=hab x (hmem hx);obtain⟨j,u,b1,b2,b3,b4,b5,b6,b7,b8,b9,b10⟩:=sdM_src hN (h.lt _ h1) h2;exact⟨x.1,x.2,j,u,h1,h2,e1,e2,b1,b2,b3,by rw[b2];exact h3,b4,b5,b6.trans e2.symm,b7.trans e1.symm,b8,b9,b10⟩
  · have:=h.all t ht (i%3) (Nat.mod_lt _ (by omega)) (by rw[nA_mod];exact hi);obtain⟨k,hk⟩:=List.mem_iff_getElem?.1 (hp.mem_iff.2 this);obtain⟨e1,e2⟩:=hab _ this;refine⟨k,sdM S (t,i%3),by rw[List.getElem?_map,hk];rfl,?_,?_⟩;·rw[e1];unfold edA;exact vA_eq S t (by simp only[];omega)
    ·rw[e2];unfold edB;exact vA_eq S t (by simp only[];omega)
  · rw[List.getElem?_map] at h1 h2;obtain⟨x,hx,rfl⟩:=Option.map_eq_some_iff.1 h1;obtain⟨y,hy,rfl⟩:=Option.map_eq_some_iff.1 h2;rw[(hab x (hmem hx)).2,(hab y (hmem hy)).1];have hk:=(List.getElem?_eq_some_iff.1 hx).1;rw[List.length_map] at hy;by_cases e:k+1=(r++l).length
    · rw[e,Nat.mod_self] at hy;have hk1:k=(r++l).length-1:=by omega
      rw[hk1] at hx;rw[chn_end hch' x hx];have:∀m,(r++l)=m→m[0]?=some y→edA S y=c:=fun m e hm=>by rw[e] at hch';cases m with
        |nil=>simp at hm|cons z m=>simp at hm;subst hm;exact hch'.1
      exact this _ rfl hy
    · rw[Nat.mod_eq_of_lt (by omega)] at hy;exact chn_next hch' k x y hx hy
  · rw[List.getElem?_map] at h1 h2;obtain⟨x,hx,rfl⟩:=Option.map_eq_some_iff.1 h1;obtain⟨y,hy,rfl⟩:=Option.map_eq_some_iff.1 h2;rw[(hab x (hmem hx)).1,(hab y (hmem hy)).1] at e;have exy:=hinj y (hmem hy) x (hmem hx) e;subst exy;exact(List.getElem?_inj (List.getElem?_eq_some_iff.1 hx).1 hnd).1 (hx.trans hy.symm)
theorem Rim.rowOk{R:List SideM}(h:Rim S us R)(hus:∀x:Nat,(x:Int)∈ts↔x∈us):RowOk S ts R:=by
  refine⟨fun s hs=>?_,fun j k s s' h1 h2 e1 e2=>?_⟩
  · obtain⟨k,hk⟩:=List.mem_iff_getElem?.1 hs;obtain⟨t,i,j,u,b1,b2,b3,b4,b5,b6,b7,b8,b9,b10,-⟩:=h.src k s hk;exact⟨u,j,b5,b9,b10,b7,fun k=>b8 ((hus u).1 k)⟩
  · obtain⟨t,i,a,u,b1,b2,b3,b4,b5,b6,b7,b8,b9,b10,b11,b12,-⟩:=h.src j s h1;obtain⟨t',i',a',u',c1,c2,c3,c4,c5,c6,c7,c8,c9,c10,c11,c12,-⟩:=h.src k s' h2;have eu:u=u':=by omega
    have ea:a=a':=by omega
    subst eu;subst ea;exact h.inj j k s s' h1 h2 (b12.symm.trans c12)
end
end Go.MagM
namespace Go.MagM
open Go.Proofs.YtdmfbkhafnkcfaaGreat
theorem rdN_at{S:List TriM}{t i:Nat}{T:TriM}(hT:S[t]?=some T){x:Int}{f:Bool}(h:rdN S t i=some (x,f)):T.n i=x:=by unfold rdN at h;rw[hT] at h;simp only[Option.map_some,Option.some.injEq,Prod.mk.injEq] at h;exact h.1
structure StarA(S:List TriM)(us:List Nat)(R:List SideM)(v:Int)(pl:List Int)(Y:List TriM)(M:List Nat):Prop where
  slot:∀t,t<Y.length→(∃k s,R[k]?=some s∧t=natA M k)∨(t<S.length∧t∉us)
  mlt:∀(k:Nat)(s:SideM),R[k]?=some s→natA M k<Y.length
  minj:∀(j k:Nat)(s s':SideM),R[j]?=some s→R[k]?=some s'→natA M j=natA M k→j=k
  mold:∀(k:Nat)(s:SideM),R[k]?=some s→natA M k∈us∨S.length≤natA M k
  olt:∀t,t<S.length→t∉us→t<Y.length
  v0:∀(k:Nat)(s:SideM),R[k]?=some s→vA Y (natA M k) 0=s.a∧vA Y (natA M k) 1=s.b∧vA Y (natA M k) 2=v
  n2:∀(k:Nat)(s:SideM)(u:Nat),R[k]?=some s→s.u=(u:Int)→nA Y (natA M k) 2=u∧fA Y (natA M k) 2=s.f
  n0:∀(k:Nat)(s:SideM),R[k]?=some s→nA Y (natA M k) 0=natA M ((k+1)%R.length)∧fA Y (natA M k) 0=decide (s.b∈pl)
  n1:∀(k:Nat)(s:SideM),R[k]?=some s→nA Y (natA M ((k+1)%R.length)) 1=natA M k∧fA Y (natA M ((k+1)%R.length)) 1=decide (s.b∈pl)
  ov:∀t,t<S.length→t∉us→∀i,vA Y t i=vA S t i
  on:∀t,t<S.length→t∉us→∀i,(∃k s,R[k]?=some s∧s.u=(t:Int)∧s.i=((i%3:Nat):Int)∧nA Y t i=natA M k∧fA Y t i=s.f)∨((∀(k:Nat)(s:SideM),R[k]?=some s→¬(s.u=(t:Int)∧s.i=((i%3:Nat):Int)))∧nA Y t i=nA S t i∧fA Y t i=fA S t i)
section
variable{n:Nat}{S Y:List TriM}{us:List Nat}{ts:List Int}{R:List SideM}{v:Int}{pl:List Int}{M:List Nat}
theorem StarM.star(h:StarM S ts R v pl Y M)(hus:∀x:Nat,(x:Int)∈ts↔x∈us):StarA S us R v pl Y M:=by
  have hjl:∀{j:Nat}{s:SideM},R[j]?=some s→j<M.length:=fun hs=>by rw[h.mlen];exact(List.getElem?_eq_some_iff.1 hs).1
  refine⟨fun t ht=>?_,fun k s hs=>(h.mlt _ (natA_mem (hjl hs))).1,fun j k s s' h1 h2 e=>natA_inj h.nd (hjl h1) (hjl h2) e,fun k s hs=>?_,fun t ht htn=>?_,fun k s hs=>(rd_vA (h.newV k s hs)).2,fun k s u hs hu=>?_,fun k s hs=>?_,fun k s hs=>?_,fun t ht htn i=>vA_rd (h.oldV t ht (fun k=>htn ((hus t).1 k))) i ht,fun t ht htn i=>?_⟩
  · rcases h.all t ht with hm|⟨h1,h2⟩
    · obtain⟨k,hk⟩:=List.mem_iff_getElem?.1 hm;have hkl:=(List.getElem?_eq_some_iff.1 hk).1;rw[h.mlen] at hkl;exact .inl ⟨k,R[k],List.getElem?_eq_getElem hkl,by unfold natA;rw[hk];rfl⟩
    ·exact .inr ⟨h1,fun k=>h2 ((hus t).2 k)⟩
  · rcases(h.mlt _ (natA_mem (hjl hs))).2 with g|g;·exact .inl ((hus _).1 g)
    ·exact .inr g
  ·have:=h.len;omega
  · obtain⟨e1,e2⟩:=rd_nA (by omega) (h.new2 k s hs);rw[hu,Int.toNat_natCast] at e1;exact⟨e1,e2⟩
  · obtain⟨e1,e2⟩:=rd_nA (by omega) (h.new0 k s hs);rw[Int.toNat_natCast] at e1;exact⟨e1,e2⟩
  · obtain⟨e1,e2⟩:=rd_nA (by omega) (h.new1 k s hs);rw[Int.toNat_natCast] at e1;exact⟨e1,e2⟩
  · have hm:i%3<3:=Nat.mod_lt _ (by omega);rcases h.oldN t (i%3) ht (fun k=>htn ((hus t).1 k)) hm with⟨j,s,g1,g2,g3,g4⟩|⟨g1,g2⟩
    · obtain⟨e1,e2⟩:=rd_nA hm g4;rw[Int.toNat_natCast] at e1;rw[nA_mod] at e1;rw[fA_mod] at e2;exact .inl ⟨j,s,g1,g2,g3,e1,e2⟩
    · right;refine⟨g1,?_⟩;have hT:S[t]?=some S[t]:=List.getElem?_eq_getElem ht;have:rdN S t (i%3)=some (S[t].n (i%3),S[t].f (i%3)):=by unfold rdN;rw[hT];rfl
      rw[this] at g2;obtain⟨e1,e2⟩:=rd_nA hm g2;rw[nA_mod] at e1;rw[fA_mod] at e2;rw[e1,e2];unfold nA fA;rw[hT];exact⟨rfl,rfl⟩
theorem pred_mod{n k:Nat}(h:k<n):∃k',k'<n∧(k'+1)%n=k:=by cases k with|zero=>exact⟨n-1,by omega,by rw[show n-1+1=n by omega,Nat.mod_self]⟩|succ k=>exact⟨k,by omega,Nat.mod_eq_of_lt h⟩
theorem net_put(hN:Net n S)(hR:Rim S us R)(hu:∀t∈us,t<S.length)(h:StarA S us R v pl Y M)(hv:0≤v∧v<n)(hun:∀t,t<S.length→∀i,vA S t i≠v)(hpl:∀x∈pl,0≤x)(hnn:∀(t:Nat)(T:TriM),Y[t]?=some T→∀i,i<3→0≤T.n i):Net n Y:=by
  have hR3:=hR.three;have nx:∀(k:Nat)(s:SideM),R[k]?=some s→∃s',R[(k+1)%R.length]?=some s'∧s'.a=s.b:=fun k s hs=>by
    have hl:(k+1)%R.length<R.length:=Nat.mod_lt _ (by omega);exact⟨_,List.getElem?_eq_getElem hl,hR.nxt k s _ hs (List.getElem?_eq_getElem hl)⟩
  have pv:∀(k:Nat)(s:SideM),R[k]?=some s→∃k' s',R[k']?=some s'∧(k'+1)%R.length=k∧s.a=s'.b:=fun k s hs=>by obtain⟨k',h1,h2⟩:=pred_mod (List.getElem?_eq_some_iff.1 hs).1;exact⟨k',R[k'],List.getElem?_eq_getElem h1,h2,hR.nxt k' _ s (List.getElem?_eq_getElem h1) (by rw[h2];exact hs)⟩
  have arng:∀(k:Nat)(s:SideM),R[k]?=some s→(s.a=-1∨(0≤s.a∧s.a<n))∧(s.b=-1∨(0≤s.b∧s.b<n))∧s.a≠s.b∧s.a≠v∧s.b≠v:=fun k s hs=>by
    obtain⟨t,i,j,u,b1,b2,b3,b4,-⟩:=hR.src k s hs;rw[b3,b4];exact⟨hN.rng t (hu t b1) _,hN.rng t (hu t b1) _,hN.apart t (hu t b1) (i+1),hun t (hu t b1) _,hun t (hu t b1) _⟩
  have nv:∀(k:Nat)(s:SideM)(i:Nat),R[k]?=some s→(i%3=0∧vA Y (natA M k) i=s.a)∨(i%3=1∧vA Y (natA M k) i=s.b)∨(i%3=2∧vA Y (natA M k) i=v):=fun k s i hs=>by
    obtain⟨a0,a1,a2⟩:=h.v0 k s hs;obtain e|e|e:i%3=0∨i%3=1∨i%3=2:=by omega
    ·exact .inl ⟨e,by rw[vA_eq Y _ (show i%3=0%3 by omega)];exact a0⟩
    ·exact .inr (.inl ⟨e,by rw[vA_eq Y _ (show i%3=1%3 by omega)];exact a1⟩)
    ·exact .inr (.inr ⟨e,by rw[vA_eq Y _ (show i%3=2%3 by omega)];exact a2⟩)
  have apart:∀t,t<Y.length→∀i,vA Y t i≠vA Y t (i+1):=fun t ht i=>by
    rcases h.slot t ht with⟨k,s,hs,rfl⟩|⟨h1,h2⟩;· obtain⟨-,-,c1,c2,c3⟩:=arng k s hs;rcases nv k s i hs with⟨e,x⟩|⟨e,x⟩|⟨e,x⟩<;>rcases nv k s (i+1) hs with⟨e',x'⟩|⟨e',x'⟩|⟨e',x'⟩<;>rw[x,x']<;>first|omega|exact c1|exact c3|exact fun y=>c2 y.symm
    ·rw[h.ov t h1 h2,h.ov t h1 h2];exact hN.apart t h1 i
  have oldnew:∀(t k:Nat)(s:SideM)(i:Nat),t<S.length→t∉us→R[k]?=some s→vA S t i=s.a→vA S t (i+1)=s.b→False:=fun t k s i ht htn hs e1 e2=>by
    obtain⟨t',i',j,u,b1,b2,b3,b4,-⟩:=hR.src k s hs;obtain⟨e,-⟩:=hN.once t t' i (i'+1) ht (hu t' b1) (e1.trans b3) (e2.trans b4);exact htn (e▸b1)
  refine⟨fun t ht i=>?_,apart,fun t u i j ht hul e1 e2=>?_,fun t ht i=>?_,hnn,fun t ht i hi=>?_,fun t ht i hi k=>?_⟩
  · rcases h.slot t ht with⟨k,s,hs,rfl⟩|⟨h1,h2⟩
    · obtain⟨c1,c2,-⟩:=arng k s hs;rcases nv k s i hs with⟨-,x⟩|⟨-,x⟩|⟨-,x⟩<;>rw[x];·exact c1
      ·exact c2
      ·exact .inr hv
    ·rw[h.ov t h1 h2];exact hN.rng t h1 i
  · rcases h.slot t ht with⟨k,s,hs,rfl⟩|⟨h1,h2⟩<;>rcases h.slot u hul with⟨k',s',hs',rfl⟩|⟨h3,h4⟩
    · obtain⟨-,-,c1,c2,c3⟩:=arng k s hs;obtain⟨-,-,d1,d2,d3⟩:=arng k' s' hs';obtain⟨z,hz,hz'⟩:=nx k s hs;obtain⟨z',hw,hw'⟩:=nx k' s' hs';have same:k=k'→natA M k=natA M k':=fun e=>by rw[e]
      have hbb:s.b=s'.b→k=k':=fun e=>by
        have:=hR.inj _ _ _ _ hz hw (by rw[hz',hw',e]);exact mod_succ_inj (List.getElem?_eq_some_iff.1 hs).1 (List.getElem?_eq_some_iff.1 hs').1 this
      rcases nv k s i hs with⟨g,x⟩|⟨g,x⟩|⟨g,x⟩<;>rcases nv k' s' j hs' with⟨g',x'⟩|⟨g',x'⟩|⟨g',x'⟩<;>rcases nv k s (i+1) hs with⟨g1,y⟩|⟨g1,y⟩|⟨g1,y⟩<;>rcases nv k' s' (j+1) hs' with⟨g1',y'⟩|⟨g1',y'⟩|⟨g1',y'⟩<;>first|omega|skip
      all_goals rw[x,x'] at e1
      all_goals rw[y,y'] at e2
      exact⟨same (hR.inj _ _ _ _ hs hs' e2),by omega⟩
    · rw[h.ov u h3 h4] at e1 e2;rcases nv k s i hs with⟨g,x⟩|⟨g,x⟩|⟨g,x⟩<;>rcases nv k s (i+1) hs with⟨g1,y⟩|⟨g1,y⟩|⟨g1,y⟩<;>first|omega|skip
      ·exact(oldnew u k s j h3 h4 hs (e1.symm.trans x) (e2.symm.trans y)).elim
      ·exact absurd (e2.symm.trans y) (hun u h3 _)
      ·exact absurd (e1.symm.trans x) (hun u h3 _)
    · rw[h.ov t h1 h2] at e1 e2;rcases nv k' s' j hs' with⟨g,x⟩|⟨g,x⟩|⟨g,x⟩<;>rcases nv k' s' (j+1) hs' with⟨g1,y⟩|⟨g1,y⟩|⟨g1,y⟩<;>first|omega|skip
      ·exact(oldnew t k' s' i h1 h2 hs' (e1.trans x) (e2.trans y)).elim
      ·exact absurd (e2.trans y) (hun t h1 _)
      ·exact absurd (e1.trans x) (hun t h1 _)
    · rw[h.ov t h1 h2] at e1 e2;rw[h.ov u h3 h4] at e1 e2;exact hN.once t u i j h1 h3 e1 e2
  · rcases h.slot t ht with⟨k,s,hs,rfl⟩|⟨h1,h2⟩
    · obtain⟨a0,a1,a2⟩:=h.v0 k s hs;obtain⟨t',i',j,u,b1,b2,b3,b4,b5,b6,b7,b8,b9,b10,b11,b12,b13,b14,b15⟩:=hR.src k s hs;obtain e|e|e:i%3=0∨i%3=1∨i%3=2:=by omega
      · obtain⟨z,hz,hz'⟩:=nx k s hs;obtain⟨c0,c1,c2⟩:=h.v0 _ z hz;obtain⟨n0,f0⟩:=h.n0 k s hs;obtain⟨n1,f1⟩:=h.n1 k s hs;rw[nA_eq Y _ (show i%3=0%3 by omega),fA_eq Y _ (show i%3=0%3 by omega),n0,f0];refine⟨1,h.mlt _ z hz,?_,?_,n1,f1⟩;·rw[vA_eq Y _ (show(i+2)%3=2%3 by omega),a2];exact c2
        ·rw[vA_eq Y _ (show(i+1)%3=1%3 by omega),a1,vA_eq Y _ (show(1+2)%3=0%3 by omega),c0,hz']
      · obtain⟨k',s',hs',ek,es⟩:=pv k s hs;obtain⟨c0,c1,c2⟩:=h.v0 k' s' hs';obtain⟨n0,f0⟩:=h.n0 k' s' hs';obtain⟨n1,f1⟩:=h.n1 k' s' hs';rw[ek] at n0 n1 f1;rw[nA_eq Y _ (show i%3=1%3 by omega),fA_eq Y _ (show i%3=1%3 by omega),n1,f1];refine⟨0,h.mlt _ s' hs',?_,?_,n0,f0⟩;·rw[vA_eq Y _ (show(i+2)%3=0%3 by omega),a0,es];exact c1
        ·rw[vA_eq Y _ (show(i+1)%3=2%3 by omega),a2];exact c2
      · obtain⟨n2,f2⟩:=h.n2 k s u hs b5;rw[nA_eq Y _ (show i%3=2%3 by omega),fA_eq Y _ (show i%3=2%3 by omega),n2,f2];refine⟨j,h.olt u b7 b8,?_,?_,?_,?_⟩;·rw[h.ov u b7 b8,b11,vA_eq Y _ (show(i+2)%3=1%3 by omega),a1]
        ·rw[h.ov u b7 b8,b12,vA_eq Y _ (show(i+1)%3=0%3 by omega),a0]
        · rcases h.on u b7 b8 j with⟨k',s',g1,g2,g3,g4,g5⟩|⟨g1,-⟩
          · obtain⟨t2,i2,j2,u2,d1,d2,d3,d4,d5,d6,d7,d8,d9,d10,d11,d12,d13,d14,d15⟩:=hR.src k' s' g1;have eu:u2=u:=by omega
            have ej:j2=j:=by omega
            subst eu;subst ej;have:=hR.inj _ _ _ _ hs g1 (b12.symm.trans d12);rw[g4,this]
          ·exact absurd ⟨b5,by rw[Nat.mod_eq_of_lt b10];exact b9⟩ (g1 k s hs)
        · rcases h.on u b7 b8 j with⟨k',s',g1,g2,g3,g4,g5⟩|⟨g1,-⟩
          · obtain⟨t2,i2,j2,u2,d1,d2,d3,d4,d5,d6,d7,d8,d9,d10,d11,d12,d13,d14,d15⟩:=hR.src k' s' g1;have eu:u2=u:=by omega
            have ej:j2=j:=by omega
            subst eu;subst ej;rw[g5,←d15,b15]
          ·exact absurd ⟨b5,by rw[Nat.mod_eq_of_lt b10];exact b9⟩ (g1 k s hs)
    · obtain⟨j,m0,m1,m2,m3,m4⟩:=hN.mate t h1 i;rcases h.on t h1 h2 i with⟨k,s,g1,g2,g3,g4,g5⟩|⟨g1,g2,g3⟩
      · obtain⟨t',i',j',u,b1,b2,b3,b4,b5,b6,b7,b8,b9,b10,b11,b12,b13,b14,b15⟩:=hR.src k s g1;have eu:u=t:=by omega
        have ej:j'=i%3:=by omega
        subst eu;subst ej;obtain⟨a0,a1,a2⟩:=h.v0 k s g1;obtain⟨n2,f2⟩:=h.n2 k s u g1 b5;rw[vA_eq S u (show(i%3+1)%3=(i+1)%3 by omega)] at b11;rw[vA_eq S u (show(i%3+2)%3=(i+2)%3 by omega)] at b12;rw[g4,g5];refine⟨2,h.mlt k s g1,?_,?_,n2,f2⟩;·rw[vA_eq Y _ (show(2+1)%3=0%3 by omega),a0,h.ov u h1 h2,b12]
        ·rw[vA_eq Y _ (show(2+2)%3=1%3 by omega),a1,h.ov u h1 h2,b11]
      · have hno:nA S t i∉us:=fun hm=>by
          obtain⟨k,s,c1,c2,c3⟩:=hR.tgt _ hm j (by rw[m3];exact h2);obtain⟨t',i',j',u,b1,b2,b3,b4,b5,b6,b7,b8,b9,b10,b11,b12,b13,b14,b15⟩:=hR.src k s c1;obtain⟨e,e'⟩:=hN.once _ _ _ _ m0 (hu t' b1) (c2.symm.trans b3) (c3.symm.trans b4);have eu:u=t:=by rw[b6,←e,nA_eq S _ (show i'%3=j%3 by omega),m3]
          subst eu;have:=hN.corner h1 ((b11.trans c3).trans m2)
          exact g1 k s c1 ⟨b5, by rw[b9];have:j'=i%3:=by omega
                                  rw[this]⟩
        rw[g2,g3];refine⟨j,h.olt _ m0 hno,by rw[h.ov _ m0 hno,h.ov t h1 h2];exact m1,by rw[h.ov _ m0 hno,h.ov t h1 h2];exact m2,?_,?_⟩
        · rcases h.on _ m0 hno j with⟨k',s',c1,c2,c3,c4,c5⟩|⟨-,c1,-⟩
          · exfalso;obtain⟨t',i',j',u,b1,b2,b3,b4,b5,b6,b7,b8,b9,b10,b11,b12,b13,-⟩:=hR.src k' s' c1;have eu:u=nA S t i:=by omega
            have ej:j'=j%3:=by omega
            rw[eu,ej,nA_mod,m3] at b13;exact h2 (b13▸b1)
          ·rw[c1,m3]
        · rcases h.on _ m0 hno j with⟨k',s',c1,c2,c3,c4,c5⟩|⟨-,-,c1⟩
          · exfalso;obtain⟨t',i',j',u,b1,b2,b3,b4,b5,b6,b7,b8,b9,b10,b11,b12,b13,-⟩:=hR.src k' s' c1;have eu:u=nA S t i:=by omega
            have ej:j'=j%3:=by omega
            rw[eu,ej,nA_mod,m3] at b13;exact h2 (b13▸b1)
          ·rw[c1,m4]
  · rcases h.slot t ht with⟨k,s,hs,rfl⟩|⟨h1,h2⟩
    · obtain⟨t',i',j,u,b1,b2,b3,b4,b5,b6,b7,b8,b9,b10,b11,b12,b13,b14,b15⟩:=hR.src k s hs;obtain⟨-,f2⟩:=h.n2 k s u hs b5;rcases nv k s i hs with⟨g,x⟩|⟨g,x⟩|⟨g,x⟩
      · obtain⟨k',s',hs',ek,es⟩:=pv k s hs;obtain⟨-,f1⟩:=h.n1 k' s' hs';rw[ek,←es] at f1;have ha:s.a=-1:=x.symm.trans hi;have:=hN.gf t' (hu t' b1) (i'+1) (b3.symm.trans ha);rw[fA_eq Y _ (show(i+1)%3=1%3 by omega),fA_eq Y _ (show(i+2)%3=2%3 by omega),f1,f2,b14];refine⟨decide_eq_false fun hm=>by have:=hpl _ hm;omega,?_⟩;rw[fA_eq S _ (show i'%3=(i'+1+2)%3 by omega)];exact this.2
      · obtain⟨-,f0⟩:=h.n0 k s hs;have ha:s.b=-1:=x.symm.trans hi;have:=hN.gf t' (hu t' b1) (i'+2) (b4.symm.trans ha);rw[fA_eq Y _ (show(i+1)%3=2%3 by omega),fA_eq Y _ (show(i+2)%3=0%3 by omega),f0,f2,b14];refine⟨?_,decide_eq_false fun hm=>by have:=hpl _ hm;omega⟩;rw[fA_eq S _ (show i'%3=(i'+2+1)%3 by omega)];exact this.1
      ·omega
    · rw[h.ov t h1 h2] at hi;have:=hN.gf t h1 i hi;constructor
      · rcases h.on t h1 h2 (i+1) with⟨k,s,g1,g2,g3,g4,g5⟩|⟨-,-,g⟩
        · obtain⟨t',i',j,u,b1,b2,b3,b4,b5,b6,b7,b8,b9,b10,b11,b12,b13,b14,b15⟩:=hR.src k s g1;have eu:u=t:=by omega
          have ej:j=(i+1)%3:=by omega
          rw[g5,←b15,eu,ej,fA_mod];exact this.1
        ·rw[g];exact this.1
      · rcases h.on t h1 h2 (i+2) with⟨k,s,g1,g2,g3,g4,g5⟩|⟨-,-,g⟩
        · obtain⟨t',i',j,u,b1,b2,b3,b4,b5,b6,b7,b8,b9,b10,b11,b12,b13,b14,b15⟩:=hR.src k s g1;have eu:u=t:=by omega
          have ej:j=(i+2)%3:=by omega
          rw[g5,←b15,eu,ej,fA_mod];exact this.2
        ·rw[g];exact this.2
  · rcases h.slot t ht with⟨k',s,hs,rfl⟩|⟨h1,h2⟩
    · rcases nv k' s i hs with⟨g,x⟩|⟨g,x⟩|⟨g,x⟩
      · have ha:s.a=-1:=x.symm.trans hi;obtain⟨z,hz,hz'⟩:=nx k' s hs;obtain⟨y,hy,hy'⟩:=nx _ z hz;obtain⟨n0,-⟩:=h.n0 k' s hs;rw[nA_eq Y _ (show i%3=0%3 by omega),n0];obtain⟨-,-,c1,-,-⟩:=arng k' s hs;rcases nv _ z k hz with⟨-,x⟩|⟨-,x⟩|⟨-,x⟩<;>rw[x];·rw[hz'];exact fun e=>c1 (ha.trans e.symm)
        · intro e;have:=hR.inj _ _ _ _ hs hy (by rw[hy',e,ha]);have hk:=(List.getElem?_eq_some_iff.1 hs).1;have e1:(k'+1)%R.length=if k'+1=R.length then 0 else k'+1:=by
            split;·rename_i h;rw[h,Nat.mod_self]
            ·exact Nat.mod_eq_of_lt (by omega)
          rw[e1] at this;split at this;·rw[Nat.mod_eq_of_lt (by omega)] at this;omega
          · by_cases e2:k'+1+1=R.length;·rw[e2,Nat.mod_self] at this;omega
            ·rw[Nat.mod_eq_of_lt (by omega)] at this;omega
        ·omega
      · have ha:s.b=-1:=x.symm.trans hi;obtain⟨k1,s1,hs1,ek,es⟩:=pv k' s hs;obtain⟨z,hz,hz'⟩:=nx k' s hs;obtain⟨n1,-⟩:=h.n1 k1 s1 hs1;rw[ek] at n1;rw[nA_eq Y _ (show i%3=1%3 by omega),n1];obtain⟨-,-,c1,-,-⟩:=arng k' s hs;rcases nv _ s1 k hs1 with⟨-,x⟩|⟨-,x⟩|⟨-,x⟩<;>rw[x]
        · intro e;have:=hR.inj _ _ _ _ hs1 hz (by rw[hz',e,ha]);have hk:=(List.getElem?_eq_some_iff.1 hs1).1;have e1:(k1+1)%R.length=if k1+1=R.length then 0 else k1+1:=by
            split;·rename_i h;rw[h,Nat.mod_self]
            ·exact Nat.mod_eq_of_lt (by omega)
          rw[←ek,e1] at this;split at this;·rw[Nat.mod_eq_of_lt (by omega)] at this;omega
          · by_cases e2:k1+1+1=R.length;·rw[e2,Nat.mod_self] at this;omega
            ·rw[Nat.mod_eq_of_lt (by omega)] at this;omega
        ·rw[←es];exact fun e=>c1 (e.trans ha.symm)
        ·omega
      ·omega
    · rw[h.ov t h1 h2] at hi;have hg:=hN.gr t h1 i hi;rcases h.on t h1 h2 i with⟨k1,s,g1,g2,g3,g4,g5⟩|⟨g1,g2,g3⟩
      · obtain⟨t',i',j,u,b1,b2,b3,b4,b5,b6,b7,b8,b9,b10,b11,b12,b13,b14,b15⟩:=hR.src k1 s g1;have eu:u=t:=by omega
        have ej:j=i%3:=by omega
        rw[eu,ej,nA_mod] at b13;rw[b13] at hg;rw[g4];rcases nv _ s k g1 with⟨-,x⟩|⟨-,x⟩|⟨-,x⟩<;>rw[x];·rw[b3];exact hg _
        ·rw[b4];exact hg _
        ·omega
      · obtain⟨j,m0,m1,m2,m3,m4⟩:=hN.mate t h1 i;rw[g2];by_cases hm:nA S t i∈us
        · exfalso;obtain⟨k2,s,c1,c2,c3⟩:=hR.tgt _ hm j (by rw[m3];exact h2);obtain⟨t',i',j',u,b1,b2,b3,b4,b5,b6,b7,b8,b9,b10,b11,b12,b13,b14,b15⟩:=hR.src k2 s c1;obtain⟨e,e'⟩:=hN.once _ _ _ _ m0 (hu t' b1) (c2.symm.trans b3) (c3.symm.trans b4);have eu:u=t:=by rw[b6,←e,nA_eq S _ (show i'%3=j%3 by omega),m3]
          subst eu;have:=hN.corner h1 ((b11.trans c3).trans m2)
          exact g1 k2 s c1 ⟨b5, by rw[b9];have:j'=i%3:=by omega
                                   rw[this]⟩
        ·rw[h.ov _ m0 hm];exact hg k
end
end Go.MagM
namespace Go.MagM
open Go.Proofs.YtdmfbkhafnkcfaaGreat
def InT(a b p q:Int×Int):Prop:=0≤crP a b q∧0≤crP b p q∧0≤crP p a q
def Fac(P:List (Int×Int))(S:List TriM)(p:Int×Int)(t i:Nat):Prop:=t<S.length∧vA S t i=-1∧0<crP (qA P S t (i+1)) (qA P S t (i+2)) p
def Cvd(P:List (Int×Int))(S:List TriM)(p:Int×Int)(us:List Nat)(q:Int×Int):Prop:=(∃t∈us,RealA S t∧InC P S t q)∨∃t∈us,∃i,Fac P S p t i∧InT (qA P S t (i+1)) (qA P S t (i+2)) p q
def CovQ(P:List (Int×Int))(S:List TriM)(p:Int×Int)(us:List Nat)(rim:List (Nat×Nat)):Prop:=∀s∈rim,edA S s≠-1→edB S s≠-1→∀q,InT (ptV P (edA S s)) (ptV P (edB S s)) p q→Cvd P S p us q
section
variable{n:Nat}{P:List (Int×Int)}{S:List TriM}{d p:Int×Int}{st us:List Nat}{l r:List (Nat×Nat)}{t i j u:Nat}
theorem Cvd.mono{us':List Nat}{q:Int×Int}(h:Cvd P S p us q)(hs:∀x∈us,x∈us'):Cvd P S p us' q:=by
  rcases h with⟨t,ht,h⟩|⟨t,ht,h⟩;·exact .inl ⟨t,hs t ht,h⟩
  ·exact .inr ⟨t,hs t ht,h⟩
theorem inC_of(i:Nat){q:Int×Int}(h0:0≤crP (qA P S t (i+1)) (qA P S t (i+2)) q)(h1:0≤crP (qA P S t (i+2)) (qA P S t i) q)(h2:0≤crP (qA P S t i) (qA P S t (i+1)) q):InC P S t q:=by
  refine three_cases (fun i=>0≤crP (qA P S t (i+1)) (qA P S t (i+2)) q) (fun a b e k=>?_) i h0 ?_ ?_;·rw[qA_eq P S t (show(b+1)%3=(a+1)%3 by omega),qA_eq P S t (show(b+2)%3=(a+2)%3 by omega)];exact k
  ·rw[qA_eq P S t (show(i+1+2)%3=i%3 by omega)];exact h1
  ·rw[qA_eq P S t (show(i+2+1)%3=i%3 by omega),qA_eq P S t (show(i+2+2)%3=(i+1)%3 by omega)];exact h2
structure StepOk(P:List (Int×Int))(S:List TriM)(d p:Int×Int)(us:List Nat)(r:List (Nat×Nat))(t i u j:Nat):Prop where
  tin:t∈us
  tlt:t<S.length
  ult:u<S.length
  uno:u∉us
  apex:Apex P d p r (vA S t (i+1)) (vA S t (i+2)) (vA S u j)
  a1:edA S (u,(j+1)%3)=vA S t (i+1)
  b1:edB S (u,(j+1)%3)=vA S u j
  a2:edA S (u,(j+2)%3)=vA S u j
  b2:edB S (u,(j+2)%3)=vA S t (i+2)
  vis:vA S t (i+1)≠-1→vA S t (i+2)≠-1→0<crP (qA P S t (i+1)) (qA P S t (i+2)) p
theorem Hole.stepOk(hS:Site n P S d p st)(h:Hole P S d p st us (l++(t,i)::r))(hu:nA S t i=u)(hc:Cf P S p u)(h1:vA S u (j+1)=vA S t (i+2))(h2:vA S u (j+2)=vA S t (i+1)):StepOk P S d p us r t i u j:=by
  obtain⟨htu,hi3,hnu⟩:=h.rl (t,i) (by simp);have ht:=h.lt t htu;refine⟨htu,ht,?_,by rw[←hu];exact hnu,h.apex hS hu hc h1 h2,?_,?_,?_,?_,h.vis (t,i) (by simp)⟩
  · obtain⟨k,k0,-⟩:=hS.net.mate t ht i;rw[←hu];exact k0
  ·unfold edA;simp only[];rw[vA_eq S u (show((j+1)%3+1)%3=(j+2)%3 by omega),h2]
  ·unfold edB;simp only[];rw[vA_eq S u (show((j+1)%3+2)%3=j%3 by omega)]
  ·unfold edA;simp only[];rw[vA_eq S u (show((j+2)%3+1)%3=j%3 by omega)]
  ·unfold edB;simp only[];rw[vA_eq S u (show((j+2)%3+2)%3=(j+1)%3 by omega),h1]
theorem StepOk.real(h:StepOk P S d p us r t i u j)(h1:vA S u (j+1)=vA S t (i+2))(h2:vA S u (j+2)=vA S t (i+1))(hx:vA S t (i+1)≠-1)(hy:vA S t (i+2)≠-1):RealA S u:=⟨h.ult,three_cases (fun k=>vA S u k≠-1) (fun a b e k=>by rw[←vA_eq S u e];exact k) j (by have:=h.apex.z0;omega) (by rw[h1];exact hy) (by rw[h2];exact hx)⟩
theorem mem_split3{α:Type}{a x y:α}{l r:List α}(h:a∈l++x::y::r):a=x∨a=y∨a∈l∨a∈r:=by
  simp only[List.mem_append,List.mem_cons] at h;rcases h with h|h|h|h;·exact .inr (.inr (.inl h))
  ·exact .inl h
  ·exact .inr (.inl h)
  ·exact .inr (.inr (.inr h))
theorem cov_step(hS:Site n P S d p st)(h:Hole P S d p st us (l++(t,i)::r))(hq:CovQ P S p us (l++(t,i)::r))(hc:Cf P S p (nA S t i))(h1:vA S (nA S t i) (j+1)=vA S t (i+2))(h2:vA S (nA S t i) (j+2)=vA S t (i+1)):CovQ P S p (nA S t i::us) (l++(nA S t i,(j+1)%3)::(nA S t i,(j+2)%3)::r):=by
  have hk:=h.stepOk hS rfl hc h1 h2;obtain⟨u,hu⟩:∃u,nA S t i=u:=⟨_,rfl⟩;rw[hu] at hk h1 h2⊢;have q1:qA P S u (j+1)=qA P S t (i+2):=by rw[qA_is,qA_is,h1]
  have q2:qA P S u (j+2)=qA P S t (i+1):=by rw[qA_is,qA_is,h2]
  intro s hs g1 g2 q hin;rcases mem_split3 hs with rfl|rfl|hs
  · rw[hk.a1,hk.b1] at hin;rw[hk.a1] at g1;by_cases hy:vA S t (i+2)=-1;· have k1:=hk.apex.k1 g1;refine .inr ⟨u,by simp,j+1,⟨hk.ult,h1.trans hy,by rw[qA_eq P S u (show(j+1+1)%3=(j+2)%3 by omega),qA_eq P S u (show(j+1+2)%3=j%3 by omega),q2];exact k1⟩,by rw[qA_eq P S u (show(j+1+1)%3=(j+2)%3 by omega),qA_eq P S u (show(j+1+2)%3=j%3 by omega),q2];exact hin⟩
    · have hr:=hk.real h1 h2 g1 hy;have hD:=hS.pos.at_ hr.1 hr.2 (j+2);rw[qA_eq P S u (show(j+2+1)%3=j%3 by omega),qA_eq P S u (show(j+2+2)%3=(j+1)%3 by omega),q1,q2] at hD;have hv:=hk.vis g1 hy;rcases cover_on hD (hk.apex.k1 g1) (hk.apex.k2 hy) (by rw[crP_flip];show-crP (qA P S t (i+1)) (qA P S t (i+2)) p<0;omega) hin.1 hin.2.1 hin.2.2 with⟨c1,c2⟩|⟨c1,c2,c3⟩
      · refine .inl ⟨u,by simp,hr,inC_of j ?_ ?_ ?_⟩;·rw[q1,q2];exact c2
        ·rw[q2];exact hin.1
        ·rw[q1];exact c1
      ·exact(hq (t,i) (by simp) g1 hy q ⟨Int.le_of_lt c1,c2,c3⟩).mono (fun x hx=>by simp[hx])
  · rw[hk.a2,hk.b2] at hin;rw[hk.b2] at g2;by_cases hx:vA S t (i+1)=-1;· have k2:=hk.apex.k2 g2;refine .inr ⟨u,by simp,j+2,⟨hk.ult,h2.trans hx,by rw[qA_eq P S u (show(j+2+1)%3=j%3 by omega),qA_eq P S u (show(j+2+2)%3=(j+1)%3 by omega),q1];exact k2⟩,by rw[qA_eq P S u (show(j+2+1)%3=j%3 by omega),qA_eq P S u (show(j+2+2)%3=(j+1)%3 by omega),q1];exact hin⟩
    · have hr:=hk.real h1 h2 hx g2;have hD:=hS.pos.at_ hr.1 hr.2 j;rw[q1,q2] at hD;have hv:=hk.vis hx g2;rcases cover_on' hD (hk.apex.k2 g2) (by rw[crP_flip];show-crP (qA P S t (i+1)) (qA P S t (i+2)) p<0;omega) (hk.apex.k1 hx) hin.1 hin.2.1 hin.2.2 with⟨c1,c2⟩|⟨c1,c2,c3⟩
      · refine .inl ⟨u,by simp,hr,inC_of j ?_ ?_ ?_⟩;·rw[q1,q2];exact c1
        ·rw[q2];exact c2
        ·rw[q1];exact hin.1
      ·exact(hq (t,i) (by simp) hx g2 q ⟨Int.le_of_lt c1,c2,c3⟩).mono (fun x hx=>by simp[hx])
  ·exact(hq s (by rcases hs with hs|hs<;>simp[hs]) g1 g2 q hin).mono (fun x hx=>by simp[hx])
theorem cov_start(hp:PosT P S)(hst:∀t∈us,(RealA S t∧InC P S t p)∨(t<S.length∧∃i,vA S t i=-1)){rim:List (Nat×Nat)}(hr:∀s∈rim,s.1∈us)(hv:∀s∈rim,edA S s≠-1→edB S s≠-1→0<crP (ptV P (edA S s)) (ptV P (edB S s)) p):CovQ P S p us rim:=by
  intro s hs g1 g2 q hin;have hsu:=hr s hs;rcases hst s.1 hsu with⟨h,hi⟩|⟨hl,i,hi⟩
  · left;refine⟨s.1,hsu,h,?_⟩;have hD:=hp.at_ h.1 h.2 s.2;have p0:=hi s.2;have p1:=hi (s.2+1);have p2:=hi (s.2+2);rw[qA_eq P S s.1 (show(s.2+1+2)%3=s.2%3 by omega)] at p1;rw[qA_eq P S s.1 (show(s.2+2+1)%3=s.2%3 by omega),qA_eq P S s.1 (show(s.2+2+2)%3=(s.2+1)%3 by omega)] at p2;have p1':0≤crP (qA P S s.1 (s.2+2)) (qA P S s.1 s.2) p:=p1;have hin':InT (qA P S s.1 (s.2+1)) (qA P S s.1 (s.2+2)) p q:=hin;rw[←crP_cyc] at hD;obtain⟨c1,c2⟩:=cover_in (hv s hs g1 g2) hD p1' p2 hin'.1 hin'.2.1 hin'.2.2;exact inC_of s.2 hin'.1 c1 c2
  · right;have hk:s.2%3=i%3:=by
      refine Classical.byContradiction fun hc=>?_;have:(s.2+1)%3=i%3∨(s.2+2)%3=i%3:=by omega
      rcases this with e|e;·exact g1 (by unfold edA;rw[vA_eq S s.1 e];exact hi)
      ·exact g2 (by unfold edB;rw[vA_eq S s.1 e];exact hi)
    have e1:=qA_eq P S s.1 (show(i+1)%3=(s.2+1)%3 by omega);have e2:=qA_eq P S s.1 (show(i+2)%3=(s.2+2)%3 by omega);refine⟨s.1,hsu,i,⟨hl,hi,?_⟩,?_⟩;·rw[e1,e2];exact hv s hs g1 g2
    ·rw[e1,e2];exact hin
end
end Go.MagM
namespace Go.MagM
open Go.Proofs.YtdmfbkhafnkcfaaGreat
def Dt(P:List (Int×Int))(S:List TriM)(t:Nat)(q:Int×Int):Prop:=((∀k,vA S t k≠-1)∧0<incP (qA P S t 0) (qA P S t 1) (qA P S t 2) q)∨∃i,vA S t i=-1∧0<crP (qA P S t (i+1)) (qA P S t (i+2)) q
def LocD(P:List (Int×Int))(S:List TriM):Prop:=∀t i j,RealA S t→RealA S (nA S t i)→fA S t i=false→vA S (nA S t i) (j+1)=vA S t (i+2)→vA S (nA S t i) (j+2)=vA S t (i+1)→incP (qA P S t (i+1)) (qA P S t (i+2)) (qA P S t i) (qA P S (nA S t i) j)≤0
def gF(x:Int×Int)(A gx gy:Int)(q:Int×Int):Int:=gx*(q.1-x.1)+gy*(q.2-x.2)-A*sqD q x
structure PivA(P:List (Int×Int))(S:List TriM)(p:Int×Int)(rim:List (Nat×Nat))(x:Int)(A gx gy:Int):Prop where
  A0:0≤A
  pin:0<gF (ptV P x) A gx gy p
  out:∀s∈rim,edA S s=x→edB S s≠-1→gF (ptV P x) A gx gy (ptV P (edB S s))≤0∧∀q,0<crP (ptV P x) q p→crP (ptV P x) (ptV P (edB S s)) q<0→0<gF (ptV P x) A gx gy q→Dt P S s.1 q
  inn:∀s∈rim,edB S s=x→edA S s≠-1→gF (ptV P x) A gx gy (ptV P (edA S s))≤0∧∀q,0<crP q (ptV P x) p→crP (ptV P (edA S s)) (ptV P x) q<0→0<gF (ptV P x) A gx gy q→Dt P S s.1 q
  outG:∀s∈rim,edA S s=x→edB S s=-1→∀q,gF (ptV P x) A gx gy q=crP (qA P S s.1 s.2) (ptV P x) q
  innG:∀s∈rim,edB S s=x→edA S s=-1→∀q,gF (ptV P x) A gx gy q=crP (ptV P x) (qA P S s.1 s.2) q
def PivQ(P:List (Int×Int))(S:List TriM)(p:Int×Int)(ex:List Int)(rim:List (Nat×Nat)):Prop:=∀s∈rim,edA S s≠-1→edA S s∉ex→∃A gx gy,PivA P S p rim (edA S s) A gx gy
theorem pv_turn{x y z q p:Int×Int}(h1:0<crP x z p)(h2:0<crP x y p)(hz:crP x y z<0)(hq:0<crP x q p)(hn:crP x z q<0):crP x y q<0:=by
  have e:crP x q y*crP x z p=crP x q z*crP x y p+crP x z y*crP x q p:=by unfold crP crs;grind
  rw[show crP x q y=-crP x y q from crP_flip2 _ _ _,show crP x q z=-crP x z q from crP_flip2 _ _ _,show crP x z y=-crP x y z from crP_flip2 _ _ _] at e;have a1:=Int.mul_pos (show 0< -crP x z q by omega) h2;have a2:=Int.mul_pos (show 0< -crP x y z by omega) hq;refine Int.not_le.1 fun hc=>?_;have:=Int.mul_nonpos_of_nonpos_of_nonneg (show-crP x y q≤0 by omega) (Int.le_of_lt h1);omega
theorem pv_turn'{x y z q p:Int×Int}(h1:0<crP z y p)(h2:0<crP x y p)(hz:crP x y z<0)(hq:0<crP q y p)(hn:crP z y q<0):crP x y q<0:=by
  have e:crP x y q*crP z y p=crP z y q*crP x y p+crP x y z*crP q y p:=by unfold crP crs;grind
  have a1:=Int.mul_neg_of_neg_of_pos hn h2;have a2:=Int.mul_neg_of_neg_of_pos hz hq;refine Int.not_le.1 fun hc=>?_;have:=Int.mul_nonneg hc (Int.le_of_lt h1);omega
theorem pv_ghost{w x z q p:Int×Int}(hp:0<crP w x p)(hz:crP w x z≤0)(h1:0<crP x z p)(hq:0<crP x q p)(hn:crP x z q<0)(hg:0<crP w x q):False:=by
  have e:crP x z q*crP w x p=crP x z p*crP w x q-crP w x z*crP x q p:=by unfold crP crs;grind
  have a1:=Int.mul_neg_of_neg_of_pos hn hp;have a2:=Int.mul_pos h1 hg;have a3:=Int.mul_nonpos_of_nonpos_of_nonneg hz (Int.le_of_lt hq);omega
theorem pv_ghost'{w x z q p:Int×Int}(hp:0<crP x w p)(hz:crP x w z≤0)(h1:0<crP z x p)(hq:0<crP q x p)(hn:crP z x q<0)(hg:0<crP x w q):False:=by
  have e:crP z x q*crP x w p=crP z x p*crP x w q-crP x w z*crP q x p:=by unfold crP crs;grind
  have a1:=Int.mul_neg_of_neg_of_pos hn hp;have a2:=Int.mul_pos h1 hg;have a3:=Int.mul_nonpos_of_nonpos_of_nonneg hz (Int.le_of_lt hq);omega
section
variable{n:Nat}{P:List (Int×Int)}{S:List TriM}{d p:Int×Int}{st us:List Nat}{l r:List (Nat×Nat)}{t i j u:Nat}{ex:List Int}
theorem Dt.real{q:Int×Int}(h:Dt P S t q)(hr:∀k,vA S t k≠-1)(i:Nat):0<incP (qA P S t i) (qA P S t (i+1)) (qA P S t (i+2)) q:=by
  rcases h with⟨-,h⟩|⟨i,h,-⟩;·exact rot_three (qA P S t) (fun a b c=>0<incP a b c q) (fun i j e=>qA_eq P S t e) (fun a b c h=>by rw[incP_cyc];exact h) h i
  ·exact absurd h (hr i)
theorem Dt.of_real{q:Int×Int}(hr:∀k,vA S t k≠-1)(i:Nat)(h:0<incP (qA P S t i) (qA P S t (i+1)) (qA P S t (i+2)) q):Dt P S t q:=by refine .inl ⟨hr,?_⟩;have:0<incP (qA P S t (i+2*i)) (qA P S t (i+(2*i+1))) (qA P S t (i+(2*i+2))) q:=rot_three (fun k=>qA P S t (i+k)) (fun a b c=>0<incP a b c q) (fun a b e=>qA_eq P S t (by omega)) (fun a b c h=>by rw[incP_cyc];exact h) h (2*i);rw[qA_eq P S t (show(i+2*i)%3=0%3 by omega),qA_eq P S t (show(i+(2*i+1))%3=1%3 by omega),qA_eq P S t (show(i+(2*i+2))%3=2%3 by omega)] at this;exact this
theorem Dt.ghost{q:Int×Int}(h:Dt P S t q)(hN:Net n S)(ht:t<S.length){i:Nat}(hi:vA S t i=-1):0<crP (qA P S t (i+1)) (qA P S t (i+2)) q:=by
  rcases h with⟨h,-⟩|⟨j,h,h2⟩;·exact absurd hi (h i)
  · have e:=hN.corner ht (hi.trans h.symm);rw[qA_eq P S t (show(i+1)%3=(j+1)%3 by omega),qA_eq P S t (show(i+2)%3=(j+2)%3 by omega)];exact h2
theorem side_next(hG:Geo P S)(hL:LocD P S)(ht:t<S.length)(hu:nA S t i=u)(hf:fA S t i=false)(hur:RealA S u)(h1:vA S u (j+1)=vA S t (i+2))(h2:vA S u (j+2)=vA S t (i+1)):(¬Dt P S t (qA P S u j))∧∀q,crP (qA P S t (i+1)) (qA P S t (i+2)) q<0→Dt P S t q→Dt P S u q:=by
  have q1:qA P S u (j+1)=qA P S t (i+2):=by rw[qA_is,qA_is,h1]
  have q2:qA P S u (j+2)=qA P S t (i+1):=by rw[qA_is,qA_is,h2]
  have hDu:=hG.pos.at_ hur.1 hur.2 j;rw[q1,q2] at hDu;by_cases hg:vA S t i=-1
  · refine⟨fun hd=>?_,fun q hq hd=>?_⟩
    · have:=hd.ghost hG.net ht hg;have c:=(hG.conv t i ht hg u j hur.1 (hur.2 j)).1;omega
    · have:=hd.ghost hG.net ht hg;omega
  · have hr:∀k,vA S t k≠-1:=three_cases (fun k=>vA S t k≠-1) (fun a b e k=>by rw[←vA_eq S t e];exact k) i hg (by rw[←h2];exact hur.2 _) (by rw[←h1];exact hur.2 _);have hl:=hL t i j ⟨ht,hr⟩ (by rw[hu];exact hur) hf (by rw[hu];exact h1) (by rw[hu];exact h2);rw[hu] at hl;have hDt:=hG.pos.at_ ht hr (i+1);rw[qA_eq P S t (show(i+1+2)%3=i%3 by omega)] at hDt;have hDt':0<crP (qA P S t (i+1)) (qA P S t (i+2)) (qA P S t i):=hDt;have hin:∀q,Dt P S t q→0<incP (qA P S t (i+1)) (qA P S t (i+2)) (qA P S t i) q:=fun q hd=>by
      have:=hd.real hr (i+1);rw[qA_eq P S t (show(i+1+2)%3=i%3 by omega)] at this;exact this
    refine⟨fun hd=>?_,fun q hq hd=>?_⟩;·have:=hin _ hd;omega
    · have hz:crP (qA P S t (i+1)) (qA P S t (i+2)) (qA P S u j)<0:=by
        have e:crP (qA P S t (i+1)) (qA P S t (i+2)) (qA P S u j)=-crP (qA P S u j) (qA P S t (i+2)) (qA P S t (i+1)):=by unfold crP crs;grind
        omega
      have:=disc_out hDt' hz hl (Int.le_of_lt hq) (hin q hd);refine Dt.of_real hur.2 (j+1) ?_;rw[qA_eq P S u (show(j+1+2)%3=j%3 by omega),q1,show j+1+1=j+2 from rfl,q2];exact this
theorem pivA_real(hr:RealA S u)(hp:PosT P S)(k:Nat):∃A gx gy,0≤A∧∀q,incP (qA P S u k) (qA P S u (k+1)) (qA P S u (k+2)) q=gF (qA P S u k) A gx gy q:=by obtain⟨gx,gy,h⟩:=real_pivot (qA P S u k) (qA P S u (k+1)) (qA P S u (k+2));exact⟨_,gx,gy,Int.le_of_lt (hp.at_ hr.1 hr.2 k),h⟩
theorem gF_line(a x:Int×Int):∃gx gy,∀q,gF x 0 gx gy q=crP a x q:=⟨-(x.2-a.2),x.1-a.1,fun q=>by unfold gF crP crs;grind⟩
theorem gF_line'(x b:Int×Int):∃gx gy,∀q,gF x 0 gx gy q=crP x b q:=⟨-(b.2-x.2),b.1-x.1,fun q=>by unfold gF crP crs;grind⟩
theorem piv_step(hG:Geo P S)(hL:LocD P S)(hS:Site n P S d p st)(h:Hole P S d p st us (l++(t,i)::r))(hq:PivQ P S p ex (l++(t,i)::r))(hf:fA S t i=false)(hc:Cf P S p (nA S t i))(h1:vA S (nA S t i) (j+1)=vA S t (i+2))(h2:vA S (nA S t i) (j+2)=vA S t (i+1)):PivQ P S p ex (l++(nA S t i,(j+1)%3)::(nA S t i,(j+2)%3)::r):=by
  have hk:=h.stepOk hS rfl hc h1 h2;obtain⟨u,hu⟩:∃u,nA S t i=u:=⟨_,rfl⟩;rw[hu] at hk h1 h2 hc⊢;have q1:qA P S u (j+1)=qA P S t (i+2):=by rw[qA_is,qA_is,h1]
  have q2:qA P S u (j+2)=qA P S t (i+1):=by rw[qA_is,qA_is,h2]
  have az1:vA S u j≠vA S t (i+2):=by rw[←h1];exact hS.net.apart u hk.ult j
  have az2:vA S u j≠vA S t (i+1):=by rw[←h2];exact hS.net.apart2 hk.ult j
  have hxy:vA S t (i+1)≠vA S t (i+2):=hS.net.apart t hk.tlt (i+1);have hz1:vA S u j≠-1:=by have:=hk.apex.z0;omega
  have old:∀s,s∈l∨s∈r→s∈l++(t,i)::r:=fun s hs=>by rcases hs with hs|hs<;>simp[hs]
  have zn:∀s,s∈l∨s∈r→edA S s≠vA S u j∧edB S s≠vA S u j:=by
    have hh:=h.step hS hu hf hc h1 h2;have hnd:=hh.sorted;have hz2:edA S (u,(j+2)%3)=vA S u j:=hk.a2;have hA:∀s,s∈l∨s∈r→edA S s≠vA S u j:=fun s hs e=>by
      have h':Hole P S d p st (u::us) ((l++[(u,(j+1)%3)])++(u,(j+2)%3)::r):=by simpa using hh
      rcases hs with hs|hs
      · have:=h'.sorted_l (s':=s) (by simp[hs]);rw[e,hz2] at this;exact ltV_irr this
      · have:=h'.sorted_r (s':=s) hs;rw[e,hz2] at this;exact ltV_irr this
    refine fun s hs=>⟨hA s hs,fun e=>?_⟩;obtain⟨a,hch⟩:=h.chn;obtain⟨l1,l2,el⟩:=List.append_of_mem (old s hs);rw[el] at hch;obtain⟨c,hc1,hc2,hc3⟩:=chn_app.1 hch;have:∃s',s'∈l++(t,i)::r∧edA S s'=edB S s:=by cases l2 with|cons s' l2=>exact⟨s',by rw[el];simp,hc3.1⟩|nil=>
        have e1:edB S s=a:=hc3;cases l1 with
        |nil=>exact⟨s,by rw[el];simp,by rw[e1];exact hc2.trans hc1.symm⟩|cons s' l1=>exact⟨s',by rw[el];simp,by rw[e1];exact hc1.1⟩
    obtain⟨s',hs',e'⟩:=this;rw[e] at e';simp only[List.mem_append,List.mem_cons] at hs';rcases hs' with hs'|rfl|hs';·exact hA s' (.inl hs') e'
    ·exact az2 e'.symm
    ·exact hA s' (.inr hs') e'
  have hz:vA S u j∉ex→∃A gx gy,PivA P S p (l++(u,(j+1)%3)::(u,(j+2)%3)::r) (vA S u j) A gx gy:=fun _=>by
    by_cases hx:vA S t (i+1)=-1;·
      have hy:vA S t (i+2)≠-1:=fun e=>hxy (hx.trans e.symm);obtain⟨gx,gy,hg⟩:=gF_line' (qA P S u j) (qA P S t (i+2));have k2:=hk.apex.k2 hy;refine⟨0,gx,gy,Int.le_refl _,by rw[←qA_is,hg];exact k2,fun s hs e1 e2=>?_,fun s hs e1 e2=>?_,fun s hs e1 e2 q=>?_,fun s hs e1 e2 q=>?_⟩
      · rcases mem_split3 hs with rfl|rfl|hs;·exact absurd (e1.symm.trans hk.a1) az2
        · rw[hk.b2,←qA_is,←qA_is,hg];refine⟨by rw[show∀a b:Int×Int,crP a b b=0 from fun a b=>by unfold crP crs;grind];omega,fun q _ g2 g3=>?_⟩;rw[hg] at g3;omega
        ·exact absurd e1 (zn s hs).1
      · rcases mem_split3 hs with rfl|rfl|hs;·exact absurd (hk.a1.trans hx) e2
        ·exact absurd (e1.symm.trans hk.b2) az1
        ·exact absurd e1 (zn s hs).2
      · rcases mem_split3 hs with rfl|rfl|hs;·exact absurd (e1.symm.trans hk.a1) az2
        ·exact absurd (hk.b2.symm.trans e2) hy
        ·exact absurd e1 (zn s hs).1
      · rcases mem_split3 hs with rfl|rfl|hs;· simp only[];rw[←qA_is,hg,qA_eq P S u (show(j+1)%3%3=(j+1)%3 by omega),q1]
        ·exact absurd (e1.symm.trans hk.b2) az1
        ·exact absurd e1 (zn s hs).2
    · by_cases hy:vA S t (i+2)=-1
      · obtain⟨gx,gy,hg⟩:=gF_line (qA P S t (i+1)) (qA P S u j);have k1:=hk.apex.k1 hx;refine⟨0,gx,gy,Int.le_refl _,by rw[←qA_is,hg];exact k1,fun s hs e1 e2=>?_,fun s hs e1 e2=>?_,fun s hs e1 e2 q=>?_,fun s hs e1 e2 q=>?_⟩
        · rcases mem_split3 hs with rfl|rfl|hs;·exact absurd (e1.symm.trans hk.a1) az2
          ·exact absurd (hk.b2.trans hy) e2
          ·exact absurd e1 (zn s hs).1
        · rcases mem_split3 hs with rfl|rfl|hs
          · rw[hk.a1,←qA_is,←qA_is,hg];refine⟨by rw[show∀a b:Int×Int,crP a b a=0 from fun a b=>by unfold crP crs;grind];omega,fun q _ g2 g3=>?_⟩;rw[hg] at g3;omega
          ·exact absurd (e1.symm.trans hk.b2) az1
          ·exact absurd e1 (zn s hs).2
        · rcases mem_split3 hs with rfl|rfl|hs;·exact absurd (e1.symm.trans hk.a1) az2
          · simp only[];rw[←qA_is,hg,qA_eq P S u (show(j+2)%3%3=(j+2)%3 by omega),q2]
          ·exact absurd e1 (zn s hs).1
        · rcases mem_split3 hs with rfl|rfl|hs;·exact absurd (hk.a1.symm.trans e2) hx
          ·exact absurd (e1.symm.trans hk.b2) az1
          ·exact absurd e1 (zn s hs).2
      · have hr:=hk.real h1 h2 hx hy;obtain⟨A,gx,gy,hA,hg⟩:=pivA_real (P:=P) hr hS.pos j;have hD:∀q,0<gF (qA P S u j) A gx gy q→Dt P S u q:=fun q hq=>Dt.of_real hr.2 j (by rw[hg];exact hq);have hpin:=hc.real hr.2 j;refine⟨A,gx,gy,hA,by rw[←qA_is,←hg];exact hpin,fun s hs e1 e2=>?_,fun s hs e1 e2=>?_,fun s hs e1 e2 q=>?_,fun s hs e1 e2 q=>?_⟩
        · rcases mem_split3 hs with rfl|rfl|hs;·exact absurd (e1.symm.trans hk.a1) az2
          · rw[hk.b2,←qA_is,←qA_is];refine⟨by rw[←hg,←q1,incP_b];omega,fun q _ _ g3=>hD q g3⟩
          ·exact absurd e1 (zn s hs).1
        · rcases mem_split3 hs with rfl|rfl|hs
          · rw[hk.a1,←qA_is,←qA_is];refine⟨by rw[←hg,←q2,incP_c];omega,fun q _ _ g3=>hD q g3⟩
          ·exact absurd (e1.symm.trans hk.b2) az1
          ·exact absurd e1 (zn s hs).2
        · rcases mem_split3 hs with rfl|rfl|hs;·exact absurd (hk.b1.symm.trans e2) hz1
          ·exact absurd (hk.b2.symm.trans e2) hy
          ·exact absurd e1 (zn s hs).1
        · rcases mem_split3 hs with rfl|rfl|hs;·exact absurd (hk.a1.symm.trans e2) hx
          ·exact absurd (e1.symm.trans hk.b2) az1
          ·exact absurd e1 (zn s hs).2
  have keep:∀x A gx gy,x≠-1→x≠vA S u j→PivA P S p (l++(t,i)::r) x A gx gy→PivA P S p (l++(u,(j+1)%3)::(u,(j+2)%3)::r) x A gx gy:=by
    intro x A gx gy hx1 hxz hp;refine⟨hp.A0,hp.pin,fun s hs e1 e2=>?_,fun s hs e1 e2=>?_,fun s hs e1 e2 q=>?_,fun s hs e1 e2 q=>?_⟩
    · rcases mem_split3 hs with rfl|rfl|hs;·
        have ex:vA S t (i+1)=x:=hk.a1.symm.trans e1;rw[hk.b1,←qA_is];have hx:vA S t (i+1)≠-1:=by rw[ex];exact hx1
        have k1:=hk.apex.k1 hx;rw[ex,←qA_is] at k1;by_cases hy:vA S t (i+2)=-1
        · have hoG:=hp.outG (t,i) (by simp) ex hy;have hti:vA S t i≠-1:=fun e=>hS.net.apart2 hk.tlt i (e.trans hy.symm);have hcv:=(hG.conv t (i+2) hk.tlt hy u j hk.ult hz1).1;rw[qA_eq P S t (show(i+2+1)%3=i%3 by omega),qA_eq P S t (show(i+2+2)%3=(i+1)%3 by omega),qA_is P S t (i+1),ex] at hcv;have hpin:=hp.pin;rw[hoG] at hpin;simp only[] at hpin hoG;refine⟨by rw[hoG];exact hcv,fun q g1 g2 g3=>?_⟩;rw[hoG] at g3;exact(pv_ghost hpin hcv k1 g1 g2 g3).elim
        · have hr:=hk.real h1 h2 hx hy;obtain⟨b1,b2⟩:=side_next hG hL hk.tlt hu hf hr h1 h2;obtain⟨c1,c2⟩:=hp.out (t,i) (by simp) ex hy;have hv:=hk.vis hx hy;have hDu:=hG.pos.at_ hr.1 hr.2 j;rw[q1,q2] at hDu;have hzn:crP (qA P S t (i+1)) (qA P S t (i+2)) (qA P S u j)<0:=by
            have e:crP (qA P S t (i+1)) (qA P S t (i+2)) (qA P S u j)=-crP (qA P S u j) (qA P S t (i+2)) (qA P S t (i+1)):=by unfold crP crs;grind
            omega
          have ey:ptV P (edB S (t,i))=qA P S t (i+2):=rfl;have exx:ptV P x=qA P S t (i+1):=by rw[qA_is,ex]
          rw[ey] at c1 c2;rw[exx] at c1 c2 k1⊢;refine⟨Int.not_lt.1 fun hpz=>b1 (c2 _ k1 hzn hpz),fun q g1 g2 g3=>?_⟩;have hqn:=pv_turn k1 hv hzn g1 g2;exact b2 q hqn (c2 q g1 hqn g3)
      ·exact absurd (e1.symm.trans hk.a2) hxz
      ·exact hp.out s (old s hs) e1 e2
    · rcases mem_split3 hs with rfl|rfl|hs;·exact absurd (e1.symm.trans hk.b1) hxz
      · have ey:vA S t (i+2)=x:=hk.b2.symm.trans e1;rw[hk.a2,←qA_is];have hy:vA S t (i+2)≠-1:=by rw[ey];exact hx1
        have k2:=hk.apex.k2 hy;rw[ey,←qA_is] at k2;by_cases hx:vA S t (i+1)=-1
        · have hoG:=hp.innG (t,i) (by simp) ey hx;have hcv:=(hG.conv t (i+1) hk.tlt hx u j hk.ult hz1).1;rw[qA_eq P S t (show(i+1+2)%3=i%3 by omega),show i+1+1=i+2 from rfl,qA_is P S t (i+2),ey] at hcv;have hpin:=hp.pin;rw[hoG] at hpin;simp only[] at hpin hoG;refine⟨by rw[hoG];exact hcv,fun q g1 g2 g3=>?_⟩;rw[hoG] at g3;exact(pv_ghost' hpin hcv k2 g1 g2 g3).elim
        · have hr:=hk.real h1 h2 hx hy;obtain⟨b1,b2⟩:=side_next hG hL hk.tlt hu hf hr h1 h2;obtain⟨c1,c2⟩:=hp.inn (t,i) (by simp) ey hx;have hv:=hk.vis hx hy;have hDu:=hG.pos.at_ hr.1 hr.2 j;rw[q1,q2] at hDu;have hzn:crP (qA P S t (i+1)) (qA P S t (i+2)) (qA P S u j)<0:=by
            have e:crP (qA P S t (i+1)) (qA P S t (i+2)) (qA P S u j)=-crP (qA P S u j) (qA P S t (i+2)) (qA P S t (i+1)):=by unfold crP crs;grind
            omega
          have exx:ptV P (edA S (t,i))=qA P S t (i+1):=rfl;have eyy:ptV P x=qA P S t (i+2):=by rw[qA_is,ey]
          rw[exx] at c1 c2;rw[eyy] at c1 c2 k2⊢;refine⟨Int.not_lt.1 fun hpz=>b1 (c2 _ k2 hzn hpz),fun q g1 g2 g3=>?_⟩;have hqn:=pv_turn' k2 hv hzn g1 g2;exact b2 q hqn (c2 q g1 hqn g3)
      ·exact hp.inn s (old s hs) e1 e2
    · rcases mem_split3 hs with rfl|rfl|hs;·exact absurd (hk.b1.symm.trans e2) hz1
      ·exact absurd (e1.symm.trans hk.a2) hxz
      ·exact hp.outG s (old s hs) e1 e2 q
    · rcases mem_split3 hs with rfl|rfl|hs;·exact absurd (e1.symm.trans hk.b1) hxz
      ·exact absurd (hk.a2.symm.trans e2) hz1
      ·exact hp.innG s (old s hs) e1 e2 q
  intro s hs g1 g2;rcases mem_split3 hs with rfl|rfl|hs;· rw[hk.a1] at g1 g2⊢;obtain⟨A,gx,gy,hp⟩:=hq (t,i) (by simp) g1 g2;exact⟨A,gx,gy,keep _ A gx gy g1 (Ne.symm az2) hp⟩
  · rw[hk.a2] at g2⊢;exact hz g2
  · obtain⟨A,gx,gy,hp⟩:=hq s (old s hs) g1 g2;exact⟨A,gx,gy,keep _ A gx gy g1 (zn s hs).1 hp⟩
end
end Go.MagM
namespace Go.MagM
open Go.Proofs.YtdmfbkhafnkcfaaGreat
section
variable{P:List (Int×Int)}{S:List TriM}{d p:Int×Int}{st us:List Nat}{t u i j k:Nat}
theorem Geo.dist(h:Geo P S)(ht:t<S.length)(hu:u<S.length)(hi:vA S t i≠-1)(hk:vA S u k≠-1)(e:qA P S t i=qA P S u k):vA S t i=vA S u k:=by
  have real:∀T m,RealA S T→qA P S T m=qA P S u k→vA S T m=vA S u k:=fun T m hT em=>by
    obtain⟨m',hm'⟩:=h.corn T u k hT hu hk (by rw[←em];exact cornA_in h.pos hT m);have:qA P S T m'=qA P S T m:=by rw[em,qA_is,qA_is,hm']
    rw[←hm'];exact vA_eq S T (cornA_apart h.pos hT this).symm
  by_cases hr:∀m,vA S t m≠-1;·exact real t i ⟨ht,hr⟩ e
  · obtain⟨g,hg⟩:∃g,vA S t g=-1:=Classical.byContradiction fun hn=>hr fun m hm=>hn ⟨m,hm⟩;obtain⟨j,m0,m1,m2,-,-⟩:=h.net.mate t ht g;have hT:RealA S (nA S t g):=⟨m0,h.net.gr t ht g hg⟩;have hc:i%3=(g+1)%3∨i%3=(g+2)%3:=by
      have:i%3≠g%3:=fun e=>hi (by rw[vA_eq S t e];exact hg);omega
    rcases hc with c|c
    · rw[vA_eq S t c,←m2];refine real _ _ hT ?_;rw[←e,qA_eq P S t c,qA_is,qA_is,m2]
    · rw[vA_eq S t c,←m1];refine real _ _ hT ?_;rw[←e,qA_eq P S t c,qA_is,qA_is,m1]
theorem max_end(h:Geo P S)(ht:t<S.length)(hi:vA S t i=-1)(hp:0<crP (qA P S t (i+1)) (qA P S t (i+2)) p)(hu:u<S.length)(hj:vA S u j=-1)(e:vA S u (j+1)=vA S t (i+2))(hq:crP (qA P S u (j+1)) (qA P S u (j+2)) p≤0){w k:Nat}(hw:w<S.length)(hk:vA S w k≠-1):crP p (qA P S t (i+2)) (qA P S w k)≤0:=by
  have eq:qA P S u (j+1)=qA P S t (i+2):=by rw[qA_is,qA_is,e]
  have hz1:vA S u (j+2)≠-1:=fun e=>h.net.apart2 hu j (hj.trans e.symm);have c1:=h.conv t i ht hi w k hw hk;have c2:=h.conv u j hu hj w k hw hk;have c3:=h.conv t i ht hi u (j+2) hu hz1;have hx1:vA S t (i+1)≠-1:=fun e=>h.net.apart t ht i (hi.trans e.symm);have c4:=h.conv u j hu hj t (i+1) ht hx1;have hzy:qA P S u (j+2)≠qA P S t (i+2):=fun e'=>h.net.apart u hu (j+1) (h.dist hu hu (fun e=>h.net.apart u hu j (hj.trans e.symm)) hz1 (eq.trans e'.symm));obtain⟨m,m0,m1,m2,-,-⟩:=h.net.mate t ht i;have hT:RealA S (nA S t i):=⟨m0,h.net.gr t ht i hi⟩;have hD:=h.pos.at_ hT.1 hT.2 m;have c5:=(h.conv u j hu hj _ m hT.1 (hT.2 m)).1;have r1:qA P S (nA S t i) (m+1)=qA P S t (i+2):=by rw[qA_is,qA_is,m1]
  have r2:qA P S (nA S t i) (m+2)=qA P S t (i+1):=by rw[qA_is,qA_is,m2]
  rw[r1,r2] at hD;rw[eq] at c2 c4 c5 hq;generalize qA P S t (i+1)=X at*;generalize qA P S t (i+2)=Y at*;generalize qA P S u (j+2)=Z at*;generalize qA P S w k=W at*;generalize qA P S (nA S t i) m=C at*;have e1:crP X Y p*crP Y Z W-crP X Y W*crP Y Z p=crP X Y Z*(-crP p Y W):=by unfold crP crs;grind
  by_cases hz:crP X Y Z=0
  · exfalso;have fX:crP p Y X=-crP X Y p:=by unfold crP crs;grind
    have fZ:crP p Y Z=crP Y Z p:=by unfold crP crs;grind
    have fY:crP p Y Y=0:=by unfold crP crs;grind
    have hZX:crP Z Y X=0:=by rw[show crP Z Y X=-crP X Y Z by unfold crP crs;grind,hz];rfl
    have n1:¬(crP p Y X<crP p Y Z∧crP p Y Z<0):=fun⟨a,b⟩=>c3.2 (betw_of (u:=p) (v:=Y) hz a (by rw[fY];exact b));have n2:¬(crP p Y Z<crP p Y X∧crP p Y X<0):=fun⟨a,b⟩=>c4.2 (betw_of (u:=p) (v:=Y) hZX a (by rw[fY];exact b)).symm;have n3:crP p Y Z=0∨crP p Y Z=crP p Y X:=by omega
    rcases n3 with n3|n3;·
      have g1:crP X Y p*(Z.1-Y.1)=crP Y Z p*(Y.1-X.1)+crP X Y Z*(p.1-Y.1):=by unfold crP crs;grind
      have g2:crP X Y p*(Z.2-Y.2)=crP Y Z p*(Y.2-X.2)+crP X Y Z*(p.2-Y.2):=by unfold crP crs;grind
      rw[←fZ,n3,hz] at g1 g2;simp only[Int.zero_mul,Int.add_zero] at g1 g2;have f1:=(Int.mul_eq_zero.1 g1).resolve_left (by omega);have f2:=(Int.mul_eq_zero.1 g2).resolve_left (by omega);exact hzy (Prod.ext (by omega) (by omega))
    ·
      have g1:crP X Y p*(Z.1-X.1)=(crP Y Z p+crP X Y p)*(Y.1-X.1)+crP X Y Z*(p.1-Y.1):=by unfold crP crs;grind
      have g2:crP X Y p*(Z.2-X.2)=(crP Y Z p+crP X Y p)*(Y.2-X.2)+crP X Y Z*(p.2-Y.2):=by unfold crP crs;grind
      rw[hz,show crP Y Z p+crP X Y p=0 by omega] at g1 g2;simp only[Int.zero_mul,Int.add_zero] at g1 g2;have f1:=(Int.mul_eq_zero.1 g1).resolve_left (by omega);have f2:=(Int.mul_eq_zero.1 g2).resolve_left (by omega);have hZX:Z=X:=Prod.ext (by omega) (by omega);subst hZX;rw[show crP C Y Z=crP Y Z C by unfold crP crs;grind] at hD;omega
  · have hzn:crP X Y Z<0:=by have:=c3.1;omega
    refine Int.not_lt.1 fun hc=>?_;have a1:=Int.mul_nonpos_of_nonneg_of_nonpos (Int.le_of_lt hp) c2.1;have a2:=Int.mul_nonneg_of_nonpos_of_nonpos c1.1 hq;have a3:=Int.mul_pos_of_neg_of_neg hzn (show-crP p Y W<0 by omega);omega
theorem crP_aff(d p a b e f:Int×Int):crD d p b*(crP e f a-crP e f p)-crD d p a*(crP e f b-crP e f p)=-((d.1*(f.2-e.2)-d.2*(f.1-e.1))*crP p a b):=by unfold crD crP crs;grind
theorem end_one{a b e e':Int×Int}(h0:crP p a b=0)(ha:0<crD d p a)(hb:0<crD d p b)(h1:0<crP e a p)(h2:crP e a b≤0)(h3:0<crP e' b p)(h4:crP e' b a≤0):a=b:=by
  have i1:=crP_aff d p a b e' b;have i2:=crP_aff d p b a e a;rw[h0,Int.mul_zero] at i1;rw[show crP p b a=-crP p a b by unfold crP crs;grind,h0] at i2;rw[show crP e' b b=0 by unfold crP crs;grind] at i1;rw[show crP e a a=0 by unfold crP crs;grind] at i2;have k1:=Int.mul_nonpos_of_nonneg_of_nonpos (Int.le_of_lt hb) h4;have k2:=Int.mul_nonpos_of_nonneg_of_nonpos (Int.le_of_lt ha) h2;rw[Int.mul_sub] at i1 i2;rw[Int.mul_sub] at i1 i2;simp only[Int.mul_zero] at i1 i2;have l1:crD d p b*crP e' b p≤crD d p a*crP e' b p:=by omega
  have l2:crD d p a*crP e a p≤crD d p b*crP e a p:=by omega
  have m1:=Int.le_of_mul_le_mul_right l1 h3;have m2:=Int.le_of_mul_le_mul_right l2 h1;have hm:crD d p a=crD d p b:=by omega
  have g1:crD d p b*(a.1-p.1)-crD d p a*(b.1-p.1)=d.1*crP p a b:=by unfold crD crP crs;grind
  have g2:crD d p b*(a.2-p.2)-crD d p a*(b.2-p.2)=d.2*crP p a b:=by unfold crD crP crs;grind
  rw[h0,hm,←Int.mul_sub] at g1 g2;simp only[Int.mul_zero] at g1 g2;have f1:=(Int.mul_eq_zero.1 g1).resolve_left (by omega);have f2:=(Int.mul_eq_zero.1 g2).resolve_left (by omega);exact Prod.ext (by omega) (by omega)
theorem fac_end(h:Geo P S)(hd:d≠(0,0))(half:∀t,t<S.length→∀i,vA S t i≠-1→0<crD d p (qA P S t i))(hcl:∀x,x∈us↔RchA P S p st x):∀(fuel:Nat)(l:List Nat)(g i:Nat),S.length≤l.length+fuel→l.Nodup→(∀v∈l,v<S.length∧∀k,vA S v k=-1→ltA d p (qA P S v (k+2)) (qA P S g (i+2)))→Fac P S p g i→∃e k u j,Fac P S p e k∧u<S.length∧vA S u j=-1∧vA S u (j+1)=vA S e (k+2)∧crP (qA P S u (j+1)) (qA P S u (j+2)) p≤0∧(g∈us↔e∈us):=by
  intro fuel;induction fuel with
  |zero=>
    intro l g i hf hn hl hg;exfalso;have hgl:g∉l:=fun hm=>ltA_irr _ _ _ ((hl g hm).2 i hg.2.1);have:=nodup_le (us:=g::l) (m:=S.length) (List.nodup_cons.2 ⟨hgl,hn⟩) (fun t ht=>by
      rcases List.mem_cons.1 ht with rfl|ht;·exact hg.1
      ·exact(hl t ht).1);simp at this;omega|succ fuel ih=>
    intro l g i hf hn hl hg;have hgl:g∉l:=fun hm=>ltA_irr _ _ _ ((hl g hm).2 i hg.2.1);obtain⟨hgt,hgi,hgp⟩:=hg;obtain⟨m,m0,m1,m2,m3,m4⟩:=h.net.mate g hgt (i+1);rw[vA_eq S g (show(i+1+2)%3=i%3 by omega),hgi] at m1;have hy1:vA S g (i+2)≠-1:=fun e=>h.net.apart2 hgt i (hgi.trans e.symm);have m2':vA S (nA S g (i+1)) (m+1+1)=vA S g (i+2):=m2;by_cases hc:crP (qA P S (nA S g (i+1)) (m+1+1)) (qA P S (nA S g (i+1)) (m+1+2)) p≤0;·exact⟨g,i,nA S g (i+1),m+1,⟨hgt,hgi,hgp⟩,m0,m1,m2',hc,Iff.rfl⟩
    · have hfac:Fac P S p (nA S g (i+1)) (m+1):=⟨m0,m1,by omega⟩;have hff:=(h.net.gf g hgt i hgi).1;have e1:qA P S (nA S g (i+1)) (m+1+1)=qA P S g (i+2):=by rw[qA_is,qA_is,m2']
      have hz1:vA S (nA S g (i+1)) (m+1+2)≠-1:=fun e=>h.net.apart2 m0 (m+1) (m1.trans e.symm);have hlt:ltA d p (qA P S g (i+2)) (qA P S (nA S g (i+1)) (m+1+2)):= .inr ⟨iff_of_true (.inl (half g hgt _ hy1)) (.inl (half _ m0 _ hz1)),by rw[crP_rot1,←e1];omega⟩;obtain⟨e,k,u,j,h1,h2,h3,h4,h5,h6⟩:=ih (g::l) _ (m+1) (by simp only[List.length_cons];omega) (List.nodup_cons.2 ⟨hgl,hn⟩) (fun v hv=>by
        rcases List.mem_cons.1 hv with rfl|hv
        · refine⟨hgt,fun k hk=>?_⟩;have:=h.net.corner hgt (hk.trans hgi.symm);rw[qA_eq P S v (show(k+2)%3=(i+2)%3 by omega)];exact hlt
        ·refine⟨(hl v hv).1,fun k hk=>ltA_trans hd ((hl v hv).2 k hk) hlt⟩) hfac;refine⟨e,k,u,j,h1,h2,h3,h4,h5,Iff.trans ?_ h6⟩;rw[hcl,hcl];constructor;· intro hr;exact .step hr hff (.inr ⟨m+1,m1,.inl hfac.2.2⟩)
      · intro hr;have:=RchA.step (i:=m) hr (by rw[m4];exact hff) (by rw[m3];exact .inr ⟨i,hgi,.inl hgp⟩);rw[m3] at this;exact this
theorem ghost_all(h:Geo P S)(hd:d≠(0,0))(hst:∀x∈st,x∈us)(hcl:∀x,x∈us↔RchA P S p st x)(hk:(∀u,u<S.length→∀i,vA S u i=-1→Cf P S p u→u∈st)∨((∀t,t<S.length→∀i,vA S t i≠-1→0<crD d p (qA P S t i))∧∃t∈us,∃i,Fac P S p t i)){g i:Nat}(hg:g<S.length)(hi:vA S g i=-1)(hc:Cf P S p g):g∈us:=by
  rcases hk with hA|⟨half,t0,ht0,i0,hf0⟩;·exact hst _ (hA g hg i hi hc)
  have hx1:vA S g (i+1)≠-1:=fun e=>h.net.apart g hg i (hi.trans e.symm);have hy1:vA S g (i+2)≠-1:=fun e=>h.net.apart2 hg i (hi.trans e.symm);have hfg:Fac P S p g i:=by
    rcases hc.ghost h.net hg hi with hc|hc;·exact⟨hg,hi,hc⟩
    ·exact(betw_half hc (half g hg _ hx1) (half g hg _ hy1)).elim
  obtain⟨e,k,u,j,a1,a2,a3,a4,a5,a6⟩:=fac_end h hd half hcl S.length [] g i (by simp) (by simp) (fun v hv=>by cases hv) hfg;obtain⟨e',k',u',j',b1,b2,b3,b4,b5,b6⟩:=fac_end h hd half hcl S.length [] t0 i0 (by simp) (by simp) (fun v hv=>by cases hv) hf0;have hye:vA S e (k+2)≠-1:=fun x=>h.net.apart2 a1.1 k (a1.2.1.trans x.symm);have hye':vA S e' (k'+2)≠-1:=fun x=>h.net.apart2 b1.1 k' (b1.2.1.trans x.symm);have c1:=max_end h a1.1 a1.2.1 a1.2.2 a2 a3 a4 a5 b1.1 hye';have c2:=max_end h b1.1 b1.2.1 b1.2.2 b2 b3 b4 b5 a1.1 hye;have hq:qA P S e (k+2)=qA P S e' (k'+2):=by refine end_one (d:=d) (p:=p) (e:=qA P S e (k+1)) (e':=qA P S e' (k'+1)) ?_ (half _ a1.1 _ hye) (half _ b1.1 _ hye') a1.2.2 (h.conv e k a1.1 a1.2.1 e' (k'+2) b1.1 hye').1 b1.2.2 (h.conv e' k' b1.1 b1.2.1 e (k+2) a1.1 hye).1;rw[crP_flip2] at c2;omega
  have hv:=h.dist a1.1 b1.1 hye hye' hq;obtain⟨hee,-⟩:=h.net.once e e' (k+2) (k'+2) a1.1 b1.1 hv (by rw[vA_eq S e (show(k+2+1)%3=k%3 by omega),vA_eq S e' (show(k'+2+1)%3=k'%3 by omega),a1.2.1,b1.2.1]);rw[a6,hee,←b6];exact ht0
end
end Go.MagM
namespace Go.MagM
open Go.Proofs.YtdmfbkhafnkcfaaGreat
def RayP(p a b:Int×Int):Prop:=crP p a b=0∧0<(a.1-p.1)*(b.1-p.1)+(a.2-p.2)*(b.2-p.2)
theorem RayP.symm{p a b:Int×Int}(h:RayP p a b):RayP p b a:=by refine⟨by rw[crP_flip2,h.1];rfl,?_⟩;have:=h.2;rw[Int.mul_comm (b.1-p.1),Int.mul_comm (b.2-p.2)];exact this
theorem RayP.up{d p a b:Int×Int}(h:RayP p a b)(ha:upA d p a):upA d p b:=by
  obtain⟨h0,h1⟩:=h;have e1:((a.1-p.1)*(a.1-p.1)+(a.2-p.2)*(a.2-p.2))*crD d p b=((a.1-p.1)*(b.1-p.1)+(a.2-p.2)*(b.2-p.2))*crD d p a+(d.1*(a.1-p.1)+d.2*(a.2-p.2))*crP p a b:=by unfold crD crP crs;grind
  have e2:((a.1-p.1)*(a.1-p.1)+(a.2-p.2)*(a.2-p.2))*doD d p b=((a.1-p.1)*(b.1-p.1)+(a.2-p.2)*(b.2-p.2))*doD d p a+(d.2*(a.1-p.1)-d.1*(a.2-p.2))*crP p a b:=by unfold doD crP crs;grind
  rw[h0,Int.mul_zero,Int.add_zero] at e1 e2;have hn:0≤(a.1-p.1)*(a.1-p.1)+(a.2-p.2)*(a.2-p.2):=by have:=sq_nonneg (a.1-p.1);have:=sq_nonneg (a.2-p.2);omega
  have hne:(a.1-p.1)*(a.1-p.1)+(a.2-p.2)*(a.2-p.2)≠0:=fun e=>by
    rw[e,Int.zero_mul] at e1 e2;rcases ha with h|⟨-,h⟩;·have:=Int.mul_pos h1 h;omega
    ·have:=Int.mul_pos h1 h;omega
  have hp:0<(a.1-p.1)*(a.1-p.1)+(a.2-p.2)*(a.2-p.2):=by omega
  rcases ha with h|⟨h,h'⟩;· have:=Int.mul_pos h1 h;exact .inl (Int.not_le.1 fun hc=>by have:=Int.mul_nonpos_of_nonneg_of_nonpos hn hc;omega)
  · rw[h,Int.mul_zero] at e1;have:=Int.mul_pos h1 h';exact .inr ⟨(Int.mul_eq_zero.1 e1).resolve_left hne,Int.not_le.1 fun hc=>by have:=Int.mul_nonpos_of_nonneg_of_nonpos hn hc;omega⟩
theorem RayP.cr{p a b q:Int×Int}(h:RayP p a b)(hq:0<crP p a q):0<crP p b q:=by
  obtain⟨h0,h1⟩:=h;have e:((a.1-p.1)*(a.1-p.1)+(a.2-p.2)*(a.2-p.2))*crP p b q=((a.1-p.1)*(b.1-p.1)+(a.2-p.2)*(b.2-p.2))*crP p a q+((a.1-p.1)*(q.1-p.1)+(a.2-p.2)*(q.2-p.2))*-crP p a b:=by unfold crP crs;grind
  rw[h0,Int.neg_zero,Int.mul_zero,Int.add_zero] at e;have:=Int.mul_pos h1 hq;refine Int.not_le.1 fun hc=>?_;have:=Int.mul_nonpos_of_nonneg_of_nonpos (show 0≤(a.1-p.1)*(a.1-p.1)+(a.2-p.2)*(a.2-p.2) by have:=sq_nonneg (a.1-p.1);have:=sq_nonneg (a.2-p.2);omega) hc;omega
theorem RayP.cr'{p a b q:Int×Int}(h:RayP p a b)(hq:0<crP p q a):0<crP p q b:=by
  have e:((a.1-p.1)*(a.1-p.1)+(a.2-p.2)*(a.2-p.2))*crP p q b=((a.1-p.1)*(b.1-p.1)+(a.2-p.2)*(b.2-p.2))*crP p q a+((a.1-p.1)*(q.1-p.1)+(a.2-p.2)*(q.2-p.2))*crP p a b:=by unfold crP crs;grind
  obtain⟨h0,h1⟩:=h;rw[h0,Int.mul_zero,Int.add_zero] at e;have:=Int.mul_pos h1 hq;refine Int.not_le.1 fun hc=>?_;have:=Int.mul_nonpos_of_nonneg_of_nonpos (show 0≤(a.1-p.1)*(a.1-p.1)+(a.2-p.2)*(a.2-p.2) by have:=sq_nonneg (a.1-p.1);have:=sq_nonneg (a.2-p.2);omega) hc;omega
theorem ray_of{p a c b:Int×Int}(h0:crP p a c=0)(hab:0<crP p a b)(hcb:0≤crP p c b)(hc:c≠p):RayP p a c:=by
  refine⟨h0,?_⟩;have e:((a.1-p.1)*(a.1-p.1)+(a.2-p.2)*(a.2-p.2))*crP p c b=((a.1-p.1)*(c.1-p.1)+(a.2-p.2)*(c.2-p.2))*crP p a b+((a.1-p.1)*(b.1-p.1)+(a.2-p.2)*(b.2-p.2))*-crP p a c:=by unfold crP crs;grind
  rw[h0,Int.neg_zero,Int.mul_zero,Int.add_zero] at e;have hn:0≤((a.1-p.1)*(a.1-p.1)+(a.2-p.2)*(a.2-p.2))*crP p c b:=Int.mul_nonneg (by have:=sq_nonneg (a.1-p.1);have:=sq_nonneg (a.2-p.2);omega) hcb;have h1:0≤(a.1-p.1)*(c.1-p.1)+(a.2-p.2)*(c.2-p.2):=Int.not_lt.1 fun hl=>by have:=Int.mul_neg_of_neg_of_pos hl hab;omega
  refine Classical.byContradiction fun hcn=>?_;have hz:(0:Int)=(a.1-p.1)*(c.1-p.1)+(a.2-p.2)*(c.2-p.2):=by omega
  have g1:((a.1-p.1)*(a.1-p.1)+(a.2-p.2)*(a.2-p.2))*(c.1-p.1)=(a.1-p.1)*((a.1-p.1)*(c.1-p.1)+(a.2-p.2)*(c.2-p.2))-(a.2-p.2)*crP p a c:=by unfold crP crs;grind
  have g2:((a.1-p.1)*(a.1-p.1)+(a.2-p.2)*(a.2-p.2))*(c.2-p.2)=(a.2-p.2)*((a.1-p.1)*(c.1-p.1)+(a.2-p.2)*(c.2-p.2))+(a.1-p.1)*crP p a c:=by unfold crP crs;grind
  rw[h0,←hz] at g1 g2;simp only[Int.mul_zero,Int.sub_self,Int.add_zero] at g1 g2;have hne:(a.1-p.1)*(a.1-p.1)+(a.2-p.2)*(a.2-p.2)≠0:=fun e=>by
    have q1:=sq_nonneg (a.1-p.1);have q2:=sq_nonneg (a.2-p.2);have z1:a.1-p.1=0:=by
      refine Classical.byContradiction fun h=>?_;have:=sq_pos h;omega
    have z2:a.2-p.2=0:=by
      refine Classical.byContradiction fun h=>?_;have:=sq_pos h;omega
    have:a=p:=Prod.ext (by omega) (by omega);subst this;rw[show crP a a b=0 by unfold crP crs;grind] at hab;omega
  have f1:=(Int.mul_eq_zero.1 g1).resolve_left hne;have f2:=(Int.mul_eq_zero.1 g2).resolve_left hne;exact hc (Prod.ext (by omega) (by omega))
theorem cone_same{p a b c e q:Int×Int}(hab:0<crP p a b)(hce:0<crP p c e)(q1:0<crP p a q)(q2:0<crP p q b)(q3:0≤crP p c q)(q4:0≤crP p q e)(n1:¬(0<crP p a c∧0<crP p c b))(n2:¬(0<crP p c a∧0<crP p a e)):RayP p a c:=by
  rcases Int.lt_trichotomy (crP p a c) 0 with h|h|h
  · exfalso;refine n2 ⟨by rw[crP_flip2];omega,?_⟩;have i:crP p c q*crP p a e=crP p c a*crP p q e+crP p c e*crP p a q:=by unfold crP crs;grind
    rw[crP_flip2 p a c] at i;have a1:=Int.mul_nonneg (show 0≤-crP p a c by omega) q4;have a2:=Int.mul_pos hce q1;refine Int.not_le.1 fun hc=>?_;have:=Int.mul_nonpos_of_nonneg_of_nonpos q3 hc;omega
  ·exact ray_of h q1 q3 fun e=>by rw[e] at hce;rw[show∀a b:Int×Int,crP a a b=0 from fun a b=>by unfold crP crs;grind] at hce;omega
  · exfalso;refine n1 ⟨h,?_⟩;have i:crP p a q*crP p c b=crP p a c*crP p q b+crP p a b*crP p c q:=by unfold crP crs;grind
    have a1:=Int.mul_pos h q2;have a2:=Int.mul_nonneg (Int.le_of_lt hab) q3;refine Int.not_le.1 fun hc=>?_;have:=Int.mul_nonpos_of_nonneg_of_nonpos (Int.le_of_lt q1) hc;omega
section
variable{n:Nat}{P:List (Int×Int)}{S:List TriM}{d p:Int×Int}{st us:List Nat}{rim:List (Nat×Nat)}
theorem Hole.cone(hd:d≠(0,0))(h:Hole P S d p st us rim){s s':Nat×Nat}(hs:s∈rim)(hs':s'∈rim)(h1:edA S s≠-1)(h2:edB S s≠-1)(h3:edA S s'≠-1):¬(0<crP p (ptV P (edA S s)) (ptV P (edA S s'))∧0<crP p (ptV P (edA S s')) (ptV P (edB S s))):=by
  rintro⟨k1,k2⟩;have hv:=h.vis s hs h1 h2;rw[←crP_rot1] at hv;obtain⟨l,r,rfl⟩:=List.append_of_mem hs;obtain⟨a,hch⟩:=h.chn;obtain⟨c,-,-,hch3⟩:=chn_app.1 hch;have self:∀a b:Int×Int,crP a b b=0:=fun a b=>by unfold crP crs;grind
  have no_l:s'∈l→ltA d p (ptV P (edA S s)) (ptV P (edA S s'))→False:=fun hm hlt=>ltA_irr _ _ _ (ltA_trans hd hlt (ltV_to h3 (h.sorted_l hm)));cases r with
  |nil=>
    have hay:edB S s=a:=hch3;obtain⟨s0,r0,he⟩:∃s0 r0,l++[s]=s0::r0:=by cases l with|nil=>exact⟨_,_,rfl⟩|cons s0 l0=>exact⟨s0,_,rfl⟩
    have hfi:=h.first s0 r0 he;rw[he] at hch;rw[hch.1,←hay] at hfi;obtain⟨f1,f2⟩:=hfi h2;have hlt:=ltA_last hd f1 f2 hv k1 k2;simp only[List.mem_append,List.mem_singleton] at hs';rcases hs' with hm|rfl;·exact no_l hm hlt
    ·rw[self] at k1;omega|cons y r'=>
    have e:=hch3.1;have hxy:=ltV_to h1 (h.sorted_r (s':=y) (by simp));rw[e] at hxy;obtain⟨l1,l2⟩:=ltA_ins hd hxy hv k1 k2;simp only[List.mem_append,List.mem_cons] at hs';rcases hs' with hm|rfl|rfl|hm;·exact no_l hm l1
    ·rw[self] at k1;omega
    ·rw[e,self] at k2;omega
    · have h':Hole P S d p st us ((l++[s])++y::r'):=by simpa using h
      have:=ltV_to (by rw[e];exact h2) (h'.sorted_r hm);rw[e] at this;exact ltA_irr _ _ _ (ltA_trans hd l2 this)
theorem Hole.ray(h:Hole P S d p st us rim){s s':Nat×Nat}(hs:s∈rim)(hs':s'∈rim)(h1:edA S s≠-1)(h2:edA S s'≠-1)(hr:RayP p (ptV P (edA S s)) (ptV P (edA S s'))):s=s':=by
  have key:∀a b:Int×Int,RayP p a b→¬ltA d p a b:=fun a b hr hl=>by
    rcases hl with⟨k1,k2⟩|⟨-,k⟩;·exact k2 (hr.up k1)
    ·rw[hr.1] at k;omega
  obtain⟨l,r,rfl⟩:=List.append_of_mem hs;simp only[List.mem_append,List.mem_cons] at hs';rcases hs' with hm|hm|hm;·exact absurd (ltV_to h2 (h.sorted_l hm)) (key _ _ hr.symm)
  ·exact hm.symm
  ·exact absurd (ltV_to h1 (h.sorted_r hm)) (key _ _ hr)
end
end Go.MagM
namespace Go.MagM
open Go.Proofs.YtdmfbkhafnkcfaaGreat
theorem betw_in{x y q u v:Int×Int}(h:Betw x y q)(hx:crP u v x=0)(hy:0<crP u v y):0<crP u v q:=by refine Int.not_le.1 fun hc=>?_;have:=h.symm.ext (u:=v) (v:=u) (by rw[crP_flip u v y,crP_flip u v q];omega);rw[crP_flip u v q,crP_flip u v x] at this;omega
theorem seg_cases{x y p q:Int×Int}(hp:0<crP x y p)(h0:crP x y q=0)(h1:0≤crP y p q)(h2:0≤crP p x q):q=x∨q=y∨Betw x y q:=by
  have hs:=crP_sum3 x y p q;by_cases e1:crP p x q=0;·exact .inl (cornP_of (a:=p) (c:=y) (by rw[crP_rot1];exact hp) e1 h0)
  · by_cases e2:crP y p q=0;·exact .inr (.inl (cornP_of (a:=x) (c:=p) hp h0 e2))
    · refine .inr (.inr (betw_of (u:=p) (v:=x) h0 ?_ ?_));·rw[show crP p x x=0 by unfold crP crs;grind];omega
      ·rw[show crP p x y=crP x y p by unfold crP crs;grind];omega
structure Cav(P:List (Int×Int))(S:List TriM)(p:Int×Int)(us:List Nat)(R:List SideM):Prop where
  rim:Rim S us R
  lt:∀t∈us,t<S.length
  vis:∀(k:Nat)(s:SideM),R[k]?=some s→s.a≠-1→s.b≠-1→0<crP (ptV P s.a) (ptV P s.b) p
  cone:∀(k j:Nat)(s s':SideM),R[k]?=some s→R[j]?=some s'→s.a≠-1→s.b≠-1→s'.a≠-1→¬(0<crP p (ptV P s.a) (ptV P s'.a)∧0<crP p (ptV P s'.a) (ptV P s.b))
  ray:∀(k j:Nat)(s s':SideM),R[k]?=some s→R[j]?=some s'→s.a≠-1→s'.a≠-1→RayP p (ptV P s.a) (ptV P s'.a)→k=j
  cvd:∀(k:Nat)(s:SideM),R[k]?=some s→s.a≠-1→s.b≠-1→∀q,InT (ptV P s.a) (ptV P s.b) p q→Cvd P S p us q
  cov:∀t∈us,∀i,∃(k:Nat) (s:SideM),R[k]?=some s∧s.a=vA S t i
  clo:∀(k:Nat)(s:SideM)(u:Nat),R[k]?=some s→s.u=(u:Int)→s.f=false→¬Cf P S p u
  gho:∀g i,g<S.length→vA S g i=-1→Cf P S p g→g∈us
  gcf:∀t∈us,∀i,vA S t i=-1→Cf P S p t
  hold:∀t,RealA S t→InC P S t p→t∈us
section
variable{P:List (Int×Int)}{S:List TriM}{p:Int×Int}{us:List Nat}{R:List SideM}{u:Nat}{q:Int×Int}
theorem Rim.at_(hR:Rim S us R)(hN:Net P.length S)(hu:∀t∈us,t<S.length){t i:Nat}(ht:t∈us)(hn:nA S t i∉us):∃(k:Nat) (s:SideM) (j:Nat),R[k]?=some s∧s.a=vA S t (i+1)∧s.b=vA S t (i+2)∧s.u=((nA S t i:Nat):Int)∧s.i=((j:Nat):Int)∧j<3∧vA S (nA S t i) (j+1)=vA S t (i+2)∧vA S (nA S t i) (j+2)=vA S t (i+1):=by
  obtain⟨k,s,h1,h2,h3⟩:=hR.tgt t ht i hn;obtain⟨t',i',j,u,b1,b2,b3,b4,b5,b6,b7,b8,b9,b10,b11,b12,-⟩:=hR.src k s h1;obtain⟨e1,e2⟩:=hN.once t' t (i'+1) (i+1) (hu t' b1) (hu t ht) (b3.symm.trans h2) (b4.symm.trans h3);subst e1;have eu:u=nA S t' i:=by rw[b6];exact nA_eq S t' (by omega)
  subst eu;exact⟨k,s,j,h1,h2,h3,b5,b9,b10,b11.trans h3,b12.trans h2⟩
theorem Cav.old(hC:Cav P S p us R)(hG:Geo P S)(hq:Cvd P S p us q)(hu:RealA S u)(hn:u∉us)(hi:InC P S u q):(∃(k:Nat) (s:SideM),R[k]?=some s∧s.a≠-1∧s.b≠-1∧s.u=(u:Int)∧crP (ptV P s.a) (ptV P s.b) q=0∧0<crP p (ptV P s.a) q∧0<crP p q (ptV P s.b))∨∃(k:Nat) (s:SideM),R[k]?=some s∧s.a≠-1∧q=ptV P s.a:=by
  have corner:∀t∈us,∀i,vA S t i≠-1→q=qA P S t i→∃(k:Nat) (s:SideM),R[k]?=some s∧s.a≠-1∧q=ptV P s.a:=fun t ht i h1 e=>by obtain⟨k,s,hs,ha⟩:=hC.cov t ht i;exact⟨k,s,hs,by rw[ha];exact h1,by rw[e,ha];rfl⟩
  have self:∀a b:Int×Int,crP a b a=0:=fun a b=>by unfold crP crs;grind
  have self2:∀a b:Int×Int,crP a b b=0:=fun a b=>by unfold crP crs;grind
  rcases hq with⟨t,ht,hr,hin⟩|⟨t,ht,i,hf,hin⟩
  · rcases hin.cases hG.pos hr with h|⟨i,-,h⟩|⟨i,-,h⟩;·exact absurd (hG.sole t u q hr hu h hi▸ht) hn
    · rcases hG.sole2 t i u q hr hu h hi with e|e;·exact absurd (e▸ht) hn
      · left;obtain⟨k,s,j,h1,h2,h3,h4,-⟩:=hC.rim.at_ hG.net hC.lt ht (i:=i) (by rw[←e];exact hn);have ha:s.a≠-1:=by rw[h2];exact hr.2 _
        have hb:s.b≠-1:=by rw[h3];exact hr.2 _
        have hv:=hC.vis k s h1 ha hb;have hD:=hG.pos.at_ hr.1 hr.2 i;have eA:ptV P s.a=qA P S t (i+1):=by rw[h2];rfl
        have eB:ptV P s.b=qA P S t (i+2):=by rw[h3];rfl
        refine⟨k,s,h1,ha,hb,by rw[h4,←e],?_⟩;rw[eA,eB] at hv⊢;obtain⟨g0,g1,g2⟩:=h;refine⟨g0,?_,?_⟩
        · have l:=crP_tri (qA P S t) (fun _ _ e=>qA_eq P S t e) i p (qA P S t (i+1)) q;rw[g0,self2,show crP p (qA P S t (i+1)) (qA P S t (i+2))=crP (qA P S t (i+1)) (qA P S t (i+2)) p by unfold crP crs;grind] at l;have a1:=Int.mul_pos g2 hv;refine Int.not_le.1 fun hc=>?_;have:=Int.mul_nonpos_of_nonneg_of_nonpos (Int.le_of_lt hD) hc;omega
        · rw[show crP p q (qA P S t (i+2))=crP (qA P S t (i+2)) p q by unfold crP crs;grind];have l:=crP_tri (qA P S t) (fun _ _ e=>qA_eq P S t e) i (qA P S t (i+2)) p q;rw[g0,self,show crP (qA P S t (i+2)) p (qA P S t (i+1))=crP (qA P S t (i+1)) (qA P S t (i+2)) p by unfold crP crs;grind] at l;have a1:=Int.mul_pos g1 hv;refine Int.not_le.1 fun hc=>?_;have:=Int.mul_nonpos_of_nonneg_of_nonpos (Int.le_of_lt hD) hc;omega
    ·exact .inr (corner t ht i (hr.2 _) h)
  · obtain⟨htl,hgi,hgp⟩:=hf;have hc:=hG.held_conv hu hi htl hgi;have h0:crP (qA P S t (i+1)) (qA P S t (i+2)) q=0:=by have:=hin.1;omega
    have hx1:vA S t (i+1)≠-1:=fun e=>hG.net.apart t htl i (hgi.trans e.symm);have hy1:vA S t (i+2)≠-1:=fun e=>hG.net.apart2 htl i (hgi.trans e.symm);rcases seg_cases hgp h0 hin.2.1 hin.2.2 with e|e|hb;·exact .inr (corner t ht (i+1) hx1 e)
    ·exact .inr (corner t ht (i+2) hy1 e)
    · left;obtain⟨m,m0,m1,m2,m3,-⟩:=hG.net.mate t htl i;have hT:RealA S (nA S t i):=⟨m0,hG.net.gr t htl i hgi⟩;have hD:=hG.pos.at_ hT.1 hT.2 m;have r1:qA P S (nA S t i) (m+1)=qA P S t (i+2):=by rw[qA_is,qA_is,m1]
      have r2:qA P S (nA S t i) (m+2)=qA P S t (i+1):=by rw[qA_is,qA_is,m2]
      have hon:OnE P S (nA S t i) m q:=by
        unfold OnE;rw[r1,r2] at hD⊢;refine⟨by rw[crP_flip,h0];rfl,?_,?_⟩;·exact betw_in hb (self _ _) (by rw[show crP (qA P S t (i+1)) (qA P S (nA S t i) m) (qA P S t (i+2))=crP (qA P S (nA S t i) m) (qA P S t (i+2)) (qA P S t (i+1)) by unfold crP crs;grind];exact hD)
        ·exact betw_in hb.symm (self2 _ _) hD
      rcases hG.sole2 _ m u q hT hu hon hi with e|e
      · obtain⟨k,s,j,h1,h2,h3,h4,-⟩:=hC.rim.at_ hG.net hC.lt ht (i:=i) (by rw[←e];exact hn);have ha:s.a≠-1:=by rw[h2];exact hx1
        have hbb:s.b≠-1:=by rw[h3];exact hy1
        have eA:ptV P s.a=qA P S t (i+1):=by rw[h2];rfl
        have eB:ptV P s.b=qA P S t (i+2):=by rw[h3];rfl
        refine⟨k,s,h1,ha,hbb,by rw[h4,←e],?_⟩;rw[eA,eB];refine⟨h0,betw_in hb (self2 _ _) (by rw[show crP p (qA P S t (i+1)) (qA P S t (i+2))=crP (qA P S t (i+1)) (qA P S t (i+2)) p by unfold crP crs;grind];exact hgp),?_⟩;rw[show crP p q (qA P S t (i+2))=crP (qA P S t (i+2)) p q by unfold crP crs;grind];exact betw_in hb.symm (self _ _) (by rw[show crP (qA P S t (i+2)) p (qA P S t (i+1))=crP (qA P S t (i+1)) (qA P S t (i+2)) p by unfold crP crs;grind];exact hgp)
      · rw[m3] at e;exact absurd hgi (e▸hu.2 i)
theorem Cav.same(hC:Cav P S p us R){k j:Nat}{s s':SideM}(hs:R[k]?=some s)(hs':R[j]?=some s')(h1:s.a≠-1)(h2:s.b≠-1)(h3:s'.a≠-1)(h4:s'.b≠-1)(q1:0<crP p (ptV P s.a) q)(q2:0<crP p q (ptV P s.b))(q3:0≤crP p (ptV P s'.a) q)(q4:0≤crP p q (ptV P s'.b)):k=j:=by have v1:=hC.vis k s hs h1 h2;have v2:=hC.vis j s' hs' h3 h4;rw[←crP_rot1] at v1 v2;exact hC.ray k j s s' hs hs' h1 h3 (cone_same v1 v2 q1 q2 q3 q4 (hC.cone k j s s' hs hs' h1 h2 h3) (hC.cone j k s' s hs' hs h3 h4 h1))
end
end Go.MagM
namespace Go.MagM
open Go.Proofs.YtdmfbkhafnkcfaaGreat
theorem fold_line{x y z u v:Int×Int}(h0:crP x y z=0)(hy:crP u v y=0)(hx:crP u v x<0)(hz:crP u v z≤0):z=y∨z=x∨Betw x y z∨Betw y z x:=by
  have e1:(crP u v y-crP u v x)*(z.1-x.1)=(crP u v z-crP u v x)*(y.1-x.1)-(v.1-u.1)*crP x y z:=by unfold crP crs;grind
  have e2:(crP u v y-crP u v x)*(z.2-x.2)=(crP u v z-crP u v x)*(y.2-x.2)-(v.2-u.2)*crP x y z:=by unfold crP crs;grind
  rw[h0,hy] at e1 e2;simp only[Int.mul_zero,Int.sub_zero] at e1 e2;by_cases c0:crP u v z=0
  · left;rw[c0,←Int.sub_eq_zero,←Int.mul_sub] at e1 e2;have f1:=(Int.mul_eq_zero.1 e1).resolve_left (by omega);have f2:=(Int.mul_eq_zero.1 e2).resolve_left (by omega);exact Prod.ext (by omega) (by omega)
  · by_cases c1:crP u v z=crP u v x;· right;left;rw[c1,Int.sub_self,Int.zero_mul] at e1 e2;have f1:=(Int.mul_eq_zero.1 e1).resolve_left (by omega);have f2:=(Int.mul_eq_zero.1 e2).resolve_left (by omega);exact Prod.ext (by omega) (by omega)
    · right;right;rcases Int.lt_or_gt_of_ne c1 with c|c
      · right;exact(betw_of (u:=u) (v:=v) (show crP z y x=0 by rw[show crP z y x=-crP x y z by unfold crP crs;grind,h0];rfl) c (by omega)).symm
      · left;exact betw_of (u:=u) (v:=v) h0 c (by omega)
theorem sq_dot_pos{a b p:Int×Int}(h:0<dotP a b p):0<(p.1-a.1)*(b.1-a.1)+(p.2-a.2)*(b.2-a.2):=by
  have h1:=sq_nonneg (p.1-a.1);have h2:=sq_nonneg (p.2-a.2);have e:(p.1-a.1)*(b.1-a.1)+(p.2-a.2)*(b.2-a.2)=dotP a b p+((p.1-a.1)*(p.1-a.1)+(p.2-a.2)*(p.2-a.2)):=by unfold dotP;grind
  omega
theorem betw_part{a b p w:Int×Int}(h:Betw a b p)(hw:crP a b w≤0):crP a p w≤0:=by
  have hd:=sq_dot_pos h.2;have e:((b.1-a.1)*(b.1-a.1)+(b.2-a.2)*(b.2-a.2))*crP a p w=((p.1-a.1)*(b.1-a.1)+(p.2-a.2)*(b.2-a.2))*crP a b w-((w.1-a.1)*(b.1-a.1)+(w.2-a.2)*(b.2-a.2))*crP a b p:=by unfold crP crs;grind
  rw[h.1,Int.mul_zero,Int.sub_zero] at e;have a1:=Int.mul_nonpos_of_nonneg_of_nonpos (Int.le_of_lt hd) hw;refine Int.not_lt.1 fun hc=>?_;have hne:=h.ne;have hp:0<(b.1-a.1)*(b.1-a.1)+(b.2-a.2)*(b.2-a.2):=by
    have h1:=sq_nonneg (b.1-a.1);have h2:=sq_nonneg (b.2-a.2);by_cases hx:b.1-a.1=0;·have:=sq_pos (x:=b.2-a.2) (fun e=>hne (Prod.ext (by omega) (by omega)));omega
    ·have:=sq_pos hx;omega
  have:=Int.mul_pos hp hc;omega
theorem betw_part'{a b p w:Int×Int}(h:Betw a b p)(hw:crP a b w≤0):crP p b w≤0:=by
  have hd:=sq_dot_pos h.symm.2;have e:((b.1-a.1)*(b.1-a.1)+(b.2-a.2)*(b.2-a.2))*crP p b w=((p.1-b.1)*(a.1-b.1)+(p.2-b.2)*(a.2-b.2))*crP a b w+((w.1-b.1)*(b.1-a.1)+(w.2-b.2)*(b.2-a.2))*crP a b p:=by unfold crP crs;grind
  rw[h.1,Int.mul_zero,Int.add_zero] at e;have a1:=Int.mul_nonpos_of_nonneg_of_nonpos (Int.le_of_lt hd) hw;refine Int.not_lt.1 fun hc=>?_;have hne:=h.ne;have hp:0<(b.1-a.1)*(b.1-a.1)+(b.2-a.2)*(b.2-a.2):=by
    have h1:=sq_nonneg (b.1-a.1);have h2:=sq_nonneg (b.2-a.2);by_cases hx:b.1-a.1=0;·have:=sq_pos (x:=b.2-a.2) (fun e=>hne (Prod.ext (by omega) (by omega)));omega
    ·have:=sq_pos hx;omega
  have:=Int.mul_pos hp hc;omega
theorem betw_trans{a b p w:Int×Int}(h:Betw a b p)(hw:Betw a p w):Betw a b w:=by
  have d1:=sq_dot_pos h.2;have d2:=sq_dot_pos hw.2;obtain⟨h0,h1⟩:=h;obtain⟨w0,w1⟩:=hw;have hne:a≠p:=fun e=>by
    subst e;have h1:=sq_nonneg (w.1-a.1);have h2:=sq_nonneg (w.2-a.2);have e:dotP a a w=-((w.1-a.1)*(w.1-a.1)+(w.2-a.2)*(w.2-a.2)):=by unfold dotP;grind
    omega
  have hp:0<(p.1-a.1)*(p.1-a.1)+(p.2-a.2)*(p.2-a.2):=by
    have h1:=sq_nonneg (p.1-a.1);have h2:=sq_nonneg (p.2-a.2);by_cases hx:p.1-a.1=0;·have:=sq_pos (x:=p.2-a.2) (fun e=>hne (Prod.ext (by omega) (by omega)));omega
    ·have:=sq_pos hx;omega
  constructor
  · have e:((p.1-a.1)*(p.1-a.1)+(p.2-a.2)*(p.2-a.2))*crP a b w=((p.1-a.1)*(b.1-a.1)+(p.2-a.2)*(b.2-a.2))*crP a p w+((w.1-a.1)*(p.1-a.1)+(w.2-a.2)*(p.2-a.2))*crP a b p:=by unfold crP crs;grind
    rw[h0,w0,Int.mul_zero,Int.mul_zero] at e;exact(Int.mul_eq_zero.1 e).resolve_left (by omega)
  · have e:((p.1-a.1)*(p.1-a.1)+(p.2-a.2)*(p.2-a.2))*dotP a b w=((p.1-a.1)*(p.1-a.1)+(p.2-a.2)*(p.2-a.2))*dotP a p w+((w.1-a.1)*(p.1-a.1)+(w.2-a.2)*(p.2-a.2))*dotP a b p-crP a p w*crP a b p:=by unfold dotP crP crs;grind
    rw[h0,Int.mul_zero,Int.sub_zero] at e;have a1:=Int.mul_pos hp w1;have a2:=Int.mul_pos d2 h1;refine Int.not_le.1 fun hc=>?_;have:=Int.mul_nonpos_of_nonneg_of_nonpos (Int.le_of_lt hp) hc;omega
section
variable{P:List (Int×Int)}{S:List TriM}{p:Int×Int}{us:List Nat}{R:List SideM}{t u i j:Nat}
theorem min_end(h:Geo P S)(ht:t<S.length)(hi:vA S t i=-1)(hp:0<crP (qA P S t (i+1)) (qA P S t (i+2)) p)(hu:u<S.length)(hj:vA S u j=-1)(e:vA S u (j+2)=vA S t (i+1))(hq:crP (qA P S u (j+1)) (qA P S u (j+2)) p≤0){w k:Nat}(hw:w<S.length)(hk:vA S w k≠-1):crP (qA P S t (i+1)) p (qA P S w k)≤0:=by
  have eq:qA P S u (j+2)=qA P S t (i+1):=by rw[qA_is,qA_is,e]
  have hz1:vA S u (j+1)≠-1:=fun e=>h.net.apart u hu j (hj.trans e.symm);have c1:=h.conv t i ht hi w k hw hk;have c2:=h.conv u j hu hj w k hw hk;have c3:=h.conv t i ht hi u (j+1) hu hz1;have hx1:vA S t (i+2)≠-1:=fun e=>h.net.apart2 ht i (hi.trans e.symm);have c4:=h.conv u j hu hj t (i+2) ht hx1;have hzy:qA P S u (j+1)≠qA P S t (i+1):=fun e'=>h.net.apart u hu (j+1) (h.dist hu hu hz1 (fun e=>h.net.apart2 hu j (hj.trans e.symm)) (e'.trans eq.symm));obtain⟨m,m0,m1,m2,-,-⟩:=h.net.mate t ht i;have hT:RealA S (nA S t i):=⟨m0,h.net.gr t ht i hi⟩;have hD:=h.pos.at_ hT.1 hT.2 m;have c5:=(h.conv u j hu hj _ m hT.1 (hT.2 m)).1;have r1:qA P S (nA S t i) (m+1)=qA P S t (i+2):=by rw[qA_is,qA_is,m1]
  have r2:qA P S (nA S t i) (m+2)=qA P S t (i+1):=by rw[qA_is,qA_is,m2]
  rw[r1,r2] at hD;rw[eq] at c2 c4 c5 hq;generalize qA P S t (i+1)=B at*;generalize qA P S t (i+2)=E at*;generalize qA P S u (j+1)=F at*;generalize qA P S w k=W at*;generalize qA P S (nA S t i) m=C at*;have e1:crP F B p*crP B E W-crP F B W*crP B E p=crP F B E*crP B p W:=by unfold crP crs;grind
  by_cases hz:crP F B E=0
  · exfalso;have f1:crP B p B=0:=by unfold crP crs;grind
    have f2:crP B p E=-crP B E p:=by unfold crP crs;grind
    have f3:crP B p F=crP F B p:=by unfold crP crs;grind
    rcases fold_line (x:=E) (y:=B) (z:=F) (u:=B) (v:=p) (by rw[show crP E B F=-crP F B E by unfold crP crs;grind,hz];rfl) f1 (by omega) (by omega) with g|g|g|g;·exact hzy g
    · subst g;rw[show crP C F B=crP F B C by unfold crP crs;grind] at hD;omega
    ·exact c3.2 g.symm
    ·exact c4.2 g.symm
  · have hzn:crP F B E<0:=by have:=c4.1;omega
    refine Int.not_lt.1 fun hc=>?_;have a1:=Int.mul_nonneg_of_nonpos_of_nonpos hq c1.1;have a2:=Int.mul_nonpos_of_nonpos_of_nonneg c2.1 (Int.le_of_lt hp);have a3:=Int.mul_neg_of_neg_of_pos hzn hc;omega
theorem Cav.conv_a(hC:Cav P S p us R)(hG:Geo P S){k:Nat}{s:SideM}(hs:R[k]?=some s)(ha:s.a=-1){w m:Nat}(hw:w<S.length)(hm:vA S w m≠-1):crP (ptV P s.b) p (qA P S w m)≤0∧¬Betw (ptV P s.b) p (qA P S w m):=by
  obtain⟨t,i,j,u,b1,b2,b3,b4,b5,b6,b7,b8,b9,b10,b11,b12,b13,b14,b15⟩:=hC.rim.src k s hs;have htl:=hC.lt t b1;have hti:vA S t (i+1)=-1:=b3.symm.trans ha;have huj:vA S u (j+2)=-1:=b12.trans ha;have hcf:=(hC.gcf t b1 (i+1) hti).ghost hG.net htl hti;have hnf:¬Cf P S p u:=fun hc=>b8 (hC.gho u (j+2) b7 huj hc);have hconv:=hG.conv t (i+1) htl hti w m hw hm;have eB:ptV P s.b=qA P S t (i+1+1):=by rw[b4];rfl
  rw[eB];rcases hcf with hcf|hcf
  · refine⟨min_end hG htl hti hcf b7 huj ?_ ?_ hw hm,fun hb=>?_⟩;·rw[vA_eq S u (show(j+2+2)%3=(j+1)%3 by omega),b11,b4]
    ·exact Int.not_lt.1 fun hl=>hnf (.inr ⟨j+2,huj,.inl hl⟩)
    · have:=betw_in hb (u:=qA P S t (i+1+1)) (v:=qA P S t (i+1+2)) (by unfold crP crs;grind) hcf;omega
  ·exact⟨betw_part hcf hconv.1,fun hb=>hconv.2 (betw_trans hcf hb)⟩
theorem Cav.conv_b(hC:Cav P S p us R)(hG:Geo P S){k:Nat}{s:SideM}(hs:R[k]?=some s)(hb:s.b=-1){w m:Nat}(hw:w<S.length)(hm:vA S w m≠-1):crP p (ptV P s.a) (qA P S w m)≤0∧¬Betw p (ptV P s.a) (qA P S w m):=by
  obtain⟨t,i,j,u,b1,b2,b3,b4,b5,b6,b7,b8,b9,b10,b11,b12,b13,b14,b15⟩:=hC.rim.src k s hs;have htl:=hC.lt t b1;have hti:vA S t (i+2)=-1:=b4.symm.trans hb;have huj:vA S u (j+1)=-1:=b11.trans hb;have hcf:=(hC.gcf t b1 (i+2) hti).ghost hG.net htl hti;have hnf:¬Cf P S p u:=fun hc=>b8 (hC.gho u (j+1) b7 huj hc);have hconv:=hG.conv t (i+2) htl hti w m hw hm;have eA:ptV P s.a=qA P S t (i+2+2):=by rw[b3,qA_eq P S t (show(i+2+2)%3=(i+1)%3 by omega)];rfl
  rw[eA];rcases hcf with hcf|hcf
  · refine⟨max_end hG htl hti hcf b7 huj ?_ ?_ hw hm,fun hbb=>?_⟩
    · show vA S u (j+2)=_;rw[b12,b3,vA_eq S t (show(i+2+2)%3=(i+1)%3 by omega)]
    ·exact Int.not_lt.1 fun hl=>hnf (.inr ⟨j+1,huj,.inl hl⟩)
    · have:=betw_in hbb.symm (u:=qA P S t (i+2+1)) (v:=qA P S t (i+2+2)) (by unfold crP crs;grind) hcf;omega
  ·exact⟨betw_part' hcf hconv.1,fun hbb=>hconv.2 (betw_trans hcf.symm hbb.symm).symm⟩
end
end Go.MagM
namespace Go.MagM
open Go.Proofs.YtdmfbkhafnkcfaaGreat
theorem ray_of'{p a c b:Int×Int}(h0:crP p a c=0)(hab:0<crP p b a)(hcb:0≤crP p b c)(hc:c≠p):RayP p a c:=by
  refine⟨h0,?_⟩;have e:((a.1-p.1)*(a.1-p.1)+(a.2-p.2)*(a.2-p.2))*crP p b c=((a.1-p.1)*(c.1-p.1)+(a.2-p.2)*(c.2-p.2))*crP p b a+((a.1-p.1)*(b.1-p.1)+(a.2-p.2)*(b.2-p.2))*crP p a c:=by unfold crP crs;grind
  rw[h0,Int.mul_zero,Int.add_zero] at e;have hn:0≤((a.1-p.1)*(a.1-p.1)+(a.2-p.2)*(a.2-p.2))*crP p b c:=Int.mul_nonneg (by have:=sq_nonneg (a.1-p.1);have:=sq_nonneg (a.2-p.2);omega) hcb;have h1:0≤(a.1-p.1)*(c.1-p.1)+(a.2-p.2)*(c.2-p.2):=Int.not_lt.1 fun hl=>by have:=Int.mul_neg_of_neg_of_pos hl hab;omega
  refine Classical.byContradiction fun hcn=>?_;have hz:(0:Int)=(a.1-p.1)*(c.1-p.1)+(a.2-p.2)*(c.2-p.2):=by omega
  have g1:((a.1-p.1)*(a.1-p.1)+(a.2-p.2)*(a.2-p.2))*(c.1-p.1)=(a.1-p.1)*((a.1-p.1)*(c.1-p.1)+(a.2-p.2)*(c.2-p.2))-(a.2-p.2)*crP p a c:=by unfold crP crs;grind
  have g2:((a.1-p.1)*(a.1-p.1)+(a.2-p.2)*(a.2-p.2))*(c.2-p.2)=(a.2-p.2)*((a.1-p.1)*(c.1-p.1)+(a.2-p.2)*(c.2-p.2))+(a.1-p.1)*crP p a c:=by unfold crP crs;grind
  rw[h0,←hz] at g1 g2;simp only[Int.mul_zero,Int.sub_self,Int.add_zero] at g1 g2;have hne:(a.1-p.1)*(a.1-p.1)+(a.2-p.2)*(a.2-p.2)≠0:=fun e=>by
    have q1:=sq_nonneg (a.1-p.1);have q2:=sq_nonneg (a.2-p.2);have z1:a.1-p.1=0:=by
      refine Classical.byContradiction fun h=>?_;have:=sq_pos h;omega
    have z2:a.2-p.2=0:=by
      refine Classical.byContradiction fun h=>?_;have:=sq_pos h;omega
    have:a=p:=Prod.ext (by omega) (by omega);subst this;rw[show crP a b a=0 by unfold crP crs;grind] at hab;omega
  have f1:=(Int.mul_eq_zero.1 g1).resolve_left hne;have f2:=(Int.mul_eq_zero.1 g2).resolve_left hne;exact hc (Prod.ext (by omega) (by omega))
theorem RayP.trans'{p a b c:Int×Int}(h:RayP p a b)(k:RayP p c b):RayP p a c:=by
  obtain⟨h0,h1⟩:=h;obtain⟨k0,k1⟩:=k;have hb:0<(b.1-p.1)*(b.1-p.1)+(b.2-p.2)*(b.2-p.2):=by
    have q1:=sq_nonneg (b.1-p.1);have q2:=sq_nonneg (b.2-p.2);refine Classical.byContradiction fun hn=>?_;have z1:b.1-p.1=0:=by refine Classical.byContradiction fun h=>?_;have:=sq_pos h;omega
    have z2:b.2-p.2=0:=by refine Classical.byContradiction fun h=>?_;have:=sq_pos h;omega
    rw[z1,z2] at h1;simp at h1
  have e1:((b.1-p.1)*(b.1-p.1)+(b.2-p.2)*(b.2-p.2))*crP p a c=((c.1-p.1)*(b.1-p.1)+(c.2-p.2)*(b.2-p.2))*crP p a b-((a.1-p.1)*(b.1-p.1)+(a.2-p.2)*(b.2-p.2))*crP p c b:=by unfold crP crs;grind
  have e2:((b.1-p.1)*(b.1-p.1)+(b.2-p.2)*(b.2-p.2))*((a.1-p.1)*(c.1-p.1)+(a.2-p.2)*(c.2-p.2))=((a.1-p.1)*(b.1-p.1)+(a.2-p.2)*(b.2-p.2))*((c.1-p.1)*(b.1-p.1)+(c.2-p.2)*(b.2-p.2))+crP p a b*crP p c b:=by unfold crP crs;grind
  rw[h0,k0] at e1 e2;simp only[Int.mul_zero,Int.sub_self,Int.add_zero] at e1 e2;refine⟨(Int.mul_eq_zero.1 e1).resolve_left (by omega),?_⟩;have:=Int.mul_pos h1 k1;refine Int.not_le.1 fun hc=>?_;have:=Int.mul_nonpos_of_nonneg_of_nonpos (Int.le_of_lt hb) hc;omega
structure Put(P:List (Int×Int))(S:List TriM)(p:Int×Int)(us:List Nat)(R:List SideM)(v:Int)(pl:List Int)(Y:List TriM)(M:List Nat):Prop where
  geo:Geo P S
  cav:Cav P S p us R
  star:StarA S us R v pl Y M
  net:Net P.length Y
  v0:0≤v
  pv:ptV P v=p
section
variable{P:List (Int×Int)}{S:List TriM}{p:Int×Int}{us:List Nat}{R:List SideM}{v:Int}{pl:List Int}{Y:List TriM}{M:List Nat}{k j t u i:Nat}{s s':SideM}{q:Int×Int}
theorem OnE.no_corner(hp:PosT P S)(ht:RealA S t)(h:OnE P S t i q)(m:Nat):q≠qA P S t m:=by
  rintro rfl;have hne:=h.ne;have:m%3=i%3:=by
    refine Classical.byContradiction fun hc=>?_;have:m%3=(i+1)%3∨m%3=(i+2)%3:=by omega
    rcases this with e|e;·exact hne.1 (qA_eq P S t e.symm)
    ·exact hne.2 (qA_eq P S t e.symm)
  have h0:=h.1;rw[qA_eq P S t this,crP_cyc] at h0;have:=hp.at_ ht.1 ht.2 i;omega
theorem Put.new_q(h:Put P S p us R v pl Y M)(hs:R[k]?=some s):qA P Y (natA M k) 0=ptV P s.a∧qA P Y (natA M k) 1=ptV P s.b∧qA P Y (natA M k) 2=p:=by obtain⟨a0,a1,a2⟩:=h.star.v0 k s hs;exact⟨by rw[qA_is,a0],by rw[qA_is,a1],by rw[qA_is,a2];exact h.pv⟩
theorem Put.new_real(h:Put P S p us R v pl Y M)(hs:R[k]?=some s)(hr:RealA Y (natA M k)):s.a≠-1∧s.b≠-1∧0<crP (ptV P s.a) (ptV P s.b) p:=by
  obtain⟨a0,a1,a2⟩:=h.star.v0 k s hs;have h1:s.a≠-1:=by rw[←a0];exact hr.2 0
  have h2:s.b≠-1:=by rw[←a1];exact hr.2 1
  exact⟨h1,h2,h.cav.vis k s hs h1 h2⟩
theorem Put.old_q(h:Put P S p us R v pl Y M)(ht:t<S.length)(hn:t∉us)(i:Nat):qA P Y t i=qA P S t i:=by rw[qA_is,qA_is,h.star.ov t ht hn]
theorem Put.old_real(h:Put P S p us R v pl Y M)(ht:t<S.length)(hn:t∉us)(hr:RealA Y t):RealA S t:=⟨ht,fun k=>by rw[←h.star.ov t ht hn];exact hr.2 k⟩
theorem Put.old_in(h:Put P S p us R v pl Y M)(ht:t<S.length)(hn:t∉us)(hi:InC P Y t q):InC P S t q:=fun i=>by have:=hi i;rw[h.old_q ht hn,h.old_q ht hn] at this;exact this
theorem Put.new_in(h:Put P S p us R v pl Y M)(hs:R[k]?=some s)(hi:InC P Y (natA M k) q):InT (ptV P s.a) (ptV P s.b) p q:=by obtain⟨q0,q1,q2⟩:=h.new_q hs;have i0:=hi 0;have i1:=hi 1;have i2:=hi 2;simp only[Nat.zero_add,Nat.reduceAdd] at i0 i1 i2;rw[qA_eq P Y _ (show 3%3=0%3 by omega)] at i1 i2;rw[qA_eq P Y _ (show 4%3=1%3 by omega)] at i2;rw[q1,q2] at i0;rw[q2,q0] at i1;rw[q0,q1] at i2;exact⟨i2,i0,i1⟩
theorem Put.slot(h:Put P S p us R v pl Y M)(ht:t<Y.length):(∃k s,R[k]?=some s∧t=natA M k)∨(t<S.length∧t∉us):=h.star.slot t ht
theorem Put.nx(h:Put P S p us R v pl Y M)(hs:R[k]?=some s):∃s',R[(k+1)%R.length]?=some s'∧s'.a=s.b:=by have hl:(k+1)%R.length<R.length:=Nat.mod_lt _ (by have:=h.cav.rim.three;omega);exact⟨_,List.getElem?_eq_getElem hl,h.cav.rim.nxt k s _ hs (List.getElem?_eq_getElem hl)⟩
theorem Put.vert(h:Put P S p us R v pl Y M)(ht:t<Y.length)(i:Nat)(hi:vA Y t i≠-1):(vA Y t i=v∧qA P Y t i=p)∨∃w m,w<S.length∧vA S w m=vA Y t i∧vA S w m≠-1∧qA P S w m=qA P Y t i:=by
  rcases h.slot ht with⟨k,s,hs,rfl⟩|⟨h1,h2⟩
  · obtain⟨a0,a1,a2⟩:=h.star.v0 k s hs;obtain⟨t',i',j,u,b1,b2,b3,b4,-⟩:=h.cav.rim.src k s hs;have hl:=h.cav.lt t' b1;obtain e|e|e:i%3=0%3∨i%3=1%3∨i%3=2%3:=by omega
    · right;have hv:vA S t' (i'+1)=vA Y (natA M k) i:=by rw[vA_eq Y _ e,a0,b3]
      exact⟨t',i'+1,hl,hv,by rw[hv];exact hi,by rw[qA_is,qA_is,hv]⟩
    · right;have hv:vA S t' (i'+2)=vA Y (natA M k) i:=by rw[vA_eq Y _ e,a1,b4]
      exact⟨t',i'+2,hl,hv,by rw[hv];exact hi,by rw[qA_is,qA_is,hv]⟩
    · left;have hv:vA Y (natA M k) i=v:=by rw[vA_eq Y _ e,a2]
      exact⟨hv,by rw[qA_is,hv];exact h.pv⟩
  · right;have hv:=h.star.ov t h1 h2 i;exact⟨t,i,h1,hv.symm,by rw[←hv];exact hi,by rw[qA_is,qA_is,hv]⟩
theorem Put.end_(h:Put P S p us R v pl Y M)(hs:R[k]?=some s)(ha:s.a≠-1)(hb:s.b≠-1){w m:Nat}(hw:w<S.length)(hm:vA S w m≠-1)(hin:InT (ptV P s.a) (ptV P s.b) p (qA P S w m)):vA S w m=s.a∨vA S w m=s.b:=by
  have hG:=h.geo;have hC:=h.cav;have hrow:∃(k':Nat) (s':SideM),R[k']?=some s'∧s'.a=vA S w m:=by
    rcases hC.cvd k s hs ha hb _ hin with⟨t,ht,hr,hi⟩|⟨t,ht,i,⟨htl,hgi,hgp⟩,hi⟩
    · obtain⟨i,hi⟩:=hG.corn t w m hr hw hm hi;obtain⟨k',s',h1,h2⟩:=hC.cov t ht i;exact⟨k',s',h1,h2.trans hi⟩
    · have hc:=hG.conv t i htl hgi w m hw hm;have hx1:vA S t (i+1)≠-1:=fun e=>hG.net.apart t htl i (hgi.trans e.symm);have hy1:vA S t (i+2)≠-1:=fun e=>hG.net.apart2 htl i (hgi.trans e.symm);rcases seg_cases hgp (by have:=hi.1;omega) hi.2.1 hi.2.2 with e|e|e
      · have:=hG.dist hw htl hm hx1 e;obtain⟨k',s',h1,h2⟩:=hC.cov t ht (i+1);exact⟨k',s',h1,h2.trans this.symm⟩
      · have:=hG.dist hw htl hm hy1 e;obtain⟨k',s',h1,h2⟩:=hC.cov t ht (i+2);exact⟨k',s',h1,h2.trans this.symm⟩
      ·exact absurd e hc.2
  obtain⟨k',s',h1,h2⟩:=hrow;have ha':s'.a≠-1:=by rw[h2];exact hm
  have eq:qA P S w m=ptV P s'.a:=by rw[h2];rfl
  rw[eq] at hin;have hv:=hC.vis k s hs ha hb;rw[←crP_rot1] at hv;obtain⟨i0,i1,i2⟩:=hin;have i1':0≤crP p (ptV P s'.a) (ptV P s.b):=by rw[show crP p (ptV P s'.a) (ptV P s.b)=crP (ptV P s.b) p (ptV P s'.a) by unfold crP crs;grind];exact i1
  have hnp:ptV P s'.a≠p:=fun e=>by
    rw[e] at i0;obtain⟨s1,hs1,es1⟩:=h.nx h1;by_cases hb':s'.b=-1
    · obtain⟨x1,x2⟩:=hC.conv_b hG h1 hb' hw hm;obtain⟨k0,hk0,ek0⟩:=pred_mod (List.getElem?_eq_some_iff.1 h1).1;have hs0:R[k0]?=some R[k0]:=List.getElem?_eq_getElem hk0;have e0:=hC.rim.nxt k0 _ s' hs0 (by rw[ek0];exact h1);by_cases ha0:(R[k0]).a=-1;·
        have h3:=hC.rim.three;have:=hC.rim.inj k0 _ _ s1 hs0 hs1 (by rw[ha0,es1,hb']);have e1:(k'+1)%R.length=if k'+1=R.length then 0 else k'+1:=by
          split;·rename_i h;rw[h,Nat.mod_self]
          ·exact Nat.mod_eq_of_lt (by have:=(List.getElem?_eq_some_iff.1 h1).1;omega)
        have e2:(k0+1)%R.length=if k0+1=R.length then 0 else k0+1:=by
          split;·rename_i h;rw[h,Nat.mod_self]
          ·exact Nat.mod_eq_of_lt (by omega)
        have:=(List.getElem?_eq_some_iff.1 h1).1;rw[e2] at ek0;split at ek0<;>split at e1<;>omega
      · have:=hC.vis k0 _ hs0 ha0 (by rw[←e0];exact ha');rw[←e0,e,show∀a b:Int×Int,crP a b b=0 from fun a b=>by unfold crP crs;grind] at this;omega
    · have:=hC.vis k' s' h1 ha' hb';rw[e,show∀a b:Int×Int,crP a b a=0 from fun a b=>by unfold crP crs;grind] at this;omega
  by_cases z1:crP p (ptV P s.a) (ptV P s'.a)=0
  · have:=hC.ray k k' s s' hs h1 ha ha' (ray_of z1 hv i1' hnp);subst this;rw[hs] at h1;cases h1;exact .inl h2.symm
  · by_cases z2:crP p (ptV P s'.a) (ptV P s.b)=0
    · obtain⟨s1,hs1,es1⟩:=h.nx hs;have hr:=hC.ray _ k' s1 s' hs1 h1 (by rw[es1];exact hb) ha' (by rw[es1];exact ray_of' (b:=ptV P s.a) (by rw[crP_flip2,z2];rfl) hv i2 hnp);rw[hr,h1] at hs1;injection hs1 with hs1;exact .inr (by rw[←es1,←hs1,h2])
    ·exact absurd ⟨by omega,by omega⟩ (hC.cone k k' s s' hs h1 ha hb ha')
end
end Go.MagM
namespace Go.MagM
open Go.Proofs.YtdmfbkhafnkcfaaGreat
section
variable{P:List (Int×Int)}{S:List TriM}{p:Int×Int}{us:List Nat}{R:List SideM}{v:Int}{pl:List Int}{Y:List TriM}{M:List Nat}{k j t u i:Nat}{s s':SideM}{q:Int×Int}
theorem Put.cone_q(h:Put P S p us R v pl Y M){s0:SideM}{c:Nat}(hs0:R[c]?=some s0)(h0:s0.a≠-1)(hr:RayP p (ptV P s0.a) q)(hs':R[j]?=some s')(h3:s'.a≠-1)(h4:s'.b≠-1)(q3:0≤crP p (ptV P s'.a) q)(q4:0≤crP p q (ptV P s'.b))(hqp:q≠p):c=j∨c=(j+1)%R.length:=by
  have hC:=h.cav;have v2:=hC.vis j s' hs' h3 h4;rw[←crP_rot1] at v2;by_cases z1:crP p (ptV P s'.a) q=0;· left;exact(hC.ray j c s' s0 hs' hs0 h3 h0 ((ray_of z1 v2 q4 hqp).trans' hr)).symm
  · by_cases z2:crP p q (ptV P s'.b)=0
    · right;obtain⟨s1,hs1,es1⟩:=h.nx hs';refine(hC.ray _ c s1 s0 hs1 hs0 (by rw[es1];exact h4) h0 ?_).symm;rw[es1];exact(ray_of' (b:=ptV P s'.a) (by rw[crP_flip2,z2];rfl) v2 q3 hqp).trans' hr
    ·exact absurd ⟨hr.symm.cr' (by omega),hr.symm.cr (by omega)⟩ (hC.cone j c s' s0 hs' hs0 h3 h4 h0)
theorem Put.pos(h:Put P S p us R v pl Y M):PosT P Y:=fun t ht hr=>by
  rcases h.slot ht with⟨k,s,hs,rfl⟩|⟨h1,h2⟩
  · obtain⟨q0,q1,q2⟩:=h.new_q hs;rw[q0,q1,q2];exact(h.new_real hs ⟨ht,hr⟩).2.2
  · rw[h.old_q h1 h2,h.old_q h1 h2,h.old_q h1 h2];exact h.geo.pos t h1 (h.old_real h1 h2 ⟨ht,hr⟩).2
theorem Put.geoY(h:Put P S p us R v pl Y M):Geo P Y:=by
  have hG:=h.geo;have hC:=h.cav;have self:∀a b:Int×Int,crP a b a=0:=fun a b=>by unfold crP crs;grind
  have self2:∀a b:Int×Int,crP a b b=0:=fun a b=>by unfold crP crs;grind
  have rot:∀q b:Int×Int,crP b p q=crP p q b:=fun q b=>by unfold crP crs;grind
  have nohold:∀t,RealA S t→t∉us→¬InC P S t p:=fun t ht hn hi=>hn (hC.hold t ht hi);have qne:∀{k:Nat}{s:SideM}{q:Int×Int},R[k]?=some s→s.a≠-1→s.b≠-1→0<crP (ptV P s.a) (ptV P s.b) p→0<crP p (ptV P s.a) q→q≠p:=fun _ _ _ _ hq e=>by rw[e,self] at hq;omega
  refine⟨h.net,h.pos,fun g i hg hi t k ht hk=>?_,fun t u k ht hu hk hin=>?_,fun t u q ht hu ho hin=>?_,fun t i u q ht hu ho hin=>?_⟩;·
    rcases h.vert ht k hk with⟨-,e⟩|⟨w,m,hw,-,hm,e⟩
    · rw[e];rcases h.slot hg with⟨c,s,hs,rfl⟩|⟨h1,h2⟩
      · obtain⟨q0,q1,q2⟩:=h.new_q hs;have nb:∀a:Int×Int,¬Betw a p p∧¬Betw p a p:=fun a=>⟨fun b=>by have:=b.2;unfold dotP at this;simp at this,fun b=>by have:=b.2;unfold dotP at this;simp at this⟩;obtain e|e|e:i%3=0%3∨i%3=1%3∨i%3=2%3:=by omega
        · rw[qA_eq P Y _ (show(i+1)%3=1%3 by omega),qA_eq P Y _ (show(i+2)%3=2%3 by omega),q1,q2,self2];exact⟨by omega,(nb _).1⟩
        · rw[qA_eq P Y _ (show(i+1)%3=2%3 by omega),qA_eq P Y _ (show(i+2)%3=0%3 by omega),q2,q0,self];exact⟨by omega,(nb _).2⟩
        · rw[vA_eq Y _ e,(h.star.v0 c s hs).2.2] at hi;have:=h.v0;omega
      · rw[h.star.ov g h1 h2] at hi;rw[h.old_q h1 h2,h.old_q h1 h2];have hnc:¬Cf P S p g:=fun hc=>h2 (hC.gho g i h1 hi hc);exact⟨Int.not_lt.1 fun hl=>hnc (.inr ⟨i,hi,.inl hl⟩),fun hb=>hnc (.inr ⟨i,hi,.inr hb⟩)⟩
    · rw[←e];rcases h.slot hg with⟨c,s,hs,rfl⟩|⟨h1,h2⟩
      · obtain⟨q0,q1,q2⟩:=h.new_q hs;obtain⟨a0,a1,a2⟩:=h.star.v0 c s hs;obtain e|e|e:i%3=0%3∨i%3=1%3∨i%3=2%3:=by omega
        · rw[qA_eq P Y _ (show(i+1)%3=1%3 by omega),qA_eq P Y _ (show(i+2)%3=2%3 by omega),q1,q2];rw[vA_eq Y _ e,a0] at hi;exact hC.conv_a hG hs hi hw hm
        · rw[qA_eq P Y _ (show(i+1)%3=2%3 by omega),qA_eq P Y _ (show(i+2)%3=0%3 by omega),q2,q0];rw[vA_eq Y _ e,a1] at hi;exact hC.conv_b hG hs hi hw hm
        · rw[vA_eq Y _ e,a2] at hi;have:=h.v0;omega
      · rw[h.star.ov g h1 h2] at hi;rw[h.old_q h1 h2,h.old_q h1 h2];exact hG.conv g i h1 hi w m hw hm
  ·
    rcases h.vert hu k hk with⟨e1,e2⟩|⟨w,m,hw,e1,hm,e2⟩
    · rcases h.slot ht.1 with⟨c,s,hs,rfl⟩|⟨h1,h2⟩;·exact⟨2,by rw[e1];exact(h.star.v0 c s hs).2.2⟩
      · rw[e2] at hin;exact absurd (h.old_in h1 h2 hin) (nohold t (h.old_real h1 h2 ht) h2)
    · rw[←e1];rw[←e2] at hin;rcases h.slot ht.1 with⟨c,s,hs,rfl⟩|⟨h1,h2⟩
      · obtain⟨ha,hb,hv⟩:=h.new_real hs ht;obtain⟨a0,a1,-⟩:=h.star.v0 c s hs;rcases h.end_ hs ha hb hw hm (h.new_in hs hin) with e|e;·exact⟨0,a0.trans e.symm⟩
        ·exact⟨1,a1.trans e.symm⟩
      · obtain⟨i,hi⟩:=hG.corn t w m (h.old_real h1 h2 ht) hw hm (h.old_in h1 h2 hin);exact⟨i,(h.star.ov t h1 h2 i).trans hi⟩
  ·
    rcases h.slot ht.1 with⟨c,s,hs,rfl⟩|⟨h1,h2⟩
    · obtain⟨ha,hb,hv⟩:=h.new_real hs ht;obtain⟨q0,q1,q2⟩:=h.new_q hs;have o0:=ho 0;have o1:=ho 1;have o2:=ho 2;simp only[Nat.zero_add,Nat.reduceAdd] at o0 o1 o2;rw[qA_eq P Y _ (show 3%3=0%3 by omega)] at o1 o2;rw[qA_eq P Y _ (show 4%3=1%3 by omega)] at o2;rw[q1,q2,rot] at o0;rw[q2,q0] at o1;rw[q0,q1] at o2;rcases h.slot hu.1 with⟨c',s',hs',rfl⟩|⟨h3,h4⟩
      · obtain⟨ha',hb',-⟩:=h.new_real hs' hu;obtain⟨-,i1,i2⟩:=h.new_in hs' hin;rw[rot] at i1;rw[hC.same hs hs' ha hb ha' hb' o1 o0 i2 i1]
      · have hcv:=hC.cvd c s hs ha hb q (h.new_in hs (ho.inC));rcases hC.old hG hcv (h.old_real h3 h4 hu) h4 (h.old_in h3 h4 hin) with⟨k',s',e1,e2,e3,-,e5,e6,e7⟩|⟨k',s',e1,e2,e3⟩
        · exfalso;have:=hC.same hs e1 ha hb e2 e3 o1 o0 (Int.le_of_lt e6) (Int.le_of_lt e7);subst this;rw[hs] at e1;cases e1;omega
        · exfalso;rw[e3] at o0 o1;exact hC.cone c k' s s' hs e1 ha hb e2 ⟨o1,o0⟩
    · have hr:=h.old_real h1 h2 ht;have ho':InO P S t q:=fun i=>by have:=ho i;rw[h.old_q h1 h2,h.old_q h1 h2] at this;exact this
      rcases h.slot hu.1 with⟨c',s',hs',rfl⟩|⟨h3,h4⟩
      · exfalso;obtain⟨ha',hb',-⟩:=h.new_real hs' hu;have hcv:=hC.cvd c' s' hs' ha' hb' q (h.new_in hs' hin);rcases hC.old hG hcv hr h2 ho'.inC with⟨k',s1,e1,e2,e3,e4,e5,-⟩|⟨k',s1,e1,e2,e3⟩
        · obtain⟨t',i',jj,u',b1,b2,b3,b4,b5,b6,b7,b8,b9,b10,b11,b12,-⟩:=hC.rim.src k' s1 e1;have eu:u'=t:=by omega
          subst eu;have:=ho' jj;rw[qA_is,qA_is,b11,b12,crP_flip,e5] at this;omega
        · obtain⟨t',i',jj,u',b1,b2,b3,-⟩:=hC.rim.src k' s1 e1;have hq:q=qA P S t' (i'+1):=by rw[e3,b3];rfl
          obtain⟨m,hm⟩:=hG.corn t t' (i'+1) hr (hC.lt t' b1) (by rw[←b3];exact e2) (by rw[←hq];exact ho'.inC);exact ho'.ne m (by rw[hq,qA_is,qA_is,hm])
      ·exact hG.sole t u q hr (h.old_real h3 h4 hu) ho' (h.old_in h3 h4 hin)
  ·
    rcases h.slot ht.1 with⟨c,s,hs,rfl⟩|⟨h1,h2⟩
    · obtain⟨ha,hb,hv⟩:=h.new_real hs ht;obtain⟨q0,q1,q2⟩:=h.new_q hs;have hcv:=hC.cvd c s hs ha hb q (h.new_in hs (ho.inC));obtain e|e|e:i%3=0%3∨i%3=1%3∨i%3=2%3:=by omega
      ·
        obtain⟨g0,g1,g2⟩:=ho;rw[qA_eq P Y _ (show(i+1)%3=1%3 by omega),qA_eq P Y _ (show(i+2)%3=2%3 by omega),q1,q2] at g0;rw[qA_eq P Y _ (show(i+2)%3=2%3 by omega),qA_eq P Y _ e,q2,q0] at g1;rw[qA_eq P Y _ e,qA_eq P Y _ (show(i+1)%3=1%3 by omega),q0,q1] at g2;obtain⟨s1,hs1,es1⟩:=h.nx hs;have h10:s1.a≠-1:=by rw[es1];exact hb
        have hqp:=qne hs ha hb hv g1;have hray:RayP p (ptV P s1.a) q:=by
          rw[es1];exact ray_of' (b:=ptV P s.a) (by rw[crP_flip2,←rot,g0];rfl) (by rw[crP_rot1];exact hv) (Int.le_of_lt g1) hqp
        rcases h.slot hu.1 with⟨c',s',hs',rfl⟩|⟨h3,h4⟩
        · obtain⟨ha',hb',-⟩:=h.new_real hs' hu;obtain⟨-,i1,i2⟩:=h.new_in hs' hin;rw[rot] at i1;rcases h.cone_q hs1 h10 hray hs' ha' hb' i2 i1 hqp with x|x
          · right;rw[nA_eq Y _ e,(h.star.n0 c s hs).1,x]
          · left;rw[mod_succ_inj (List.getElem?_eq_some_iff.1 hs).1 (List.getElem?_eq_some_iff.1 hs').1 x]
        · exfalso;rcases hC.old hG hcv (h.old_real h3 h4 hu) h4 (h.old_in h3 h4 hin) with⟨k',s',e1,e2,e3,-,e5,e6,e7⟩|⟨k',s',e1,e2,e3⟩;·exact hC.cone k' _ s' s1 e1 hs1 e2 e3 h10 ⟨hray.symm.cr' e6,hray.symm.cr e7⟩
          · rw[e3] at hray;have:=hC.ray _ k' s1 s' hs1 e1 h10 e2 hray;rw[←this,hs1] at e1;injection e1 with e1;rw[e3,←e1,es1,self2] at g2;omega
      · obtain⟨g0,g1,g2⟩:=ho;rw[qA_eq P Y _ (show(i+1)%3=2%3 by omega),qA_eq P Y _ (show(i+2)%3=0%3 by omega),q2,q0] at g0;rw[qA_eq P Y _ (show(i+2)%3=0%3 by omega),qA_eq P Y _ e,q0,q1] at g1;rw[qA_eq P Y _ e,qA_eq P Y _ (show(i+1)%3=2%3 by omega),q1,q2,rot] at g2;have hqp:q≠p:=fun x=>by rw[x,show crP p p (ptV P s.b)=0 by unfold crP crs;grind] at g2;omega
        have hray:RayP p (ptV P s.a) q:=ray_of (b:=ptV P s.b) g0 (by rw[crP_rot1];exact hv) (Int.le_of_lt g2) hqp;rcases h.slot hu.1 with⟨c',s',hs',rfl⟩|⟨h3,h4⟩
        · obtain⟨ha',hb',-⟩:=h.new_real hs' hu;obtain⟨-,i1,i2⟩:=h.new_in hs' hin;rw[rot] at i1;rcases h.cone_q hs ha hray hs' ha' hb' i2 i1 hqp with x|x;·left;rw[x]
          · right;rw[nA_eq Y _ e,x,(h.star.n1 c' s' hs').1]
        · exfalso;rcases hC.old hG hcv (h.old_real h3 h4 hu) h4 (h.old_in h3 h4 hin) with⟨k',s',e1,e2,e3,-,e5,e6,e7⟩|⟨k',s',e1,e2,e3⟩;·exact hC.cone k' _ s' s e1 hs e2 e3 ha ⟨hray.symm.cr' e6,hray.symm.cr e7⟩
          · rw[e3] at hray;have:=hC.ray _ k' s s' hs e1 ha e2 hray;rw[←this,hs] at e1;injection e1 with e1;rw[e3,←e1,self] at g1;omega
      · obtain⟨g0,g1,g2⟩:=ho;rw[qA_eq P Y _ (show(i+1)%3=0%3 by omega),qA_eq P Y _ (show(i+2)%3=1%3 by omega),q0,q1] at g0;rw[qA_eq P Y _ (show(i+2)%3=1%3 by omega),qA_eq P Y _ e,q1,q2,rot] at g1;rw[qA_eq P Y _ e,qA_eq P Y _ (show(i+1)%3=0%3 by omega),q2,q0] at g2;rcases h.slot hu.1 with⟨c',s',hs',rfl⟩|⟨h3,h4⟩
        · obtain⟨ha',hb',-⟩:=h.new_real hs' hu;obtain⟨-,i1,i2⟩:=h.new_in hs' hin;rw[rot] at i1;left;rw[hC.same hs hs' ha hb ha' hb' g2 g1 i2 i1]
        · rcases hC.old hG hcv (h.old_real h3 h4 hu) h4 (h.old_in h3 h4 hin) with⟨k',s',e1,e2,e3,e4,e5,e6,e7⟩|⟨k',s',e1,e2,e3⟩
          · right;have:=hC.same hs e1 ha hb e2 e3 g2 g1 (Int.le_of_lt e6) (Int.le_of_lt e7);subst this;rw[nA_eq Y _ e,(h.star.n2 c s' u e1 e4).1]
          · exfalso;rw[e3] at g1 g2;exact hC.cone c k' s s' hs e1 ha hb e2 ⟨g2,g1⟩
    · have hr:=h.old_real h1 h2 ht;have ho':OnE P S t i q:=by
        unfold OnE at ho⊢;rw[h.old_q h1 h2,h.old_q h1 h2,h.old_q h1 h2] at ho;exact ho
      rcases h.slot hu.1 with⟨c',s',hs',rfl⟩|⟨h3,h4⟩
      · obtain⟨ha',hb',-⟩:=h.new_real hs' hu;have hcv:=hC.cvd c' s' hs' ha' hb' q (h.new_in hs' hin);rcases hC.old hG hcv hr h2 ho'.inC with⟨k',s1,e1,e2,e3,e4,e5,e6,e7⟩|⟨k',s1,e1,e2,e3⟩
        · obtain⟨t',i',jj,u',b1,b2,b3,b4,b5,b6,b7,b8,b9,b10,b11,b12,-⟩:=hC.rim.src k' s1 e1;have eu:u'=t:=by omega
          subst eu;have hjj:jj%3=i%3:=by
            refine Classical.byContradiction fun hc=>?_;have h0:crP (qA P S u' (jj+1)) (qA P S u' (jj+2)) q=0:=by rw[qA_is,qA_is,b11,b12,crP_flip,e5];rfl
            have:jj%3=(i+1)%3∨jj%3=(i+2)%3:=by omega
            rcases this with x|x
            · rw[qA_eq P S u' (show(jj+1)%3=(i+2)%3 by omega),qA_eq P S u' (show(jj+2)%3=i%3 by omega)] at h0;have:=ho'.2.1;omega
            · rw[qA_eq P S u' (show(jj+1)%3=i%3 by omega),qA_eq P S u' (show(jj+2)%3=(i+1)%3 by omega)] at h0;have:=ho'.2.2;omega
          obtain⟨-,i1,i2⟩:=h.new_in hs' hin;rw[rot] at i1;have hk:=hC.same e1 hs' e2 e3 ha' hb' e6 e7 i2 i1;right;rcases h.star.on u' h1 h2 i with⟨k2,s2,g1,g2,g3,g4,-⟩|⟨g1,-⟩
          · obtain⟨t2,i2',j2,u2,d1,d2,d3,d4,d5,d6,d7,d8,d9,d10,d11,d12,-⟩:=hC.rim.src k2 s2 g1;have eu:u2=u':=by omega
            have ej:j2=jj:=by omega
            subst eu;subst ej;have:=hC.rim.inj _ _ _ _ e1 g1 (b12.symm.trans d12);rw[g4,←this,hk]
          · exact absurd ⟨b5, by rw[b9];have:jj=i%3:=by omega
                                 rw[this]⟩ (g1 k' s1 e1)
        · exfalso;obtain⟨t',i',jj,u',b1,b2,b3,-⟩:=hC.rim.src k' s1 e1;have hq:q=qA P S t' (i'+1):=by rw[e3,b3];rfl
          obtain⟨m,hm⟩:=hG.corn t t' (i'+1) hr (hC.lt t' b1) (by rw[←b3];exact e2) (by rw[←hq];exact ho'.inC);exact ho'.no_corner hG.pos hr m (by rw[hq,qA_is,qA_is,hm])
      · rcases hG.sole2 t i u q hr (h.old_real h3 h4 hu) ho' (h.old_in h3 h4 hin) with e|e;·exact .inl e
        · right;rcases h.star.on t h1 h2 i with⟨k2,s2,g1,g2,g3,g4,-⟩|⟨-,g2,-⟩
          · exfalso;obtain⟨t2,i2',j2,u2,d1,d2,d3,d4,d5,d6,d7,d8,d9,d10,d11,d12,d13,-⟩:=hC.rim.src k2 s2 g1;have eu:u2=t:=by omega
            have ej:j2=i%3:=by omega
            rw[eu,ej,nA_mod] at d13;exact h4 (by rw[e,d13];exact d1)
          ·rw[g2];exact e
end
end Go.MagM
namespace Go.MagM
open Go.Proofs.YtdmfbkhafnkcfaaGreat
def PivR(P:List (Int×Int))(p:Int×Int)(R:List SideM)(pl:List Int):Prop:=∀(k:Nat)(s s1:SideM),R[k]?=some s→R[(k+1)%R.length]?=some s1→s.a≠-1→s.b≠-1→s1.b≠-1→s.b∉pl→∃A gx gy,0≤A∧0<gF (ptV P s.b) A gx gy p∧gF (ptV P s.b) A gx gy (ptV P s.a)≤0∧gF (ptV P s.b) A gx gy (ptV P s1.b)≤0
section
variable{P:List (Int×Int)}{S:List TriM}{p:Int×Int}{us:List Nat}{R:List SideM}{v:Int}{pl:List Int}{Y:List TriM}{M:List Nat}{k j t u i:Nat}{s s':SideM}{q:Int×Int}
theorem not_cf(h:¬Cf P S p t)(hr:∀k,vA S t k≠-1)(i:Nat):incP (qA P S t i) (qA P S t (i+1)) (qA P S t (i+2)) p≤0:=by refine Int.not_lt.1 fun hl=>h (.inl ⟨hr,?_⟩);have:=Dt.of_real hr i hl;exact this.real hr 0
theorem Put.spoke(h:Put P S p us R v pl Y M)(hpv:PivR P p R pl){s s1:SideM}(hs:R[k]?=some s)(hs1:R[(k+1)%R.length]?=some s1)(e:s1.a=s.b)(ha:s.a≠-1)(hb:s.b≠-1)(hb1:s1.b≠-1)(hn:s.b∉pl):incP (ptV P s.a) (ptV P s.b) p (ptV P s1.b)≤0:=by obtain⟨A,gx,gy,c0,c1,c2,c3⟩:=hpv k s s1 hs hs1 ha hb hb1 hn;have v1:=h.cav.vis k s hs ha hb;have v2:=h.cav.vis _ s1 hs1 (by rw[e];exact hb) hb1;rw[e] at v2;exact spoke_ok c0 c1 c3 c2 v1 v2
theorem Put.locD(h:Put P S p us R v pl Y M)(hL:LocD P S)(hpv:PivR P p R pl):LocD P Y:=by
  have hG:=h.geo;have hC:=h.cav;have hGY:=h.geoY;intro t i j ht hu hf h1 h2;rcases h.slot ht.1 with⟨k,s,hs,rfl⟩|⟨g1,g2⟩
  · obtain⟨ha,hb,hv⟩:=h.new_real hs ht;obtain⟨q0,q1,q2⟩:=h.new_q hs;obtain⟨a0,a1,a2⟩:=h.star.v0 k s hs;obtain e|e|e:i%3=0%3∨i%3=1%3∨i%3=2%3:=by omega
    · obtain⟨s1,hs1,es1⟩:=h.nx hs;obtain⟨n0,f0⟩:=h.star.n0 k s hs;rw[fA_eq Y _ e,f0] at hf;rw[nA_eq Y _ e,n0] at hu h1 h2⊢;obtain⟨b0,b1,b2⟩:=h.star.v0 _ s1 hs1;obtain⟨r0,r1,r2⟩:=h.new_q hs1;obtain⟨ha1,hb1,-⟩:=h.new_real hs1 hu;rw[vA_eq Y _ (show(i+2)%3=2%3 by omega),a2,←b2] at h1;have hj:=h.net.corner hu.1 h1;rw[qA_eq P Y _ (show(i+1)%3=1%3 by omega),qA_eq P Y _ (show(i+2)%3=2%3 by omega),qA_eq P Y _ e,qA_eq P Y _ (show j%3=1%3 by omega),q0,q1,q2,r1,incP_cyc];exact h.spoke hpv hs hs1 es1 ha hb hb1 (of_decide_eq_false hf)
    · obtain⟨k0,hk0,ek0⟩:=pred_mod (List.getElem?_eq_some_iff.1 hs).1;have hs0:R[k0]?=some R[k0]:=List.getElem?_eq_getElem hk0;have e0:=hC.rim.nxt k0 _ s hs0 (by rw[ek0];exact hs);obtain⟨n1,f1⟩:=h.star.n1 k0 _ hs0;rw[ek0] at n1 f1;rw[fA_eq Y _ e,f1] at hf;rw[nA_eq Y _ e,n1] at hu h1 h2⊢;obtain⟨b0,b1,b2⟩:=h.star.v0 _ _ hs0;obtain⟨r0,r1,r2⟩:=h.new_q hs0;obtain⟨ha1,hb1,-⟩:=h.new_real hs0 hu;rw[vA_eq Y _ (show(i+1)%3=2%3 by omega),a2,←b2] at h2;have hj:=h.net.corner hu.1 h2;rw[qA_eq P Y _ (show(i+1)%3=2%3 by omega),qA_eq P Y _ (show(i+2)%3=0%3 by omega),qA_eq P Y _ e,qA_eq P Y _ (show j%3=0%3 by omega),q0,q1,q2,r0];have:=h.spoke hpv hs0 (by rw[ek0];exact hs) e0 ha1 hb1 hb (of_decide_eq_false hf);rw[←e0] at this;rw[show incP p (ptV P s.a) (ptV P s.b) (ptV P (R[k0]).a)=incP (ptV P (R[k0]).a) (ptV P s.a) p (ptV P s.b) by unfold incP inc;grind];exact this
    · obtain⟨t',i',jj,u',b1,b2,b3,b4,b5,b6,b7,b8,b9,b10,b11,b12,b13,b14,b15⟩:=hC.rim.src k s hs;obtain⟨n2,f2⟩:=h.star.n2 k s u' hs b5;rw[fA_eq Y _ e,f2] at hf;rw[nA_eq Y _ e,n2] at hu h1 h2⊢;have hr:=h.old_real b7 b8 hu;rw[h.star.ov u' b7 b8,vA_eq Y _ (show(i+2)%3=1%3 by omega),a1] at h1;rw[h.star.ov u' b7 b8,vA_eq Y _ (show(i+1)%3=0%3 by omega),a0] at h2;have:=not_cf (hC.clo k s u' hs b5 hf) hr.2 (j+1);rw[qA_is P S u' (j+1),h1,show j+1+1=j+2 from rfl,qA_is P S u' (j+2),h2,qA_eq P S u' (show(j+1+2)%3=j%3 by omega)] at this;rw[qA_eq P Y _ (show(i+1)%3=0%3 by omega),qA_eq P Y _ (show(i+2)%3=1%3 by omega),qA_eq P Y _ e,q0,q1,q2,h.old_q b7 b8,incP_last];exact this
  · have hr:=h.old_real g1 g2 ht;rcases h.star.on t g1 g2 i with⟨k,s,c1,c2,c3,c4,c5⟩|⟨c1,c2,c3⟩
    · obtain⟨q0,q1,q2⟩:=h.new_q c1;obtain⟨a0,a1,a2⟩:=h.star.v0 k s c1;rw[c4] at hu h1 h2⊢;rw[c5] at hf;obtain⟨t',i',jj,u',b1,b2,b3,b4,b5,b6,b7,b8,b9,b10,b11,b12,b13,b14,b15⟩:=hC.rim.src k s c1;have eu:u'=t:=by omega
      have ej:jj=i%3:=by omega
      subst eu;subst ej;rw[vA_eq S u' (show(i%3+2)%3=(i+2)%3 by omega)] at b12;rw[h.star.ov u' g1 g2,b12,←a0] at h1;have hj:=h.net.corner hu.1 h1;rw[qA_eq P Y _ (show j%3=2%3 by omega),q2,h.old_q g1 g2,h.old_q g1 g2,h.old_q g1 g2];have:=not_cf (hC.clo k s u' c1 b5 hf) hr.2 (i+1);rw[qA_eq P S u' (show(i+1+2)%3=i%3 by omega)] at this;exact this
    · rw[c2] at hu h1 h2⊢;rw[c3] at hf;obtain⟨m,m0,m1,m2,m3,m4⟩:=hG.net.mate t g1 i;have hno:nA S t i∉us:=fun hm=>by
        obtain⟨k,s,d1,d2,d3⟩:=hC.rim.tgt _ hm m (by rw[m3];exact g2);obtain⟨t',i',j',u,b1,b2,b3,b4,b5,b6,b7,b8,b9,b10,b11,b12,b13,b14,b15⟩:=hC.rim.src k s d1;obtain⟨e,e'⟩:=hG.net.once _ _ _ _ m0 (hC.lt t' b1) (d2.symm.trans b3) (d3.symm.trans b4);have eu:u=t:=by rw[b6,←e,nA_eq S _ (show i'%3=m%3 by omega),m3]
        subst eu;have:=hG.net.corner g1 ((b11.trans d3).trans m2)
        exact c1 k s d1 ⟨b5, by rw[b9];have:j'=i%3:=by omega
                                rw[this]⟩
      rw[h.star.ov _ m0 hno,h.star.ov t g1 g2] at h1 h2;rw[h.old_q g1 g2,h.old_q g1 g2,h.old_q g1 g2,h.old_q m0 hno];exact hL t i j hr (h.old_real m0 hno hu) hf h1 h2
end
end Go.MagM
namespace Go.MagM
open Go.Proofs.YtdmfbkhafnkcfaaGreat
section
variable{P:List (Int×Int)}{S:List TriM}{p:Int×Int}{t u i j:Nat}
theorem betw_box{a b:Int×Int}:Betw a b p↔(decide (¬(p.1=a.1∧p.2=a.2)∧¬(p.1=b.1∧p.2=b.2))&&onP p.1 p.2 a.1 a.2 b.1 b.2)=true:=by
  unfold Betw onP;simp only[Bool.and_eq_true,decide_eq_true_eq];constructor
  · rintro⟨h0,h1⟩;have hb:=(on_box (show crs a.1 a.2 b.1 b.2 p.1 p.2=0 from h0)).1 (Int.le_of_lt h1);rw[tween,tween] at hb;refine⟨⟨fun⟨e1,e2⟩=>?_,fun⟨e1,e2⟩=>?_⟩,⟨h0,hb.1⟩,hb.2⟩;·unfold dotP at h1;rw[e1,e2] at h1;simp at h1
    ·unfold dotP at h1;rw[e1,e2] at h1;simp at h1
  · rintro⟨⟨n1,n2⟩,⟨h0,h1⟩,h2⟩;refine⟨h0,?_⟩;rw[←tween] at h1 h2;have h3:0≤dotP a b p:=(on_box h0).2 ⟨h1,h2⟩;refine Classical.byContradiction fun hc=>?_;have e:(p.1-a.1)*(b.1-p.1)+(p.2-a.2)*(b.2-p.2)=0:=by unfold dotP at h3 hc;omega
    have z1:=Int.mul_eq_zero.1 (show(p.1-a.1)*(b.1-p.1)=0 by omega);have z2:=Int.mul_eq_zero.1 (show(p.2-a.2)*(b.2-p.2)=0 by omega);have h0':(b.1-a.1)*(p.2-a.2)-(b.2-a.2)*(p.1-a.1)=0:=h0;rcases z1 with z1|z1<;>rcases z2 with z2|z2;·exact n1 ⟨by omega,by omega⟩
    · have e1:p.1-a.1=0:=z1;have e2:p.2-a.2=b.2-a.2:=by omega
      rw[e1,e2,Int.mul_zero,Int.sub_zero] at h0';rcases Int.mul_eq_zero.1 h0' with x|x;·exact n2 ⟨by omega,by omega⟩
      ·exact n1 ⟨by omega,by omega⟩
    · have e1:p.1-a.1=b.1-a.1:=by omega
      rw[z2,e1,Int.mul_zero,Int.zero_sub] at h0';rcases Int.mul_eq_zero.1 (show(b.2-a.2)*(b.1-a.1)=0 by omega) with x|x;·exact n2 ⟨by omega,by omega⟩
      ·exact n1 ⟨by omega,by omega⟩
    ·exact n2 ⟨by omega,by omega⟩
theorem corK_in{T:TriM}{k:Nat}(h:InV P (T.v k)):corK P T k=[ptT P T k]:=by unfold corK;exact if_pos h
theorem corK_out{T:TriM}{k:Nat}(h:T.v k=-1):corK P T k=[]:=by unfold corK;rw[if_neg (by omega)]
theorem corsA_real{T:TriM}(h:∀k,k<3→InV P (T.v k)):cors P T=[ptT P T 0,ptT P T 1,ptT P T 2]:=by
  have h0:=h 0 (by omega);have h1:=h 1 (by omega);have h2:=h 2 (by omega);have hp:placeT T (-1)=-1:=by unfold placeT;rw[if_neg (by have:=h0.1;show¬-1=T.v0;simp only[TriM.v] at this;omega),if_neg (by have:=h1.1;show¬-1=T.v1;simp only[TriM.v] at this;omega),if_neg (by have:=h2.1;show¬-1=T.v2;simp only[TriM.v] at this;omega)]
  have hc:corF T=0:=by unfold corF;rw[hp];rfl
  unfold cors;simp only[corsN,hc];rw[show(0+0)%3=0 from rfl,show(0+1)%3=1 from rfl,show(0+2)%3=2 from rfl,corK_in h0,corK_in h1,corK_in h2];rfl
theorem corsA_ghost{T:TriM}{g:Nat}(hg:g<3)(h0:T.v g=-1)(h1:InV P (T.v ((g+1)%3)))(h2:InV P (T.v ((g+2)%3))):cors P T=[ptT P T ((g+1)%3),ptT P T ((g+2)%3)]:=by
  have hc:corF T=g+1:=by
    unfold corF placeT;obtain rfl|rfl|rfl:g=0∨g=1∨g=2:=by omega
    ·rw[if_pos (show-1=T.v0 from h0.symm)];rfl
    · have a:=h2.1;simp only[TriM.v] at a h0;rw[if_neg (by omega),if_pos h0.symm];rfl
    · have a:=h1.1;have b:=h2.1;simp only[TriM.v] at a b h0;rw[if_neg (by omega),if_neg (by omega),if_pos h0.symm];rfl
  unfold cors;simp only[corsN,hc];rw[show(g+1+0)%3=(g+1)%3 from rfl,show(g+1+1)%3=(g+2)%3 from rfl,show(g+1+2)%3=g by omega,corK_in h1,corK_in h2,corK_out h0];rfl
theorem conf_cf(hN:Net P.length S)(hu:u<S.length):confT P S p (u:Int)=true↔Cf P S p u:=by
  have hU:S[u]?=some S[u]:=List.getElem?_eq_getElem hu;have hv:∀k,k<3→S[u].v k=vA S u k:=fun k hk=>by unfold vA;rw[hU];simp only[];rw[Nat.mod_eq_of_lt hk]
  have hq:∀k,k<3→ptT P S[u] k=qA P S u k:=fun k hk=>by unfold ptT;rw[hv k hk];rfl
  unfold confT;rw[Int.toNat_natCast,hU];simp only[];unfold conflictM;have inV:∀k,k<3→vA S u k≠-1→InV P (S[u].v k):=fun k hk h=>by
    rw[hv k hk];rcases hN.rng u hu k with e|e;·exact absurd e h
    ·exact e
  by_cases hr:∀k,vA S u k≠-1
  · rw[corsA_real (fun k hk=>inV k hk (hr k)),hq 0 (by omega),hq 1 (by omega),hq 2 (by omega)];unfold conflictL;simp only[decide_eq_true_eq];constructor;·intro h;exact .inl ⟨hr,h⟩
    ·intro h;exact h.real hr 0
  · obtain⟨g,hg⟩:∃g,vA S u g=-1:=Classical.byContradiction fun hn=>hr fun m hm=>hn ⟨m,hm⟩;have hg3:g%3<3:=Nat.mod_lt _ (by omega);have n1:vA S u ((g%3+1)%3)≠-1:=by
      rw[vA_eq S u (show((g%3+1)%3)%3=(g+1)%3 by omega)];exact fun e=>hN.apart u hu g (hg.trans e.symm)
    have n2:vA S u ((g%3+2)%3)≠-1:=by
      rw[vA_eq S u (show((g%3+2)%3)%3=(g+2)%3 by omega)];exact fun e=>hN.apart2 hu g (hg.trans e.symm)
    have l1:(g%3+1)%3<3:=Nat.mod_lt _ (by omega);have l2:(g%3+2)%3<3:=Nat.mod_lt _ (by omega);rw[corsA_ghost hg3 (by rw[hv _ hg3,vA_mod];exact hg) (inV _ l1 n1) (inV _ l2 n2),hq _ l1,hq _ l2,qA_eq P S u (show((g%3+1)%3)%3=(g+1)%3 by omega),qA_eq P S u (show((g%3+2)%3)%3=(g+2)%3 by omega)];unfold conflictL;rw[Bool.or_eq_true,decide_eq_true_eq,←betw_box];constructor;·intro h;exact .inr ⟨g,hg,h⟩
    ·intro h;exact h.ghost hN hu hg
theorem reach_rch(hN:Net P.length S){st:List Int}{stn:List Nat}(hst:∀x:Nat,(x:Int)∈st↔x∈stn)(hs0:∀z∈st,∃x:Nat,z=(x:Int))(hlt:∀x∈stn,x<S.length):(∀z,Go.Proofs.YtdmfbkhafnkcfaaGreat.Reach S (confT P S p) st z→∃x:Nat,z=(x:Int)∧RchA P S p stn x)∧∀x,RchA P S p stn x→x<S.length∧Go.Proofs.YtdmfbkhafnkcfaaGreat.Reach S (confT P S p) st (x:Int):=by
  have nx:∀(t i:Nat)(T:TriM),S[t]?=some T→i<3→T.n i=((nA S t i:Nat):Int)∧T.f i=fA S t i:=fun t i T hT hi=>by
    have h0:=hN.nn t T hT i hi;unfold nA fA;rw[hT];simp only[];rw[Nat.mod_eq_of_lt hi];exact⟨by omega,rfl⟩
  constructor
  · intro z hz;induction hz with
    |base h=>obtain⟨x,rfl⟩:=hs0 _ h;exact⟨x,rfl,.base ((hst x).1 h)⟩|step _ hT hi hf hc ih=>
      rename_i t i T _;obtain⟨x,e,hx⟩:=ih;have e':t=x:=by omega
      subst e';obtain⟨e1,e2⟩:=nx t i T hT hi;have htl:=(List.getElem?_eq_some_iff.1 hT).1;obtain⟨k,k0,-⟩:=hN.mate t htl i;rw[e1] at hc;exact⟨nA S t i,e1,.step hx (e2.symm.trans hf) ((conf_cf hN k0).1 hc)⟩
  · intro x hx;induction hx with
    |base h=>exact⟨hlt _ h,.base ((hst _).2 h)⟩|step _ hf hc ih=>
      rename_i t i _;obtain⟨htl,hr⟩:=ih;have hT:S[t]?=some S[t]:=List.getElem?_eq_getElem htl;have hi:i%3<3:=Nat.mod_lt _ (by omega);obtain⟨e1,e2⟩:=nx t (i%3) S[t] hT hi;rw[nA_mod] at e1;rw[fA_mod] at e2;obtain⟨k,k0,-⟩:=hN.mate t htl i;refine⟨k0,?_⟩;rw[←e1];exact .step hr hT hi (e2.trans hf) (by rw[e1];exact(conf_cf hN k0).2 hc)
end
end Go.MagM
namespace Go.MagM
open Go.Proofs.YtdmfbkhafnkcfaaGreat
section
variable{P:List (Int×Int)}{S:List TriM}{d p:Int×Int}{st us:List Nat}{ex pl:List Int}{ts stI:List Int}{r0 g0:List (Nat×Nat)}{v:Int}
theorem cav_all(hG:Geo P S)(hL:LocD P S)(hS:Site P.length P S d p st)(h0:Hole P S d p st st r0)(hne:st≠[])(hcov:CovQ P S p st r0)(hpiv:PivQ P S p ex r0)(hkeep:∀s∈g0,s∈r0∧(edA S s=-1∨edB S s=-1))(hgl:g0≠[]→∀u,u<S.length→∀i,vA S u i=-1→Cf P S p u→u∈st)(hex:∀x∈ex,x∈pl∨∃s∈g0,(edA S s=x∧edB S s=-1)∨(edB S s=x∧edA S s=-1))(hgc:∀t∈st,∀i,vA S t i=-1→Cf P S p t)(hk:(∀u,u<S.length→∀i,vA S u i=-1→Cf P S p u→u∈st)∨((∀t,t<S.length→∀i,vA S t i≠-1→0<crD d p (qA P S t i))∧∃t∈st,∃i,Fac P S p t i))(hhold:∀t,RealA S t→InC P S t p→t∈st)(hI:InS S ts)(hts:∀z,z∈ts↔Go.Proofs.YtdmfbkhafnkcfaaGreat.Reach S (confT P S p) stI z)(hst:∀x:Nat,(x:Int)∈stI↔x∈st)(hs0:∀z∈stI,∃x:Nat,z=(x:Int)):∃us:List Nat,(∀x:Nat,(x:Int)∈ts↔x∈us)∧Cav P S p us (rimR S ts)∧PivR P p (rimR S ts) pl∧(rimR S ts).length=ts.length+2:=by
  obtain⟨us,rim,hH,⟨qc,qp,qk⟩,hcl,hclo⟩:=hole_all hS (fun us rim=>CovQ P S p us rim∧PivQ P S p ex rim∧∀s∈g0,s∈rim) (fun us l r t i j hh ⟨q1,q2,q3⟩ hf hc m1 m2=>by
      refine⟨cov_step hS hh q1 hc m1 m2,piv_step hG hL hS hh q2 hf hc m1 m2,fun s hs=>?_⟩;have hm:=q3 s hs;have hsk:=hh.stepOk hS rfl hc m1 m2;simp only[List.mem_append,List.mem_cons] at hm⊢;rcases hm with hm|hm|hm;·exact .inl hm
      · exfalso;obtain⟨-,hg⟩:=hkeep s hs;have hgl':=hgl (fun e=>by rw[e] at hs;cases hs);rw[hm] at hg;rcases hg with hg|hg;·exact hsk.uno (hh.sub _ (hgl' _ hsk.ult (j+2) (m2.trans hg) hc))
        ·exact hsk.uno (hh.sub _ (hgl' _ hsk.ult (j+1) (m1.trans hg) hc))
      ·exact .inr (.inr (.inr hm))) S.length st r0 (by omega) h0 ⟨hcov,hpiv,fun s hs=>(hkeep s hs).1⟩ (fun x hx=> .base hx);obtain⟨w1,w2⟩:=reach_rch (p:=p) hG.net hst hs0 h0.lt;have hus:∀x:Nat,(x:Int)∈ts↔x∈us:=fun x=>by
    rw[hts,hcl];constructor
    · intro hx;obtain⟨y,e,hy⟩:=w1 _ hx;have:x=y:=by omega
      rw[this];exact hy
    ·intro hx;exact(w2 x hx).2
  have hune:us≠[]:=fun e=>by cases st with
    |nil=>exact hne rfl|cons x r=>have:=hH.sub x (by simp);rw[e] at this;cases this
  obtain⟨m,hp,hR,hrim⟩:=hH.rim hG.net hI hus hune;have hlen:(rimR S ts).length=ts.length+2:=by
    rw[hR,List.length_map,hp.length_eq,hH.cnt];have:(us.map (fun x:Nat=>(x:Int))).Perm ts:=by
      rw[List.perm_ext_iff_of_nodup _ hI.once]
      · intro z;rw[List.mem_map];constructor;·rintro⟨x,hx,rfl⟩;exact(hus x).2 hx
        · intro hz;obtain⟨x,rfl,-⟩:=hI.is z hz;exact⟨x,(hus x).1 hz,rfl⟩
      · rw[List.nodup_iff_pairwise_ne,List.pairwise_map];exact(List.nodup_iff_pairwise_ne.1 hH.once).imp fun h e=>h (by omega)
    have:=this.length_eq;rw[List.length_map] at this;omega
  have row:∀{k:Nat}{s:SideM},(rimR S ts)[k]?=some s→∃x,m[k]?=some x∧x∈rim∧s=sdM S x∧s.a=edA S x∧s.b=edB S x:=fun{k s} hs=>by
    rw[hR,List.getElem?_map] at hs;obtain⟨x,hx,rfl⟩:=Option.map_eq_some_iff.1 hs;have hm:=hp.mem_iff.1 (List.mem_of_getElem? hx);obtain⟨h1,h2,-⟩:=hH.rl x hm;obtain⟨e1,e2⟩:=sdM_a (hH.lt _ h1) h2;exact⟨x,hx,hm,rfl,e1,e2⟩
  have hinj:∀s∈rim,∀s'∈rim,edA S s'=edA S s→s'=s:=fun s hs s' hs' e=>by
    obtain⟨l',r',e'⟩:=List.append_of_mem hs;have hH':=hH;rw[e'] at hs' hH';simp only[List.mem_append,List.mem_cons] at hs';rcases hs' with hs'|hs'|hs'
    · have:=hH'.sorted_l hs';rw[e] at this;exact(ltV_irr this).elim
    ·exact hs'
    · have:=hH'.sorted_r hs';rw[e] at this;exact(ltV_irr this).elim
  refine⟨us,hus,⟨hrim,hH.lt,fun k s hs h1 h2=>?_,fun k j s s' hs hs' h1 h2 h3=>?_,fun k j s s' hs hs' h1 h2 hr=>?_,fun k s hs h1 h2 q hq=>?_,fun t ht i=>?_,fun k s u hs hu hf=>?_,fun g i hg hi hc=>?_,fun t ht i hi=>?_,fun t ht hi=>hH.sub t (hhold t ht hi)⟩,fun k s s1 hs hs1 h1 h2 h3 h4=>?_,hlen⟩
  · obtain⟨x,-,hx,-,e1,e2⟩:=row hs;rw[e1] at h1;rw[e2] at h2;rw[e1,e2];exact hH.vis x hx h1 h2
  · obtain⟨x,-,hx,-,e1,e2⟩:=row hs;obtain⟨y,-,hy,-,f1,-⟩:=row hs';rw[e1] at h1;rw[e2] at h2;rw[f1] at h3;rw[e1,e2,f1];exact hH.cone hS.dir hx hy h1 h2 h3
  · obtain⟨x,hmx,hx,ex,e1,e2⟩:=row hs;obtain⟨y,hmy,hy,ey,f1,-⟩:=row hs';rw[e1,f1] at hr;have:=hH.ray hx hy (by rw[←e1];exact h1) (by rw[←f1];exact h2) hr;exact hrim.inj k j s s' hs hs' (by rw[ex,ey,this])
  · obtain⟨x,-,hx,-,e1,e2⟩:=row hs;rw[e1] at h1 hq;rw[e2] at h2 hq;exact qc x hx h1 h2 q hq
  · obtain⟨x,hx,e⟩:=hH.cov t ht i;obtain⟨k,hk⟩:=List.mem_iff_getElem?.1 (hp.mem_iff.2 hx);obtain⟨h1,h2,-⟩:=hH.rl x hx;exact⟨k,sdM S x,by rw[hR,List.getElem?_map,hk];rfl,(sdM_a (hH.lt _ h1) h2).1.trans e⟩
  · obtain⟨x,-,hx,ex,e1,e2⟩:=row hs;obtain⟨h1,h2,-⟩:=hH.rl x hx;obtain⟨j,u',b1,b2,b3,b4,b5,b6,b7,b8,b9,b10⟩:=sdM_src hG.net (hH.lt _ h1) h2;rw[←ex] at b1 b9;have eu:u=u':=by omega
    rw[eu,b2];exact hclo x hx (b9.symm.trans hf)
  · refine ghost_all hG hS.dir hH.sub hcl ?_ hg hi hc;rcases hk with hA|⟨half,t,ht,hf⟩;·exact .inl hA
    ·exact .inr ⟨half,t,hH.sub t ht,hf⟩
  · have:=(hcl t).1 ht;cases this with|base h=>exact hgc t h i hi|step _ _ h=>exact h
  · obtain⟨x,hmx,hx,ex',e1,e2⟩:=row hs;obtain⟨y,hmy,hy,ey,f1,f2⟩:=row hs1;have hnx:=hrim.nxt k s s1 hs hs1;have hya:edA S y=s.b:=by rw[←f1];exact hnx
    have hnex:edA S y∉ex:=fun hm=>by
      rcases hex _ hm with g|⟨s',hs',g⟩;·rw[hya] at g;exact h4 g
      · have hs'':=qk s' hs';rcases g with⟨g1,g2⟩|⟨g1,g2⟩
        · have:=hinj y hy s' hs'' g1;rw[this,←f2] at g2;exact h3 g2
        ·
          obtain⟨k',hk'⟩:=List.mem_iff_getElem?.1 (hp.mem_iff.2 hs'');have hR':(rimR S ts)[k']?=some (sdM S s'):=by rw[hR,List.getElem?_map,hk'];rfl
          obtain⟨q1,q2,-⟩:=hH.rl s' hs'';obtain⟨z1,z2⟩:=sdM_a (hH.lt _ q1) q2;have hl:(k'+1)%(rimR S ts).length<(rimR S ts).length:=Nat.mod_lt _ (by have:=hrim.three;omega);have hn':=hrim.nxt k' _ _ hR' (List.getElem?_eq_getElem hl);have:=hrim.inj _ _ _ _ (List.getElem?_eq_getElem hl) hs1 (by rw[hn',z2,g1,←f1]);have hkk:=mod_succ_inj (List.getElem?_eq_some_iff.1 hR').1 (List.getElem?_eq_some_iff.1 hs).1 this;subst hkk;rw[hs] at hR';injection hR' with hR';rw[hR',z1] at h1;exact h1 g2
    obtain⟨A,gx,gy,hpv⟩:=qp y hy (by rw[hya];exact h2) hnex;refine⟨A,gx,gy,hpv.A0,?_,?_,?_⟩;·rw[←hya];exact hpv.pin
    · have:=(hpv.inn x hx (by rw[←e2,←hnx,f1]) (by rw[←e1];exact h1)).1;rw[←hya,e1];exact this
    · have:=(hpv.out y hy rfl (by rw[←f2];exact h3)).1;rw[←hya,f2];exact this
end
end Go.MagM
namespace Go.MagM
open Go.Proofs.YtdmfbkhafnkcfaaGreat
section
variable{P:List (Int×Int)}{S:List TriM}{p:Int×Int}{t u i j m:Nat}{rim:List (Nat×Nat)}{x:Int}
theorem incP_own(t m k:Nat):incP (qA P S t m) (qA P S t (m+1)) (qA P S t (m+2)) (qA P S t k)=0:=by
  obtain e|e|e:k%3=m%3∨k%3=(m+1)%3∨k%3=(m+2)%3:=by omega
  ·rw[qA_eq P S t e];exact incP_a _ _ _
  ·rw[qA_eq P S t e];exact incP_b _ _ _
  ·rw[qA_eq P S t e];exact incP_c _ _ _
theorem piv_tri(hr:RealA S t)(hp:PosT P S)(hin:0<incP (qA P S t m) (qA P S t (m+1)) (qA P S t (m+2)) p)(hx:vA S t m=x)(hs:∀s∈rim,edA S s=x∨edB S s=x→s.1=t):∃A gx gy,PivA P S p rim x A gx gy:=by
  obtain⟨A,gx,gy,hA,hg⟩:=pivA_real (P:=P) hr hp m;have eq:qA P S t m=ptV P x:=by rw[←hx];rfl
  rw[eq] at hg hin;have hD:∀q,0<gF (ptV P x) A gx gy q→Dt P S t q:=fun q hq=>Dt.of_real hr.2 m (by rw[eq,hg];exact hq);have own:∀k,gF (ptV P x) A gx gy (qA P S t k)=0:=fun k=>by rw[←hg,←eq];exact incP_own t m k
  refine⟨A,gx,gy,hA,by rw[←hg];exact hin,fun s h1 h2 h3=>?_,fun s h1 h2 h3=>?_,fun s h1 h2 h3 q=>?_,fun s h1 h2 h3 q=>?_⟩
  · have e:=hs s h1 (.inl h2);refine⟨?_,fun q _ _ hq=>by rw[e];exact hD q hq⟩;have:=own (s.2+2);unfold edB;rw[e];have:gF (ptV P x) A gx gy (ptV P (vA S t (s.2+2)))=0:=this;omega
  · have e:=hs s h1 (.inr h2);refine⟨?_,fun q _ _ hq=>by rw[e];exact hD q hq⟩;have:=own (s.2+1);unfold edA;rw[e];have:gF (ptV P x) A gx gy (ptV P (vA S t (s.2+1)))=0:=this;omega
  · exfalso;have e:=hs s h1 (.inl h2);unfold edB at h3;rw[e] at h3;exact hr.2 _ h3
  · exfalso;have e:=hs s h1 (.inr h2);unfold edA at h3;rw[e] at h3;exact hr.2 _ h3
theorem InC.disc(hp:PosT P S)(ht:RealA S t)(h:InC P S t p)(hne:∀k,p≠qA P S t k)(m:Nat):0<incP (qA P S t m) (qA P S t (m+1)) (qA P S t (m+2)) p:=by
  have hD:=hp.at_ ht.1 ht.2 m;have g0:=h m;have g1:=h (m+1);have g2:=h (m+2);rw[qA_eq P S t (show(m+1+2)%3=m%3 by omega)] at g1;rw[qA_eq P S t (show(m+2+1)%3=m%3 by omega),qA_eq P S t (show(m+2+2)%3=(m+1)%3 by omega)] at g2;rcases inc_in hD g2 g0 g1 with e|⟨e1,e2⟩|⟨e1,e2⟩|⟨e1,e2⟩;·exact e
  ·exact absurd (Prod.ext e1 e2) (hne m)
  ·exact absurd (Prod.ext e1 e2) (hne (m+1))
  ·exact absurd (Prod.ext e1 e2) (hne (m+2))
inductive PlaceA(P:List (Int×Int))(S:List TriM)(p:Int×Int):List Nat→List Int→Prop|inside{t:Nat}:RealA S t→InO P S t p→PlaceA P S p [t] []|edge{t i:Nat}{pl:List Int}:RealA S t→OnE P S t i p→(∀x∈pl,0≤x)→(fA S t i=true→vA S t (i+1)∈pl∧vA S t (i+2)∈pl)→PlaceA P S p [t,nA S t i] pl|out{t i:Nat}:Fac P S p t i→PlaceA P S p [t] []
variable{st:List Nat}{pl ts stI:List Int}
theorem cav_place(hG:Geo P S)(hL:LocD P S)(hpl:PlaceA P S p st pl)(hI:InS S ts)(hts:∀z,z∈ts↔Go.Proofs.YtdmfbkhafnkcfaaGreat.Reach S (confT P S p) stI z)(hst:∀x:Nat,(x:Int)∈stI↔x∈st)(hs0:∀z∈stI,∃x:Nat,z=(x:Int)):∃us:List Nat,(∀x:Nat,(x:Int)∈ts↔x∈us)∧Cav P S p us (rimR S ts)∧PivR P p (rimR S ts) pl∧(rimR S ts).length=ts.length+2:=by cases hpl with
  |@inside t ht ho=>
    obtain⟨hS,hH⟩:=holeS_in hG ht ho;have hdisc:=InC.disc hG.pos ht ho.inC (fun k e=>ho.ne k e.symm);refine cav_all (ex:=[]) (g0:=[]) hG hL hS hH (by simp) (cov_start hG.pos (fun x hx=>?_) (fun s hs=>(hH.rl s hs).1) hH.vis) (fun s hs g1 _=>?_) (fun s hs=>by cases hs) (fun hn=>absurd rfl hn) (fun x hx=>by cases hx) (fun x hx i hi=>?_) (.inl fun v hv k hk hc=>(ho.ghost hG ht hv hk hc).elim) (fun t' ht' hi=>?_) hI hts hst hs0;·simp only[List.mem_singleton] at hx;subst hx;exact .inl ⟨ht,ho.inC⟩
    · have hs1:s.1=t:=by simpa using(hH.rl s hs).1
      refine piv_tri ht hG.pos (hdisc (s.2+1)) (by unfold edA;rw[hs1]) fun s' hs' _=>by simpa using(hH.rl s' hs').1
    ·simp only[List.mem_singleton] at hx;subst hx;exact absurd hi (ht.2 i)
    ·simp[hG.sole t t' p ht ht' ho hi]|@out t i hf=>
    obtain⟨htl,hi,hfp⟩:=hf;obtain⟨hS,hH⟩:=holeS_out hG htl hi hfp;have hx1:vA S t (i+1)≠-1:=fun e=>hG.net.apart t htl i (hi.trans e.symm);have hy1:vA S t (i+2)≠-1:=fun e=>hG.net.apart2 htl i (hi.trans e.symm);have hxy:vA S t (i+1)≠vA S t (i+2):=hG.net.apart t htl (i+1);have s2a:edA S (t,(i+2)%3)=-1:=by unfold edA;simp only[];rw[vA_eq S t (show((i+2)%3+1)%3=i%3 by omega),hi]
    have s2b:edB S (t,(i+2)%3)=vA S t (i+1):=by unfold edB;simp only[];rw[vA_eq S t (show((i+2)%3+2)%3=(i+1)%3 by omega)]
    have s0a:edA S (t,i%3)=vA S t (i+1):=by unfold edA;simp only[];rw[vA_eq S t (show(i%3+1)%3=(i+1)%3 by omega)]
    have s0b:edB S (t,i%3)=vA S t (i+2):=by unfold edB;simp only[];rw[vA_eq S t (show(i%3+2)%3=(i+2)%3 by omega)]
    have s1a:edA S (t,(i+1)%3)=vA S t (i+2):=by unfold edA;simp only[];rw[vA_eq S t (show((i+1)%3+1)%3=(i+2)%3 by omega)]
    have s1b:edB S (t,(i+1)%3)=-1:=by unfold edB;simp only[];rw[vA_eq S t (show((i+1)%3+2)%3=i%3 by omega),hi]
    have self:∀a b:Int×Int,crP a b a=0:=fun a b=>by unfold crP crs;grind
    have self2:∀a b:Int×Int,crP a b b=0:=fun a b=>by unfold crP crs;grind
    refine cav_all (ex:=[]) (g0:=[]) hG hL hS hH (by simp) (cov_start hG.pos (fun x hx=>?_) (fun s hs=>(hH.rl s hs).1) hH.vis) (fun s hs g1 _=>?_) (fun s hs=>by cases hs) (fun hn=>absurd rfl hn) (fun x hx=>by cases hx) (fun x hx k hk=>?_) ?_ (fun t' ht' hin=>?_) hI hts hst hs0;·simp only[List.mem_singleton] at hx;subst hx;exact .inr ⟨htl,i,hi⟩
    · simp only[List.mem_cons,List.not_mem_nil,or_false] at hs;rcases hs with rfl|rfl|rfl;·exact absurd s2a g1
      · rw[s0a];obtain⟨gx,gy,hg⟩:=gF_line' (qA P S t (i+1)) (qA P S t (i+2));refine⟨0,gx,gy,Int.le_refl _,by rw[←qA_is,hg];exact hfp,fun s' hs' e1 e2=>?_,fun s' hs' e1 e2=>?_,fun s' hs' e1 e2 q=>?_,fun s' hs' e1 e2 q=>?_⟩;all_goals simp only[List.mem_cons,List.not_mem_nil,or_false] at hs'
        · rcases hs' with rfl|rfl|rfl;·exact absurd (s2a.symm.trans e1).symm hx1
          · rw[s0b,←qA_is,←qA_is,hg,self2];refine⟨Int.le_refl _,fun q _ h2 h3=>?_⟩;rw[hg] at h3;omega
          ·exact absurd (s1a.symm.trans e1).symm hxy
        · rcases hs' with rfl|rfl|rfl;·exact absurd s2a e2
          ·exact absurd (s0b.symm.trans e1).symm hxy
          ·exact absurd (s1b.symm.trans e1).symm hx1
        · rcases hs' with rfl|rfl|rfl;·exact absurd (s2a.symm.trans e1).symm hx1
          ·exact absurd (s0b.symm.trans e2) hy1
          ·exact absurd (s1a.symm.trans e1).symm hxy
        · rcases hs' with rfl|rfl|rfl
          · simp only[];rw[←qA_is,hg,qA_eq P S t (Nat.mod_mod _ 3)]
          ·exact absurd (s0b.symm.trans e1).symm hxy
          ·exact absurd (s1b.symm.trans e1).symm hx1
      · rw[s1a];obtain⟨gx,gy,hg⟩:=gF_line (qA P S t (i+1)) (qA P S t (i+2));refine⟨0,gx,gy,Int.le_refl _,by rw[←qA_is,hg];exact hfp,fun s' hs' e1 e2=>?_,fun s' hs' e1 e2=>?_,fun s' hs' e1 e2 q=>?_,fun s' hs' e1 e2 q=>?_⟩;all_goals simp only[List.mem_cons,List.not_mem_nil,or_false] at hs'
        · rcases hs' with rfl|rfl|rfl;·exact absurd (s2a.symm.trans e1).symm hy1
          ·exact absurd (s0a.symm.trans e1) hxy
          ·exact absurd s1b e2
        · rcases hs' with rfl|rfl|rfl;·exact absurd s2a e2
          · rw[s0a,←qA_is,←qA_is,hg,self];refine⟨Int.le_refl _,fun q _ h2 h3=>?_⟩;rw[hg] at h3;have:crP (qA P S t (i+1)) (qA P S t (i+2)) q<0:=h2;omega
          ·exact absurd (s1b.symm.trans e1).symm hy1
        · rcases hs' with rfl|rfl|rfl;·exact absurd (s2a.symm.trans e1).symm hy1
          ·exact absurd (s0a.symm.trans e1) hxy
          · simp only[];rw[←qA_is,hg,qA_eq P S t (Nat.mod_mod _ 3)]
        · rcases hs' with rfl|rfl|rfl;·exact absurd (s2b.symm.trans e1) hxy
          ·exact absurd (s0a.symm.trans e2) hx1
          ·exact absurd (s1b.symm.trans e1).symm hy1
    · simp only[List.mem_singleton] at hx;subst hx;exact .inr ⟨i,hi,.inl hfp⟩
    · rcases hS.gh with g|g;·exact .inl g
      ·exact .inr ⟨g,t,by simp,i,htl,hi,hfp⟩
    · have:=hG.held_conv ht' hin htl hi;omega|@edge t i pl ht ho h0 hfpl=>
    obtain⟨j,hul,h1,h2,h3,h4⟩:=hG.net.mate t ht.1 i;obtain⟨u,hu⟩:∃u,nA S t i=u:=⟨_,rfl⟩;rw[hu] at hul h1 h2 h3 h4 hst;obtain⟨d,r0,hS,hH,hr0,hgh⟩:=holeS_edge hG ht ho hu h1 h2;have hut:u≠t:=fun e=>hG.net.not_own ht.1 i (hu.trans e);have a1:edA S (t,(i+1)%3)=vA S t (i+2):=by unfold edA;simp only[];rw[vA_eq S t (show((i+1)%3+1)%3=(i+2)%3 by omega)]
    have b1:edB S (t,(i+1)%3)=vA S t i:=by unfold edB;simp only[];rw[vA_eq S t (show((i+1)%3+2)%3=i%3 by omega)]
    have a2:edA S (t,(i+2)%3)=vA S t i:=by unfold edA;simp only[];rw[vA_eq S t (show((i+2)%3+1)%3=i%3 by omega)]
    have b2:edB S (t,(i+2)%3)=vA S t (i+1):=by unfold edB;simp only[];rw[vA_eq S t (show((i+2)%3+2)%3=(i+1)%3 by omega)]
    have a3:edA S (u,(j+1)%3)=vA S t (i+1):=by unfold edA;simp only[];rw[vA_eq S u (show((j+1)%3+1)%3=(j+2)%3 by omega),h2]
    have b3:edB S (u,(j+1)%3)=vA S u j:=by unfold edB;simp only[];rw[vA_eq S u (show((j+1)%3+2)%3=j%3 by omega)]
    have a4:edA S (u,(j+2)%3)=vA S u j:=by unfold edA;simp only[];rw[vA_eq S u (show((j+2)%3+1)%3=j%3 by omega)]
    have b4:edB S (u,(j+2)%3)=vA S t (i+2):=by unfold edB;simp only[];rw[vA_eq S u (show((j+2)%3+2)%3=(j+1)%3 by omega),h1]
    have m1:=(hr0 (t,(i+1)%3)).2 (by simp);have m2:=(hr0 (t,(i+2)%3)).2 (by simp);have m3:=(hr0 (u,(j+1)%3)).2 (by simp);have m4:=(hr0 (u,(j+2)%3)).2 (by simp);have dca:vA S t i≠vA S t (i+1):=hG.net.apart t ht.1 i;have dab:vA S t (i+1)≠vA S t (i+2):=hG.net.apart t ht.1 (i+1);have dcb:vA S t i≠vA S t (i+2):=hG.net.apart2 ht.1 i;have deb:vA S u j≠vA S t (i+2):=by rw[←h1];exact hG.net.apart u hul j
    have dea:vA S u j≠vA S t (i+1):=by rw[←h2];exact hG.net.apart2 hul j
    have dec:vA S u j≠vA S t i:=fun e=>by
      have:=hH.inj m2 m4 (by rw[a4,a2,e]);rw[Prod.mk.injEq] at this;exact hut this.1
    have hdt:=InC.disc hG.pos ht ho.inC (fun k=>ho.no_corner hG.pos ht k);have ureal:vA S u j≠-1→RealA S u:=fun he=>⟨hul,three_cases (fun k=>vA S u k≠-1) (fun a b e k=>by rw[←vA_eq S u e];exact k) j he (by rw[h1];exact ht.2 _) (by rw[h2];exact ht.2 _)⟩;have hou:∀hr:RealA S u,OnE P S u j p:=fun hr=>OnE.other hG.pos ht ho hr h1 h2;have hst':∀x∈[t,u],(RealA S x∧InC P S x p)∨(x<S.length∧∃i,vA S x i=-1):=fun x hx=>by
      simp only[List.mem_cons,List.not_mem_nil,or_false] at hx;rcases hx with rfl|rfl;·exact .inl ⟨ht,ho.inC⟩
      · by_cases he:vA S x j=-1;·exact .inr ⟨hul,j,he⟩
        ·exact .inl ⟨ureal he,(hou (ureal he)).inC⟩
    have hgc:∀x∈[t,u],∀k,vA S x k=-1→Cf P S p x:=fun x hx k hk=>by
      simp only[List.mem_cons,List.not_mem_nil,or_false] at hx;rcases hx with rfl|rfl;·exact absurd hk (ht.2 k)
      · have hkj:k%3=j%3:=by
          refine Classical.byContradiction fun hc=>?_;have:k%3=(j+1)%3∨k%3=(j+2)%3:=by omega
          rcases this with e|e;·rw[vA_eq S x e,h1] at hk;exact ht.2 _ hk
          ·rw[vA_eq S x e,h2] at hk;exact ht.2 _ hk
        refine .inr ⟨k,hk,.inr ?_⟩;rw[qA_eq P S x (show(k+1)%3=(j+1)%3 by omega),qA_eq P S x (show(k+2)%3=(j+2)%3 by omega),qA_is,qA_is,h1,h2];refine Betw.symm (betw_of (u:=qA P S t i) (v:=qA P S t (i+1)) ho.1 ?_ ?_);·rw[show crP (qA P S t i) (qA P S t (i+1)) (ptV P (vA S t (i+1)))=0 by rw[←qA_is];unfold crP crs;grind];exact ho.2.2
        · have:=crP_sum3 (qA P S t i) (qA P S t (i+1)) (qA P S t (i+2)) p;have g0:=ho.1;have g1:=ho.2.1;rw[←qA_is];omega
    have hhold:∀t',RealA S t'→InC P S t' p→t'∈[t,u]:=fun t' ht' hi=>by
      rcases hG.sole2 t i t' p ht ht' ho hi with e|e;·simp[e]
      ·rw[hu] at e;simp[e]
    have hcov:=cov_start hG.pos hst' (fun s hs=>(hH.rl s hs).1) hH.vis;have hc:∃A gx gy,PivA P S p r0 (vA S t i) A gx gy:=piv_tri ht hG.pos (hdt i) rfl fun s hs hx=>by
      rcases(hr0 s).1 hs with rfl|rfl|rfl|rfl;·rfl
      ·rfl
      · rw[a3,b3] at hx;rcases hx with e|e;·exact absurd e.symm dca
        ·exact absurd e dec
      · rw[a4,b4] at hx;rcases hx with e|e;·exact absurd e dec
        ·exact absurd e.symm dcb
    have he:vA S u j≠-1→∃A gx gy,PivA P S p r0 (vA S u j) A gx gy:=fun he=>by
      have hr:=ureal he;refine piv_tri hr hG.pos (InC.disc hG.pos hr (hou hr).inC (fun k=>(hou hr).no_corner hG.pos hr k) j) rfl fun s hs hx=>?_;rcases(hr0 s).1 hs with rfl|rfl|rfl|rfl
      · rw[a1,b1] at hx;rcases hx with e|e;·exact absurd e.symm deb
        ·exact absurd e.symm dec
      · rw[a2,b2] at hx;rcases hx with e|e;·exact absurd e.symm dec
        ·exact absurd e.symm dea
      ·rfl
      ·rfl
    have hpq:∀ex:List Int,(vA S t (i+1)∉ex→∃A gx gy,PivA P S p r0 (vA S t (i+1)) A gx gy)→(vA S t (i+2)∉ex→∃A gx gy,PivA P S p r0 (vA S t (i+2)) A gx gy)→PivQ P S p ex r0:=fun ex ha hb s hs g1 g2=>by
      rcases(hr0 s).1 hs with rfl|rfl|rfl|rfl;·rw[a1] at g2⊢;exact hb g2
      ·rw[a2];exact hc
      ·rw[a3] at g2⊢;exact ha g2
      ·rw[a4] at g1⊢;exact he g1
    by_cases hug:vA S u j=-1
    · refine cav_all (ex:=[vA S t (i+1),vA S t (i+2)]) (g0:=[(u,(j+1)%3),(u,(j+2)%3)]) hG hL hS hH (by simp) hcov (hpq _ (fun h=>absurd (by simp) h) (fun h=>absurd (by simp) h)) (fun s hs=>?_) (fun _=>hgh) (fun x hx=> .inr ?_) hgc (.inl hgh) hhold hI hts hst hs0
      · simp only[List.mem_cons,List.not_mem_nil,or_false] at hs;rcases hs with rfl|rfl;·exact⟨m3,.inr (b3.trans hug)⟩
        ·exact⟨m4,.inl (a4.trans hug)⟩
      · simp only[List.mem_cons,List.not_mem_nil,or_false] at hx;rcases hx with rfl|rfl;·exact⟨(u,(j+1)%3),by simp,.inl ⟨a3,b3.trans hug⟩⟩
        ·exact⟨(u,(j+2)%3),by simp,.inr ⟨b4,a4.trans hug⟩⟩
    · by_cases hf:fA S t i=true
      · refine cav_all (ex:=[vA S t (i+1),vA S t (i+2)]) (g0:=[]) hG hL hS hH (by simp) hcov (hpq _ (fun h=>absurd (by simp) h) (fun h=>absurd (by simp) h)) (fun s hs=>by cases hs) (fun hn=>absurd rfl hn) (fun x hx=> .inl ?_) hgc (.inl hgh) hhold hI hts hst hs0;simp only[List.mem_cons,List.not_mem_nil,or_false] at hx;rcases hx with rfl|rfl;·exact(hfpl hf).1
        ·exact(hfpl hf).2
      · have hf':fA S t i=false:=by simpa using hf
        have hr:=ureal hug;obtain⟨n1,n2⟩:=side_next hG hL ht.1 hu hf' hr h1 h2;have hD:=hG.pos.at_ ht.1 ht.2 i;have hDt:∀q,0<incP (qA P S t (i+1)) (qA P S t (i+1+1)) (qA P S t (i+1+2)) q→Dt P S t q:=fun q hq=>Dt.of_real ht.2 (i+1) hq;have hDt2:∀q,0<incP (qA P S t (i+2)) (qA P S t (i+2+1)) (qA P S t (i+2+2)) q→Dt P S t q:=fun q hq=>Dt.of_real ht.2 (i+2) hq;obtain⟨o0,o1,o2⟩:=ho;refine cav_all (ex:=[]) (g0:=[]) hG hL hS hH (by simp) hcov (hpq _ (fun _=>?_) (fun _=>?_)) (fun s hs=>by cases hs) (fun hn=>absurd rfl hn) (fun x hx=>by cases hx) hgc (.inl hgh) hhold hI hts hst hs0
        · obtain⟨A,gx,gy,hA,hg⟩:=pivA_real (P:=P) ht hG.pos (i+1);refine⟨A,gx,gy,hA,by rw[←qA_is,←hg];exact hdt (i+1),fun s hs e1 e2=>?_,fun s hs e1 e2=>?_,fun s hs e1 e2 q=>?_,fun s hs e1 e2 q=>?_⟩
          · rcases(hr0 s).1 hs with rfl|rfl|rfl|rfl;·exact absurd (a1.symm.trans e1).symm dab
            ·exact absurd (a2.symm.trans e1) dca
            · rw[b3,←qA_is,←qA_is,←hg];refine⟨Int.not_lt.1 fun hl=>n1 (hDt _ hl),fun q g1 _ g3=>?_⟩;rw[←hg] at g3;refine n2 q ?_ (hDt _ g3);have l:=crP_tri (qA P S t) (fun _ _ e=>qA_eq P S t e) i (qA P S t (i+1)) q p;rw[o0,show crP (qA P S t (i+1)) q (qA P S t (i+1))=0 by unfold crP crs;grind] at l;have x1:=Int.mul_pos hD g1;refine Int.not_le.1 fun hc=>?_;rw[show crP (qA P S t (i+1)) q (qA P S t (i+2))=-crP (qA P S t (i+1)) (qA P S t (i+2)) q by unfold crP crs;grind] at l;have x2:=Int.mul_nonpos_of_nonneg_of_nonpos (Int.le_of_lt o2) (show-crP (qA P S t (i+1)) (qA P S t (i+2)) q≤0 by omega);omega
            ·exact absurd (a4.symm.trans e1) dea
          · rcases(hr0 s).1 hs with rfl|rfl|rfl|rfl;·exact absurd (b1.symm.trans e1) dca
            · rw[a2,←qA_is,←qA_is,←hg,incP_own];refine⟨Int.le_refl _,fun q _ _ g3=>?_⟩;rw[←hg] at g3;exact hDt q g3
            ·exact absurd (b3.symm.trans e1) dea
            ·exact absurd (b4.symm.trans e1).symm dab
          · rcases(hr0 s).1 hs with rfl|rfl|rfl|rfl;·exact absurd (b1.symm.trans e2) (ht.2 _)
            ·exact absurd (b2.symm.trans e2) (ht.2 _)
            ·exact absurd (b3.symm.trans e2) hug
            ·exact absurd (b4.symm.trans e2) (ht.2 _)
          · rcases(hr0 s).1 hs with rfl|rfl|rfl|rfl;·exact absurd (a1.symm.trans e2) (ht.2 _)
            ·exact absurd (a2.symm.trans e2) (ht.2 _)
            ·exact absurd (a3.symm.trans e2) (ht.2 _)
            ·exact absurd (a4.symm.trans e2) hug
        · obtain⟨A,gx,gy,hA,hg⟩:=pivA_real (P:=P) ht hG.pos (i+2);refine⟨A,gx,gy,hA,by rw[←qA_is,←hg];exact hdt (i+2),fun s hs e1 e2=>?_,fun s hs e1 e2=>?_,fun s hs e1 e2 q=>?_,fun s hs e1 e2 q=>?_⟩
          · rcases(hr0 s).1 hs with rfl|rfl|rfl|rfl
            · rw[b1,←qA_is,←qA_is,←hg,incP_own];refine⟨Int.le_refl _,fun q _ _ g3=>?_⟩;rw[←hg] at g3;exact hDt2 q g3
            ·exact absurd (a2.symm.trans e1) dcb
            ·exact absurd (a3.symm.trans e1) dab
            ·exact absurd (a4.symm.trans e1) deb
          · rcases(hr0 s).1 hs with rfl|rfl|rfl|rfl;·exact absurd (b1.symm.trans e1) dcb
            ·exact absurd (b2.symm.trans e1) dab
            ·exact absurd (b3.symm.trans e1) deb
            · rw[a4,←qA_is,←qA_is,←hg];refine⟨Int.not_lt.1 fun hl=>n1 (hDt2 _ hl),fun q g1 _ g3=>?_⟩;rw[←hg] at g3;refine n2 q ?_ (hDt2 _ g3);have l:=crP_tri (qA P S t) (fun _ _ e=>qA_eq P S t e) i q (qA P S t (i+2)) p;rw[o0,show crP q (qA P S t (i+2)) (qA P S t (i+2))=0 by unfold crP crs;grind] at l;have x1:=Int.mul_pos hD g1;refine Int.not_le.1 fun hc=>?_;rw[show crP q (qA P S t (i+2)) (qA P S t (i+1))=-crP (qA P S t (i+1)) (qA P S t (i+2)) q by unfold crP crs;grind] at l;have x2:=Int.mul_nonpos_of_nonneg_of_nonpos (Int.le_of_lt o1) (show-crP (qA P S t (i+1)) (qA P S t (i+2)) q≤0 by omega);omega
          · rcases(hr0 s).1 hs with rfl|rfl|rfl|rfl;·exact absurd (b1.symm.trans e2) (ht.2 _)
            ·exact absurd (b2.symm.trans e2) (ht.2 _)
            ·exact absurd (b3.symm.trans e2) hug
            ·exact absurd (b4.symm.trans e2) (ht.2 _)
          · rcases(hr0 s).1 hs with rfl|rfl|rfl|rfl;·exact absurd (a1.symm.trans e2) (ht.2 _)
            ·exact absurd (a2.symm.trans e2) (ht.2 _)
            ·exact absurd (a3.symm.trans e2) (ht.2 _)
            ·exact absurd (a4.symm.trans e2) hug
end
end Go.MagM
namespace Go.MagM
open Go.Proofs.YtdmfbkhafnkcfaaGreat
def UsedA(S:List TriM)(w:Int):Prop:=∃t i,t<S.length∧vA S t i=w
structure Tidy(P:List (Int×Int))(S:List TriM):Prop where
  geo:Geo P S
  loc:LocD P S
  alive:∀t,¬GoneAt S t
theorem put_tidy{P:List (Int×Int)}{S:List TriM}{p:Int×Int}{st:List Nat}{pl ts stI:List Int}{v:Int}(h:Tidy P S)(hpl:PlaceA P S p st pl)(hpl0:∀x∈pl,0≤x)(hI:InS S ts)(hts:∀z,z∈ts↔Go.Proofs.YtdmfbkhafnkcfaaGreat.Reach S (confT P S p) stI z)(hst:∀x:Nat,(x:Int)∈stI↔x∈st)(hs0:∀z∈stI,∃x:Nat,z=(x:Int))(hv:0≤v∧v<P.length)(hp:ptV P v=p)(hun:∀t,t<S.length→∀i,vA S t i≠v):Tidy P (putM S v pl ts)∧(putM S v pl ts).length=S.length+2∧RowOk S ts (rimR S ts)∧(rimR S ts).length=ts.length+2∧UsedA (putM S v pl ts) v∧(∀w,0≤w→UsedA S w→UsedA (putM S v pl ts) w)∧(∀w,0≤w→UsedA (putM S v pl ts) w→w=v∨UsedA S w)∧∃(us:List Nat) (M:List Nat),(∀x:Nat,(x:Int)∈ts↔x∈us)∧Put P S p us (rimR S ts) v pl (putM S v pl ts) M∧StarM S ts (rimR S ts) v pl (putM S v pl ts) M:=by
  obtain⟨us,hus,hC,hP,hlen⟩:=cav_place h.geo h.loc hpl hI hts hst hs0;have hrow:=hC.rim.rowOk hus;obtain⟨M,hM⟩:=put_star (v:=v) (pl:=pl) hI h.alive hrow hlen (by omega);have hA:=hM.star hus;have hnn:∀(t:Nat)(T:TriM),(putM S v pl ts)[t]?=some T→∀i,i<3→0≤T.n i:=fun t T hT i hi=>by
    rcases hA.slot t (List.getElem?_eq_some_iff.1 hT).1 with⟨k,s,hs,rfl⟩|⟨h1,h2⟩
    · obtain rfl|rfl|rfl:i=0∨i=1∨i=2:=by omega
      ·rw[rdN_at hT (hM.new0 k s hs)];omega
      · obtain⟨k',hk',e⟩:=pred_mod (List.getElem?_eq_some_iff.1 hs).1;have:=hM.new1 k' _ (List.getElem?_eq_getElem hk');rw[e] at this;rw[rdN_at hT this];omega
      · rw[rdN_at hT (hM.new2 k s hs)];obtain⟨t',i',j,u,-,-,-,-,b5,-⟩:=hC.rim.src k s hs;omega
    · rcases hM.oldN t i h1 (fun k=>h2 ((hus t).1 k)) hi with⟨j,s,-,-,-,g⟩|⟨-,g⟩;·rw[rdN_at hT g];omega
      · have hS:S[t]?=some S[t]:=List.getElem?_eq_getElem h1;have e:rdN S t i=some (S[t].n i,S[t].f i):=by unfold rdN;rw[hS];rfl
        rw[e] at g;rw[rdN_at hT g];exact h.geo.net.nn t _ hS i hi
  have hnet:=net_put h.geo.net hC.rim hC.lt hA hv hun hpl0 hnn;have hput:Put P S p us (rimR S ts) v pl (putM S v pl ts) M:=⟨h.geo,hC,hA,hnet,hv.1,hp⟩;have h3:=hC.rim.three;have hs0':(rimR S ts)[0]?=some (rimR S ts)[0]:=List.getElem?_eq_getElem (by omega);refine⟨⟨hput.geoY,hput.locD h.loc hP,fun t hg=>?_⟩,hM.len,hrow,hlen,⟨natA M 0,2,hA.mlt 0 _ hs0',(hA.v0 0 _ hs0').2.2⟩,fun w hw ⟨t,i,ht,e⟩=>?_,fun w hw ⟨t,i,ht,e⟩=>?_,us,M,hus,hput,hM⟩
  · obtain⟨g1,g2,-⟩:=rd_vA hg;rcases hnet.rng t g1 0 with e|e<;>omega
  · by_cases htu:t∈us
    · obtain⟨k,s,hs,ha⟩:=hC.cov t htu i;exact⟨natA M k,0,hA.mlt k s hs,(hA.v0 k s hs).1.trans (ha.trans e)⟩
    ·exact⟨t,i,hA.olt t ht htu,(hA.ov t ht htu i).trans e⟩
  · rcases hput.vert ht i (by omega) with⟨e1,-⟩|⟨w',m,hw',e1,-⟩;·exact .inl (e.symm.trans e1)
    ·exact .inr ⟨w',m,hw',e1.trans e⟩
section
variable{P:List (Int×Int)}{S:List TriM}{p:Int×Int}{t u i j:Nat}{T0:TriM}{M:Int}
theorem rat_lt_trans{a b c x y z:Int}(hx:0<x)(hy:0<y)(hz:0<z)(h1:a*y≤b*x)(h2:b*z<c*y):a*z<c*x:=by have a1:=Int.mul_le_mul_of_nonneg_right h1 (Int.le_of_lt hz);have a2:=Int.mul_lt_mul_of_pos_right h2 hx;refine Int.not_le.1 fun hc=>?_;have a3:=Int.mul_le_mul_of_nonneg_right hc (Int.le_of_lt hy);rw[Int.mul_right_comm a y z,] at a1;rw[Int.mul_right_comm b x z] at a1;rw[Int.mul_right_comm c y x] at a2;omega
def alongW(P:List (Int×Int))(T0:TriM)(p:Int×Int)(M:Int)(v:Int):Int:=(M*M*(p.1-(ptT P T0 0).1)+M*(p.1-(ptT P T0 1).1)+(p.1-(ptT P T0 2).1))*((ptV P v).1-p.1)+(M*M*(p.2-(ptT P T0 0).2)+M*(p.2-(ptT P T0 1).2)+(p.2-(ptT P T0 2).2))*((ptV P v).2-p.2)
def wayQA(P:List (Int×Int))(T0:TriM)(p:Int×Int)(M:Int):Int:=(M*M*(p.1-(ptT P T0 0).1)+M*(p.1-(ptT P T0 1).1)+(p.1-(ptT P T0 2).1))*(M*M*(p.1-(ptT P T0 0).1)+M*(p.1-(ptT P T0 1).1)+(p.1-(ptT P T0 2).1))+(M*M*(p.2-(ptT P T0 0).2)+M*(p.2-(ptT P T0 1).2)+(p.2-(ptT P T0 2).2))*(M*M*(p.2-(ptT P T0 0).2)+M*(p.2-(ptT P T0 1).2)+(p.2-(ptT P T0 2).2))
theorem offW_is(v:Int):offW P T0 p M v=(M*M*(p.1-(ptT P T0 0).1)+M*(p.1-(ptT P T0 1).1)+(p.1-(ptT P T0 2).1))*((ptV P v).2-p.2)-(M*M*(p.2-(ptT P T0 0).2)+M*(p.2-(ptT P T0 1).2)+(p.2-(ptT P T0 2).2))*((ptV P v).1-p.1):=by unfold offW wayL crP crs;show M*M*((p.1-(ptT P T0 0).1)*((ptV P v).2-(ptT P T0 0).2)-(p.2-(ptT P T0 0).2)*((ptV P v).1-(ptT P T0 0).1))+M*((p.1-(ptT P T0 1).1)*((ptV P v).2-(ptT P T0 1).2)-(p.2-(ptT P T0 1).2)*((ptV P v).1-(ptT P T0 1).1))+((p.1-(ptT P T0 2).1)*((ptV P v).2-(ptT P T0 2).2)-(p.2-(ptT P T0 2).2)*((ptV P v).1-(ptT P T0 2).1))=_;grind
theorem along_det(a b c:Int):alongW P T0 p M a*(offW P T0 p M b-offW P T0 p M c)+alongW P T0 p M b*(offW P T0 p M c-offW P T0 p M a)+alongW P T0 p M c*(offW P T0 p M a-offW P T0 p M b)=wayQA P T0 p M*crP (ptV P a) (ptV P b) (ptV P c):=by rw[offW_is,offW_is,offW_is];unfold alongW wayQA crP crs;generalize M*M*(p.1-(ptT P T0 0).1)+M*(p.1-(ptT P T0 1).1)+(p.1-(ptT P T0 2).1)=X;generalize M*M*(p.2-(ptT P T0 0).2)+M*(p.2-(ptT P T0 1).2)+(p.2-(ptT P T0 2).2)=Z;grind
def crossNA(P:List (Int×Int))(T0:TriM)(p:Int×Int)(M:Int)(x y:Int):Int:=offW P T0 p M y*alongW P T0 p M x-offW P T0 p M x*alongW P T0 p M y
theorem cross_step{x y z:Int}:crossNA P T0 p M x z*(offW P T0 p M y-offW P T0 p M x)-crossNA P T0 p M x y*(offW P T0 p M z-offW P T0 p M x)=offW P T0 p M x*(wayQA P T0 p M*crP (ptV P x) (ptV P y) (ptV P z)):=by rw[←along_det];unfold crossNA;generalize offW P T0 p M x=a;generalize offW P T0 p M y=b;generalize offW P T0 p M z=c;generalize alongW P T0 p M x=d;generalize alongW P T0 p M y=e;generalize alongW P T0 p M z=f;grind
theorem cross_step'{x y z:Int}:crossNA P T0 p M z y*(offW P T0 p M y-offW P T0 p M x)-crossNA P T0 p M x y*(offW P T0 p M y-offW P T0 p M z)=-(offW P T0 p M y*(wayQA P T0 p M*crP (ptV P x) (ptV P y) (ptV P z))):=by rw[←along_det];unfold crossNA;generalize offW P T0 p M x=a;generalize offW P T0 p M y=b;generalize offW P T0 p M z=c;generalize alongW P T0 p M x=d;generalize alongW P T0 p M y=e;generalize alongW P T0 p M z=f;grind
theorem inC_holds(hT:S[t]?=some T0):holdsT P T0 p=true↔InC P S t p:=by
  have hq:∀k,k<3→ptT P T0 k=qA P S t k:=fun k hk=>by unfold ptT qA vA;rw[hT];simp only[];rw[Nat.mod_eq_of_lt hk]
  rw[holdsT_iff];constructor
  · intro h i;have:=h (i%3) (Nat.mod_lt _ (by omega));rw[hq _ (Nat.mod_lt _ (by omega)),hq _ (Nat.mod_lt _ (by omega)),qA_eq P S t (show((i%3+1)%3)%3=(i+1)%3 by omega),qA_eq P S t (show((i%3+2)%3)%3=(i+2)%3 by omega)] at this;exact this
  · intro h i hi;rw[hq _ (Nat.mod_lt _ (by omega)),hq _ (Nat.mod_lt _ (by omega)),qA_eq P S t (Nat.mod_mod _ 3),qA_eq P S t (Nat.mod_mod _ 3)];exact h i
theorem way_all(hN:Net P.length S)(hp:PosT P S)(K:Nat→Prop){t0:Nat}(h0:RealA S t0)(k0:K t0)(p:Int×Int)(no1:∀t,RealA S t→K t→¬InC P S t p)(hst:∀t i,RealA S t→K t→crP (qA P S t (i+1)) (qA P S t (i+2)) p<0→RealA S (nA S t i)∧K (nA S t i)):False:=by
  have tri:∀t,t<S.length→∃T,S[t]?=some T∧(∀k,k<3→T.v k=vA S t k)∧(∀k,k<3→ptT P T k=qA P S t k):=fun t ht=>by
    have hT:S[t]?=some S[t]:=List.getElem?_eq_getElem ht;have hv:∀k,k<3→S[t].v k=vA S t k:=fun k hk=>by unfold vA;rw[hT];simp only[];rw[Nat.mod_eq_of_lt hk]
    exact⟨S[t],hT,hv,fun k hk=>by unfold ptT;rw[hv k hk];rfl⟩
  have inv:∀t,RealA S t→∀k,InV P (vA S t k):=fun t ht k=>by
    rcases hN.rng t ht.1 k with e|e;·exact absurd e (ht.2 k)
    ·exact e
  obtain⟨T0,hT0,hv0,hq0⟩:=tri t0 h0.1;have hD0:0<crP (ptT P T0 0) (ptT P T0 1) (ptT P T0 2):=by rw[hq0 0 (by omega),hq0 1 (by omega),hq0 2 (by omega)];exact hp t0 h0.1 h0.2
  obtain⟨M,hM0,hMb⟩:=way_bound (ptT P T0 0) (ptT P T0 1) (ptT P T0 2) p P;have hM:FarM P T0 p M:=⟨hM0,hMb⟩;have hQ:0<wayQA P T0 p M:=by
    unfold wayQA;generalize hX:M*M*(p.1-(ptT P T0 0).1)+M*(p.1-(ptT P T0 1).1)+(p.1-(ptT P T0 2).1)=X;generalize hZ:M*M*(p.2-(ptT P T0 0).2)+M*(p.2-(ptT P T0 1).2)+(p.2-(ptT P T0 2).2)=Z;have q1:=sq_nonneg X;have q2:=sq_nonneg Z;refine Classical.byContradiction fun hn=>?_;have x0:X=0:=Classical.byContradiction fun h=>by have:=sq_pos h;omega
    have z0:Z=0:=Classical.byContradiction fun h=>by have:=sq_pos h;omega
    have off0:∀v,offW P T0 p M v=0:=fun v=>by rw[offW_is,hX,hZ,x0,z0];simp
    have e0:=off_end hM (by omega) (by rw[hv0 0 (by omega)];exact inv t0 h0 0) (off0 (T0.v 0));have e1:=off_end hM (by omega) (by rw[hv0 1 (by omega)];exact inv t0 h0 1) (off0 (T0.v 1));have:ptT P T0 0=ptT P T0 1:=e0.trans e1.symm;rw[this,show∀a b:Int×Int,crP a a b=0 from fun a b=>by unfold crP crs;grind] at hD0;omega
  have out:∀t,RealA S t→K t→∀j,0<crP (qA P S t (j+1)) (qA P S t (j+2)) p→0<offW P T0 p M (vA S t (j+1))→offW P T0 p M (vA S t (j+2))<0→∃i,crP (qA P S t (i+1)) (qA P S t (i+2)) p<0∧offW P T0 p M (vA S t (i+1))<0∧0<offW P T0 p M (vA S t (i+2)):=fun t ht hkt j c1 c2 c3=>by
    obtain⟨T,hT,hv,hq⟩:=tri t ht.1;have l1:(j%3+1)%3<3:=Nat.mod_lt _ (by omega);have l2:(j%3+2)%3<3:=Nat.mod_lt _ (by omega);have hw:WayIn P T0 p M T:=by
      refine .inr ⟨j%3,Nat.mod_lt _ (by omega),?_,?_,?_⟩;·rw[hq _ l1,hq _ l2,qA_eq P S t (show((j%3+1)%3)%3=(j+1)%3 by omega),qA_eq P S t (show((j%3+2)%3)%3=(j+2)%3 by omega)];exact c1
      ·rw[hv _ l1,vA_eq S t (show((j%3+1)%3)%3=(j+1)%3 by omega)];exact c2
      ·rw[hv _ l2,vA_eq S t (show((j%3+2)%3)%3=(j+2)%3 by omega)];exact c3
    have hh:holdsT P T p=false:=by rw[←Bool.not_eq_true,inC_holds hT];exact no1 t ht hkt
    obtain⟨i,hi,g1,g2,g3⟩:=goes_out hM (by omega) (fun k hk=>by rw[hv k hk];exact inv t ht k) hw hh;have k1:(i+1)%3<3:=Nat.mod_lt _ (by omega);have k2:(i+2)%3<3:=Nat.mod_lt _ (by omega);rw[hq _ k1,hq _ k2,qA_eq P S t (Nat.mod_mod _ 3),qA_eq P S t (Nat.mod_mod _ 3)] at g1;rw[hv _ k1,vA_mod] at g2;rw[hv _ k2,vA_mod] at g3;exact⟨i,g1,g2,g3⟩
  have only:∀t i i',offW P T0 p M (vA S t (i+1))<0→0<offW P T0 p M (vA S t (i+2))→offW P T0 p M (vA S t (i'+1))<0→0<offW P T0 p M (vA S t (i'+2))→i%3=i'%3:=fun t i i' a1 a2 b1 b2=>by
    refine Classical.byContradiction fun hc=>?_;have:i'%3=(i+1)%3∨i'%3=(i+2)%3:=by omega
    rcases this with e|e;·rw[vA_eq S t (show(i'+1)%3=(i+2)%3 by omega)] at b1;omega
    ·rw[vA_eq S t (show(i'+2)%3=(i+1)%3 by omega)] at b2;omega
  have endless:∀(fuel:Nat)(l:List Nat)(t j:Nat),S.length≤l.length+fuel→l.Nodup→RealA S t→K t→0<crP (qA P S t (j+1)) (qA P S t (j+2)) p→0<offW P T0 p M (vA S t (j+1))→offW P T0 p M (vA S t (j+2))<0→(∀s∈l,s<S.length∧∃i,offW P T0 p M (vA S s (i+1))<0∧0<offW P T0 p M (vA S s (i+2))∧crossNA P T0 p M (vA S s (i+1)) (vA S s (i+2))*(offW P T0 p M (vA S t (j+1))-offW P T0 p M (vA S t (j+2)))≤crossNA P T0 p M (vA S t (j+2)) (vA S t (j+1))*(offW P T0 p M (vA S s (i+2))-offW P T0 p M (vA S s (i+1))))→False:=by
    intro fuel;have key:∀(l:List Nat)(t j:Nat),RealA S t→K t→0<crP (qA P S t (j+1)) (qA P S t (j+2)) p→0<offW P T0 p M (vA S t (j+1))→offW P T0 p M (vA S t (j+2))<0→(∀s∈l,s<S.length∧∃i,offW P T0 p M (vA S s (i+1))<0∧0<offW P T0 p M (vA S s (i+2))∧crossNA P T0 p M (vA S s (i+1)) (vA S s (i+2))*(offW P T0 p M (vA S t (j+1))-offW P T0 p M (vA S t (j+2)))≤crossNA P T0 p M (vA S t (j+2)) (vA S t (j+1))*(offW P T0 p M (vA S s (i+2))-offW P T0 p M (vA S s (i+1))))→∃i,crP (qA P S t (i+1)) (qA P S t (i+2)) p<0∧offW P T0 p M (vA S t (i+1))<0∧0<offW P T0 p M (vA S t (i+2))∧crossNA P T0 p M (vA S t (j+2)) (vA S t (j+1))*(offW P T0 p M (vA S t (i+2))-offW P T0 p M (vA S t (i+1)))<crossNA P T0 p M (vA S t (i+1)) (vA S t (i+2))*(offW P T0 p M (vA S t (j+1))-offW P T0 p M (vA S t (j+2)))∧t∉l:=by
      intro l t j ht hkt c1 c2 c3 hl;obtain⟨i,g1,g2,g3⟩:=out t ht hkt j c1 c2 c3;have hD:=hp.at_ ht.1 ht.2 j;have hD':crP (ptV P (vA S t (j+2))) (ptV P (vA S t (j+1))) (ptV P (vA S t j))<0:=by
        have e:crP (ptV P (vA S t (j+2))) (ptV P (vA S t (j+1))) (ptV P (vA S t j))=-crP (qA P S t j) (qA P S t (j+1)) (qA P S t (j+2)):=by rw[qA_is,qA_is,qA_is];unfold crP crs;grind
        omega
      have hneg:=Int.mul_neg_of_pos_of_neg hQ hD';have hij:i%3≠j%3:=fun e=>by rw[vA_eq S t (show(i+1)%3=(j+1)%3 by omega)] at g2;omega
      have adv:crossNA P T0 p M (vA S t (j+2)) (vA S t (j+1))*(offW P T0 p M (vA S t (i+2))-offW P T0 p M (vA S t (i+1)))<crossNA P T0 p M (vA S t (i+1)) (vA S t (i+2))*(offW P T0 p M (vA S t (j+1))-offW P T0 p M (vA S t (j+2))):=by
        have:i%3=(j+1)%3∨i%3=(j+2)%3:=by omega
        rcases this with e|e
        · have e1:=vA_eq S t (show(i+1)%3=(j+2)%3 by omega);have e2:=vA_eq S t (show(i+2)%3=j%3 by omega);rw[e1,e2] at*;have:=cross_step (P:=P) (T0:=T0) (p:=p) (M:=M) (x:=vA S t (j+2)) (y:=vA S t (j+1)) (z:=vA S t j);have:=Int.mul_pos_of_neg_of_neg c3 hneg;omega
        · have e1:=vA_eq S t (show(i+1)%3=j%3 by omega);have e2:=vA_eq S t (show(i+2)%3=(j+1)%3 by omega);rw[e1,e2] at*;have:=cross_step' (P:=P) (T0:=T0) (p:=p) (M:=M) (x:=vA S t (j+2)) (y:=vA S t (j+1)) (z:=vA S t j);have:=Int.mul_neg_of_pos_of_neg c2 hneg;omega
      refine⟨i,g1,g2,g3,adv,fun hm=>?_⟩;obtain⟨-,i',b1,b2,b3⟩:=hl t hm;have e:=only t i i' g2 g3 b1 b2;rw[←vA_eq S t (show(i+1)%3=(i'+1)%3 by omega),←vA_eq S t (show(i+2)%3=(i'+2)%3 by omega)] at b3;omega
    induction fuel with
    |zero=>
      intro l t j hf hn ht hkt c1 c2 c3 hl;obtain⟨i,-,-,-,-,hm⟩:=key l t j ht hkt c1 c2 c3 hl;have:=nodup_le (us:=t::l) (m:=S.length) (List.nodup_cons.2 ⟨hm,hn⟩) (fun x hx=>by
        rcases List.mem_cons.1 hx with rfl|hx;·exact ht.1
        ·exact(hl x hx).1);simp at this;omega|succ fuel ih=>
      intro l t j hf hn ht hkt c1 c2 c3 hl;obtain⟨i,g1,g2,g3,adv,hm⟩:=key l t j ht hkt c1 c2 c3 hl;obtain⟨m,m0,m1,m2,-,-⟩:=hN.mate t ht.1 i;have r1:qA P S (nA S t i) (m+1)=qA P S t (i+2):=by rw[qA_is,qA_is,m1]
      have r2:qA P S (nA S t i) (m+2)=qA P S t (i+1):=by rw[qA_is,qA_is,m2]
      have hpos:0<crP (qA P S (nA S t i) (m+1)) (qA P S (nA S t i) (m+2)) p:=by rw[r1,r2,crP_flip];omega
      obtain⟨hu,hku⟩:=hst t i ht hkt g1;refine ih (t::l) (nA S t i) m (by simp only[List.length_cons];omega) (List.nodup_cons.2 ⟨hm,hn⟩) hu hku hpos (by rw[m1];exact g3) (by rw[m2];exact g2) fun s hs=>?_;rw[m1,m2];rcases List.mem_cons.1 hs with rfl|hs;·exact⟨ht.1,i,g2,g3,Int.le_refl _⟩
      · obtain⟨hsl,i',b1,b2,b3⟩:=hl s hs;exact⟨hsl,i',b1,b2,Int.le_of_lt (rat_lt_trans (by omega) (by omega) (by omega) b3 adv)⟩
  have hbeg:=way_begins (P:=P) (T:=T0) (p:=p) hM hD0 (fun k hk=>by rw[hv0 k hk];exact inv t0 h0 k);rcases hbeg with hh|⟨j,hj,c1,c2,c3⟩;·exact no1 t0 h0 k0 ((inC_holds hT0).1 hh)
  · have l1:(j+1)%3<3:=Nat.mod_lt _ (by omega);have l2:(j+2)%3<3:=Nat.mod_lt _ (by omega);rw[hq0 _ l1,hq0 _ l2,qA_eq P S t0 (Nat.mod_mod _ 3),qA_eq P S t0 (Nat.mod_mod _ 3)] at c1;rw[hv0 _ l1,vA_mod] at c2;rw[hv0 _ l2,vA_mod] at c3;exact endless S.length [] t0 j (by simp) (by simp) h0 k0 c1 c2 c3 (fun s hs=>by cases hs)
theorem cover_all(hN:Net P.length S)(hp:PosT P S){t0:Nat}(h0:RealA S t0)(p:Int×Int):(∃t,RealA S t∧InC P S t p)∨∃t i,Fac P S p t i:=by
  refine Classical.byContradiction fun hno=>?_;refine way_all hN hp (fun _=>True) h0 trivial p (fun t ht _ hi=>hno (.inl ⟨t,ht,hi⟩)) fun t i ht _ g1=>⟨?_,trivial⟩;obtain⟨m,m0,m1,m2,-,-⟩:=hN.mate t ht.1 i;have n1:vA S (nA S t i) (m+1)≠-1:=by rw[m1];exact ht.2 _
  have n2:vA S (nA S t i) (m+2)≠-1:=by rw[m2];exact ht.2 _
  have r1:qA P S (nA S t i) (m+1)=qA P S t (i+2):=by rw[qA_is,qA_is,m1]
  have r2:qA P S (nA S t i) (m+2)=qA P S t (i+1):=by rw[qA_is,qA_is,m2]
  have hpos:0<crP (qA P S (nA S t i) (m+1)) (qA P S (nA S t i) (m+2)) p:=by rw[r1,r2,crP_flip];omega
  have hg:vA S (nA S t i) m≠-1:=fun hg=>hno (.inr ⟨nA S t i,m,m0,hg,hpos⟩);exact⟨m0,three_cases (fun k=>vA S (nA S t i) k≠-1) (fun a b e k=>by rw[←vA_eq S _ e];exact k) m hg n1 n2⟩
end
end Go.MagM
