import Derived.Shelf.SlGeneric
import Derived.Shelf.SortM.Plain
import Derived.Shelf.SortM.SortNone
import Derived.Ground.SlgmProg
import Derived.Test.YtammmemfkpcpcaaGreatProg
import Derived.Test.YtammmemfkpcpcaaGreatPartt
import Derived.Test.YtammmemfkpcpcaaGreatParti
import Derived.Test.YtammmemfkpcpcaaGreatPartq
import Derived.Test.YtammmemfkpcpcaaGreatPartr
import Derived.BigQuiet
import Derived.Deep.QuietTactic
import Derived.Test.YtammmemfkpcpcaaGreatPartk
import Derived.Test.YtammmemfkpcpcaaGreatPartl
import Derived.Test.YtammmemfkpcpcaaGreatPartm
import Derived.Test.YtammmemfkpcpcaaGreatPartn
import Derived.Test.YtammmemfkpcpcaaGreatParth
import Derived.RangeFuncNested
import Derived.RangeFuncBound
import Derived.RangeFuncCalls
import Derived.RangeFuncLeaves
import Derived.Test.YtammmemfkpcpcaaGreatWalkSk
import Derived.Test.YtammmemfkpcpcaaGreatPartj
import Derived.Test.YtammmemfkpcpcaaGreatPartg
set_option linter.unusedSimpArgs false
set_option linter.unusedVariables false
namespace Go.Proofs
open Go.Shelf
def Tryz.mSort_ren:Go.Shelf.Ren:=⟨fun|5=>106|8=>145|7=>144|19=>183|20=>152|10=>174|11=>175|12=>176|13=>177|14=>178|15=>179|16=>180|17=>181|18=>182|30=>198|31=>199|32=>200|33=>201|34=>202|35=>123|40=>208|n=>n,fun|23=>75|25=>3|3=>3|32=>30|22=>75|0=>0|44=>22|46=>93|4=>4|36=>227|35=>226|41=>201|5=>5|9=>9|53=>242|57=>246|63=>252|64=>148|n=>n,fun|n=>n⟩
theorem Tryz.mSort:Go.Proofs.SlLaysM.n5 Tryz.prog Tryz.mSort_ren:={
  mixed:=by kernel_rfl
  f5:=⟨Tryz.f106.name,by decide,Tryz.func106.trans (congrArg some (by kernel_rfl))⟩
  f7:=⟨Tryz.f144.name,by decide,Tryz.func144.trans (congrArg some (by kernel_rfl))⟩
  f8:=Tryz.func145.trans (congrArg some (by kernel_rfl))
  f10:=⟨Tryz.f174.name,by decide,Tryz.func174.trans (congrArg some (by kernel_rfl))⟩
  f11:=⟨Tryz.f175.name,by decide,Tryz.func175.trans (congrArg some (by kernel_rfl))⟩
  f12:=⟨Tryz.f176.name,by decide,Tryz.func176.trans (congrArg some (by kernel_rfl))⟩
  f13:=⟨Tryz.f177.name,by decide,Tryz.func177.trans (congrArg some (by kernel_rfl))⟩
  f14:=⟨Tryz.f178.name,by decide,Tryz.func178.trans (congrArg some (by kernel_rfl))⟩
  f15:=⟨Tryz.f179.name,by decide,Tryz.func179.trans (congrArg some (by kernel_rfl))⟩
  f16:=⟨Tryz.f180.name,by decide,Tryz.func180.trans (congrArg some (by kernel_rfl))⟩
  f17:=⟨Tryz.f181.name,by decide,Tryz.func181.trans (congrArg some (by kernel_rfl))⟩
  f18:=⟨Tryz.f182.name,by decide,Tryz.func182.trans (congrArg some (by kernel_rfl))⟩
  f19:=Tryz.func183.trans (congrArg some (by kernel_rfl))
  f20:=Tryz.func152.trans (congrArg some (by kernel_rfl))
  f30:=⟨Tryz.f198.name,by decide,Tryz.func198.trans (congrArg some (by kernel_rfl))⟩
  f31:=Tryz.func199.trans (congrArg some (by kernel_rfl))
  f32:=Tryz.func200.trans (congrArg some (by kernel_rfl))
  f33:=⟨Tryz.f201.name,by decide,Tryz.func201.trans (congrArg some (by kernel_rfl))⟩
  f34:=⟨Tryz.f202.name,by decide,Tryz.func202.trans (congrArg some (by kernel_rfl))⟩
  f35:=⟨Tryz.f123.name,by decide,Tryz.func123.trans (congrArg some (by kernel_rfl))⟩
  f40:=⟨Tryz.f208.name,by decide,Tryz.func208.trans (congrArg some (by kernel_rfl))⟩
  t0:=Tryz.underlying0
  a0:=Tryz.isAgg0
  z0:=Tryz.sizeOf0
  v0:=Tryz.zeroValue0
  t3:=Tryz.underlying3
  a3:=Tryz.isAgg3
  z3:=Tryz.sizeOf3
  v3:=Tryz.zeroValue3
  t4:=Tryz.underlying4
  a4:=Tryz.isAgg4
  z4:=Tryz.sizeOf4
  v4:=Tryz.zeroValue4
  t5:=Tryz.underlying5
  a5:=Tryz.isAgg5
  z5:=Tryz.sizeOf5
  v5:=Tryz.zeroValue5
  t9:=Tryz.underlying9
  a9:=Tryz.isAgg9
  z9:=Tryz.sizeOf9
  v9:=Tryz.zeroValue9
  t22:=Tryz.underlying75
  a22:=Tryz.isAgg75
  z22:=Tryz.sizeOf75
  v22:=Tryz.zeroValue75
  t23:=Tryz.underlying75
  a23:=Tryz.isAgg75
  z23:=Tryz.sizeOf75
  v23:=Tryz.zeroValue75
  t25:=Tryz.underlying3
  a25:=Tryz.isAgg3
  z25:=Tryz.sizeOf3
  v25:=Tryz.zeroValue3
  t32:=Tryz.underlying30
  a32:=Tryz.isAgg30
  z32:=Tryz.sizeOf30
  v32:=Tryz.zeroValue30
  t35:=Tryz.underlying226
  a35:=Tryz.isAgg226
  z35:=Tryz.sizeOf226
  v35:=Tryz.zeroValue226
  t36:=Tryz.underlying227
  a36:=Tryz.isAgg227
  z36:=Tryz.sizeOf227
  v36:=Tryz.zeroValue227
  t41:=Tryz.underlying201
  a41:=Tryz.isAgg201
  z41:=Tryz.sizeOf201
  v41:=Tryz.zeroValue201
  t44:=Tryz.underlying22
  a44:=Tryz.isAgg22
  z44:=Tryz.sizeOf22
  v44:=Tryz.zeroValue22
  t46:=Tryz.underlying93
  a46:=Tryz.isAgg93
  z46:=Tryz.sizeOf93
  v46:=Tryz.zeroValue93
  t53:=Tryz.underlying242
  a53:=Tryz.isAgg242
  z53:=Tryz.sizeOf242
  v53:=Tryz.zeroValue242
  t57:=Tryz.underlying246
  a57:=Tryz.isAgg246
  z57:=Tryz.sizeOf246
  v57:=Tryz.zeroValue246
  t63:=Tryz.underlying252
  a63:=Tryz.isAgg252
  z63:=Tryz.sizeOf252
  v63:=Tryz.zeroValue252
  t64:=Tryz.underlying148
  a64:=Tryz.isAgg148
  z64:=Tryz.sizeOf148
  v64:=Tryz.zeroValue148}
end Go.Proofs
namespace Go.MagM
open Go.RowKit
def sortL(l:List Int):List Int:=l.mergeSort fun x y=>decide (x≤y)
theorem sortL_perm(l:List Int):(sortL l).Perm l:=List.mergeSort_perm l _
theorem sortL_len(l:List Int):(sortL l).length=l.length:=(sortL_perm l).length_eq
theorem sortL_up(l:List Int):(sortL l).Pairwise (fun x y=>x≤y):=by have:=List.pairwise_mergeSort (le:=fun x y:Int=>decide (x≤y)) (fun a b c h1 h2=>by simp at h1 h2⊢;omega) (fun a b=>by simp;omega) l;exact this.imp (fun h=>by simpa using h)
theorem put_cells(cur:Array Value)(L:List Int)(hl:L.length≤cur.size):((Sort.putCells (Value.int .i64) 0 L.toArray cur).toList.take L.length)=intCells L:=by
  refine List.ext_getElem? fun j=>?_;rw[List.getElem?_take];unfold intCells Sort.putCells;rw[List.getElem?_map];split
  · rename_i hj;rw[List.getElem?_eq_getElem hj,Array.getElem?_toList,Array.getElem?_mapIdx,Array.getElem?_eq_getElem (by omega)];simp[hj]
  · rename_i hj;rw[List.getElem?_eq_none (by omega)];rfl
theorem put_size(cur:Array Value)(L:List Int):(Sort.putCells (Value.int .i64) 0 L.toArray cur).size=cur.size:=by unfold Sort.putCells;simp
theorem put_noWord(cur:Array Value)(L:List Int)(h:∀u∈cur.toList,NoWord u):∀u∈(Sort.putCells (Value.int .i64) 0 L.toArray cur).toList,NoWord u:=by
  intro u hu;obtain⟨j,hj⟩:=List.mem_iff_getElem?.1 hu;rw[Array.getElem?_toList] at hj;unfold Sort.putCells at hj;rw[Array.getElem?_mapIdx] at hj;cases hc:cur[j]? with
  |none=>rw[hc] at hj;cases hj|some x=>
    rw[hc] at hj;simp only[Option.map_some,Option.some.injEq] at hj;split at hj;·subst hj;exact NoWord.int _
    · subst hj;exact h x (List.mem_of_getElem? (i:=j) (by rw[Array.getElem?_toList];exact hc))
end Go.MagM
namespace Go.Proofs.YtammmemfkpcpcaaGreat
open Go.RowKit Go.MagM Go.Maps
theorem cvSort_any{lo g c:Nat}{ts:List Int}(w:World)(h:RowN w lo 3 1 (.slice (some ⟨g,0,none⟩) ts.length c) ts.length (intCells ts))(hl:ts.length≤1000000):Calls Tryz.prog 106 #[.slice (some ⟨g,0,none⟩) ts.length c] w fun e w'=>e= .returned (.tuple #[])∧RowN w' lo 3 1 (.slice (some ⟨g,0,none⟩) ts.length c) (sortL ts).length (intCells (sortL ts))∧(∀k,k<w.heap.size→k≠g→w'.heap[k]?=w.heap[k]?)∧Below lo w w'∧w.heap.size≤w'.heap.size:=by
  have hown:=owns_box h.own;have hH:Sort.Holds (Value.int .i64) w g 0 ts.toArray:=by
    intro j hj;have hj':j<ts.length:=by simpa using hj
    have hc:(intCells ts)[j]?=some (.int .i64 ts[j]):=by unfold intCells;rw[List.getElem?_map,List.getElem?_eq_getElem hj'];rfl
    rw[Nat.zero_add,getElem!_pos ts.toArray j hj];exact⟨hown.c _ _ hc,hown.f _ _ hc⟩
  obtain⟨g',cap,cur,e1,hlo,hh,hnc,hcm,hcs,htk,hnw⟩:∃g' cap cur,Value.slice (some ⟨g,0,none⟩) ts.length c= .slice (some ⟨g',0,none⟩) ts.length cap∧lo≤g'∧w.heap[g']?=some (.cells cur 3 (0,0))∧ts.length≤cap∧cap≤maxLen∧cur.size=cap*1∧cur.toList.take (ts.length*1)=intCells ts∧∀u∈cur.toList,NoWord u:=by
    rcases h.2 with⟨h1,-⟩|h1;·cases h1
    ·exact h1
  simp only[Value.slice.injEq,Option.some.injEq,Addr.mk.injEq,and_true,true_and] at e1;obtain⟨rfl,rfl⟩:=e1;have hlt:g<w.heap.size:=(Array.getElem?_eq_some_iff.1 hh).1;have hcon:=AnyM.slices_Sort_int Tryz.mSort g 0 c ts w hH hlt (by omega);change Calls Tryz.prog 106 _ _ _ at hcon;refine hcon.mono ?_;rintro e w' ⟨rfl,n,os,rfl⟩;obtain⟨L,hL⟩:∃L,ts.mergeSort (fun x y=>decide (x≤y))=L:=⟨_,rfl⟩;have hLe:sortL ts=L:=hL;have hLl:L.length=ts.length:=by rw[←hLe];exact sortL_len ts
  rw[hL,hLe];have hsz:(Sort.putRow (Value.int .i64) (Sort.ahead w n) g 0 L.toArray).heap.size=w.heap.size:=by unfold Sort.putRow Sort.mapBlock Sort.ahead;simp
  have hk:∀k,k<w.heap.size→k≠g→(Sort.grow (Sort.putRow (Value.int .i64) (Sort.ahead w n) g 0 L.toArray) os).heap[k]?=w.heap[k]?:=by
    intro k hk hne;show((Sort.putRow (Value.int .i64) (Sort.ahead w n) g 0 L.toArray).heap++os)[k]?=_;rw[Array.getElem?_append_left (by omega)];unfold Sort.putRow Sort.mapBlock Sort.ahead;simp only[Array.getElem?_modify];rw[if_neg (fun e=>hne e.symm)]
  have hg:(Sort.grow (Sort.putRow (Value.int .i64) (Sort.ahead w n) g 0 L.toArray) os).heap[g]?=some (.cells (Sort.putCells (Value.int .i64) 0 L.toArray cur) 3 (0,0)):=by show((Sort.putRow (Value.int .i64) (Sort.ahead w n) g 0 L.toArray).heap++os)[g]?=_;rw[Array.getElem?_append_left (by omega)];unfold Sort.putRow Sort.mapBlock Sort.ahead;simp only[Array.getElem?_modify];rw[if_pos trivial,hh];rfl
  refine⟨rfl,⟨by rw[intCells_len,Nat.mul_one],.inr ⟨g,c,_,by rw[hLl],hlo,hg,by omega,hcm,by rw[put_size];exact hcs,?_,put_noWord cur L hnw⟩⟩,hk,⟨rfl,rfl,rfl,?_,fun k hk2=>hk k (by omega) (by omega)⟩,?_⟩;·rw[Nat.mul_one];exact put_cells cur L (by omega)
  · show w.heap.size≤((Sort.putRow (Value.int .i64) (Sort.ahead w n) g 0 L.toArray).heap++os).size;rw[Array.size_append];omega
  · show w.heap.size≤((Sort.putRow (Value.int .i64) (Sort.ahead w n) g 0 L.toArray).heap++os).size;rw[Array.size_append];omega
def valS(s:SideM):Value:= .agg #[.int .i64 s.a,.int .i64 s.b,.int .i64 s.u,.int .i64 s.i,.bool s.f]
def cutQ2(P:List (Int×Int))(S:List TriM)(p:Int×Int)(s:SideM):Bool:=s.f&&confT P S p s.u
set_option maxRecDepth 100000 in set_option maxHeartbeats 8000000 in theorem cvDig1_any{mb pb pc xm xp:Nat}{ta:Option Addr}{tc:Nat}{P:List (Int×Int)}{S:List TriM}(s:SideM)(p0 p1:Int)(w:World)(h:MeshR w mb pb pc ta tc P S)(hP:InPs P)(hp:InP p0∧InP p1)(hm:w.cell? ⟨xm,0,none⟩=some (.pointer (some ⟨mb,0,none⟩)))(hx:Box w xp [.int .i64 p0,.int .i64 p1])(hs:∃u:Nat,s.u=(u:Int)∧u<S.length):Calls Tryz.prog 105 #[valS s,.pointer (some ⟨xm,0,none⟩),.pointer (some ⟨xp,0,none⟩)] w fun e w'=>e= .returned (.bool (cutQ2 P S (p0,p1) s))∧Below w.heap.size w w':=by
  obtain⟨sa,sb,su,si,sf⟩:=s;obtain⟨u,hu,hul⟩:=hs;simp only[] at hu;subst hu;obtain⟨U,hU⟩:∃U,S[u]?=some U:=⟨_,List.getElem?_eq_getElem hul⟩;have hcf:confT P S (p0,p1) (u:Int)=conflictM P U (p0,p1):=by unfold confT;rw[Int.toNat_natCast,hU]
  unfold valS cutQ2;simp only[];rw[hcf];obtain⟨w1,hw1,ps,hb1,hs1⟩:=new_box w _ rfl [.int .i64 sa,.int .i64 sb,.int .i64 (u:Int),.int .i64 si,.bool sf] 161;obtain⟨q,hq⟩:∃q,conflictM P U (p0,p1)=q:=⟨_,rfl⟩;have HC:=Lib.hid (cvConflict_any u U p0 p1 w1 (h.below hb1) hP hp hU);rw[hq] at HC;rw[hq];have z2:=ps.c 2 _ rfl;have z4:=ps.c 4 _ rfl;have m1:=(hb1.cell (World.block_lt_of_cell? _ _ hm)).trans hm;have x1:=hx.below hb1;have x10:=x1.c 0 _ rfl;have x11:=x1.c 1 _ rfl;have HB1:=Lib.hid hb1;clear h hP hp hm hx hul hU hcf hq ps hb1 hs1 x1;cases sf
  · go_enter Tryz.func105,Tryz.ntmps105;go_wp2;go_ret;exact⟨rfl,HB1.out⟩
  · go_enter Tryz.func105,Tryz.ntmps105;go_wp2_with fail;refine HC.out.mono ?_;rintro e w2 ⟨rfl,hb2⟩;have HB2:=Lib.hid (HB1.out.trans (hb2.mono HB1.out.size));clear hb2;go_wp2;go_ret;exact⟨rfl,HB2.out⟩
set_option maxRecDepth 100000 in set_option maxHeartbeats 8000000 in theorem cvIndexF_any{base xm xp:Nat}(l:List SideM)(v:Value)(q:SideM→Bool)(w:World)(hrow:RowN w base 161 5 v l.length (sideCells l))(hl:l.length≤1000000)(hf:∀W:World,Below w.heap.size w W→∀s∈l,Calls Tryz.prog 105 #[valS s,.pointer (some ⟨xm,0,none⟩),.pointer (some ⟨xp,0,none⟩)] W fun e w'=>e= .returned (.bool (q s))∧Below W.heap.size W w'):Calls Tryz.prog 143 #[v,.func (.func 105) #[] #[.pointer (some ⟨xm,0,none⟩),.pointer (some ⟨xp,0,none⟩)]] w fun e w'=>∃r:Int,e= .returned (.int .i64 r)∧decide (0≤r)=l.any q∧Below w.heap.size w w':=by
  obtain⟨len,hlen⟩:∃len,l.length=len:=⟨_,rfl⟩;rw[hlen] at hrow hl;obtain⟨ao,c,rfl⟩:∃ao c,v= .slice ao len c:=by
    rcases hrow.2 with⟨h1,h2⟩|⟨g,cap,cur,h1,-⟩;·exact⟨_,_,by rw[h1,h2]⟩
    ·exact⟨_,_,h1⟩
  have HROW:=Lib.hid hrow;have HLEN:=Lib.hid hlen;have HF:=Lib.hid hf;clear hrow hlen hf;go_enter Tryz.func143,Tryz.ntmps143;go_wp2;go_loopw [8] (fun iv wr=>∃n:Nat,n≤len∧iv= .int .i64 (n:Int)∧(∀s∈l.take n,q s=false)∧Below w.heap.size w wr) (fun iv _=>len-(intOf iv).toNat);case atStart=>exact⟨0,Nat.zero_le _,rfl,by simp,Below.refl _ _⟩
  case round=>
    obtain⟨n,hn,rfl,hno,hb⟩:=hrel;by_cases hlt:n<len
    · have e1:decide ((n:Int)<(len:Int))=true:=decide_eq_true (by omega);have e2:decide (n<len)=true:=decide_eq_true hlt;obtain⟨g,rfl⟩:∃g,ao=some ⟨g,0,none⟩:=by
        rcases HROW.out.2 with⟨h1,h2⟩|⟨g,cap,cur,h1,-⟩;·omega
        ·exact⟨g,by injection h1⟩
      obtain⟨s,hs⟩:∃s,l[n]?=some s:=⟨_,List.getElem?_eq_getElem (by have:=HLEN.out;omega)⟩;have hsl:=List.mem_of_getElem? hs;have hr:=HROW.out.below hb;have c0:wr.cell? ⟨g,n*5,none⟩=some (.int .i64 s.a):=hr.cells rfl _ _ (by rw[show n*5=n*5+0 by omega,sideCells_get l n 0 s hs (by omega)];rfl);have c1:wr.cell? ⟨g,n*5+1,none⟩=some (.int .i64 s.b):=hr.cells rfl _ _ (by rw[sideCells_get l n 1 s hs (by omega)];rfl);have c2:wr.cell? ⟨g,n*5+2,none⟩=some (.int .i64 s.u):=hr.cells rfl _ _ (by rw[sideCells_get l n 2 s hs (by omega)];rfl);have c3:wr.cell? ⟨g,n*5+3,none⟩=some (.int .i64 s.i):=hr.cells rfl _ _ (by rw[sideCells_get l n 3 s hs (by omega)];rfl);have c4:wr.cell? ⟨g,n*5+4,none⟩=some (.bool s.f):=hr.cells rfl _ _ (by rw[sideCells_get l n 4 s hs (by omega)];rfl);have HC:=Lib.hid (HF.out wr hb s hsl);have i1:(0:Int)≤(n:Int):=by omega
      have i2:(n:Int)<(len:Int):=by omega
      obtain⟨qs,hqs⟩:∃z,q s=z:=⟨_,rfl⟩;rw[hqs] at HC;obtain⟨sa,sb,su,si,sf⟩:=s;unfold valS at HC;simp only[] at c0 c1 c2 c3 c4 HC;have HNO:=Lib.hid hno;have HB:=Lib.hid hb;have HS:=Lib.hid hs;have HQ:=Lib.hid hqs;have HSL:=Lib.hid hsl;clear hno hb hr hs hqs hsl;go_wp2_with fail;refine HC.out.mono ?_;rintro e w2 ⟨rfl,hb2⟩;have HB2:=Lib.hid (HB.out.trans (hb2.mono HB.out.size));clear hb2 c0 c1 c2 c3 c4;cases qs
      · go_wp2;refine⟨⟨n+1,by omega,by go_num,fun s' hs'=>?_,HB2.out⟩,by simp[intOf];omega⟩;rw[List.take_add_one,HS.out] at hs';rcases List.mem_append.1 hs' with h1|h1;·exact HNO.out s' h1
        ·simp at h1;subst h1;exact HQ.out
      · go_wp2;go_ret;refine⟨_,rfl,?_,HB2.out⟩;rw[List.any_eq_true.2 ⟨_,HSL.out,HQ.out⟩];exact decide_eq_true (by omega)
    · obtain rfl:n=len:=by omega
      have e1:decide ((n:Int)<(n:Int))=false:=decide_eq_false (by omega);have HNO:=Lib.hid hno;have HB:=Lib.hid hb;clear hno hb;go_wp2;go_ret;refine⟨_,rfl,?_,HB.out⟩;have h1:=HNO.out;rw[←HLEN.out,List.take_length] at h1;rw[List.any_eq_false.2 (fun s hs=>by rw[h1 s hs];simp)];decide
set_option maxRecDepth 100000 in set_option maxHeartbeats 8000000 in theorem cvContains_any{base xm xp:Nat}(l:List SideM)(v:Value)(q:SideM→Bool)(w:World)(hrow:RowN w base 161 5 v l.length (sideCells l))(hl:l.length≤1000000)(hf:∀W:World,Below w.heap.size w W→∀s∈l,Calls Tryz.prog 105 #[valS s,.pointer (some ⟨xm,0,none⟩),.pointer (some ⟨xp,0,none⟩)] W fun e w'=>e= .returned (.bool (q s))∧Below W.heap.size W w'):Calls Tryz.prog 104 #[v,.func (.func 105) #[] #[.pointer (some ⟨xm,0,none⟩),.pointer (some ⟨xp,0,none⟩)]] w fun e w'=>e= .returned (.bool (l.any q))∧Below w.heap.size w w':=by have HC:=Lib.hid (cvIndexF_any l v q w hrow hl hf);obtain⟨r0,hr0⟩:∃z,l.any q=z:=⟨_,rfl⟩;rw[hr0] at HC⊢;clear hrow hl hf hr0;go_enter Tryz.func104,Tryz.ntmps104;go_wp2_with fail;refine HC.out.mono ?_;rintro e w2 ⟨r,rfl,hr,hb2⟩;have HB2:=Lib.hid hb2;clear hb2;go_wp2;go_ret;exact⟨rfl,HB2.out⟩
theorem cvSet_size(g:Nat):∀(xs:List Value)(i:Nat)(w:World),(setAll w g i xs).heap.size=w.heap.size|[],_,_=>rfl|x::xs,i,w=>by rw[setAll,cvSet_size g xs];simp
theorem takeM_grows(P:List (Int×Int))(T:TriM)(t:Int)(ts:List Int):ts.length≤(takeM P T t ts).length:=by
  unfold takeM;split;·rw[List.length_append];omega
  ·exact Nat.le_refl _
theorem step_grows(P:List (Int×Int))(S:List TriM)(p:Int×Int)(T:TriM)(i:Nat)(ts:List Int):ts.length≤(stepM P S p T i ts).length:=by
  unfold stepM;split
  · unfold takeS;split;·exact takeM_grows _ _ _ _
    ·exact Nat.le_refl _
  ·exact Nat.le_refl _
theorem inner_grows(P:List (Int×Int))(S:List TriM)(p:Int×Int)(T:TriM)(ts:List Int):∀n,ts.length≤(innerM P S p T n ts).length|0=>Nat.le_refl _|n+1=>Nat.le_trans (inner_grows P S p T ts n) (step_grows _ _ _ _ _ _)
set_option maxRecDepth 100000 in set_option maxHeartbeats 16000000 in theorem cvSpread_any{w0:World}{mb pb pc hb b:Nat}{ta:Option Addr}{tc:Nat}{P:List (Int×Int)}{S:List TriM}{v:Value}{ts:List Int}(p0 p1:Int)(w:World)(h:MeshR w0 mb pb pc ta tc P S)(hP:InPs P)(hp:InP p0∧InP p1)(hN:Nexts S)(hB:Below w0.heap.size w0 w)(hH:HoleR w w0.heap.size hb mb b v ts)(hin:InS S ts)(hmx:S.length<1000000):Calls Tryz.prog 102 #[.pointer (some ⟨hb,0,none⟩),.agg #[.int .i64 p0,.int .i64 p1]] w fun e w'=>e= .returned (.tuple #[])∧(∃v',HoleR w' w0.heap.size hb mb b v' (spreadM P S (p0,p1) S.length 0 ts))∧Below w0.heap.size w0 w':=by
  obtain⟨w1,hw1,pp,hb1,hs1⟩:=new_box w _ rfl [.int .i64 p0,.int .i64 p1] 24;have H:=Lib.hid h;have HP:=Lib.hid hP;have HPP:=Lib.hid hp;have HN:=Lib.hid hN;have HMX:=Lib.hid hmx;have HB1:=Lib.hid (hB.trans (hb1.mono hB.size));have HH1:=Lib.hid (hH.below hb1);have HIN:=Lib.hid hin;have PP1:=Lib.hid pp;have HAP:=Lib.hid (show w.heap.size<w1.heap.size∧w.heap.size≠hb∧w.heap.size≠b∧v.ownBlock≠some w.heap.size from⟨by omega,by have:=hH.box.lt;omega,by have:=hH.map.lt;omega,fun e=>by have:=(hH.row.lt _ e).2;omega⟩);obtain⟨R,hR⟩:∃R,spreadM P S (p0,p1) S.length 0 ts=R:=⟨_,rfl⟩;rw[hR];have HR:=Lib.hid hR;obtain⟨len,hlen⟩:∃len,S.length=len:=⟨_,rfl⟩;have HLEN:=Lib.hid hlen;rw[hlen] at HR;clear h hP hp hN hB hH hin hmx hb1 hs1 pp hR hlen;go_enter Tryz.func102,Tryz.ntmps102;go_wp2;clear hw1;go_loopw [4] (fun iv wr=>∃(n:Nat) (us:List Int) (vv:Value),iv= .int .i64 (n:Int)∧n≤us.length∧HoleR wr w0.heap.size hb mb b vv us∧InS S us∧spreadM P S (p0,p1) (len-n) n us=R∧KeepH w1 wr hb b v vv∧Below w0.heap.size w0 wr) (fun iv _=>len-(intOf iv).toNat);case atStart=>exact⟨0,ts,v,rfl,Nat.zero_le _,HH1.out,HIN.out,HR.out,KeepH.of_below (Below.refl _ _),HB1.out⟩
  case round=>
    obtain⟨n,us,vv,rfl,hn,hh,hin,hr,hk,hbw⟩:=hrel;obtain⟨ul,hul⟩:∃ul,us.length=ul:=⟨_,rfl⟩;obtain⟨ao,c,rfl⟩:∃ao c,vv= .slice ao ul c:=by
      rcases hh.row.2 with⟨h1,h2⟩|⟨g,cap,cur,h1,-⟩;·exact⟨_,_,by rw[h1,←hul,h2]⟩
      ·exact⟨_,_,by rw[←hul];exact h1⟩
    have hle:=hin.le;rw[HLEN.out] at hle;have b1:=hh.box.c1;by_cases hlt:n<ul
    · have e1:decide ((n:Int)<(ul:Int))=true:=decide_eq_true (by omega);have e2:decide (n<ul)=true:=decide_eq_true hlt;obtain⟨g,rfl⟩:∃g,ao=some ⟨g,0,none⟩:=by
        rcases hh.row.2 with⟨h1,h2⟩|⟨g,cap,cur,h1,-⟩;·omega
        ·exact⟨g,by injection h1⟩
      obtain⟨z,hz⟩:∃z,us[n]?=some z:=⟨_,List.getElem?_eq_getElem (by omega)⟩;obtain⟨t,rfl,htl⟩:=hin.is z (List.mem_of_getElem? hz);obtain⟨T,hT⟩:∃T,S[t]?=some T:=⟨_,List.getElem?_eq_getElem htl⟩;have hcell:wr.cell? ⟨g,n,none⟩=some (.int .i64 (t:Int)):=hh.row.cells rfl n _ (by unfold intCells;rw[List.getElem?_map,hz];rfl);have hsh:=H.out.short.2;rw[HLEN.out] at htl hsh;obtain⟨v0,v1,v2,n0,n1,n2,f0,f1,f2⟩:=T;have SS:∀w',Below wr.heap.size wr w'→∃tb,ta=some ⟨tb,0,none⟩∧w'.cell? ⟨hb,0,none⟩=some (.pointer (some ⟨mb,0,none⟩))∧w'.cell? ⟨hb,1,none⟩=some (.slice (some ⟨g,0,none⟩) ul c)∧w'.cell? ⟨mb,1,none⟩=some (.slice (some ⟨tb,0,none⟩) len tc)∧w'.cell? ⟨g,n,none⟩=some (.int .i64 (t:Int))∧w'.cell? ⟨tb,t*9,none⟩=some (.int .i64 v0)∧w'.cell? ⟨tb,t*9+1,none⟩=some (.int .i64 v1)∧w'.cell? ⟨tb,t*9+2,none⟩=some (.int .i64 v2)∧w'.cell? ⟨tb,t*9+3,none⟩=some (.int .i64 n0)∧w'.cell? ⟨tb,t*9+4,none⟩=some (.int .i64 n1)∧w'.cell? ⟨tb,t*9+5,none⟩=some (.int .i64 n2)∧w'.cell? ⟨tb,t*9+6,none⟩=some (.bool f0)∧w'.cell? ⟨tb,t*9+7,none⟩=some (.bool f1)∧w'.cell? ⟨tb,t*9+8,none⟩=some (.bool f2):=by
        intro w' hw;have q1:=H.out.below (hbw.trans (hw.mono hbw.size));have k1:=q1.box.c1;rw[HLEN.out] at k1;obtain⟨tb,hta,-,k2,k3,k4,k5,k6,k7,k8,k9,k10⟩:=q1.tris.get hT;subst hta;exact⟨tb,rfl,(hh.box.below hw).c0,(hh.box.below hw).c1,k1,(hw.cell (World.block_lt_of_cell? _ _ hcell)).trans hcell,k2,k3,k4,k5,k6,k7,k8,k9,k10⟩
      obtain⟨tb,hta,-⟩:=SS wr (Below.refl _ _);subst hta;have SS:=fun(w':World) (hw:Below wr.heap.size wr w')=>(by obtain⟨tb',e,hs⟩:=SS w' hw;cases e;exact hs:w'.cell? ⟨hb,0,none⟩=some (.pointer (some ⟨mb,0,none⟩))∧w'.cell? ⟨hb,1,none⟩=some (.slice (some ⟨g,0,none⟩) ul c)∧w'.cell? ⟨mb,1,none⟩=some (.slice (some ⟨tb,0,none⟩) len tc)∧w'.cell? ⟨g,n,none⟩=some (.int .i64 (t:Int))∧w'.cell? ⟨tb,t*9,none⟩=some (.int .i64 v0)∧w'.cell? ⟨tb,t*9+1,none⟩=some (.int .i64 v1)∧w'.cell? ⟨tb,t*9+2,none⟩=some (.int .i64 v2)∧w'.cell? ⟨tb,t*9+3,none⟩=some (.int .i64 n0)∧w'.cell? ⟨tb,t*9+4,none⟩=some (.int .i64 n1)∧w'.cell? ⟨tb,t*9+5,none⟩=some (.int .i64 n2)∧w'.cell? ⟨tb,t*9+6,none⟩=some (.bool f0)∧w'.cell? ⟨tb,t*9+7,none⟩=some (.bool f1)∧w'.cell? ⟨tb,t*9+8,none⟩=some (.bool f2));have i1:(0:Int)≤(n:Int):=by omega
      have i2:(n:Int)<(ul:Int):=by omega
      have i3:(0:Int)≤(t:Int):=by omega
      have i4:(t:Int)<(len:Int):=by omega
      have HHH:=Lib.hid hh;have HI:=Lib.hid hin;have HRR:=Lib.hid hr;have HK:=Lib.hid hk;have HBW:=Lib.hid hbw;have HZ:=Lib.hid hz;have HT:=Lib.hid hT;have HUL:=Lib.hid hul;have SSH:=Lib.hid SS;clear hh hin hr hk hbw hz hT hul hcell SS;go_wp2;obtain⟨wd,hwd⟩:∃wd,wr.drew=wd:=⟨_,rfl⟩;have hBd:Below wr.heap.size wr wd:=by rw[←hwd];exact(Below.refl _ _).drew'
      have hsd:wr.heap.size=wd.heap.size:=by rw[←hwd];rfl
      obtain⟨w4,hw4,pz,hb4,hs4⟩:=new_box wd _ rfl [.int .i64 0,.int .i64 0,.int .i64 0,.int .i64 0,.int .i64 0,.int .i64 0,.bool false,.bool false,.bool false] 42;obtain⟨w5,hw5⟩:∃w5,setAll w4 wd.heap.size 0 [.int .i64 v0,.int .i64 v1,.int .i64 v2,.int .i64 n0,.int .i64 n1,.int .i64 n2,.bool f0,.bool f1,.bool f2]=w5:=⟨_,rfl⟩;have pt5:Box w5 wd.heap.size [.int .i64 v0,.int .i64 v1,.int .i64 v2,.int .i64 n0,.int .i64 n1,.int .i64 n2,.bool f0,.bool f1,.bool f2]:=by rw[←hw5];exact pz.setAll _ rfl
      have hB4:Below wr.heap.size wr w4:=hBd.trans (hb4.mono (by omega));have hB5:Below wr.heap.size wr w5:=by rw[←hw5];exact below_setAll hB4 (by omega) _
      have SB:=SSH.out;have hs5:w5.heap.size=wd.heap.size+1:=by rw[←hw5];exact(cvSet_size _ _ 0 _).trans hs4
      have PT5:=Lib.hid pt5;have HB5:=Lib.hid hB5;have HSD:=Lib.hid (And.intro hsd hs5);clear hsd hs4 hs5 pt5;refine wp_region_noPanic ?_;refine wp_region_held_drew (S:=fun w'=>w'.cell? ⟨hb,0,none⟩=some (.pointer (some ⟨mb,0,none⟩))∧w'.cell? ⟨hb,1,none⟩=some (.slice (some ⟨g,0,none⟩) ul c)∧w'.cell? ⟨mb,1,none⟩=some (.slice (some ⟨tb,0,none⟩) len tc)∧w'.cell? ⟨g,n,none⟩=some (.int .i64 (t:Int))∧w'.cell? ⟨tb,t*9,none⟩=some (.int .i64 v0)∧w'.cell? ⟨tb,t*9+1,none⟩=some (.int .i64 v1)∧w'.cell? ⟨tb,t*9+2,none⟩=some (.int .i64 v2)∧w'.cell? ⟨tb,t*9+3,none⟩=some (.int .i64 n0)∧w'.cell? ⟨tb,t*9+4,none⟩=some (.int .i64 n1)∧w'.cell? ⟨tb,t*9+5,none⟩=some (.int .i64 n2)∧w'.cell? ⟨tb,t*9+6,none⟩=some (.bool f0)∧w'.cell? ⟨tb,t*9+7,none⟩=some (.bool f1)∧w'.cell? ⟨tb,t*9+8,none⟩=some (.bool f2)) (by kernel_rfl) (SB _ (Below.refl _ _).drew') (fun hHeld=>?_);rw[hwd] at hHeld⊢;refine rU 0 _ _ ?_;refine rU 1 _ _ ?_;refine rU 2 _ _ ?_;refine rU 3 _ _ ?_;refine rU 4 _ _ ?_;refine rU 5 _ _ ?_;refine rU 6 _ _ ?_;refine rU 7 _ _ ?_;refine rU 8 _ _ ?_;refine rU 9 _ _ ?_;refine rU 10 _ _ ?_;refine rU 11 _ _ ?_;refine rU 12 _ _ ?_;refine rU 13 _ _ ?_;refine rU 14 _ _ ?_;refine rU 15 _ _ ?_;refine rC 16 _ (fun K hK=>?_);go_simp;try rw[hw4]
      refine hK.out _ _ (SB _ hB4) (fun hHeld=>?_);clear hK K;try simp only[Act.put,sA,sZ,sS]
      refine rC 17 _ (fun K hK=>?_);refine wanted_go rfl ?_;refine wp_store_box _ _ _ rfl [.int .i64 v0,.int .i64 v1,.int .i64 v2,.int .i64 n0,.int .i64 n1,.int .i64 n2,.bool f0,.bool f1,.bool f2] pz rfl rfl (by kernel_rfl) (by simp) rfl hw5 ?_;refine hK.out _ _ (SB _ hB5) (fun hHeld=>?_);clear hK K;try simp only[Act.put,sA,sZ,sS]
      refine wpAnyH_done (by kernel_rfl) ?_ _;refine NoPanic.normal ?_;have d3:=PT5.out.c 3 _ rfl;have d4:=PT5.out.c 4 _ rfl;have d5:=PT5.out.c 5 _ rfl;clear SB hw4 hw5 pz hB4 hB5 hBd hwd hb4 i1 i2 i3 i4;obtain⟨T,hTT⟩:∃T:TriM,T=⟨v0,v1,v2,n0,n1,n2,f0,f1,f2⟩:=⟨_,rfl⟩;have HTT:=Lib.hid hTT;rw[←hTT] at HT;clear hTT;go_wp2;clear d3 d4 d5;go_loopw [35] (fun iv wr=>∃(i:Nat) (vi:Value),i≤3∧iv= .int .i64 (i:Int)∧HoleR wr w0.heap.size hb mb b vi (innerM P S (p0,p1) T i us)∧KeepH w5 wr hb b (.slice (some ⟨g,0,none⟩) ul c) vi∧Below w0.heap.size w0 wr) (fun iv _=>3-(intOf iv).toNat);case atStart=>exact⟨0,_,Nat.zero_le _,rfl,HHH.out.below HB5.out,KeepH.of_below (Below.refl _ _),HBW.out.trans (HB5.out.mono HBW.out.size)⟩
      case round=>
        obtain⟨i,vi,hi,rfl,hhi,hki,hbi⟩:=hrel;have HHI:=Lib.hid hhi;have HKI:=Lib.hid hki;have HBI:=Lib.hid hbi;clear hhi hki hbi;by_cases hi3:i<3
        · have PTI:=Lib.hid (show Box wr wd.heap.size [.int .i64 v0,.int .i64 v1,.int .i64 v2,.int .i64 n0,.int .i64 n1,.int .i64 n2,.bool f0,.bool f1,.bool f2] from by
            have hl:=HHH.out.box.lt;have hm:=HHH.out.map.lt;have hs:=HSD.out;exact _root_.Go.Proofs.YtammmemfkpcpcaaGreat.Box.keepH PT5.out HKI.out (by omega) (by omega) (by omega) (fun e=>by have:=(HHH.out.row.lt _ e).2;omega));have PPI:=Lib.hid (show Box wr w.heap.size [.int .i64 p0,.int .i64 p1] from _root_.Go.Proofs.YtammmemfkpcpcaaGreat.Box.keepH PP1.out ((HK.out.trans (KeepH.of_below HB5.out)).trans HKI.out) HAP.out.1 HAP.out.2.1 HAP.out.2.2.1 HAP.out.2.2.2);obtain rfl|rfl|rfl:i=0∨i=1∨i=2:=by omega
          · obtain⟨u,hu,hul⟩:=HN.out t T HT.out 0 (by omega);obtain⟨U,hU⟩:∃U,S[u]?=some U:=⟨_,List.getElem?_eq_getElem hul⟩;rw[HTT.out] at hu;obtain rfl:n0=(u:Int):=hu;have hnu:T.n 0=(u:Int):=by rw[HTT.out];rfl
            have hfi:T.f 0=f0:=by rw[HTT.out];rfl
            have hct:confT P S (p0,p1) (u:Int)=conflictM P U (p0,p1):=by unfold confT;rw[Int.toNat_natCast,hU]
            have htk:takeS P S (u:Int) (innerM P S (p0,p1) T 0 us)=takeM P U (u:Int) (innerM P S (p0,p1) T 0 us):=by unfold takeS;rw[Int.toNat_natCast,hU]
            have hur:-1000000≤(u:Int)∧(u:Int)≤1000000:=by have:=HMX.out;omega
            have HSTEP:=Lib.hid (show innerM P S (p0,p1) T (0+1) us=if f0=false∧(u:Int)∉innerM P S (p0,p1) T 0 us∧conflictM P U (p0,p1)=true then takeM P U (u:Int) (innerM P S (p0,p1) T 0 us) else innerM P S (p0,p1) T 0 us by show stepM P S (p0,p1) T 0 (innerM P S (p0,p1) T 0 us)=_;unfold stepM;rw[hnu,hfi,hct,htk]);have HU:=Lib.hid hU;obtain⟨q1,hq1⟩:∃q,decide ((u:Int)∈innerM P S (p0,p1) T 0 us)=q:=⟨_,rfl⟩;obtain⟨q2,hq2⟩:∃q,conflictM P U (p0,p1)=q:=⟨_,rfl⟩;have HHO:=Lib.hid (show∀W:World,Below wr.heap.size wr W→Calls Tryz.prog 140 #[.pointer (some ⟨hb,0,none⟩),.int .i64 (u:Int)] W fun e w'=>e= .returned (.bool q1)∧Below W.heap.size W w' from fun W hW=>by have:=cvHolds_any hb b _ (u:Int) W (HHI.out.below hW).box.c2 (HHI.out.below hW).map hur;rw[hq1] at this;exact this);have HCO:=Lib.hid (show∀W:World,Below wr.heap.size wr W→Calls Tryz.prog 15 #[.pointer (some ⟨mb,0,none⟩),.int .i64 (u:Int),.agg #[.int .i64 p0,.int .i64 p1]] W fun e w'=>e= .returned (.bool q2)∧Below W.heap.size W w' from fun W hW=>by have:=cvConflict_any u U p0 p1 W (H.out.below (HBI.out.trans (hW.mono HBI.out.size))) HP.out HPP.out HU.out;rw[hq2] at this;exact this);have HQ1:=Lib.hid hq1;have HQ2:=Lib.hid hq2;have K8:=Lib.hid (show∀w':World,Below wr.heap.size wr w'→w'.cell? ⟨hb,0,none⟩=some (.pointer (some ⟨mb,0,none⟩))∧w'.cell? ⟨w.heap.size,0,none⟩=some (.int .i64 p0)∧w'.cell? ⟨w.heap.size,1,none⟩=some (.int .i64 p1)∧w'.cell? ⟨wd.heap.size,6,none⟩=some (.bool f0) from fun w' hw=>⟨(HHI.out.below hw).box.c0,(PPI.out.below hw).c 0 _ rfl,(PPI.out.below hw).c 1 _ rfl,(PTI.out.below hw).c 6 _ rfl⟩);have ir:∀w:World,(Instr.index 39 (.agg #[.int .i64 (u:Int),.int .i64 n1,.int .i64 n2]) (.int .i64 0)).run Tryz.prog w= .ok (.int .i64 (u:Int)) w:=fun w=>index3v_run ⟨(u:Int),n1,n2,0,0,0,false,false,false⟩ 0 (by omega) w;clear hul hU hnu hfi hct htk hur hq1 hq2;cases f0
            · cases q1
              · have HNI:=Lib.hid (of_decide_eq_false HQ1.out);cases q2
                · go_wp2;refine wp_region_noPanic ?_;refine wp_region_held_drew (S:=fun w'=>w'.cell? ⟨hb,0,none⟩=some (.pointer (some ⟨mb,0,none⟩))∧w'.cell? ⟨w.heap.size,0,none⟩=some (.int .i64 p0)∧w'.cell? ⟨w.heap.size,1,none⟩=some (.int .i64 p1)∧w'.cell? ⟨wd.heap.size,6,none⟩=some (.bool false)) (by kernel_rfl) (K8.out _ (Below.refl _ _).drew') (fun hHeld=>?_);refine rU 0 _ _ ?_;refine rU 1 _ _ ?_;refine rU 2 _ _ ?_;refine rU 3 _ _ ?_;refine rU 4 _ _ ?_;refine rU 5 _ _ ?_;refine rU 6 _ _ ?_;refine rU 7 _ _ ?_;refine rC 8 _ (fun K hK=>?_);go_simp;refine(HHO.out _ (Below.refl _ _).drew').mono ?_;rintro e w7 ⟨rfl,hb7⟩;have HB7:=Lib.hid ((Below.refl wr.heap.size wr).drew'.trans hb7);clear hb7;refine hK.out _ _ (K8.out _ HB7.out) (fun hHeld=>?_);clear hK K;try simp only[Act.put,sA,sZ,sS]
                  refine rU 9 _ _ ?_;refine rU 10 _ _ ?_;refine rU 11 _ _ ?_;refine rU 12 _ _ ?_;refine rU 13 _ _ ?_;refine rU 14 _ _ ?_;refine rU 15 _ _ ?_;refine rU 16 _ _ ?_;refine rU 17 _ _ ?_;refine rC 18 _ (fun K hK=>?_);go_simp;refine(HCO.out _ HB7.out).mono ?_;rintro e w8 ⟨rfl,hb8⟩;have HB8:=Lib.hid (HB7.out.trans (hb8.mono HB7.out.size));clear hb8;refine hK.out _ _ (K8.out _ HB8.out) (fun hHeld=>?_);clear hK K;try simp only[Act.put,sA,sZ,sS]
                  refine rU 19 _ _ ?_;refine wpAnyH_done (by kernel_rfl) ?_ _;refine NoPanic.normal ?_;go_wp2;go_roundw;case rel=>exact⟨0+1,vi,by omega,by go_num,by rw[show innerM P S (p0,p1) T (0+1) us=innerM P S (p0,p1) T 0 us from by rw[HSTEP.out,HQ2.out];simp];exact HHI.out.below HB8.out,HKI.out.trans (KeepH.of_below HB8.out),HBI.out.trans ((HB8.out).mono HBI.out.size)⟩
                  case measure=>simp[intOf]
                · go_wp2;refine wp_region_noPanic ?_;refine wp_region_held_drew (S:=fun w'=>w'.cell? ⟨hb,0,none⟩=some (.pointer (some ⟨mb,0,none⟩))∧w'.cell? ⟨w.heap.size,0,none⟩=some (.int .i64 p0)∧w'.cell? ⟨w.heap.size,1,none⟩=some (.int .i64 p1)∧w'.cell? ⟨wd.heap.size,6,none⟩=some (.bool false)) (by kernel_rfl) (K8.out _ (Below.refl _ _).drew') (fun hHeld=>?_);refine rU 0 _ _ ?_;refine rU 1 _ _ ?_;refine rU 2 _ _ ?_;refine rU 3 _ _ ?_;refine rU 4 _ _ ?_;refine rU 5 _ _ ?_;refine rU 6 _ _ ?_;refine rU 7 _ _ ?_;refine rC 8 _ (fun K hK=>?_);go_simp;refine(HHO.out _ (Below.refl _ _).drew').mono ?_;rintro e w7 ⟨rfl,hb7⟩;have HB7:=Lib.hid ((Below.refl wr.heap.size wr).drew'.trans hb7);clear hb7;refine hK.out _ _ (K8.out _ HB7.out) (fun hHeld=>?_);clear hK K;try simp only[Act.put,sA,sZ,sS]
                  refine rU 9 _ _ ?_;refine rU 10 _ _ ?_;refine rU 11 _ _ ?_;refine rU 12 _ _ ?_;refine rU 13 _ _ ?_;refine rU 14 _ _ ?_;refine rU 15 _ _ ?_;refine rU 16 _ _ ?_;refine rU 17 _ _ ?_;refine rC 18 _ (fun K hK=>?_);go_simp;refine(HCO.out _ HB7.out).mono ?_;rintro e w8 ⟨rfl,hb8⟩;have HB8:=Lib.hid (HB7.out.trans (hb8.mono HB7.out.size));clear hb8;refine hK.out _ _ (K8.out _ HB8.out) (fun hHeld=>?_);clear hK K;try simp only[Act.put,sA,sZ,sS]
                  refine rU 19 _ _ ?_;refine wpAnyH_done (by kernel_rfl) ?_ _;refine NoPanic.normal ?_;go_wp2_with fail;refine(cvTake_any u U w8 H.out (HBI.out.trans (HB8.out.mono HBI.out.size)) (HHI.out.below HB8.out) HU.out (by have:=(HI.out.inner P (p0,p1) (HN.out t T HT.out) 0 (by omega)).le;have:=HMX.out;omega)).mono ?_;rintro e w9 ⟨rfl,⟨v9,hh9,hk9⟩,hb9⟩;have HH9:=Lib.hid hh9;have HK9:=Lib.hid (HKI.out.trans ((KeepH.of_below HB8.out).trans hk9));have HB9:=Lib.hid hb9;clear hh9 hk9 hb9;go_wp2;go_roundw;case rel=>exact⟨0+1,v9,by omega,by go_num,by rw[show innerM P S (p0,p1) T (0+1) us=takeM P U (u:Int) (innerM P S (p0,p1) T 0 us) from by rw[HSTEP.out,HQ2.out,if_pos (by refine⟨?_,HNI.out,?_⟩<;>trivial)]];exact HH9.out,HK9.out,HB9.out⟩
                  case measure=>simp[intOf]
              · have HYI:=Lib.hid (of_decide_eq_true HQ1.out);go_wp2;refine wp_region_noPanic ?_;refine wp_region_held_drew (S:=fun w'=>w'.cell? ⟨hb,0,none⟩=some (.pointer (some ⟨mb,0,none⟩))∧w'.cell? ⟨w.heap.size,0,none⟩=some (.int .i64 p0)∧w'.cell? ⟨w.heap.size,1,none⟩=some (.int .i64 p1)∧w'.cell? ⟨wd.heap.size,6,none⟩=some (.bool false)) (by kernel_rfl) (K8.out _ (Below.refl _ _).drew') (fun hHeld=>?_);refine rU 0 _ _ ?_;refine rU 1 _ _ ?_;refine rU 2 _ _ ?_;refine rU 3 _ _ ?_;refine rU 4 _ _ ?_;refine rU 5 _ _ ?_;refine rU 6 _ _ ?_;refine rU 7 _ _ ?_;refine rC 8 _ (fun K hK=>?_);go_simp;refine(HHO.out _ (Below.refl _ _).drew').mono ?_;rintro e w7 ⟨rfl,hb7⟩;have HB7:=Lib.hid ((Below.refl wr.heap.size wr).drew'.trans hb7);clear hb7;refine hK.out _ _ (K8.out _ HB7.out) (fun hHeld=>?_);clear hK K;try simp only[Act.put,sA,sZ,sS]
                refine rU 9 _ _ ?_;refine rU 10 _ _ ?_;refine rU 11 _ _ ?_;refine rS 12 ?_ ?_ ?_ ?_;rotate_left 1;·simp only[gA,gS,gZ];exact rfl
                ·rfl
                try simp only[Act.put,sA,sZ,sS]
                refine rS 13 ?_ ?_ ?_ ?_;rotate_left 1;·simp only[gA,gS,gZ];exact rfl
                ·rfl
                try simp only[Act.put,sA,sZ,sS]
                refine rS 14 ?_ ?_ ?_ ?_;rotate_left 1;·simp only[gA,gS,gZ];exact rfl
                ·rfl
                try simp only[Act.put,sA,sZ,sS]
                refine rS 15 ?_ ?_ ?_ ?_;rotate_left 1;·simp only[gA,gS,gZ];exact rfl
                ·rfl
                try simp only[Act.put,sA,sZ,sS]
                refine rS 16 ?_ ?_ ?_ ?_;rotate_left 1;·simp only[gA,gS,gZ];exact rfl
                ·rfl
                try simp only[Act.put,sA,sZ,sS]
                refine rS 17 ?_ ?_ ?_ ?_;rotate_left 1;·simp only[gA,gS,gZ];exact rfl
                ·rfl
                try simp only[Act.put,sA,sZ,sS]
                refine rS 18 ?_ ?_ ?_ ?_;rotate_left 1;·simp only[gA,gS,gZ];exact rfl
                ·rfl
                try simp only[Act.put,sA,sZ,sS]
                refine rU 19 _ _ ?_;refine wpAnyH_done (by kernel_rfl) ?_ _;refine NoPanic.normal ?_;go_wp2;go_roundw;case rel=>exact⟨0+1,vi,by omega,by go_num,by rw[show innerM P S (p0,p1) T (0+1) us=innerM P S (p0,p1) T 0 us from by rw[HSTEP.out,if_neg (fun h=>h.2.1 HYI.out)]];exact HHI.out.below HB7.out,HKI.out.trans (KeepH.of_below HB7.out),HBI.out.trans ((HB7.out).mono HBI.out.size)⟩
                case measure=>simp[intOf]
            · go_wp2;refine wp_region_noPanic ?_;refine wp_region_held_drew (S:=fun w'=>w'.cell? ⟨hb,0,none⟩=some (.pointer (some ⟨mb,0,none⟩))∧w'.cell? ⟨w.heap.size,0,none⟩=some (.int .i64 p0)∧w'.cell? ⟨w.heap.size,1,none⟩=some (.int .i64 p1)∧w'.cell? ⟨wd.heap.size,6,none⟩=some (.bool true)) (by kernel_rfl) (K8.out _ (Below.refl _ _).drew') (fun hHeld=>?_);refine rU 0 _ _ ?_;refine rU 1 _ _ ?_;refine rU 2 _ _ ?_;refine rU 3 _ _ ?_;refine rU 4 _ _ ?_;refine rU 5 _ _ ?_;refine rS 6 ?_ ?_ ?_ ?_;rotate_left 1;·simp only[gA,gS,gZ];exact rfl
              ·rfl
              try simp only[Act.put,sA,sZ,sS]
              refine rS 7 ?_ ?_ ?_ ?_;rotate_left 1;·simp only[gA,gS,gZ];exact rfl
              ·rfl
              try simp only[Act.put,sA,sZ,sS]
              refine rS 8 ?_ ?_ ?_ ?_;rotate_left 1;·simp only[gA,gS,gZ];exact rfl
              ·rfl
              try simp only[Act.put,sA,sZ,sS]
              refine rS 9 ?_ ?_ ?_ ?_;rotate_left 1;·simp only[gA,gS,gZ];exact rfl
              ·rfl
              try simp only[Act.put,sA,sZ,sS]
              refine rU 10 _ _ ?_;refine rU 11 _ _ ?_;refine rS 12 ?_ ?_ ?_ ?_;rotate_left 1;·simp only[gA,gS,gZ];exact rfl
              ·rfl
              try simp only[Act.put,sA,sZ,sS]
              refine rS 13 ?_ ?_ ?_ ?_;rotate_left 1;·simp only[gA,gS,gZ];exact rfl
              ·rfl
              try simp only[Act.put,sA,sZ,sS]
              refine rS 14 ?_ ?_ ?_ ?_;rotate_left 1;·simp only[gA,gS,gZ];exact rfl
              ·rfl
              try simp only[Act.put,sA,sZ,sS]
              refine rS 15 ?_ ?_ ?_ ?_;rotate_left 1;·simp only[gA,gS,gZ];exact rfl
              ·rfl
              try simp only[Act.put,sA,sZ,sS]
              refine rS 16 ?_ ?_ ?_ ?_;rotate_left 1;·simp only[gA,gS,gZ];exact rfl
              ·rfl
              try simp only[Act.put,sA,sZ,sS]
              refine rS 17 ?_ ?_ ?_ ?_;rotate_left 1;·simp only[gA,gS,gZ];exact rfl
              ·rfl
              try simp only[Act.put,sA,sZ,sS]
              refine rS 18 ?_ ?_ ?_ ?_;rotate_left 1;·simp only[gA,gS,gZ];exact rfl
              ·rfl
              try simp only[Act.put,sA,sZ,sS]
              refine rU 19 _ _ ?_;refine wpAnyH_done (by kernel_rfl) ?_ _;refine NoPanic.normal ?_;go_wp2;go_roundw;case rel=>exact⟨0+1,vi,by omega,by go_num,by rw[show innerM P S (p0,p1) T (0+1) us=innerM P S (p0,p1) T 0 us from by rw[HSTEP.out,if_neg (fun h=>by cases h.1)]];exact HHI.out.below (Below.refl wr.heap.size wr).drew',HKI.out.trans (KeepH.of_below (Below.refl wr.heap.size wr).drew'),HBI.out.trans (((Below.refl wr.heap.size wr).drew').mono HBI.out.size)⟩
              case measure=>simp[intOf]
          · obtain⟨u,hu,hul⟩:=HN.out t T HT.out 1 (by omega);obtain⟨U,hU⟩:∃U,S[u]?=some U:=⟨_,List.getElem?_eq_getElem hul⟩;rw[HTT.out] at hu;obtain rfl:n1=(u:Int):=hu;have hnu:T.n 1=(u:Int):=by rw[HTT.out];rfl
            have hfi:T.f 1=f1:=by rw[HTT.out];rfl
            have hct:confT P S (p0,p1) (u:Int)=conflictM P U (p0,p1):=by unfold confT;rw[Int.toNat_natCast,hU]
            have htk:takeS P S (u:Int) (innerM P S (p0,p1) T 1 us)=takeM P U (u:Int) (innerM P S (p0,p1) T 1 us):=by unfold takeS;rw[Int.toNat_natCast,hU]
            have hur:-1000000≤(u:Int)∧(u:Int)≤1000000:=by have:=HMX.out;omega
            have HSTEP:=Lib.hid (show innerM P S (p0,p1) T (1+1) us=if f1=false∧(u:Int)∉innerM P S (p0,p1) T 1 us∧conflictM P U (p0,p1)=true then takeM P U (u:Int) (innerM P S (p0,p1) T 1 us) else innerM P S (p0,p1) T 1 us by show stepM P S (p0,p1) T 1 (innerM P S (p0,p1) T 1 us)=_;unfold stepM;rw[hnu,hfi,hct,htk]);have HU:=Lib.hid hU;obtain⟨q1,hq1⟩:∃q,decide ((u:Int)∈innerM P S (p0,p1) T 1 us)=q:=⟨_,rfl⟩;obtain⟨q2,hq2⟩:∃q,conflictM P U (p0,p1)=q:=⟨_,rfl⟩;have HHO:=Lib.hid (show∀W:World,Below wr.heap.size wr W→Calls Tryz.prog 140 #[.pointer (some ⟨hb,0,none⟩),.int .i64 (u:Int)] W fun e w'=>e= .returned (.bool q1)∧Below W.heap.size W w' from fun W hW=>by have:=cvHolds_any hb b _ (u:Int) W (HHI.out.below hW).box.c2 (HHI.out.below hW).map hur;rw[hq1] at this;exact this);have HCO:=Lib.hid (show∀W:World,Below wr.heap.size wr W→Calls Tryz.prog 15 #[.pointer (some ⟨mb,0,none⟩),.int .i64 (u:Int),.agg #[.int .i64 p0,.int .i64 p1]] W fun e w'=>e= .returned (.bool q2)∧Below W.heap.size W w' from fun W hW=>by have:=cvConflict_any u U p0 p1 W (H.out.below (HBI.out.trans (hW.mono HBI.out.size))) HP.out HPP.out HU.out;rw[hq2] at this;exact this);have HQ1:=Lib.hid hq1;have HQ2:=Lib.hid hq2;have K8:=Lib.hid (show∀w':World,Below wr.heap.size wr w'→w'.cell? ⟨hb,0,none⟩=some (.pointer (some ⟨mb,0,none⟩))∧w'.cell? ⟨w.heap.size,0,none⟩=some (.int .i64 p0)∧w'.cell? ⟨w.heap.size,1,none⟩=some (.int .i64 p1)∧w'.cell? ⟨wd.heap.size,7,none⟩=some (.bool f1) from fun w' hw=>⟨(HHI.out.below hw).box.c0,(PPI.out.below hw).c 0 _ rfl,(PPI.out.below hw).c 1 _ rfl,(PTI.out.below hw).c 7 _ rfl⟩);have ir:∀w:World,(Instr.index 39 (.agg #[.int .i64 n0,.int .i64 (u:Int),.int .i64 n2]) (.int .i64 1)).run Tryz.prog w= .ok (.int .i64 (u:Int)) w:=fun w=>index3v_run ⟨n0,(u:Int),n2,0,0,0,false,false,false⟩ 1 (by omega) w;clear hul hU hnu hfi hct htk hur hq1 hq2;cases f1
            · cases q1
              · have HNI:=Lib.hid (of_decide_eq_false HQ1.out);cases q2
                · go_wp2;refine wp_region_noPanic ?_;refine wp_region_held_drew (S:=fun w'=>w'.cell? ⟨hb,0,none⟩=some (.pointer (some ⟨mb,0,none⟩))∧w'.cell? ⟨w.heap.size,0,none⟩=some (.int .i64 p0)∧w'.cell? ⟨w.heap.size,1,none⟩=some (.int .i64 p1)∧w'.cell? ⟨wd.heap.size,7,none⟩=some (.bool false)) (by kernel_rfl) (K8.out _ (Below.refl _ _).drew') (fun hHeld=>?_);refine rU 0 _ _ ?_;refine rU 1 _ _ ?_;refine rU 2 _ _ ?_;refine rU 3 _ _ ?_;refine rU 4 _ _ ?_;refine rU 5 _ _ ?_;refine rU 6 _ _ ?_;refine rU 7 _ _ ?_;refine rC 8 _ (fun K hK=>?_);go_simp;refine(HHO.out _ (Below.refl _ _).drew').mono ?_;rintro e w7 ⟨rfl,hb7⟩;have HB7:=Lib.hid ((Below.refl wr.heap.size wr).drew'.trans hb7);clear hb7;refine hK.out _ _ (K8.out _ HB7.out) (fun hHeld=>?_);clear hK K;try simp only[Act.put,sA,sZ,sS]
                  refine rU 9 _ _ ?_;refine rU 10 _ _ ?_;refine rU 11 _ _ ?_;refine rU 12 _ _ ?_;refine rU 13 _ _ ?_;refine rU 14 _ _ ?_;refine rU 15 _ _ ?_;refine rU 16 _ _ ?_;refine rU 17 _ _ ?_;refine rC 18 _ (fun K hK=>?_);go_simp;refine(HCO.out _ HB7.out).mono ?_;rintro e w8 ⟨rfl,hb8⟩;have HB8:=Lib.hid (HB7.out.trans (hb8.mono HB7.out.size));clear hb8;refine hK.out _ _ (K8.out _ HB8.out) (fun hHeld=>?_);clear hK K;try simp only[Act.put,sA,sZ,sS]
                  refine rU 19 _ _ ?_;refine wpAnyH_done (by kernel_rfl) ?_ _;refine NoPanic.normal ?_;go_wp2;go_roundw;case rel=>exact⟨1+1,vi,by omega,by go_num,by rw[show innerM P S (p0,p1) T (1+1) us=innerM P S (p0,p1) T 1 us from by rw[HSTEP.out,HQ2.out];simp];exact HHI.out.below HB8.out,HKI.out.trans (KeepH.of_below HB8.out),HBI.out.trans ((HB8.out).mono HBI.out.size)⟩
                  case measure=>simp[intOf]
                · go_wp2;refine wp_region_noPanic ?_;refine wp_region_held_drew (S:=fun w'=>w'.cell? ⟨hb,0,none⟩=some (.pointer (some ⟨mb,0,none⟩))∧w'.cell? ⟨w.heap.size,0,none⟩=some (.int .i64 p0)∧w'.cell? ⟨w.heap.size,1,none⟩=some (.int .i64 p1)∧w'.cell? ⟨wd.heap.size,7,none⟩=some (.bool false)) (by kernel_rfl) (K8.out _ (Below.refl _ _).drew') (fun hHeld=>?_);refine rU 0 _ _ ?_;refine rU 1 _ _ ?_;refine rU 2 _ _ ?_;refine rU 3 _ _ ?_;refine rU 4 _ _ ?_;refine rU 5 _ _ ?_;refine rU 6 _ _ ?_;refine rU 7 _ _ ?_;refine rC 8 _ (fun K hK=>?_);go_simp;refine(HHO.out _ (Below.refl _ _).drew').mono ?_;rintro e w7 ⟨rfl,hb7⟩;have HB7:=Lib.hid ((Below.refl wr.heap.size wr).drew'.trans hb7);clear hb7;refine hK.out _ _ (K8.out _ HB7.out) (fun hHeld=>?_);clear hK K;try simp only[Act.put,sA,sZ,sS]
                  refine rU 9 _ _ ?_;refine rU 10 _ _ ?_;refine rU 11 _ _ ?_;refine rU 12 _ _ ?_;refine rU 13 _ _ ?_;refine rU 14 _ _ ?_;refine rU 15 _ _ ?_;refine rU 16 _ _ ?_;refine rU 17 _ _ ?_;refine rC 18 _ (fun K hK=>?_);go_simp;refine(HCO.out _ HB7.out).mono ?_;rintro e w8 ⟨rfl,hb8⟩;have HB8:=Lib.hid (HB7.out.trans (hb8.mono HB7.out.size));clear hb8;refine hK.out _ _ (K8.out _ HB8.out) (fun hHeld=>?_);clear hK K;try simp only[Act.put,sA,sZ,sS]
                  refine rU 19 _ _ ?_;refine wpAnyH_done (by kernel_rfl) ?_ _;refine NoPanic.normal ?_;go_wp2_with fail;refine(cvTake_any u U w8 H.out (HBI.out.trans (HB8.out.mono HBI.out.size)) (HHI.out.below HB8.out) HU.out (by have:=(HI.out.inner P (p0,p1) (HN.out t T HT.out) 1 (by omega)).le;have:=HMX.out;omega)).mono ?_;rintro e w9 ⟨rfl,⟨v9,hh9,hk9⟩,hb9⟩;have HH9:=Lib.hid hh9;have HK9:=Lib.hid (HKI.out.trans ((KeepH.of_below HB8.out).trans hk9));have HB9:=Lib.hid hb9;clear hh9 hk9 hb9;go_wp2;go_roundw;case rel=>exact⟨1+1,v9,by omega,by go_num,by rw[show innerM P S (p0,p1) T (1+1) us=takeM P U (u:Int) (innerM P S (p0,p1) T 1 us) from by rw[HSTEP.out,HQ2.out,if_pos (by refine⟨?_,HNI.out,?_⟩<;>trivial)]];exact HH9.out,HK9.out,HB9.out⟩
                  case measure=>simp[intOf]
              · have HYI:=Lib.hid (of_decide_eq_true HQ1.out);go_wp2;refine wp_region_noPanic ?_;refine wp_region_held_drew (S:=fun w'=>w'.cell? ⟨hb,0,none⟩=some (.pointer (some ⟨mb,0,none⟩))∧w'.cell? ⟨w.heap.size,0,none⟩=some (.int .i64 p0)∧w'.cell? ⟨w.heap.size,1,none⟩=some (.int .i64 p1)∧w'.cell? ⟨wd.heap.size,7,none⟩=some (.bool false)) (by kernel_rfl) (K8.out _ (Below.refl _ _).drew') (fun hHeld=>?_);refine rU 0 _ _ ?_;refine rU 1 _ _ ?_;refine rU 2 _ _ ?_;refine rU 3 _ _ ?_;refine rU 4 _ _ ?_;refine rU 5 _ _ ?_;refine rU 6 _ _ ?_;refine rU 7 _ _ ?_;refine rC 8 _ (fun K hK=>?_);go_simp;refine(HHO.out _ (Below.refl _ _).drew').mono ?_;rintro e w7 ⟨rfl,hb7⟩;have HB7:=Lib.hid ((Below.refl wr.heap.size wr).drew'.trans hb7);clear hb7;refine hK.out _ _ (K8.out _ HB7.out) (fun hHeld=>?_);clear hK K;try simp only[Act.put,sA,sZ,sS]
                refine rU 9 _ _ ?_;refine rU 10 _ _ ?_;refine rU 11 _ _ ?_;refine rS 12 ?_ ?_ ?_ ?_;rotate_left 1;·simp only[gA,gS,gZ];exact rfl
                ·rfl
                try simp only[Act.put,sA,sZ,sS]
                refine rS 13 ?_ ?_ ?_ ?_;rotate_left 1;·simp only[gA,gS,gZ];exact rfl
                ·rfl
                try simp only[Act.put,sA,sZ,sS]
                refine rS 14 ?_ ?_ ?_ ?_;rotate_left 1;·simp only[gA,gS,gZ];exact rfl
                ·rfl
                try simp only[Act.put,sA,sZ,sS]
                refine rS 15 ?_ ?_ ?_ ?_;rotate_left 1;·simp only[gA,gS,gZ];exact rfl
                ·rfl
                try simp only[Act.put,sA,sZ,sS]
                refine rS 16 ?_ ?_ ?_ ?_;rotate_left 1;·simp only[gA,gS,gZ];exact rfl
                ·rfl
                try simp only[Act.put,sA,sZ,sS]
                refine rS 17 ?_ ?_ ?_ ?_;rotate_left 1;·simp only[gA,gS,gZ];exact rfl
                ·rfl
                try simp only[Act.put,sA,sZ,sS]
                refine rS 18 ?_ ?_ ?_ ?_;rotate_left 1;·simp only[gA,gS,gZ];exact rfl
                ·rfl
                try simp only[Act.put,sA,sZ,sS]
                refine rU 19 _ _ ?_;refine wpAnyH_done (by kernel_rfl) ?_ _;refine NoPanic.normal ?_;go_wp2;go_roundw;case rel=>exact⟨1+1,vi,by omega,by go_num,by rw[show innerM P S (p0,p1) T (1+1) us=innerM P S (p0,p1) T 1 us from by rw[HSTEP.out,if_neg (fun h=>h.2.1 HYI.out)]];exact HHI.out.below HB7.out,HKI.out.trans (KeepH.of_below HB7.out),HBI.out.trans ((HB7.out).mono HBI.out.size)⟩
                case measure=>simp[intOf]
            · go_wp2;refine wp_region_noPanic ?_;refine wp_region_held_drew (S:=fun w'=>w'.cell? ⟨hb,0,none⟩=some (.pointer (some ⟨mb,0,none⟩))∧w'.cell? ⟨w.heap.size,0,none⟩=some (.int .i64 p0)∧w'.cell? ⟨w.heap.size,1,none⟩=some (.int .i64 p1)∧w'.cell? ⟨wd.heap.size,7,none⟩=some (.bool true)) (by kernel_rfl) (K8.out _ (Below.refl _ _).drew') (fun hHeld=>?_);refine rU 0 _ _ ?_;refine rU 1 _ _ ?_;refine rU 2 _ _ ?_;refine rU 3 _ _ ?_;refine rU 4 _ _ ?_;refine rU 5 _ _ ?_;refine rS 6 ?_ ?_ ?_ ?_;rotate_left 1;·simp only[gA,gS,gZ];exact rfl
              ·rfl
              try simp only[Act.put,sA,sZ,sS]
              refine rS 7 ?_ ?_ ?_ ?_;rotate_left 1;·simp only[gA,gS,gZ];exact rfl
              ·rfl
              try simp only[Act.put,sA,sZ,sS]
              refine rS 8 ?_ ?_ ?_ ?_;rotate_left 1;·simp only[gA,gS,gZ];exact rfl
              ·rfl
              try simp only[Act.put,sA,sZ,sS]
              refine rS 9 ?_ ?_ ?_ ?_;rotate_left 1;·simp only[gA,gS,gZ];exact rfl
              ·rfl
              try simp only[Act.put,sA,sZ,sS]
              refine rU 10 _ _ ?_;refine rU 11 _ _ ?_;refine rS 12 ?_ ?_ ?_ ?_;rotate_left 1;·simp only[gA,gS,gZ];exact rfl
              ·rfl
              try simp only[Act.put,sA,sZ,sS]
              refine rS 13 ?_ ?_ ?_ ?_;rotate_left 1;·simp only[gA,gS,gZ];exact rfl
              ·rfl
              try simp only[Act.put,sA,sZ,sS]
              refine rS 14 ?_ ?_ ?_ ?_;rotate_left 1;·simp only[gA,gS,gZ];exact rfl
              ·rfl
              try simp only[Act.put,sA,sZ,sS]
              refine rS 15 ?_ ?_ ?_ ?_;rotate_left 1;·simp only[gA,gS,gZ];exact rfl
              ·rfl
              try simp only[Act.put,sA,sZ,sS]
              refine rS 16 ?_ ?_ ?_ ?_;rotate_left 1;·simp only[gA,gS,gZ];exact rfl
              ·rfl
              try simp only[Act.put,sA,sZ,sS]
              refine rS 17 ?_ ?_ ?_ ?_;rotate_left 1;·simp only[gA,gS,gZ];exact rfl
              ·rfl
              try simp only[Act.put,sA,sZ,sS]
              refine rS 18 ?_ ?_ ?_ ?_;rotate_left 1;·simp only[gA,gS,gZ];exact rfl
              ·rfl
              try simp only[Act.put,sA,sZ,sS]
              refine rU 19 _ _ ?_;refine wpAnyH_done (by kernel_rfl) ?_ _;refine NoPanic.normal ?_;go_wp2;go_roundw;case rel=>exact⟨1+1,vi,by omega,by go_num,by rw[show innerM P S (p0,p1) T (1+1) us=innerM P S (p0,p1) T 1 us from by rw[HSTEP.out,if_neg (fun h=>by cases h.1)]];exact HHI.out.below (Below.refl wr.heap.size wr).drew',HKI.out.trans (KeepH.of_below (Below.refl wr.heap.size wr).drew'),HBI.out.trans (((Below.refl wr.heap.size wr).drew').mono HBI.out.size)⟩
              case measure=>simp[intOf]
          · obtain⟨u,hu,hul⟩:=HN.out t T HT.out 2 (by omega);obtain⟨U,hU⟩:∃U,S[u]?=some U:=⟨_,List.getElem?_eq_getElem hul⟩;rw[HTT.out] at hu;obtain rfl:n2=(u:Int):=hu;have hnu:T.n 2=(u:Int):=by rw[HTT.out];rfl
            have hfi:T.f 2=f2:=by rw[HTT.out];rfl
            have hct:confT P S (p0,p1) (u:Int)=conflictM P U (p0,p1):=by unfold confT;rw[Int.toNat_natCast,hU]
            have htk:takeS P S (u:Int) (innerM P S (p0,p1) T 2 us)=takeM P U (u:Int) (innerM P S (p0,p1) T 2 us):=by unfold takeS;rw[Int.toNat_natCast,hU]
            have hur:-1000000≤(u:Int)∧(u:Int)≤1000000:=by have:=HMX.out;omega
            have HSTEP:=Lib.hid (show innerM P S (p0,p1) T (2+1) us=if f2=false∧(u:Int)∉innerM P S (p0,p1) T 2 us∧conflictM P U (p0,p1)=true then takeM P U (u:Int) (innerM P S (p0,p1) T 2 us) else innerM P S (p0,p1) T 2 us by show stepM P S (p0,p1) T 2 (innerM P S (p0,p1) T 2 us)=_;unfold stepM;rw[hnu,hfi,hct,htk]);have HU:=Lib.hid hU;obtain⟨q1,hq1⟩:∃q,decide ((u:Int)∈innerM P S (p0,p1) T 2 us)=q:=⟨_,rfl⟩;obtain⟨q2,hq2⟩:∃q,conflictM P U (p0,p1)=q:=⟨_,rfl⟩;have HHO:=Lib.hid (show∀W:World,Below wr.heap.size wr W→Calls Tryz.prog 140 #[.pointer (some ⟨hb,0,none⟩),.int .i64 (u:Int)] W fun e w'=>e= .returned (.bool q1)∧Below W.heap.size W w' from fun W hW=>by have:=cvHolds_any hb b _ (u:Int) W (HHI.out.below hW).box.c2 (HHI.out.below hW).map hur;rw[hq1] at this;exact this);have HCO:=Lib.hid (show∀W:World,Below wr.heap.size wr W→Calls Tryz.prog 15 #[.pointer (some ⟨mb,0,none⟩),.int .i64 (u:Int),.agg #[.int .i64 p0,.int .i64 p1]] W fun e w'=>e= .returned (.bool q2)∧Below W.heap.size W w' from fun W hW=>by have:=cvConflict_any u U p0 p1 W (H.out.below (HBI.out.trans (hW.mono HBI.out.size))) HP.out HPP.out HU.out;rw[hq2] at this;exact this);have HQ1:=Lib.hid hq1;have HQ2:=Lib.hid hq2;have K8:=Lib.hid (show∀w':World,Below wr.heap.size wr w'→w'.cell? ⟨hb,0,none⟩=some (.pointer (some ⟨mb,0,none⟩))∧w'.cell? ⟨w.heap.size,0,none⟩=some (.int .i64 p0)∧w'.cell? ⟨w.heap.size,1,none⟩=some (.int .i64 p1)∧w'.cell? ⟨wd.heap.size,8,none⟩=some (.bool f2) from fun w' hw=>⟨(HHI.out.below hw).box.c0,(PPI.out.below hw).c 0 _ rfl,(PPI.out.below hw).c 1 _ rfl,(PTI.out.below hw).c 8 _ rfl⟩);have ir:∀w:World,(Instr.index 39 (.agg #[.int .i64 n0,.int .i64 n1,.int .i64 (u:Int)]) (.int .i64 2)).run Tryz.prog w= .ok (.int .i64 (u:Int)) w:=fun w=>index3v_run ⟨n0,n1,(u:Int),0,0,0,false,false,false⟩ 2 (by omega) w;clear hul hU hnu hfi hct htk hur hq1 hq2;cases f2
            · cases q1
              · have HNI:=Lib.hid (of_decide_eq_false HQ1.out);cases q2
                · go_wp2;refine wp_region_noPanic ?_;refine wp_region_held_drew (S:=fun w'=>w'.cell? ⟨hb,0,none⟩=some (.pointer (some ⟨mb,0,none⟩))∧w'.cell? ⟨w.heap.size,0,none⟩=some (.int .i64 p0)∧w'.cell? ⟨w.heap.size,1,none⟩=some (.int .i64 p1)∧w'.cell? ⟨wd.heap.size,8,none⟩=some (.bool false)) (by kernel_rfl) (K8.out _ (Below.refl _ _).drew') (fun hHeld=>?_);refine rU 0 _ _ ?_;refine rU 1 _ _ ?_;refine rU 2 _ _ ?_;refine rU 3 _ _ ?_;refine rU 4 _ _ ?_;refine rU 5 _ _ ?_;refine rU 6 _ _ ?_;refine rU 7 _ _ ?_;refine rC 8 _ (fun K hK=>?_);go_simp;refine(HHO.out _ (Below.refl _ _).drew').mono ?_;rintro e w7 ⟨rfl,hb7⟩;have HB7:=Lib.hid ((Below.refl wr.heap.size wr).drew'.trans hb7);clear hb7;refine hK.out _ _ (K8.out _ HB7.out) (fun hHeld=>?_);clear hK K;try simp only[Act.put,sA,sZ,sS]
                  refine rU 9 _ _ ?_;refine rU 10 _ _ ?_;refine rU 11 _ _ ?_;refine rU 12 _ _ ?_;refine rU 13 _ _ ?_;refine rU 14 _ _ ?_;refine rU 15 _ _ ?_;refine rU 16 _ _ ?_;refine rU 17 _ _ ?_;refine rC 18 _ (fun K hK=>?_);go_simp;refine(HCO.out _ HB7.out).mono ?_;rintro e w8 ⟨rfl,hb8⟩;have HB8:=Lib.hid (HB7.out.trans (hb8.mono HB7.out.size));clear hb8;refine hK.out _ _ (K8.out _ HB8.out) (fun hHeld=>?_);clear hK K;try simp only[Act.put,sA,sZ,sS]
                  refine rU 19 _ _ ?_;refine wpAnyH_done (by kernel_rfl) ?_ _;refine NoPanic.normal ?_;go_wp2;go_roundw;case rel=>exact⟨2+1,vi,by omega,by go_num,by rw[show innerM P S (p0,p1) T (2+1) us=innerM P S (p0,p1) T 2 us from by rw[HSTEP.out,HQ2.out];simp];exact HHI.out.below HB8.out,HKI.out.trans (KeepH.of_below HB8.out),HBI.out.trans ((HB8.out).mono HBI.out.size)⟩
                  case measure=>simp[intOf]
                · go_wp2;refine wp_region_noPanic ?_;refine wp_region_held_drew (S:=fun w'=>w'.cell? ⟨hb,0,none⟩=some (.pointer (some ⟨mb,0,none⟩))∧w'.cell? ⟨w.heap.size,0,none⟩=some (.int .i64 p0)∧w'.cell? ⟨w.heap.size,1,none⟩=some (.int .i64 p1)∧w'.cell? ⟨wd.heap.size,8,none⟩=some (.bool false)) (by kernel_rfl) (K8.out _ (Below.refl _ _).drew') (fun hHeld=>?_);refine rU 0 _ _ ?_;refine rU 1 _ _ ?_;refine rU 2 _ _ ?_;refine rU 3 _ _ ?_;refine rU 4 _ _ ?_;refine rU 5 _ _ ?_;refine rU 6 _ _ ?_;refine rU 7 _ _ ?_;refine rC 8 _ (fun K hK=>?_);go_simp;refine(HHO.out _ (Below.refl _ _).drew').mono ?_;rintro e w7 ⟨rfl,hb7⟩;have HB7:=Lib.hid ((Below.refl wr.heap.size wr).drew'.trans hb7);clear hb7;refine hK.out _ _ (K8.out _ HB7.out) (fun hHeld=>?_);clear hK K;try simp only[Act.put,sA,sZ,sS]
                  refine rU 9 _ _ ?_;refine rU 10 _ _ ?_;refine rU 11 _ _ ?_;refine rU 12 _ _ ?_;refine rU 13 _ _ ?_;refine rU 14 _ _ ?_;refine rU 15 _ _ ?_;refine rU 16 _ _ ?_;refine rU 17 _ _ ?_;refine rC 18 _ (fun K hK=>?_);go_simp;refine(HCO.out _ HB7.out).mono ?_;rintro e w8 ⟨rfl,hb8⟩;have HB8:=Lib.hid (HB7.out.trans (hb8.mono HB7.out.size));clear hb8;refine hK.out _ _ (K8.out _ HB8.out) (fun hHeld=>?_);clear hK K;try simp only[Act.put,sA,sZ,sS]
                  refine rU 19 _ _ ?_;refine wpAnyH_done (by kernel_rfl) ?_ _;refine NoPanic.normal ?_;go_wp2_with fail;refine(cvTake_any u U w8 H.out (HBI.out.trans (HB8.out.mono HBI.out.size)) (HHI.out.below HB8.out) HU.out (by have:=(HI.out.inner P (p0,p1) (HN.out t T HT.out) 2 (by omega)).le;have:=HMX.out;omega)).mono ?_;rintro e w9 ⟨rfl,⟨v9,hh9,hk9⟩,hb9⟩;have HH9:=Lib.hid hh9;have HK9:=Lib.hid (HKI.out.trans ((KeepH.of_below HB8.out).trans hk9));have HB9:=Lib.hid hb9;clear hh9 hk9 hb9;go_wp2;go_roundw;case rel=>exact⟨2+1,v9,by omega,by go_num,by rw[show innerM P S (p0,p1) T (2+1) us=takeM P U (u:Int) (innerM P S (p0,p1) T 2 us) from by rw[HSTEP.out,HQ2.out,if_pos (by refine⟨?_,HNI.out,?_⟩<;>trivial)]];exact HH9.out,HK9.out,HB9.out⟩
                  case measure=>simp[intOf]
              · have HYI:=Lib.hid (of_decide_eq_true HQ1.out);go_wp2;refine wp_region_noPanic ?_;refine wp_region_held_drew (S:=fun w'=>w'.cell? ⟨hb,0,none⟩=some (.pointer (some ⟨mb,0,none⟩))∧w'.cell? ⟨w.heap.size,0,none⟩=some (.int .i64 p0)∧w'.cell? ⟨w.heap.size,1,none⟩=some (.int .i64 p1)∧w'.cell? ⟨wd.heap.size,8,none⟩=some (.bool false)) (by kernel_rfl) (K8.out _ (Below.refl _ _).drew') (fun hHeld=>?_);refine rU 0 _ _ ?_;refine rU 1 _ _ ?_;refine rU 2 _ _ ?_;refine rU 3 _ _ ?_;refine rU 4 _ _ ?_;refine rU 5 _ _ ?_;refine rU 6 _ _ ?_;refine rU 7 _ _ ?_;refine rC 8 _ (fun K hK=>?_);go_simp;refine(HHO.out _ (Below.refl _ _).drew').mono ?_;rintro e w7 ⟨rfl,hb7⟩;have HB7:=Lib.hid ((Below.refl wr.heap.size wr).drew'.trans hb7);clear hb7;refine hK.out _ _ (K8.out _ HB7.out) (fun hHeld=>?_);clear hK K;try simp only[Act.put,sA,sZ,sS]
                refine rU 9 _ _ ?_;refine rU 10 _ _ ?_;refine rU 11 _ _ ?_;refine rS 12 ?_ ?_ ?_ ?_;rotate_left 1;·simp only[gA,gS,gZ];exact rfl
                ·rfl
                try simp only[Act.put,sA,sZ,sS]
                refine rS 13 ?_ ?_ ?_ ?_;rotate_left 1;·simp only[gA,gS,gZ];exact rfl
                ·rfl
                try simp only[Act.put,sA,sZ,sS]
                refine rS 14 ?_ ?_ ?_ ?_;rotate_left 1;·simp only[gA,gS,gZ];exact rfl
                ·rfl
                try simp only[Act.put,sA,sZ,sS]
                refine rS 15 ?_ ?_ ?_ ?_;rotate_left 1;·simp only[gA,gS,gZ];exact rfl
                ·rfl
                try simp only[Act.put,sA,sZ,sS]
                refine rS 16 ?_ ?_ ?_ ?_;rotate_left 1;·simp only[gA,gS,gZ];exact rfl
                ·rfl
                try simp only[Act.put,sA,sZ,sS]
                refine rS 17 ?_ ?_ ?_ ?_;rotate_left 1;·simp only[gA,gS,gZ];exact rfl
                ·rfl
                try simp only[Act.put,sA,sZ,sS]
                refine rS 18 ?_ ?_ ?_ ?_;rotate_left 1;·simp only[gA,gS,gZ];exact rfl
                ·rfl
                try simp only[Act.put,sA,sZ,sS]
                refine rU 19 _ _ ?_;refine wpAnyH_done (by kernel_rfl) ?_ _;refine NoPanic.normal ?_;go_wp2;go_roundw;case rel=>exact⟨2+1,vi,by omega,by go_num,by rw[show innerM P S (p0,p1) T (2+1) us=innerM P S (p0,p1) T 2 us from by rw[HSTEP.out,if_neg (fun h=>h.2.1 HYI.out)]];exact HHI.out.below HB7.out,HKI.out.trans (KeepH.of_below HB7.out),HBI.out.trans ((HB7.out).mono HBI.out.size)⟩
                case measure=>simp[intOf]
            · go_wp2;refine wp_region_noPanic ?_;refine wp_region_held_drew (S:=fun w'=>w'.cell? ⟨hb,0,none⟩=some (.pointer (some ⟨mb,0,none⟩))∧w'.cell? ⟨w.heap.size,0,none⟩=some (.int .i64 p0)∧w'.cell? ⟨w.heap.size,1,none⟩=some (.int .i64 p1)∧w'.cell? ⟨wd.heap.size,8,none⟩=some (.bool true)) (by kernel_rfl) (K8.out _ (Below.refl _ _).drew') (fun hHeld=>?_);refine rU 0 _ _ ?_;refine rU 1 _ _ ?_;refine rU 2 _ _ ?_;refine rU 3 _ _ ?_;refine rU 4 _ _ ?_;refine rU 5 _ _ ?_;refine rS 6 ?_ ?_ ?_ ?_;rotate_left 1;·simp only[gA,gS,gZ];exact rfl
              ·rfl
              try simp only[Act.put,sA,sZ,sS]
              refine rS 7 ?_ ?_ ?_ ?_;rotate_left 1;·simp only[gA,gS,gZ];exact rfl
              ·rfl
              try simp only[Act.put,sA,sZ,sS]
              refine rS 8 ?_ ?_ ?_ ?_;rotate_left 1;·simp only[gA,gS,gZ];exact rfl
              ·rfl
              try simp only[Act.put,sA,sZ,sS]
              refine rS 9 ?_ ?_ ?_ ?_;rotate_left 1;·simp only[gA,gS,gZ];exact rfl
              ·rfl
              try simp only[Act.put,sA,sZ,sS]
              refine rU 10 _ _ ?_;refine rU 11 _ _ ?_;refine rS 12 ?_ ?_ ?_ ?_;rotate_left 1;·simp only[gA,gS,gZ];exact rfl
              ·rfl
              try simp only[Act.put,sA,sZ,sS]
              refine rS 13 ?_ ?_ ?_ ?_;rotate_left 1;·simp only[gA,gS,gZ];exact rfl
              ·rfl
              try simp only[Act.put,sA,sZ,sS]
              refine rS 14 ?_ ?_ ?_ ?_;rotate_left 1;·simp only[gA,gS,gZ];exact rfl
              ·rfl
              try simp only[Act.put,sA,sZ,sS]
              refine rS 15 ?_ ?_ ?_ ?_;rotate_left 1;·simp only[gA,gS,gZ];exact rfl
              ·rfl
              try simp only[Act.put,sA,sZ,sS]
              refine rS 16 ?_ ?_ ?_ ?_;rotate_left 1;·simp only[gA,gS,gZ];exact rfl
              ·rfl
              try simp only[Act.put,sA,sZ,sS]
              refine rS 17 ?_ ?_ ?_ ?_;rotate_left 1;·simp only[gA,gS,gZ];exact rfl
              ·rfl
              try simp only[Act.put,sA,sZ,sS]
              refine rS 18 ?_ ?_ ?_ ?_;rotate_left 1;·simp only[gA,gS,gZ];exact rfl
              ·rfl
              try simp only[Act.put,sA,sZ,sS]
              refine rU 19 _ _ ?_;refine wpAnyH_done (by kernel_rfl) ?_ _;refine NoPanic.normal ?_;go_wp2;go_roundw;case rel=>exact⟨2+1,vi,by omega,by go_num,by rw[show innerM P S (p0,p1) T (2+1) us=innerM P S (p0,p1) T 2 us from by rw[HSTEP.out,if_neg (fun h=>by cases h.1)]];exact HHI.out.below (Below.refl wr.heap.size wr).drew',HKI.out.trans (KeepH.of_below (Below.refl wr.heap.size wr).drew'),HBI.out.trans (((Below.refl wr.heap.size wr).drew').mono HBI.out.size)⟩
              case measure=>simp[intOf]
        · obtain rfl:i=3:=by omega
          have hsp:=spreadM_on (fuel:=len-(n+1)) P S (p0,p1) HZ.out HT.out;have hin3:=HI.out.inner P (p0,p1) (HN.out t T HT.out) 3 (by omega);have hgr:=inner_grows P S (p0,p1) T us 3;rw[show len-(n+1)+1=len-n by(have:=HUL.out;omega),HRR.out] at hsp;have FIN:=Lib.hid (And.intro hsp.symm (And.intro hin3 (show n+1≤(innerM P S (p0,p1) T 3 us).length by have:=HUL.out;omega)));clear hsp hin3 hgr;go_wp2;have hul9:=HUL.out;exact⟨⟨n+1,_,vi,by go_num,FIN.out.2.2,HHI.out,FIN.out.2.1,FIN.out.1,(HK.out.trans (KeepH.of_below HB5.out)).trans HKI.out,HBI.out⟩,by simp[intOf];omega⟩
    · obtain rfl:n=ul:=by omega
      have FIN:=Lib.hid (And.intro hh hbw);have HRE:=Lib.hid (show us=R by rw[←hr,spreadM_end _ _ _ _ (by omega)]);have e1:decide ((n:Int)<(n:Int))=false:=decide_eq_false (by omega);clear hh hin hr hk hbw hul;go_wp2;go_end0;exact⟨rfl,⟨_,by rw[←HRE.out];exact FIN.out.1⟩,FIN.out.2⟩
end Go.Proofs.YtammmemfkpcpcaaGreat
namespace Go.Proofs.YtammmemfkpcpcaaGreat
open Go.RowKit Go.MagM
inductive Reach(S:List TriM)(conf:Int→Bool)(st:List Int):Int→Prop|base{t:Int}:t∈st→Reach S conf st t|step{t i:Nat}{T:TriM}:Reach S conf st (t:Int)→S[t]?=some T→i<3→T.f i=false→conf (T.n i)=true→Reach S conf st (T.n i)
def Closed(S:List TriM)(conf:Int→Bool)(us:List Int):Prop:=∀(t i:Nat)(T:TriM),(t:Int)∈us→S[t]?=some T→i<3→T.f i=false→conf (T.n i)=true→T.n i∈us
theorem Closed.reach{S:List TriM}{conf:Int→Bool}{st us:List Int}(h:Closed S conf us)(hs:∀t∈st,t∈us):∀{x},Reach S conf st x→x∈us:=by intro x hx;induction hx with|base ht=>exact hs _ ht|step _ hT hi hf hc ih=>exact h _ _ _ ih hT hi hf hc
def Cornered(P:List (Int×Int))(S:List TriM):Prop:=∀(t:Nat)(T:TriM),S[t]?=some T→0<(cors P T).length
section
variable{P:List (Int×Int)}{S:List TriM}{p:Int×Int}
theorem takeM_mem{U:TriM}{u:Int}{ts:List Int}(h:0<(cors P U).length):u∈takeM P U u ts:=by
  unfold takeM;by_cases hm:u∈ts;·rw[if_neg (fun k=>k.2 hm)];exact hm
  ·rw[if_pos ⟨h,hm⟩];simp
theorem takeM_pre(P:List (Int×Int))(U:TriM)(u:Int)(ts:List Int):∃k,takeM P U u ts=ts++k∧∀x∈k,x=u:=by
  unfold takeM;split;·exact⟨[u],rfl,by simp⟩
  ·exact⟨[],by simp,by simp⟩
theorem stepM_pre(P:List (Int×Int))(S:List TriM)(p:Int×Int)(T:TriM)(i:Nat)(ts:List Int):∃k,stepM P S p T i ts=ts++k∧∀x∈k,x=T.n i∧T.f i=false∧confT P S p (T.n i)=true:=by
  unfold stepM;split
  · rename_i hc;unfold takeS;split;· obtain⟨k,h1,h2⟩:=takeM_pre P _ (T.n i) ts;exact⟨k,h1,fun x hx=>⟨h2 x hx,hc.1,hc.2.2⟩⟩
    ·exact⟨[],by simp,by simp⟩
  ·exact⟨[],by simp,by simp⟩
theorem inner_pre(P:List (Int×Int))(S:List TriM)(p:Int×Int)(T:TriM)(ts:List Int):∀n,n≤3→∃k,innerM P S p T n ts=ts++k∧∀x∈k,∃i,i<3∧x=T.n i∧T.f i=false∧confT P S p (T.n i)=true
  |0,_=>⟨[],by simp[innerM],by simp⟩|n+1,hn=>by
    obtain⟨k,h1,h2⟩:=inner_pre P S p T ts n (by omega);obtain⟨k',h3,h4⟩:=stepM_pre P S p T n (innerM P S p T n ts);refine⟨k++k',by rw[innerM,h3,h1,List.append_assoc],fun x hx=>?_⟩;rcases List.mem_append.1 hx with hx|hx;·exact h2 x hx
    ·exact⟨n,by omega,h4 x hx⟩
theorem step_has(hN:Nexts S)(hC:Cornered P S){t:Nat}{T:TriM}(hT:S[t]?=some T){i:Nat}(hi:i<3)(hf:T.f i=false)(hc:confT P S p (T.n i)=true)(ts:List Int):T.n i∈stepM P S p T i ts:=by
  by_cases hm:T.n i∈ts
  · obtain⟨k,h1,-⟩:=stepM_pre P S p T i ts;rw[h1];exact List.mem_append_left _ hm
  · obtain⟨u,hu,hul⟩:=hN t T hT i hi;unfold stepM;rw[if_pos ⟨hf,hm,hc⟩];unfold takeS;rw[hu,Int.toNat_natCast,List.getElem?_eq_getElem hul];exact takeM_mem (hC u _ (List.getElem?_eq_getElem hul))
theorem inner_has(hN:Nexts S)(hC:Cornered P S){t:Nat}{T:TriM}(hT:S[t]?=some T)(ts:List Int){i:Nat}(hf:T.f i=false)(hc:confT P S p (T.n i)=true):∀n,n≤3→i<n→T.n i∈innerM P S p T n ts
  |0,_,h=>by omega|n+1,hn,h=>by
    rw[innerM];rcases Nat.lt_or_ge i n with g|g;· obtain⟨k,h1,-⟩:=stepM_pre P S p T n (innerM P S p T n ts);rw[h1];exact List.mem_append_left _ (inner_has hN hC hT ts hf hc n (by omega) g)
    · obtain rfl:i=n:=by omega
      exact step_has hN hC hT (by omega) hf hc _
def ClosedN(P:List (Int×Int))(S:List TriM)(p:Int×Int)(us:List Int)(n:Nat):Prop:=∀j,j<n→∀(t i:Nat)(T:TriM),us[j]?=some (t:Int)→S[t]?=some T→i<3→T.f i=false→confT P S p (T.n i)=true→T.n i∈us
theorem spread_is(hN:Nexts S)(hC:Cornered P S){st:List Int}:∀(fuel n:Nat)(us:List Int),InS S us→n≤us.length→S.length≤fuel+n→ClosedN P S p us n→(∀x∈us,Reach S (confT P S p) st x)→(∀x∈st,x∈us)→InS S (spreadM P S p fuel n us)∧Closed S (confT P S p) (spreadM P S p fuel n us)∧(∀x∈spreadM P S p fuel n us,Reach S (confT P S p) st x)∧(∀x∈st,x∈spreadM P S p fuel n us)
  |0,n,us,hI,hn,hf,hcl,hr,hs=>by
    rw[spreadM];refine⟨hI,fun t i T ht hT hi h1 h2=>?_,hr,hs⟩;obtain⟨j,hj⟩:=List.mem_iff_getElem?.1 ht;have:=hI.le;have:=(List.getElem?_eq_some_iff.1 hj).1;exact hcl j (by omega) t i T hj hT hi h1 h2|fuel+1,n,us,hI,hn,hf,hcl,hr,hs=>by cases hz:us[n]? with
    |none=>
      have hl:us.length≤n:=List.getElem?_eq_none_iff.1 hz;rw[spreadM_end P S p _ hl];refine⟨hI,fun t i T ht hT hi h1 h2=>?_,hr,hs⟩;obtain⟨j,hj⟩:=List.mem_iff_getElem?.1 ht;have:=(List.getElem?_eq_some_iff.1 hj).1;exact hcl j (by omega) t i T hj hT hi h1 h2|some z=>
      obtain⟨t,rfl,htl⟩:=hI.is z (List.mem_of_getElem? hz);obtain⟨T,hT⟩:∃T,S[t]?=some T:=⟨_,List.getElem?_eq_getElem htl⟩;rw[spreadM_on P S p hz hT];have hI':=hI.inner P p (hN t T hT) 3 (by omega);obtain⟨k,hk,hk2⟩:=inner_pre P S p T us 3 (by omega);have hnl:=(List.getElem?_eq_some_iff.1 hz).1;refine spread_is hN hC fuel (n+1) _ hI' (by rw[hk,List.length_append];omega) (by omega) ?_ ?_ ?_
      · intro j hj t' i T' hj' hT' hi h1 h2;rcases Nat.lt_or_ge j n with g|g
        · rw[hk,List.getElem?_append_left (by omega)] at hj';rw[hk];exact List.mem_append_left _ (hcl j g t' i T' hj' hT' hi h1 h2)
        · obtain rfl:j=n:=by omega
          rw[hk,List.getElem?_append_left hnl,hz] at hj';have e0:(t:Int)=(t':Int):=by simpa using hj'
          have e:t=t':=by omega
          subst e;rw[hT] at hT';cases hT';exact inner_has hN hC hT us h1 h2 3 (by omega) hi
      · intro x hx;rw[hk] at hx;rcases List.mem_append.1 hx with hx|hx;·exact hr x hx
        · obtain⟨i,hi,rfl,h1,h2⟩:=hk2 x hx;exact .step (hr _ (List.mem_of_getElem? hz)) hT hi h1 h2
      · intro x hx;rw[hk];exact List.mem_append_left _ (hs x hx)
theorem spread_reach(hN:Nexts S)(hC:Cornered P S){st:List Int}(hI:InS S st):InS S (spreadM P S p S.length 0 st)∧∀x,x∈spreadM P S p S.length 0 st↔Reach S (confT P S p) st x:=by obtain⟨h1,h2,h3,h4⟩:=spread_is (p:=p) (st:=st) hN hC S.length 0 st hI (Nat.zero_le _) (by omega) (fun j hj=>by omega) (fun x hx=> .base hx) (fun x hx=>hx);exact⟨h1,fun x=>⟨h3 x,fun hx=>h2.reach h4 hx⟩⟩
end
end Go.Proofs.YtammmemfkpcpcaaGreat
namespace Go.MagM
open Go.RowKit
theorem RowN.base{w:World}{lo lo':Nat}{e:TypeId}{size n:Nat}{v:Value}{xs:List Value}(h:RowN w lo e size v n xs)(hl:lo'≤lo):RowN w lo' e size v n xs:=by
  refine⟨h.1,?_⟩;rcases h.2 with h1|⟨g1,cap1,cur1,h1,h2,h3⟩;·exact .inl h1
  ·exact .inr ⟨g1,cap1,cur1,h1,by omega,h3⟩
theorem RowN.setAllFar{base:Nat}{e:TypeId}{size:Nat}{v:Value}{n:Nat}{xs:List Value}{g':Nat}(hne:∀k,v.ownBlock=some k→k≠g'):∀(ys:List Value)(i:Nat){w:World},RowN w base e size v n xs→RowN (Go.MagM.setAll w g' i ys) base e size v n xs|[],_,_,h=>h|y::ys,i,w,h=>RowN.setAllFar hne ys (i+1) (h.block fun k hk _=>Below.heap_setCell w ⟨g',i,none⟩ y k (by simpa using hne k hk))
end Go.MagM
namespace Go.Proofs.YtammmemfkpcpcaaGreat
open Go.RowKit Go.MagM Go.Maps
theorem rimP_u{S:List TriM}{ts:List Int}(hI:InS S ts):∀n,∀s∈rimP S ts n,∃(t i:Nat) (T:TriM),(t:Int)∈ts∧S[t]?=some T∧i<3∧T.n i∉ts∧s=sideS S T i
  |0,s,hs=>by cases hs|n+1,s,hs=>by
    rw[rimP] at hs;rcases List.mem_append.1 hs with hs|hs;·exact rimP_u hI n s hs
    ·cases hz:ts[n]? with|none=>rw[hz] at hs;cases hs|some z=>
        rw[hz] at hs;simp only[] at hs;unfold rimT at hs;split at hs
        · rename_i T hT;have hi:∀k,k≤3→∀s∈rimI S ts T k,∃i,i<3∧T.n i∉ts∧s=sideS S T i:=by intro k;induction k with|zero=>intro _ s hs;cases hs|succ k ih=>
              intro hk s hs;rw[rimI] at hs;rcases List.mem_append.1 hs with hs|hs;·exact ih (by omega) s hs
              · split at hs;·cases hs
                · rename_i hno;simp only[List.mem_singleton] at hs;exact⟨k,by omega,hno,hs⟩
          obtain⟨i,h1,h2,h3⟩:=hi 3 (Nat.le_refl _) s hs;obtain⟨u,rfl,-⟩:=hI.is z (List.mem_of_getElem? hz);rw[Int.toNat_natCast] at hT;exact⟨u,i,T,List.mem_of_getElem? hz,hT,h1,h2,h3⟩
        ·cases hs
theorem inRow_sub{l:List SideM}:∀s∈inRowM l,s∈l:=by
  have h:∀n a,∀s∈chainN (fun a=>lookN l a l.length) n a,s∈l:=by
    intro n;induction n with
    |zero=>intro a s hs;cases hs|succ n ih=>intro a s hs;rw[chainN] at hs;cases hL:lookN l a l.length with|none=>rw[hL] at hs;cases hs|some x=>
        rw[hL] at hs;simp only[] at hs;rcases List.mem_cons.1 hs with rfl|hs;·exact(lookN_mem hL).1
        ·exact ih _ s hs
  exact h _ _
theorem inRow_le(l:List SideM):(inRowM l).length≤l.length:=chainN_le _ _ _
set_option maxRecDepth 100000 in set_option maxHeartbeats 8000000 in theorem cvDig_any{mb pb pc:Nat}{ta:Option Addr}{tc:Nat}{P:List (Int×Int)}{S:List TriM}(st:List Int)(kd at_ a b p0 p1:Int)(w:World)(h:MeshR w mb pb pc ta tc P S)(hP:InPs P)(hp:InP p0∧InP p1)(hN:Nexts S)(hC:Cornered P S)(hmx:S.length<300000)(hsm:SmallV S)(hI:InS S st)(hne:st≠[])(hbeg:∀W:World,Below w.heap.size w W→Calls Tryz.prog 101 #[.pointer (some ⟨mb,0,none⟩),.agg #[.int .i64 kd,.int .i64 at_,.int .i64 a,.int .i64 b]] W fun e w'=>∃(hb m:Nat) (v:Value),e= .returned (.pointer (some ⟨hb,0,none⟩))∧HoleR w' W.heap.size hb mb m v st∧Below W.heap.size W w'):Calls Tryz.prog 44 #[.pointer (some ⟨mb,0,none⟩),.agg #[.int .i64 p0,.int .i64 p1],.agg #[.int .i64 kd,.int .i64 at_,.int .i64 a,.int .i64 b]] w fun e w'=>∃(g c:Nat) (rv:Value) (ts:List Int),e= .returned (.agg #[.slice (some ⟨g,0,none⟩) ts.length c,rv,.bool ((inRowM (rimP S ts ts.length)).any (cutQ2 P S (p0,p1)))])∧InS S ts∧(∀x,x∈ts↔Reach S (confT P S (p0,p1)) st x)∧RowN w' w.heap.size 3 1 (.slice (some ⟨g,0,none⟩) ts.length c) ts.length (intCells (sortL ts))∧RowN w' w.heap.size 161 5 rv (inRowM (rimP S ts ts.length)).length (sideCells (inRowM (rimP S ts ts.length)))∧Below w.heap.size w w':=by
  obtain⟨hIT,hTR⟩:=spread_reach (p:=(p0,p1)) hN hC hI;obtain⟨ts,hts⟩:∃ts,spreadM P S (p0,p1) S.length 0 st=ts:=⟨_,rfl⟩;rw[hts] at hIT hTR;have htne:0<ts.length:=by cases st with
    |nil=>exact absurd rfl hne|cons x r=>exact List.length_pos_of_mem ((hTR x).2 (.base (by simp)))
  have htl:=hIT.le;have hrl:(inRowM (rimP S ts ts.length)).length≤1000000:=by have:=inRow_le (rimP S ts ts.length);have:=rimP_le S ts ts.length;omega
  have hru:∀s∈inRowM (rimP S ts ts.length),∃u:Nat,s.u=(u:Int)∧u<S.length:=fun s hs=>by obtain⟨t,i,T,-,hT,hi,-,rfl⟩:=rimP_u hIT _ s (inRow_sub s hs);exact hN t T hT i hi
  obtain⟨R,hR⟩:∃R,inRowM (rimP S ts ts.length)=R:=⟨_,rfl⟩;obtain⟨w1,hw1,pm,hb1,hs1⟩:=new_box w _ rfl [.pointer (some ⟨mb,0,none⟩)] 26;obtain⟨w2,hw2,pp,hb2,hs2⟩:=new_box w1 _ rfl [.int .i64 p0,.int .i64 p1] 24;obtain⟨w3,hw3,pl,hb3,hs3⟩:=new_box w2 _ rfl [.int .i64 kd,.int .i64 at_,.int .i64 a,.int .i64 b] 83;obtain⟨w4,hw4,pr,hb4,hs4⟩:=new_box w3 _ rfl [.slice none 0 0,.slice none 0 0,.bool false] 99;have hb12:Below w.heap.size w w2:=hb1.trans (hb2.mono (by omega));have hb13:Below w.heap.size w w3:=hb12.trans (hb3.mono (by omega));have hb14:Below w.heap.size w w4:=hb13.trans (hb4.mono (by omega));have PM:=Lib.hid (((pm.below hb2).below hb3).below hb4);have PP:=Lib.hid ((pp.below hb3).below hb4);have PL:=Lib.hid (pl.below hb4);have PR:=Lib.hid pr;have HB4:=Lib.hid hb14;have HW4:=Lib.hid hs4;have HW3:=Lib.hid hb13.size;have H4:=Lib.hid (h.below hb14);have HP:=Lib.hid hP;have HPP:=Lib.hid hp;have HN:=Lib.hid hN;have HC:=Lib.hid hC;have HMX:=Lib.hid hmx;have HSM:=Lib.hid hsm;have HI:=Lib.hid hI;have HIT:=Lib.hid hIT;have HTR:=Lib.hid hTR;have HTNE:=Lib.hid htne;have HTL:=Lib.hid htl;have HRL:=Lib.hid hrl;have HRU:=Lib.hid hru;have HR:=Lib.hid hR;have HTS:=Lib.hid hts;have HBEG:=Lib.hid (hbeg w4 hb14);have m0:=PM.out.c 0 _ rfl;have l0:=PL.out.c 0 _ rfl;have l1:=PL.out.c 1 _ rfl;have l2:=PL.out.c 2 _ rfl;have l3:=PL.out.c 3 _ rfl;clear hb1 hb2 hb3 hb4 hb12 hb13 hb14 pm pp pl pr h hP hp hN hC hmx hsm hI hIT hTR htne htl hrl hru hR hts hne hbeg hs1 hs2 hs3 hs4;go_enter Tryz.func44,Tryz.ntmps44;go_wp2_with fail;refine HBEG.out.mono ?_;rintro e w5 ⟨hb,m,v,rfl,hh5,hb5⟩;have HH5:=Lib.hid hh5;have HB5:=Lib.hid hb5;clear hh5 hb5 m0 l0 l1 l2 l3;have x0:=(PP.out.below HB5.out).c 0 _ rfl;have x1:=(PP.out.below HB5.out).c 1 _ rfl;go_wp2_with fail;refine(cvSpread_any p0 p1 w5 H4.out HP.out HPP.out HN.out HB5.out HH5.out HI.out (by have:=HMX.out;omega)).mono ?_;rintro e w6 ⟨rfl,⟨v6,hh6⟩,hb6⟩;rw[HTS.out] at hh6;have HH6:=Lib.hid hh6;have HB6:=Lib.hid hb6;clear hh6 hb6 x0 x1;go_wp2_with fail;refine(cvRim_any w6 (H4.out.below HB6.out) HH6.out HN.out HIT.out HMX.out HSM.out).mono ?_;rintro e w7 ⟨rv,rfl,hrow7,hb7⟩;have hrow7':RowN w7 w4.heap.size 161 5 rv (inRowM (rimP S ts ts.length)).length (sideCells (inRowM (rimP S ts ts.length))):=by
    refine⟨hrow7.1,?_⟩;rcases hrow7.2 with h1|⟨g1,cap1,cur1,h1,h2,h3⟩;·exact .inl h1
    ·exact .inr ⟨g1,cap1,cur1,h1,by have:=HB6.out.size;omega,h3⟩
  have HROW7:=Lib.hid hrow7';have HH7:=Lib.hid (HH6.out.below hb7);have HB7:=Lib.hid (HB6.out.trans (hb7.mono HB6.out.size));have HRV:=Lib.hid (show∀k,rv.ownBlock=some k→w6.heap.size≤k from fun k hk=>(hrow7.lt k hk).1);obtain⟨ro,rn,rc,rfl⟩:∃ro rn rc,rv= .slice ro rn rc:=by
    rcases hrow7.2 with⟨h1,-⟩|⟨g1,cap1,cur1,h1,-⟩;·exact⟨_,_,_,h1⟩
    ·exact⟨_,_,_,h1⟩
  clear hrow7 hrow7' hb7;go_wp2_with fail;refine(cvContains_any (inRowM (rimP S ts ts.length)) (.slice ro rn rc) (cutQ2 P S (p0,p1)) w7 HROW7.out HRL.out (fun W hW s hs=>cvDig1_any s p0 p1 W (H4.out.below (HB7.out.trans (hW.mono HB7.out.size))) HP.out HPP.out ((PM.out.below (HB7.out.trans (hW.mono HB7.out.size))).c 0 _ rfl) (PP.out.below (HB7.out.trans (hW.mono HB7.out.size))) (HRU.out s hs))).mono ?_;rintro e w8 ⟨rfl,hb8⟩;obtain⟨q,hq⟩:∃q,(inRowM (rimP S ts ts.length)).any (cutQ2 P S (p0,p1))=q:=⟨_,rfl⟩;rw[hq];have HQ:=Lib.hid hq;have HH8:=Lib.hid (HH7.out.below hb8);have HROW8:=Lib.hid (HROW7.out.below hb8);have HB8:=Lib.hid (HB7.out.trans (hb8.mono HB7.out.size));clear hb8 hq;obtain⟨n,hn⟩:∃n,ts.length=n:=⟨_,rfl⟩;obtain⟨g,c,rfl⟩:∃g c,v6= .slice (some ⟨g,0,none⟩) n c:=by
    rcases HH8.out.row.2 with⟨h1,h2⟩|⟨g,cap,cur,h1,-⟩;·have:=HTNE.out;omega
    ·exact⟨g,cap,by rw[←hn];exact h1⟩
  have HSO:=Lib.hid (show Calls Tryz.prog 106 #[.slice (some ⟨g,0,none⟩) n c] w8 fun e w'=>e= .returned (.tuple #[])∧RowN w' w4.heap.size 3 1 (.slice (some ⟨g,0,none⟩) n c) (sortL ts).length (intCells (sortL ts))∧(∀k,k<w8.heap.size→k≠g→w'.heap[k]?=w8.heap[k]?)∧Below w4.heap.size w8 w'∧w8.heap.size≤w'.heap.size from by
    have hr:=HH8.out.row;rw[←hn] at hr⊢;exact cvSort_any w8 hr (by have:=HTL.out;have:=HMX.out;omega));have d1:=HH8.out.box.c1;have HNN:=Lib.hid hn;clear hn;go_wp2_with fail;refine HSO.out.mono ?_;rintro e w9 ⟨rfl,hrow9,hk9,hb9,hs9⟩;clear d1;have hgl:=(HH8.out.row.lt g rfl);have hlow:=HH8.out.low;have hbx9:=HH8.out.box.same (hk9 hb HH8.out.box.lt (fun e=>hlow.2.2.2.1 (by rw[e];rfl)));have hrv9:=HROW8.out.block (w':=w9) (fun k hk hl=>hk9 k hl (fun e=>by subst e;have h1:=HRV.out k hk;have h2:=(HH6.out.row.lt k rfl).2;omega));have hb49:Below w4.heap.size w4 w9:=HB8.out.trans hb9;have pr9:=PR.out.below hb49;have d9:=hbx9.c1;have HROW9:=Lib.hid hrow9;have HRV9:=Lib.hid hrv9;have HB9:=Lib.hid hb49;have PR9:=Lib.hid pr9;clear hrow9 hk9 hb9 hs9 hgl hlow hbx9 hrv9 hb49 pr9;have q0:=PR9.out.c 0 _ rfl;have q1:=PR9.out.c 1 _ rfl;have q2:=PR9.out.c 2 _ rfl;have f0:=PR9.out.f 0 _ rfl;have f1:=PR9.out.f 1 _ rfl;have f2:=PR9.out.f 2 _ rfl;obtain⟨wz,hwz⟩:∃wz,setAll w9 w3.heap.size 0 [.slice (some ⟨g,0,none⟩) n c,.slice ro rn rc,.bool q]=wz:=⟨_,rfl⟩;have z:=PR9.out.setAll (w:=w9) [.slice (some ⟨g,0,none⟩) n c,.slice ro rn rc,.bool q] rfl;rw[hwz] at z;have z0:=z.c 0 _ rfl;have z1:=z.c 1 _ rfl;have z2:=z.c 2 _ rfl;have hlt4:=HW4.out;have rz1:=(RowN.setAllFar (g':=w3.heap.size) (fun k hk=>by have:=(HROW9.out.lt k hk).1;omega) [.slice (some ⟨g,0,none⟩) n c,.slice ro rn rc,.bool q] 0 HROW9.out).base (lo':=w.heap.size) HB4.out.size;have rz2:=(RowN.setAllFar (g':=w3.heap.size) (fun k hk=>by have:=(HRV9.out.lt k hk).1;omega) [.slice (some ⟨g,0,none⟩) n c,.slice ro rn rc,.bool q] 0 HRV9.out).base (lo':=w.heap.size) HB4.out.size;have hbz:=below_setAll (g:=w3.heap.size) (HB4.out.trans (HB9.out.mono HB4.out.size)) HW3.out [.slice (some ⟨g,0,none⟩) n c,.slice ro rn rc,.bool q];rw[hwz] at rz1 rz2 hbz;have FIN:=Lib.hid (And.intro rz1 (And.intro rz2 hbz));clear rz1 rz2 hbz hlt4;go_wp2_with fail;simp only[setAll] at hwz;rw[hwz];refine bodyPost_ret (v:= .agg #[.slice (some ⟨g,0,none⟩) n c,.slice ro rn rc,.bool q]) ?_ rfl ?_;·simp[results,Tryz.results44,go_sem,z0,z1,z2]
  · refine⟨g,c,.slice ro rn rc,ts,by rw[HQ.out,HNN.out],HIT.out,HTR.out,?_,FIN.out.2.1,FIN.out.2.2⟩;rw[HNN.out];have:=FIN.out.1;rw[sortL_len,HNN.out] at this;exact this
end Go.Proofs.YtammmemfkpcpcaaGreat
namespace Go.MagM
open Go.RowKit
def rimR(S:List TriM)(ts:List Int):List SideM:=inRowM (rimP S ts ts.length)
def dropN(S:List TriM)(l:List Int):Nat→List TriM|0=>S|n+1=>match l[n]? with|none=>dropN S l n|some t=>(dropN S l n).set t.toNat goneTri
theorem dropN_some{S:List TriM}{l:List Int}{n:Nat}{t:Int}(h:l[n]?=some t):dropN S l (n+1)=(dropN S l n).set t.toNat goneTri:=by rw[dropN,h]
theorem dropN_len(S:List TriM)(l:List Int):∀n,(dropN S l n).length=S.length
  |0=>rfl|n+1=>by
    have:=dropN_len S l n;rw[dropN];split;·exact this
    ·rw[List.length_set];exact this
theorem alive_set{S:List TriM}{u t:Nat}(h:Alive S u)(hne:t≠u):Alive (S.set t goneTri) u:=by obtain⟨T,hT,hg⟩:=h;exact⟨T,by rw[List.getElem?_set_ne hne];exact hT,hg⟩
theorem dropN_keep{S:List TriM}{l:List Int}{u:Nat}(h:Alive S u)(h0:∀t,t∈l→0≤t):∀n,(∀i,i<n→l[i]?≠some (u:Int))→Alive (dropN S l n) u|0,_=>h|n+1,hn=>by have ih:=dropN_keep h h0 n (fun i hi=>hn i (by omega));rw[dropN];cases hl:l[n]? with|none=>exact ih|some t=>refine alive_set ih fun e=>hn n (by omega) ?_;have:=h0 t (List.mem_of_getElem? hl);rw[hl,show t=(u:Int) by omega]
theorem dropN_off{S:List TriM}{l:List Int}{u:Nat}(h:Alive S u)(hu:(u:Int)∉l)(h0:∀t,t∈l→0≤t)(n:Nat):Alive (dropN S l n) u:=dropN_keep h h0 n fun _ _ e=>hu (List.mem_of_getElem? e)
theorem dropN_alive{S:List TriM}{l:List Int}{n t:Nat}(h:Alive S t)(hl:l.Nodup∧∀t,t∈l→0≤t)(ht:l[n]?=some (t:Int)):Alive (dropN S l n) t:=dropN_keep h hl.2 n fun i hi e=>by have hn:=(List.getElem?_eq_some_iff.1 ht).1;have:=(List.getElem?_inj (by omega:i<l.length) hl.1).1 (e.trans ht.symm);omega
end Go.MagM
namespace Go.Proofs.YtammmemfkpcpcaaGreat
open Go.RowKit Go.MagM
theorem ins_sorted{S:List TriM}{ts:List Int}(h:InS S ts):(sortL ts).Nodup∧∀t,t∈sortL ts→0≤t:=⟨(sortL_perm ts).nodup_iff.2 h.once,fun t ht=>by obtain⟨u,e,-⟩:=h.is t ((sortL_perm ts).mem_iff.1 ht);rw[e];omega⟩
def putM(S:List TriM)(v:Int)(pl:List Int)(ts:List Int):List TriM:=fillM (rimR S ts) v pl (dropN S (sortL ts) ts.length)
set_option maxRecDepth 100000 in set_option maxHeartbeats 16000000 in theorem put_any{lo mb pb pc:Nat}{tv:Value}{P:List (Int×Int)}{S:List TriM}(v:Nat)(p0 p1 x0 x1 x2 x3:Int)(pl:List Int)(Good:List Int→Prop)(w:World)(h:MeshO 24 42 w lo mb pb pc tv P (S))(hv:P[v]?=some (p0,p1))(hlive:∀t,t<S.length→Alive S t)(hsh:S.length≤200000)(hG:∀ts,Good ts→InS S ts∧rimR S ts≠[]∧∀s,s∈rimR S ts→∃u i:Nat,s.u=(u:Int)∧(u:Int)∉ts∧u<S.length∧s.i=(i:Int)∧i<3)(hfa:∀W:World,Below w.heap.size w W→Calls Tryz.prog 90 #[.pointer (some ⟨mb,0,none⟩),.agg #[.int .i64 x0,.int .i64 x1,.int .i64 x2,.int .i64 x3]] W fun e w'=>∃pv,e= .returned pv∧((pv= .slice none 0 0∧pl=[])∨∃qb c,pv= .slice (some ⟨qb,0,none⟩) pl.length c∧IntsAt w' qb pl∧(W.heap.size≤qb∧qb<w'.heap.size)∧pl.length≤1000)∧Below W.heap.size W w')(hdg:∀W:World,Below w.heap.size w W→Calls Tryz.prog 44 #[.pointer (some ⟨mb,0,none⟩),.agg #[.int .i64 p0,.int .i64 p1],.agg #[.int .i64 x0,.int .i64 x1,.int .i64 x2,.int .i64 x3]] W fun e w'=>∃(gd c rb rc:Nat) (ts:List Int) (cb:Bool),e= .returned (.agg #[.slice (some ⟨gd,0,none⟩) ts.length c,.slice (some ⟨rb,0,none⟩) (rimR S ts).length rc,.bool cb])∧Good ts∧IntsAt w' gd (sortL ts)∧SidesAt w' rb (rimR S ts)∧(W.heap.size≤gd∧gd<w'.heap.size∧W.heap.size≤rb∧rb<w'.heap.size)∧Below W.heap.size W w'):Calls Tryz.prog 35 #[.pointer (some ⟨mb,0,none⟩),.int .i64 (v:Int),.agg #[.int .i64 x0,.int .i64 x1,.int .i64 x2,.int .i64 x3]] w fun e w'=>∃(ts:List Int) (tv':Value),e= .returned (.tuple #[])∧Good ts∧MeshO 24 42 w' lo mb pb pc tv' P (putM S (v:Int) pl ts)∧Mut w w' mb tv tv':=by
  have hvl:=(List.getElem?_eq_some_iff.1 hv).1;obtain⟨lb,hlb⟩:∃lb,w.heap.size=lb:=⟨_,rfl⟩;obtain⟨w1,hw1,px,hb1,hs1⟩:=new_box w _ rfl [.int .i64 x0,.int .i64 x1,.int .i64 x2,.int .i64 x3] 83;rw[hlb] at px;have H:=Lib.hid h;have HV:=Lib.hid hv;have HLV:=Lib.hid hlive;have HSH:=Lib.hid hsh;have HG:=Lib.hid hG;have HFA:=Lib.hid (hfa w1 hb1);have HDG:=Lib.hid hdg;have PX:=Lib.hid px;have HB1:=Lib.hid hb1;obtain⟨N,hN⟩:∃N,P.length=N:=⟨_,rfl⟩;rw[hN] at hvl;have HNP:=Lib.hid hN;have i0:=px.c 0 _ rfl;have i1:=px.c 1 _ rfl;have i2:=px.c 2 _ rfl;have i3:=px.c 3 _ rfl;have j3:(0:Int)≤(v:Int):=by omega
  have j4:(v:Int)<(N:Int):=by omega
  clear h hv hlive hsh hG hfa hdg px hb1 hs1 hN hvl;go_enter Tryz.func35,Tryz.ntmps35;go_wp2_with fail;refine HFA.out.mono ?_;rintro e w2 ⟨pv,rfl,hpv,hb2⟩;have hB2:Below w.heap.size w w2:=HB1.out.trans (hb2.mono HB1.out.size);obtain⟨WD,hwd⟩:∃WD,w2.drew=WD:=⟨_,rfl⟩;have hBD:Below w.heap.size w WD:=by rw[←hwd];exact hB2.drew'
  have HWD:=Lib.hid hBD;have HWD2:=Lib.hid hwd;have HPV:=Lib.hid hpv;have C2:=Lib.hid (show∀w',Below WD.heap.size WD w'→w'.cell? ⟨mb,0,none⟩=some (.slice (some ⟨pb,0,none⟩) N pc)∧w'.cell? ⟨pb,v*2,none⟩=some (.int .i64 p0)∧w'.cell? ⟨pb,v*2+1,none⟩=some (.int .i64 p1)∧w'.cell? ⟨lb,0,none⟩=some (.int .i64 x0)∧w'.cell? ⟨lb,1,none⟩=some (.int .i64 x1)∧w'.cell? ⟨lb,2,none⟩=some (.int .i64 x2)∧w'.cell? ⟨lb,3,none⟩=some (.int .i64 x3) from fun w' hb=>by
    have hh:Below w.heap.size w w':=hBD.trans (hb.mono hBD.size);have hm:=H.out.below hh;obtain⟨ta,tc,-,hr⟩:=hm.read;have e0:=hm.box.c 0 _ rfl;rw[HNP.out] at e0;have hx:=(PX.out.below hb2);have e1:Below w2.heap.size w2 w':=by
      have e1:Below w2.heap.size w2 WD:=by rw[←hwd];exact(Below.refl _ _).drew'
      exact e1.trans (hb.mono e1.size)
    have hx:=hx.below e1;exact⟨e0,(hr.pt HV.out).1,(hr.pt HV.out).2,hx.c 0 _ rfl,hx.c 1 _ rfl,hx.c 2 _ rfl,hx.c 3 _ rfl⟩);clear hpv hb2 hB2 hBD i0 i1 i2 i3;go_wp2_with fail;clear hlb hw1;refine wp_region_noPanic ?_;refine wp_region_held_drew (S:=fun w'=>w'.cell? ⟨mb,0,none⟩=some (.slice (some ⟨pb,0,none⟩) N pc)∧w'.cell? ⟨pb,v*2,none⟩=some (.int .i64 p0)∧w'.cell? ⟨pb,v*2+1,none⟩=some (.int .i64 p1)∧w'.cell? ⟨lb,0,none⟩=some (.int .i64 x0)∧w'.cell? ⟨lb,1,none⟩=some (.int .i64 x1)∧w'.cell? ⟨lb,2,none⟩=some (.int .i64 x2)∧w'.cell? ⟨lb,3,none⟩=some (.int .i64 x3)) (by kernel_rfl) (C2.out _ (by rw[←hwd];exact Below.refl _ _)) (fun hHeld=>?_);rw[hwd] at hHeld⊢;refine rU 0 _ _ ?_;refine rU 1 _ _ ?_;refine rU 2 _ _ ?_;refine rU 3 _ _ ?_;refine rU 4 _ _ ?_;refine rU 5 _ _ ?_;refine rU 6 _ _ ?_;refine rU 7 _ _ ?_;refine rU 8 _ _ ?_;refine reg_grab (fun WWx ax hWW hAA=>?_);have LEAF:∀(k gd c rb rc:Nat)(ts:List Int)(cb:Bool)(Wx:World),Below WD.heap.size WD Wx→WD.heap.size≤k→Box Wx k [.slice none 0 0,.slice none 0 0,.bool false]→(WD.heap.size≤gd∧gd<Wx.heap.size∧gd≠k∧WD.heap.size≤rb∧rb<Wx.heap.size∧rb≠k)→Good ts→IntsAt Wx gd (sortL ts)→SidesAt Wx rb (rimR S ts)→WWx 1 #[true,true,true,true,true,true,true,true,true,true,true,false] ((ax.put (some 22) (.agg #[.slice (some ⟨gd,0,none⟩) ts.length c,.slice (some ⟨rb,0,none⟩) (rimR S ts).length rc,.bool cb])).put (some 7) (.pointer (some ⟨k,0,none⟩))) Wx:=by
    intro k gd c rb rc ts cb Wx hbx hk pz hgd hgo hin hsi;have hHeld:=C2.out _ hbx;rw[hWW,hAA];try simp only[Act.put,sA,sZ,sS]
    refine rC 11 _ (fun K hK=>?_);obtain⟨wy,hwy_⟩:∃wy,setAll Wx k 0 [.slice (some ⟨gd,0,none⟩) ts.length c,.slice (some ⟨rb,0,none⟩) (rimR S ts).length rc,.bool cb]=wy:=⟨_,rfl⟩;refine wanted_go rfl ?_;refine wp_store_box _ _ _ rfl [.slice (some ⟨gd,0,none⟩) ts.length c,.slice (some ⟨rb,0,none⟩) (rimR S ts).length rc,.bool cb] pz rfl rfl (by kernel_rfl) (by simp) rfl hwy_ ?_;have hby:Below WD.heap.size WD wy:=by rw[←hwy_];exact below_setAll hbx hk _
    refine hK.out _ _ (C2.out _ hby) (fun hHeld=>?_);clear hK K;try simp only[Act.put,sA,sZ,sS]
    refine wpAnyH_done (by kernel_rfl) ?_ _;refine NoPanic.normal ?_;have hwx:Below w.heap.size w Wx:=HWD.out.trans (hbx.mono HWD.out.size);have hwy:Below w.heap.size w wy:=by rw[←hwy_];exact below_setAll hwx (by have:=HWD.out.size;omega) _
    have py:Box wy k [.slice (some ⟨gd,0,none⟩) ts.length c,.slice (some ⟨rb,0,none⟩) (rimR S ts).length rc,.bool cb]:=by rw[←hwy_];exact pz.setAll [.slice (some ⟨gd,0,none⟩) ts.length c,.slice (some ⟨rb,0,none⟩) (rimR S ts).length rc,.bool cb] rfl
    have hty:Turned Wx wy k:=by rw[←hwy_];exact turned_setAll _ _ (Turned.refl _ _)
    have hsy:wy.heap.size=Wx.heap.size:=hty.size;have hin':=hin.same (hty.block gd hgd.2.2.1);have hsi':=hsi.same (hty.block rb hgd.2.2.2.2.2);have hmy:=H.out.below hwy;obtain⟨n,hn⟩:∃n,ts.length=n:=⟨_,rfl⟩;obtain⟨hI,hR0,hR⟩:=HG.out ts hgo;have hn9:n≤200000:=by have:=hI.le;have:=HSH.out;omega
    have hsl:(sortL ts).length=n:=by rw[sortL_len];exact hn
    rw[hn] at py⊢;have hofk:∀b,w.heap.size≤b→b<wy.heap.size→Off wy mb tv b:=fun b h1 h2=>⟨h2,by have:=H.out.low.2.1;omega,fun e=>by have:=(H.out.row.lt b e).2;omega⟩;have hwD:=HWD.out.size;have hkl:=py.lt;have OGD:=Lib.hid (hofk gd (by omega) (by omega));have ORB:=Lib.hid (hofk rb (by omega) (by omega));have OK:=Lib.hid (hofk k (by omega) (by omega));have OPV:Hid (Parts wy mb tv pv pl):=Lib.hid (by
      rcases HPV.out with h|⟨qb,c,h1,h2,⟨h3,h4⟩,h5⟩;·exact .inl h
      · have e:Below w2.heap.size w2 wy:=by
          have e1:Below w2.heap.size w2 WD:=by rw[←HWD2.out];exact(Below.refl _ _).drew'
          rw[←hwy_];exact below_setAll (e1.trans (hbx.mono e1.size)) (by have:=e1.size;omega) _
        exact .inr ⟨qb,c,h1,h2.same (e.block qb h4),hofk qb (by have:=HB1.out.size;omega) (by have:=e.size;omega),h5⟩);have PY:=Lib.hid py;have HIN:=Lib.hid hin';have HSI:=Lib.hid hsi';have HMY:=Lib.hid hmy;have HWY:=Lib.hid hwy;have HI:=Lib.hid hI;have HR0:=Lib.hid hR0;have HR:=Lib.hid hR;have HSL:=Lib.hid hsl;have HGO:=Lib.hid hgo;have HN:=Lib.hid hn;have y0:=py.c 0 _ rfl;clear hkl hwx hwy py hty hsy hin' hsi' hmy hI hR0 hR hsl hofk hwD hin hsi hgo hgd pz hbx hHeld;go_wp2;clear y0;go_loopw [9,26] (fun _ iv wr=>∃i:Nat,i≤n∧iv= .int .i64 (i:Int)∧MeshO 24 42 wr lo mb pb pc tv P (dropN S (sortL ts) i)∧Mut wy wr mb tv tv) (fun _ iv _=>n-(intOf iv).toNat);case atStart=>exact⟨0,Nat.zero_le _,rfl,HMY.out,Mut.refl _ _ _⟩
    case round=>
      obtain⟨i,hi,rfl,hm,hmu⟩:=hrel;by_cases hlt:i<n
      · have hyd:decide ((i:Int)<(n:Int))=true:=decide_eq_true (by omega);obtain⟨z,hz⟩:∃z,(sortL ts)[i]?=some z:=⟨_,List.getElem?_eq_getElem (by rw[HSL.out];exact hlt)⟩;obtain⟨t,ht,htl⟩:=HI.out.is z ((sortL_perm ts).mem_iff.1 (List.mem_of_getElem? hz));subst ht;have hz_:=(HIN.out.same (OGD.out.mut hmu).2) i _ hz;have hdn:=dropN_some (S:=S) hz;have hal:Alive (dropN S (sortL ts) i) t:=dropN_alive (HLV.out t htl) (ins_sorted HI.out) hz;obtain⟨T,hT,hgT⟩:=hal;have HDR:=Lib.hid (Drop_any t T wr hm hT hgT);have HDN:=Lib.hid hdn;have HMU:=Lib.hid hmu;have j1:(0:Int)≤(i:Int):=by omega
        have j2:(i:Int)<(n:Int):=by omega
        clear hz hdn hT hgT hm hmu;go_wp2_with fail;refine HDR.out.mono ?_;rintro e wd ⟨rfl,hmd,hmud⟩;have FIN:=Lib.hid (And.intro hmd (HMU.out.trans hmud));clear hmd hmud hz_;go_wp2;refine⟨⟨i+1,by omega,by go_num,?_⟩,by simp[intOf];omega⟩;rw[HDN.out,Int.toNat_natCast];exact FIN.out
      · obtain rfl:i=n:=by omega
        obtain⟨R,hRR⟩:∃R,rimR S ts=R:=⟨_,rfl⟩;obtain⟨r,hr⟩:∃r,R.length=r:=⟨_,rfl⟩;have hsi:=HSI.out.same (ORB.out.mut hmu).2;have hr0:=HR0.out;have hr1:=HR.out;have hle:(rimR S ts).length≤3*ts.length:=by unfold rimR;have:=inRow_le (rimP S ts ts.length);have:=rimP_le S ts ts.length;omega
        rw[hRR] at hsi hr0 hr1 hle;have h0r:0<r:=by rw[←hr];exact List.length_pos_iff.2 hr0
        have hdl:=dropN_len S (sortL ts) i;have hro:RimOkG (dropN S (sortL ts) i) R:=fun s hs=>by obtain⟨u,j,e1,e2,e3,e4,e5⟩:=hr1 s hs;exact⟨u,j,e1,e4,e5,dropN_off (HLV.out u e3) (fun e=>e2 ((sortL_perm ts).mem_iff.1 e)) (fun t ht=>by
            obtain⟨u,e,-⟩:=HI.out.is t ((sortL_perm ts).mem_iff.1 ht);rw[e];omega) i⟩
        have hfi:=fill_any (v:Int) R r rb rc pv pl wr hm (by omega) hr h0r (by rw[hdl];have:=HSH.out;have:=HI.out.le;have:=HN.out;omega) hro hsi (ORB.out.mut hmu).1 (OPV.out.mut hmu);have HFI:=Lib.hid hfi;have py:=PY.out.same (OK.out.mut hmu).2;rw[hRR,hr] at py;have y1:=py.c 1 _ rfl;have HMU:=Lib.hid hmu;have HRR:=Lib.hid hRR;clear hsi hr0 hr1 hle hdl hro hfi py hmu hm hRR;go_wp2_with fail;refine HFI.out.mono ?_;rintro e wf ⟨tv',rfl,hmf,hmuf⟩;have FIN:=Lib.hid (And.intro hmf (((Mut.of_below HWY.out (fun k hk=>(H.out.row.lt k hk).2)).trans HMU.out).trans hmuf));clear hmf hmuf;go_wp2;go_end0;refine⟨ts,tv',rfl,HGO.out,?_,FIN.out.2⟩;unfold putM;rw[HRR.out,HN.out];exact FIN.out.1
  rw[hWW,hAA];try simp only[Act.put,sA,sZ,sS]
  refine reg_all2 9 10 _ _ (by kernel_rfl) rfl rfl (fun K hK=>?_) (fun K hK=>?_)
  · go_simp;refine(HDG.out WD (HWD.out.trans ((Below.refl _ _).mono HWD.out.size))).mono ?_;rintro e wc ⟨gd,c,rb,rc,ts,cb,rfl,hgo,hin,hsi,⟨hg1,hg2,hg3,hg4⟩,hbc⟩;go_wp2_with fail;refine hK.out _ _ (C2.out _ hbc) (fun hHeld=>?_);clear hK K;try simp only[Act.put,sA,sZ,sS]
    refine rC 10 _ (fun K hK=>?_);obtain⟨wb,hwb,pz,hbb,hsb⟩:=new_box wc _ rfl [.slice none 0 0,.slice none 0 0,.bool false] 99;have hbx:=hbc.trans (hbb.mono hbc.size);go_simp;try rw[hwb]
    refine hK.out _ _ (C2.out _ hbx) (fun hHeld=>?_);clear hK K;try simp only[Act.put,sA,sZ,sS]
    have hL:=LEAF wc.heap.size gd c rb rc ts cb wb hbx (by have:=hbc.size;omega) pz ⟨by omega,by have:=hbb.size;omega,by omega,by omega,by have:=hbb.size;omega,by omega⟩ hgo (hin.same (hbb.block gd (by omega))) (hsi.same (hbb.block rb (by omega)));rw[hWW,hAA] at hL;try simp only[Act.put] at hL
    try simp only[sA,sZ,sS] at hL
    exact hL
  · obtain⟨wb,hwb,pz,hbb,hsb⟩:=new_box WD _ rfl [.slice none 0 0,.slice none 0 0,.bool false] 99;go_simp;try rw[hwb]
    refine hK.out _ _ (C2.out _ hbb) (fun hHeld=>?_);clear hK K;try simp only[Act.put,sA,sZ,sS]
    refine rC 9 _ (fun K hK=>?_);go_simp;refine(HDG.out wb (HWD.out.trans (hbb.mono HWD.out.size))).mono ?_;rintro e wc ⟨gd,c,rb,rc,ts,cb,rfl,hgo,hin,hsi,⟨hg1,hg2,hg3,hg4⟩,hbc⟩;go_wp2_with fail;have hbx:=hbb.trans (hbc.mono hbb.size);refine hK.out _ _ (C2.out _ hbx) (fun hHeld=>?_);clear hK K;try simp only[Act.put,sA,sZ,sS]
    have hL:=LEAF WD.heap.size gd c rb rc ts cb wc hbx (Nat.le_refl _) (pz.below hbc) ⟨by omega,by omega,by omega,by omega,by omega,by omega⟩ hgo hin hsi;rw[hWW,hAA] at hL;try simp only[Act.put] at hL
    try simp only[sA,sZ,sS] at hL
    exact hL
set_option maxRecDepth 100000 in set_option maxHeartbeats 4000000 in theorem faultAt_off(mv:Value)(x0 x1 x2 x3:Int)(hx:x0≠1)(w:World):Calls Tryz.prog 90 #[mv,.agg #[.int .i64 x0,.int .i64 x1,.int .i64 x2,.int .i64 x3]] w fun e w'=>e= .returned (.slice none 0 0)∧Below w.heap.size w w':=by
  obtain⟨w1,hw1,px,hb1,hs1⟩:=new_box w _ rfl [.int .i64 x0,.int .i64 x1,.int .i64 x2,.int .i64 x3] 83;have i0:=px.c 0 _ rfl;have q1:(x0 !=1)=true:=by simpa using hx
  have q2:(x0==1)=false:=by simpa using hx
  have HB1:=Lib.hid hb1;clear px hb1 hs1 hx;go_enter Tryz.func90,Tryz.ntmps90;go_wp2;go_ret;exact⟨rfl,HB1.out⟩
set_option maxRecDepth 100000 in set_option maxHeartbeats 16000000 in theorem Insert_any{mb pb pc:Nat}{ta:Option Addr}{tc:Nat}{P:List (Int×Int)}{S:List TriM}(v:Nat)(p0 p1 x0 x1 x2 x3 cnt fr:Int)(Q:World→World→Prop)(w:World)(h:MeshR w mb pb pc ta tc P S)(hv:P[v]?=some (p0,p1))(hfd:∀W:World,Below w.heap.size w W→Calls Tryz.prog 34 #[.pointer (some ⟨mb,0,none⟩),.agg #[.int .i64 p0,.int .i64 p1],.int .i64 fr,.int .i64 ((S.length:Nat):Int)] W fun e w'=>e= .returned (.tuple #[.agg #[.int .i64 x0,.int .i64 x1,.int .i64 x2,.int .i64 x3],.int .i64 cnt])∧Below W.heap.size W w')(hput:x0≠2→∀W:World,Below w.heap.size w W→Calls Tryz.prog 35 #[.pointer (some ⟨mb,0,none⟩),.int .i64 (v:Int),.agg #[.int .i64 x0,.int .i64 x1,.int .i64 x2,.int .i64 x3]] W fun e w'=>e= .returned (.tuple #[])∧Q W w'):Calls Tryz.prog 11 #[.pointer (some ⟨mb,0,none⟩),.int .i64 (v:Int),.int .i64 fr] w fun e w'=>(x0=2∧e= .returned (.bool false)∧Below w.heap.size w w')∨(x0≠2∧e= .returned (.bool true)∧∃W,Below w.heap.size w W∧Q W w'):=by
  have hvl:=(List.getElem?_eq_some_iff.1 hv).1;have e0:=h.box.c 0 _ rfl;have HS:=Lib.hid h;obtain⟨SL,hSL⟩:∃SL,S.length=SL:=⟨_,rfl⟩;obtain⟨N,hN⟩:∃N,P.length=N:=⟨_,rfl⟩;rw[hN] at hvl e0;rw[hSL] at hfd;obtain⟨qk,hqk⟩:∃q,decide (x0=2)=q:=⟨_,rfl⟩;have HV:=Lib.hid hv;have HFD:=Lib.hid hfd;have HPUT:=Lib.hid hput;have HN:=Lib.hid hN;have HSL:=Lib.hid hSL;have HQK:=Lib.hid hqk;have j1:¬((v:Int)<0):=by omega
  have j2:¬((N:Int)≤(v:Int)):=by omega
  have j3:(0:Int)≤(v:Int):=by omega
  have j4:(v:Int)<(N:Int):=by omega
  clear h hv hfd hput hvl hN hSL hqk;go_enter Tryz.func11,Tryz.ntmps11;go_wp2;obtain⟨WD,hwd⟩:∃WD,w.drew=WD:=⟨_,rfl⟩;have hBD:Below w.heap.size w WD:=by rw[←hwd];exact(Below.refl _ _).drew'
  have HWD:=Lib.hid hBD;have C3:=Lib.hid (show∀w',Below WD.heap.size WD w'→w'.cell? ⟨mb,0,none⟩=some (.slice (some ⟨pb,0,none⟩) N pc)∧w'.cell? ⟨mb,1,none⟩=some (.slice ta SL tc)∧w'.cell? ⟨pb,v*2,none⟩=some (.int .i64 p0)∧w'.cell? ⟨pb,v*2+1,none⟩=some (.int .i64 p1) from fun w' hb=>by
    have hh:Below w.heap.size w w':=hBD.trans (hb.mono hBD.size);have hr:=HS.out.below hh;have e0:=hr.box.c 0 _ rfl;have e1:=hr.box.c 1 _ rfl;rw[HN.out] at e0;rw[HSL.out] at e1;exact⟨e0,e1,(hr.pt HV.out).1,(hr.pt HV.out).2⟩);clear hBD e0;refine wp_region_noPanic ?_;refine wp_region_held_drew (S:=fun w'=>w'.cell? ⟨mb,0,none⟩=some (.slice (some ⟨pb,0,none⟩) N pc)∧w'.cell? ⟨mb,1,none⟩=some (.slice ta SL tc)∧w'.cell? ⟨pb,v*2,none⟩=some (.int .i64 p0)∧w'.cell? ⟨pb,v*2+1,none⟩=some (.int .i64 p1)) (by kernel_rfl) (C3.out _ (by rw[←hwd];exact Below.refl _ _)) (fun hHeld=>?_);rw[hwd] at hHeld⊢;refine rU 0 _ _ ?_;refine rU 1 _ _ ?_;refine rU 2 _ _ ?_;refine rU 3 _ _ ?_;refine rU 4 _ _ ?_;refine rU 5 _ _ ?_;refine rU 6 _ _ ?_;refine rU 7 _ _ ?_;refine rU 8 _ _ ?_;refine rU 9 _ _ ?_;refine rU 10 _ _ ?_;refine rU 11 _ _ ?_;refine rU 12 _ _ ?_;refine rU 13 _ _ ?_;refine reg_grab (fun WWx ax hWW hAA=>?_);have LEAF:∀(k:Nat)(Wx:World),Below WD.heap.size WD Wx→WD.heap.size≤k→Box Wx k [.int .i64 0,.int .i64 0,.int .i64 0,.int .i64 0]→WWx 2 #[true,true,true,true,true,true,true,true,true,true,true,true,true,true,true,true,true,true,true,false,false] (((((ax.put (some 35) (.tuple #[.agg #[.int .i64 x0,.int .i64 x1,.int .i64 x2,.int .i64 x3],.int .i64 cnt])).put (some 20) (.tuple #[.agg #[.int .i64 x0,.int .i64 x1,.int .i64 x2,.int .i64 x3],.int .i64 cnt])).put (some 36) (.agg #[.int .i64 x0,.int .i64 x1,.int .i64 x2,.int .i64 x3])).put (some 37) (.int .i64 cnt)).put (some 7) (.pointer (some ⟨k,0,none⟩))) Wx:=by
    intro k Wx hbx hk pz;have hHeld:=C3.out _ hbx;rw[hWW,hAA];try simp only[Act.put,sA,sZ,sS]
    refine rC 19 _ (fun K hK=>?_);obtain⟨wy,hwy_⟩:∃wy,setAll Wx k 0 [.int .i64 x0,.int .i64 x1,.int .i64 x2,.int .i64 x3]=wy:=⟨_,rfl⟩;refine wanted_go rfl ?_;refine wp_store_box _ _ _ rfl [.int .i64 x0,.int .i64 x1,.int .i64 x2,.int .i64 x3] pz rfl rfl (by kernel_rfl) (by simp) rfl hwy_ ?_;have hby:Below WD.heap.size WD wy:=by rw[←hwy_];exact below_setAll hbx hk _
    refine hK.out _ _ (C3.out _ hby) (fun hHeld=>?_);clear hK K;try simp only[Act.put,sA,sZ,sS]
    refine rU 20 _ _ ?_;refine wpAnyH_done (by kernel_rfl) ?_ _;refine NoPanic.normal ?_;have hwx:Below w.heap.size w Wx:=HWD.out.trans (hbx.mono HWD.out.size);have hwy:Below w.heap.size w wy:=by rw[←hwy_];exact below_setAll hwx (by have:=HWD.out.size;omega) _
    have py:Box wy k [.int .i64 x0,.int .i64 x1,.int .i64 x2,.int .i64 x3]:=by rw[←hwy_];exact pz.setAll [.int .i64 x0,.int .i64 x1,.int .i64 x2,.int .i64 x3] rfl
    have y0:=py.c 0 _ rfl;have y1:=py.c 1 _ rfl;have y2:=py.c 2 _ rfl;have y3:=py.c 3 _ rfl;have HWY:=Lib.hid hwy;clear hwx hwy py pz hbx hHeld hk;cases qk with
    |true=>
      obtain rfl:x0=2:=of_decide_eq_true HQK.out;go_wp2;go_ret;first|exact .inl ⟨rfl,rfl,HWY.out⟩|exact⟨rfl,HWY.out⟩|exact⟨rfl,rfl,HWY.out⟩
    |false=>
      have hne:=of_decide_eq_false HQK.out;have q1:(x0==2)=false:=by simpa using hne
      have HPW:=Lib.hid (HPUT.out hne wy HWY.out);have HNE:=Lib.hid hne;clear hne;go_wp2_with fail;refine HPW.out.mono ?_;rintro e wp ⟨rfl,hq⟩;have FIN:=Lib.hid hq;clear hq;go_wp2;go_ret;exact .inr ⟨HNE.out,rfl,wy,HWY.out,FIN.out⟩
  rw[hWW,hAA];try simp only[Act.put,sA,sZ,sS]
  refine reg_all2 14 18 _ _ (by kernel_rfl) rfl rfl (fun K hK=>?_) (fun K hK=>?_)
  · go_simp;refine(HFD.out WD (HWD.out.trans ((Below.refl _ _).mono HWD.out.size))).mono ?_;rintro e wc ⟨rfl,hbc⟩;go_wp2_with fail;refine hK.out _ _ (C3.out _ hbc) (fun hHeld=>?_);clear hK K;try simp only[Act.put,sA,sZ,sS]
    refine rU 15 _ _ ?_;refine rU 16 _ _ ?_;refine rU 17 _ _ ?_;refine rC 18 _ (fun K hK=>?_);obtain⟨wb,hwb,pz,hbb,hsb⟩:=new_box wc _ rfl [.int .i64 0,.int .i64 0,.int .i64 0,.int .i64 0] 83;have hbx:=hbc.trans (hbb.mono hbc.size);go_simp;try rw[hwb]
    refine hK.out _ _ (C3.out _ hbx) (fun hHeld=>?_);clear hK K;try simp only[Act.put,sA,sZ,sS]
    have hL:=LEAF wc.heap.size wb hbx (by have:=hbc.size;omega) pz;rw[hWW,hAA] at hL;try simp only[Act.put] at hL
    try simp only[sA,sZ,sS] at hL
    exact hL
  · obtain⟨wb,hwb,pz,hbb,hsb⟩:=new_box WD _ rfl [.int .i64 0,.int .i64 0,.int .i64 0,.int .i64 0] 83;go_simp;try rw[hwb]
    refine hK.out _ _ (C3.out _ hbb) (fun hHeld=>?_);clear hK K;try simp only[Act.put,sA,sZ,sS]
    refine rC 14 _ (fun K hK=>?_);go_simp;refine(HFD.out wb (HWD.out.trans (hbb.mono HWD.out.size))).mono ?_;rintro e wc ⟨rfl,hbc⟩;go_wp2_with fail;have hbx:=hbb.trans (hbc.mono hbb.size);refine hK.out _ _ (C3.out _ hbx) (fun hHeld=>?_);clear hK K;try simp only[Act.put,sA,sZ,sS]
    refine rU 15 _ _ ?_;refine rU 16 _ _ ?_;refine rU 17 _ _ ?_;have hL:=LEAF WD.heap.size wc hbx (Nat.le_refl _) (pz.below hbc);rw[hWW,hAA] at hL;try simp only[Act.put] at hL
    try simp only[sA,sZ,sS] at hL
    exact hL
end Go.Proofs.YtammmemfkpcpcaaGreat
namespace Go.MagM
def crsP(p q r:Int×Int):Int:=crs p.1 p.2 q.1 q.2 r.1 r.2
def BaseIs(P:List (Int×Int))(ok:Bool)(s t:Nat):Prop:=(ok=true∧1≤s∧s<t∧t<P.length∧(∀i,i<s→ptA P i=ptA P 0)∧ptA P s≠ptA P 0∧(∀i,s<i→i<t→crsP (ptA P 0) (ptA P s) (ptA P i)=0)∧crsP (ptA P 0) (ptA P s) (ptA P t)≠0)∨(ok=false∧s=0∧t=0∧∃k,(∀i,i<k→i<P.length→ptA P i=ptA P 0)∧(P.length≤k∨(ptA P k≠ptA P 0∧∀i,k<i→i<P.length→crsP (ptA P 0) (ptA P k) (ptA P i)=0)))
end Go.MagM
namespace Go.Proofs.YtammmemfkpcpcaaGreat
open Go.RowKit Go.MagM
theorem turnM_cases(P:List (Int×Int))(a b c:Int):turnM P a b c=0∨turnM P a b c=1∨turnM P a b c=-1:=by
  unfold turnM;split
  · rename_i p q r _ _ _;rcases Int.lt_trichotomy (crs p.1 p.2 q.1 q.2 r.1 r.2) 0 with h|h|h;·exact .inr (.inr (Int.sign_eq_neg_one_of_neg h))
    ·rw[h];exact .inl rfl
    ·exact .inr (.inl (Int.sign_eq_one_of_pos h))
  ·exact .inl rfl
theorem New_ok(so:Option Addr)(sb n sc:Nat)(P:List (Int×Int))(w:World)(hn:P.length=n)(h0:0<n)(hn9:n≤1000000)(hP:InPs P)(ho:so=some ⟨sb,0,none⟩)(hc:∀j u,(ptsCells P)[j]?=some u→w.cell? ⟨sb,0+j,none⟩=some u)(a b c:Nat):Calls Tryz.prog 69 #[.slice so n sc,.int .i64 (a:Int),.int .i64 (b:Int),.int .i64 (c:Int)] w fun e w'=>∃pv,e= .returned (.tuple #[pv,.bool (decide (turnM P (a:Int) (b:Int) (c:Int)≠0))])∧Below w.heap.size w w':=by
  rcases turnM_cases P a b c with h|h|h;· refine(New_no so sb n sc P w hn h0 hn9 hP ho hc a b c h).mono ?_;rintro e w' ⟨rfl,hb⟩;exact⟨_,by rw[h];rfl,hb⟩
  · refine(New_yes so sb n sc P w hn h0 hn9 hP ho hc a b c h).mono ?_;rintro e w' ⟨mb,pb,pc,tv,rfl,-,-,hb⟩;exact⟨_,by rw[h];rfl,hb⟩
  · refine(New_back so sb n sc P w hn h0 hn9 hP ho hc a b c h).mono ?_;rintro e w' ⟨mb,pb,pc,tv,rfl,-,-,hb⟩;exact⟨_,by rw[h];rfl,hb⟩
theorem signZ_ne{z:Int}:z.sign≠0↔z≠0:=by
  constructor;·intro h e;rw[e] at h;exact h rfl
  ·intro h e;exact h (Int.sign_eq_zero_iff_zero.1 e)
set_option maxRecDepth 100000 in set_option maxHeartbeats 8000000 in theorem hasArea_any(a0 a1 b0 b1 c0 c1:Int)(ha:InP a0∧InP a1)(hb:InP b0∧InP b1)(hc:InP c0∧InP c1)(q:Bool)(hq:decide (crsP (a0,a1) (b0,b1) (c0,c1)≠0)=q)(w:World):Calls Tryz.prog 127 #[.agg #[.int .i64 a0,.int .i64 a1],.agg #[.int .i64 b0,.int .i64 b1],.agg #[.int .i64 c0,.int .i64 c1]] w fun e w'=>e= .returned (.bool q)∧Below w.heap.size w w':=by
  obtain⟨w1,hw1,pa,hb1,hs1⟩:=new_box w _ rfl [.int .i64 a0,.int .i64 a1] 24;obtain⟨w2,hw2,pb,hb2,hs2⟩:=new_box w1 _ rfl [.int .i64 b0,.int .i64 b1] 24;obtain⟨w3,hw3,pc,hb3,hs3⟩:=new_box w2 _ rfl [.int .i64 c0,.int .i64 c1] 24;obtain⟨w4,hw4,pq,hb4,hs4⟩:=new_box w3 _ rfl [.int .i64 a0,.int .i64 a1,.int .i64 b0,.int .i64 b1,.int .i64 c0,.int .i64 c1] 24;have hb12:Below w.heap.size w w2:=hb1.trans (hb2.mono hb1.size);have hb13:Below w.heap.size w w3:=hb12.trans (hb3.mono hb12.size);have hb14:Below w.heap.size w w4:=hb13.trans (hb4.mono hb13.size);have pa3:=(pa.below hb2).below hb3;have pb3:=pb.below hb3;obtain⟨z0,z1⟩:w3.cell? ⟨w.heap.size,0,none⟩=some (.int .i64 a0)∧w3.cell? ⟨w.heap.size,1,none⟩=some (.int .i64 a1):=⟨pa3.c 0 _ rfl,pa3.c 1 _ rfl⟩;obtain⟨z2,z3⟩:w3.cell? ⟨w1.heap.size,0,none⟩=some (.int .i64 b0)∧w3.cell? ⟨w1.heap.size,1,none⟩=some (.int .i64 b1):=⟨pb3.c 0 _ rfl,pb3.c 1 _ rfl⟩;obtain⟨z4,z5⟩:w3.cell? ⟨w2.heap.size,0,none⟩=some (.int .i64 c0)∧w3.cell? ⟨w2.heap.size,1,none⟩=some (.int .i64 c1):=⟨pc.c 0 _ rfl,pc.c 1 _ rfl⟩;have hP:InPs [(a0,a1),(b0,b1),(c0,c1)]:=by
    intro p hp;simp at hp;rcases hp with rfl|rfl|rfl;·exact ha
    ·exact hb
    ·exact hc
  have hnew:=New_ok (some ⟨w3.heap.size,0,none⟩) w3.heap.size 3 3 [(a0,a1),(b0,b1),(c0,c1)] w4 rfl (by omega) (by omega) hP rfl (fun j u hj=>by rw[Nat.zero_add];exact pq.c j u hj) 0 1 2;have hz:decide (turnM [(a0,a1),(b0,b1),(c0,c1)] ((0:Nat):Int) ((1:Nat):Int) ((2:Nat):Int)≠0)=q:=by
    rw[←hq];exact decide_eq_decide.2 (show(crs a0 a1 b0 b1 c0 c1).sign≠0↔crs a0 a1 b0 b1 c0 c1≠0 from signZ_ne)
  rw[hz] at hnew;have hnew':Calls Tryz.prog 69 #[.slice (some ⟨w3.heap.size,0,none⟩) 3 3,.int .i64 0,.int .i64 1,.int .i64 2] w4 fun e w'=>∃pv,e= .returned (.tuple #[pv,.bool q])∧Below w4.heap.size w4 w':=hnew;have HN:=Lib.hid hnew';have HB:=Lib.hid hb14;clear hnew hnew' hz hP hb12 hb13 hb14 pa pb pc pa3 pb3 hb1 hb2 hb3 hb4 hq pq ha hb hc;clear hs1 hs2 hs3 hs4;go_enter Tryz.func127,Tryz.ntmps127;go_wp2_with fail;refine HN.out.mono ?_;rintro e w5 ⟨pv,rfl,hb5⟩;have FIN:=Lib.hid (HB.out.trans (hb5.mono HB.out.size));clear hb5;go_wp2;go_ret;exact⟨rfl,FIN.out⟩
theorem ptsIn_at{w:World}{sb:Nat}{P:List (Int×Int)}(h:PtsIn w sb P):∀w':World,Below w.heap.size w w'→∀i x y,P[i]?=some (x,y)→w'.cell? ⟨sb,i*2,none⟩=some (.int .i64 x)∧w'.cell? ⟨sb,i*2+1,none⟩=some (.int .i64 y):=fun _ hb i x y hi=>(h.below hb) i x y hi
theorem ptA_get{P:List (Int×Int)}{i:Nat}{p:Int×Int}(h:P[i]?=some p):ptA P i=p:=by unfold ptA;rw[h];rfl
set_option maxRecDepth 100000 in set_option maxHeartbeats 8000000 in theorem Base_any(sb n sc:Nat)(P:List (Int×Int))(w:World)(hn:P.length=n)(h0:0<n)(hn9:n≤1000000)(hP:InPs P)(hc:PtsIn w sb P):Calls Tryz.prog 68 #[.slice (some ⟨sb,0,none⟩) n sc] w fun e w'=>∃ok s t,e= .returned (.tuple #[.agg #[.int .i64 0,.int .i64 ((s:Nat):Int),.int .i64 ((t:Nat):Int)],.bool ok])∧BaseIs P ok s t∧Below w.heap.size w w':=by
  obtain⟨⟨z0,z1⟩,hz⟩:∃p,P[0]?=some p:=⟨_,List.getElem?_eq_getElem (by omega)⟩;obtain⟨w1,hw1,pr,hb1,hs1⟩:=new_box w _ rfl [.int .i64 0,.int .i64 0,.int .i64 0] 39;have HPT:=Lib.hid (ptsIn_at hc);have HIN:=Lib.hid hP;have HN:=Lib.hid hn;have HZ:=Lib.hid hz;have PR:=Lib.hid pr;have HB1:=Lib.hid hb1;have HS1:=Lib.hid hs1;have HZP:=Lib.hid (ptA_get hz);have y0:(0:Int)<(n:Int):=by omega
  clear hc hP hn hz pr hb1 hs1;go_enter Tryz.func68,Tryz.ntmps68;go_wp2;go_loopw [4] (fun kv wr=>∃k:Nat,1≤k∧k≤n+1∧kv= .int .i64 (k:Int)∧(∀i,i<k→i<n→ptA P i=ptA P 0)∧Below w1.heap.size w1 wr) (fun kv _=>n+1-(intOf kv).toNat);case atStart=>exact⟨1,by omega,by omega,rfl,fun i h1 _=>(by rw[show i=0 by omega]),Below.refl _ _⟩
  case round=>
    obtain⟨k,hk1,hkn,rfl,hI,hbw⟩:=hrel;by_cases hlt:k<n
    · have hyd:decide ((k:Int)<(n:Int))=true:=decide_eq_true (by omega);obtain⟨⟨a0,a1⟩,hk'⟩:∃p,P[k]?=some p:=⟨_,List.getElem?_eq_getElem (by rw[HN.out];exact hlt)⟩;have hbw0:=HB1.out.trans (hbw.mono HB1.out.size);obtain⟨d0,d1⟩:=HPT.out _ hbw0 k _ _ hk';obtain⟨d2,d3⟩:=HPT.out _ hbw0 0 _ _ HZ.out;obtain⟨q,hq⟩:∃q,decide (a0=z0∧a1=z1)=q:=⟨_,rfl⟩;have heq:∀W:World,Sem.run Tryz.prog (binOp BinOp.eql 24 (Value.agg #[.int .i64 a0,.int .i64 a1]) (Value.agg #[.int .i64 z0,.int .i64 z1])) W=Result.ok (Value.bool q) W:=fun W=>by rw[eqPt_run,hq]
      have HQ:=Lib.hid hq;have HI:=Lib.hid hI;have HBW:=Lib.hid hbw;have HPK:=Lib.hid (ptA_get hk');have j1:(0:Int)≤(k:Int):=by omega
      have j2:(k:Int)<(n:Int):=by omega
      have j3:(0:Int)≤0:=by omega
      rw[Nat.zero_mul] at d2 d3;clear hq hI hbw hbw0 hk';have DD:=Lib.hid (And.intro d0 (And.intro d1 (And.intro d2 d3)));clear d0 d1 d2 d3;go_wp2_with fail;refine wp_region_noPanic ?_;refine wp_region_held_drew (S:=fun w'=>w'.cell? ⟨sb,k*2,none⟩=some (.int .i64 a0)∧w'.cell? ⟨sb,k*2+1,none⟩=some (.int .i64 a1)∧w'.cell? ⟨sb,0,none⟩=some (.int .i64 z0)∧w'.cell? ⟨sb,1,none⟩=some (.int .i64 z1)) (by kernel_rfl) (DD.out) (fun hHeld=>?_);refine rU 0 _ _ ?_;refine rU 1 _ _ ?_;refine rU 2 _ _ ?_;refine rU 3 _ _ ?_;refine rU 4 _ _ ?_;refine rU 5 _ _ ?_;refine rU 6 _ _ ?_;refine rU 7 _ _ ?_;refine rU 8 _ _ ?_;refine rU 9 _ _ ?_;refine rU 10 _ _ ?_;refine rU 11 _ _ ?_;refine rU 12 _ _ ?_;refine rU 13 _ _ ?_;refine wpAnyH_done (by kernel_rfl) ?_ _;refine NoPanic.normal ?_;clear heq;cases q with
      |true=>
        go_wp2;have hB_:=HBW.out.drew';exact⟨⟨k+1,by omega,by omega,by go_num,fun i h1 h2=>(by
          rcases Nat.lt_or_ge i k with g|g;·exact HI.out i g h2
          · obtain rfl:i=k:=by omega
            have e:=of_decide_eq_true HQ.out;rw[HPK.out,HZP.out,e.1,e.2]),hB_⟩,by simp[intOf];omega⟩|false=>
        have HLT:=Lib.hid (And.intro hk1 hlt);have HPZ:=Lib.hid (show ptA P k≠ptA P 0 from by
          intro e;rw[HPK.out,HZP.out] at e;exact of_decide_eq_false HQ.out ⟨congrArg Prod.fst e,congrArg Prod.snd e⟩);have hkw:IntKind.i64.wrap ((k:Int)+1)=((k+1:Nat):Int):=by rw[IntKind.wrap_i64];omega
        clear j3;go_wp2;have hB_:=HBW.out.drew';have HB2:=Lib.hid hB_;clear hB_;go_loopw [5] (fun tv wr=>∃t:Nat,k+1≤t∧t≤n∧tv= .int .i64 (t:Int)∧(∀i,k<i→i<t→crsP (ptA P 0) (ptA P k) (ptA P i)=0)∧Below w1.heap.size w1 wr) (fun tv _=>n-(intOf tv).toNat);case atStart=>exact⟨k+1,by omega,by omega,by go_num,fun i h1 h2=>by omega,HB2.out⟩
        case round=>
          obtain⟨t,ht1,htn,rfl,hT,hbw⟩:=hrel;have HTT:=Lib.hid hT;clear hT;by_cases hlt2:t<n
          · have hye:decide ((t:Int)<(n:Int))=true:=decide_eq_true (by omega);obtain⟨⟨b0,b1⟩,ht'⟩:∃p,P[t]?=some p:=⟨_,List.getElem?_eq_getElem (by rw[HN.out];exact hlt2)⟩;obtain⟨⟨a0',a1'⟩,hs'⟩:∃p,P[k]?=some p:=⟨_,List.getElem?_eq_getElem (by rw[HN.out];omega)⟩;have iz:=HIN.out _ (List.mem_of_getElem? HZ.out);have ia:=HIN.out _ (List.mem_of_getElem? hs');have ib:=HIN.out _ (List.mem_of_getElem? ht');obtain⟨q,hq⟩:∃q,decide (crsP (z0,z1) (a0',a1') (b0,b1)≠0)=q:=⟨_,rfl⟩;have HAR:=Lib.hid (fun W=>hasArea_any z0 z1 a0' a1' b0 b1 iz ia ib q hq W);have hcr:crsP (ptA P 0) (ptA P k) (ptA P t)=crsP (z0,z1) (a0',a1') (b0,b1):=by rw[HZP.out,ptA_get hs',ptA_get ht']
            have HCR:=Lib.hid hcr;have HS:=Lib.hid hs';have HT:=Lib.hid ht';have HQ2:=Lib.hid hq;have hB_0:=(HB1.out.trans (hbw.mono HB1.out.size)).drew';have hW_0:=hbw.drew';have j5:(0:Int)≤(t:Int):=by omega
            have j6:(t:Int)<(n:Int):=by omega
            clear iz ia ib hq hcr hs' ht' hbw;go_wp2_with fail;refine wp_region_noPanic ?_;refine wp_region_held_drew (S:=fun w'=>w'.cell? ⟨sb,0,none⟩=some (.int .i64 z0)∧w'.cell? ⟨sb,1,none⟩=some (.int .i64 z1)∧w'.cell? ⟨sb,k*2,none⟩=some (.int .i64 a0')∧w'.cell? ⟨sb,k*2+1,none⟩=some (.int .i64 a1')∧w'.cell? ⟨sb,t*2,none⟩=some (.int .i64 b0)∧w'.cell? ⟨sb,t*2+1,none⟩=some (.int .i64 b1)) (by kernel_rfl) (⟨(HPT.out _ hB_0 0 _ _ HZ.out).1,(HPT.out _ hB_0 0 _ _ HZ.out).2,(HPT.out _ hB_0 k _ _ HS.out).1,(HPT.out _ hB_0 k _ _ HS.out).2,(HPT.out _ hB_0 t _ _ HT.out).1,(HPT.out _ hB_0 t _ _ HT.out).2⟩) (fun hHeld=>?_);refine rU 0 _ _ ?_;refine rU 1 _ _ ?_;refine rU 2 _ _ ?_;refine rU 3 _ _ ?_;refine rU 4 _ _ ?_;refine rU 5 _ _ ?_;refine rU 6 _ _ ?_;refine rU 7 _ _ ?_;refine rU 8 _ _ ?_;refine rU 9 _ _ ?_;refine rU 10 _ _ ?_;refine rC 11 _ (fun K hK=>?_);go_simp;refine(HAR.out _).mono ?_;rintro e wz ⟨rfl,hbz⟩;have hB_1:=hB_0.trans (hbz.mono hB_0.size);have hW_1:=hW_0.trans (hbz.mono hW_0.size);clear hbz;go_wp2_with fail;refine hK.out _ _ (⟨(HPT.out _ hB_1 0 _ _ HZ.out).1,(HPT.out _ hB_1 0 _ _ HZ.out).2,(HPT.out _ hB_1 k _ _ HS.out).1,(HPT.out _ hB_1 k _ _ HS.out).2,(HPT.out _ hB_1 t _ _ HT.out).1,(HPT.out _ hB_1 t _ _ HT.out).2⟩) (fun hHeld=>?_);clear hK K;try simp only[Act.put,sA,sZ,sS]
            refine wpAnyH_done (by kernel_rfl) ?_ _;refine NoPanic.normal ?_;have HW:=Lib.hid hW_1;clear hB_0 hB_1 hW_0 hW_1;cases q with
            |true=>
              have pz:=PR.out.below HW.out;have o0:=pz.c 0 _ rfl;have o1:=pz.c 1 _ rfl;have o2:=pz.c 2 _ rfl;have g0:=pz.f 0 _ rfl;have g1:=pz.f 1 _ rfl;have g2:=pz.f 2 _ rfl;obtain⟨wy,hwy⟩:∃wy,setAll wz w.heap.size 0 [.int .i64 0,.int .i64 (k:Int),.int .i64 (t:Int)]=wy:=⟨_,rfl⟩;have pz2:Box wy w.heap.size [.int .i64 0,.int .i64 (k:Int),.int .i64 (t:Int)]:=by rw[←hwy];exact pz.setAll [.int .i64 0,.int .i64 (k:Int),.int .i64 (t:Int)] rfl
              have hbz:Below w.heap.size w wy:=by rw[←hwy];exact below_setAll (HB1.out.trans (HW.out.mono HB1.out.size)) (Nat.le_refl _) _
              have Z0:=Lib.hid (pz2.c 0 _ rfl);have Z1:=Lib.hid (pz2.c 1 _ rfl);have Z2:=Lib.hid (pz2.c 2 _ rfl);have HWZ:=Lib.hid hwy;have HBZ:=Lib.hid hbz;clear pz pz2 hbz hwy;go_wp2;have z0_:=Z0.out;have z1_:=Z1.out;have z2_:=Z2.out;have hwy:=HWZ.out;simp only[setAll] at hwy;rw[hwy];(try simp only[Exit.inBlock,Exit.then]);refine bodyPost_ret (v:= .tuple #[.agg #[.int .i64 0,.int .i64 (k:Int),.int .i64 (t:Int)],.bool true]) ?_ rfl ?_;·simp[results,Tryz.results68,go_sem,z0_,z1_,z2_]
              ·exact⟨true,k,t,rfl,.inl ⟨rfl,HLT.out.1,by omega,by have:=HN.out;omega,fun i hi=>HI.out i hi (by have:=HLT.out.2;omega),HPZ.out,HTT.out,by rw[HCR.out];exact of_decide_eq_true HQ2.out⟩,HBZ.out⟩|false=>
              go_wp2;exact⟨⟨t+1,by omega,by omega,by go_num,fun i h1 h2=>(by
                rcases Nat.lt_or_ge i t with g|g;·exact HTT.out i h1 g
                · obtain rfl:i=t:=by omega
                  rw[HCR.out];have:=of_decide_eq_false HQ2.out;exact Classical.not_not.1 this),HW.out⟩,by simp[intOf];omega⟩
          · obtain rfl:t=n:=by omega
            have HW:=Lib.hid hbw;clear hbw;have pz:=PR.out.below HW.out;have o0:=pz.c 0 _ rfl;have o1:=pz.c 1 _ rfl;have o2:=pz.c 2 _ rfl;have g0:=pz.f 0 _ rfl;have g1:=pz.f 1 _ rfl;have g2:=pz.f 2 _ rfl;obtain⟨wy,hwy⟩:∃wy,setAll wr w.heap.size 0 [.int .i64 0,.int .i64 0,.int .i64 0]=wy:=⟨_,rfl⟩;have pz2:Box wy w.heap.size [.int .i64 0,.int .i64 0,.int .i64 0]:=by rw[←hwy];exact pz.setAll [.int .i64 0,.int .i64 0,.int .i64 0] rfl
            have hbz:Below w.heap.size w wy:=by rw[←hwy];exact below_setAll (HB1.out.trans (HW.out.mono HB1.out.size)) (Nat.le_refl _) _
            have Z0:=Lib.hid (pz2.c 0 _ rfl);have Z1:=Lib.hid (pz2.c 1 _ rfl);have Z2:=Lib.hid (pz2.c 2 _ rfl);have HWZ:=Lib.hid hwy;have HBZ:=Lib.hid hbz;clear pz pz2 hbz hwy;go_wp2;have z0_:=Z0.out;have z1_:=Z1.out;have z2_:=Z2.out;have hwy:=HWZ.out;simp only[setAll] at hwy;rw[hwy];(try simp only[Exit.inBlock,Exit.then]);refine bodyPost_ret (v:= .tuple #[.agg #[.int .i64 0,.int .i64 0,.int .i64 0],.bool false]) ?_ rfl ?_;·simp[results,Tryz.results68,go_sem,z0_,z1_,z2_]
            ·exact⟨false,0,0,rfl,.inr ⟨rfl,rfl,rfl,k,fun i hi _=>HI.out i hi (by have:=HLT.out.2;omega),.inr ⟨HPZ.out,fun i h1 h2=>HTT.out i h1 (by have:=HN.out;omega)⟩⟩,HBZ.out⟩
    · have hyd:decide ((k:Int)<(n:Int))=false:=decide_eq_false (by omega);have HI:=Lib.hid hI;have HBW:=Lib.hid hbw;clear hI hbw;go_wp2_with fail;refine wp_region_noPanic ?_;refine wp_region_held_drew (S:=fun w'=>True) (by kernel_rfl) (trivial) (fun hHeld=>?_);refine rU 0 _ _ ?_;refine rU 1 _ _ ?_;refine rU 2 _ _ ?_;refine rU 3 _ _ ?_;refine rU 4 _ _ ?_;refine rS 5 ?_ ?_ ?_ ?_;rotate_left 1;·simp only[gA,gS,gZ];exact rfl
      ·rfl
      try simp only[Act.put,sA,sZ,sS]
      refine rS 6 ?_ ?_ ?_ ?_;rotate_left 1;·simp only[gA,gS,gZ];exact rfl
      ·rfl
      try simp only[Act.put,sA,sZ,sS]
      refine rS 7 ?_ ?_ ?_ ?_;rotate_left 1;·simp only[gA,gS,gZ];exact rfl
      ·rfl
      try simp only[Act.put,sA,sZ,sS]
      refine rS 8 ?_ ?_ ?_ ?_;rotate_left 1;·simp only[gA,gS,gZ];exact rfl
      ·rfl
      try simp only[Act.put,sA,sZ,sS]
      refine rS 9 ?_ ?_ ?_ ?_;rotate_left 1;·simp only[gA,gS,gZ];exact rfl
      ·rfl
      try simp only[Act.put,sA,sZ,sS]
      refine rS 10 ?_ ?_ ?_ ?_;rotate_left 1;·simp only[gA,gS,gZ];exact rfl
      ·rfl
      try simp only[Act.put,sA,sZ,sS]
      refine rS 11 ?_ ?_ ?_ ?_;rotate_left 1;·simp only[gA,gS,gZ];exact rfl
      ·rfl
      try simp only[Act.put,sA,sZ,sS]
      refine rS 12 ?_ ?_ ?_ ?_;rotate_left 1;·simp only[gA,gS,gZ];exact rfl
      ·rfl
      try simp only[Act.put,sA,sZ,sS]
      refine rU 13 _ _ ?_;refine wpAnyH_done (by kernel_rfl) ?_ _;refine NoPanic.normal ?_;go_wp2;have hB_:=HBW.out.drew';have HB2:=Lib.hid hB_;clear hB_;go_loopw [5] (fun tv wr=>tv= .int .i64 ((k:Int)+1)∧Below w1.heap.size w1 wr) (fun _ _=>0);case atStart=>exact⟨by go_num,HB2.out⟩
      case round=>
        obtain⟨rfl,hbw⟩:=hrel;have hyd2:decide (((k:Int)+1)<(n:Int))=false:=decide_eq_false (by omega);have HW:=Lib.hid hbw;clear hbw;have pz:=PR.out.below HW.out;have o0:=pz.c 0 _ rfl;have o1:=pz.c 1 _ rfl;have o2:=pz.c 2 _ rfl;have g0:=pz.f 0 _ rfl;have g1:=pz.f 1 _ rfl;have g2:=pz.f 2 _ rfl;obtain⟨wy,hwy⟩:∃wy,setAll wr w.heap.size 0 [.int .i64 0,.int .i64 0,.int .i64 0]=wy:=⟨_,rfl⟩;have pz2:Box wy w.heap.size [.int .i64 0,.int .i64 0,.int .i64 0]:=by rw[←hwy];exact pz.setAll [.int .i64 0,.int .i64 0,.int .i64 0] rfl
        have hbz:Below w.heap.size w wy:=by rw[←hwy];exact below_setAll (HB1.out.trans (HW.out.mono HB1.out.size)) (Nat.le_refl _) _
        have Z0:=Lib.hid (pz2.c 0 _ rfl);have Z1:=Lib.hid (pz2.c 1 _ rfl);have Z2:=Lib.hid (pz2.c 2 _ rfl);have HWZ:=Lib.hid hwy;have HBZ:=Lib.hid hbz;clear pz pz2 hbz hwy;go_wp2;have z0_:=Z0.out;have z1_:=Z1.out;have z2_:=Z2.out;have hwy:=HWZ.out;simp only[setAll] at hwy;rw[hwy];(try simp only[Exit.inBlock,Exit.then]);refine bodyPost_ret (v:= .tuple #[.agg #[.int .i64 0,.int .i64 0,.int .i64 0],.bool false]) ?_ rfl ?_;·simp[results,Tryz.results68,go_sem,z0_,z1_,z2_]
        ·exact⟨false,0,0,rfl,.inr ⟨rfl,rfl,rfl,k,fun i hi h2=>HI.out i hi (by have:=HN.out;omega),.inl (by rw[HN.out];omega)⟩,HBZ.out⟩
end Go.Proofs.YtammmemfkpcpcaaGreat
namespace Go.MagM
open Go.RowKit
theorem cors_real{P:List (Int×Int)}{T:TriM}(_hr:realT T=true)(h:∀i,i<3→InV P (T.v i)):cors P T=[ptT P T 0,ptT P T 1,ptT P T 2]:=by
  have h0:=h 0 (by omega);have h1:=h 1 (by omega);have h2:=h 2 (by omega);unfold InV at h0 h1 h2;have hf:corF T=0:=by
    unfold corF placeT;have a0:T.v 0=T.v0:=rfl;have a1:T.v 1=T.v1:=rfl;have a2:T.v 2=T.v2:=rfl;rw[if_neg (by omega),if_neg (by omega),if_neg (by omega)];rfl
  unfold cors;simp only[corsN,hf,List.nil_append];unfold corK;rw[if_pos h0,if_pos h1,if_pos h2];rfl
theorem cors_ghost{P:List (Int×Int)}{T:TriM}{j:Nat}(hj:j<3)(hg:placeT T (-1)=(j:Int))(h1:InV P (T.v ((j+1)%3)))(h2:InV P (T.v ((j+2)%3)))(h0:T.v j=-1):cors P T=[ptT P T ((j+1)%3),ptT P T ((j+2)%3)]:=by
  unfold InV at h1 h2;have hf:corF T=j+1:=by unfold corF;rw[hg];omega
  unfold cors;simp only[corsN,hf,List.nil_append];obtain rfl|rfl|rfl:j=0∨j=1∨j=2:=by omega
  all_goals (unfold corK;rw[if_pos h1,if_pos h2,if_neg (by simp[h0])];rfl)
end Go.MagM
namespace Go.Proofs.YtammmemfkpcpcaaGreat
open Go.RowKit Go.MagM
end Go.Proofs.YtammmemfkpcpcaaGreat
namespace Go.Proofs.YtammmemfkpcpcaaGreat
open Go.RowKit Go.MagM Go.Shelf
theorem intCells_get{l:List Int}{j:Nat}{z:Int}(h:l[j]?=some z):(intCells l)[j]?=some (.int .i64 z):=by unfold intCells;rw[List.getElem?_map,h];rfl
end Go.Proofs.YtammmemfkpcpcaaGreat
namespace Go.MagM
open Go.RowKit Go.Shelf
section
variable{a b c:Nat}
theorem one_only9{y:Nat}{U:TriM}(h:(newM (a:Int) b c)[y]?=some U)(hr:realT U=true):y=0∧U=⟨(a:Int),b,c,1,2,3,false,false,false⟩:=by
  have hl:y<4:=(List.getElem?_eq_some_iff.1 h).1;obtain rfl|rfl|rfl|rfl:y=0∨y=1∨y=2∨y=3:=by omega
  all_goals simp only[newM,List.getElem?_cons_zero,List.getElem?_cons_succ,Option.some.injEq] at h
  ·exact⟨rfl,h.symm⟩
  all_goals subst h;unfold realT at hr;have:=of_decide_eq_true hr;simp only[] at this;omega
end
end Go.MagM
namespace Go.MagM
open Go.RowKit Go.Shelf
end Go.MagM
namespace Go.Proofs.YtammmemfkpcpcaaGreat
open Go.RowKit Go.MagM Go.Shelf
attribute [local go_sem] Oper.semAt_some
theorem round_stops_at(n:Nat)(hn:1≤n)(Bb Bv Bm:Nat)(Pb:Nat→Prop){mb pb pc:Nat}{ta:Option Addr}{tc:Nat}{P:List (Int×Int)}{S:List TriM}(v:Int)(w:World)(hm:MeshR w mb pb pc ta tc P S)(hin:MeshIn Pb mb pb ta)(hBb:w.cell? ⟨Bb,0,none⟩=some (.func (.func 12) #[.pointer (some ⟨mb,0,none⟩)] #[]))(hBv:w.cell? ⟨Bv,0,none⟩=some (.int .i64 v))(hBm:w.cell? ⟨Bm,0,none⟩=some (.pointer (some ⟨mb,0,none⟩)))(hPv:Pb Bv)(hPm:Pb Bm):SeqStopsK Fence.wide n Tryz.prog 92 #[.pointer (some ⟨Bb,0,none⟩),.pointer (some ⟨Bv,0,none⟩),.pointer (some ⟨Bm,0,none⟩)] encR (KeepB Pb) (fun ys:List (RB S)=>ys.map (·.1)=walkM S v (atM S v) S.length (atM S v)) (fun pre:List (RB S)=>pre.map (·.1)<+:walkM S v (atM S v) S.length (atM S v)) S.length w:=fun l J Jx W hW _ _ hY h0=>round1_at n hn l Bb Bv Bm Pb v J Jx hY W (hm.below hW) hin ((hW.cell (p:=⟨Bb,0,none⟩) (World.block_lt_of_cell? w _ hBb)).trans hBb) ((hW.cell (p:=⟨Bv,0,none⟩) (World.block_lt_of_cell? w _ hBv)).trans hBv) ((hW.cell (p:=⟨Bm,0,none⟩) (World.block_lt_of_cell? w _ hBm)).trans hBm) hPv hPm h0
set_option maxHeartbeats 1000000 in theorem Around_any(mb:Nat)(v:Int)(w:World):Calls Tryz.prog 13 #[.pointer (some ⟨mb,0,none⟩),.int .i64 v] w fun e w'=>e= .returned (.func (.func 92) #[] #[.pointer (some ⟨w.heap.size+1+1,0,none⟩),.pointer (some ⟨w.heap.size+1,0,none⟩),.pointer (some ⟨w.heap.size,0,none⟩)])∧w'=((w.alloc (.cells #[.pointer (some ⟨mb,0,none⟩)] 26)).alloc (.cells #[.int .i64 v] 3)).alloc (.cells #[.func (.func 12) #[.pointer (some ⟨mb,0,none⟩)] #[]] 43):=by go_enter Tryz.func13,Tryz.ntmps13;go_wp2_with (go_at_call 37;refine(round_any _ _ v mb 12 _ rfl rfl).mono ?_;rintro e w' ⟨rfl,rfl⟩);go_ret;exact⟨rfl,rfl⟩
end Go.Proofs.YtammmemfkpcpcaaGreat
namespace Go.MagM
open Go.RowKit
def HavX(rb:Nat)(ty:TypeId)(W:World):Prop:=∃t:Int,Boxed W rb ty (.int .i64 t)
theorem havX_own{S:List TriM}(rb:Nat)(ty:TypeId)(B:Nat):OwnFrom B (fun(_:List (RB S)) W=>HavX rb ty W):=by intro s A B' row hs hg hr;obtain⟨t,hb⟩:=hs;exact⟨t,(Own.from (boxed_own rb ty (fun _:List (RB S)=>Value.int .i64 t)) B) s A B' row hb hg hr⟩
end Go.MagM
namespace Go.Proofs.YtammmemfkpcpcaaGreat
open Go.RowKit Go.MagM Go.Shelf
attribute [local go_sem] Oper.semAt_some
theorem keepsOthersG{W W':World}(h:Below W.heap.size W W'):KeepsOthers W W':=⟨h.size,fun k _ hk _=>(h.block k (Array.getElem?_eq_some_iff.1 hk).1).trans hk⟩
set_option maxRecDepth 100000 in set_option maxHeartbeats 8000000 in theorem having_any{mb pb pc:Nat}{ta:Option Addr}{tc:Nat}{P:List (Int×Int)}{S:List TriM}(v:Int)(w:World)(h:MeshR w mb pb pc ta tc P S)(hin:MeshIn (fun b=>b<w.heap.size) mb pb ta):Calls Tryz.prog 71 #[.pointer (some ⟨mb,0,none⟩),.int .i64 v] w fun e w'=>∃t:Int,e= .returned (.int .i64 t)∧Below w.heap.size w w':=by
  obtain⟨w1,hw1,pm,hb1,hs1⟩:=new_box w _ rfl [.pointer (some ⟨mb,0,none⟩)] 26;obtain⟨w2,hw2,pp,hb2,hs2⟩:=new_box w1 _ rfl [.int .i64 0] 3;obtain⟨b0,hb0⟩:∃x,w.heap.size=x:=⟨_,rfl⟩;obtain⟨rb,hrb⟩:∃x,w1.heap.size=x:=⟨_,rfl⟩;have bx2:Boxed w2 rb 3 (.int .i64 0):=by rw[←hw2,←hrb];exact Boxed.new w1 _ _
  have hB2:Below w.heap.size w w2:=hb1.trans (hb2.mono hb1.size);have bm2:Boxed w2 b0 26 (.pointer (some ⟨mb,0,none⟩)):=by
    have e1:Boxed w1 b0 26 (.pointer (some ⟨mb,0,none⟩)):=by rw[←hw1,←hb0];exact Boxed.new w _ _
    exact(hb2.block b0 (by omega)).trans e1
  have hm2:=h.below hB2;have c0:=bm2.cell;have hz1:rb=b0+1:=by omega
  have hz2:w2.heap.size=rb+1:=by omega
  have HB2:=Lib.hid hB2;have BX2:=Lib.hid bx2;have BM2:=Lib.hid bm2;have HM2:=Lib.hid hm2;have HIN:=Lib.hid hin;have HZ1:=Lib.hid hz1;have HZ2:=Lib.hid hz2;have HB0:=Lib.hid hb0;clear h hin pm pp hb1 hb2 hB2 bx2 bm2 hm2 hs1 hs2 hz1 hz2;refine(callsIn_wide (n:=20)).1 (callsIn_of_wp_marks (F:=Fence.wide) (n:=20) Tryz.func71 rfl trivial ?_ rfl);simp only[Tryz.ntmps71,List.size_toArray,List.length_cons,List.length_nil,Nat.reduceAdd,Nat.reduceSub,Array.replicate_succ,Array.replicate_zero,List.push_toArray,List.append_toArray,List.nil_append,List.cons_append];rw[wpIn_wide];go_wp2_with fail;clear hw1 hw2 hb0 hrb;refine(Around_any mb v w2).mono ?_;rintro e w3 ⟨rfl,hw3⟩;obtain⟨b,hb⟩:∃x,w2.heap.size=x:=⟨_,rfl⟩;rw[hb];have hW3:w3.heap.size=b+3:=by rw[hw3];simp;omega
  have hb23:Below w2.heap.size w2 w3:=by rw[hw3];exact(((Below.refl _ _).alloc (Nat.le_refl _) _).alloc (by simp) _).alloc (by simp;omega) _
  have q0:Boxed w3 b 26 (.pointer (some ⟨mb,0,none⟩)):=by rw[hw3,←hb];exact(((Boxed.new w2 _ _).alloc _).alloc _)
  have q1:Boxed w3 (b+1) 3 (.int .i64 v):=by rw[hw3];have:Boxed ((w2.alloc (.cells #[.pointer (some ⟨mb,0,none⟩)] 26)).alloc (.cells #[.int .i64 v] 3)) (w2.alloc (.cells #[.pointer (some ⟨mb,0,none⟩)] 26)).heap.size 3 (.int .i64 v):=Boxed.new _ _ _;rw[show(w2.alloc (.cells #[.pointer (some ⟨mb,0,none⟩)] 26)).heap.size=b+1 by simp;omega] at this;exact this.alloc _
  have q2:Boxed w3 (b+1+1) 43 (.func (.func 12) #[.pointer (some ⟨mb,0,none⟩)] #[]):=by
    rw[hw3];have:Boxed (((w2.alloc (.cells #[.pointer (some ⟨mb,0,none⟩)] 26)).alloc (.cells #[.int .i64 v] 3)).alloc (.cells #[.func (.func 12) #[.pointer (some ⟨mb,0,none⟩)] #[]] 43)) ((w2.alloc (.cells #[.pointer (some ⟨mb,0,none⟩)] 26)).alloc (.cells #[.int .i64 v] 3)).heap.size 43 (.func (.func 12) #[.pointer (some ⟨mb,0,none⟩)] #[]):=Boxed.new _ _ _;rw[show((w2.alloc (.cells #[.pointer (some ⟨mb,0,none⟩)] 26)).alloc (.cells #[.int .i64 v] 3)).heap.size=b+1+1 by simp;omega] at this;exact this
  have hm3:=HM2.out.below hb23;have hB3:=HB2.out.trans (hb23.mono HB2.out.size);have hz1:=HZ1.out;have hz2:=HZ2.out;have bx3:Boxed w3 rb 3 (.int .i64 0):=(hb23.block rb (by omega)).trans BX2.out;have bm3:Boxed w3 b0 26 (.pointer (some ⟨mb,0,none⟩)):=(hb23.block b0 (by omega)).trans BM2.out;clear hw3 c0;have hw0:w.heap.size≤b0∧b0≤w.heap.size:=by have:=HB0.out;omega
  have hl1:b0<rb:=by omega
  have hl2:rb<b:=by omega
  have hl3:b+3≤w3.heap.size∧w3.heap.size≤b+3:=by omega
  clear hz1 hz2 hW3 hb;have hin3:MeshIn (fun k=>k≠rb∧k<b+3) mb pb ta:=⟨by have:=HIN.out.m;omega,by have:=HIN.out.p;omega,fun k hk=>by have:=HIN.out.t k hk;omega⟩;have HM3:=Lib.hid hm3;have HI3:=Lib.hid hin3;go_wp2;rw[←wpIn_wide (n:=20)];refine wpIn_rangeFunc_ownG rfl (by omega) (gf:=92) (lb:=#[.pointer (some ⟨b+1+1,0,none⟩),.pointer (some ⟨b+1,0,none⟩),.pointer (some ⟨b,0,none⟩)]) rfl trivial (enters_of Tryz.func92 (by kernel_rfl) rfl) (round_stops_at 19 (by omega) (b+1+1) (b+1) b (fun k=>k≠rb∧k<b+3) v w3 hm3 hin3 q2.cell q1.cell q0.cell (by omega) (by omega)) (fun h k=>KeepB.trans h k) ?kb (Below.refl _ _) (fun _=>rfl) (fun(_:List (RB S)) W=>Boxed W rb 3 (.int .i64 0)∧KeepB (fun k=>k≠rb∧k<b+3) w3 W∧Below w.heap.size w W) (fun c (_:List (RB S)) W=>(c= .ret∧HavX rb 3 W)∧Below w.heap.size w W) (OwnFrom.and (Own.from (boxed_own rb 3 (fun _:List (RB S)=>Value.int .i64 0)) w3.heap.size) (OwnFrom.and (keepB_own (fun k hk=>by omega)) (ownFrom_below (Nat.le_refl _) (by omega)))) (fun c=>OwnFrom.and (fun s A B row hs hg hr=>⟨hs.1,havX_own _ _ _ s A B row hs.2 hg hr⟩) (ownFrom_below (Nat.le_refl _) (by omega))) ⟨bx3,KeepB.refl _ _,hB3⟩ (fun x=>{tmps:=#[.pointer (some ⟨mb,0,none⟩),.int .i64 v,.pointer (some ⟨b0,0,none⟩),undef,.pointer (some ⟨rb,0,none⟩),.int .i64 (x.1.1:Int),.pointer (some ⟨mb,0,none⟩),.int .i64 v,.func (.func 92) #[] #[.pointer (some ⟨b+1+1,0,none⟩),.pointer (some ⟨b+1,0,none⟩),.pointer (some ⟨b,0,none⟩)],.int .i64 (x.1.1:Int),.int .i64 (x.1.2:Int),undef,undef,undef,undef],defers:=[]}) ?assign ?body ?done ?stop;case kb=>
    intro W l o o' hl h _ _ k hk;exact World.putObj_heap_other (fun e=>by omega)
  case assign=>
    intro l x W K hK;dsimp only[encR];gi_wp2;exact hK
  case body=>
    rintro l pre ⟨⟨m,k⟩,hm,hk⟩ W ⟨hbx,hKB,hB⟩ _;simp only[] at hm hk;have hmW:=HM3.out.keep HI3.out hKB;have hbm:Boxed W b0 26 (.pointer (some ⟨mb,0,none⟩)):=(hKB b0 (by omega)).trans bm3;have cm:=hbm.cell;have hre:=Real_any (m:Int) W hmW;obtain⟨r,hr⟩:∃r,realM S (m:Int)=r:=⟨_,rfl⟩;rw[hr] at hre;have HRE:=Lib.hid hre;have HBX:=Lib.hid hbx;have HKB:=Lib.hid hKB;have HBB:=Lib.hid hB;clear hre hr hmW hbx hKB hB;gi_wp2_with fail;refine⟨trivial,(CallsIn.inRound l (callsIn_wide.2 HRE.out)).mono ?_⟩;rintro e W1 ⟨rfl,q,rfl⟩;have hbx1:Boxed (W.drewN q) rb 3 (.int .i64 0):=HBX.out;have hc:=hbx1.cell;have hf:=hbx1.frozen;have hb1:Below w.heap.size w (W.drewN q):=HBB.out.trans ((Drew.below ⟨q,rfl⟩:Below W.heap.size W (W.drewN q)).mono HBB.out.size);have hd1:Below W.heap.size W (W.drewN q):=Drew.below ⟨q,rfl⟩;have hkb1:KeepB (fun k=>k≠rb∧k<b+3) W (W.drewN q):=fun _ _=>rfl;cases r with
    |true=>
      gi_wp2;exact⟨((keepsOthersG hd1).trans (KeepsOthers.setCell _ _ _)).from _,⟨rfl,⟨_,hbx1.set _⟩⟩,hb1.setCell (p:=⟨rb,0,none⟩) (by simp only[];omega) _⟩|false=>gi_wp2;exact⟨(keepsOthersG hd1).from _,hkb1,hbx1,HKB.out.trans hkb1,hb1⟩
  case done=>
    rintro D xs W hD hS ⟨hbx,hKB,hB⟩ hK;have hc:=hbx.cell;have hf:=hbx.frozen;gi_wp2;go_wp2;have hK':=(KeepsOthers.setCell W ⟨rb,0,none⟩ (.int .i64 0)).same D _ hK rfl;have hb':=hB.setCell (p:=⟨rb,0,none⟩) (by simp only[];omega) (.int .i64 0);have hbx':=hbx.set (.int .i64 0);refine⟨by simp,.inl ⟨_,_,rfl,run_takeDeferred hK',?_⟩⟩;have hc5:=cell_kept hbx'.cell (grownBy_putObj' _ D (.deferred none)) (fun r e=>by cases e;exact⟨_,hK',rfl⟩);refine⟨.int .i64 0,?_,0,rfl,hb'.trans (belowK_b (w:=w) (Nat.le_refl _) _ D _ _ (by omega) hK' rfl rfl)⟩;simp[results,Tryz.results71,go_sem,hc5]
  case stop=>
    rintro D c pre W hD hS ⟨⟨rfl,⟨x,hbx⟩⟩,hB⟩ hK;gi_wp2;refine⟨by simp,.inl ⟨_,_,rfl,run_takeDeferred hK,?_⟩⟩;have hc5:=cell_kept hbx.cell (grownBy_putObj' _ D (.deferred none)) (fun r e=>by cases e;exact⟨_,hK,rfl⟩);refine⟨.int .i64 x,?_,x,rfl,hB.trans (belowK_b (w:=w) (Nat.le_refl _) _ D _ _ (by omega) hK rfl rfl)⟩;simp[results,Tryz.results71,go_sem,hc5]
end Go.Proofs.YtammmemfkpcpcaaGreat
namespace Go.MagM
open Go.RowKit
theorem begin_at{S:List TriM}{T:TriM}(h0:S[0]?=some T)(hr:realT T=true)(fr:Int):∃(t0:Nat) (T0:TriM),beginM S fr=(t0:Int)∧S[t0]?=some T0∧realT T0=true:=by
  unfold beginM;by_cases h:realM S fr=true;· obtain⟨T0,hg,hr0⟩:=realM_some h;obtain⟨h1,-,h3⟩:=getT_some hg;exact⟨fr.toNat,T0,by rw[if_pos h];omega,h3,hr0⟩
  · refine⟨0,T,?_,h0,hr⟩;rw[if_neg h];have h1:realsK S 1=[(0,T)]:=by rw[realsK_yes h0 hr];rfl
    obtain⟨rest,he⟩:=realsK_pre S S.length 1 (by have:=(List.getElem?_eq_some_iff.1 h0).1;omega);rw[←he,h1];rfl
theorem MeshR.in_{w:World}{mb pb pc:Nat}{ta:Option Addr}{tc:Nat}{P:List (Int×Int)}{S:List TriM}(h:MeshR w mb pb pc ta tc P S)(hP:0<P.length)(hS:0<S.length):MeshIn (fun b=>b<w.heap.size) mb pb ta:=by
  refine⟨World.block_lt_of_cell? w _ (h.box.c 0 _ rfl),?_,fun b hb=>?_⟩
  · obtain⟨⟨x,y⟩,hp⟩:∃q,P[0]?=some q:=⟨_,List.getElem?_eq_getElem hP⟩;exact World.block_lt_of_cell? w _ (h.pts 0 x y hp).1
  · obtain⟨T,hT⟩:∃T,S[0]?=some T:=⟨_,List.getElem?_eq_getElem hS⟩;obtain⟨tb,e,hl,-⟩:=h.tris.get hT;rw[hb] at e;cases e;exact hl
end Go.MagM
namespace Go.Proofs.YtammmemfkpcpcaaGreat
open Go.RowKit Go.MagM
theorem dig_put{S:List TriM}{ts:List Int}{W w':World}{e:Ending}{cb:Bool}{gd c:Nat}{rv:Value}(Good:List Int→Prop)(hg:Good ts)(hne:rimR S ts≠[])(he:e= .returned (.agg #[.slice (some ⟨gd,0,none⟩) ts.length c,rv,.bool cb]))(h1:RowN w' W.heap.size 3 1 (.slice (some ⟨gd,0,none⟩) ts.length c) ts.length (intCells (sortL ts)))(h2:RowN w' W.heap.size 161 5 rv (rimR S ts).length (sideCells (rimR S ts)))(hb:Below W.heap.size W w'):∃(gd c rb rc:Nat) (ts:List Int) (cb:Bool),e= .returned (.agg #[.slice (some ⟨gd,0,none⟩) ts.length c,.slice (some ⟨rb,0,none⟩) (rimR S ts).length rc,.bool cb])∧Good ts∧IntsAt w' gd (sortL ts)∧SidesAt w' rb (rimR S ts)∧(W.heap.size≤gd∧gd<w'.heap.size∧W.heap.size≤rb∧rb<w'.heap.size)∧Below W.heap.size W w':=by
  obtain⟨rb,rc,rfl⟩:∃rb rc,rv= .slice (some ⟨rb,0,none⟩) (rimR S ts).length rc:=by
    rcases h2.2 with⟨-,h⟩|⟨g,cap,cur,h,-⟩;·exact absurd (List.eq_nil_of_length_eq_zero h) hne
    ·exact⟨g,cap,h⟩
  refine⟨gd,c,rb,rc,ts,cb,he,hg,fun j z hj=>h1.cells (g:=gd) rfl j _ (intCells_get hj),fun i s hs j u hj=>?_,⟨(h1.lt gd rfl).1,(h1.lt gd rfl).2,(h2.lt rb rfl).1,(h2.lt rb rfl).2⟩,hb⟩;have hj5:j<5:=by have:=(List.getElem?_eq_some_iff.1 hj).1;exact this
  exact h2.cells (g:=rb) rfl _ u ((sideCells_get _ i j s hs hj5).trans hj)
theorem one_begin{a b c:Nat}(fr:Int):beginM (newM (a:Int) b c) fr=((0:Nat):Int):=by obtain⟨t0,T0,h1,h2,h3⟩:=begin_at (S:=newM (a:Int) b c) (T:=⟨(a:Int),b,c,1,2,3,false,false,false⟩) rfl (by unfold realT;exact decide_eq_true (by simp only[];omega)) fr;rw[h1,(one_only9 h2 h3).1]
theorem single_of{ts:List Int}{x:Int}(h:ts.Nodup)(hm:∀y,y∈ts↔y=x):ts=[x]:=by cases ts with|nil=>exact absurd ((hm x).2 rfl) (by simp)|cons a l=>have ha:a=x:=(hm a).1 (by simp);cases l with|nil=>rw[ha]|cons b l=>have hb:b=x:=(hm b).1 (by simp);rw[ha,hb] at h;simp at h
theorem sortL_one(x:Int):sortL [x]=[x]:=List.perm_singleton.1 (sortL_perm [x])
set_option maxRecDepth 100000 in set_option maxHeartbeats 16000000 in theorem Build4_any(P:List (Int×Int))(g:Nat)(cnt p0 p1:Int)(S4:List TriM)(sb sc:Nat)(w:World)(hP:InPs P)(hl:P.length=4)(hc:PtsIn w sb P)(hbase:∀ok s t,BaseIs P ok s t→ok=true∧s=1∧t=2)(hturn:turnM P ((0:Nat):Int) ((1:Nat):Int) ((2:Nat):Int)=1)(h3:P[3]?=some (p0,p1))(hg:1≤g∧g<4)(hfind:findF P (newM ((0:Nat):Int) ((1:Nat):Int) ((2:Nat):Int)) ⟨((0:Nat):Int),((1:Nat):Int),((2:Nat):Int),1,2,3,false,false,false⟩ (p0,p1) 4 0 ((0:Nat):Int)=((3,(g:Int),0,0),cnt))(hconf:∀k:Nat,k<4→k≠g→confT P (newM ((0:Nat):Int) ((1:Nat):Int) ((2:Nat):Int)) (p0,p1) (k:Int)=false)(hput:putM (newM ((0:Nat):Int) ((1:Nat):Int) ((2:Nat):Int)) ((3:Nat):Int) [] [(g:Int)]=S4)(hrim:rimR (newM ((0:Nat):Int) ((1:Nat):Int) ((2:Nat):Int)) [(g:Int)]≠[])(hok:∀s,s∈rimR (newM ((0:Nat):Int) ((1:Nat):Int) ((2:Nat):Int)) [(g:Int)]→∃u i:Nat,s.u=(u:Int)∧(u:Int)∉[(g:Int)]∧u<4∧s.i=(i:Int)∧i<3):Calls Tryz.prog 27 #[.slice (some ⟨sb,0,none⟩) 4 sc] w fun e w'=>∃mb pb pc tv,e= .returned (.tuple #[.pointer (some ⟨mb,0,none⟩),.bool true])∧MeshO 24 42 w' w.heap.size mb pb pc tv P (S4)∧Below w.heap.size w w':=by
  have hP0:P≠[]:=by intro e;rw[e] at hl;cases hl
  obtain⟨S0,hS0⟩:∃S0,newM ((0:Nat):Int) ((1:Nat):Int) ((2:Nat):Int)=S0:=⟨_,rfl⟩;have hlook:LookIn P S0:=by
    intro t T hT;rw[←hS0] at hT;rcases newM_get _ _ _ t T hT with⟨rfl,rfl⟩|⟨rfl,rfl⟩|⟨rfl,rfl⟩|⟨rfl,rfl⟩
    · refine⟨fun _ i hi=>?_,fun k hk=>?_⟩
      · obtain rfl|rfl|rfl:i=0∨i=1∨i=2:=by omega
        all_goals (unfold InV;rw[hl];decide)
      · exfalso;have:placeT (⟨((0:Nat):Int),((1:Nat):Int),((2:Nat):Int),1,2,3,false,false,false⟩:TriM) (-1)=-1:=by decide
        omega
    all_goals
      refine⟨fun hr=>?_,fun k hk=>?_⟩;·exact absurd hr (by decide)
      · have hk2:k=2:=by
          simp[placeT] at hk;omega
        subst hk2;unfold InV;rw[hl];decide
  have hnx:Nexts S0:=by
    intro t T hT i hi;rw[←hS0] at hT⊢;rcases newM_get _ _ _ t T hT with⟨rfl,rfl⟩|⟨rfl,rfl⟩|⟨rfl,rfl⟩|⟨rfl,rfl⟩;all_goals
      obtain rfl|rfl|rfl:i=0∨i=1∨i=2:=by omega
      all_goals first|exact⟨0,rfl,by decide⟩|exact⟨1,rfl,by decide⟩|exact⟨2,rfl,by decide⟩|exact⟨3,rfl,by decide⟩
  have hcor:Cornered P S0:=by
    intro t T hT;have hlk:=hlook t T hT;rw[←hS0] at hT;rcases newM_get _ _ _ t T hT with⟨rfl,rfl⟩|⟨rfl,rfl⟩|⟨rfl,rfl⟩|⟨rfl,rfl⟩
    · have hv:=hlk.1 (by decide);rw[cors_real (by decide) hv];simp
    all_goals have hv:=hlk.2 2 (by decide);rw[cors_ghost (j:=2) (by omega) (by decide) hv.1 hv.2 rfl];simp
  have hsm:SmallV S0:=by
    intro t T hT k;rw[←hS0] at hT;rcases newM_get _ _ _ t T hT with⟨rfl,rfl⟩|⟨rfl,rfl⟩|⟨rfl,rfl⟩|⟨rfl,rfl⟩;all_goals match k with|0=>decide|1=>decide|k+2=>exact(show-1000000≤(TriM.v _ 2)∧(TriM.v _ 2)≤1000000 by decide)
  have hlen0:S0.length=4:=by rw[←hS0];rfl
  have hlive:∀t,t<S0.length→Alive S0 t:=by
    intro t ht;obtain⟨T,hT⟩:∃T,S0[t]?=some T:=⟨_,List.getElem?_eq_getElem ht⟩;refine⟨T,hT,?_⟩;rw[←hS0] at hT;rcases newM_get _ _ _ t T hT with⟨rfl,rfl⟩|⟨rfl,rfl⟩|⟨rfl,rfl⟩|⟨rfl,rfl⟩;all_goals decide
  have hT0:S0[0]?=some ⟨((0:Nat):Int),((1:Nat):Int),((2:Nat):Int),1,2,3,false,false,false⟩:=by rw[←hS0];rfl
  have hbeg:∀fr,beginM S0 fr=((0:Nat):Int):=fun fr=>by rw[←hS0];exact one_begin fr
  rw[hS0] at hfind hconf hput hrim hok;obtain⟨Tg,hTg⟩:∃T,S0[g]?=some T:=⟨_,List.getElem?_eq_getElem (by omega)⟩;have hIS:InS S0 [(g:Int)]:=⟨by simp,fun z hz=>⟨g,by simpa using hz,by omega⟩⟩;have hreach:∀x,Reach S0 (confT P S0 (p0,p1)) [(g:Int)] x→x=(g:Int):=by
    intro x hx;have hcl:Closed S0 (confT P S0 (p0,p1)) [(g:Int)]:=by
      intro t i T ht hT hi _ hcf;obtain⟨u,hu,hul⟩:=hnx t T hT i hi;rw[hu] at hcf⊢;by_cases e:u=g;·rw[e];simp
      ·rw[hconf u (by omega) e] at hcf;cases hcf
    simpa using hcl.reach (fun t ht=>ht) hx
  have hpt:InP p0∧InP p1:=hP _ (List.mem_of_getElem? h3);have hdig:∀(mb pb pc:Nat)(ta:Option Addr)(tc:Nat)(W:World),MeshR W mb pb pc ta tc P S0→Calls Tryz.prog 44 #[.pointer (some ⟨mb,0,none⟩),.agg #[.int .i64 p0,.int .i64 p1],.agg #[.int .i64 3,.int .i64 (g:Int),.int .i64 0,.int .i64 0]] W fun e w'=>∃(gd c rb rc:Nat) (ts:List Int) (cb:Bool),e= .returned (.agg #[.slice (some ⟨gd,0,none⟩) ts.length c,.slice (some ⟨rb,0,none⟩) (rimR S0 ts).length rc,.bool cb])∧ts=[(g:Int)]∧IntsAt w' gd (sortL ts)∧SidesAt w' rb (rimR S0 ts)∧(W.heap.size≤gd∧gd<w'.heap.size∧W.heap.size≤rb∧rb<w'.heap.size)∧Below W.heap.size W w':=by
    intro mb pb pc ta tc W hm;refine(cvDig_any [(g:Int)] 3 (g:Int) 0 0 p0 p1 W hm hP hpt hnx hcor (by omega) hsm hIS (by simp) (fun V hV=>?_)).mono ?_
    · have:=cvBegin_off g Tg 3 0 0 V (hm.below hV) hTg (by decide);have e:takeM P Tg (g:Int) []=[(g:Int)]:=by unfold takeM;rw[if_pos ⟨hcor g Tg hTg,by simp⟩];rfl
      rw[e] at this;exact this
    · rintro e w' ⟨gd,c,rv,ts,he,hI,hts,h1,h2,hb⟩;have e1:ts=[(g:Int)]:=single_of hI.once (fun y=>⟨fun hy=>hreach y ((hts y).1 hy),fun hy=>(hts y).2 (.base (by rw[hy];simp))⟩);exact dig_put (fun ts=>ts=[(g:Int)]) e1 (by rw[e1];exact hrim) he h1 h2 hb
  have hPUT:∀(lo mb pb pc:Nat)(tv:Value)(W:World),MeshO 24 42 W lo mb pb pc tv P (S0)→Calls Tryz.prog 35 #[.pointer (some ⟨mb,0,none⟩),.int .i64 ((3:Nat):Int),.agg #[.int .i64 3,.int .i64 (g:Int),.int .i64 0,.int .i64 0]] W fun e w'=>e= .returned (.tuple #[])∧∃tv',MeshO 24 42 w' lo mb pb pc tv' P (S4)∧Mut W w' mb tv tv':=by
    intro lo mb pb pc tv W hm;refine(put_any 3 p0 p1 3 (g:Int) 0 0 [] (fun ts=>ts=[(g:Int)]) W hm h3 hlive (by omega) (fun ts e=>by subst e;rw[hlen0];exact⟨hIS,hrim,hok⟩) (fun V hV=>?_) (fun V hV=>?_)).mono ?_;·exact(faultAt_off _ 3 _ _ _ (by decide) V).mono fun e w' ⟨h1,h2⟩=>⟨_,h1,.inl ⟨rfl,rfl⟩,h2⟩
    · obtain⟨ta,tc,-,hr⟩:=(hm.below hV).read;exact hdig mb pb pc ta tc V hr
    · rintro e w' ⟨ts,tv',he,hts,h1,h2⟩;subst hts;rw[hput] at h1;exact⟨he,tv',h1,h2⟩
  have hFD:∀(mb pb pc:Nat)(ta:Option Addr)(tc:Nat)(fr:Int)(W:World),MeshR W mb pb pc ta tc P S0→MeshIn (fun b=>b<W.heap.size) mb pb ta→Calls Tryz.prog 34 #[.pointer (some ⟨mb,0,none⟩),.agg #[.int .i64 p0,.int .i64 p1],.int .i64 fr,.int .i64 ((S0.length:Nat):Int)] W fun e w'=>e= .returned (.tuple #[.agg #[.int .i64 3,.int .i64 (g:Int),.int .i64 0,.int .i64 0],.int .i64 cnt])∧Below W.heap.size W w':=by
    intro mb pb pc ta tc fr W hm hin;have:=WFind_any 0 ⟨((0:Nat):Int),((1:Nat):Int),((2:Nat):Int),1,2,3,false,false,false⟩ (p0,p1) fr ((S0.length:Nat):Int) W hm hin hP hpt hlook (hbeg fr) hT0 (by decide);rw[hlen0] at this⊢;rw[show(min ((4:Nat):Int) ((4:Nat):Int)).toNat=4 by decide,hfind] at this;exact this
  have HB:=Lib.hid (Base_any sb 4 sc P w hl (by omega) (by omega) hP hc);have HNEW:=Lib.hid (fun W (hW:PtsIn W sb P)=>New_yes (some ⟨sb,0,none⟩) sb 4 sc P W hl (by omega) (by omega) hP rfl (fun j u hj=>by
    rw[Nat.zero_add];obtain⟨q,r,hr,rfl⟩:∃q r,r<2∧j=q*2+r:=⟨j/2,j%2,Nat.mod_lt _ (by omega),by omega⟩;have hq:q<P.length:=by have:=(List.getElem?_eq_some_iff.1 hj).1;rw[ptsCells_len] at this;omega
    obtain⟨⟨x,y⟩,hxy⟩:∃p,P[q]?=some p:=⟨_,List.getElem?_eq_getElem hq⟩;obtain⟨g1,g2⟩:=ptsCells_get P q x y hxy;obtain⟨g3,g4⟩:=hW q x y hxy;obtain rfl|rfl:r=0∨r=1:=by omega
    · rw[Nat.add_zero] at hj⊢;rw[g1] at hj;cases hj;exact g3
    ·rw[g2] at hj;cases hj;exact g4) 0 1 2 hturn);have HBA:=Lib.hid hbase;have HC:=Lib.hid hc;have H3:=Lib.hid h3;have HPU:=Lib.hid hPUT;have HFN:=Lib.hid hFD;have HS0:=Lib.hid hS0;have HL4:=Lib.hid hlen0;have HL:=Lib.hid hl;clear hdig hPUT hFD hpt hreach hIS hTg hbeg hT0 hlive hsm hcor hnx hlook hfind hconf hput hrim hok hbase hturn h3 hc hP hP0 hS0 hlen0 hl;go_enter Tryz.func27,Tryz.ntmps27;go_wp2_with fail;refine HB.out.mono ?_;rintro e w1 ⟨ok,s,t,rfl,hba,hb1⟩;obtain⟨rfl,rfl,rfl⟩:=HBA.out ok s t hba;obtain⟨bb,hbb⟩:∃x,w1.heap.size=x:=⟨_,rfl⟩;obtain⟨w2,hw2,pb2,hb2,hs2⟩:=new_box w1 _ rfl [.int .i64 0,.int .i64 1,.int .i64 2] 39;rw[hbb] at pb2;have hB2:Below w.heap.size w w2:=hb1.trans (hb2.mono hb1.size);have HN:=Lib.hid (show Calls Tryz.prog 69 #[.slice (some ⟨sb,0,none⟩) 4 sc,.int .i64 0,.int .i64 1,.int .i64 2] w2 fun e w'=>∃mb pb pc tv,e= .returned (.tuple #[.pointer (some ⟨mb,0,none⟩),.bool true])∧MeshO 24 42 w' w2.heap.size mb pb pc tv P (newM ((0:Nat):Int) ((1:Nat):Int) ((2:Nat):Int))∧w2.heap.size≤pb∧Below w2.heap.size w2 w' from HNEW.out w2 (HC.out.below hB2));have z0:=pb2.c 0 _ rfl;have z1:=pb2.c 1 _ rfl;have z2:=pb2.c 2 _ rfl;have PB2:=Lib.hid pb2;have HB2:=Lib.hid hB2;have hlb:w.heap.size≤bb:=by rw[←hbb];exact hb1.size
  have HLB:=Lib.hid hlb;clear hba hb1 pb2 hb2 hs2 hB2 hlb;go_wp2_with fail;clear hbb hw2;refine HN.out.mono ?_;rintro e w3 ⟨mb,pb,pc,tv,rfl,hm,hpb,hb3⟩;rw[HS0.out] at hm;have pb3:=PB2.out.below hb3;have hB3:Below w.heap.size w w3:=HB2.out.trans (hb3.mono HB2.out.size);have hio:IntsAt w3 bb [0,1,2]:=fun j z hj=>by match j,hj with
    |0,hj=>cases hj;exact pb3.c 0 _ rfl|1,hj=>cases hj;exact pb3.c 1 _ rfl|2,hj=>cases hj;exact pb3.c 2 _ rfl|_+3,hj=>cases hj
  have HCO:=Lib.hid (fun x=>containsI_any (.slice (some ⟨bb,0,none⟩) 3 3) [0,1,2] x w3 (.inr ⟨bb,3,rfl,hio,by decide⟩));have HM:=Lib.hid hm;have HB3:=Lib.hid hB3;have y0:=pb3.c 0 _ rfl;have hlo:w.heap.size≤w2.heap.size:=HB2.out.size;have HLO:=Lib.hid hlo;have HPB:=Lib.hid hpb;clear z0 z1 z2 hm hpb hb3 hB3 pb3 hio hlo;go_wp2;clear y0;go_loopw [7,8,31] (fun lv _ iv wr=>∃k:Nat,iv= .int .i64 (k:Int)∧((k≤3∧lv= .int .i64 0∧wr=w3)∨(k=4∧∃tv',MeshO 24 42 wr w2.heap.size mb pb pc tv' P (S4)∧Below w.heap.size w wr))) (fun _ _ iv _=>4-(intOf iv).toNat);case atStart=>exact⟨0,rfl,.inl ⟨by omega,rfl,rfl⟩⟩
  case round=>
    obtain⟨k,rfl,⟨hk,rfl,rfl⟩|⟨rfl,tv',hm4,hb4⟩⟩:=hrel
    · obtain rfl|rfl|rfl|rfl:k=0∨k=1∨k=2∨k=3:=by omega
      · have HC0:=Lib.hid (HCO.out 0);rw[show decide ((0:Int)∈[(0:Int),1,2])=true by decide] at HC0;go_wp2_with fail;refine HC0.out.mono ?_;rintro e w5 ⟨rfl,rfl⟩;go_wp2;exact⟨⟨1,rfl,.inl ⟨by omega,rfl,by first|rfl|trivial⟩⟩,by simp[intOf]⟩
      · have HC0:=Lib.hid (HCO.out 1);rw[show decide ((1:Int)∈[(0:Int),1,2])=true by decide] at HC0;go_wp2_with fail;refine HC0.out.mono ?_;rintro e w5 ⟨rfl,rfl⟩;go_wp2;exact⟨⟨2,rfl,.inl ⟨by omega,rfl,by first|rfl|trivial⟩⟩,by simp[intOf]⟩
      · have HC0:=Lib.hid (HCO.out 2);rw[show decide ((2:Int)∈[(0:Int),1,2])=true by decide] at HC0;go_wp2_with fail;refine HC0.out.mono ?_;rintro e w5 ⟨rfl,rfl⟩;go_wp2;exact⟨⟨3,rfl,.inl ⟨by omega,rfl,by first|rfl|trivial⟩⟩,by simp[intOf]⟩
      · have HC0:=Lib.hid (HCO.out 3);rw[show decide ((3:Int)∈[(0:Int),1,2])=false by decide] at HC0;go_wp2_with fail;refine HC0.out.mono ?_;rintro e w5 ⟨rfl,rfl⟩;obtain⟨ta,tc,-,hr⟩:=HM.out.read;have hin:=hr.in_ (by rw[HL.out];omega) (by rw[HL4.out];omega);have HHA:=Lib.hid (having_any 0 wr hr hin);clear hin hr;go_wp2_with fail;refine HHA.out.mono ?_;rintro e w6 ⟨fr,rfl,hb6⟩;have hm6:=HM.out.below hb6;have hB6:Below w.heap.size w w6:=HB3.out.trans (hb6.mono HB3.out.size);obtain⟨ta,tc,-,hr6⟩:=hm6.read;have hin6:=hr6.in_ (by rw[HL.out];omega) (by rw[HL4.out];omega);have HIN:=Lib.hid (Insert_any 3 p0 p1 3 (g:Int) 0 0 cnt fr (fun W w'=>∃tv',MeshO 24 42 w' w2.heap.size mb pb pc tv' P (S4)∧Mut W w' mb tv tv') w6 hr6 H3.out (fun W hW=>HFN.out mb pb pc ta tc fr W (hr6.below hW) ⟨Nat.lt_of_lt_of_le hin6.m hW.size,Nat.lt_of_lt_of_le hin6.p hW.size,fun b hb=>Nat.lt_of_lt_of_le (hin6.t b hb) hW.size⟩) (fun _ W hW=>HPU.out w2.heap.size mb pb pc tv W (hm6.below hW)));have HB6:=Lib.hid hB6;clear hb6 hm6 hB6 hr6 hin6;go_wp2_with fail;refine HIN.out.mono ?_;rintro e w7 (⟨h,-⟩|⟨-,rfl,W,hW,tv',hm7,hmu7⟩);·exact absurd h (by decide)
        · have hlow:=HM.out.low;have FIN:=Lib.hid (And.intro hm7 ((HB6.out.trans (hW.mono HB6.out.size)).trans (hmu7.below (by have:=HB6.out.size;have:=hW.size;omega) (by have:=HLO.out;omega) (fun k hk=>by have:=(HM.out.row.lt k hk).1;have:=HLO.out;omega))));clear hm7 hmu7 hlow;go_wp2;exact⟨⟨4,rfl,.inr ⟨rfl,tv',FIN.out.1,FIN.out.2⟩⟩,by simp[intOf]⟩
    · have FIN:=Lib.hid (And.intro hm4 hb4);clear hm4 hb4;go_wp2;refine bodyPost_ret (v:= .tuple #[.pointer (some ⟨mb,0,none⟩),.bool true]) ?_ rfl ?_;·simp[results,Tryz.results27,go_sem]
      exact⟨mb,pb,pc,tv',rfl,⟨FIN.out.1.box,owns_mono FIN.out.1.prow HLO.out,owns_mono FIN.out.1.row HLO.out,by have:=FIN.out.1.low;have:=HLO.out;omega,FIN.out.1.apart,FIN.out.1.short⟩,FIN.out.2⟩
end Go.Proofs.YtammmemfkpcpcaaGreat
namespace Go.MagM
def qsP:List (Int×Int):=[(0,0),(2,0),(2,2),(0,2)]
def qsS:List TriM:=[⟨0,1,2,1,4,3,false,false,false⟩,⟨2,1,-1,3,5,0,false,false,false⟩,⟨-1,0,3,4,5,3,false,false,false⟩,⟨1,0,-1,2,1,0,false,false,false⟩,⟨0,2,3,5,2,0,false,false,false⟩,⟨2,-1,3,2,4,1,false,false,false⟩]
def qsR:List SideM:=[⟨0,1,3,2,false⟩,⟨1,2,1,2,false⟩,⟨2,3,5,1,false⟩,⟨3,0,2,0,false⟩]
theorem qs_get{t:Nat}{T:TriM}(h:qsS[t]?=some T):(t=0∧T=⟨0,1,2,1,4,3,false,false,false⟩)∨(t=1∧T=⟨2,1,-1,3,5,0,false,false,false⟩)∨(t=2∧T=⟨-1,0,3,4,5,3,false,false,false⟩)∨(t=3∧T=⟨1,0,-1,2,1,0,false,false,false⟩)∨(t=4∧T=⟨0,2,3,5,2,0,false,false,false⟩)∨(t=5∧T=⟨2,-1,3,2,4,1,false,false,false⟩):=by match t,h with|0,h=>cases h;exact .inl ⟨rfl,rfl⟩|1,h=>cases h;exact .inr (.inl ⟨rfl,rfl⟩)|2,h=>cases h;exact .inr (.inr (.inl ⟨rfl,rfl⟩))|3,h=>cases h;exact .inr (.inr (.inr (.inl ⟨rfl,rfl⟩)))|4,h=>cases h;exact .inr (.inr (.inr (.inr (.inl ⟨rfl,rfl⟩))))|5,h=>cases h;exact .inr (.inr (.inr (.inr (.inr ⟨rfl,rfl⟩))))|_+6,h=>cases h
end Go.MagM
namespace Go.Proofs.YtammmemfkpcpcaaGreat
open Go.RowKit Go.MagM
theorem qs_in:InPs qsP:=by intro p hp;simp[qsP] at hp;rcases hp with rfl|rfl|rfl|rfl<;>(unfold InP;omega)
theorem qs_base(ok:Bool)(s t:Nat)(h:BaseIs qsP ok s t):ok=true∧s=1∧t=2:=by
  have e1:ptA qsP 1≠ptA qsP 0:=by decide
  have e2:crsP (ptA qsP 0) (ptA qsP 1) (ptA qsP 2)≠0:=by decide
  have hl:qsP.length=4:=rfl;rcases h with⟨h0,h1,h2,h3,h4,h5,h6,h7⟩|⟨h0,-,-,k,h1,h2⟩
  · have hs:s=1:=by
      rcases Nat.lt_or_ge 1 s with g|g;·exact absurd (h4 1 g) e1
      ·omega
    subst hs;refine⟨h0,rfl,?_⟩;rcases Nat.lt_or_ge 2 t with g|g;·exact absurd (h6 2 (by omega) g) e2
    ·omega
  · exfalso;have hk:k≤1:=by
      rcases Nat.lt_or_ge 1 k with g|g;·exact absurd (h1 1 g (by omega)) e1
      ·exact g
    rcases h2 with h2|⟨h2,h3⟩;·omega
    · have hk1:k=1:=by
        rcases Nat.lt_or_ge 0 k with g|g;·omega
        · obtain rfl:k=0:=by omega
          exact absurd rfl h2
      subst hk1;exact e2 (h3 2 (by omega) (by omega))
theorem qs_build(sb sc:Nat)(w:World)(hc:PtsIn w sb qsP):Calls Tryz.prog 27 #[.slice (some ⟨sb,0,none⟩) 4 sc] w fun e w'=>∃mb pb pc tv,e= .returned (.tuple #[.pointer (some ⟨mb,0,none⟩),.bool true])∧MeshO 24 42 w' w.heap.size mb pb pc tv qsP qsS∧Below w.heap.size w w':=by
  have e:sortL [((2:Nat):Int)]=[((2:Nat):Int)]:=sortL_one _;refine Build4_any qsP 2 2 0 2 qsS sb sc w qs_in rfl hc qs_base (by decide+kernel) rfl (by omega) (by decide+kernel) (fun k hk hne=>?_) ?_ ?_ (fun s hs=>?_)
  · obtain rfl|rfl|rfl:k=0∨k=1∨k=3:=by omega
    all_goals decide+kernel
  · unfold putM;rw[e];rfl
  ·exact(show rimR (newM ((0:Nat):Int) ((1:Nat):Int) ((2:Nat):Int)) [((2:Nat):Int)]=[⟨-1,0,3,0,false⟩,⟨0,2,0,1,false⟩,⟨2,-1,1,1,false⟩] from rfl)▸(by simp)
  · rw[show rimR (newM ((0:Nat):Int) ((1:Nat):Int) ((2:Nat):Int)) [((2:Nat):Int)]=[⟨-1,0,3,0,false⟩,⟨0,2,0,1,false⟩,⟨2,-1,1,1,false⟩] from rfl] at hs;simp only[List.mem_cons,List.not_mem_nil,or_false] at hs;rcases hs with rfl|rfl|rfl;·exact⟨3,0,rfl,by decide,by omega,rfl,by omega⟩
    ·exact⟨0,1,rfl,by decide,by omega,rfl,by omega⟩
    ·exact⟨1,1,rfl,by decide,by omega,rfl,by omega⟩
theorem qs_look:LookIn qsP qsS:=by intro t T hT;have hl:qsP.length=4:=rfl;rcases qs_get hT with⟨rfl,rfl⟩|⟨rfl,rfl⟩|⟨rfl,rfl⟩|⟨rfl,rfl⟩|⟨rfl,rfl⟩|⟨rfl,rfl⟩;all_goals
    refine⟨fun hr i hi=>?_,fun k hk=>?_⟩;·first
        |exact absurd hr (by decide)
        | (obtain rfl|rfl|rfl:i=0∨i=1∨i=2:=by omega
           all_goals (unfold InV;rw[hl];decide))
    · simp[placeT] at hk;all_goals first
        |omega
        | (obtain rfl:k=2:=by omega
           unfold InV;rw[hl];decide)
        | (obtain rfl:k=1:=by omega
           unfold InV;rw[hl];decide)
        | (obtain rfl:k=0:=by omega
           unfold InV;rw[hl];decide)
theorem qs_nexts:Nexts qsS:=by
  intro t T hT i hi;rcases qs_get hT with⟨rfl,rfl⟩|⟨rfl,rfl⟩|⟨rfl,rfl⟩|⟨rfl,rfl⟩|⟨rfl,rfl⟩|⟨rfl,rfl⟩;all_goals
    obtain rfl|rfl|rfl:i=0∨i=1∨i=2:=by omega
    all_goals first|exact⟨0,rfl,by decide⟩|exact⟨1,rfl,by decide⟩|exact⟨2,rfl,by decide⟩|exact⟨3,rfl,by decide⟩|exact⟨4,rfl,by decide⟩|exact⟨5,rfl,by decide⟩
theorem qs_cornered:Cornered qsP qsS:=by intro t T hT;rcases qs_get hT with⟨rfl,rfl⟩|⟨rfl,rfl⟩|⟨rfl,rfl⟩|⟨rfl,rfl⟩|⟨rfl,rfl⟩|⟨rfl,rfl⟩;all_goals decide+kernel
theorem qs_small:SmallV qsS:=by intro t T hT k;rcases qs_get hT with⟨rfl,rfl⟩|⟨rfl,rfl⟩|⟨rfl,rfl⟩|⟨rfl,rfl⟩|⟨rfl,rfl⟩|⟨rfl,rfl⟩;all_goals match k with|0=>decide|1=>decide|k+2=>exact(show-1000000≤(TriM.v _ 2)∧(TriM.v _ 2)≤1000000 by decide)
theorem qs_conf:confT qsP qsS (1,1) 1=false∧confT qsP qsS (1,1) 2=false∧confT qsP qsS (1,1) 3=false∧confT qsP qsS (1,1) 5=false:=by decide+kernel
theorem two_of{ts:List Int}{x y:Int}(hxy:x≠y)(h:ts.Nodup)(hm:∀z,z∈ts↔z=x∨z=y):ts=[x,y]∨ts=[y,x]:=by match ts,h,hm with
  |[],_,hm=>exact absurd ((hm x).2 (.inl rfl)) (by simp)|[a],_,hm=>
    have h1:=(hm x).2 (.inl rfl);have h2:=(hm y).2 (.inr rfl);simp at h1 h2;exact absurd (h1.trans h2.symm) hxy|[a,b],h,hm=>
    have ha:=(hm a).1 (by simp);have hb:=(hm b).1 (by simp);have hab:a≠b:=by simp at h;exact h
    rcases ha with rfl|rfl<;>rcases hb with rfl|rfl;·exact absurd rfl hab
    ·exact .inl rfl
    ·exact .inr rfl
    ·exact absurd rfl hab|a::b::c::l,h,hm=>exfalso;have ha:=(hm a).1 (by simp);have hb:=(hm b).1 (by simp);have hc:=(hm c).1 (by simp);simp at h;obtain⟨⟨h1,h2,-⟩,⟨h3,-⟩,-⟩:=h;rcases ha with rfl|rfl<;>rcases hb with rfl|rfl<;>rcases hc with rfl|rfl<;>simp_all
theorem qs_place{mb pb pc:Nat}{ta:Option Addr}{tc:Nat}(w:World)(h:MeshR w mb pb pc ta tc qsP qsS):Calls Tryz.prog 45 #[.pointer (some ⟨mb,0,none⟩),.agg #[.int .i64 1,.int .i64 1]] w fun e w'=>e= .returned (.agg #[.int .i64 1,.int .i64 0,.int .i64 0,.int .i64 2])∧Below w.heap.size w w':=by have:=Look_any (1,1) w h qs_in (by unfold InP;omega) qs_look;rw[show lookM qsP qsS (1,1)=(1,0,0,2) from by decide+kernel] at this;exact this
theorem qs_dig{mb pb pc:Nat}{ta:Option Addr}{tc:Nat}(w:World)(h:MeshR w mb pb pc ta tc qsP qsS):Calls Tryz.prog 44 #[.pointer (some ⟨mb,0,none⟩),.agg #[.int .i64 1,.int .i64 1],.agg #[.int .i64 1,.int .i64 0,.int .i64 0,.int .i64 2]] w fun e w'=>∃(g c:Nat) (rv:Value) (ct:Bool),e= .returned (.agg #[.slice (some ⟨g,0,none⟩) 2 c,rv,.bool ct])∧RowN w' w.heap.size 161 5 rv 4 (sideCells qsR)∧RowN w' w.heap.size 3 1 (.slice (some ⟨g,0,none⟩) 2 c) 2 (intCells [0,4])∧Below w.heap.size w w':=by
  have hIS:InS qsS [((0:Nat):Int),((4:Nat):Int)]:=⟨by decide,fun z hz=>by
    simp at hz;rcases hz with rfl|rfl;·exact⟨0,rfl,by decide⟩
    ·exact⟨4,rfl,by decide⟩⟩;have hreach:∀x,Reach qsS (confT qsP qsS (1,1)) [((0:Nat):Int),((4:Nat):Int)] x→x∈[((0:Nat):Int),((4:Nat):Int)]:=by
    intro x hx;have hcl:Closed qsS (confT qsP qsS (1,1)) [((0:Nat):Int),((4:Nat):Int)]:=by
      intro t i T ht hT hi _ hcf;obtain⟨c1,c2,c3,c5⟩:=qs_conf;have ht':t=0∨t=4:=by simp at ht;omega
      rcases qs_get hT with⟨rfl,rfl⟩|⟨rfl,rfl⟩|⟨rfl,rfl⟩|⟨rfl,rfl⟩|⟨rfl,rfl⟩|⟨rfl,rfl⟩;all_goals first
        |omega
        | (obtain rfl|rfl|rfl:i=0∨i=1∨i=2:=by omega
           all_goals (simp only[TriM.n] at hcf⊢;first|decide|(rw[c1] at hcf;cases hcf)|(rw[c2] at hcf;cases hcf)|(rw[c3] at hcf;cases hcf)|(rw[c5] at hcf;cases hcf)))
    exact hcl.reach (fun t ht=>ht) hx
  refine(cvDig_any [((0:Nat):Int),((4:Nat):Int)] 1 0 0 2 1 1 w h qs_in (by unfold InP;omega) qs_nexts qs_cornered (by decide) qs_small hIS (by simp) (fun V hV=>?_)).mono ?_
  · have:=cvBegin_on 0 ⟨0,1,2,1,4,3,false,false,false⟩ 0 2 V (h.below hV) rfl 1 (by omega) 4 ⟨0,2,3,5,2,0,false,false,false⟩ rfl rfl (.inr ⟨by decide,by decide⟩);rw[show takeM qsP ⟨0,2,3,5,2,0,false,false,false⟩ ((4:Nat):Int) (takeM qsP ⟨0,1,2,1,4,3,false,false,false⟩ ((0:Nat):Int) [])=[((0:Nat):Int),((4:Nat):Int)] from by decide+kernel] at this;exact this
  · rintro e w' ⟨g,c,rv,ts,he,hI,hts,h1,h2,hb⟩;have e1:ts=[((0:Nat):Int),((4:Nat):Int)]∨ts=[((4:Nat):Int),((0:Nat):Int)]:=two_of (by decide) hI.once fun z=>⟨fun hz=>by simpa using hreach z ((hts z).1 hz),fun hz=>(hts z).2 (.base (by simpa using hz))⟩;have er:inRowM (rimP qsS ts ts.length)=qsR:=by rcases e1 with rfl|rfl<;>rfl
    have el:ts.length=2:=by rcases e1 with rfl|rfl<;>rfl
    have es:sortL ts=[0,4]:=by
      have hp:=sortL_perm ts;have hm:∀z,z∈ts↔z=0∨z=4:=fun z=>by
        rcases e1 with rfl|rfl;·simp
        ·simp[or_comm]
      rcases two_of (x:=0) (y:=4) (by decide) (hp.nodup_iff.2 hI.once) (fun z=>by rw[hp.mem_iff];exact hm z) with h|h;·exact h
      · have hu:=sortL_up ts;rw[h] at hu;simp at hu
    rw[er] at h2 he;rw[es,el] at h1;rw[el] at he;exact⟨g,c,rv,_,he,h2,h1,hb⟩
theorem int_sub(a b:Int):((a-b:Int):Rat)=(a:Rat)-(b:Rat):=Rat.intCast_sub a b
theorem cx_is{a0 a1 b0 b1 v0 v1:Int}(X:Int)(h:crs a0 a1 b0 b1 v0 v1≠0)(e:(X-a0)*(crs a0 a1 b0 b1 v0 v1+crs a0 a1 b0 b1 v0 v1)=cxN a0 a1 b0 b1 v0 v1):cx a0 a1 b0 b1 v0 v1=(X:Rat):=by have hd:((crs a0 a1 b0 b1 v0 v1+crs a0 a1 b0 b1 v0 v1:Int):Rat)≠0:=ic_ne (by omega);have h1:=cx_mul h;rw[←e,ic_mul,int_sub] at h1;have:=mul_cancel hd h1;grind
theorem cy_is{a0 a1 b0 b1 v0 v1:Int}(Y:Int)(h:crs a0 a1 b0 b1 v0 v1≠0)(e:(Y-a1)*(crs a0 a1 b0 b1 v0 v1+crs a0 a1 b0 b1 v0 v1)=cyN a0 a1 b0 b1 v0 v1):cy a0 a1 b0 b1 v0 v1=(Y:Rat):=by have hd:((crs a0 a1 b0 b1 v0 v1+crs a0 a1 b0 b1 v0 v1:Int):Rat)≠0:=ic_ne (by omega);have h1:=cy_mul h;rw[←e,ic_mul,int_sub] at h1;have:=mul_cancel hd h1;grind
theorem ratQ_is{p0 p1 v0 v1 x1 y1 x2 y2:Int}(k:Int)(hd:sqd p0 p1 v0 v1≠0)(e:(y2-y1)*(v0-p0)-(x2-x1)*(v1-p1)=k*sqd p0 p1 v0 v1):ratQ p0 p1 v0 v1 ((x1:Rat),(y1:Rat)) ((x2:Rat),(y2:Rat))=(k:Rat):=by unfold ratQ;simp only[];rw[dist_int];refine mul_cancel (ic_ne hd) ?_;rw[Rat.div_mul_cancel (ic_ne hd),←ic_mul,←e,int_sub,ic_mul,ic_mul,int_sub,int_sub,int_sub,int_sub]
theorem qs_corn:cornR qsP 1 1 ⟨0,1,3,2,false⟩=(((1:Int):Rat),((0:Int):Rat))∧cornR qsP 1 1 ⟨1,2,1,2,false⟩=(((2:Int):Rat),((1:Int):Rat))∧cornR qsP 1 1 ⟨2,3,5,1,false⟩=(((1:Int):Rat),((2:Int):Rat))∧cornR qsP 1 1 ⟨3,0,2,0,false⟩=(((0:Int):Rat),((1:Int):Rat)):=by
  refine⟨?_,?_,?_,?_⟩;·exact Prod.ext (cx_is (a0:=1) (a1:=1) (b0:=0) (b1:=0) (v0:=2) (v1:=0) 1 (by decide) (by decide)) (cy_is (a0:=1) (a1:=1) (b0:=0) (b1:=0) (v0:=2) (v1:=0) 0 (by decide) (by decide))
  ·exact Prod.ext (cx_is (a0:=1) (a1:=1) (b0:=2) (b1:=0) (v0:=2) (v1:=2) 2 (by decide) (by decide)) (cy_is (a0:=1) (a1:=1) (b0:=2) (b1:=0) (v0:=2) (v1:=2) 1 (by decide) (by decide))
  ·exact Prod.ext (cx_is (a0:=1) (a1:=1) (b0:=2) (b1:=2) (v0:=0) (v1:=2) 1 (by decide) (by decide)) (cy_is (a0:=1) (a1:=1) (b0:=2) (b1:=2) (v0:=0) (v1:=2) 2 (by decide) (by decide))
  ·exact Prod.ext (cx_is (a0:=1) (a1:=1) (b0:=0) (b1:=2) (v0:=0) (v1:=0) 0 (by decide) (by decide)) (cy_is (a0:=1) (a1:=1) (b0:=0) (b1:=2) (v0:=0) (v1:=0) 1 (by decide) (by decide))
theorem qs_shares:sharesL qsP 1 1 qsR=[(0,((1:Int):Rat)),(1,((1:Int):Rat)),(2,((1:Int):Rat)),(3,((1:Int):Rat))]:=by
  obtain⟨c0,c1,c2,c3⟩:=qs_corn;have e0:shareL qsP 1 1 qsR 0=(0,((1:Int):Rat)):=by
    show((0:Int),ratQ 1 1 0 0 (cornR qsP 1 1 ⟨3,0,2,0,false⟩) (cornR qsP 1 1 ⟨0,1,3,2,false⟩))=_;rw[c3,c0,ratQ_is 1 (by decide) (by decide)]
  have e1:shareL qsP 1 1 qsR 1=(1,((1:Int):Rat)):=by show((1:Int),ratQ 1 1 2 0 (cornR qsP 1 1 ⟨0,1,3,2,false⟩) (cornR qsP 1 1 ⟨1,2,1,2,false⟩))=_;rw[c0,c1,ratQ_is 1 (by decide) (by decide)]
  have e2:shareL qsP 1 1 qsR 2=(2,((1:Int):Rat)):=by
    show((2:Int),ratQ 1 1 2 2 (cornR qsP 1 1 ⟨1,2,1,2,false⟩) (cornR qsP 1 1 ⟨2,3,5,1,false⟩))=_;rw[c1,c2,ratQ_is 1 (by decide) (by decide)]
  have e3:shareL qsP 1 1 qsR 3=(3,((1:Int):Rat)):=by show((3:Int),ratQ 1 1 0 2 (cornR qsP 1 1 ⟨2,3,5,1,false⟩) (cornR qsP 1 1 ⟨3,0,2,0,false⟩))=_;rw[c2,c3,ratQ_is 1 (by decide) (by decide)]
  show[shareL qsP 1 1 qsR 0,shareL qsP 1 1 qsR 1,shareL qsP 1 1 qsR 2,shareL qsP 1 1 qsR 3]=_;rw[e0,e1,e2,e3]
theorem qs_sides:SidesOk qsP 1 1 qsR:=by
  intro s hs;simp only[qsR,List.mem_cons,List.not_mem_nil,or_false] at hs;rcases hs with rfl|rfl|rfl|rfl;·exact⟨0,1,rfl,rfl,by decide,by decide,by decide⟩
  ·exact⟨1,2,rfl,rfl,by decide,by decide,by decide⟩
  ·exact⟨2,3,rfl,rfl,by decide,by decide,by decide⟩
  ·exact⟨3,0,rfl,rfl,by decide,by decide,by decide⟩
theorem qs_apart:∀(v:Nat)(x y:Int),qsP[v]?=some (x,y)→distQ ((1:Int):Rat) ((1:Int):Rat) x y≠0:=by intro v x y h;rw[dist_int];refine ic_ne ?_;match v,h with|0,h=>cases h;decide|1,h=>cases h;decide|2,h=>cases h;decide|3,h=>cases h;decide|_+4,h=>cases h
theorem inL0:InP 0:=by unfold InP;omega
theorem inL1:InP 1:=by unfold InP;omega
theorem inL2:InP 2:=by unfold InP;omega
theorem inL4:InP 4:=by unfold InP;omega
theorem one_sign:(((1:Int):Rat)).num.sign=1:=by rw[Rat.num_intCast];decide
theorem fit_apart:distQ ((0:Int):Rat) ((0:Int):Rat) ((2:Int):Rat) ((0:Int):Rat)≠0:=by rw[dist_int];exact ic_ne (by decide)
theorem fit_top:(((4:Int):Rat)-((0:Int):Rat))*(((2:Int):Rat)-((0:Int):Rat))-(((1:Int):Rat)-((1:Int):Rat))*(((0:Int):Rat)-((0:Int):Rat))=((8:Int):Rat):=by simp only[←int_sub,←ic_mul];rfl
theorem fit_two:((8:Int):Rat)/distQ ((0:Int):Rat) ((0:Int):Rat) ((2:Int):Rat) ((0:Int):Rat)=((2:Int):Rat):=by rw[dist_int];refine mul_cancel (ic_ne (show sqd 0 0 2 0≠0 by decide)) ?_;rw[Rat.div_mul_cancel (ic_ne (by decide)),←ic_mul];rfl
set_option maxRecDepth 100000 in set_option maxHeartbeats 16000000 in theorem fit15_any(w:World):Calls Tryz.prog 24 #[] w fun e w'=>e= .returned (.bool true)∧Below w.heap.size w w':=by
  obtain⟨w1,hw1,pp,hb1,hs1⟩:=new_box w _ rfl [.int .i64 0,.int .i64 0,.int .i64 2,.int .i64 0,.int .i64 2,.int .i64 2,.int .i64 0,.int .i64 2] 24;have hpt:PtsIn w1 w.heap.size qsP:=fun i x y hi=>by match i,hi with
    |0,hi=>cases hi;exact⟨pp.c 0 _ rfl,pp.c 1 _ rfl⟩|1,hi=>cases hi;exact⟨pp.c 2 _ rfl,pp.c 3 _ rfl⟩|2,hi=>cases hi;exact⟨pp.c 4 _ rfl,pp.c 5 _ rfl⟩|3,hi=>cases hi;exact⟨pp.c 6 _ rfl,pp.c 7 _ rfl⟩|_+4,hi=>cases hi
  have HN:=Lib.hid (qs_build w.heap.size 4 w1 hpt);have HB1:=Lib.hid hb1;clear pp hb1 hs1 hpt;go_enter Tryz.func24,Tryz.ntmps24;go_wp2_with fail;refine HN.out.mono ?_;rintro e w2 ⟨mb,pb0,pc,tv,rfl,hm,hb2⟩;obtain⟨ta,tcc,-,hr⟩:=hm.read;obtain⟨w3,hw3,pq,hb3,hs3⟩:=new_box w2 _ rfl [.int .i64 1,.int .i64 1] 24;obtain⟨pb,hpb⟩:∃x,w2.heap.size=x:=⟨_,rfl⟩;rw[hpb] at pq;have HR3:=Lib.hid (hr.below hb3);have HB3:=Lib.hid (HB1.out.trans ((hb2.trans (hb3.mono hb2.size)).mono HB1.out.size));have PQ:=Lib.hid pq;have C5:=Lib.hid (show∀w',Below w3.heap.size w3 w'→w'.cell? ⟨pb,0,none⟩=some (.int .i64 1)∧w'.cell? ⟨pb,1,none⟩=some (.int .i64 1) from fun w' hb=>⟨(PQ.out.below hb).c 0 _ rfl,(PQ.out.below hb).c 1 _ rfl⟩);clear hm hb2 hr hb3 hs3 pq hw1;go_wp2;clear hw3 hpb;have hB_0:=(Below.refl w3.heap.size w3).drew';refine wp_region_noPanic ?_;refine wp_region_held_drew (S:=fun w'=>w'.cell? ⟨pb,0,none⟩=some (.int .i64 1)∧w'.cell? ⟨pb,1,none⟩=some (.int .i64 1)) (by kernel_rfl) (C5.out _ hB_0) (fun hHeld=>?_);refine rU 0 _ _ ?_;refine rU 1 _ _ ?_;refine rU 2 _ _ ?_;refine rU 3 _ _ ?_;refine rU 4 _ _ ?_;refine rU 5 _ _ ?_;refine rC 6 _ (fun K hK=>?_);go_simp;refine(qs_place _ (HR3.out.below hB_0)).mono ?_;rintro e u1 ⟨rfl,hbhB1⟩;have hB_1:=hB_0.trans (hbhB1.mono hB_0.size);clear hbhB1;go_wp2_with fail;refine hK.out _ _ (C5.out _ hB_1) (fun hHeld=>?_);clear hK K;try simp only[Act.put,sA,sZ,sS]
  refine rC 7 _ (fun K hK=>?_);go_simp;refine(qs_dig _ (HR3.out.below hB_1)).mono ?_;rintro e u2 ⟨tg,tc,rv,ct,rfl,hrim,-,hbhB2⟩;obtain⟨ro,rc,rfl⟩:=hrim.shape;have hB_2:=hB_1.trans (hbhB2.mono hB_1.size);clear hbhB2;go_wp2_with fail;refine hK.out _ _ (C5.out _ hB_2) (fun hHeld=>?_);clear hK K;try simp only[Act.put,sA,sZ,sS]
  refine rC 8 _ (fun K hK=>?_);go_simp;refine(lSides_any 1 1 (some ⟨tg,0,none⟩) 2 tc ro 4 rc ct qsR _ _ (HR3.out.below hB_2) hrim rfl (by omega) qs_sides qs_in ⟨inL1,inL1⟩ qs_apart).mono ?_;rintro e u3 ⟨sv,sxs,rfl,hrow,hsh,hbhB3⟩;have hB_3:=hB_2.trans (hbhB3.mono hB_2.size);clear hbhB3;go_wp2_with fail;refine hK.out _ _ (C5.out _ hB_3) (fun hHeld=>?_);clear hK K;try simp only[Act.put,sA,sZ,sS]
  refine rU 9 _ _ ?_;refine wpAnyH_done (by kernel_rfl) ?_ _;refine NoPanic.normal ?_;obtain⟨so,sc,rfl⟩:=hrow.shape;obtain⟨sg,rfl⟩:∃sg,so=some ⟨sg,0,none⟩:=by
    rcases hrow.2 with⟨-,h⟩|⟨g,cap,cur,h,-⟩;·omega
    ·injection h with h;exact⟨g,h⟩
  rw[qs_shares] at hsh;obtain⟨m0,o0,n0,c0,p0,k0,d0,x00,x01,x02,x03,f0⟩:=hsh.2 0 _ _ rfl;obtain⟨m1,o1,n1,c1,p1,k1,d1,x10,x11,x12,x13,f1⟩:=hsh.2 1 _ _ rfl;obtain⟨m3,o3,n3,c3,p3,k3,d3,x30,x31,x32,x33,f3⟩:=hsh.2 3 _ _ rfl;have F0:=Lib.hid f0;have F1:=Lib.hid f1;have F3:=Lib.hid f3;have HROW:=Lib.hid hrow;have C6:=Lib.hid (show∀w',Below u3.heap.size u3 w'→w'.cell? ⟨sg,1,none⟩=some (.bool m0)∧w'.cell? ⟨sg,2,none⟩=some (.slice o0 n0 c0)∧w'.cell? ⟨sg,3,none⟩=some (.slice p0 k0 d0)∧w'.cell? ⟨sg,5,none⟩=some (.bool m1)∧w'.cell? ⟨sg,6,none⟩=some (.slice o1 n1 c1)∧w'.cell? ⟨sg,7,none⟩=some (.slice p1 k1 d1)∧w'.cell? ⟨sg,13,none⟩=some (.bool m3)∧w'.cell? ⟨sg,14,none⟩=some (.slice o3 n3 c3)∧w'.cell? ⟨sg,15,none⟩=some (.slice p3 k3 d3) from fun w' hb=>by have h:=HROW.out.below hb;exact⟨h.cells (g:=sg) rfl _ _ x01,h.cells (g:=sg) rfl _ _ x02,h.cells (g:=sg) rfl _ _ x03,h.cells (g:=sg) rfl _ _ x11,h.cells (g:=sg) rfl _ _ x12,h.cells (g:=sg) rfl _ _ x13,h.cells (g:=sg) rfl _ _ x31,h.cells (g:=sg) rfl _ _ x32,h.cells (g:=sg) rfl _ _ x33⟩);have HBB:=Lib.hid (HB3.out.trans (hB_3.mono HB3.out.size));clear hrow hsh f0 f1 f3 x00 x01 x02 x03 x10 x11 x12 x13 x30 x31 x32 x33 hrim hB_0 hB_1 hB_2 hB_3 hHeld;go_wp2;have hq_0:=(Below.refl u3.heap.size u3).drew';refine wp_region_noPanic ?_;refine wp_region_held_drew (S:=fun w'=>w'.cell? ⟨sg,1,none⟩=some (.bool m0)∧w'.cell? ⟨sg,2,none⟩=some (.slice o0 n0 c0)∧w'.cell? ⟨sg,3,none⟩=some (.slice p0 k0 d0)∧w'.cell? ⟨sg,5,none⟩=some (.bool m1)∧w'.cell? ⟨sg,6,none⟩=some (.slice o1 n1 c1)∧w'.cell? ⟨sg,7,none⟩=some (.slice p1 k1 d1)∧w'.cell? ⟨sg,13,none⟩=some (.bool m3)∧w'.cell? ⟨sg,14,none⟩=some (.slice o3 n3 c3)∧w'.cell? ⟨sg,15,none⟩=some (.slice p3 k3 d3)) (by kernel_rfl) (C6.out _ hq_0) (fun hHeld=>?_);refine rU 0 _ _ ?_;refine rU 1 _ _ ?_;refine rU 2 _ _ ?_;refine rU 3 _ _ ?_;refine rU 4 _ _ ?_;refine rU 5 _ _ ?_;refine rU 6 _ _ ?_;refine rU 7 _ _ ?_;refine rU 8 _ _ ?_;refine rU 9 _ _ ?_;refine rU 10 _ _ ?_;refine rU 11 _ _ ?_;refine rC 12 _ (fun K hK=>?_);go_simp;refine(qSame_yes _ _ ((((7+7+2)+(1+1+2)+2)+((7+7+2)+(1+1+2)+2)+2)+(((1+1+2)+(1+1+2)+2)+((1+1+2)+(1+1+2)+2)+2)+3) ((((7+7+2)+(1+1+2)+2)+((7+7+2)+(1+1+2)+2)+2)+(((1+1+2)+(1+1+2)+2)+((1+1+2)+(1+1+2)+2)+2)+3) _ _ _ (by omega) (by omega) (F0.out.below hq_0).q (F3.out.below hq_0).q rfl).mono ?_;rintro e v1 ⟨rfl,hbhq1⟩;have hq_1:=hq_0.trans (hbhq1.mono hq_0.size);clear hbhq1;go_wp2_with fail;refine hK.out _ _ (C6.out _ hq_1) (fun hHeld=>?_);clear hK K;try simp only[Act.put,sA,sZ,sS]
  refine rU 13 _ _ ?_;refine rU 14 _ _ ?_;refine rU 15 _ _ ?_;refine rU 16 _ _ ?_;refine rU 17 _ _ ?_;refine rU 18 _ _ ?_;refine rC 19 _ (fun K hK=>?_);go_simp;refine(qSign _ ((((7+7+2)+(1+1+2)+2)+((7+7+2)+(1+1+2)+2)+2)+(((1+1+2)+(1+1+2)+2)+((1+1+2)+(1+1+2)+2)+2)+3) _ _ (by omega) (F1.out.below hq_1).q 1 one_sign).mono ?_;rintro e v2 ⟨rfl,hbhq2⟩;have hq_2:=hq_1.trans (hbhq2.mono hq_1.size);clear hbhq2;go_wp2_with fail;refine hK.out _ _ (C6.out _ hq_2) (fun hHeld=>?_);clear hK K;try simp only[Act.put,sA,sZ,sS]
  refine rU 20 _ _ ?_;refine rU 21 _ _ ?_;refine rU 22 _ _ ?_;refine rU 23 _ _ ?_;refine rU 24 _ _ ?_;refine rU 25 _ _ ?_;refine rU 27 _ _ ?_;refine rC 26 _ (fun K hK=>?_);go_simp;refine(sOf_any 1 0 inL1 inL0 _).mono ?_;rintro e v3 ⟨max,oax,nax,cax,pax,kax,dax,may,oay,nay,cay,pay,kay,day,rfl,ax_0,ay_0,hbhq3⟩;have hq_3:=hq_2.trans (hbhq3.mono hq_2.size);clear hbhq3;go_wp2_with fail;refine hK.out _ _ (C6.out _ hq_3) (fun hHeld=>?_);clear hK K;try simp only[Act.put,sA,sZ,sS]
  refine rC 28 _ (fun K hK=>?_);go_simp;refine(sOf_any 1 4 inL1 inL4 _).mono ?_;rintro e v4 ⟨mbx,obx,nbx,cbx,pbx,kbx,dbx,mby,oby,nby,cby,pby,kby,dby,rfl,bx_0,by_0,hbhq4⟩;have ax_1:=ax_0.below hbhq4;have ay_1:=ay_0.below hbhq4;have hq_4:=hq_3.trans (hbhq4.mono hq_3.size);clear hbhq4;go_wp2_with fail;refine hK.out _ _ (C6.out _ hq_4) (fun hHeld=>?_);clear hK K;try simp only[Act.put,sA,sZ,sS]
  refine rC 29 _ (fun K hK=>?_);go_simp;refine(lRatio_any 0 0 2 0 inL0 inL0 inL2 inL0 1 _ _ 1 _ _ _ (by omega) (by omega) ax_1.q ay_1.q bx_0.q by_0.q fit_apart).mono ?_;rintro e v5 ⟨m9,o9,n9,c9,p9,k9,d9,rfl,f9_0,hbhq5⟩;rw[show(((4:Int):Rat)-((0:Int):Rat))*(((2:Int):Rat)-((0:Int):Rat))-(((1:Int):Rat)-((1:Int):Rat))*(((0:Int):Rat)-((0:Int):Rat))=((8:Int):Rat) from fit_top] at f9_0;have hq_5:=hq_4.trans (hbhq5.mono hq_4.size);clear hbhq5;go_wp2_with fail;refine hK.out _ _ (C6.out _ hq_5) (fun hHeld=>?_);clear hK K;try simp only[Act.put,sA,sZ,sS]
  refine rC 30 _ (fun K hK=>?_);go_simp;refine(fOf_any 2 (by omega) (by omega) _).mono ?_;rintro e v6 ⟨m8,o8,n8,c8,p8,k8,d8,rfl,f8_0,hbhq6⟩;have f9_1:=f9_0.below hbhq6;have hq_6:=hq_5.trans (hbhq6.mono hq_5.size);clear hbhq6;go_wp2_with fail;refine hK.out _ _ (C6.out _ hq_6) (fun hHeld=>?_);clear hK K;try simp only[Act.put,sA,sZ,sS]
  refine rC 31 _ (fun K hK=>?_);go_simp;refine(qSame_yes _ _ ((((1+1+2)+(1+1+2)+2)+((1+1+2)+(1+1+2)+2)+2)+(((1+1+2)+(1+1+2)+2)+((1+1+2)+(1+1+2)+2)+2)+3) 1 _ _ _ (by omega) (by omega) f9_1.q f8_0.q fit_two).mono ?_;rintro e v7 ⟨rfl,hbhq7⟩;have hq_7:=hq_6.trans (hbhq7.mono hq_6.size);clear hbhq7;go_wp2_with fail;refine hK.out _ _ (C6.out _ hq_7) (fun hHeld=>?_);clear hK K;try simp only[Act.put,sA,sZ,sS]
  refine rU 32 _ _ ?_;refine rU 33 _ _ ?_;refine wpAnyH_done (by kernel_rfl) ?_ _;refine NoPanic.normal ?_;have HFIN:=Lib.hid (HBB.out.trans (hq_7.mono HBB.out.size));clear hHeld;go_wp2;go_ret;exact⟨rfl,HFIN.out⟩
end Go.Proofs.YtammmemfkpcpcaaGreat
namespace Go.Proofs.YtammmemfkpcpcaaGreat
open Go.RowKit Go.MagM Go.Shelf
attribute [local go_sem] Oper.semAt_some
theorem and_someG(x:Int)(k:Nat)(hk:k<9223372036854775808):∃y:Int,0≤y∧y≤(k:Int)∧bits .and .i64 x (k:Int)=y:=by
  have h1:(BitVec.ofInt 64 (k:Int)).toNat=k:=by rw[BitVec.ofInt_natCast,BitVec.toNat_ofNat];exact Nat.mod_eq_of_lt (by omega)
  have h2:(BitVec.ofInt 64 x).toNat&&&k≤k:=Nat.and_le_right;refine⟨(((BitVec.ofInt 64 x).toNat&&&k:Nat):Int),by omega,by omega,?_⟩;show IntKind.i64.wrap ((BitVec.ofInt 64 x&&&BitVec.ofInt 64 (k:Int)).toNat:Int)=_;rw[BitVec.toNat_and,h1,IntKind.wrap_i64];omega
end Go.Proofs.YtammmemfkpcpcaaGreat
namespace Go.Proofs.YtammmemfkpcpcaaGreat
open Go.RowKit Go.MagM
theorem mul_small{a b:Int}(ha:-155≤a∧a≤155)(hb:-255≤b∧b≤255):-39525≤a*b∧a*b≤39525:=by
  have h1:(a*b).natAbs≤155*255:=by rw[Int.natAbs_mul];exact Nat.mul_le_mul (by omega) (by omega)
  omega
theorem sqd_apart{a b c d:Int}(h:¬(a=c∧b=d)):sqd a b c d≠0:=by have:=sqd_pos h;omega
theorem rat_up{a b c d X Y:Int}(n:Int)(hX:c-a=X)(hY:d-b=Y):n*X*X- -(n*Y)*Y=n*sqd a b c d:=by subst hX hY;unfold sqd;grind
theorem rat_down{a b c d X Y:Int}(n:Int)(hX:c-a=X)(hY:d-b=Y):-(n*X)*X-n*Y*Y=-n*sqd a b c d:=by subst hX hY;unfold sqd;grind
set_option maxRecDepth 100000 in set_option maxHeartbeats 16000000 in theorem LaceRatios_walk(p0 p1 v0 v1 k0 k1:Int)(w:World):Calls Tryz.prog 5 #[.agg #[.int .i64 p0,.int .i64 p1],.agg #[.int .i64 v0,.int .i64 v1],.agg #[.int .i64 k0,.int .i64 k1]] w fun e w'=>e= .returned (.bool true)∧Below w.heap.size w w':=by
  obtain⟨P0,a0,a1,hP0⟩:=and_someG p0 255 (by omega);have hP0:bits BinOp.and IntKind.i64 p0 255=P0:=by simpa using hP0
  obtain⟨P1,b0,b1,hP1⟩:=and_someG p1 255 (by omega);have hP1:bits BinOp.and IntKind.i64 p1 255=P1:=by simpa using hP1
  obtain⟨V0,c0,c1,hV0⟩:=and_someG v0 255 (by omega);have hV0:bits BinOp.and IntKind.i64 v0 255=V0:=by simpa using hV0
  obtain⟨V1,d0,d1,hV1⟩:=and_someG v1 255 (by omega);have hV1:bits BinOp.and IntKind.i64 v1 255=V1:=by simpa using hV1
  obtain⟨N,e0,e1,hN⟩:=and_someG k0 255 (by omega);have hN:bits BinOp.and IntKind.i64 k0 255=N:=by simpa using hN
  obtain⟨K,g0,g1,hK⟩:=and_someG k1 255 (by omega);have hK:bits BinOp.and IntKind.i64 k1 255=K:=by simpa using hK
  have HA:=Lib.hid (And.intro a0 a1);have HB:=Lib.hid (And.intro b0 b1);have HC:=Lib.hid (And.intro c0 c1);have HD:=Lib.hid (And.intro d0 d1);have HN:=Lib.hid (And.intro e0 e1);have HK:=Lib.hid (And.intro g0 g1);clear a0 a1 b0 b1 c0 c1 d0 d1 e0 e1 g0 g1;obtain⟨pb,hpb⟩:∃x,w.heap.size=x:=⟨_,rfl⟩;obtain⟨w1,hw1,pp,hb1,hs1⟩:=new_box w pb hpb [.int .i64 p0,.int .i64 p1] 24;obtain⟨vb,hvb⟩:∃x,w1.heap.size=x:=⟨_,rfl⟩;obtain⟨w2,hw2,pv,hb2,hs2⟩:=new_box w1 vb hvb [.int .i64 v0,.int .i64 v1] 24;obtain⟨kb,hkb⟩:∃x,w2.heap.size=x:=⟨_,rfl⟩;obtain⟨w3,hw3,pk,hb3,hs3⟩:=new_box w2 kb hkb [.int .i64 k0,.int .i64 k1] 67;have HF:=Lib.hid (fit15_any w3);have HP:=Lib.hid ((pp.below (hb2.mono (by omega))).below (hb3.mono (by omega)));have HV:=Lib.hid (pv.below (hb3.mono (by omega)));have HKB:=Lib.hid pk;have HB3:=Lib.hid (show Below pb w w3 from(hb1.trans (hb2.mono (by omega))).trans (hb3.mono (by omega)));have HS:=Lib.hid (show pb<vb∧vb<kb∧kb<w3.heap.size from⟨by omega,by omega,by omega⟩);clear pp pv pk hb1 hb2 hb3 hs1 hs2 hs3;rw[hpb];go_enter Tryz.func5,Tryz.ntmps5;go_wp2_with fail;clear hw1 hw2 hw3 hvb hkb;refine HF.out.mono ?_;rintro e w4 ⟨rfl,hb4⟩;have bp:=(HP.out.below hb4).drew;have bv:=(HV.out.below hb4).drew;have bk:=(HKB.out.below hb4).drew;have hB5:=(HB3.out.trans (hb4.mono (by have:=HS.out;omega))).drew';obtain⟨s1,s2,s3⟩:=HS.out;have hpv:vb≠pb:=by omega
  have hpk:kb≠pb:=by omega
  have hvp:pb≠vb:=by omega
  have hvk:kb≠vb:=by omega
  clear hb4;go_wp2;have ca0:=bp.c0;have ca1:=bp.c1;have cb0:=bv.c0;have cb1:=bv.c1;obtain⟨SSq,hSSq⟩:∃S:Array Bool→World→Prop,∀l w',S l w'↔((l.getD 14 true=false→w'.cell? ⟨pb,0,none⟩=some (.int .i64 p0))∧(l.getD 14 true=false→w'.cell? ⟨pb,1,none⟩=some (.int .i64 p1))∧(l.getD 15 true=false→w'.cell? ⟨vb,0,none⟩=some (.int .i64 v0))∧(l.getD 15 true=false→w'.cell? ⟨vb,1,none⟩=some (.int .i64 v1))):=⟨_,fun _ _=>Iff.rfl⟩;refine wp_region_noPanic ?_;refine wp_region_G SSq 16 #[false,false,false,false,false,false,false,false,false,false,false,false,false,false,false,false] (by kernel_rfl) (by kernel_rfl) (by kernel_rfl) ((hSSq _ _).2 ⟨(fun _=>ca0),(fun _=>ca1),(fun _=>cb0),(fun _=>cb1)⟩) (fun hCl hHeld=>?_);generalize w4.drew=w5 at*;refine rG 0 ?_ ?_ ?_ ?_ ?_ ?_ hCl hHeld ?_;rotate_left 2;·simp only[gA,gZ];exact rfl
  ·intro l w';rw[hSSq,hSSq];rw[getD_set_ne (i:=0) (j:=14) true (by decide)];rw[getD_set_ne (i:=0) (j:=15) true (by decide)]
  ·rfl
  ·intro w' hA;clear hA;go_simp;try with_reducible rfl
  clear hCl hHeld;intro hCl hHeld;simp only[List.setIfInBounds_toArray,List.set_cons_zero] at hCl hHeld;try simp only[Act.put,sA,sZ,sS]
  refine rG 1 ?_ ?_ ?_ ?_ ?_ ?_ hCl hHeld ?_;rotate_left 2;·simp only[gA,gS,gZ];exact rfl
  ·intro l w';rw[hSSq,hSSq];rw[getD_set_ne (i:=1) (j:=14) true (by decide)];rw[getD_set_ne (i:=1) (j:=15) true (by decide)]
  ·rfl
  ·intro w' hA;obtain⟨l,hl,hi,hSl⟩:=hA;have hSl:=(hSSq _ _).1 hSl;obtain⟨hy0,hy1,hy2,hy3⟩:=hSl;have hz0:=hy0 (hl.not (t:=14) (by kernel_rfl) hi);have hz1:=hy1 (hl.not (t:=14) (by kernel_rfl) hi);have hz2:=hy2 (hl.not (t:=15) (by kernel_rfl) hi);have hz3:=hy3 (hl.not (t:=15) (by kernel_rfl) hi);go_simp;try with_reducible rfl
  clear hCl hHeld;intro hCl hHeld;simp only[sA,sZ,sS] at hCl hHeld;try simp only[Act.put,sA,sZ,sS]
  refine rG 2 ?_ ?_ ?_ ?_ ?_ ?_ hCl hHeld ?_;rotate_left 2;·simp only[gA,gS,gZ];exact rfl
  ·intro l w';rw[hSSq,hSSq];rw[getD_set_ne (i:=2) (j:=14) true (by decide)];rw[getD_set_ne (i:=2) (j:=15) true (by decide)]
  ·rfl
  ·intro w' hA;clear hA;go_simp;try with_reducible rfl
  clear hCl hHeld;intro hCl hHeld;simp only[sA,sZ,sS] at hCl hHeld;try simp only[Act.put,sA,sZ,sS]
  refine rG 3 ?_ ?_ ?_ ?_ ?_ ?_ hCl hHeld ?_;rotate_left 2;·simp only[gA,gS,gZ];exact rfl
  ·intro l w';rw[hSSq,hSSq];rw[getD_set_ne (i:=3) (j:=14) true (by decide)];rw[getD_set_ne (i:=3) (j:=15) true (by decide)]
  ·rfl
  ·intro w' hA;clear hA;go_simp;try with_reducible rfl
  clear hCl hHeld;intro hCl hHeld;simp only[sA,sZ,sS] at hCl hHeld;try simp only[Act.put,sA,sZ,sS]
  refine rG 4 ?_ ?_ ?_ ?_ ?_ ?_ hCl hHeld ?_;rotate_left 2;·simp only[gA,gS,gZ];exact rfl
  ·intro l w';rw[hSSq,hSSq];rw[getD_set_ne (i:=4) (j:=14) true (by decide)];rw[getD_set_ne (i:=4) (j:=15) true (by decide)]
  ·rfl
  ·intro w' hA;obtain⟨l,hl,hi,hSl⟩:=hA;have hSl:=(hSSq _ _).1 hSl;obtain⟨hy0,hy1,hy2,hy3⟩:=hSl;have hz0:=hy0 (hl.not (t:=14) (by kernel_rfl) hi);have hz1:=hy1 (hl.not (t:=14) (by kernel_rfl) hi);have hz2:=hy2 (hl.not (t:=15) (by kernel_rfl) hi);have hz3:=hy3 (hl.not (t:=15) (by kernel_rfl) hi);go_simp;try with_reducible rfl
  clear hCl hHeld;intro hCl hHeld;simp only[sA,sZ,sS] at hCl hHeld;try simp only[Act.put,sA,sZ,sS]
  refine rG 5 ?_ ?_ ?_ ?_ ?_ ?_ hCl hHeld ?_;rotate_left 2;·simp only[gA,gS,gZ];exact rfl
  ·intro l w';rw[hSSq,hSSq];rw[getD_set_ne (i:=5) (j:=14) true (by decide)];rw[getD_set_ne (i:=5) (j:=15) true (by decide)]
  ·rfl
  ·intro w' hA;clear hA;go_simp;try with_reducible rfl
  clear hCl hHeld;intro hCl hHeld;simp only[sA,sZ,sS] at hCl hHeld;try simp only[Act.put,sA,sZ,sS]
  refine rG 6 ?_ ?_ ?_ ?_ ?_ ?_ hCl hHeld ?_;rotate_left 2;·simp only[gA,gS,gZ];exact rfl
  ·intro l w';rw[hSSq,hSSq];rw[getD_set_ne (i:=6) (j:=14) true (by decide)];rw[getD_set_ne (i:=6) (j:=15) true (by decide)]
  ·rfl
  ·intro w' hA;clear hA;go_simp;try with_reducible rfl
  clear hCl hHeld;intro hCl hHeld;simp only[sA,sZ,sS] at hCl hHeld;try simp only[Act.put,sA,sZ,sS]
  refine rG 7 ?_ ?_ ?_ ?_ ?_ ?_ hCl hHeld ?_;rotate_left 2;·simp only[gA,gS,gZ];exact rfl
  ·intro l w';rw[hSSq,hSSq];rw[getD_set_ne (i:=7) (j:=14) true (by decide)];rw[getD_set_ne (i:=7) (j:=15) true (by decide)]
  ·rfl
  ·intro w' hA;clear hA;go_simp;try with_reducible rfl
  clear hCl hHeld;intro hCl hHeld;simp only[sA,sZ,sS] at hCl hHeld;try simp only[Act.put,sA,sZ,sS]
  refine rG 8 ?_ ?_ ?_ ?_ ?_ ?_ hCl hHeld ?_;rotate_left 2;·simp only[gA,gS,gZ];exact rfl
  ·intro l w';rw[hSSq,hSSq];rw[getD_set_ne (i:=8) (j:=14) true (by decide)];rw[getD_set_ne (i:=8) (j:=15) true (by decide)]
  ·rfl
  ·intro w' hA;obtain⟨l,hl,hi,hSl⟩:=hA;have hSl:=(hSSq _ _).1 hSl;obtain⟨-,-,hy2,hy3⟩:=hSl;have hz2:=hy2 (hl.not (t:=15) (by kernel_rfl) hi);have hz3:=hy3 (hl.not (t:=15) (by kernel_rfl) hi);go_simp;try with_reducible rfl
  clear hCl hHeld;intro hCl hHeld;simp only[sA,sZ,sS] at hCl hHeld;try simp only[Act.put,sA,sZ,sS]
  refine rG 9 ?_ ?_ ?_ ?_ ?_ ?_ hCl hHeld ?_;rotate_left 2;·simp only[gA,gS,gZ];exact rfl
  ·intro l w';rw[hSSq,hSSq];rw[getD_set_ne (i:=9) (j:=14) true (by decide)];rw[getD_set_ne (i:=9) (j:=15) true (by decide)]
  ·rfl
  ·intro w' hA;clear hA;go_simp;try with_reducible rfl
  clear hCl hHeld;intro hCl hHeld;simp only[sA,sZ,sS] at hCl hHeld;try simp only[Act.put,sA,sZ,sS]
  refine rG 10 ?_ ?_ ?_ ?_ ?_ ?_ hCl hHeld ?_;rotate_left 2;·simp only[gA,gS,gZ];exact rfl
  ·intro l w';rw[hSSq,hSSq];rw[getD_set_ne (i:=10) (j:=14) true (by decide)];rw[getD_set_ne (i:=10) (j:=15) true (by decide)]
  ·rfl
  ·intro w' hA;clear hA;go_simp;try with_reducible rfl
  clear hCl hHeld;intro hCl hHeld;simp only[sA,sZ,sS] at hCl hHeld;try simp only[Act.put,sA,sZ,sS]
  refine rG 11 ?_ ?_ ?_ ?_ ?_ ?_ hCl hHeld ?_;rotate_left 2;·simp only[gA,gS,gZ];exact rfl
  ·intro l w';rw[hSSq,hSSq];rw[getD_set_ne (i:=11) (j:=14) true (by decide)];rw[getD_set_ne (i:=11) (j:=15) true (by decide)]
  ·rfl
  ·intro w' hA;obtain⟨l,hl,hi,hSl⟩:=hA;have hSl:=(hSSq _ _).1 hSl;obtain⟨-,-,hy2,hy3⟩:=hSl;have hz2:=hy2 (hl.not (t:=15) (by kernel_rfl) hi);have hz3:=hy3 (hl.not (t:=15) (by kernel_rfl) hi);go_simp;try with_reducible rfl
  clear hCl hHeld;intro hCl hHeld;simp only[sA,sZ,sS] at hCl hHeld;try simp only[Act.put,sA,sZ,sS]
  refine rG 12 ?_ ?_ ?_ ?_ ?_ ?_ hCl hHeld ?_;rotate_left 2;·simp only[gA,gS,gZ];exact rfl
  ·intro l w';rw[hSSq,hSSq];rw[getD_set_ne (i:=12) (j:=14) true (by decide)];rw[getD_set_ne (i:=12) (j:=15) true (by decide)]
  ·rfl
  ·intro w' hA;clear hA;go_simp;try with_reducible rfl
  clear hCl hHeld;intro hCl hHeld;simp only[sA,sZ,sS] at hCl hHeld;try simp only[Act.put,sA,sZ,sS]
  refine rG 13 ?_ ?_ ?_ ?_ ?_ ?_ hCl hHeld ?_;rotate_left 2;·simp only[gA,gS,gZ];exact rfl
  ·intro l w';rw[hSSq,hSSq];rw[getD_set_ne (i:=13) (j:=14) true (by decide)];rw[getD_set_ne (i:=13) (j:=15) true (by decide)]
  ·rfl
  ·intro w' hA;clear hA;go_simp;try with_reducible rfl
  clear hCl hHeld;intro hCl hHeld;simp only[sA,sZ,sS] at hCl hHeld;try simp only[Act.put,sA,sZ,sS]
  clear hCl hHeld;have ca2:=bp.f 0 _ rfl;have ca3:=bp.f 1 _ rfl;refine rD 14 _ (fun K hK=>?_);go_simp;have bp6:=(bp.set 0 (.int .i64 P0)).set 1 (.int .i64 P1);have bv6:=(bv.far hpv 0 (.int .i64 P0)).far hpv 1 (.int .i64 P1);have hB6:=((hB5.setCell (p:=⟨pb,0,none⟩) (by simp only[];omega) (.int .i64 P0))).setCell (p:=⟨pb,1,none⟩) (by simp only[];omega) (.int .i64 P1);have bk6:=(bk.far hpk 0 (.int .i64 P0)).far hpk 1 (.int .i64 P1);simp only[List.set_cons_zero,List.set_cons_succ] at bp6;clear bp bv bk hB5 ca0 ca1 ca2 ca3 cb0 cb1;generalize (w5.setCell ⟨pb,0,none⟩ (.int .i64 P0)).setCell ⟨pb,1,none⟩ (.int .i64 P1)=w6 at*;have cb0:=bv6.c0;have cb1:=bv6.c1;refine hK.out _ _ ((hSSq _ _).2 ⟨(fun h=>absurd h (by decide)),(fun h=>absurd h (by decide)),(fun _=>cb0),(fun _=>cb1)⟩) ?_;clear hK K;try simp only[Act.put,sA,sZ,sS]
  have cb2:=bv6.f 0 _ rfl;have cb3:=bv6.f 1 _ rfl;refine rD 15 _ (fun K hK=>?_);go_simp;have bv7:=(bv6.set 0 (.int .i64 V0)).set 1 (.int .i64 V1);have bp7:=(bp6.far hvp 0 (.int .i64 V0)).far hvp 1 (.int .i64 V1);have hB7:=((hB6.setCell (p:=⟨vb,0,none⟩) (by simp only[];omega) (.int .i64 V0))).setCell (p:=⟨vb,1,none⟩) (by simp only[];omega) (.int .i64 V1);have bk7:=(bk6.far hvk 0 (.int .i64 V0)).far hvk 1 (.int .i64 V1);simp only[List.set_cons_zero,List.set_cons_succ] at bv7;clear bp6 bv6 bk6 hB6 cb0 cb1 cb2 cb3;generalize (w6.setCell ⟨vb,0,none⟩ (.int .i64 V0)).setCell ⟨vb,1,none⟩ (.int .i64 V1)=w7 at*;refine hK.out _ _ ((hSSq _ _).2 ⟨(fun h=>absurd h (by decide)),(fun h=>absurd h (by decide)),(fun h=>absurd h (by decide)),(fun h=>absurd h (by decide))⟩) ?_;clear hK K;try simp only[Act.put,sA,sZ,sS]
  refine wpAnyG_done (by kernel_rfl) ?_ _;refine NoPanic.normal ?_;clear hSSq SSq;have cp0:=bp7.c0;have cp1:=bp7.c1;have cv0:=bv7.c0;have cv1:=bv7.c1;clear hP0 hP1 hV0 hV1;by_cases hE:P0=V0∧P1=V1
  · obtain⟨rfl,rfl⟩:=hE;clear HF HP HV HKB HB3;go_wp2;go_ret;exact⟨rfl,hB7⟩
  obtain⟨U0,hU0⟩:∃x,V0=x:=⟨_,rfl⟩;obtain⟨U1,hU1⟩:∃x,V1=x:=⟨_,rfl⟩;have bu7:Box w7 vb [.int .i64 U0,.int .i64 U1]:=by rw[←hU0,←hU1];exact bv7
  have HBU:=Lib.hid bu7;have HBP:=Lib.hid bp7;have HBK:=Lib.hid bk7;have HB7:=Lib.hid hB7;have HU:=Lib.hid (show(0≤U0∧U0≤255)∧(0≤U1∧U1≤255) from by have:=HC.out;have:=HD.out;omega);have HE:=Lib.hid (show¬(P0=U0∧P1=U1) from by rw[←hU0,←hU1];exact hE);clear hU0 hU1 bu7 bv7 bp7 bk7 hB7 HF HP HV HKB HB3 HC HD;by_cases h0:P0=V0;case' pos=>
    have h1:¬P1=V1:=fun h=>hE ⟨h0,h⟩;clear hE;subst h0;go_wp2
  case' neg=>
    clear hE;go_wp2
  all_goals
    clear cp0 cp1 cv0 cv1;obtain⟨n,hn⟩:∃x,N-100=x:=⟨_,rfl⟩;obtain⟨k,hk⟩:∃x,K-100=x:=⟨_,rfl⟩;obtain⟨X,hX⟩:∃x,U0-P0=x:=⟨_,rfl⟩;obtain⟨Y,hY⟩:∃x,U1-P1=x:=⟨_,rfl⟩;obtain⟨gn,gk,gX,gY⟩:((-155≤n∧n≤155)∧(-155≤k∧k≤155)∧(-255≤X∧X≤255)∧(-255≤Y∧Y≤255)):=by have:=HN.out;have:=HK.out;have:=HU.out;have:=HA.out;have:=HB.out;omega
    have wn:IntKind.i64.wrap (N-100)=n:=by rw[hn,IntKind.wrap_i64];omega
    have wk:IntKind.i64.wrap (K-100)=k:=by rw[hk,IntKind.wrap_i64];omega
    have wX:IntKind.i64.wrap (U0-P0)=X:=by rw[hX,IntKind.wrap_i64];omega
    have wY:IntKind.i64.wrap (U1-P1)=Y:=by rw[hY,IntKind.wrap_i64];omega
    have GN:=Lib.hid gn;have GK:=Lib.hid gk;have GX:=Lib.hid gX;have GY:=Lib.hid gY;have HX:=Lib.hid hX;have HY:=Lib.hid hY;clear hn hk hX hY gn gk gX gY;have bk8:=HBK.out.drew;have bp9:=HBP.out.drew.drew;have bv9:=HBU.out.drew.drew;refine wp_region_noPanic ?_;refine wp_region_held_drew (S:=fun w'=>w'.cell? ⟨kb,0,none⟩=some (.int .i64 k0)∧w'.cell? ⟨kb,1,none⟩=some (.int .i64 k1)) (by kernel_rfl) (⟨bk8.c0,bk8.c1⟩) (fun hHeld=>?_);refine rU 0 _ _ ?_;refine rU 1 _ _ ?_;refine rU 2 _ _ ?_;refine rU 3 _ _ ?_;refine rU 4 _ _ ?_;refine rU 5 _ _ ?_;refine rU 6 _ _ ?_;refine rU 7 _ _ ?_;refine rU 8 _ _ ?_;refine rU 9 _ _ ?_;refine wpAnyH_done (by kernel_rfl) ?_ _;refine NoPanic.normal ?_;go_wp2;clear bk8 wn wk hN hK;refine wp_region_noPanic ?_;refine wp_region_held_drew (S:=fun w'=>w'.cell? ⟨pb,0,none⟩=some (.int .i64 P0)∧w'.cell? ⟨pb,1,none⟩=some (.int .i64 P1)∧w'.cell? ⟨vb,0,none⟩=some (.int .i64 U0)∧w'.cell? ⟨vb,1,none⟩=some (.int .i64 U1)) (by kernel_rfl) (⟨bp9.c0,bp9.c1,bv9.c0,bv9.c1⟩) (fun hHeld=>?_);refine rU 0 _ _ ?_;refine rU 1 _ _ ?_;refine rU 2 _ _ ?_;refine rU 3 _ _ ?_;refine rU 4 _ _ ?_;refine rU 5 _ _ ?_;refine rU 6 _ _ ?_;refine rU 7 _ _ ?_;refine rU 8 _ _ ?_;refine rU 9 _ _ ?_;refine rU 10 _ _ ?_;refine rU 11 _ _ ?_;refine wpAnyH_done (by kernel_rfl) ?_ _;refine NoPanic.normal ?_;clear wX wY;obtain⟨w9,hw9⟩:∃x,w7.drew.drew=x:=⟨_,rfl⟩;have hB9:Below pb w w9:=by rw[←hw9];exact HB7.out.drew'.drew'
    rw[hw9] at bp9 bv9⊢;clear hw9;obtain⟨m0,hm0⟩:∃x,k*X=x:=⟨_,rfl⟩;obtain⟨m1,hm1⟩:∃x,k*Y=x:=⟨_,rfl⟩;obtain⟨m2,hm2⟩:∃x,n*Y=x:=⟨_,rfl⟩;obtain⟨m3,hm3⟩:∃x,n*X=x:=⟨_,rfl⟩;have l0:=mul_small GK.out GX.out;have l1:=mul_small GK.out GY.out;have l2:=mul_small GN.out GY.out;have l3:=mul_small GN.out GX.out;rw[hm0] at l0;rw[hm1] at l1;rw[hm2] at l2;rw[hm3] at l3;obtain⟨A0,hA0⟩:∃x,P0+m0=x:=⟨_,rfl⟩;obtain⟨A1,hA1⟩:∃x,P1+m1=x:=⟨_,rfl⟩;obtain⟨B0,hB0⟩:∃x,A0-m2=x:=⟨_,rfl⟩;obtain⟨B1,hB1⟩:∃x,A1+m3=x:=⟨_,rfl⟩;obtain⟨iA0,iA1,iB0,iB1⟩:(-1000000≤A0∧A0≤1000000)∧(-1000000≤A1∧A1≤1000000)∧(-1000000≤B0∧B0≤1000000)∧(-1000000≤B1∧B1≤1000000):=by have:=HA.out;have:=HB.out;omega
    have u0:IntKind.i64.wrap (k*X)=m0:=by rw[hm0,IntKind.wrap_i64];omega
    have u1:IntKind.i64.wrap (k*Y)=m1:=by rw[hm1,IntKind.wrap_i64];omega
    have u2:IntKind.i64.wrap (n*Y)=m2:=by rw[hm2,IntKind.wrap_i64];omega
    have u3:IntKind.i64.wrap (n*X)=m3:=by rw[hm3,IntKind.wrap_i64];omega
    have u4:IntKind.i64.wrap (P0+m0)=A0:=by rw[hA0,IntKind.wrap_i64];omega
    have u5:IntKind.i64.wrap (P1+m1)=A1:=by rw[hA1,IntKind.wrap_i64];omega
    have u6:IntKind.i64.wrap (A0-m2)=B0:=by rw[hB0,IntKind.wrap_i64];omega
    have u7:IntKind.i64.wrap (A1+m3)=B1:=by rw[hB1,IntKind.wrap_i64];omega
    have HT:=Lib.hid (show B1-A1=n*X∧B0-A0=-(n*Y) from by rw[hm2,hm3];omega);have HIA:=Lib.hid (show(InP A0∧InP A1)∧(InP B0∧InP B1) from by unfold InP;omega);have HIP:=Lib.hid (show(InP P0∧InP P1)∧(InP U0∧InP U1) from by have:=HA.out;have:=HB.out;have:=HU.out;unfold InP;omega);clear hm0 hm1 hm2 hm3 l0 l1 l2 l3 hA0 hA1 hB0 hB1 iA0 iA1 iB0 iB1;obtain⟨ab,hab⟩:∃x,w9.heap.size=x:=⟨_,rfl⟩;obtain⟨wx,hwx,pa,hbx,hsx⟩:=new_box w9 ab hab [.int .i64 A0,.int .i64 A1] 24;obtain⟨bb,hbb⟩:∃x,wx.heap.size=x:=⟨_,rfl⟩;obtain⟨wy,hwy,pbb,hby,hsy⟩:=new_box wx bb hbb [.int .i64 B0,.int .i64 B1] 24;have cp0:=bp9.c0;have cp1:=bp9.c1;have cv0:=bv9.c0;have cv1:=bv9.c1;have ca0:=pa.c0;have ca1:=pa.c1;have XP:=Lib.hid ((bp9.below (hbx.mono (by omega))).below (hby.mono (by omega)));have XV:=Lib.hid ((bv9.below (hbx.mono (by omega))).below (hby.mono (by omega)));have XA:=Lib.hid (pa.below (hby.mono (by omega)));have XB:=Lib.hid pbb;have XW:=Lib.hid (show Below pb w wy from(hB9.trans (hbx.mono (by have:=hB9.size;omega))).trans (hby.mono (by have:=hB9.size;omega)));clear hB9 hbx hby hsx hsy pa pbb bp9 bv9;go_wp2;clear hwx hwy hab hbb cp0 cp1 cv0 cv1 ca0 ca1 u0 u1 u2 u3 u4 u5 u6 u7;have wm:IntKind.i64.wrap (-n)=-n:=by rw[IntKind.wrap_i64];have:=GN.out;omega
    have HDQ:=Lib.hid (show sqd P0 P1 U0 U1≠0 from sqd_apart HE.out);have HQ:=Lib.hid (show distQ (P0:Rat) P1 U0 U1≠0 from by rw[dist_int];exact ic_ne HDQ.out);have HR1:=Lib.hid (ratQ_is (x1:=A0) (y1:=A1) (x2:=B0) (y2:=B1) n HDQ.out (by obtain⟨t1,t2⟩:=HT.out;rw[t1,t2,HX.out,HY.out];exact rat_up n (HX.out) (HY.out)));have HR2:=Lib.hid (ratQ_is (x1:=B0) (y1:=B1) (x2:=A0) (y2:=A1) (-n) HDQ.out (by obtain⟨t1,t2⟩:=HT.out;rw[show A1-B1=-(n*X) by omega,show A0-B0=n*Y by omega,HX.out,HY.out];exact rat_down n (HX.out) (HY.out)));have C10:=Lib.hid (show∀w',Below wy.heap.size wy w'→w'.cell? ⟨pb,0,none⟩=some (.int .i64 P0)∧w'.cell? ⟨pb,1,none⟩=some (.int .i64 P1)∧w'.cell? ⟨vb,0,none⟩=some (.int .i64 U0)∧w'.cell? ⟨vb,1,none⟩=some (.int .i64 U1)∧w'.cell? ⟨ab,0,none⟩=some (.int .i64 A0)∧w'.cell? ⟨ab,1,none⟩=some (.int .i64 A1)∧w'.cell? ⟨bb,0,none⟩=some (.int .i64 B0)∧w'.cell? ⟨bb,1,none⟩=some (.int .i64 B1) from fun w' hb=>by have x1:=XP.out.below hb;have x2:=XV.out.below hb;have x3:=XA.out.below hb;have x4:=XB.out.below hb;exact⟨x1.c0,x1.c1,x2.c0,x2.c1,x3.c0,x3.c1,x4.c0,x4.c1⟩);have hq_0:=(Below.refl wy.heap.size wy).drew';refine wp_region_noPanic ?_;refine wp_region_held_drew (S:=fun w'=>w'.cell? ⟨pb,0,none⟩=some (.int .i64 P0)∧w'.cell? ⟨pb,1,none⟩=some (.int .i64 P1)∧w'.cell? ⟨vb,0,none⟩=some (.int .i64 U0)∧w'.cell? ⟨vb,1,none⟩=some (.int .i64 U1)∧w'.cell? ⟨ab,0,none⟩=some (.int .i64 A0)∧w'.cell? ⟨ab,1,none⟩=some (.int .i64 A1)∧w'.cell? ⟨bb,0,none⟩=some (.int .i64 B0)∧w'.cell? ⟨bb,1,none⟩=some (.int .i64 B1)) (by kernel_rfl) (C10.out _ hq_0) (fun hHeld=>?_);refine rU 0 _ _ ?_;refine rU 1 _ _ ?_;refine rU 2 _ _ ?_;refine rU 4 _ _ ?_;refine rU 7 _ _ ?_;refine rC 3 _ (fun K hK=>?_);go_simp;refine(sOf_any A0 A1 HIA.out.1.1 HIA.out.1.2 _).mono ?_;rintro e y1 ⟨max,oax,nax,cax,pax,kax,dax,may,oay,nay,cay,pay,kay,day,rfl,ax_0,ay_0,hbhq1⟩;have hq_1:=hq_0.trans (hbhq1.mono hq_0.size);clear hbhq1;go_wp2_with fail;refine hK.out _ _ (C10.out _ hq_1) (fun hHeld=>?_);clear hK K;try simp only[Act.put,sA,sZ,sS]
    refine rC 5 _ (fun K hK=>?_);go_simp;refine(sOf_any B0 B1 HIA.out.2.1 HIA.out.2.2 _).mono ?_;rintro e y2 ⟨mbx,obx,nbx,cbx,pbx,kbx,dbx,mby,oby,nby,cby,pby,kby,dby,rfl,bx_0,by_0,hbhq2⟩;have ax_1:=ax_0.below hbhq2;have ay_1:=ay_0.below hbhq2;have hq_2:=hq_1.trans (hbhq2.mono hq_1.size);clear hbhq2;go_wp2_with fail;refine hK.out _ _ (C10.out _ hq_2) (fun hHeld=>?_);clear hK K;try simp only[Act.put,sA,sZ,sS]
    refine rC 6 _ (fun K hK=>?_);go_simp;refine(lRatio_any P0 P1 U0 U1 HIP.out.1.1 HIP.out.1.2 HIP.out.2.1 HIP.out.2.2 1 _ _ 1 _ _ _ (by omega) (by omega) ax_1.q ay_1.q bx_0.q by_0.q HQ.out).mono ?_;rintro e y3 ⟨m9,o9,n9,c9,p9,k9,d9,rfl,f9_0,hbhq3⟩;have hq_3:=hq_2.trans (hbhq3.mono hq_2.size);clear hbhq3;go_wp2_with fail;refine hK.out _ _ (C10.out _ hq_3) (fun hHeld=>?_);clear hK K;try simp only[Act.put,sA,sZ,sS]
    refine rC 8 _ (fun K hK=>?_);go_simp;refine(fOf_any n (by have:=GN.out;omega) (by have:=GN.out;omega) _).mono ?_;rintro e y4 ⟨m8,o8,n8,c8,p8,k8,d8,rfl,f8_0,hbhq4⟩;have f9_1:=f9_0.below hbhq4;have hq_4:=hq_3.trans (hbhq4.mono hq_3.size);clear hbhq4;go_wp2_with fail;refine hK.out _ _ (C10.out _ hq_4) (fun hHeld=>?_);clear hK K;try simp only[Act.put,sA,sZ,sS]
    refine rC 9 _ (fun K hK=>?_);go_simp;refine(qSame_yes _ _ ((((1+1+2)+(1+1+2)+2)+((1+1+2)+(1+1+2)+2)+2)+(((1+1+2)+(1+1+2)+2)+((1+1+2)+(1+1+2)+2)+2)+3) 1 _ _ _ (by omega) (by omega) f9_1.q f8_0.q HR1.out).mono ?_;rintro e y5 ⟨rfl,hbhq5⟩;have hq_5:=hq_4.trans (hbhq5.mono hq_4.size);clear hbhq5;go_wp2_with fail;refine hK.out _ _ (C10.out _ hq_5) (fun hHeld=>?_);clear hK K;try simp only[Act.put,sA,sZ,sS]
    refine rU 10 _ _ ?_;refine rU 11 _ _ ?_;refine rU 12 _ _ ?_;refine rU 13 _ _ ?_;refine rU 15 _ _ ?_;refine rU 18 _ _ ?_;refine rU 19 _ _ ?_;refine rC 14 _ (fun K hK=>?_);go_simp;refine(sOf_any B0 B1 HIA.out.2.1 HIA.out.2.2 _).mono ?_;rintro e y6 ⟨mex,oex,nex,cex,pex,kex,dex,mey,oey,ney,cey,pey,key,dey,rfl,ex_0,ey_0,hbhq6⟩;have hq_6:=hq_5.trans (hbhq6.mono hq_5.size);clear hbhq6;go_wp2_with fail;refine hK.out _ _ (C10.out _ hq_6) (fun hHeld=>?_);clear hK K;try simp only[Act.put,sA,sZ,sS]
    refine rC 16 _ (fun K hK=>?_);go_simp;refine(sOf_any A0 A1 HIA.out.1.1 HIA.out.1.2 _).mono ?_;rintro e y7 ⟨mgx,ogx,ngx,cgx,pgx,kgx,dgx,mgy,ogy,ngy,cgy,pgy,kgy,dgy,rfl,gx_0,gy_0,hbhq7⟩;have ex_1:=ex_0.below hbhq7;have ey_1:=ey_0.below hbhq7;have hq_7:=hq_6.trans (hbhq7.mono hq_6.size);clear hbhq7;go_wp2_with fail;refine hK.out _ _ (C10.out _ hq_7) (fun hHeld=>?_);clear hK K;try simp only[Act.put,sA,sZ,sS]
    refine rC 17 _ (fun K hK=>?_);go_simp;refine(lRatio_any P0 P1 U0 U1 HIP.out.1.1 HIP.out.1.2 HIP.out.2.1 HIP.out.2.2 1 _ _ 1 _ _ _ (by omega) (by omega) ex_1.q ey_1.q gx_0.q gy_0.q HQ.out).mono ?_;rintro e y8 ⟨m7,o7,n7,c7,p7,k7,d7,rfl,f7_0,hbhq8⟩;have hq_8:=hq_7.trans (hbhq8.mono hq_7.size);clear hbhq8;go_wp2_with fail;refine hK.out _ _ (C10.out _ hq_8) (fun hHeld=>?_);clear hK K;try simp only[Act.put,sA,sZ,sS]
    refine rC 20 _ (fun K hK=>?_);go_simp;refine(fOf_any (-n) (by have:=GN.out;omega) (by have:=GN.out;omega) _).mono ?_;rintro e y9 ⟨m6,o6,n6,c6,p6,k6,d6,rfl,f6_0,hbhq9⟩;have f7_1:=f7_0.below hbhq9;have hq_9:=hq_8.trans (hbhq9.mono hq_8.size);clear hbhq9;go_wp2_with fail;refine hK.out _ _ (C10.out _ hq_9) (fun hHeld=>?_);clear hK K;try simp only[Act.put,sA,sZ,sS]
    refine rC 21 _ (fun K hK=>?_);go_simp;refine(qSame_yes _ _ ((((1+1+2)+(1+1+2)+2)+((1+1+2)+(1+1+2)+2)+2)+(((1+1+2)+(1+1+2)+2)+((1+1+2)+(1+1+2)+2)+2)+3) 1 _ _ _ (by omega) (by omega) f7_1.q f6_0.q HR2.out).mono ?_;rintro e y10 ⟨rfl,hbhq10⟩;have hq_10:=hq_9.trans (hbhq10.mono hq_9.size);clear hbhq10;go_wp2_with fail;refine hK.out _ _ (C10.out _ hq_10) (fun hHeld=>?_);clear hK K;try simp only[Act.put,sA,sZ,sS]
    refine rU 22 _ _ ?_;refine rU 23 _ _ ?_;refine wpAnyH_done (by kernel_rfl) ?_ _;refine NoPanic.normal ?_;have HFIN:=Lib.hid (XW.out.trans (hq_10.mono (by have:=XW.out.size;omega)));clear hHeld;go_wp2;go_ret;exact⟨rfl,HFIN.out⟩
end Go.Proofs.YtammmemfkpcpcaaGreat
