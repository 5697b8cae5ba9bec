import Derived.Shelf.SlGeneric
import Derived.Shelf.SortM.Plain
import Derived.Shelf.SortM.SortNone
import Derived.Ground.SlgmProg
import Derived.Test.YtammmemfkpcpcaaGreatProg
import Derived.Test.YtammmemfkpcpcaaGreatPartt
import Derived.Test.YtammmemfkpcpcaaGreatSortI
import Derived.Test.YtammmemfkpcpcaaGreatPartl
import Derived.Test.YtammmemfkpcpcaaGreatPartk
set_option linter.unusedSimpArgs false
set_option linter.unusedVariables false
namespace Go.Proofs
open Go.Shelf
def Tryz.mSort_ren:Go.Shelf.Ren:=⟨fun|5=>106|8=>145|7=>144|19=>183|20=>152|10=>174|11=>175|12=>176|13=>177|14=>178|15=>179|16=>180|17=>181|18=>182|30=>198|31=>199|32=>200|33=>201|34=>202|35=>123|40=>208|n=>n,fun|23=>75|25=>3|3=>3|32=>30|22=>75|0=>0|44=>22|46=>93|4=>4|36=>227|35=>226|41=>201|5=>5|9=>9|53=>242|57=>246|63=>252|64=>148|n=>n,fun|n=>n⟩
theorem Tryz.mSort:Go.Proofs.SlLaysM.n5 Tryz.prog Tryz.mSort_ren:={
  mixed:=by kernel_rfl
  f5:=⟨Tryz.f106.name,by decide,Tryz.func106.trans (congrArg some (by kernel_rfl))⟩
  f7:=⟨Tryz.f144.name,by decide,Tryz.func144.trans (congrArg some (by kernel_rfl))⟩
  f8:=Tryz.func145.trans (congrArg some (by kernel_rfl))
  f10:=⟨Tryz.f174.name,by decide,Tryz.func174.trans (congrArg some (by kernel_rfl))⟩
  f11:=⟨Tryz.f175.name,by decide,Tryz.func175.trans (congrArg some (by kernel_rfl))⟩
  f12:=⟨Tryz.f176.name,by decide,Tryz.func176.trans (congrArg some (by kernel_rfl))⟩
  f13:=⟨Tryz.f177.name,by decide,Tryz.func177.trans (congrArg some (by kernel_rfl))⟩
  f14:=⟨Tryz.f178.name,by decide,Tryz.func178.trans (congrArg some (by kernel_rfl))⟩
  f15:=⟨Tryz.f179.name,by decide,Tryz.func179.trans (congrArg some (by kernel_rfl))⟩
  f16:=⟨Tryz.f180.name,by decide,Tryz.func180.trans (congrArg some (by kernel_rfl))⟩
  f17:=⟨Tryz.f181.name,by decide,Tryz.func181.trans (congrArg some (by kernel_rfl))⟩
  f18:=⟨Tryz.f182.name,by decide,Tryz.func182.trans (congrArg some (by kernel_rfl))⟩
  f19:=Tryz.func183.trans (congrArg some (by kernel_rfl))
  f20:=Tryz.func152.trans (congrArg some (by kernel_rfl))
  f30:=⟨Tryz.f198.name,by decide,Tryz.func198.trans (congrArg some (by kernel_rfl))⟩
  f31:=Tryz.func199.trans (congrArg some (by kernel_rfl))
  f32:=Tryz.func200.trans (congrArg some (by kernel_rfl))
  f33:=⟨Tryz.f201.name,by decide,Tryz.func201.trans (congrArg some (by kernel_rfl))⟩
  f34:=⟨Tryz.f202.name,by decide,Tryz.func202.trans (congrArg some (by kernel_rfl))⟩
  f35:=⟨Tryz.f123.name,by decide,Tryz.func123.trans (congrArg some (by kernel_rfl))⟩
  f40:=⟨Tryz.f208.name,by decide,Tryz.func208.trans (congrArg some (by kernel_rfl))⟩
  t0:=Tryz.underlying0
  a0:=Tryz.isAgg0
  z0:=Tryz.sizeOf0
  v0:=Tryz.zeroValue0
  t3:=Tryz.underlying3
  a3:=Tryz.isAgg3
  z3:=Tryz.sizeOf3
  v3:=Tryz.zeroValue3
  t4:=Tryz.underlying4
  a4:=Tryz.isAgg4
  z4:=Tryz.sizeOf4
  v4:=Tryz.zeroValue4
  t5:=Tryz.underlying5
  a5:=Tryz.isAgg5
  z5:=Tryz.sizeOf5
  v5:=Tryz.zeroValue5
  t9:=Tryz.underlying9
  a9:=Tryz.isAgg9
  z9:=Tryz.sizeOf9
  v9:=Tryz.zeroValue9
  t22:=Tryz.underlying75
  a22:=Tryz.isAgg75
  z22:=Tryz.sizeOf75
  v22:=Tryz.zeroValue75
  t23:=Tryz.underlying75
  a23:=Tryz.isAgg75
  z23:=Tryz.sizeOf75
  v23:=Tryz.zeroValue75
  t25:=Tryz.underlying3
  a25:=Tryz.isAgg3
  z25:=Tryz.sizeOf3
  v25:=Tryz.zeroValue3
  t32:=Tryz.underlying30
  a32:=Tryz.isAgg30
  z32:=Tryz.sizeOf30
  v32:=Tryz.zeroValue30
  t35:=Tryz.underlying226
  a35:=Tryz.isAgg226
  z35:=Tryz.sizeOf226
  v35:=Tryz.zeroValue226
  t36:=Tryz.underlying227
  a36:=Tryz.isAgg227
  z36:=Tryz.sizeOf227
  v36:=Tryz.zeroValue227
  t41:=Tryz.underlying201
  a41:=Tryz.isAgg201
  z41:=Tryz.sizeOf201
  v41:=Tryz.zeroValue201
  t44:=Tryz.underlying22
  a44:=Tryz.isAgg22
  z44:=Tryz.sizeOf22
  v44:=Tryz.zeroValue22
  t46:=Tryz.underlying93
  a46:=Tryz.isAgg93
  z46:=Tryz.sizeOf93
  v46:=Tryz.zeroValue93
  t53:=Tryz.underlying242
  a53:=Tryz.isAgg242
  z53:=Tryz.sizeOf242
  v53:=Tryz.zeroValue242
  t57:=Tryz.underlying246
  a57:=Tryz.isAgg246
  z57:=Tryz.sizeOf246
  v57:=Tryz.zeroValue246
  t63:=Tryz.underlying252
  a63:=Tryz.isAgg252
  z63:=Tryz.sizeOf252
  v63:=Tryz.zeroValue252
  t64:=Tryz.underlying148
  a64:=Tryz.isAgg148
  z64:=Tryz.sizeOf148
  v64:=Tryz.zeroValue148}
end Go.Proofs
namespace Go.MagM
open Go.RowKit
def sortL(l:List Int):List Int:=l.mergeSort fun x y=>decide (x≤y)
theorem sortL_perm(l:List Int):(sortL l).Perm l:=List.mergeSort_perm l _
theorem sortL_len(l:List Int):(sortL l).length=l.length:=(sortL_perm l).length_eq
theorem sortL_up(l:List Int):(sortL l).Pairwise (fun x y=>x≤y):=by have:=List.pairwise_mergeSort (le:=fun x y:Int=>decide (x≤y)) (fun a b c h1 h2=>by simp at h1 h2⊢;omega) (fun a b=>by simp;omega) l;exact this.imp (fun h=>by simpa using h)
theorem put_cells(cur:Array Value)(L:List Int)(hl:L.length≤cur.size):((Sort.putCells (Value.int .i64) 0 L.toArray cur).toList.take L.length)=intCells L:=by
  refine List.ext_getElem? fun j=>?_;rw[List.getElem?_take];unfold intCells Sort.putCells;rw[List.getElem?_map];split
  · rename_i hj;rw[List.getElem?_eq_getElem hj,Array.getElem?_toList,Array.getElem?_mapIdx,Array.getElem?_eq_getElem (by omega)];simp[hj]
  · rename_i hj;rw[List.getElem?_eq_none (by omega)];rfl
theorem put_size(cur:Array Value)(L:List Int):(Sort.putCells (Value.int .i64) 0 L.toArray cur).size=cur.size:=by unfold Sort.putCells;simp
theorem put_noWord(cur:Array Value)(L:List Int)(h:∀u∈cur.toList,NoWord u):∀u∈(Sort.putCells (Value.int .i64) 0 L.toArray cur).toList,NoWord u:=by
  intro u hu;obtain⟨j,hj⟩:=List.mem_iff_getElem?.1 hu;rw[Array.getElem?_toList] at hj;unfold Sort.putCells at hj;rw[Array.getElem?_mapIdx] at hj;cases hc:cur[j]? with
  |none=>rw[hc] at hj;cases hj|some x=>
    rw[hc] at hj;simp only[Option.map_some,Option.some.injEq] at hj;split at hj;·subst hj;exact NoWord.int _
    · subst hj;exact h x (List.mem_of_getElem? (i:=j) (by rw[Array.getElem?_toList];exact hc))
end Go.MagM
namespace Go.Proofs.YtammmemfkpcpcaaGreat
open Go.RowKit Go.MagM Go.Maps
theorem cvSort_any{lo g c:Nat}{ts:List Int}(w:World)(h:RowN w lo 3 1 (.slice (some ⟨g,0,none⟩) ts.length c) ts.length (intCells ts))(hl:ts.length≤1000000):Calls Tryz.prog 106 #[.slice (some ⟨g,0,none⟩) ts.length c] w fun e w'=>e= .returned (.tuple #[])∧RowN w' lo 3 1 (.slice (some ⟨g,0,none⟩) ts.length c) (sortL ts).length (intCells (sortL ts))∧(∀k,k<w.heap.size→k≠g→w'.heap[k]?=w.heap[k]?)∧Below lo w w'∧w.heap.size≤w'.heap.size:=by
  have hown:=owns_box h.own;have hH:Sort.Holds (Value.int .i64) w g 0 ts.toArray:=by
    intro j hj;have hj':j<ts.length:=by simpa using hj
    have hc:(intCells ts)[j]?=some (.int .i64 ts[j]):=by unfold intCells;rw[List.getElem?_map,List.getElem?_eq_getElem hj'];rfl
    rw[Nat.zero_add,getElem!_pos ts.toArray j hj];exact⟨hown.c _ _ hc,hown.f _ _ hc⟩
  obtain⟨g',cap,cur,e1,hlo,hh,hnc,hcm,hcs,htk,hnw⟩:∃g' cap cur,Value.slice (some ⟨g,0,none⟩) ts.length c= .slice (some ⟨g',0,none⟩) ts.length cap∧lo≤g'∧w.heap[g']?=some (.cells cur 3 (0,0))∧ts.length≤cap∧cap≤maxLen∧cur.size=cap*1∧cur.toList.take (ts.length*1)=intCells ts∧∀u∈cur.toList,NoWord u:=by
    rcases h.2 with⟨h1,-⟩|h1;·cases h1
    ·exact h1
  simp only[Value.slice.injEq,Option.some.injEq,Addr.mk.injEq,and_true,true_and] at e1;obtain⟨rfl,rfl⟩:=e1;have hlt:g<w.heap.size:=(Array.getElem?_eq_some_iff.1 hh).1;have hcon:=AnyM.slices_Sort_int Tryz.mSort g 0 c ts w hH hlt (by omega);change Calls Tryz.prog 106 _ _ _ at hcon;refine hcon.mono ?_;rintro e w' ⟨rfl,n,os,rfl⟩;obtain⟨L,hL⟩:∃L,ts.mergeSort (fun x y=>decide (x≤y))=L:=⟨_,rfl⟩;have hLe:sortL ts=L:=hL;have hLl:L.length=ts.length:=by rw[←hLe];exact sortL_len ts
  rw[hL,hLe];have hsz:(Sort.putRow (Value.int .i64) (Sort.ahead w n) g 0 L.toArray).heap.size=w.heap.size:=by unfold Sort.putRow Sort.mapBlock Sort.ahead;simp
  have hk:∀k,k<w.heap.size→k≠g→(Sort.grow (Sort.putRow (Value.int .i64) (Sort.ahead w n) g 0 L.toArray) os).heap[k]?=w.heap[k]?:=by
    intro k hk hne;show((Sort.putRow (Value.int .i64) (Sort.ahead w n) g 0 L.toArray).heap++os)[k]?=_;rw[Array.getElem?_append_left (by omega)];unfold Sort.putRow Sort.mapBlock Sort.ahead;simp only[Array.getElem?_modify];rw[if_neg (fun e=>hne e.symm)]
  have hg:(Sort.grow (Sort.putRow (Value.int .i64) (Sort.ahead w n) g 0 L.toArray) os).heap[g]?=some (.cells (Sort.putCells (Value.int .i64) 0 L.toArray cur) 3 (0,0)):=by show((Sort.putRow (Value.int .i64) (Sort.ahead w n) g 0 L.toArray).heap++os)[g]?=_;rw[Array.getElem?_append_left (by omega)];unfold Sort.putRow Sort.mapBlock Sort.ahead;simp only[Array.getElem?_modify];rw[if_pos trivial,hh];rfl
  refine⟨rfl,⟨by rw[intCells_len,Nat.mul_one],.inr ⟨g,c,_,by rw[hLl],hlo,hg,by omega,hcm,by rw[put_size];exact hcs,?_,put_noWord cur L hnw⟩⟩,hk,⟨rfl,rfl,rfl,?_,fun k hk2=>hk k (by omega) (by omega)⟩,?_⟩;·rw[Nat.mul_one];exact put_cells cur L (by omega)
  · show w.heap.size≤((Sort.putRow (Value.int .i64) (Sort.ahead w n) g 0 L.toArray).heap++os).size;rw[Array.size_append];omega
  · show w.heap.size≤((Sort.putRow (Value.int .i64) (Sort.ahead w n) g 0 L.toArray).heap++os).size;rw[Array.size_append];omega
end Go.Proofs.YtammmemfkpcpcaaGreat
namespace Go.MagM
open Go.RowKit
structure ShM where
  v:Int
  m:Bool
  so:Option Addr
  sn:Nat
  sc:Nat
  tp:Option Addr
  tn:Nat
  tc:Nat
instance:Inhabited ShM:=⟨⟨0,false,none,0,0,none,0,0⟩⟩
def ShM.cells(e:ShM):List Value:=[.int .i64 e.v,.bool e.m,.slice e.so e.sn e.sc,.slice e.tp e.tn e.tc]
def shCells(E:List ShM):List Value:=E.flatMap ShM.cells
def cmpV(x y:Int):Int:=if x<y then-1 else if y<x then 1 else 0
def cmpSh(x y:ShM):Int:=cmpV x.v y.v
theorem shCells_len(E:List ShM):(shCells E).length=E.length*4:=by unfold shCells;induction E with|nil=>rfl|cons x l ih=>rw[List.flatMap_cons,List.length_append,ih,List.length_cons];show 4+_=_;omega
theorem shCells_get:∀(E:List ShM)(i c:Nat)(e:ShM),E[i]?=some e→c<4→(shCells E)[i*4+c]?=e.cells[c]?|[],i,c,e,h,_=>by simp at h|x::l,0,c,e,h,hc=>by simp at h;subst h;unfold shCells;rw[List.flatMap_cons,List.getElem?_append_left (by show 0*4+c<4;omega),Nat.zero_mul,Nat.zero_add]|x::l,i+1,c,e,h,hc=>by simp at h;unfold shCells;rw[List.flatMap_cons,List.getElem?_append_right (by show 4≤_;omega)];rw[show(i+1)*4+c-x.cells.length=i*4+c by show(i+1)*4+c-4=_;omega];exact shCells_get l i c e h hc
theorem shCells_app(A E:List ShM):shCells (A++E)=shCells A++shCells E:=by unfold shCells;rw[List.flatMap_append]
end Go.MagM
namespace Go.Proofs.YtammmemfkpcpcaaGreat
open Go.RowKit Go.MagM Go.Shelf Go.Sort
theorem ltSh_is(x y:ShM):ltOf cmpSh x y=decide (x.v<y.v):=by unfold ltOf cmpSh cmpV;apply decide_eq_decide.2;split<;>(try split)<;>omega
theorem swoSh:SWO (ltOf cmpSh) where
  irrefl x:=by rw[ltSh_is];exact decide_eq_false (by omega)
  trans x y z h1 h2:=by
    rw[ltSh_is] at*;have h1:=of_decide_eq_true h1;have h2:=of_decide_eq_true h2;exact decide_eq_true (by omega)
  ntrans x y z h1 h2:=by rw[ltSh_is] at*;have h1:=of_decide_eq_false h1;have h2:=of_decide_eq_false h2;exact decide_eq_false (by omega)
set_option maxHeartbeats 1000000 in theorem isNaNS_any(x:Int)(w:World):Calls Tryz.prog 123 #[.int .i64 x] w fun e w'=>e= .returned (.bool false)∧w=w':=by
  have q:(x !=x)=false:=by simp
  go_enter Tryz.func123,Tryz.ntmps123;go_wp2;go_ret;exact⟨rfl,rfl⟩
set_option maxHeartbeats 4000000 in theorem compareS_any(x y:Int)(w:World):Calls Tryz.prog 61 #[.int .i64 x,.int .i64 y] w fun e w'=>e= .returned (.int .i64 (cmpV x y))∧w=w':=by
  have H1:=Lib.hid (fun W=>isNaNS_any x W);have H2:=Lib.hid (fun W=>isNaNS_any y W);obtain⟨z,hz⟩:∃z,cmpV x y=z:=⟨_,rfl⟩;rw[hz];have HZ:=Lib.hid hz;clear hz;by_cases h:x<y
  · have hc:z=-1:=by rw[←HZ.out];unfold cmpV;rw[if_pos h]
    subst hc;go_enter Tryz.func61,Tryz.ntmps61;go_wp2_with fail;refine(H1.out _).mono ?_;rintro e wz ⟨rfl,rfl⟩;go_wp2_with fail;refine(H2.out _).mono ?_;rintro e wz ⟨rfl,rfl⟩;go_wp2;go_ret;exact⟨rfl,rfl⟩
  · by_cases h2:y<x
    · have hc:z=1:=by rw[←HZ.out];unfold cmpV;rw[if_neg h,if_pos h2]
      subst hc;go_enter Tryz.func61,Tryz.ntmps61;go_wp2_with fail;refine(H1.out _).mono ?_;rintro e wz ⟨rfl,rfl⟩;go_wp2_with fail;refine(H2.out _).mono ?_;rintro e wz ⟨rfl,rfl⟩;go_wp2;go_ret;exact⟨rfl,rfl⟩
    · have hc:z=0:=by rw[←HZ.out];unfold cmpV;rw[if_neg h,if_neg h2]
      subst hc;go_enter Tryz.func61,Tryz.ntmps61;go_wp2_with fail;refine(H1.out _).mono ?_;rintro e wz ⟨rfl,rfl⟩;go_wp2_with fail;refine(H2.out _).mono ?_;rintro e wz ⟨rfl,rfl⟩;go_wp2;go_ret;exact⟨rfl,rfl⟩
set_option maxRecDepth 100000 in set_option maxHeartbeats 4000000 in theorem stLess_any(x y:ShM)(w:World):Calls Tryz.prog 60 #[.agg x.cells.toArray,.agg y.cells.toArray] w fun e w'=>e= .returned (.int .i64 (cmpSh x y))∧∃q os,w'=grow (w.drewN q) os:=by obtain⟨xv,xm,xo,xn,xc,xp,xk,xd⟩:=x;obtain⟨yv,ym,yo,yn,yc,yp,yk,yd⟩:=y;obtain⟨w1,hw1,pp,hb1,hs1⟩:=new_box w _ rfl [.int .i64 xv,.bool xm,.slice xo xn xc,.slice xp xk xd] 61;obtain⟨w2,hw2,pq,hb2,hs2⟩:=new_box w1 _ hs1 [.int .i64 yv,.bool ym,.slice yo yn yc,.slice yp yk yd] 61;have p0:=(pp.below (hb2.mono (by omega))).c 0 _ rfl;have q0:=pq.c 0 _ rfl;have HCM:=Lib.hid (compareS_any xv yv w2);obtain⟨z,hz⟩:∃z,cmpV xv yv=z:=⟨_,rfl⟩;have HZ:=Lib.hid (show cmpSh ⟨xv,xm,xo,xn,xc,xp,xk,xd⟩ ⟨yv,ym,yo,yn,yc,yp,yk,yd⟩=z from hz);rw[hz] at HCM;have HW:=Lib.hid (And.intro hw1 hw2);clear hz pp pq hb1 hb2 hs2;show Calls Tryz.prog 60 #[.agg #[.int .i64 xv,.bool xm,.slice xo xn xc,.slice xp xk xd],.agg #[.int .i64 yv,.bool ym,.slice yo yn yc,.slice yp yk yd]] w _;rw[HZ.out];go_enter Tryz.func60,Tryz.ntmps60;go_wp2_with fail;refine HCM.out.mono ?_;rintro e w3 ⟨rfl,rfl⟩;clear hw1 hw2 hs1 p0 q0;go_wp2;go_ret;refine⟨rfl,0,#[.cells #[.int .i64 xv,.bool xm,.slice xo xn xc,.slice xp xk xd] 61]++#[.cells #[.int .i64 yv,.bool ym,.slice yo yn yc,.slice yp yk yd] 61],?_⟩;obtain⟨e1,e2⟩:=HW.out;rw[←e2,←e1,alloc_eq_grow,alloc_eq_grow,←grow_grow];rfl
theorem sh_one(e:ShM):∀v∈e.cells,v.oneCell'=true:=by intro v hv;simp[ShM.cells] at hv;rcases hv with rfl|rfl|rfl|rfl<;>rfl
theorem sh_holds{w:World}{g:Nat}{E:List ShM}(h:Box w g (shCells E)):HoldsK ShM.cells 4 w g 0 E.toArray:=by
  intro t ht;rw[size_flatK] at ht;have ht':t<E.length*4:=by simpa using ht
  obtain⟨i,c,hc,rfl⟩:∃i c,c<4∧t=i*4+c:=⟨t/4,t%4,Nat.mod_lt _ (by omega),by omega⟩;have hi:i<E.length:=by omega
  rw[get_flatK _ _ _ _ ht,Nat.zero_add,show(i*4+c)/4=i by omega,show(i*4+c)%4=c by omega,getElem!_pos E.toArray i (by simpa using hi)];have hcl:c<(E[i]).cells.length:=hc;have hu:(shCells E)[i*4+c]?=some ((E[i]).cells[c]):=by rw[shCells_get E i c _ (List.getElem?_eq_getElem hi) hc,List.getElem?_eq_getElem hcl]
  have e1:(ShM.cells E.toArray[i])[c]! =(E[i]).cells[c]:=by rw[getElem!_pos _ c hcl];rfl
  show w.cell? _=some (id (ShM.cells _)[c]!)∧_;rw[id,e1];exact⟨h.c _ _ hu,h.f _ _ hu⟩
theorem sh_box{w:World}{g:Nat}{d:Array ShM}(h:HoldsK ShM.cells 4 w g 0 d):Box w g (shCells d.toList):=by
  have key:∀t u,(shCells d.toList)[t]?=some u→w.cell? ⟨g,t,none⟩=some u∧w.frozen? ⟨g,t,none⟩=false:=by
    intro t u hu;have ht:=(List.getElem?_eq_some_iff.1 hu).1;rw[shCells_len] at ht;obtain⟨i,c,hc,rfl⟩:∃i c,c<4∧t=i*4+c:=⟨t/4,t%4,Nat.mod_lt _ (by omega),by omega⟩;have hi:i<d.toList.length:=by omega
    have hi':i<d.size:=by simpa using hi
    rw[shCells_get d.toList i c _ (List.getElem?_eq_getElem hi) hc] at hu;have hcl:c<(ShM.cells d.toList[i]).length:=hc;rw[List.getElem?_eq_getElem hcl] at hu;have:=h.cell (i:=i) (c:=c) hi' hc;rw[Nat.zero_add,getElem!_pos d i hi',getElem!_pos _ c (show c<(ShM.cells d[i]).length from hc)] at this;have e:(ShM.cells d.toList[i])[c]=(ShM.cells d[i])[c]:=by simp
    rw[e] at hu;cases hu;exact this
  exact⟨fun t u hu=>(key t u hu).1,fun t u hu=>(key t u hu).2⟩
set_option maxRecDepth 100000 in set_option maxHeartbeats 8000000 in theorem stSort_any{lo g c:Nat}{E:List ShM}(w:World)(h:RowN w lo 61 4 (.slice (some ⟨g,0,none⟩) E.length c) E.length (shCells E))(hl:E.length≤19):Calls Tryz.prog 59 #[.slice (some ⟨g,0,none⟩) E.length c,.func (.func 60) #[] #[]] w fun e w'=>e= .returned (.tuple #[])∧∃E':List ShM,E'.length=E.length∧E'.Perm E∧(∀(i j:Nat)(x y:ShM),i<j→E'[i]?=some x→E'[j]?=some y→x.v≤y.v)∧Box w' g (shCells E')∧lo≤g∧Kept w w'∧Below g w w':=by
  have hbox:=owns_box h.own;obtain⟨cur,hlo,hh,hnw⟩:∃cur,lo≤g∧w.heap[g]?=some (.cells cur 61 (0,0))∧∀u∈cur.toList,NoWord u:=by
    rcases h.2 with⟨h1,-⟩|⟨g',cap,cur,h1,h2,h3,-,-,-,-,h8⟩;·cases h1
    · injection h1 with h1;injection h1 with h1;injection h1 with h1;subst h1;exact⟨cur,h2,h3,h8⟩
  have hg:g<w.heap.size:=(Array.getElem?_eq_some_iff.1 hh).1;have eg:∀args w,(callFunc 60 args).run Tryz.prog w= .ok (.enter 60 args) w:=enters_of Tryz.func60 (by kernel_rfl) rfl;have hH:=sh_holds hbox;have hcon:=AnyQ.insertionSortCmpFunc Tryz.mSortI 4 (fun w=>by kernel_rfl) (fun w=>by kernel_rfl) ShM.cells (fun _=>rfl) sh_one cmpSh 60 #[] g 0 c 0 E.length E.toArray w eg (fun m os dk _ x y=>stLess_any x y _) hH hg (Nat.zero_le _) (by simp) (by simp;omega);change Calls Tryz.prog 163 _ _ _ at hcon;have hP:Calls Tryz.prog 163 #[.slice (some ⟨g,0,none⟩) E.length c,.int .i64 0,.int .i64 (E.length:Int),.func (.func 60) #[] #[]] w fun e w'=>e= .returned (.tuple #[])∧∃E':List ShM,E'.length=E.length∧E'.Perm E∧(∀(i j:Nat)(x y:ShM),i<j→E'[i]?=some x→E'[j]?=some y→x.v≤y.v)∧Box w' g (shCells E')∧lo≤g∧Kept w w'∧Below g w w':=by
    refine Calls.mono (show Calls Tryz.prog 163 #[.slice (some ⟨g,0,none⟩) E.length c,.int .i64 0,.int .i64 (E.length:Int),.func (.func 60) #[] #[]] w _ from hcon) ?_;rintro e w' ⟨rfl,n,os,rfl⟩;have hin:=insertionSort_holds (lt:=ltOf cmpSh) swoSh E.toArray 0 E.length (Nat.zero_le _) (by simp);obtain⟨d',hd'⟩:∃d',Sort.insertionSort (ltOf cmpSh) E.toArray 0 E.length=d':=⟨_,rfl⟩;rw[hd'] at hin⊢;obtain⟨hp,hs⟩:=hin;have hsz:d'.size=E.length:=by have:=hp.1;simpa using this
    have hHo:=holdsK_sortWorldK_c ShM.cells 4 w g 0 E.toArray d' n os hH hg (by simpa using hsz);have hsw:(putRowK ShM.cells 4 (Sort.ahead w n) g 0 d').heap.size=w.heap.size:=by unfold putRowK Sort.putRow Sort.mapBlock Sort.ahead;simp
    have hk:∀k,k<w.heap.size→k≠g→(sortWorldK ShM.cells 4 w g 0 n d' os).heap[k]?=w.heap[k]?:=by
      intro k hk hne;show((putRowK ShM.cells 4 (Sort.ahead w n) g 0 d').heap++os)[k]?=_;rw[Array.getElem?_append_left (by omega)];unfold putRowK Sort.putRow Sort.mapBlock Sort.ahead;simp only[Array.getElem?_modify];rw[if_neg (fun e=>hne e.symm)]
    refine⟨rfl,d'.toList,by simpa using hsz,?_,?_,sh_box hHo,hlo,?_,⟨rfl,rfl,rfl,?_,fun k hk2=>hk k (by omega) (by omega)⟩⟩
    · have:=hp.2.2;rw[show E.length=d'.size from hsz.symm,Array.extract_size] at this;rw[show E.toArray.extract 0 d'.size=E.toArray by rw[show d'.size=E.toArray.size by simpa using hsz,Array.extract_size]] at this;simpa using this
    · intro i j x y hij hx hy;have hj:=(List.getElem?_eq_some_iff.1 hy).1;have:=hs i j (Nat.zero_le _) hij (by simp at hj⊢;omega);rw[ltSh_is] at this;rw[getElem!_pos d' i (by simp at hj;omega),getElem!_pos d' j (by simpa using hj)] at this;obtain⟨h1,rfl⟩:=List.getElem?_eq_some_iff.1 hx;obtain⟨h2,rfl⟩:=List.getElem?_eq_some_iff.1 hy;have:=of_decide_eq_false this;simp at this⊢;omega
    · intro a x ha;have hne:a.block≠g:=by
        intro e;unfold World.cell? at ha;rw[e,hh] at ha;simp at ha;exact absurd (hnw _ (Array.mem_toList_iff.2 (Array.mem_of_getElem? ha.2))) (fun f=>f x rfl)
      exact(World.cell?_of_block (hk _ (World.block_lt_of_cell? w a ha) hne)).trans ha
    · show w.heap.size≤((putRowK ShM.cells 4 (Sort.ahead w n) g 0 d').heap++os).size;rw[Array.size_append];omega
  have HP:=Lib.hid hP;obtain⟨n,hn⟩:∃n,E.length=n:=⟨_,rfl⟩;rw[hn] at HP hl⊢;have d1:decide ((20:Int)≤(n:Int))=false:=decide_eq_false (by omega);have d2:decide ((20:Int)<(n:Int))=false:=decide_eq_false (by omega);have HS:Calls Tryz.prog 122 #[.slice (some ⟨g,0,none⟩) n c,.int .i64 (n:Int),.func (.func 60) #[] #[]] w fun e w'=>e= .returned (.tuple #[])∧∃E':List ShM,E'.length=n∧E'.Perm E∧(∀(i j:Nat)(x y:ShM),i<j→E'[i]?=some x→E'[j]?=some y→x.v≤y.v)∧Box w' g (shCells E')∧lo≤g∧Kept w w'∧Below g w w':=by
    clear h hbox hh hnw hH hcon hP hn eg;go_enter Tryz.func122,Tryz.ntmps122;go_wp2;refine wp_loop_rounds 1 ?_;rw[rounds_succ];go_wp2_with fail;refine HP.out.mono ?_;rintro e w' ⟨rfl,hE⟩;have HE:=Lib.hid hE;clear hE;go_wp2;refine wp_loop_rounds 1 ?_;rw[rounds_succ];go_wp2;go_end0;exact⟨rfl,HE.out⟩
  have HS:=Lib.hid HS;clear h hbox hh hnw hH hcon hP hn eg;go_enter Tryz.func59,Tryz.ntmps59;go_wp2_with fail;refine HS.out.mono ?_;rintro e w' ⟨rfl,hE⟩;go_wp2;go_end0;exact⟨rfl,hE⟩
end Go.Proofs.YtammmemfkpcpcaaGreat
namespace Go.MagM
open Go.RowKit
def FrQ(w:World)(L:Nat)(xs:List Value)(l:List Rat):Prop:=xs.length=l.length*3∧∀i q,l[i]?=some q→∃m so sn sc tp tn tc,xs[i*3]?=some (.bool m)∧xs[i*3+1]?=some (.slice so sn sc)∧xs[i*3+2]?=some (.slice tp tn tc)∧FQ w (.agg #[.bool m,.slice so sn sc,.slice tp tn tc]) L q
theorem FrQ.kept{w w':World}{L:Nat}{xs:List Value}{l:List Rat}(h:FrQ w L xs l)(hb:Kept w w'):FrQ w' L xs l:=⟨h.1,fun i q hi=>by obtain⟨m,so,sn,sc,tp,tn,tc,h1,h2,h3,h4⟩:=h.2 i q hi;exact⟨m,so,sn,sc,tp,tn,tc,h1,h2,h3,h4.kept hb⟩⟩
theorem FrQ.below{w w':World}{L:Nat}{xs:List Value}{l:List Rat}(h:FrQ w L xs l)(hb:Below w.heap.size w w'):FrQ w' L xs l:=h.kept (Kept.below hb)
theorem FrQ.nil(w:World)(L:Nat):FrQ w L [] []:=⟨rfl,fun i q hi=>by simp at hi⟩
theorem FrQ.snoc{w:World}{L:Nat}{xs:List Value}{l:List Rat}(h:FrQ w L xs l){m:Bool}{so:Option Addr}{sn sc:Nat}{tp:Option Addr}{tn tc:Nat}{q:Rat}(hq:FQ w (.agg #[.bool m,.slice so sn sc,.slice tp tn tc]) L q):FrQ w L (xs++[.bool m,.slice so sn sc,.slice tp tn tc]) (l++[q]):=by
  have hl:=h.1;refine⟨by simp;omega,fun i p hi=>?_⟩;by_cases hlt:i<l.length
  · rw[List.getElem?_append_left hlt] at hi;obtain⟨m,so,sn,sc,tp,tn,tc,h1,h2,h3,h4⟩:=h.2 i p hi;refine⟨m,so,sn,sc,tp,tn,tc,?_,?_,?_,h4⟩<;>rw[List.getElem?_append_left (by omega)]<;>assumption
  · have hi':=(List.getElem?_eq_some_iff.1 hi).1;simp at hi';obtain rfl:i=l.length:=by omega
    rw[List.getElem?_append_right (by omega)] at hi;simp at hi;subst hi;refine⟨m,so,sn,sc,tp,tn,tc,?_,?_,?_,hq⟩;·rw[←hl,List.getElem?_append_right (by omega),Nat.sub_self];rfl
    ·rw[←hl,List.getElem?_append_right (by omega),Nat.add_sub_cancel_left];rfl
    ·rw[←hl,List.getElem?_append_right (by omega),Nat.add_sub_cancel_left];rfl
theorem fr_pick{L:Nat}:∀(l:List Rat)(G:Nat→Int→Nat→Prop),(∀i q,l[i]?=some q→∃X D,G i X D∧qv X D=q)→∃tl:List (Nat×Int×Nat),tl.map (fun a=>qv a.2.1 a.2.2)=l∧∀i a,tl[i]?=some a→a.1=L∧G i a.2.1 a.2.2|[],_,_=>⟨[],rfl,fun i a h=>by simp at h⟩|q::l,G,h=>by obtain⟨X,D,h0,h1⟩:=h 0 q rfl;obtain⟨tl,h2,h3⟩:=fr_pick (L:=L) l (fun i=>G (i+1)) (fun i p hp=>h (i+1) p hp);refine⟨(L,X,D)::tl,by rw[List.map_cons,h2];simp only[h1],fun i a ha=>?_⟩;match i,ha with|0,ha=>simp at ha;subst ha;exact⟨rfl,h0⟩|i+1,ha=>exact h3 i a (by simpa using ha)
def totQ(l:List Rat):Rat:=l.foldl (·+·) 0
theorem FrQ.fracs{w:World}{base:Nat}{e:TypeId}{ao:Option Addr}{c n L:Nat}{xs:List Value}{l:List Rat}(h:FrQ w L xs l)(hr:RowN w base e 3 (.slice ao n c) n xs)(hl:l.length=n):∃tl,tl.length=n∧(∀L' X D,(L',X,D)∈tl→L'=L)∧fVal tl=totQ l∧Fracs w ao tl:=by
  obtain⟨tl,h1,h2⟩:=fr_pick (L:=L) l (fun i X D=>∃m so sn sc tp tn tc,xs[i*3]?=some (.bool m)∧xs[i*3+1]?=some (.slice so sn sc)∧xs[i*3+2]?=some (.slice tp tn tc)∧FD w (.agg #[.bool m,.slice so sn sc,.slice tp tn tc]) L X D) (fun i q hi=>by obtain⟨m,so,sn,sc,tp,tn,tc,a1,a2,a3,X,D,a4,a5⟩:=h.2 i q hi;exact⟨X,D,⟨m,so,sn,sc,tp,tn,tc,a1,a2,a3,a4⟩,a5⟩);have hlen:tl.length=n:=by rw[←hl,←h1,List.length_map]
  refine⟨tl,hlen,fun L' X D hm=>?_,by unfold fVal totQ;rw[h1],fun i L' X D hi=>?_⟩
  · obtain⟨i,hi⟩:=List.mem_iff_getElem?.1 hm;exact(h2 i _ hi).1
  · obtain⟨e1,m,so,sn,sc,tp,tn,tc,a1,a2,a3,a4⟩:=h2 i _ hi;simp only[] at e1 a4;subst e1;have hil:=(List.getElem?_eq_some_iff.1 hi).1;obtain⟨g,rfl⟩:∃g,ao=some ⟨g,0,none⟩:=by
      rcases hr.2 with⟨-,h0⟩|⟨g,cap,cur,h0,-⟩;·omega
      ·injection h0 with h0;exact⟨g,h0⟩
    have cc:=hr.cells (g:=g) rfl;exact⟨g,0,m,so,sn,sc,tp,tn,tc,rfl,by rw[Nat.zero_add];exact cc _ _ a1,by rw[Nat.zero_add];exact cc _ _ a2,by rw[Nat.zero_add];exact cc _ _ a3,a4⟩
theorem perm_map_inv{α β:Type}{f:α→β}:∀{E E0:List β},E.Perm E0→∀Z:List α,E0=Z.map f→∃Z':List α,Z'.Perm Z∧Z'.map f=E:=by
  intro E E0 h;induction h with
  |nil=>intro Z hz;exact⟨Z,List.Perm.refl _,hz.symm⟩|cons x h ih=>intro Z hz;cases Z with
    |nil=>simp at hz|cons z Z=>
      simp at hz;obtain⟨h1,h2⟩:=hz;obtain⟨Z',h3,h4⟩:=ih Z h2;exact⟨z::Z',h3.cons z,by rw[List.map_cons,h4,h1]⟩
  |swap x y l=>
    intro Z hz;match Z,hz with
    |a::b::Z,hz=>simp at hz;obtain⟨h1,h2,h3⟩:=hz;exact⟨b::a::Z,List.Perm.swap _ _ _,by simp[h1,h2,h3]⟩|[a],hz=>simp at hz|[],hz=>simp at hz
  |trans h1 h2 ih1 ih2=>intro Z hz;obtain⟨Z1,h3,h4⟩:=ih2 Z hz;obtain⟨Z2,h5,h6⟩:=ih1 Z1 h4.symm;exact⟨Z2,h5.trans h3,h6⟩
def ShQ(w:World)(lo:Option Addr)(L:Nat)(l:List (Int×Rat)):Prop:=∀i v q,l[i]?=some (v,q)→∃b m so sn sc tp tn tc,lo=some ⟨b,0,none⟩∧w.cell? ⟨b,i*4,none⟩=some (.int .i64 v)∧w.cell? ⟨b,i*4+1,none⟩=some (.bool m)∧w.cell? ⟨b,i*4+2,none⟩=some (.slice so sn sc)∧w.cell? ⟨b,i*4+3,none⟩=some (.slice tp tn tc)∧FQ w (.agg #[.bool m,.slice so sn sc,.slice tp tn tc]) L q
theorem ShQ.below{w w':World}{lo:Option Addr}{L:Nat}{l:List (Int×Rat)}(h:ShQ w lo L l)(hb:Below w.heap.size w w'):ShQ w' lo L l:=fun i v q hi=>by obtain⟨b,m,so,sn,sc,tp,tn,tc,h0,h1,h2,h3,h4,h5⟩:=h i v q hi;have hl:=World.block_lt_of_cell? w _ h1;exact⟨b,m,so,sn,sc,tp,tn,tc,h0,(hb.cell (p:=⟨b,i*4,none⟩) hl).trans h1,(hb.cell (p:=⟨b,i*4+1,none⟩) hl).trans h2,(hb.cell (p:=⟨b,i*4+2,none⟩) hl).trans h3,(hb.cell (p:=⟨b,i*4+3,none⟩) hl).trans h4,h5.below hb⟩
def keptL(a:Rat)(l:List (Int×Rat)):List (Int×Rat):=(l.map fun x=>(x.1,x.2/a)).filter fun x=>decide (x.2≠0)
theorem keptL_snoc(a:Rat)(l:List (Int×Rat))(x:Int×Rat):keptL a (l++[x])=keptL a l++(if x.2/a=0 then[] else[(x.1,x.2/a)]):=by
  unfold keptL;rw[List.map_append,List.filter_append];congr 1;by_cases h:x.2/a=0;·rw[if_pos h];simp[h]
  ·rw[if_neg h];simp[h]
theorem keptL_len(a:Rat)(l:List (Int×Rat)):(keptL a l).length≤l.length:=by unfold keptL;exact Nat.le_trans (List.length_filter_le _ _) (by rw[List.length_map];exact Nat.le_refl _)
end Go.MagM
namespace Go.Proofs.YtammmemfkpcpcaaGreat
open Go.RowKit Go.MagM
theorem infoF:(Tryz.prog.info? 58).map (fun i=>(i.zero,i.size,i.bytes))=some (some (.agg #[.bool false,.slice none 0 0,.slice none 0 0]),3,56):=by kernel_rfl
def lenN(n L:Nat):Nat:=L+(1+n*(L+2))+3
set_option maxRecDepth 100000 in set_option maxHeartbeats 16000000 in theorem stNormal_any(lo:Option Addr)(n c L:Nat)(l:List (Int×Rat))(w:World)(hn:l.length=n)(hn9:n≤19)(hL:L≤1000000)(hsh:ShQ w lo L l)(hne:totQ (l.map (·.2))≠0)(hke:keptL (totQ (l.map (·.2))) l≠[]):Calls Tryz.prog 21 #[.slice lo n c] w fun e w'=>∃g c' xs ol,e= .returned (.slice (some ⟨g,0,none⟩) ol.length c')∧Box w' g xs∧ShR w' (lenN n L) xs ol∧ol.Perm (keptL (totQ (l.map (·.2))) l)∧(∀(i j:Nat)(x y:Int×Rat),i<j→ol[i]?=some x→ol[j]?=some y→x.1≤y.1)∧w.heap.size≤g∧Below w.heap.size w w':=by
  obtain⟨i0,hi,hz0,hz1,hz2⟩:=info_parts infoF;have HI:=Lib.hid hi;have HI0:=Lib.hid hz0;have HI1:=Lib.hid hz1;have HI2:=Lib.hid hz2;clear hi hz0 hz1 hz2;obtain⟨j0,hi,hz0,hz1,hz2⟩:=info_parts info_share;have HJ:=Lib.hid hi;have HJ0:=Lib.hid hz0;have HJ1:=Lib.hid hz1;have HJ2:=Lib.hid hz2;clear hi hz0 hz1 hz2;obtain⟨all,hall⟩:∃all,totQ (l.map (·.2))=all:=⟨_,rfl⟩;rw[hall] at hne hke⊢;have HALL:=Lib.hid hall;clear hall;have HSH:=Lib.hid hsh;have HN:=Lib.hid hn;have HNE:=Lib.hid hne;have HKE:=Lib.hid hke;clear hsh hn hne hke;go_enter Tryz.func21,Tryz.ntmps21;go_wp2;go_loopw [3,5,14] (fun pv _ iv wr=>∃k:Nat,∃xs:List Value,∃u:Value,k≤n∧iv= .int .i64 k∧u=pv∧RowN wr w.heap.size 58 3 u k xs∧FrQ wr L xs ((l.map (·.2)).take k)∧Below w.heap.size w wr) (fun _ _ iv _=>n-(intOf iv).toNat);case atStart=>exact⟨0,[],_,Nat.zero_le _,rfl,rfl,RowN.nil _ _ _ _,FrQ.nil _ _,Below.refl _ _⟩
  case round=>
    obtain⟨k,xs,u,hk,rfl,hu,row_0,fr_0,hB_0⟩:=hrel;subst hu;by_cases hlt:k<n
    · have hlt':decide ((k:Int)<(n:Int))=true:=decide_eq_true (by omega);obtain⟨⟨v,q⟩,hl⟩:∃s,l[k]?=some s:=⟨_,List.getElem?_eq_getElem (by rw[HN.out];exact hlt)⟩;obtain⟨b,m,so,sn,sc,tp,tn,tc,hlo,h1,h2,h3,h4,h5⟩:=(HSH.out.below hB_0) k v q hl;subst hlo;have hT:(l.map (·.2)).take (k+1)=(l.map (·.2)).take k++[q]:=by rw[List.take_add_one,List.getElem?_map,hl];rfl
      have j1:(0:Int)≤(k:Int):=by omega
      have j2:(k:Int)<(n:Int):=by omega
      obtain⟨w5,hw5,ps,hb5,hs5⟩:=new_box wr _ rfl [.int .i64 v,.bool m,.slice so sn sc,.slice tp tn tc] 61;have p1:=ps.c 1 _ rfl;have p2:=ps.c 2 _ rfl;have p3:=ps.c 3 _ rfl;obtain⟨w6,hw6,pz,hb6,hs6⟩:=new_box w5 _ hs5 [.bool m,.slice so sn sc,.slice tp tn tc] 58;have hb56:Below wr.heap.size wr w6:=hb5.trans (hb6.mono (by omega));have row6:=row_0.below hb56;have fr6:=(fr_0.below hb56).snoc (h5.below hb56);have hB6:=hB_0.trans (hb56.mono hB_0.size);have hrlt:=row6.lt;obtain⟨v1,wa,hrun,rown,hgrow,hkept⟩:=run_append_row (P:=Tryz.prog) w6 w.heap.size 114 114 58 i0 (.agg #[.bool false,.slice none 0 0,.slice none 0 0]) 3 56 (by kernel_rfl) HI.out HI0.out HI1.out HI2.out rfl (noWordB _ rfl) _ k _ row6 ⟨wr.heap.size+1,0,none⟩ 1 1 [.bool m,.slice so sn sc,.slice tp tn tc] (by omega) rfl pz.news (by intro u hu;simp at hu;rcases hu with rfl|rfl|rfl<;>rfl) (noWordB _ rfl) (by unfold maxLen;omega) (by omega) hB6.size;have FIN:=Lib.hid (show RowN wa w.heap.size 58 3 v1 (k+1) (xs++[.bool m,.slice so sn sc,.slice tp tn tc])∧FrQ wa L (xs++[.bool m,.slice so sn sc,.slice tp tn tc]) ((l.map (·.2)).take (k+1))∧Below w.heap.size w wa from⟨rown,by rw[hT];exact fr6.kept hkept,hB6.grown hgrow hB6.size (fun q hq=>(hrlt q hq).1)⟩);clear row_0 fr_0 hB_0 hl h5 hT ps hb5 pz hb6 hs6 hb56 row6 fr6 hB6 hrlt rown hgrow hkept;go_wp2_with (refine wpList_append_row rfl _ _ 114 rfl rfl rfl hrun ?_);exact⟨⟨k+1,_,_,by omega,by go_num,rfl,FIN.out.1,FIN.out.2.1,FIN.out.2.2⟩,by simp[intOf];omega⟩
    · have hlt':decide ((k:Int)<(n:Int))=false:=decide_eq_false (by omega);obtain rfl:k=n:=by omega
      obtain⟨ao,ac,rfl⟩:=row_0.shape;rw[List.take_of_length_le (by rw[List.length_map,HN.out];omega)] at fr_0;obtain⟨tl,ht1,ht2,ht3,ht4⟩:=fr_0.fracs row_0 (by rw[List.length_map];exact HN.out);rw[HALL.out] at ht3;have hfl:fLen tl≤1+k*(L+2):=by
        have:=fLen_le (l:=tl) (M:=L) (fun L' X D h=>Nat.le_of_eq (ht2 L' X D h)) k (by omega);rwa [List.take_of_length_le (by omega)] at this
      have hkL:k*(L+2)≤19*1000002:=Nat.mul_le_mul hn9 (by omega);have HSUM:=Lib.hid (show Calls Tryz.prog 57 #[.slice ao k ac] wr fun e w'=>AnsF wr w' e (1+k*(L+2)) all from(fSum_go ao k ac tl wr ht1 (by omega) (fun L' X D h=>by rw[ht2 L' X D h];exact hL) ht4).mono fun e w' h=>h.of hfl ht3);have HB:=Lib.hid hB_0;have HKL:=Lib.hid hkL;clear row_0 fr_0 hB_0 ht1 ht2 ht3 ht4 hfl hkL;go_wp2_with fail;refine HSUM.out.mono ?_;rintro e w7 ⟨ma,oa,na,ca,pa,ka,da,rfl,fa,hb7⟩;obtain⟨w8,hw8,pall,hb8,hs8⟩:=new_box w7 _ rfl [.bool ma,.slice oa na ca,.slice pa ka da] 58;obtain⟨ab,hab⟩:∃x,w7.heap.size=x:=⟨_,rfl⟩;rw[hab] at pall;have HB8:=Lib.hid (HB.out.trans ((hb7.trans (hb8.mono hb7.size)).mono HB.out.size));have FA:=Lib.hid (fa.below hb8);have PALL:=Lib.hid pall;have HSH8:=Lib.hid (HSH.out.below HB8.out);clear hb7 hb8 hs8 fa pall;go_wp2;clear hw8 hab;go_loopw [7,9,10,11,28] (fun pv _ _ _ iv wr=>∃i:Nat,∃E:List ShM,∃Q:List (Int×Rat),∃u:Value,i≤k∧iv= .int .i64 i∧u=pv∧E.length≤i∧RowN wr w8.heap.size 61 4 u E.length (shCells E)∧Q=keptL all (l.take i)∧(∃Z:List (ShM×Rat),Z.map (·.1)=E∧Z.map (fun z=>(z.1.v,z.2))=Q∧∀z∈Z,RF wr (.agg #[.bool z.1.m,.slice z.1.so z.1.sn z.1.sc,.slice z.1.tp z.1.tn z.1.tc]) (lenN k L) z.2)∧Below w8.heap.size w8 wr) (fun _ _ _ _ iv _=>k-(intOf iv).toNat);case atStart=>exact⟨0,[],[],_,Nat.zero_le _,rfl,rfl,Nat.le_refl _,RowN.nil _ _ _ _,rfl,⟨[],rfl,rfl,fun z hz=>by simp at hz⟩,Below.refl _ _⟩
      case round=>
        obtain⟨i,E,Q,u,hi,rfl,hu,hEi,row_0,hQ,⟨Z,hZ1,hZ2,hZ3⟩,hB_0⟩:=hrel;subst hu;by_cases hlt:i<k
        · have hlt':decide ((i:Int)<(k:Int))=true:=decide_eq_true (by omega);obtain⟨⟨v,q⟩,hl⟩:∃s,l[i]?=some s:=⟨_,List.getElem?_eq_getElem (by rw[HN.out];exact hlt)⟩;obtain⟨b,m,so,sn,sc,tp,tn,tc,hlo,h1,h2,h3,h4,h5⟩:=(HSH8.out.below hB_0) i v q hl;subst hlo;have hT:keptL all (l.take (i+1))=Q++(if q/all=0 then[] else[(v,q/all)]):=by rw[List.take_add_one,hl,hQ];exact keptL_snoc _ _ _
          have j1:(0:Int)≤(i:Int):=by omega
          have j2:(i:Int)<(k:Int):=by omega
          obtain⟨w9,hw9,ps,hb9,hs9⟩:=new_box wr _ rfl [.int .i64 v,.bool m,.slice so sn sc,.slice tp tn tc] 61;obtain⟨sb,hsb⟩:∃x,wr.heap.size=x:=⟨_,rfl⟩;rw[hsb] at ps;have hB9:=hB_0.trans (hb9.mono hB_0.size);have p1:=ps.c 1 _ rfl;have p2:=ps.c 2 _ rfl;have p3:=ps.c 3 _ rfl;have pa9:=PALL.out.below hB9;have a0:=pa9.c 0 _ rfl;have a1:=pa9.c 1 _ rfl;have a2:=pa9.c 2 _ rfl;have HDIV:=Lib.hid (qDiv _ _ L (1+k*(L+2)) q all w9 (by omega) (by have:=HKL.out;omega) (h5.below hb9) (FA.out.below hB9).q HNE.out);have HROW:=Lib.hid (row_0.below hb9);have HB9:=Lib.hid hB9;have HT:=Lib.hid hT;have HZ:=Lib.hid (show∀W,Below w9.heap.size w9 W→∀z∈Z,RF W (.agg #[.bool z.1.m,.slice z.1.so z.1.sn z.1.sc,.slice z.1.tp z.1.tn z.1.tc]) (lenN k L) z.2 from fun W hb z hz=>((hZ3 z hz).below hb9).below hb);have HZ1:=Lib.hid hZ1;have HZ2:=Lib.hid hZ2;have PS:=Lib.hid ps;have HLR:=Lib.hid (show∀g,u.ownBlock=some g→g<sb from fun g hg=>hsb▸(row_0.lt g hg).2);clear row_0 hQ hZ1 hZ2 hZ3 hB_0 hl h5 hT hb9 hB9 pa9 ps hs9;go_wp2_with fail;refine HDIV.out.mono ?_;rintro e w10 ⟨mw,ow,nw,cw,pw,kw,dw,rfl,fw,hb10⟩;obtain⟨w11,hw11,pw11,hb11,hs11⟩:=new_box w10 _ rfl [.bool mw,.slice ow nw cw,.slice pw kw dw] 58;have hb9b:Below w9.heap.size w9 w11:=hb10.trans (hb11.mono hb10.size);obtain⟨wb,hwb⟩:∃x,w10.heap.size=x:=⟨_,rfl⟩;rw[hwb] at pw11;have b0:=pw11.c 0 _ rfl;have b1:=pw11.c 1 _ rfl;have b2:=pw11.c 2 _ rfl;obtain⟨s,hs⟩:∃s,(q/all).num.sign=s:=⟨_,rfl⟩;have HSG:=Lib.hid (qSign _ (lenN k L) _ w11 (by unfold lenN;have:=HKL.out;omega) (fw.below hb11).q s hs);have HB9B:=Lib.hid hb9b;have FW:=Lib.hid (fw.below hb11);have PW:=Lib.hid pw11;have HS:=Lib.hid hs;clear a0 a1 a2 p1 p2 p3 hw9 hsb h1 h2 h3 h4 hb10 hs11 hb11 fw hb9b pw11 hs;go_wp2_with fail;refine HSG.out.mono ?_;rintro e w12 ⟨rfl,hb12⟩;clear hw11 hwb b0 b1 b2;have HB12:=Lib.hid (HB9B.out.trans (hb12.mono HB9B.out.size));have HB812:=Lib.hid (HB9.out.trans (HB12.out.mono HB9.out.size));have pw12:=PW.out.below hb12;have fw12:=FW.out.below hb12;clear hb12;by_cases hq0:q/all=0
          · have hs0:s=0:=by rw[←HS.out,hq0];rfl
            subst hs0;have FIN:=Lib.hid (show RowN w12 w8.heap.size 61 4 u E.length (shCells E)∧Q=keptL all (l.take (i+1))∧(∃Z:List (ShM×Rat),Z.map (·.1)=E∧Z.map (fun z=>(z.1.v,z.2))=Q∧∀z∈Z,RF w12 (.agg #[.bool z.1.m,.slice z.1.so z.1.sn z.1.sc,.slice z.1.tp z.1.tn z.1.tc]) (lenN k L) z.2)∧Below w8.heap.size w8 w12 from⟨HROW.out.below HB12.out,by rw[HT.out,if_pos hq0,List.append_nil],⟨Z,HZ1.out,HZ2.out,HZ.out w12 HB12.out⟩,HB812.out⟩);clear pw12 fw12 hq0;go_wp2;exact⟨⟨i+1,E,Q,u,by omega,by go_num,rfl,by omega,FIN.out.1,FIN.out.2.1,FIN.out.2.2.1,FIN.out.2.2.2⟩,by simp[intOf];omega⟩
          · have hs0:s≠0:=by
              intro e;rw[e] at HS;exact hq0 (Rat.num_eq_zero.1 (Int.sign_eq_zero_iff_zero.1 HS.out))
            have hsb0:(s !=0)=true:=by simp[hs0]
            have ps12:=PS.out.below HB12.out;have c0:=ps12.c 0 _ rfl;have d0:=pw12.c 0 _ rfl;have d1:=pw12.c 1 _ rfl;have d2:=pw12.c 2 _ rfl;obtain⟨w13,hw13,pz,hb13,hs13⟩:=new_box w12 _ rfl [.int .i64 v,.bool mw,.slice ow nw cw,.slice pw kw dw] 61;have row13:=(HROW.out.below HB12.out).below hb13;have hB13:=HB812.out.trans (hb13.mono HB812.out.size);have hrlt:=row13.lt;obtain⟨v1,wa,hrun,rown,hgrow,hkept⟩:=run_append_row (P:=Tryz.prog) w13 w8.heap.size 52 52 61 j0 (.agg #[.int .i64 0,.bool false,.slice none 0 0,.slice none 0 0]) 4 64 (by kernel_rfl) HJ.out HJ0.out HJ1.out HJ2.out rfl (noWordB _ rfl) _ E.length _ row13 ⟨w12.heap.size,0,none⟩ 1 1 [.int .i64 v,.bool mw,.slice ow nw cw,.slice pw kw dw] (by omega) rfl pz.news (by intro u hu;simp at hu;rcases hu with rfl|rfl|rfl|rfl<;>rfl) (noWordB _ rfl) (by unfold maxLen;omega) (by omega) hB13.size;have FIN:=Lib.hid (show RowN wa w8.heap.size 61 4 v1 (E++[ShM.mk v mw ow nw cw pw kw dw]).length (shCells (E++[ShM.mk v mw ow nw cw pw kw dw]))∧Q++[(v,q/all)]=keptL all (l.take (i+1))∧(∃Z:List (ShM×Rat),Z.map (·.1)=E++[ShM.mk v mw ow nw cw pw kw dw]∧Z.map (fun z=>(z.1.v,z.2))=Q++[(v,q/all)]∧∀z∈Z,RF wa (.agg #[.bool z.1.m,.slice z.1.so z.1.sn z.1.sc,.slice z.1.tp z.1.tn z.1.tc]) (lenN k L) z.2)∧Below w8.heap.size w8 wa from⟨by rw[shCells_app,List.length_append];exact rown,by rw[HT.out,if_neg hq0],⟨Z++[(ShM.mk v mw ow nw cw pw kw dw,q/all)],by rw[List.map_append,HZ1.out];rfl,by rw[List.map_append,HZ2.out];rfl,fun z hz=>by
              rw[List.mem_append] at hz;rcases hz with hz|hz;·exact((HZ.out w12 HB12.out z hz).below hb13).kept hkept
              · simp at hz;subst hz;exact(fw12.below hb13).kept hkept⟩,hB13.grown hgrow hB13.size (fun q hq=>(hrlt q hq).1)⟩);clear pw12 fw12 hq0 hs0 ps12 pz hb13 hs13 row13 hB13 hrlt rown hgrow hkept;go_wp2_with (refine wpList_append_row rfl _ _ 52 rfl rfl rfl hrun ?_);exact⟨⟨i+1,_,_,_,by omega,by go_num,rfl,by simp;omega,FIN.out.1,FIN.out.2.1,FIN.out.2.2.1,FIN.out.2.2.2⟩,by simp[intOf];omega⟩
        · have hlt':decide ((i:Int)<(k:Int))=false:=decide_eq_false (by omega);rw[List.take_of_length_le (by rw[HN.out];omega)] at hQ;have hQE:Q.length=E.length:=by rw[←hZ1,←hZ2,List.length_map,List.length_map]
          have hE0:0<E.length:=by
            rw[←hQE,hQ];exact List.length_pos_iff.2 HKE.out
          obtain⟨g,gc,rfl⟩:∃g gc,u= .slice (some ⟨g,0,none⟩) E.length gc:=by
            rcases row_0.2 with⟨-,h0⟩|⟨g,cap,cur,h0,-⟩;·omega
            ·exact⟨g,cap,h0⟩
          have HSO:=Lib.hid (stSort_any wr row_0 (by omega));have HZ:=Lib.hid (show∀W,Kept wr W→∀z∈Z,RF W (.agg #[.bool z.1.m,.slice z.1.so z.1.sn z.1.sc,.slice z.1.tp z.1.tn z.1.tc]) (lenN k L) z.2 from fun W hb z hz=>(hZ3 z hz).kept hb);have HB:=Lib.hid (HB8.out.trans (hB_0.mono HB8.out.size));have HZ1:=Lib.hid hZ1;have HZ2:=Lib.hid hZ2;have HQ:=Lib.hid hQ;have HGL:=Lib.hid (show w8.heap.size≤g∧w.heap.size≤w8.heap.size from⟨(row_0.lt g rfl).1,HB8.out.size⟩);have HB0:=Lib.hid hB_0;obtain⟨en,hen⟩:∃en,E.length=en:=⟨_,rfl⟩;have HEN:=Lib.hid hen;rw[hen] at HSO⊢;clear row_0 hZ1 hZ2 hZ3 hB_0 hQ hQE hE0 hen hEi;go_wp2_with fail;refine HSO.out.mono ?_;rintro e wz ⟨rfl,E',hl',hp,hso,hbox,-,hkz,hbz⟩;obtain⟨Z',hZp,hZe⟩:=perm_map_inv hp Z HZ1.out.symm;have hzl:Z'.length=en:=by rw[←hl',←hZe,List.length_map]
          have HFI:=Lib.hid (show∃g' c' xs ol,(Value.slice (some ⟨g,0,none⟩) en gc)= .slice (some ⟨g',0,none⟩) ol.length c'∧Box wz g' xs∧ShR wz (lenN k L) xs ol∧ol.Perm (keptL all l)∧(∀(i j:Nat)(x y:Int×Rat),i<j→ol[i]?=some x→ol[j]?=some y→x.1≤y.1)∧w.heap.size≤g'∧Below w.heap.size w wz from by
            refine⟨g,gc,shCells E',Z'.map (fun z=>(z.1.v,z.2)),by rw[List.length_map,hzl],hbox,⟨by rw[shCells_len,List.length_map,hzl,hl'],fun i v q hi=>?_⟩,?_,fun i j x y hij hx hy=>?_,by have:=HGL.out;omega,HB8.out.trans ((HB0.out.trans (hbz.mono HGL.out.1)).mono HB8.out.size)⟩;· rw[List.getElem?_map] at hi;cases hz:Z'[i]? with
              |none=>rw[hz] at hi;cases hi|some z=>
                rw[hz] at hi;simp at hi;obtain⟨rfl,rfl⟩:=hi;have hE:E'[i]?=some z.1:=by rw[←hZe,List.getElem?_map,hz];rfl
                exact⟨_,_,_,_,_,_,_,shCells_get E' i 0 _ hE (by omega),shCells_get E' i 1 _ hE (by omega),shCells_get E' i 2 _ hE (by omega),shCells_get E' i 3 _ hE (by omega),HZ.out wz hkz z (hZp.mem_iff.1 (List.mem_of_getElem? hz))⟩
            · rw[←HQ.out,←HZ2.out];exact hZp.map _
            · rw[List.getElem?_map] at hx hy;cases hzi:Z'[i]? with
              |none=>rw[hzi] at hx;cases hx|some z=>cases hzj:Z'[j]? with|none=>rw[hzj] at hy;cases hy|some z'=>rw[hzi] at hx;rw[hzj] at hy;simp at hx hy;subst hx;subst hy;exact hso i j z.1 z'.1 hij (by rw[←hZe,List.getElem?_map,hzi];rfl) (by rw[←hZe,List.getElem?_map,hzj];rfl));clear hl' hp hso hbox hkz hbz hZp hZe hzl;go_wp2;go_ret;obtain⟨g',c',xs,ol,h1,h2⟩:=HFI.out;exact⟨g',c',xs,ol,by rw[←h1];rfl,h2⟩
end Go.Proofs.YtammmemfkpcpcaaGreat
namespace Go.MagM
open Go.RowKit
def RawSh(w:World)(ao:Option Addr)(l:List (Int×Int×Nat)):Prop:=∀i v X D,l[i]?=some (v,X,D)→∃b o m so sn sc tp tn tc,ao=some ⟨b,o,none⟩∧w.cell? ⟨b,o+i*4,none⟩=some (.int .i64 v)∧w.cell? ⟨b,o+i*4+1,none⟩=some (.bool m)∧w.cell? ⟨b,o+i*4+2,none⟩=some (.slice so sn sc)∧w.cell? ⟨b,o+i*4+3,none⟩=some (.slice tp tn tc)∧∃L,FD w (.agg #[.bool m,.slice so sn sc,.slice tp tn tc]) L X D
theorem RawSh.below{w w':World}{ao:Option Addr}{l:List (Int×Int×Nat)}(h:RawSh w ao l)(hb:Below w.heap.size w w'):RawSh w' ao l:=by intro i v X D hi;obtain⟨b,o,m,so,sn,sc,tp,tn,tc,h0,h1,h2,h3,h4,L,h5⟩:=h i v X D hi;have hl:=World.block_lt_of_cell? w _ h1;exact⟨b,o,m,so,sn,sc,tp,tn,tc,h0,(hb.cell (p:=⟨b,o+i*4,none⟩) hl).trans h1,(hb.cell (p:=⟨b,o+i*4+1,none⟩) hl).trans h2,(hb.cell (p:=⟨b,o+i*4+2,none⟩) hl).trans h3,(hb.cell (p:=⟨b,o+i*4+3,none⟩) hl).trans h4,L,h5.below hb⟩
theorem FD.abs2{w:World}{m:Bool}{so:Option Addr}{sn sc:Nat}{tp:Option Addr}{tn tc:Nat}{L:Nat}{X:Int}{D:Nat}(h:FD w (.agg #[.bool m,.slice so sn sc,.slice tp tn tc]) L X D)(h1:sn≤2)(h2:tn≤2):FQ w (.agg #[.bool false,.slice so sn sc,.slice tp tn tc]) 2 (qv (X.natAbs:Int) D):=by obtain⟨N,⟨ao,n,c,f,e1,a1,-,a3,a4⟩,e2⟩:=h.num.part;obtain⟨bo,k,d,g,e3,b1,-,b3,b4⟩:=h.mag;injection e1 with x1 x2 x3;subst x1;subst x2;subst x3;injection e3 with x1 x2 x3;subst x1;subst x2;subst x3;refine⟨_,D,⟨false,so,sn,sc,tp,tn,tc,rfl,⟨false,_,N,rfl,⟨so,sn,sc,f,rfl,a1,h1,a3,a4⟩,rfl⟩,⟨tp,tn,tc,g,rfl,b1,h2,b3,b4⟩⟩,?_⟩;congr 1;rw[e2];unfold sgn;cases m<;>simp
theorem qv_nonneg(n D:Nat):0≤qv (n:Int) D:=by unfold qv;rw[←Rat.divInt_ofNat];exact Rat.divInt_nonneg (by omega) (by omega)
def absL(l:List (Int×Int×Nat)):List (Int×Rat):=l.map fun a=>(a.1,qv (a.2.1.natAbs:Int) a.2.2)
theorem absL_nonneg(l:List (Int×Int×Nat)):∀x∈absL l,0≤x.2:=by intro x hx;unfold absL at hx;rw[List.mem_map] at hx;obtain⟨a,-,rfl⟩:=hx;exact qv_nonneg _ _
theorem totQ_from:∀(l:List Rat)(a:Rat),l.foldl (·+·) a=a+totQ l|[],a=>by show a=a+0;rw[Rat.add_zero]|x::l,a=>by show l.foldl (·+·) (a+x)=a+l.foldl (·+·) (0+x);rw[totQ_from l,totQ_from l (0+x)];grind
theorem totQ_cons(x:Rat)(l:List Rat):totQ (x::l)=x+totQ l:=by show l.foldl (·+·) (0+x)=_;rw[totQ_from];grind
theorem totQ_nil:totQ []=0:=rfl
theorem totQ_snoc(l:List Rat)(x:Rat):totQ (l++[x])=totQ l+x:=by unfold totQ;rw[List.foldl_append];rfl
theorem totQ_perm{l k:List Rat}(h:l.Perm k):totQ l=totQ k:=by induction h with|nil=>rfl|cons x _ ih=>rw[totQ_cons,totQ_cons,ih]|swap x y l=>rw[totQ_cons,totQ_cons,totQ_cons,totQ_cons];grind|trans _ _ h1 h2=>exact h1.trans h2
theorem totQ_nonneg:∀(l:List (Int×Rat)),(∀x∈l,0≤x.2)→0≤totQ (l.map (·.2))|[],_=>by rw[List.map_nil,totQ_nil];exact Rat.le_refl|x::l,h=>by rw[List.map_cons,totQ_cons];have h1:=h x (by simp);have h2:=totQ_nonneg l (fun y hy=>h y (by simp[hy]));grind
theorem keptL_cons(a:Rat)(x:Int×Rat)(l:List (Int×Rat)):keptL a (x::l)=(if x.2/a=0 then[] else[(x.1,x.2/a)])++keptL a l:=by
  unfold keptL;rw[List.map_cons,List.filter_cons];by_cases h:x.2/a=0;·rw[if_pos h];simp[h]
  ·rw[if_neg h];simp[h]
theorem kept_sum(a:Rat)(ha:a≠0):∀(l:List (Int×Rat)),totQ ((keptL a l).map (·.2))*a=totQ (l.map (·.2))
  |[]=>by show(0:Rat)*a=0;rw[Rat.zero_mul]|x::l=>by
    have ih:=kept_sum a ha l;rw[keptL_cons,List.map_append,List.map_cons,totQ_cons];have hx:x.2/a*a=x.2:=Rat.div_mul_cancel ha;by_cases h:x.2/a=0;· rw[if_pos h,List.map_nil,List.nil_append,ih];rw[h,Rat.zero_mul] at hx;rw[←hx,Rat.zero_add]
    · rw[if_neg h];show totQ (x.2/a::(keptL a l).map (·.2))*a=_;rw[totQ_cons,Rat.add_mul,ih,hx]
theorem kept_ne{a:Rat}{l:List (Int×Rat)}(ha:a≠0)(e:totQ (l.map (·.2))=a):keptL a l≠[]:=by intro h;have:=kept_sum a ha l;rw[h,e,List.map_nil,totQ_nil,Rat.zero_mul] at this;exact ha this.symm
theorem kept_one{a:Rat}{l:List (Int×Rat)}(ha:a≠0)(e:totQ (l.map (·.2))=a):totQ ((keptL a l).map (·.2))=1:=by
  have:=kept_sum a ha l;rw[e] at this;have h2:(totQ ((keptL a l).map (·.2))-1)*a=0:=by grind
  rcases Rat.mul_eq_zero.1 h2 with h|h;·grind
  ·exact absurd h ha
theorem kept_mem{a:Rat}(ha:0<a){l:List (Int×Rat)}(hl:∀x∈l,0≤x.2){v:Int}{r:Rat}(h:(v,r)∈keptL a l):0<r∧∃x∈l,x.1=v∧r*a=x.2:=by
  unfold keptL at h;rw[List.mem_filter,List.mem_map] at h;obtain⟨⟨x,hx,e⟩,h2⟩:=h;injection e with e1 e2;have ha0:a≠0:=fun e=>absurd (e▸ha) (Rat.lt_irrefl);have h3:r*a=x.2:=by rw[←e2];exact Rat.div_mul_cancel ha0
  refine⟨?_,x,hx,e1,h3⟩;have h4:=hl x hx;have h5:r≠0:=by simpa using h2
  rcases(by grind:0<r∨0=r∨r<0) with h|h|h;·exact h
  ·exact absurd h.symm h5
  · exfalso;have:=Rat.mul_lt_mul_of_pos_right h ha;rw[Rat.zero_mul,h3] at this;exact absurd h4 (Rat.not_le.2 this)
def posN(l:List (Int×Rat)):Nat:=l.countP fun x=>decide (0<x.2)
theorem kept_count{a:Rat}(ha:0<a):∀{l:List (Int×Rat)},(∀x∈l,0≤x.2)→(keptL a l).length=posN l
  |[],_=>rfl|x::l,hl=>by
    have ih:=kept_count ha (l:=l) (fun y hy=>hl y (by simp[hy]));have h0:=hl x (by simp);have ha0:a≠0:=fun e=>absurd (e▸ha) (Rat.lt_irrefl);have hx:x.2/a*a=x.2:=Rat.div_mul_cancel ha0;rw[keptL_cons,List.length_append,ih];unfold posN;rw[List.countP_cons];by_cases h:x.2/a=0
    · rw[h,Rat.zero_mul] at hx;rw[if_pos h,if_neg (by rw[←hx];simp[Rat.lt_irrefl])];simp
    · have hp:0<x.2:=by
        rcases(by grind:0<x.2∨0=x.2∨x.2<0) with g|g|g;·exact g
        ·exfalso;apply h;rw[←g,Rat.div_def,Rat.zero_mul]
        ·exact absurd h0 (Rat.not_le.2 g)
      rw[if_neg h,if_pos (by simpa using hp)];simp;omega
theorem pos_sign{q:Rat}:0<q↔0<q.num.sign:=by
  have h1:=@Rat.num_nonneg q;have h2:=@Rat.num_eq_zero q;rw[show 0<q↔0<q.num from⟨fun h=>by
    have a:=h1.2 (Rat.le_of_lt h);have b:q.num≠0:=fun e=>by rw[h2.1 e] at h;exact Rat.lt_irrefl h
    omega,fun h=>by
    have a:=h1.1 (by omega);have b:q≠0:=fun e=>by rw[e] at h;exact absurd h (by decide)
    grind⟩];rcases Int.lt_trichotomy 0 q.num with h|h|h;·exact⟨fun _=>by rw[Int.sign_eq_one_of_pos h];omega,fun _=>h⟩
  ·rw[←h];simp
  ·exact⟨fun g=>by omega,fun g=>by rw[Int.sign_eq_neg_one_of_neg h] at g;omega⟩
theorem sign_three(q:Rat):q.num.sign=-1∨q.num.sign=0∨q.num.sign=1:=by
  rcases Int.lt_trichotomy 0 q.num with h|h|h;·exact .inr (.inr (Int.sign_eq_one_of_pos h))
  ·rw[←h];exact .inr (.inl rfl)
  ·exact .inl (Int.sign_eq_neg_one_of_neg h)
end Go.MagM
