import Derived.Test.YtdmfbkhafnkcfaaGreatPartj
import Derived.Maps.Keyed
import Derived.Maps.RangeRun
import Derived.Test.YtdmfbkhafnkcfaaGreatParth
import Derived.StillTailTactics
import Derived.Test.YtdmfbkhafnkcfaaGreatPartl
set_option linter.unusedSimpArgs false
set_option linter.unusedVariables false
namespace Go.MagM
open Go.RowKit Go.Maps
open Go.ChangeMaps (setBlock)
section
variable{P:Program}
structure Turned(w w':World)(b:Nat):Prop where
  os:w'.os=w.os
  tape:w'.tape=w.tape
  output:w'.output=w.output
  size:w'.heap.size=w.heap.size
  block:∀i,i≠b→w'.heap[i]?=w.heap[i]?
theorem Turned.refl(w:World)(b:Nat):Turned w w b:=⟨rfl,rfl,rfl,rfl,fun _ _=>rfl⟩
theorem Turned.below{w w':World}{b B:Nat}(h:Turned w w' b)(hB:B≤b):Below B w w':=⟨h.os,h.tape,h.output,by rw[h.size];exact Nat.le_refl _,fun k hk=>h.block k (by omega)⟩
theorem Below.turned{a w w':World}{b B:Nat}(h:Below B a w)(ht:Turned w w' b)(hB:B≤b):Below B a w':=h.trans (ht.below hB)
theorem Box.turned{w w':World}{g b:Nat}{vs:List Value}(h:Box w g vs)(ht:Turned w w' b)(hne:g≠b):Box w' g vs:=by have e:=ht.block g hne;exact⟨fun i x hi=>(World.cell?_of_block (a:=⟨g,i,none⟩) e).trans (h.c i x hi),fun i x hi=>(World.frozen?_of_block (a:=⟨g,i,none⟩) e).trans (h.f i x hi)⟩
theorem RowN.turned{w w':World}{b base:Nat}{e:TypeId}{size:Nat}{v:Value}{n:Nat}{xs:List Value}(h:RowN w base e size v n xs)(ht:Turned w w' b)(hne:∀k,v.ownBlock=some k→k≠b):RowN w' base e size v n xs:=h.block fun k hk _=>ht.block k (hne k hk)
theorem turned_set{w:World}{b:Nat}{o:Obj}(h:b<w.heap.size):Turned w (setBlock w b o) b∧(setBlock w b o).heap[b]?=some o:=by
  refine⟨⟨rfl,rfl,rfl,by simp[setBlock],fun i hi=>?_⟩,?_⟩;·simp[setBlock,Ne.symm hi]
  ·simp[setBlock,h]
structure MapB(P:Program)(k:TypeId)(w:World)(b:Nat)(m:List (Value×Value)):Prop where
  at_:∃es clock,w.heap[b]?=some (.map es clock)∧es.toList.map (fun e=>(e.key,e.val))=m∧(∀e∈es.toList,e.born<clock)∧(es.toList.map (·.born)).Nodup
  keys:∀p∈m,∃l,keyOf P k p.1=some l
  once:(m.map (·.1)).Nodup
theorem MapB.lt{k:TypeId}{w:World}{b:Nat}{m:List (Value×Value)}(h:MapB P k w b m):b<w.heap.size:=by obtain⟨es,clock,h1,_⟩:=h.at_;exact(Array.getElem?_eq_some_iff.1 h1).1
theorem MapB.block{k:TypeId}{w w':World}{b:Nat}{m:List (Value×Value)}(h:MapB P k w b m)(e:w'.heap[b]?=w.heap[b]?):MapB P k w' b m:=by obtain⟨es,clock,h1,h2⟩:=h.at_;exact⟨⟨es,clock,e.trans h1,h2⟩,h.keys,h.once⟩
theorem MapB.below{k:TypeId}{w w':World}{b:Nat}{m:List (Value×Value)}(h:MapB P k w b m)(hb:Below w.heap.size w w'):MapB P k w' b m:=h.block (hb.block b h.lt)
theorem run_new_map(w:World)(t:TypeId)(k:TypeId):(Instr.makeMap t none).run P w= .ok (.map (some w.heap.size)) (w.alloc (.map #[] 0))∧MapB P k (w.alloc (.map #[] 0)) w.heap.size []:=by refine⟨?_,⟨⟨#[],0,heap_alloc_new w _,rfl,by simp,by simp⟩,by simp,by simp⟩⟩;simp[Instr.makeMap,newObj,Sem.run,Result.andThen]
section
variable{t k e:TypeId}{w:World}{b:Nat}{m:List (Value×Value)}
theorem MapB.es_keys{es:Array MapEntry}(h:MapB P k w b m)(he:es.toList.map (fun e=>(e.key,e.val))=m):∀x∈es.toList,∃l,keyOf P k x.key=some l:=fun x hx=>by obtain⟨l,hl⟩:=h.keys (x.key,x.val) (by rw[←he];exact List.mem_map_of_mem hx);exact⟨l,hl⟩
theorem MapB.look(K:Keyed P k)(ht:P.underlying t=some (.map k e))(h:MapB P k w b m){x:Value}{lx:Lit}(hkey:keyOf P k x=some lx){z:Value}(hz:(zeroValue e).run P w= .ok z w)(ok:Bool):(∃v,(x,v)∈m∧(Instr.lookup t (.map (some b)) x ok).run P w= .ok (if ok then .tuple #[v,.bool true] else v) w)∨((∀v,(x,v)∉m)∧(Instr.lookup t (.map (some b)) x ok).run P w= .ok (if ok then .tuple #[z,.bool false] else z) w):=by
  obtain⟨es,clock,hb,he,_,_⟩:=h.at_;rcases K.find w hkey es.toList (h.es_keys he) with⟨h1,h2⟩|⟨j,e0,h1,h2,h3⟩
  · refine .inr ⟨fun v hv=>?_,?_⟩
    · rw[←he] at hv;obtain⟨y,hy,e1⟩:=List.mem_map.1 hv;exact h2 y hy (congrArg Prod.fst e1)
    ·simp[Instr.lookup,run_underlying ht,MapKept.run_getObj_map hb,K.check w _ hkey,h1,hz,Result.andThen]
  · refine .inl ⟨e0.val,?_,?_⟩;·rw[←he,←h3];exact List.mem_map_of_mem (List.mem_of_getElem? h2)
    ·simp[Instr.lookup,run_underlying ht,MapKept.run_getObj_map hb,K.check w _ hkey,h1,Result.andThen]
theorem MapB.store(K:Keyed P k)(ht:P.underlying t=some (.map k e))(h:MapB P k w b m){x:Value}{lx:Lit}(hkey:keyOf P k x=some lx)(v:Value):∃w' m',(Instr.mapUpdate t (.map (some b)) x v).run P w= .ok () w'∧Turned w w' b∧MapB P k w' b m'∧(((∀u,(x,u)∉m)∧m'=m++[(x,v)])∨∃j u,m[j]?=some (x,u)∧m'=m.set j (x,v)):=by
  obtain⟨es,clock,hb,he,hc,hn⟩:=h.at_;have hlt:=h.lt;rcases K.find w hkey es.toList (h.es_keys he) with⟨h1,h2⟩|⟨j,e0,h1,h2,h3⟩
  · have hno:∀u,(x,u)∉m:=fun u hu=>by
      rw[←he] at hu;obtain⟨y,hy,e1⟩:=List.mem_map.1 hu;exact h2 y hy (congrArg Prod.fst e1)
    obtain⟨t1,t2⟩:=turned_set (w:=w) (o:= .map (es.push ⟨x,v,clock⟩) (clock+1)) hlt;refine⟨setBlock w b (.map (es.push ⟨x,v,clock⟩) (clock+1)),m++[(x,v)],?_,t1,⟨⟨_,_,t2,?_,?_,?_⟩,?_,?_⟩,.inl ⟨hno,rfl⟩⟩;·simp[Instr.mapUpdate,run_underlying ht,MapKept.run_getObj_map hb,K.check w false hkey,h1,MapKept.run_setObj_map _ hb,Result.andThen,setBlock]
    ·rw[Array.toList_push,List.map_append,he];rfl
    · intro y hy;rw[Array.toList_push] at hy;rcases List.mem_append.1 hy with hy|hy;·have:=hc y hy;omega
      ·simp at hy;subst hy;simp
    · rw[Array.toList_push,List.map_append,List.nodup_append];refine⟨hn,by simp,fun p hp q hq e1=>?_⟩;obtain⟨y,hy,rfl⟩:=List.mem_map.1 hp;have:=hc y hy;simp at hq;subst hq;omega
    · intro p hp;rcases List.mem_append.1 hp with hp|hp;·exact h.keys p hp
      ·simp at hp;subst hp;exact⟨lx,hkey⟩
    · rw[List.map_append,List.nodup_append];refine⟨h.once,by simp,fun p hp q hq e1=>?_⟩;obtain⟨⟨y1,y2⟩,hy,rfl⟩:=List.mem_map.1 hp;simp at hq;subst hq;simp only[] at e1;subst e1;exact hno _ hy
  · have hj:es[j]?=some e0:=by simpa using h2
    have hmj:m[j]?=some (x,e0.val):=by rw[←he,List.getElem?_map,h2,←h3];rfl
    have hlist:(es.modify j (fun e'=>{e' with key:=x,val:=v})).toList=es.toList.set j {e0 with key:=x,val:=v}:=by rw[Array.toList_modify,ChangeMaps.modify_eq_set _ _ _ _ h2]
    obtain⟨t1,t2⟩:=turned_set (w:=w) (o:= .map (es.modify j (fun e'=>{e' with key:=x,val:=v})) clock) hlt;refine⟨setBlock w b (.map (es.modify j (fun e'=>{e' with key:=x,val:=v})) clock),m.set j (x,v),?_,t1,⟨⟨_,_,t2,?_,?_,?_⟩,?_,?_⟩,.inr ⟨j,_,hmj,rfl⟩⟩;·simp[Instr.mapUpdate,run_underlying ht,MapKept.run_getObj_map hb,K.check w false hkey,h1,hj,h3,K.stays w hkey,MapKept.run_setObj_map _ hb,Result.andThen,setBlock]
    ·rw[hlist,List.map_set,he]
    · intro y hy;rw[hlist] at hy;rcases List.mem_or_eq_of_mem_set hy with hy|hy;·exact hc y hy
      ·subst hy;exact hc e0 (List.mem_of_getElem? h2)
    · rw[hlist,List.map_set];have:(es.toList.map (·.born)).set j e0.born=es.toList.map (·.born):=by
        refine List.ext_getElem? fun i=>?_;rw[List.getElem?_set];split
        · rename_i hij;subst hij;have hj':=(List.getElem?_eq_some_iff.1 h2).1;rw[List.getElem?_map,h2];simp;exact(List.getElem?_eq_some_iff.1 h2).1
        ·rfl
      rw[this];exact hn
    · intro p hp;rcases List.mem_or_eq_of_mem_set hp with hp|hp;·exact h.keys p hp
      ·subst hp;exact⟨lx,hkey⟩
    · rw[List.map_set];have:(m.map (·.1)).set j x=m.map (·.1):=by
        refine List.ext_getElem? fun i=>?_;rw[List.getElem?_set];split
        · rename_i hij;subst hij;rw[List.getElem?_map,hmj];simp;exact(List.getElem?_eq_some_iff.1 hmj).1
        ·rfl
      rw[this];exact h.once
end
end
end Go.MagM
namespace Go.MagM
open Go.RowKit
theorem Turned.setCell{w w':World}{b:Nat}(h:Turned w w' b)(i:Nat)(v:Value):Turned w (w'.setCell ⟨b,i,none⟩ v) b:=by refine⟨h.os,h.tape,h.output,by simp[World.setCell,h.size],fun k hk=>?_⟩;rw[←h.block k hk];simp only[World.setCell,Array.getElem?_modify];rw[if_neg (Ne.symm hk)]
theorem Turned.drew{w w':World}{b:Nat}(h:Turned w w' b):Turned w w'.drew b:=⟨h.os,h.tape,h.output,h.size,h.block⟩
def Swapped(vs us:List Value)(k:Nat):Prop:=us.length=vs.length∧∀x,x<vs.length→us[x]?=if x<k∨vs.length-k≤x then vs[vs.length-1-x]? else vs[x]?
theorem Swapped.start(vs:List Value):Swapped vs vs 0:=⟨rfl,fun x hx=>by rw[if_neg (by omega)]⟩
theorem Swapped.next{vs us:List Value}{k:Nat}(h:Swapped vs us k)(hk:2*k+1<vs.length){a b:Value}(ha:vs[k]?=some a)(hb:vs[vs.length-1-k]?=some b):Swapped vs ((us.set k b).set (vs.length-1-k) a) (k+1):=by
  refine⟨by rw[List.length_set,List.length_set];exact h.1,fun x hx=>?_⟩;rw[List.getElem?_set,List.length_set,List.getElem?_set,h.1];by_cases h1:vs.length-1-k=x
  · subst h1;rw[if_pos rfl,if_pos (by omega),if_pos (by omega)];rw[show vs.length-1-(vs.length-1-k)=k by omega];exact ha.symm
  · rw[if_neg h1];by_cases h2:k=x;· subst h2;rw[if_pos rfl,if_pos (by omega),if_pos (by omega)];exact hb.symm
    · rw[if_neg h2,h.2 x hx];by_cases h3:x<k∨vs.length-k≤x;·rw[if_pos h3,if_pos (by omega)]
      ·rw[if_neg h3,if_neg (by omega)]
theorem Swapped.done{vs us:List Value}{k:Nat}(h:Swapped vs us k)(hk:vs.length≤2*k+1):us=vs.reverse:=by
  refine List.ext_getElem? fun x=>?_;by_cases hx:x<vs.length
  · rw[h.2 x hx,List.getElem?_reverse hx];by_cases h3:x<k∨vs.length-k≤x;·rw[if_pos h3]
    ·rw[if_neg h3,show vs.length-1-x=x by omega]
  ·rw[List.getElem?_eq_none (by rw[h.1];omega),List.getElem?_eq_none (by simp;omega)]
end Go.MagM
namespace Go.Proofs.YtdmfbkhafnkcfaaGreat
open Go.RowKit Go.MagM
set_option maxRecDepth 100000 in set_option maxHeartbeats 8000000 in theorem reverse_any(g n c:Nat)(zs:List Int)(w:World)(hn:zs.length=n)(h0:0<n)(hbig:n≤1000000)(h:Box w g (zs.map fun z=> .int .i64 z)):Calls Tryz.prog 170 #[.slice (some ⟨g,0,none⟩) n c] w fun e w'=>e= .returned (.tuple #[])∧Box w' g (zs.reverse.map fun z=> .int .i64 z)∧Turned w w' g:=by
  obtain⟨vs,hvs⟩:∃vs:List Value,(zs.map fun z=>Value.int .i64 z)=vs:=⟨_,rfl⟩;have hvl:vs.length=n:=by rw[←hvs,List.length_map,hn]
  have hvr:(zs.reverse.map fun z=>Value.int .i64 z)=vs.reverse:=by rw[←hvs,List.map_reverse]
  rw[hvr];rw[hvs] at h;have hat:∀x,x<n→∃z,vs[x]?=some (.int .i64 z):=fun x hx=>by
    obtain⟨z,hz⟩:∃z,zs[x]?=some z:=⟨_,List.getElem?_eq_getElem (by omega)⟩;exact⟨z,by rw[←hvs,List.getElem?_map,hz];rfl⟩
  have HB:=Lib.hid h;have HVL:=Lib.hid hvl;have HAT:=Lib.hid hat;clear hvs hvl hvr h hat hn;go_enter Tryz.func170,Tryz.ntmps170;go_wp2;go_loopw [2,3] (fun iv jv wr=>∃(k:Nat) (us:List Value),2*k≤n+1∧iv= .int .i64 k∧jv= .int .i64 ((n:Int)-1-(k:Int))∧Swapped vs us k∧Box wr g us∧Turned w wr g) (fun iv _ _=>n-(intOf iv).toNat);case atStart=>exact⟨0,vs,by omega,rfl,by simp,Swapped.start _,HB.out,Turned.refl _ _⟩
  case round=>
    obtain⟨k,us,hk,rfl,rfl,hsw,hbox,htu⟩:=hrel;have HSW:=Lib.hid hsw;have HBX:=Lib.hid hbox;have HTU:=Lib.hid htu;clear hsw hbox htu;obtain⟨jz,hjz⟩:∃jz:Int,(n:Int)-1-(k:Int)=jz:=⟨_,rfl⟩;rw[hjz];by_cases hlt:2*k+1<n
    · obtain⟨j,hj⟩:∃j,n-1-k=j:=⟨_,rfl⟩;obtain rfl:jz=(j:Int):=by omega
      have hkj:(k:Int)<(j:Int):=by omega
      obtain⟨a,ha⟩:=HAT.out k (by omega);obtain⟨b,hb⟩:=HAT.out j (by omega);have hua:us[k]?=some (.int .i64 a):=by rw[(HSW.out).2 k (by rw[HVL.out];omega),if_neg (by rw[HVL.out];omega)];exact ha
      have hub:us[j]?=some (.int .i64 b):=by rw[(HSW.out).2 j (by rw[HVL.out];omega),if_neg (by rw[HVL.out];omega)];exact hb
      have hsn:=(HSW.out).next (by rw[HVL.out];omega) ha (by rw[HVL.out,hj];exact hb);rw[HVL.out,hj] at hsn;have HSN:=Lib.hid hsn;have hd:=(HBX.out).drew;have ca:=hd.c k _ hua;have fa:=hd.f k _ hua;have cb:=hd.c j _ hub;have fb:=hd.f j _ hub;have hset:=hd.set k (.int .i64 b);have hset2:=hset.set j (.int .i64 a);have hujs:(us.set k (.int .i64 b))[j]?=some (.int .i64 b):=by rw[List.getElem?_set,if_neg (by omega)];exact hub
      have cb2:=hset.c j _ hujs;have fb2:=hset.f j _ hujs;have HS2:=Lib.hid hset2;have HTD:=Lib.hid ((HTU.out).drew);have b1:(0:Int)≤(k:Int):=by omega
      have b2:(k:Int)<(n:Int):=by omega
      have b3:(0:Int)≤(j:Int):=by omega
      have b4:(j:Int)<(n:Int):=by omega
      clear hua hub hsn hd hset hset2 hujs ha hb HSW HBX HTU;go_wp2;obtain⟨SSq,hSSq⟩:∃S:Array Bool→World→Prop,∀l w',S l w'↔((l.getD 13 true=false→w'.cell? ⟨g,k,none⟩=some (.int .i64 a))∧(l.getD 13 true=false→w'.cell? ⟨g,j,none⟩=some (.int .i64 b))):=⟨_,fun _ _=>Iff.rfl⟩;refine wp_region_noPanic ?_;refine wp_region_G SSq 16 #[false,false,false,false,false,false,false,false,false,false,false,false,false,false,false,false] (by kernel_rfl) (by kernel_rfl) (by kernel_rfl) ((hSSq _ _).2 ⟨(fun _=>ca),(fun _=>cb)⟩) (fun hCl hHeld=>?_);generalize wr.drew=w2 at*;refine rG 0 ?_ ?_ ?_ ?_ ?_ ?_ hCl hHeld ?_;rotate_left 2;·simp only[gA,gZ];exact rfl
      ·intro l w';rw[hSSq,hSSq];rw[getD_set_ne (i:=0) (j:=13) true (by decide)]
      ·rfl
      ·intro w' hA;clear hA;go_simp;try with_reducible rfl
      clear hCl hHeld;intro hCl hHeld;simp only[List.setIfInBounds_toArray,List.set_cons_zero] at hCl hHeld;try simp only[Act.put,sA,sZ,sS]
      refine rG 1 ?_ ?_ ?_ ?_ ?_ ?_ hCl hHeld ?_;rotate_left 2;·simp only[gA,gS,gZ];exact rfl
      ·intro l w';rw[hSSq,hSSq];rw[getD_set_ne (i:=1) (j:=13) true (by decide)]
      ·rfl
      ·intro w' hA;clear hA;go_simp;try with_reducible rfl
      clear hCl hHeld;intro hCl hHeld;simp only[sA,sZ,sS] at hCl hHeld;try simp only[Act.put,sA,sZ,sS]
      refine rG 2 ?_ ?_ ?_ ?_ ?_ ?_ hCl hHeld ?_;rotate_left 2;·simp only[gA,gS,gZ];exact rfl
      ·intro l w';rw[hSSq,hSSq];rw[getD_set_ne (i:=2) (j:=13) true (by decide)]
      ·rfl
      ·intro w' hA;clear hA;go_simp;try with_reducible rfl
      clear hCl hHeld;intro hCl hHeld;simp only[sA,sZ,sS] at hCl hHeld;try simp only[Act.put,sA,sZ,sS]
      refine rG 3 ?_ ?_ ?_ ?_ ?_ ?_ hCl hHeld ?_;rotate_left 2;·simp only[gA,gS,gZ];exact rfl
      ·intro l w';rw[hSSq,hSSq];rw[getD_set_ne (i:=3) (j:=13) true (by decide)]
      ·rfl
      ·intro w' hA;clear hA;go_simp;try with_reducible rfl
      clear hCl hHeld;intro hCl hHeld;simp only[sA,sZ,sS] at hCl hHeld;try simp only[Act.put,sA,sZ,sS]
      refine rG 4 ?_ ?_ ?_ ?_ ?_ ?_ hCl hHeld ?_;rotate_left 2;·simp only[gA,gS,gZ];exact rfl
      ·intro l w';rw[hSSq,hSSq];rw[getD_set_ne (i:=4) (j:=13) true (by decide)]
      ·rfl
      ·intro w' hA;clear hA;go_simp;try with_reducible rfl
      clear hCl hHeld;intro hCl hHeld;simp only[sA,sZ,sS] at hCl hHeld;try simp only[Act.put,sA,sZ,sS]
      refine rG 5 ?_ ?_ ?_ ?_ ?_ ?_ hCl hHeld ?_;rotate_left 2;·simp only[gA,gS,gZ];exact rfl
      ·intro l w';rw[hSSq,hSSq];rw[getD_set_ne (i:=5) (j:=13) true (by decide)]
      ·rfl
      ·intro w' hA;clear hA;go_simp;try with_reducible rfl
      clear hCl hHeld;intro hCl hHeld;simp only[sA,sZ,sS] at hCl hHeld;try simp only[Act.put,sA,sZ,sS]
      refine rG 6 ?_ ?_ ?_ ?_ ?_ ?_ hCl hHeld ?_;rotate_left 2;·simp only[gA,gS,gZ];exact rfl
      ·intro l w';rw[hSSq,hSSq];rw[getD_set_ne (i:=6) (j:=13) true (by decide)]
      ·rfl
      ·intro w' hA;clear hA;go_simp;try with_reducible rfl
      clear hCl hHeld;intro hCl hHeld;simp only[sA,sZ,sS] at hCl hHeld;try simp only[Act.put,sA,sZ,sS]
      refine rG 7 ?_ ?_ ?_ ?_ ?_ ?_ hCl hHeld ?_;rotate_left 2;·simp only[gA,gS,gZ];exact rfl
      ·intro l w';rw[hSSq,hSSq];rw[getD_set_ne (i:=7) (j:=13) true (by decide)]
      ·rfl
      ·intro w' hA;obtain⟨l,hl,hi,hSl⟩:=hA;have hSl:=(hSSq _ _).1 hSl;obtain⟨hy0,hy1⟩:=hSl;have hz0:=hy0 (hl.not (t:=13) (by kernel_rfl) hi);have hz1:=hy1 (hl.not (t:=13) (by kernel_rfl) hi);go_simp;try with_reducible rfl
      clear hCl hHeld;intro hCl hHeld;simp only[sA,sZ,sS] at hCl hHeld;try simp only[Act.put,sA,sZ,sS]
      refine rG 8 ?_ ?_ ?_ ?_ ?_ ?_ hCl hHeld ?_;rotate_left 2;·simp only[gA,gS,gZ];exact rfl
      ·intro l w';rw[hSSq,hSSq];rw[getD_set_ne (i:=8) (j:=13) true (by decide)]
      ·rfl
      ·intro w' hA;clear hA;go_simp;try with_reducible rfl
      clear hCl hHeld;intro hCl hHeld;simp only[sA,sZ,sS] at hCl hHeld;try simp only[Act.put,sA,sZ,sS]
      refine rG 9 ?_ ?_ ?_ ?_ ?_ ?_ hCl hHeld ?_;rotate_left 2;·simp only[gA,gS,gZ];exact rfl
      ·intro l w';rw[hSSq,hSSq];rw[getD_set_ne (i:=9) (j:=13) true (by decide)]
      ·rfl
      ·intro w' hA;clear hA;go_simp;try with_reducible rfl
      clear hCl hHeld;intro hCl hHeld;simp only[sA,sZ,sS] at hCl hHeld;try simp only[Act.put,sA,sZ,sS]
      refine rG 10 ?_ ?_ ?_ ?_ ?_ ?_ hCl hHeld ?_;rotate_left 2;·simp only[gA,gS,gZ];exact rfl
      ·intro l w';rw[hSSq,hSSq];rw[getD_set_ne (i:=10) (j:=13) true (by decide)]
      ·rfl
      ·intro w' hA;clear hA;go_simp;try with_reducible rfl
      clear hCl hHeld;intro hCl hHeld;simp only[sA,sZ,sS] at hCl hHeld;try simp only[Act.put,sA,sZ,sS]
      refine rG 11 ?_ ?_ ?_ ?_ ?_ ?_ hCl hHeld ?_;rotate_left 2;·simp only[gA,gS,gZ];exact rfl
      ·intro l w';rw[hSSq,hSSq];rw[getD_set_ne (i:=11) (j:=13) true (by decide)]
      ·rfl
      ·intro w' hA;obtain⟨l,hl,hi,hSl⟩:=hA;have hSl:=(hSSq _ _).1 hSl;obtain⟨hy0,hy1⟩:=hSl;have hz0:=hy0 (hl.not (t:=13) (by kernel_rfl) hi);have hz1:=hy1 (hl.not (t:=13) (by kernel_rfl) hi);go_simp;try with_reducible rfl
      clear hCl hHeld;intro hCl hHeld;simp only[sA,sZ,sS] at hCl hHeld;try simp only[Act.put,sA,sZ,sS]
      refine rG 12 ?_ ?_ ?_ ?_ ?_ ?_ hCl hHeld ?_;rotate_left 2;·simp only[gA,gS,gZ];exact rfl
      ·intro l w';rw[hSSq,hSSq];rw[getD_set_ne (i:=12) (j:=13) true (by decide)]
      ·rfl
      ·intro w' hA;clear hA;go_simp;try with_reducible rfl
      clear hCl hHeld;intro hCl hHeld;simp only[sA,sZ,sS] at hCl hHeld;try simp only[Act.put,sA,sZ,sS]
      clear hCl hHeld;refine rD 13 _ (fun K hK=>?_);go_simp;refine hK.out _ _ ((hSSq _ _).2 ⟨(fun h=>absurd h (by decide)),(fun h=>absurd h (by decide))⟩) ?_;clear hK K;try simp only[Act.put,sA,sZ,sS]
      refine rD 14 _ (fun K hK=>?_);go_simp;refine hK.out _ _ ((hSSq _ _).2 ⟨(fun h=>absurd h (by decide)),(fun h=>absurd h (by decide))⟩) ?_;clear hK K;try simp only[Act.put,sA,sZ,sS]
      refine rD 15 _ (fun K hK=>?_);go_simp;refine hK.out _ _ ((hSSq _ _).2 ⟨(fun h=>absurd h (by decide)),(fun h=>absurd h (by decide))⟩) ?_;clear hK K;try simp only[Act.put,sA,sZ,sS]
      refine wpAnyG_done (by kernel_rfl) ?_ _;refine NoPanic.normal ?_;clear hSSq SSq;go_wp2;refine⟨⟨k+1,_,by omega,by go_num,?_,HSN.out,HS2.out,((HTD.out).setCell k _).setCell j _⟩,?_⟩
      · have:(j:Int)-1=(n:Int)-1-((k+1:Nat):Int):=by omega
        rw[←this]
      ·simp[intOf];omega
    · have hge:¬(k:Int)<jz:=by omega
      have hfin:=(HSW.out).done (by rw[HVL.out];omega);have HFIN:=Lib.hid hfin;clear hfin;go_wp2;go_end0;exact⟨rfl,by rw[←HFIN.out];exact HBX.out,HTU.out⟩
end Go.Proofs.YtdmfbkhafnkcfaaGreat
