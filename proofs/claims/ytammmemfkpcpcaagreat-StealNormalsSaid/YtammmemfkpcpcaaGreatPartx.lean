import Derived.Test.YtammmemfkpcpcaaGreatParti
import Derived.Test.YtammmemfkpcpcaaGreatPartw
import Derived.Test.YtammmemfkpcpcaaGreatPartv
set_option linter.unusedSimpArgs false
set_option linter.unusedVariables false
namespace Go.MagM
open Go.RowKit
structure DugR(w:World)(es ei:TypeId)(n6 c6:Nat)(o6:Option Addr)(k6:Nat):Prop where
  rim:RowN w 0 es 5 (.slice o6 4 k6) 4 (sideCells qsR)
  tri:RowN w 0 ei 1 (.slice (some ⟨n6,0,none⟩) 2 c6) 2 (intCells [0,4])
theorem DugR.below{w w':World}{es ei:TypeId}{n6 c6:Nat}{o6:Option Addr}{k6:Nat}(h:DugR w es ei n6 c6 o6 k6)(hb:Below w.heap.size w w'):DugR w' es ei n6 c6 o6 k6:=⟨h.rim.below hb,h.tri.below hb⟩
theorem DugR.setAll{w:World}{es ei:TypeId}{n6 c6:Nat}{o6:Option Addr}{k6:Nat}(h:DugR w es ei n6 c6 o6 k6){g:Nat}(hb:Box w g [.slice none 0 0,.slice none 0 0,.bool false])(_:∀u∈[Value.slice none 0 0,.slice none 0 0,.bool false],NoWord u)(xs:List Value)(_:[Value.slice none 0 0,.slice none 0 0,.bool false].length=xs.length):DugR (Go.MagM.setAll w g 0 xs) es ei n6 c6 o6 k6:=by
  have h0:=hb.c 0 _ rfl;refine⟨RowN.farFrom (fun k hk e=>?_) xs 0 h.rim,RowN.farFrom (fun k hk e=>?_) xs 0 h.tri⟩
  · have:=h.rim.cells hk 0 _ rfl;rw[e,h0] at this;cases this
  · have:=h.tri.cells hk 0 _ rfl;rw[e,h0] at this;cases this
end Go.MagM
namespace Go.Proofs.YtammmemfkpcpcaaGreat
open Go.RowKit Go.MagM
theorem in1:InP 1:=by unfold InP;omega
theorem one_sgn:(((1:Int):Rat)).num.sign=1:=by rw[Rat.num_intCast];decide
theorem qs_dig0{mb pb pc:Nat}{ta:Option Addr}{tc:Nat}(w:World)(h:MeshR w mb pb pc ta tc qsP qsS):Calls Tryz.prog 44 #[.pointer (some ⟨mb,0,none⟩),.agg #[.int .i64 1,.int .i64 1],.agg #[.int .i64 1,.int .i64 0,.int .i64 0,.int .i64 2]] w fun e w'=>∃(ng nc:Nat) (or:Option Addr) (cr:Nat) (mt:Bool),e= .returned (.agg #[.slice (some ⟨ng,0,none⟩) 2 nc,.slice or 4 cr,.bool mt])∧DugR w' 161 3 ng nc or cr∧Below w.heap.size w w':=by refine(qs_dig w h).mono ?_;rintro e w' ⟨g,c,rv,ct,rfl,h1,h2,h3⟩;obtain⟨ro,rc,rfl⟩:=h1.shape;exact⟨g,c,ro,rc,ct,rfl,⟨rowN_base (Nat.zero_le _) h1,rowN_base (Nat.zero_le _) h2⟩,h3⟩
set_option maxRecDepth 100000 in set_option maxHeartbeats 32000000 in theorem fit14_any(w:World):Calls Tryz.prog 17 #[] w fun e w'=>e= .returned (.bool true)∧Below w.heap.size w w':=by
  obtain⟨w1,hw1,pp,hb1,hs1⟩:=new_box w _ rfl [.int .i64 0,.int .i64 0,.int .i64 2,.int .i64 0,.int .i64 2,.int .i64 2,.int .i64 0,.int .i64 2] 24;have hpt:PtsIn w1 w.heap.size qsP:=fun i x y hi=>by match i,hi with
    |0,hi=>cases hi;exact⟨pp.c 0 _ rfl,pp.c 1 _ rfl⟩|1,hi=>cases hi;exact⟨pp.c 2 _ rfl,pp.c 3 _ rfl⟩|2,hi=>cases hi;exact⟨pp.c 4 _ rfl,pp.c 5 _ rfl⟩|3,hi=>cases hi;exact⟨pp.c 6 _ rfl,pp.c 7 _ rfl⟩|_+4,hi=>cases hi
  have HN:=Lib.hid (qs_build w.heap.size 4 w1 hpt);have HB1:=Lib.hid hb1;clear pp hb1 hs1 hpt;go_enter Tryz.func17,Tryz.ntmps17;go_wp2_with fail;refine HN.out.mono ?_;rintro e w2 ⟨mb,pb0,pc,tv,rfl,hm,hb2⟩;obtain⟨ta,tcc,-,hr⟩:=hm.read;obtain⟨w3,hw3,pp_0,hb3,hs3⟩:=new_box w2 _ rfl [.int .i64 1,.int .i64 1] 24;obtain⟨pb,hpb⟩:∃x,w2.heap.size=x:=⟨_,rfl⟩;rw[hpb] at pp_0;have HR3:=Lib.hid (hr.below hb3);have HB3:=Lib.hid (HB1.out.trans ((hb2.trans (hb3.mono hb2.size)).mono HB1.out.size));clear hm hb2 hr hb3 hs3 hw1;go_wp2;clear hw3 hpb;have hB_0:=Below.refl w3.heap.size w3;have hWq_0:=Below.refl w3.heap.size w3;have hsq:w3.heap.size≤w3.heap.size:=hB_0.size;have hlqpp:=pp_0.lt;have hB_1:=hB_0.drew';have pp_1:=pp_0.drew;have hWq_1:=hWq_0.drew';clear hB_0 pp_0 hWq_0;refine wp_region_noPanic ?_;refine wp_region_held_drew (S:=fun w'=>w'.cell? ⟨pb,0,none⟩=some (.int .i64 1)∧w'.cell? ⟨pb,1,none⟩=some (.int .i64 1)) (by kernel_rfl) (⟨pp_1.c0,pp_1.c1⟩) (fun hHeld=>?_);refine rU 0 _ _ ?_;refine rU 1 _ _ ?_;refine rU 2 _ _ ?_;refine rU 3 _ _ ?_;refine reg_grab (fun WWq aq hWW hAA=>?_);have HWq:=Lib.hid hWW;have HAq:=Lib.hid hAA;clear hWW hAA hHeld;have stq_2t:∀(w':World)(n6:Nat)(c6:Nat)(o6:Option Addr)(k6:Nat)(m6:Bool)(gpq:Nat),Below w3.heap.size w3 w'→Box w' (pb) [.int .i64 1,.int .i64 1]→Below w3.heap.size w3 w'→DugR w' 161 3 n6 c6 o6 k6→Box w' gpq [.slice none 0 0,.slice none 0 0,.bool false]→w3.heap.size≤gpq→WWq 1 #[true,true,true,true,true,true,true,false] (((aq.put (some 26) (.agg #[.int .i64 1,.int .i64 0,.int .i64 0,.int .i64 2])).put (some 27) (.agg #[.slice (some ⟨n6,0,none⟩) 2 c6,.slice o6 4 k6,.bool m6])).put (some 4) (.pointer (some ⟨gpq,0,none⟩))) w':=by
    intro w11 n6 c6 o6 k6 m6 gpq hB_0 pp_0 hWq_0 hdug_0 pq_0 hgpq;rw[HWq.out,HAq.out];try simp only[Act.put,sA,sZ,sS]
    clear hWq_0;obtain⟨sf1a,sf1b,sf1c,sf1d,sf1e,sf1f⟩:=pq_0.open3;obtain⟨sg1a,sg1b,sg1c,sg1d⟩:=Box.put3 pq_0 (.slice (some ⟨n6,0,none⟩) 2 c6) (.slice o6 4 k6);refine rC 7 _ (fun K hK=>?_);go_simp;have hB_1:=below_setAll hB_0 (g:=gpq) (by omega) [.slice (some ⟨n6,0,none⟩) 2 c6,.slice o6 4 k6,.bool m6];have pp_1:=pp_0.farAll (g':=gpq) (by omega) [.slice (some ⟨n6,0,none⟩) 2 c6,.slice o6 4 k6,.bool m6];have hdug_1:=hdug_0.setAll pq_0 (noWordB _ rfl) [.slice (some ⟨n6,0,none⟩) 2 c6,.slice o6 4 k6,.bool m6] rfl;have pq_1:=pq_0.setAll [.slice (some ⟨n6,0,none⟩) 2 c6,.slice o6 4 k6,.bool m6] rfl;simp only[setAll,Nat.zero_add,Nat.reduceAdd] at hB_1 pp_1 hdug_1 pq_1;clear sf1a sf1b sf1c sf1d sf1e sf1f sg1a sg1b sg1c sg1d;clear hB_0 pp_0 hdug_0 pq_0;refine hK.out _ _ ⟨pp_1.c0,pp_1.c1⟩ (fun hHeld=>?_);clear hK K;try simp only[Act.put,sA,sZ,sS]
    generalize (World.setCell (World.setCell (World.setCell w11 ⟨gpq,0,none⟩ (.slice (some ⟨n6,0,none⟩) 2 c6)) ⟨gpq,1,none⟩ (.slice o6 4 k6)) ⟨gpq,2,none⟩ (.bool m6))=w12 at*;refine wpAnyH_done (by kernel_rfl) ?_ _;refine NoPanic.normal ?_;have HRIM:=Lib.hid hdug_1.rim;have HTR:=Lib.hid hdug_1.tri;have HB5:=Lib.hid hB_1;have PP5:=Lib.hid pp_1;have PQ5:=Lib.hid pq_1;have e0:=pp_1.c 0 _ rfl;have e1:=pp_1.c 1 _ rfl;have d0:=pq_1.c 0 _ rfl;have d1:=pq_1.c 1 _ rfl;have d2:=pq_1.c 2 _ rfl;clear hdug_1 hB_1 pp_1 pq_1;go_wp2_with fail;have HTS:=Lib.hid (show∀j v,qsT[j]?=some v→w12.cell? ⟨n6,j,none⟩=some (.int .i64 v) from fun j v hj=>HTR.out.cells (g:=n6) rfl j _ (intCells_get hj));refine(stAreas_any 1 1 n6 2 c6 o6 4 k6 m6 qsR qsT qsF 0 _ (HR3.out.below HB5.out) HRIM.out rfl (by omega) (by omega) qs_sides qs_in ⟨in1,in1⟩ HTS.out rfl (by omega) qs_trisOk (by decide) qs_fans).mono ?_;rintro e u1 ⟨av,axs,rfl,arow,ash,hb1⟩;obtain⟨ag,ac,rfl⟩:∃ag ac,av= .slice (some ⟨ag,0,none⟩) 4 ac:=by
      rcases arow.2 with⟨-,h⟩|⟨ag,cap,cur,h,-⟩;·omega
      ·exact⟨ag,cap,h⟩
    rw[qs_areas] at ash;clear e0 e1 d0 d1 d2;have HA3:=Lib.hid (HR3.out.below (HB5.out.trans (hb1.mono HB5.out.size)));have HRIM1:=Lib.hid (HRIM.out.below hb1);have PP1:=Lib.hid (PP5.out.below hb1);have PQ1:=Lib.hid (PQ5.out.below hb1);have HB6:=Lib.hid (HB3.out.trans ((HB5.out.trans (hb1.mono HB5.out.size)).mono HB3.out.size));obtain⟨m0,o0,n0,c0,p0,k0,d0,x00,x01,x02,x03,f0⟩:=ash.2 0 _ _ rfl;obtain⟨m1,o1,n1,c1,p1,k1,d1,x10,x11,x12,x13,f1⟩:=ash.2 1 _ _ rfl;obtain⟨m2,o2,n2,c2,p2,k2,d2,x20,x21,x22,x23,f2⟩:=ash.2 2 _ _ rfl;have F0:=Lib.hid f0;have F1:=Lib.hid f1;have F2:=Lib.hid f2;have AROW:=Lib.hid arow;have HSQ:=Lib.hid (show ShQ u1 (some ⟨ag,0,none⟩) 2233 qsA from fun i v q hi=>by obtain⟨m,so,sn,sc,tp,tn,tc,h1,h2,h3,h4,h5⟩:=ash.2 i v q hi;have cc:=arow.cells (g:=ag) rfl;exact⟨ag,m,so,sn,sc,tp,tn,tc,rfl,cc _ _ h1,cc _ _ h2,cc _ _ h3,cc _ _ h4,h5.q⟩);have C7:=Lib.hid (show∀w',Below u1.heap.size u1 w'→w'.cell? ⟨ag,1,none⟩=some (.bool m0)∧w'.cell? ⟨ag,2,none⟩=some (.slice o0 n0 c0)∧w'.cell? ⟨ag,3,none⟩=some (.slice p0 k0 d0)∧w'.cell? ⟨ag,5,none⟩=some (.bool m1)∧w'.cell? ⟨ag,6,none⟩=some (.slice o1 n1 c1)∧w'.cell? ⟨ag,7,none⟩=some (.slice p1 k1 d1)∧w'.cell? ⟨ag,9,none⟩=some (.bool m2)∧w'.cell? ⟨ag,10,none⟩=some (.slice o2 n2 c2)∧w'.cell? ⟨ag,11,none⟩=some (.slice p2 k2 d2)∧w'.cell? ⟨pb,0,none⟩=some (.int .i64 1)∧w'.cell? ⟨pb,1,none⟩=some (.int .i64 1)∧w'.cell? ⟨gpq,0,none⟩=some (.slice (some ⟨n6,0,none⟩) 2 c6)∧w'.cell? ⟨gpq,1,none⟩=some (.slice o6 4 k6)∧w'.cell? ⟨gpq,2,none⟩=some (.bool m6) from fun w' hb=>by have h:=AROW.out.below hb;have p:=PP1.out.below hb;have q:=PQ1.out.below hb;exact⟨h.cells (g:=ag) rfl _ _ x01,h.cells (g:=ag) rfl _ _ x02,h.cells (g:=ag) rfl _ _ x03,h.cells (g:=ag) rfl _ _ x11,h.cells (g:=ag) rfl _ _ x12,h.cells (g:=ag) rfl _ _ x13,h.cells (g:=ag) rfl _ _ x21,h.cells (g:=ag) rfl _ _ x22,h.cells (g:=ag) rfl _ _ x23,p.c 0 _ rfl,p.c 1 _ rfl,q.c 0 _ rfl,q.c 1 _ rfl,q.c 2 _ rfl⟩);clear arow ash hb1 f0 f1 f2 x00 x01 x02 x03 x10 x11 x12 x13 x20 x21 x22 x23;go_wp2;have hq_0:=(Below.refl u1.heap.size u1).drew';refine wp_region_noPanic ?_;refine wp_region_held_drew (S:=fun w'=>w'.cell? ⟨ag,1,none⟩=some (.bool m0)∧w'.cell? ⟨ag,2,none⟩=some (.slice o0 n0 c0)∧w'.cell? ⟨ag,3,none⟩=some (.slice p0 k0 d0)∧w'.cell? ⟨ag,5,none⟩=some (.bool m1)∧w'.cell? ⟨ag,6,none⟩=some (.slice o1 n1 c1)∧w'.cell? ⟨ag,7,none⟩=some (.slice p1 k1 d1)∧w'.cell? ⟨ag,9,none⟩=some (.bool m2)∧w'.cell? ⟨ag,10,none⟩=some (.slice o2 n2 c2)∧w'.cell? ⟨ag,11,none⟩=some (.slice p2 k2 d2)∧w'.cell? ⟨pb,0,none⟩=some (.int .i64 1)∧w'.cell? ⟨pb,1,none⟩=some (.int .i64 1)∧w'.cell? ⟨gpq,0,none⟩=some (.slice (some ⟨n6,0,none⟩) 2 c6)∧w'.cell? ⟨gpq,1,none⟩=some (.slice o6 4 k6)∧w'.cell? ⟨gpq,2,none⟩=some (.bool m6)) (by kernel_rfl) (C7.out _ hq_0) (fun hHeld=>?_);refine rU 0 _ _ ?_;refine rU 1 _ _ ?_;refine rU 2 _ _ ?_;refine rU 3 _ _ ?_;refine rU 4 _ _ ?_;refine rU 5 _ _ ?_;refine rU 6 _ _ ?_;refine rU 7 _ _ ?_;refine rU 8 _ _ ?_;refine rU 9 _ _ ?_;refine rU 10 _ _ ?_;refine rU 11 _ _ ?_;refine rC 12 _ (fun K hK=>?_);go_simp;refine(qSame_yes _ _ 2233 2233 _ _ _ (by omega) (by omega) (F0.out.below hq_0).q (F2.out.below hq_0).q rfl).mono ?_;rintro e v1 ⟨rfl,hb1q⟩;have hq_1:=hq_0.trans (hb1q.mono hq_0.size);go_wp2_with fail;refine hK.out _ _ (C7.out _ hq_1) (fun hHeld=>?_);clear hK K;try simp only[Act.put,sA,sZ,sS]
    refine rU 13 _ _ ?_;refine rU 14 _ _ ?_;refine rU 15 _ _ ?_;refine rU 16 _ _ ?_;refine rU 17 _ _ ?_;refine rU 18 _ _ ?_;refine rC 19 _ (fun K hK=>?_);go_simp;refine(qSign _ 2233 _ _ (by omega) (F1.out.below hq_1).q 1 one_sgn).mono ?_;rintro e v2 ⟨rfl,hb2q⟩;have hq_2:=hq_1.trans (hb2q.mono hq_1.size);go_wp2_with fail;refine hK.out _ _ (C7.out _ hq_2) (fun hHeld=>?_);clear hK K;try simp only[Act.put,sA,sZ,sS]
    refine rU 20 _ _ ?_;refine rU 21 _ _ ?_;refine rU 22 _ _ ?_;refine rU 23 _ _ ?_;refine rC 24 _ (fun K hK=>?_);go_simp;refine(stNormal_any (some ⟨ag,0,none⟩) 4 ac 2233 qsA _ rfl (by omega) (by omega) (HSQ.out.below hq_2) (by rw[qs_tot];exact ic_ne (by decide)) (fun h=>by have:=qs_kept;rw[h] at this;cases this)).mono ?_;rintro e v3 ⟨zg,zc,zx,ol,rfl,-,-,hpm,-,-,hb3q⟩;have hol:ol.length=4:=hpm.length_eq.trans qs_kept;rw[hol];clear hpm;have hq_3:=hq_2.trans (hb3q.mono hq_2.size);go_wp2_with fail;refine hK.out _ _ (C7.out _ hq_3) (fun hHeld=>?_);clear hK K;try simp only[Act.put,sA,sZ,sS]
    refine rU 25 _ _ ?_;refine rU 26 _ _ ?_;refine rU 27 _ _ ?_;refine rU 28 _ _ ?_;refine rU 29 _ _ ?_;refine rU 30 _ _ ?_;refine rU 31 _ _ ?_;refine rC 32 _ (fun K hK=>?_);go_simp;refine(stCell_any 1 1 (some ⟨n6,0,none⟩) 2 c6 o6 4 k6 m6 qsR 0 _ (HA3.out.below hq_3) (HRIM1.out.below hq_3) rfl (by omega) qs_sides qs_in ⟨in1,in1⟩).mono ?_;rintro e v4 ⟨cv,cxs,rfl,crow,csr,hb4q⟩;obtain⟨co,cc,hce,hsp⟩:=csr.spotsR crow rfl;subst hce;have SP:=Lib.hid hsp.spots;clear crow csr hsp;have hq_4:=hq_3.trans (hb4q.mono hq_3.size);go_wp2_with fail;refine hK.out _ _ (C7.out _ hq_4) (fun hHeld=>?_);clear hK K;try simp only[Act.put,sA,sZ,sS]
    refine rC 33 _ (fun K hK=>?_);go_simp;refine(sArea2_any co 4 cc (qsR.map (cornR qsP 1 1)) 7 _ rfl (by omega) (by omega) SP.out).mono ?_;rintro e v5 ⟨m8,o8,n8,c8,p8,k8,d8,rfl,f8,hb5q⟩;have hq_5:=hq_4.trans (hb5q.mono hq_4.size);go_wp2_with fail;refine hK.out _ _ (C7.out _ hq_5) (fun hHeld=>?_);clear hK K;try simp only[Act.put,sA,sZ,sS]
    refine rC 34 _ (fun K hK=>?_);go_simp;refine(fOf_any 4 (by omega) (by omega) _).mono ?_;rintro e v6 ⟨m9,o9,n9,c9,p9,k9,d9,rfl,f9,hb6q⟩;have f8':=f8.below hb6q;have hq_6:=hq_5.trans (hb6q.mono hq_5.size);go_wp2_with fail;refine hK.out _ _ (C7.out _ hq_6) (fun hHeld=>?_);clear hK K;try simp only[Act.put,sA,sZ,sS]
    refine rC 35 _ (fun K hK=>?_);go_simp;refine(qSame_yes _ _ (1+4*(((7+7+2)+(7+7+2)+2)+2)) 1 _ _ _ (by omega) (by omega) f8'.q f9.q qs_cell).mono ?_;rintro e v7 ⟨rfl,hb7q⟩;have hq_7:=hq_6.trans (hb7q.mono hq_6.size);go_wp2_with fail;refine hK.out _ _ (C7.out _ hq_7) (fun hHeld=>?_);clear hK K;try simp only[Act.put,sA,sZ,sS]
    refine rU 36 _ _ ?_;refine rU 37 _ _ ?_;try simp only[Act.put]
    try simp only[List.setIfInBounds_toArray,List.set_cons_zero]
    refine wpAnyH_done (by kernel_rfl) ?_ _;refine NoPanic.normal ?_;have HFIN:=Lib.hid (HB6.out.trans (hq_7.mono HB6.out.size));clear hHeld;go_wp2;go_ret;exact⟨rfl,HFIN.out⟩
  simp only[HAq.out,Act.put,sA,sZ,sS] at stq_2t;have stq_2f:∀(w':World)(n6:Nat)(c6:Nat)(o6:Option Addr)(k6:Nat)(m6:Bool),Below w3.heap.size w3 w'→Box w' (pb) [.int .i64 1,.int .i64 1]→Below w3.heap.size w3 w'→DugR w' 161 3 n6 c6 o6 k6→WWq 2 #[true,true,true,true,true,true,false,false] ((aq.put (some 26) (.agg #[.int .i64 1,.int .i64 0,.int .i64 0,.int .i64 2])).put (some 27) (.agg #[.slice (some ⟨n6,0,none⟩) 2 c6,.slice o6 4 k6,.bool m6])) w':=by
    intro w13 n6 c6 o6 k6 m6 hB_0 pp_0 hWq_0 hdug_0;rw[HWq.out,HAq.out];try simp only[Act.put,sA,sZ,sS]
    refine reg_all1 6 ?_ (by kernel_rfl) ?_ (fun K hK=>?_);rotate_left 1;·simp only[gA,gS,gZ];exact rfl
    · go_simp;have hgn:w3.heap.size≤w13.heap.size:=hWq_0.size;obtain⟨w14,hww14,pq_0,hb14,-⟩:=new_box w13 _ rfl [.slice none 0 0,.slice none 0 0,.bool false] 99;rw[hww14];have hB_1:=hB_0.trans (hb14.mono hB_0.size);have pp_1:=pp_0.below hb14;have hWq_1:=hWq_0.trans (hb14.mono hWq_0.size);have hdug_1:=hdug_0.below hb14;clear hb14 hB_0 pp_0 hWq_0 hdug_0;refine hK.out _ _ ⟨pp_1.c0,pp_1.c1⟩ (fun hHeld=>?_);clear hK K;try simp only[Act.put,sA,sZ,sS]
      rw[←HWq.out];exact stq_2t _ n6 c6 o6 k6 m6 w13.heap.size hB_1 pp_1 hWq_1 hdug_1 pq_0 (by omega)
  try simp only[HAq.out,Act.put,sA,sZ,sS] at stq_2f
  have stq_1t:∀(w':World)(gpq:Nat),Below w3.heap.size w3 w'→Box w' (pb) [.int .i64 1,.int .i64 1]→Below w3.heap.size w3 w'→Box w' gpq [.slice none 0 0,.slice none 0 0,.bool false]→w3.heap.size≤gpq→WWq 2 #[true,true,true,true,true,false,true,false] ((aq.put (some 26) (.agg #[.int .i64 1,.int .i64 0,.int .i64 0,.int .i64 2])).put (some 4) (.pointer (some ⟨gpq,0,none⟩))) w':=by
    intro w15 gpq hB_0 pp_0 hWq_0 pq_0 hgpq;rw[HWq.out,HAq.out];try simp only[Act.put,sA,sZ,sS]
    refine reg_all1 5 ?_ (by kernel_rfl) ?_ (fun K hK=>?_);rotate_left 1;·simp only[gA,gS,gZ];exact rfl
    · go_simp;refine(qs_dig0 _ (HR3.out.below hB_0)).mono ?_;rintro e w16 ⟨n6,c6,o6,k6,m6,rfl,hdug_0,hb16⟩;have hB_1:=hB_0.trans (hb16.mono hB_0.size);have pp_1:=pp_0.below hb16;have hWq_1:=hWq_0.trans (hb16.mono hWq_0.size);have pq_1:=pq_0.below hb16;clear hb16 hB_0 pp_0 hWq_0 pq_0;go_wp2_with fail;refine hK.out _ _ ⟨pp_1.c0,pp_1.c1⟩ (fun hHeld=>?_);clear hK K;try simp only[Act.put,sA,sZ,sS]
      rw[←HWq.out];exact stq_2t _ n6 c6 o6 k6 m6 gpq hB_1 pp_1 hWq_1 hdug_0 pq_1 (by omega)
  try simp only[HAq.out,Act.put,sA,sZ,sS] at stq_1t
  have stq_1f:∀(w':World),Below w3.heap.size w3 w'→Box w' (pb) [.int .i64 1,.int .i64 1]→Below w3.heap.size w3 w'→WWq 3 #[true,true,true,true,true,false,false,false] (aq.put (some 26) (.agg #[.int .i64 1,.int .i64 0,.int .i64 0,.int .i64 2])) w':=by
    intro w17 hB_0 pp_0 hWq_0;rw[HWq.out,HAq.out];try simp only[Act.put,sA,sZ,sS]
    refine reg_all2 5 6 ?_ ?_ (by kernel_rfl) ?_ ?_ (fun K hK=>?_) (fun K hK=>?_);rotate_left 2;·simp only[gA,gS,gZ];exact rfl
    ·simp only[gA,gS,gZ];exact rfl
    · go_simp;refine(qs_dig0 _ (HR3.out.below hB_0)).mono ?_;rintro e w18 ⟨n6,c6,o6,k6,m6,rfl,hdug_0,hb18⟩;have hB_1:=hB_0.trans (hb18.mono hB_0.size);have pp_1:=pp_0.below hb18;have hWq_1:=hWq_0.trans (hb18.mono hWq_0.size);clear hb18 hB_0 pp_0 hWq_0;go_wp2_with fail;refine hK.out _ _ ⟨pp_1.c0,pp_1.c1⟩ (fun hHeld=>?_);clear hK K;try simp only[Act.put,sA,sZ,sS]
      rw[←HWq.out];exact stq_2f _ n6 c6 o6 k6 m6 hB_1 pp_1 hWq_1 hdug_0
    · go_simp;have hgn:w3.heap.size≤w17.heap.size:=hWq_0.size;obtain⟨w19,hww19,pq_0,hb19,-⟩:=new_box w17 _ rfl [.slice none 0 0,.slice none 0 0,.bool false] 99;rw[hww19];have hB_1:=hB_0.trans (hb19.mono hB_0.size);have pp_1:=pp_0.below hb19;have hWq_1:=hWq_0.trans (hb19.mono hWq_0.size);clear hb19 hB_0 pp_0 hWq_0;refine hK.out _ _ ⟨pp_1.c0,pp_1.c1⟩ (fun hHeld=>?_);clear hK K;try simp only[Act.put,sA,sZ,sS]
      rw[←HWq.out];exact stq_1t _ w17.heap.size hB_1 pp_1 hWq_1 pq_0 (by omega)
  try simp only[HAq.out,Act.put,sA,sZ,sS] at stq_1f
  have stq_0t:∀(w':World)(gpq:Nat),Below w3.heap.size w3 w'→Box w' (pb) [.int .i64 1,.int .i64 1]→Below w3.heap.size w3 w'→Box w' gpq [.slice none 0 0,.slice none 0 0,.bool false]→w3.heap.size≤gpq→WWq 3 #[true,true,true,true,false,false,true,false] (aq.put (some 4) (.pointer (some ⟨gpq,0,none⟩))) w':=by
    intro w20 gpq hB_0 pp_0 hWq_0 pq_0 hgpq;rw[HWq.out,HAq.out];try simp only[Act.put,sA,sZ,sS]
    refine reg_all1 4 ?_ (by kernel_rfl) ?_ (fun K hK=>?_);rotate_left 1;·simp only[gA,gS,gZ];exact rfl
    · go_simp;refine(qs_place _ (HR3.out.below hB_0)).mono ?_;rintro e w21 ⟨rfl,hb21⟩;have hB_1:=hB_0.trans (hb21.mono hB_0.size);have pp_1:=pp_0.below hb21;have hWq_1:=hWq_0.trans (hb21.mono hWq_0.size);have pq_1:=pq_0.below hb21;clear hb21 hB_0 pp_0 hWq_0 pq_0;go_wp2_with fail;refine hK.out _ _ ⟨pp_1.c0,pp_1.c1⟩ (fun hHeld=>?_);clear hK K;try simp only[Act.put,sA,sZ,sS]
      rw[←HWq.out];exact stq_1t _ gpq hB_1 pp_1 hWq_1 pq_1 (by omega)
  try simp only[HAq.out,Act.put,sA,sZ,sS] at stq_0t
  have stq_0f:∀(w':World),Below w3.heap.size w3 w'→Box w' (pb) [.int .i64 1,.int .i64 1]→Below w3.heap.size w3 w'→WWq 4 #[true,true,true,true,false,false,false,false] aq w':=by
    intro w22 hB_0 pp_0 hWq_0;rw[HWq.out,HAq.out];try simp only[Act.put,sA,sZ,sS]
    refine reg_all2 4 6 ?_ ?_ (by kernel_rfl) ?_ ?_ (fun K hK=>?_) (fun K hK=>?_);rotate_left 2;·simp only[gA,gS,gZ];exact rfl
    ·simp only[gA,gS,gZ];exact rfl
    · go_simp;refine(qs_place _ (HR3.out.below hB_0)).mono ?_;rintro e w23 ⟨rfl,hb23⟩;have hB_1:=hB_0.trans (hb23.mono hB_0.size);have pp_1:=pp_0.below hb23;have hWq_1:=hWq_0.trans (hb23.mono hWq_0.size);clear hb23 hB_0 pp_0 hWq_0;go_wp2_with fail;refine hK.out _ _ ⟨pp_1.c0,pp_1.c1⟩ (fun hHeld=>?_);clear hK K;try simp only[Act.put,sA,sZ,sS]
      rw[←HWq.out];exact stq_1f _ hB_1 pp_1 hWq_1
    · go_simp;have hgn:w3.heap.size≤w22.heap.size:=hWq_0.size;obtain⟨w24,hww24,pq_0,hb24,-⟩:=new_box w22 _ rfl [.slice none 0 0,.slice none 0 0,.bool false] 99;rw[hww24];have hB_1:=hB_0.trans (hb24.mono hB_0.size);have pp_1:=pp_0.below hb24;have hWq_1:=hWq_0.trans (hb24.mono hWq_0.size);clear hb24 hB_0 pp_0 hWq_0;refine hK.out _ _ ⟨pp_1.c0,pp_1.c1⟩ (fun hHeld=>?_);clear hK K;try simp only[Act.put,sA,sZ,sS]
      rw[←HWq.out];exact stq_0t _ w22.heap.size hB_1 pp_1 hWq_1 pq_0 (by omega)
  exact stq_0f _ hB_1 pp_1 hWq_1
end Go.Proofs.YtammmemfkpcpcaaGreat
namespace Go.MagM
open Go.RowKit
def ShW(w:World)(L:Nat)(xs:List Value)(l:List (Int×Rat)):Prop:=xs.length=l.length*4∧∀i v q,l[i]?=some (v,q)→∃m so sn sc tp tn tc,xs[i*4]?=some (.int .i64 v)∧xs[i*4+1]?=some (.bool m)∧xs[i*4+2]?=some (.slice so sn sc)∧xs[i*4+3]?=some (.slice tp tn tc)∧FQ w (.agg #[.bool m,.slice so sn sc,.slice tp tn tc]) L q
theorem ShW.kept{w w':World}{L:Nat}{xs:List Value}{l:List (Int×Rat)}(h:ShW w L xs l)(hk:Kept w w'):ShW w' L xs l:=⟨h.1,fun i v q hi=>by obtain⟨m,so,sn,sc,tp,tn,tc,h1,h2,h3,h4,h5⟩:=h.2 i v q hi;exact⟨m,so,sn,sc,tp,tn,tc,h1,h2,h3,h4,h5.kept hk⟩⟩
theorem ShW.below{w w':World}{L:Nat}{xs:List Value}{l:List (Int×Rat)}(h:ShW w L xs l)(hb:Below w.heap.size w w'):ShW w' L xs l:=h.kept (Kept.below hb)
theorem ShW.nil(w:World)(L:Nat):ShW w L [] []:=⟨rfl,fun i v q hi=>by simp at hi⟩
theorem ShW.snoc{w:World}{L:Nat}{xs:List Value}{l:List (Int×Rat)}(h:ShW w L xs l)(v:Int){m:Bool}{so:Option Addr}{sn sc:Nat}{tp:Option Addr}{tn tc:Nat}{q:Rat}(hq:FQ w (.agg #[.bool m,.slice so sn sc,.slice tp tn tc]) L q):ShW w L (xs++[.int .i64 v,.bool m,.slice so sn sc,.slice tp tn tc]) (l++[(v,q)]):=by
  have hl:=h.1;refine⟨by simp;omega,fun i v' q' hi=>?_⟩;by_cases hlt:i<l.length
  · rw[List.getElem?_append_left hlt] at hi;obtain⟨m',so',sn',sc',tp',tn',tc',h1,h2,h3,h4,h5⟩:=h.2 i v' q' hi;refine⟨m',so',sn',sc',tp',tn',tc',?_,?_,?_,?_,h5⟩<;>rw[List.getElem?_append_left (by omega)]<;>assumption
  · rw[List.getElem?_append_right (by omega)] at hi;have h0:=(List.getElem?_eq_some_iff.1 hi).1;obtain⟨rfl⟩:i=l.length:=by simp at h0;omega
    simp at hi;obtain⟨rfl,rfl⟩:=hi;refine⟨m,so,sn,sc,tp,tn,tc,?_,?_,?_,?_,hq⟩;·rw[List.getElem?_append_right (by omega),show l.length*4-xs.length=0 by omega];rfl
    ·rw[List.getElem?_append_right (by omega),show l.length*4+1-xs.length=1 by omega];rfl
    ·rw[List.getElem?_append_right (by omega),show l.length*4+2-xs.length=2 by omega];rfl
    ·rw[List.getElem?_append_right (by omega),show l.length*4+3-xs.length=3 by omega];rfl
theorem ShW.shQ{w:World}{base:Nat}{e:TypeId}{g n c L:Nat}{xs:List Value}{l:List (Int×Rat)}(h:ShW w L xs l)(hr:RowN w base e 4 (.slice (some ⟨g,0,none⟩) n c) n xs):ShQ w (some ⟨g,0,none⟩) L l:=fun i v q hi=>by obtain⟨m,so,sn,sc,tp,tn,tc,h1,h2,h3,h4,h5⟩:=h.2 i v q hi;have cc:=hr.cells (g:=g) rfl;exact⟨g,m,so,sn,sc,tp,tn,tc,rfl,cc _ _ h1,cc _ _ h2,cc _ _ h3,cc _ _ h4,h5⟩
theorem posN_snoc(l:List (Int×Rat))(x:Int×Rat):posN (l++[x])=posN l+(if 0<x.2 then 1 else 0):=by
  unfold posN;rw[List.countP_append,List.countP_cons];by_cases h:0<x.2;·rw[if_pos (by simpa using h),if_pos h];rfl
  ·rw[if_neg (by simpa using h),if_neg h];rfl
end Go.MagM
namespace Go.Proofs.YtammmemfkpcpcaaGreat
open Go.RowKit Go.MagM
set_option maxRecDepth 100000 in set_option maxHeartbeats 32000000 in theorem StealNormals_walk(ao:Option Addr)(n c:Nat)(l:List (Int×Int×Nat))(w:World)(hl:l.length=n)(hraw:RawSh w ao l):Calls Tryz.prog 4 #[.slice ao n c] w fun e w'=>e= .returned (.bool true)∧Below w.heap.size w w':=by
  obtain⟨j0,hi,hz0,hz1,hz2⟩:=info_parts info_share;have HJ:=Lib.hid hi;have HJ0:=Lib.hid hz0;have HJ1:=Lib.hid hz1;have HJ2:=Lib.hid hz2;clear hi hz0 hz1 hz2;have HF:=Lib.hid (fun W=>fit14_any W);have HRAW0:=Lib.hid hraw;obtain⟨il,hil⟩:∃il,absL l=il:=⟨_,rfl⟩;have HIL:=Lib.hid hil;have HLL:=Lib.hid hl;have HN:=Lib.hid (show il.length=n by rw[←hil,←hl];unfold absL;rw[List.length_map]);have HPOS:=Lib.hid (show∀x∈il,0≤x.2 from hil▸absL_nonneg l);clear hraw hl hil;go_enter Tryz.func4,Tryz.ntmps4;go_wp2_with fail;refine(HF.out _).mono ?_;rintro e w1 ⟨rfl,hb1⟩;have HB1:=Lib.hid hb1;have HRAW1:=Lib.hid (HRAW0.out.below hb1);clear hb1 HRAW0;by_cases h8:8<n
  · have d8:decide ((8:Int)<(n:Int))=true:=decide_eq_true (by omega);have d8':decide ((n:Int)>8)=true:=decide_eq_true (by omega);have d8n:decide (8<n)=true:=decide_eq_true h8;go_wp2;go_ret;exact⟨rfl,HB1.out⟩
  have d8:decide ((8:Int)<(n:Int))=false:=decide_eq_false (by omega);have d8':decide ((n:Int)>8)=false:=decide_eq_false (by omega);have d8n:decide (8<n)=false:=decide_eq_false h8;have hn8:n≤8:=by omega
  go_wp2_with fail;refine(fOf_any 0 (by omega) (by omega) _).mono ?_;rintro e w2 ⟨mz_,oz_,nz_,cz_,pz_,kz_,dz_,rfl,fz,hb2⟩;clear d8 d8' d8n;obtain⟨w3,hw3,pz,hb3,hs3⟩:=new_box w2 _ rfl [.bool mz_,.slice oz_ nz_ cz_,.slice pz_ kz_ dz_] 58;obtain⟨sb,hsb⟩:∃x,w2.heap.size=x:=⟨_,rfl⟩;rw[hsb] at pz;have HB2:=Lib.hid (HB1.out.trans (hb2.mono HB1.out.size));have HRAW2:=Lib.hid (HRAW1.out.below hb2);have HB3:=Lib.hid hb3;have FZ:=Lib.hid (show RF w3 (.agg #[.bool mz_,.slice oz_ nz_ cz_,.slice pz_ kz_ dz_]) 1 0 from(fz.below hb3).of rfl);have PZ:=Lib.hid pz;have HSB:=Lib.hid (show w2.heap.size=sb from hsb);have HS3:=Lib.hid (show w3.heap.size=w2.heap.size+1 from hs3);clear hb2 hb3 hs3 fz pz HB1 HRAW1;go_wp2;clear hw3 hsb;go_loopw [4,6,7,26] (fun pv _ _ iv wr=>∃(k:Nat) (xs:List Value) (u:Value) (ms_:Bool) (os_:Option Addr) (ns_ cs_:Nat) (ps_:Option Addr) (ks_ ds_:Nat),k≤n∧iv= .int .i64 k∧u=pv∧RowN wr w2.heap.size 61 4 u k xs∧ShW wr 2 xs (il.take k)∧Box wr sb [.bool ms_,.slice os_ ns_ cs_,.slice ps_ ks_ ds_]∧RF wr (.agg #[.bool ms_,.slice os_ ns_ cs_,.slice ps_ ks_ ds_]) (1+4*k) (totQ ((il.take k).map (·.2)))∧(∀g,u.ownBlock=some g→sb<g)∧Below w2.heap.size w2 wr) (fun _ _ _ iv _=>n-(intOf iv).toNat);case atStart=>exact⟨0,[],_,_,_,_,_,_,_,_,Nat.zero_le _,rfl,rfl,RowN.nil _ _ _ _,ShW.nil _ _,PZ.out,FZ.out,fun g hg=>by simp[Value.ownBlock] at hg,HB3.out⟩
  case round=>
    obtain⟨k,xs,u,ms_,os_,ns_,cs_,ps_,ks_,ds_,hk,rfl,hu,row_0,sh_0,ps_0,fs_0,hug,hB_0⟩:=hrel;subst hu;by_cases hlt:k<n
    · have hlt':decide ((k:Int)<(n:Int))=true:=decide_eq_true (by omega);obtain⟨⟨v,X,D⟩,hx⟩:∃s,l[k]?=some s:=⟨_,List.getElem?_eq_getElem (by rw[HLL.out];exact hlt)⟩;obtain⟨b,o,m,so,sn,sc,tp,tn,tc,hao,r0,r1,r2,r3,Lx,hfd⟩:=(HRAW2.out.below hB_0) k v X D hx;subst hao;have hT:il.take (k+1)=il.take k++[(v,qv (X.natAbs:Int) D)]:=by
        rw[List.take_add_one,←HIL.out];unfold absL;rw[List.getElem?_map,hx];rfl
      have j1:(0:Int)≤(k:Int):=by omega
      have j2:(k:Int)<(n:Int):=by omega
      obtain⟨w5,hw5,pt,hb5,hs5⟩:=new_box wr _ rfl [.int .i64 v,.bool m,.slice so sn sc,.slice tp tn tc] 61;have t0:=pt.c 0 _ rfl;have t1:=pt.c 1 _ rfl;have t2:=pt.c 2 _ rfl;have t3:=pt.c 3 _ rfl;have HFI:=Lib.hid (show Below w.heap.size w w5 from HB2.out.trans ((hB_0.trans (hb5.mono hB_0.size)).mono HB2.out.size));by_cases c1:2<sn
      · have q1:decide ((2:Int)<(sn:Int))=true:=decide_eq_true (by omega);have q2:decide ((sn:Int)>2)=true:=decide_eq_true (by omega);have q3:decide (2<sn)=true:=decide_eq_true c1;clear row_0 sh_0 ps_0 fs_0 hug hB_0 hfd hT hx pt hb5 hs5;go_wp2;go_ret;exact⟨rfl,HFI.out⟩
      have q1:decide ((2:Int)<(sn:Int))=false:=decide_eq_false (by omega);have q2:decide ((sn:Int)>2)=false:=decide_eq_false (by omega);have q3:decide (2<sn)=false:=decide_eq_false c1;by_cases c2:2<tn
      · have q4:decide ((2:Int)<(tn:Int))=true:=decide_eq_true (by omega);have q5:decide ((tn:Int)>2)=true:=decide_eq_true (by omega);have q6:decide (2<tn)=true:=decide_eq_true c2;clear row_0 sh_0 ps_0 fs_0 hug hB_0 hfd hT hx pt hb5 hs5;go_wp2;go_ret;exact⟨rfl,HFI.out⟩
      have q4:decide ((2:Int)<(tn:Int))=false:=decide_eq_false (by omega);have q5:decide ((tn:Int)>2)=false:=decide_eq_false (by omega);have q6:decide (2<tn)=false:=decide_eq_false c2;by_cases c3:v<0
      · have q7:decide (v<0)=true:=decide_eq_true c3;clear row_0 sh_0 ps_0 fs_0 hug hB_0 hfd hT hx pt hb5 hs5;go_wp2;go_ret;exact⟨rfl,HFI.out⟩
      have q7:decide (v<0)=false:=decide_eq_false c3;by_cases c4:1073741824<v
      · have q8:decide (1073741824<v)=true:=decide_eq_true c4;have q9:decide (v>1073741824)=true:=decide_eq_true c4;clear row_0 sh_0 ps_0 fs_0 hug hB_0 hfd hT hx pt hb5 hs5;go_wp2;go_ret;exact⟨rfl,HFI.out⟩
      have q8:decide (1073741824<v)=false:=decide_eq_false c4;have q9:decide (v>1073741824)=false:=decide_eq_false c4;obtain⟨w6,hw6,pw,hb6,hs6⟩:=new_box w5 _ hs5 [.bool m,.slice so sn sc,.slice tp tn tc] 58;have pt6:=pt.below (hb6.mono (by omega));have g0:=pw.c 0 _ rfl;have g1:=pw.f 0 _ rfl;obtain⟨w7,hw7⟩:∃w7,World.setCell w6 ⟨wr.heap.size+1,0,none⟩ (.bool false)=w7:=⟨_,rfl⟩;have pw7:Box w7 (wr.heap.size+1) [.bool false,.slice so sn sc,.slice tp tn tc]:=by rw[←hw7];exact pw.set 0 (.bool false)
      have pt7:Box w7 wr.heap.size [.int .i64 v,.bool m,.slice so sn sc,.slice tp tn tc]:=by rw[←hw7];exact pt6.far (g':=wr.heap.size+1) (by omega) 0 (.bool false)
      have hb67:Below wr.heap.size wr w7:=by have h:=below_setFrom (g:=wr.heap.size+1) (M:=wr.heap.size) (by omega) [.bool false] 0 (hb5.trans (hb6.mono (by omega)));rw[←hw7];exact h
      have u0:=pt7.c 0 _ rfl;have v0:=pw7.c 0 _ rfl;have v1:=pw7.c 1 _ rfl;have v2:=pw7.c 2 _ rfl;have hs7:w7.heap.size=wr.heap.size+1+1:=by rw[←hw7,World.size_setCell];exact hs6
      obtain⟨w8,hw8,py,hb8,hs8⟩:=new_box w7 _ hs7 [.int .i64 v,.bool false,.slice so sn sc,.slice tp tn tc] 61;have hb08:Below wr.heap.size wr w8:=hb67.trans (hb8.mono (by omega));have row8:=row_0.below hb08;have sh8:=(sh_0.below hb08).snoc v ((hfd.below hb08).abs2 (by omega) (by omega));have hB8:=hB_0.trans (hb08.mono hB_0.size);have pw8:=pw7.below (hb8.mono (by omega));have ps8:=ps_0.below hb08;have fs8:=fs_0.below hb08;have hrlt:=row8.lt;have hps:=ps_0.lt;obtain⟨y1,wa,hrun,rown,hgrow,hkept,hnew⟩:=run_append_row' (P:=Tryz.prog) w8 w2.heap.size 52 52 61 j0 (.agg #[.int .i64 0,.bool false,.slice none 0 0,.slice none 0 0]) 4 64 (by kernel_rfl) HJ.out HJ0.out HJ1.out HJ2.out rfl (noWordB _ rfl) _ k _ row8 ⟨wr.heap.size+1+1,0,none⟩ 1 1 [.int .i64 v,.bool false,.slice so sn sc,.slice tp tn tc] (by omega) rfl py.news (by intro u hu;simp at hu;rcases hu with rfl|rfl|rfl|rfl<;>rfl) (noWordB _ rfl) (by unfold maxLen;omega) (by omega) hB8.size;have hul:∀g,u.ownBlock=some g→g<wr.heap.size:=fun g hg=>(row_0.lt g hg).2;have HWA:=Lib.hid (show Box wa sb [.bool ms_,.slice os_ ns_ cs_,.slice ps_ ks_ ds_] from ps8.grown hgrow (fun e=>by have:=hug _ e;omega) ps8.lt);have HWP:=Lib.hid (show Box wa (wr.heap.size+1) [.bool false,.slice so sn sc,.slice tp tn tc] from pw8.grown hgrow (fun e=>by have:=hul _ e;omega) pw8.lt);have HROW:=Lib.hid rown;have HSH:=Lib.hid (sh8.kept hkept);have HFS:=Lib.hid (fs8.kept hkept);have HFX:=Lib.hid (((hfd.below hb08).abs2 (by omega) (by omega)).kept hkept);have HBA:=Lib.hid (hB8.grown hgrow hB8.size (fun q hq=>(hrlt q hq).1));have HUG:=Lib.hid (show∀g,y1.ownBlock=some g→sb<g from fun g hg=>by
        rcases hnew g hg with h|h;·exact hug g h
        ·have:=hb08.size;omega);have HT:=Lib.hid hT;have z0:=HWA.out.c 0 _ rfl;have z1:=HWA.out.c 1 _ rfl;have z2:=HWA.out.c 2 _ rfl;have z3:=HWP.out.c 0 _ rfl;have z4:=HWP.out.c 1 _ rfl;have z5:=HWP.out.c 2 _ rfl;have HADD:=Lib.hid (qAdd _ _ (1+4*k) 2 _ _ wa (by omega) (by omega) HFS.out.q HFX.out);clear row_0 sh_0 ps_0 fs_0 hug hB_0 hfd hT hx pt hb5 hb6 pw pt6 pw7 pt7 hb67 py hb8 hb08 row8 sh8 hB8 pw8 ps8 fs8 hrlt hps hgrow hkept hnew hul rown hs6 hs8 HRAW2;go_wp2_with (refine wpList_append_row rfl _ _ 52 rfl rfl rfl hrun ?_);refine HADD.out.mono ?_;rintro e wb ⟨my_,oy_,ny_,cy_,py_,ky_,dy_,rfl,fy,hby⟩;clear hw5 hw6 hw7 hw8 hs5 hs7 t0 t1 t2 t3 g0 g1 u0 v0 v1 v2 z0 z1 z2 z3 z4 z5 q1 q2 q3 q4 q5 q6 q7 q8 q9 hrun;have psb:=HWA.out.below hby;have sc0:=psb.c 0 _ rfl;have sf0:=psb.f 0 _ rfl;have sc1:=psb.c 1 _ rfl;have sf1:=psb.f 1 _ rfl;have sc2:=psb.c 2 _ rfl;have sf2:=psb.f 2 _ rfl;have sd1:=(psb.set 0 (.bool my_)).c 1 _ rfl;have sg1:=(psb.set 0 (.bool my_)).f 1 _ rfl;have sd2:=((psb.set 0 (.bool my_)).set 1 (.slice oy_ ny_ cy_)).c 2 _ rfl;have sg2:=((psb.set 0 (.bool my_)).set 1 (.slice oy_ ny_ cy_)).f 2 _ rfl;obtain⟨wz,hwz⟩:∃wz,Go.MagM.setAll wb sb 0 [.bool my_,.slice oy_ ny_ cy_,.slice py_ ky_ dy_]=wz:=⟨_,rfl⟩;have pz:Box wz sb [.bool my_,.slice oy_ ny_ cy_,.slice py_ ky_ dy_]:=by rw[←hwz];exact psb.setAll [.bool my_,.slice oy_ ny_ cy_,.slice py_ ky_ dy_] rfl
      have hkz:Kept wb wz:=by rw[←hwz];exact Kept.setPart psb (noWordB _ rfl) 0 [.bool my_,.slice oy_ ny_ cy_,.slice py_ ky_ dy_] (by simp)
      have FIN:=Lib.hid (show RowN wz w2.heap.size 61 4 y1 (k+1) (xs++[.int .i64 v,.bool false,.slice so sn sc,.slice tp tn tc])∧ShW wz 2 (xs++[.int .i64 v,.bool false,.slice so sn sc,.slice tp tn tc]) (il.take (k+1))∧Box wz sb [.bool my_,.slice oy_ ny_ cy_,.slice py_ ky_ dy_]∧RF wz (.agg #[.bool my_,.slice oy_ ny_ cy_,.slice py_ ky_ dy_]) (1+4*(k+1)) (totQ ((il.take (k+1)).map (·.2)))∧(∀g,y1.ownBlock=some g→sb<g)∧Below w2.heap.size w2 wz from⟨by rw[←hwz];exact RowN.farFrom (fun g hg=>by have:=HUG.out g hg;omega) _ 0 (HROW.out.below hby),by rw[HT.out];exact(HSH.out.below hby).kept hkz,pz,by rw[HT.out,List.map_append];refine((fy.more (by omega)).of ?_).kept hkz;exact(totQ_snoc _ _).symm,HUG.out,by rw[←hwz];exact below_setAll (HBA.out.trans (hby.mono HBA.out.size)) (by have:=HSB.out;omega) _⟩);simp only[Go.MagM.setAll,Nat.zero_add,Nat.reduceAdd] at hwz;have HWZ:=Lib.hid hwz;clear fy hby psb pz hkz hwz;go_wp2;rw[HWZ.out];exact⟨⟨k+1,_,_,_,_,_,_,_,_,_,by omega,by go_num,rfl,FIN.out.1,FIN.out.2.1,FIN.out.2.2.1,FIN.out.2.2.2.1,FIN.out.2.2.2.2.1,FIN.out.2.2.2.2.2⟩,by simp[intOf];omega⟩
    · have hlt':decide ((k:Int)<(n:Int))=false:=decide_eq_false (by omega);rw[List.take_of_length_le (by rw[HN.out];omega)] at sh_0 fs_0;obtain⟨S,hS⟩:∃S,totQ (il.map (·.2))=S:=⟨_,rfl⟩;rw[hS] at fs_0;have hke:k=n:=by omega
      have hS0:0≤S:=hS▸totQ_nonneg il HPOS.out;obtain⟨s,hs⟩:∃s,S.num.sign=s:=⟨_,rfl⟩;have HSG:=Lib.hid (qSign _ (1+4*k) S wr (by omega) fs_0.q s hs);have z0:=ps_0.c 0 _ rfl;have z1:=ps_0.c 1 _ rfl;have z2:=ps_0.c 2 _ rfl;have HB:=Lib.hid hB_0;have HROW:=Lib.hid row_0;have HSH:=Lib.hid sh_0;have PS:=Lib.hid ps_0;have FS:=Lib.hid fs_0;have HSE:=Lib.hid hS;have HS0:=Lib.hid hS0;have HSS:=Lib.hid hs;have HKE:=Lib.hid hke;clear row_0 sh_0 ps_0 fs_0 hug hB_0 hS hS0 hs hke;go_wp2_with fail;refine HSG.out.mono ?_;rintro e w4 ⟨rfl,hb4⟩;clear z0 z1 z2;have HB4:=Lib.hid (HB.out.trans (hb4.mono HB.out.size));have HB4r:=Lib.hid hb4;clear hb4;by_cases hz:S=0
      · have hs0:s=0:=by rw[←HSS.out,hz];rfl
        subst hs0;have HFI:=Lib.hid (show Below w.heap.size w w4 from HB2.out.trans (HB4.out.mono HB2.out.size));clear hz;go_wp2;go_ret;exact⟨rfl,HFI.out⟩
      have hs0:s≠0:=by
        intro e;rw[e] at HSS;exact hz (Rat.num_eq_zero.1 (Int.sign_eq_zero_iff_zero.1 HSS.out))
      have hs1:(s==0)=false:=by simp[hs0]
      have hSp:0<S:=by have:=HS0.out;grind
      have hn0:0<n:=by
        rcases Nat.eq_zero_or_pos n with e|e
        · exfalso;have h1:=HN.out;rw[e] at h1;have h2:il=[]:=List.length_eq_zero_iff.1 h1;apply hz;rw[←HSE.out,h2];rfl
        ·exact e
      obtain⟨g,gc,rfl⟩:∃g gc,u= .slice (some ⟨g,0,none⟩) n gc:=by
        rcases HROW.out.2 with⟨-,h0⟩|⟨g,cap,cur,h0,-⟩;·have:=HKE.out;omega
        ·exact⟨g,cap,by rw[h0,HKE.out]⟩
      have HIN4:=Lib.hid (show ShQ w4 (some ⟨g,0,none⟩) 2 il from by
        have hr:=HROW.out;rw[HKE.out] at hr;exact(HSH.out.shQ hr).below HB4r.out);have HNOR:=Lib.hid (stNormal_any (some ⟨g,0,none⟩) n gc 2 il w4 HN.out (by omega) (by omega) HIN4.out (by rw[HSE.out];exact hz) (by rw[HSE.out];exact kept_ne hz HSE.out));have HSP:=Lib.hid hSp;have HZ:=Lib.hid hz;clear hs0 hSp hz;go_wp2_with fail;refine HNOR.out.mono ?_;rintro e w5 ⟨zg,zc,zx,ol,rfl,zbox,zsh,zperm,zsort,-,hb5⟩;clear hs1;obtain⟨ln,hln⟩:∃ln,lenN n 2=ln:=⟨_,rfl⟩;have hln9:ln≤38:=by rw[←hln];unfold lenN;omega
      rw[hln] at zsh;rw[HSE.out] at zperm;have HZP:=Lib.hid zperm;have HZS:=Lib.hid zsort;have HB5:=Lib.hid (HB4.out.trans (hb5.mono HB4.out.size));have HB45:=Lib.hid (HB4r.out.trans (hb5.mono HB4r.out.size));have HIN5:=Lib.hid (HIN4.out.below hb5);have HZB:=Lib.hid zbox;have HZH:=Lib.hid zsh;clear zperm zsort hb5 zbox zsh hln;go_wp2_with fail;refine(fOf_any 0 (by omega) (by omega) _).mono ?_;rintro e w6 ⟨mz_,oz_,nz_,cz_,pz_,kz_,dz_,rfl,fz,hb6⟩;obtain⟨w7,hw7,pz,hb7,hs7⟩:=new_box w6 _ rfl [.bool mz_,.slice oz_ nz_ cz_,.slice pz_ kz_ dz_] 58;obtain⟨ab,hab⟩:∃x,w6.heap.size=x:=⟨_,rfl⟩;rw[hab] at pz;have HB6:=Lib.hid (HB5.out.trans (hb6.mono HB5.out.size));have HIN:=Lib.hid (HIN5.out.below hb6);have ZB:=Lib.hid (HZB.out.below hb6);have ZH:=Lib.hid (HZH.out.below hb6);have h46:=HB45.out.trans (hb6.mono HB45.out.size);have PSU:=Lib.hid (PS.out.below h46);have FSU:=Lib.hid (FS.out.below h46);have FZ7:=Lib.hid (show RF w7 (.agg #[.bool mz_,.slice oz_ nz_ cz_,.slice pz_ kz_ dz_]) 1 0 from(fz.below hb7).of rfl);have PZ7:=Lib.hid pz;have HB7:=Lib.hid hb7;have HAB:=Lib.hid (show w6.heap.size=ab from hab);obtain⟨zl,hzl⟩:∃zl,ol.length=zl:=⟨_,rfl⟩;have HZL:=Lib.hid hzl;rw[hzl];have hzl9:zl≤8:=by rw[←hzl,HZP.out.length_eq];exact Nat.le_trans (keptL_len _ _) (by rw[HN.out];exact hn8)
      clear hb6 h46 fz pz hb7 hs7 hzl;go_wp2;clear hw7 hab;go_loopw [10,11,12,14,76,106] (fun _ _ _ _ iv _ wr=>∃(j:Nat) (ma_:Bool) (oa_:Option Addr) (na_ ca_:Nat) (pa_:Option Addr) (ka_ da_:Nat),j≤zl∧iv= .int .i64 (j:Int)∧Box wr ab [.bool ma_,.slice oa_ na_ ca_,.slice pa_ ka_ da_]∧RF wr (.agg #[.bool ma_,.slice oa_ na_ ca_,.slice pa_ ka_ da_]) (1+40*j) (totQ ((ol.take j).map (·.2)))∧Below w6.heap.size w6 wr) (fun _ _ _ _ iv _ _=>zl-(intOf iv).toNat);case atStart=>exact⟨0,_,_,_,_,_,_,_,Nat.zero_le _,rfl,PZ7.out,FZ7.out,HB7.out⟩
      case round=>
        obtain⟨j,ma_,oa_,na_,ca_,pa_,ka_,da_,hj,rfl,pa_0,fa_0,hB_0⟩:=hrel;by_cases hltj:j<zl
        · have hltj':decide ((j:Int)<(zl:Int))=true:=decide_eq_true (by omega);obtain⟨⟨v,q⟩,hx⟩:∃s,ol[j]?=some s:=⟨_,List.getElem?_eq_getElem (by rw[HZL.out];exact hltj)⟩;obtain⟨mx_,ox_,nx_,cx_,px_,kx_,dx_,x0,x1,x2,x3,x5⟩:=(ZH.out.below hB_0).2 j v q hx;have zb:=ZB.out.below hB_0;have e0:=zb.c _ _ x0;have e1:=zb.c _ _ x1;have e2:=zb.c _ _ x2;have e3:=zb.c _ _ x3;have hmem:=kept_mem HSP.out HPOS.out (HZP.out.mem_iff.1 (List.mem_of_getElem? hx));have HMEM:=Lib.hid hmem.2;have HSQ1:=Lib.hid (show q.num.sign=1 by have h1:=pos_sign.1 hmem.1;rcases sign_three q with h|h|h<;>omega);have HTJ:=Lib.hid (show ol.take (j+1)=ol.take j++[(v,q)] by rw[List.take_add_one,hx];rfl);have k1:(0:Int)≤(j:Int):=by omega
          have k2:(j:Int)<(zl:Int):=by omega
          obtain⟨w8,hw8,pt,hb8,hs8⟩:=new_box wr _ rfl [.int .i64 v,.bool mx_,.slice ox_ nx_ cx_,.slice px_ kx_ dx_] 61;have hpl:=pa_0.lt;obtain⟨tb,htb⟩:∃x,wr.heap.size=x:=⟨_,rfl⟩;rw[htb] at pt hpl;have HBJ7:=Lib.hid (hB_0.trans (hb8.mono hB_0.size));have PA7:=Lib.hid (pa_0.below hb8);have FA7:=Lib.hid (fa_0.below hb8);have PT:=Lib.hid pt;have FXW:=Lib.hid (x5.below hb8);have HTB:=Lib.hid (show ab<tb from hpl);have HX:=Lib.hid hx;clear x0 x1 x2 x3 x5 zb hmem hb8 hs8 pt pa_0 fa_0 hB_0 hpl hx;go_wp2;clear hw8 htb e0 e1 e2 e3;have hq_0:=(Below.refl w8.heap.size w8).drew';by_cases hj0:j=0
          · have dj:decide ((0:Int)<(j:Int))=false:=decide_eq_false (by omega);have dj':decide ((j:Int)>0)=false:=decide_eq_false (by omega);have djn:decide (0<j)=false:=decide_eq_false (by omega);have C24:=Lib.hid (show∀w',Below w8.heap.size w8 w'→w'.cell? ⟨tb,0,none⟩=some (.int .i64 v)∧w'.cell? ⟨tb,1,none⟩=some (.bool mx_)∧w'.cell? ⟨tb,2,none⟩=some (.slice ox_ nx_ cx_)∧w'.cell? ⟨tb,3,none⟩=some (.slice px_ kx_ dx_) from fun w' hb=>by have p:=PT.out.below hb;exact⟨p.c 0 _ rfl,p.c 1 _ rfl,p.c 2 _ rfl,p.c 3 _ rfl⟩);have HJ0x:=Lib.hid hj0;clear hj0;refine wp_region_noPanic ?_;refine wp_region_held_drew (S:=fun w'=>w'.cell? ⟨tb,0,none⟩=some (.int .i64 v)∧w'.cell? ⟨tb,1,none⟩=some (.bool mx_)∧w'.cell? ⟨tb,2,none⟩=some (.slice ox_ nx_ cx_)∧w'.cell? ⟨tb,3,none⟩=some (.slice px_ kx_ dx_)) (by kernel_rfl) (C24.out _ hq_0) (fun hHeld=>?_);refine rU 0 _ _ ?_;refine rU 1 _ _ ?_;refine rU 2 _ _ ?_;refine rS 3 ?_ ?_ ?_ ?_;rotate_left 1;·simp only[gA,gS,gZ];exact rfl
            ·rfl
            try simp only[Act.put,sA,sZ,sS]
            refine rS 4 ?_ ?_ ?_ ?_;rotate_left 1;·simp only[gA,gS,gZ];exact rfl
            ·rfl
            try simp only[Act.put,sA,sZ,sS]
            refine rS 5 ?_ ?_ ?_ ?_;rotate_left 1;·simp only[gA,gS,gZ];exact rfl
            ·rfl
            try simp only[Act.put,sA,sZ,sS]
            refine rS 6 ?_ ?_ ?_ ?_;rotate_left 1;·simp only[gA,gS,gZ];exact rfl
            ·rfl
            try simp only[Act.put,sA,sZ,sS]
            refine rS 7 ?_ ?_ ?_ ?_;rotate_left 1;·simp only[gA,gS,gZ];exact rfl
            ·rfl
            try simp only[Act.put,sA,sZ,sS]
            refine rS 8 ?_ ?_ ?_ ?_;rotate_left 1;·simp only[gA,gS,gZ];exact rfl
            ·rfl
            try simp only[Act.put,sA,sZ,sS]
            refine rS 9 ?_ ?_ ?_ ?_;rotate_left 1;·simp only[gA,gS,gZ];exact rfl
            ·rfl
            try simp only[Act.put,sA,sZ,sS]
            refine rS 10 ?_ ?_ ?_ ?_;rotate_left 1;·simp only[gA,gS,gZ];exact rfl
            ·rfl
            try simp only[Act.put,sA,sZ,sS]
            refine rS 11 ?_ ?_ ?_ ?_;rotate_left 1;·simp only[gA,gS,gZ];exact rfl
            ·rfl
            try simp only[Act.put,sA,sZ,sS]
            refine rU 12 _ _ ?_;refine rU 13 _ _ ?_;refine rU 14 _ _ ?_;refine rU 15 _ _ ?_;refine rC 16 _ (fun K hK=>?_);go_simp;refine(qSign _ ln q _ (by omega) (FXW.out.below hq_0).q 1 HSQ1.out).mono ?_;rintro e x1 ⟨rfl,hb1q⟩;have hq_1:=hq_0.trans (hb1q.mono hq_0.size);go_wp2_with fail;refine hK.out _ _ (C24.out _ hq_1) (fun hHeld=>?_);clear hK K;try simp only[Act.put,sA,sZ,sS]
            refine rU 17 _ _ ?_;refine rU 18 _ _ ?_;refine wpAnyH_done (by kernel_rfl) ?_ _;refine NoPanic.normal ?_;have HX1:=Lib.hid (HBJ7.out.trans (hq_1.mono HBJ7.out.size));have HX17:=Lib.hid hq_1;clear hHeld hq_0 hq_1;clear dj dj' djn;have pa1:=PA7.out.below HX17.out;have pt1:=PT.out.below HX17.out;have z0:=pa1.c 0 _ rfl;have z1:=pa1.c 1 _ rfl;have z2:=pa1.c 2 _ rfl;have z3:=pt1.c 1 _ rfl;have z4:=pt1.c 2 _ rfl;have z5:=pt1.c 3 _ rfl;have HADD:=Lib.hid (qAdd _ _ (1+40*j) ln _ _ x1 (by omega) (by omega) (FA7.out.below HX17.out).q (FXW.out.below HX17.out).q);clear pa1 pt1;go_wp2_with fail;refine HADD.out.mono ?_;rintro e x2 ⟨my_,oy_,ny_,cy_,py_,ky_,dy_,rfl,fy,hby⟩;clear z0 z1 z2 z3 z4 z5;have HX27:=Lib.hid (HX17.out.trans (hby.mono HX17.out.size));have psb:=PA7.out.below HX27.out;have sc0:=psb.c 0 _ rfl;have sf0:=psb.f 0 _ rfl;have sc1:=psb.c 1 _ rfl;have sf1:=psb.f 1 _ rfl;have sc2:=psb.c 2 _ rfl;have sf2:=psb.f 2 _ rfl;have sd1:=(psb.set 0 (.bool my_)).c 1 _ rfl;have sg1:=(psb.set 0 (.bool my_)).f 1 _ rfl;have sd2:=((psb.set 0 (.bool my_)).set 1 (.slice oy_ ny_ cy_)).c 2 _ rfl;have sg2:=((psb.set 0 (.bool my_)).set 1 (.slice oy_ ny_ cy_)).f 2 _ rfl;obtain⟨x3,hwz⟩:∃wz,Go.MagM.setAll x2 ab 0 [.bool my_,.slice oy_ ny_ cy_,.slice py_ ky_ dy_]=wz:=⟨_,rfl⟩;have pz:Box x3 ab [.bool my_,.slice oy_ ny_ cy_,.slice py_ ky_ dy_]:=by rw[←hwz];exact psb.setAll [.bool my_,.slice oy_ ny_ cy_,.slice py_ ky_ dy_] rfl
            have hkz:Kept x2 x3:=by rw[←hwz];exact Kept.setPart psb (noWordB _ rfl) 0 [.bool my_,.slice oy_ ny_ cy_,.slice py_ ky_ dy_] (by simp)
            have HB3:=Lib.hid (show Below w6.heap.size w6 x3 by rw[←hwz];exact below_setAll (HX1.out.trans (hby.mono HX1.out.size)) (by have:=HAB.out;omega) _);have ptx:Box x3 tb [.int .i64 v,.bool mx_,.slice ox_ nx_ cx_,.slice px_ kx_ dx_]:=by rw[←hwz];exact Box.farFrom (by have:=HTB.out;omega) _ 0 (PT.out.below HX27.out)
            have PT3:=Lib.hid ptx;have FXW3:=Lib.hid ((FXW.out.below HX27.out).kept hkz);have PA3:=Lib.hid pz;have FA3:=Lib.hid (show RF x3 (.agg #[.bool my_,.slice oy_ ny_ cy_,.slice py_ ky_ dy_]) (1+40*(j+1)) (totQ ((ol.take (j+1)).map (·.2))) by
              rw[HTJ.out,List.map_append];refine((fy.more (by omega)).of ?_).kept hkz;exact(totQ_snoc _ _).symm);simp only[Go.MagM.setAll,Nat.zero_add,Nat.reduceAdd] at hwz;have HWZ:=Lib.hid hwz;clear fy hby psb pz hkz hwz ptx;go_wp2;rw[HWZ.out];clear sc0 sf0 sc1 sf1 sc2 sf2 sd1 sg1 sd2 sg2;go_loopw [12,14,106] (fun tv _ iv wr=>∃(i:Nat) (tb':Bool),i≤n∧iv= .int .i64 (i:Int)∧tv= .bool tb'∧tb'=(il.take i).any (fun x=>decide (x.1=v)&&decide (q*S=x.2))∧Below x3.heap.size x3 wr) (fun _ _ iv _=>n-(intOf iv).toNat);case atStart=>exact⟨0,false,Nat.zero_le _,rfl,rfl,rfl,Below.refl _ _⟩
            case round=>
              obtain⟨i,tb',hi,rfl,rfl,htb,hb3r⟩:=hrel;by_cases hlti:i<n
              · have hlti':decide ((i:Int)<(n:Int))=true:=decide_eq_true (by omega);obtain⟨⟨vx,qx⟩,hx⟩:∃s,il[i]?=some s:=⟨_,List.getElem?_eq_getElem (by rw[HN.out];exact hlti)⟩;have hb6r:Below w6.heap.size w6 wr:=HB3.out.trans (hb3r.mono HB3.out.size);obtain⟨b',mw_,ow_,nw_,cw_,pw_,kw_,dw_,hbe,i0,i1,i2,i3,i5⟩:=(HIN.out.below hb6r) i vx qx hx;obtain rfl:g=b':=by injection hbe with h;injection h
                have hTA:(il.take (i+1)).any (fun x=>decide (x.1=v)&&decide (q*S=x.2))=(tb'||(decide (vx=v)&&decide (q*S=qx))):=by rw[List.take_add_one,hx,htb,List.any_append];simp
                have j1:(0:Int)≤(i:Int):=by omega
                have j2:(i:Int)<(n:Int):=by omega
                obtain⟨y1,hy1,py,hby1,hsy1⟩:=new_box wr _ rfl [.int .i64 vx,.bool mw_,.slice ow_ nw_ cw_,.slice pw_ kw_ dw_] 61;obtain⟨yb,hyb⟩:∃x,wr.heap.size=x:=⟨_,rfl⟩;rw[hyb] at py;have HY3:=Lib.hid (hb3r.trans (hby1.mono hb3r.size));have HY6:=Lib.hid (HB3.out.trans (HY3.out.mono HB3.out.size));have PY:=Lib.hid py;have FY:=Lib.hid (i5.below hby1);have HTA:=Lib.hid hTA;have C31:=Lib.hid (show∀w',Below y1.heap.size y1 w'→w'.cell? ⟨yb,0,none⟩=some (.int .i64 vx)∧w'.cell? ⟨yb,1,none⟩=some (.bool mw_)∧w'.cell? ⟨yb,2,none⟩=some (.slice ow_ nw_ cw_)∧w'.cell? ⟨yb,3,none⟩=some (.slice pw_ kw_ dw_)∧w'.cell? ⟨tb,0,none⟩=some (.int .i64 v)∧w'.cell? ⟨tb,1,none⟩=some (.bool mx_)∧w'.cell? ⟨tb,2,none⟩=some (.slice ox_ nx_ cx_)∧w'.cell? ⟨tb,3,none⟩=some (.slice px_ kx_ dx_)∧w'.cell? ⟨sb,0,none⟩=some (.bool ms_)∧w'.cell? ⟨sb,1,none⟩=some (.slice os_ ns_ cs_)∧w'.cell? ⟨sb,2,none⟩=some (.slice ps_ ks_ ds_) from fun w' hb=>by
                  have a:=PY.out.below hb;have b:=PT3.out.below (HY3.out.trans (hb.mono HY3.out.size));have c:=PSU.out.below (HY6.out.trans (hb.mono HY6.out.size));exact⟨a.c 0 _ rfl,a.c 1 _ rfl,a.c 2 _ rfl,a.c 3 _ rfl,b.c 0 _ rfl,b.c 1 _ rfl,b.c 2 _ rfl,b.c 3 _ rfl,c.c 0 _ rfl,c.c 1 _ rfl,c.c 2 _ rfl⟩);clear hx hb6r i5 hTA py hby1 hsy1 hb3r htb hbe;go_wp2;clear hy1 hyb i0 i1 i2 i3;have hq_0:=(Below.refl y1.heap.size y1).drew';cases tb' with
                |true=>
                  refine wp_region_noPanic ?_;refine wp_region_held_drew (S:=fun w'=>w'.cell? ⟨yb,0,none⟩=some (.int .i64 vx)∧w'.cell? ⟨yb,1,none⟩=some (.bool mw_)∧w'.cell? ⟨yb,2,none⟩=some (.slice ow_ nw_ cw_)∧w'.cell? ⟨yb,3,none⟩=some (.slice pw_ kw_ dw_)∧w'.cell? ⟨tb,0,none⟩=some (.int .i64 v)∧w'.cell? ⟨tb,1,none⟩=some (.bool mx_)∧w'.cell? ⟨tb,2,none⟩=some (.slice ox_ nx_ cx_)∧w'.cell? ⟨tb,3,none⟩=some (.slice px_ kx_ dx_)∧w'.cell? ⟨sb,0,none⟩=some (.bool ms_)∧w'.cell? ⟨sb,1,none⟩=some (.slice os_ ns_ cs_)∧w'.cell? ⟨sb,2,none⟩=some (.slice ps_ ks_ ds_)) (by kernel_rfl) (C31.out _ hq_0) (fun hHeld=>?_);refine rU 0 _ _ ?_;refine rU 1 _ _ ?_;refine rS 2 ?_ ?_ ?_ ?_;rotate_left 1;·simp only[gA,gS,gZ];exact rfl
                  ·rfl
                  try simp only[Act.put,sA,sZ,sS]
                  refine rS 3 ?_ ?_ ?_ ?_;rotate_left 1;·simp only[gA,gS,gZ];exact rfl
                  ·rfl
                  try simp only[Act.put,sA,sZ,sS]
                  refine rS 4 ?_ ?_ ?_ ?_;rotate_left 1;·simp only[gA,gS,gZ];exact rfl
                  ·rfl
                  try simp only[Act.put,sA,sZ,sS]
                  refine rS 5 ?_ ?_ ?_ ?_;rotate_left 1;·simp only[gA,gS,gZ];exact rfl
                  ·rfl
                  try simp only[Act.put,sA,sZ,sS]
                  refine rS 6 ?_ ?_ ?_ ?_;rotate_left 1;·simp only[gA,gS,gZ];exact rfl
                  ·rfl
                  try simp only[Act.put,sA,sZ,sS]
                  refine rS 7 ?_ ?_ ?_ ?_;rotate_left 1;·simp only[gA,gS,gZ];exact rfl
                  ·rfl
                  try simp only[Act.put,sA,sZ,sS]
                  refine rS 8 ?_ ?_ ?_ ?_;rotate_left 1;·simp only[gA,gS,gZ];exact rfl
                  ·rfl
                  try simp only[Act.put,sA,sZ,sS]
                  refine rS 9 ?_ ?_ ?_ ?_;rotate_left 1;·simp only[gA,gS,gZ];exact rfl
                  ·rfl
                  try simp only[Act.put,sA,sZ,sS]
                  refine rS 10 ?_ ?_ ?_ ?_;rotate_left 1;·simp only[gA,gS,gZ];exact rfl
                  ·rfl
                  try simp only[Act.put,sA,sZ,sS]
                  refine rS 11 ?_ ?_ ?_ ?_;rotate_left 1;·simp only[gA,gS,gZ];exact rfl
                  ·rfl
                  try simp only[Act.put,sA,sZ,sS]
                  refine rS 12 ?_ ?_ ?_ ?_;rotate_left 1;·simp only[gA,gS,gZ];exact rfl
                  ·rfl
                  try simp only[Act.put,sA,sZ,sS]
                  refine rS 13 ?_ ?_ ?_ ?_;rotate_left 1;·simp only[gA,gS,gZ];exact rfl
                  ·rfl
                  try simp only[Act.put,sA,sZ,sS]
                  refine rS 14 ?_ ?_ ?_ ?_;rotate_left 1;·simp only[gA,gS,gZ];exact rfl
                  ·rfl
                  try simp only[Act.put,sA,sZ,sS]
                  refine rS 15 ?_ ?_ ?_ ?_;rotate_left 1;·simp only[gA,gS,gZ];exact rfl
                  ·rfl
                  try simp only[Act.put,sA,sZ,sS]
                  refine rU 16 _ _ ?_;refine rU 17 _ _ ?_;refine wpAnyH_done (by kernel_rfl) ?_ _;refine NoPanic.normal ?_;have HFI:=Lib.hid (HY3.out.trans (hq_0.mono HY3.out.size));clear hHeld hq_0;go_wp2;exact⟨⟨i+1,true,by omega,by go_num,rfl,by rw[HTA.out];rfl,HFI.out⟩,by simp[intOf];omega⟩|false=>
                  by_cases hvx:vx=v
                  · have hvd:(vx==v)=true:=by simp[hvx]
                    obtain⟨bb,hbb⟩:∃bb,decide (q*S=qx)=bb:=⟨_,rfl⟩;have HBB:=Lib.hid (show q*S=qx↔bb=true by rw[←hbb];simp);have HTB2:=Lib.hid (show(il.take (i+1)).any (fun x=>decide (x.1=v)&&decide (q*S=x.2))=bb by rw[HTA.out,hbb];simp[hvx]);clear hbb;refine wp_region_noPanic ?_;refine wp_region_held_drew (S:=fun w'=>w'.cell? ⟨yb,0,none⟩=some (.int .i64 vx)∧w'.cell? ⟨yb,1,none⟩=some (.bool mw_)∧w'.cell? ⟨yb,2,none⟩=some (.slice ow_ nw_ cw_)∧w'.cell? ⟨yb,3,none⟩=some (.slice pw_ kw_ dw_)∧w'.cell? ⟨tb,0,none⟩=some (.int .i64 v)∧w'.cell? ⟨tb,1,none⟩=some (.bool mx_)∧w'.cell? ⟨tb,2,none⟩=some (.slice ox_ nx_ cx_)∧w'.cell? ⟨tb,3,none⟩=some (.slice px_ kx_ dx_)∧w'.cell? ⟨sb,0,none⟩=some (.bool ms_)∧w'.cell? ⟨sb,1,none⟩=some (.slice os_ ns_ cs_)∧w'.cell? ⟨sb,2,none⟩=some (.slice ps_ ks_ ds_)) (by kernel_rfl) (C31.out _ hq_0) (fun hHeld=>?_);refine rU 0 _ _ ?_;refine rU 1 _ _ ?_;refine rU 2 _ _ ?_;refine rU 3 _ _ ?_;refine rU 4 _ _ ?_;refine rU 5 _ _ ?_;refine rU 6 _ _ ?_;refine rU 7 _ _ ?_;refine rU 8 _ _ ?_;refine rU 9 _ _ ?_;refine rU 10 _ _ ?_;refine rU 12 _ _ ?_;refine rU 13 _ _ ?_;refine rC 11 _ (fun K hK=>?_);go_simp;refine(qMul _ _ ln (1+4*k) q S _ (by omega) (by omega) (FXW3.out.below (HY3.out.trans (hq_0.mono HY3.out.size))).q (FSU.out.below (HY6.out.trans (hq_0.mono HY6.out.size))).q).mono ?_;rintro e y2 ⟨mv_,ov_,nv_,cv_,pv_,kv_,dv_,rfl,fv2,hb1q⟩;have hq_1:=hq_0.trans (hb1q.mono hq_0.size);go_wp2_with fail;refine hK.out _ _ (C31.out _ hq_1) (fun hHeld=>?_);clear hK K;try simp only[Act.put,sA,sZ,sS]
                    refine rC 14 _ (fun K hK=>?_);go_simp;refine(qSame _ _ (ln+(1+4*k)+2) 2 (q*S) qx _ (by omega) (by omega) fv2.q (FY.out.below hq_1) bb HBB.out).mono ?_;rintro e y3 ⟨rfl,hb2q⟩;have hq_2:=hq_1.trans (hb2q.mono hq_1.size);go_wp2_with fail;refine hK.out _ _ (C31.out _ hq_2) (fun hHeld=>?_);clear hK K;try simp only[Act.put,sA,sZ,sS]
                    refine rU 15 _ _ ?_;refine rU 16 _ _ ?_;refine rU 17 _ _ ?_;refine wpAnyH_done (by kernel_rfl) ?_ _;refine NoPanic.normal ?_;have HFI:=Lib.hid (HY3.out.trans (hq_2.mono HY3.out.size));clear hHeld hq_0 hq_1 hq_2;go_wp2;exact⟨⟨i+1,bb,by omega,by go_num,rfl,HTB2.out.symm,HFI.out⟩,by simp[intOf];omega⟩
                  · have hvd:(vx==v)=false:=by simp[hvx]
                    have HTB2:=Lib.hid (show(il.take (i+1)).any (fun x=>decide (x.1=v)&&decide (q*S=x.2))=false by rw[HTA.out];simp[hvx]);refine wp_region_noPanic ?_;refine wp_region_held_drew (S:=fun w'=>w'.cell? ⟨yb,0,none⟩=some (.int .i64 vx)∧w'.cell? ⟨yb,1,none⟩=some (.bool mw_)∧w'.cell? ⟨yb,2,none⟩=some (.slice ow_ nw_ cw_)∧w'.cell? ⟨yb,3,none⟩=some (.slice pw_ kw_ dw_)∧w'.cell? ⟨tb,0,none⟩=some (.int .i64 v)∧w'.cell? ⟨tb,1,none⟩=some (.bool mx_)∧w'.cell? ⟨tb,2,none⟩=some (.slice ox_ nx_ cx_)∧w'.cell? ⟨tb,3,none⟩=some (.slice px_ kx_ dx_)∧w'.cell? ⟨sb,0,none⟩=some (.bool ms_)∧w'.cell? ⟨sb,1,none⟩=some (.slice os_ ns_ cs_)∧w'.cell? ⟨sb,2,none⟩=some (.slice ps_ ks_ ds_)) (by kernel_rfl) (C31.out _ hq_0) (fun hHeld=>?_);refine rU 0 _ _ ?_;refine rU 1 _ _ ?_;refine rU 2 _ _ ?_;refine rU 3 _ _ ?_;refine rU 4 _ _ ?_;refine rU 5 _ _ ?_;refine rU 6 _ _ ?_;refine rU 7 _ _ ?_;refine rS 8 ?_ ?_ ?_ ?_;rotate_left 1;·simp only[gA,gS,gZ];exact rfl
                    ·rfl
                    try simp only[Act.put,sA,sZ,sS]
                    refine rS 9 ?_ ?_ ?_ ?_;rotate_left 1;·simp only[gA,gS,gZ];exact rfl
                    ·rfl
                    try simp only[Act.put,sA,sZ,sS]
                    refine rS 10 ?_ ?_ ?_ ?_;rotate_left 1;·simp only[gA,gS,gZ];exact rfl
                    ·rfl
                    try simp only[Act.put,sA,sZ,sS]
                    refine rS 11 ?_ ?_ ?_ ?_;rotate_left 1;·simp only[gA,gS,gZ];exact rfl
                    ·rfl
                    try simp only[Act.put,sA,sZ,sS]
                    refine rS 12 ?_ ?_ ?_ ?_;rotate_left 1;·simp only[gA,gS,gZ];exact rfl
                    ·rfl
                    try simp only[Act.put,sA,sZ,sS]
                    refine rS 13 ?_ ?_ ?_ ?_;rotate_left 1;·simp only[gA,gS,gZ];exact rfl
                    ·rfl
                    try simp only[Act.put,sA,sZ,sS]
                    refine rS 14 ?_ ?_ ?_ ?_;rotate_left 1;·simp only[gA,gS,gZ];exact rfl
                    ·rfl
                    try simp only[Act.put,sA,sZ,sS]
                    refine rU 15 _ _ ?_;refine rU 16 _ _ ?_;refine rU 17 _ _ ?_;refine wpAnyH_done (by kernel_rfl) ?_ _;refine NoPanic.normal ?_;have HFI:=Lib.hid (HY3.out.trans (hq_0.mono HY3.out.size));clear hHeld hq_0;go_wp2;exact⟨⟨i+1,false,by omega,by go_num,rfl,HTB2.out.symm,HFI.out⟩,by simp[intOf];omega⟩
              · have hlti':decide ((i:Int)<(n:Int))=false:=decide_eq_false (by omega);rw[List.take_of_length_le (by rw[HN.out];omega)] at htb;have htrue:tb'=true:=by
                  rw[htb,List.any_eq_true];obtain⟨x,hx1,hx2,hx3⟩:=HMEM.out;exact⟨x,hx1,by simp[hx2,hx3]⟩
                subst htrue;have HFI:=Lib.hid (HB3.out.trans (hb3r.mono HB3.out.size));have HPF:=Lib.hid (PA3.out.below hb3r);have HFF:=Lib.hid (FA3.out.below hb3r);clear htb hb3r;go_wp2;exact⟨⟨j+1,_,_,_,_,_,_,_,by omega,by go_num,HPF.out,HFF.out,HFI.out⟩,by simp[intOf];omega⟩
          · have dj:decide ((0:Int)<(j:Int))=true:=decide_eq_true (by omega);have dj':decide ((j:Int)>0)=true:=decide_eq_true (by omega);have djn:decide (0<j)=true:=decide_eq_true (by omega);obtain⟨jp,hjp⟩:∃jp,j=jp+1:=⟨j-1,by omega⟩;obtain⟨⟨vp,qp⟩,hxp⟩:∃s,ol[jp]?=some s:=⟨_,List.getElem?_eq_getElem (by rw[HZL.out];omega)⟩;have hvp:vp≤v:=HZS.out jp j _ _ (by omega) hxp HX.out;obtain⟨mp,op,np,cp,pp,kp,dp,xp0,-⟩:=ZH.out.2 jp vp qp hxp;have hjm:(j:Int)-1=(jp:Int):=by omega
            have hjw:wrap64 ((j:Int)-1)=(jp:Int):=by rw[←IntWalk.i64_left,IntKind.wrap_i64];omega
            have hjk:IntKind.i64.wrap ((j:Int)-1)=(jp:Int):=by rw[IntKind.wrap_i64];omega
            have hjj:IntKind.i64.wrap (jp:Int)=(jp:Int):=by rw[IntKind.wrap_i64];omega
            have l1:(0:Int)≤(jp:Int):=by omega
            have l2:(jp:Int)<(zl:Int):=by omega
            have dv:decide (vp>v)=false:=decide_eq_false (by omega);have dv':decide (v<vp)=false:=decide_eq_false (by omega);have C24:=Lib.hid (show∀w',Below w8.heap.size w8 w'→w'.cell? ⟨tb,0,none⟩=some (.int .i64 v)∧w'.cell? ⟨tb,1,none⟩=some (.bool mx_)∧w'.cell? ⟨tb,2,none⟩=some (.slice ox_ nx_ cx_)∧w'.cell? ⟨tb,3,none⟩=some (.slice px_ kx_ dx_)∧w'.cell? ⟨zg,jp*4,none⟩=some (.int .i64 vp) from fun w' hb=>by have p:=PT.out.below hb;exact⟨p.c 0 _ rfl,p.c 1 _ rfl,p.c 2 _ rfl,p.c 3 _ rfl,(ZB.out.below (HBJ7.out.trans (hb.mono HBJ7.out.size))).c _ _ xp0⟩);have HJP:=Lib.hid hjp;clear hjp hxp hvp xp0 hj0;refine wp_region_noPanic ?_;refine wp_region_held_drew (S:=fun w'=>w'.cell? ⟨tb,0,none⟩=some (.int .i64 v)∧w'.cell? ⟨tb,1,none⟩=some (.bool mx_)∧w'.cell? ⟨tb,2,none⟩=some (.slice ox_ nx_ cx_)∧w'.cell? ⟨tb,3,none⟩=some (.slice px_ kx_ dx_)∧w'.cell? ⟨zg,jp*4,none⟩=some (.int .i64 vp)) (by kernel_rfl) (C24.out _ hq_0) (fun hHeld=>?_);refine rU 0 _ _ ?_;refine rU 1 _ _ ?_;refine rU 2 _ _ ?_;refine rU 3 _ _ ?_;refine rU 4 _ _ ?_;refine rU 5 _ _ ?_;refine rU 6 _ _ ?_;refine rU 7 _ _ ?_;refine rU 8 _ _ ?_;refine rU 9 _ _ ?_;refine rU 10 _ _ ?_;refine rU 11 _ _ ?_;refine rU 12 _ _ ?_;refine rU 13 _ _ ?_;refine rU 14 _ _ ?_;refine rU 15 _ _ ?_;refine rC 16 _ (fun K hK=>?_);go_simp;refine(qSign _ ln q _ (by omega) (FXW.out.below hq_0).q 1 HSQ1.out).mono ?_;rintro e x1 ⟨rfl,hb1q⟩;have hq_1:=hq_0.trans (hb1q.mono hq_0.size);go_wp2_with fail;refine hK.out _ _ (C24.out _ hq_1) (fun hHeld=>?_);clear hK K;try simp only[Act.put,sA,sZ,sS]
            refine rU 17 _ _ ?_;refine rU 18 _ _ ?_;refine wpAnyH_done (by kernel_rfl) ?_ _;refine NoPanic.normal ?_;have HX1:=Lib.hid (HBJ7.out.trans (hq_1.mono HBJ7.out.size));have HX17:=Lib.hid hq_1;clear hHeld hq_0 hq_1;clear dj dj' djn hjm hjw hjk hjj l1 l2 dv dv';have pa1:=PA7.out.below HX17.out;have pt1:=PT.out.below HX17.out;have z0:=pa1.c 0 _ rfl;have z1:=pa1.c 1 _ rfl;have z2:=pa1.c 2 _ rfl;have z3:=pt1.c 1 _ rfl;have z4:=pt1.c 2 _ rfl;have z5:=pt1.c 3 _ rfl;have HADD:=Lib.hid (qAdd _ _ (1+40*j) ln _ _ x1 (by omega) (by omega) (FA7.out.below HX17.out).q (FXW.out.below HX17.out).q);clear pa1 pt1;go_wp2_with fail;refine HADD.out.mono ?_;rintro e x2 ⟨my_,oy_,ny_,cy_,py_,ky_,dy_,rfl,fy,hby⟩;clear z0 z1 z2 z3 z4 z5;have HX27:=Lib.hid (HX17.out.trans (hby.mono HX17.out.size));have psb:=PA7.out.below HX27.out;have sc0:=psb.c 0 _ rfl;have sf0:=psb.f 0 _ rfl;have sc1:=psb.c 1 _ rfl;have sf1:=psb.f 1 _ rfl;have sc2:=psb.c 2 _ rfl;have sf2:=psb.f 2 _ rfl;have sd1:=(psb.set 0 (.bool my_)).c 1 _ rfl;have sg1:=(psb.set 0 (.bool my_)).f 1 _ rfl;have sd2:=((psb.set 0 (.bool my_)).set 1 (.slice oy_ ny_ cy_)).c 2 _ rfl;have sg2:=((psb.set 0 (.bool my_)).set 1 (.slice oy_ ny_ cy_)).f 2 _ rfl;obtain⟨x3,hwz⟩:∃wz,Go.MagM.setAll x2 ab 0 [.bool my_,.slice oy_ ny_ cy_,.slice py_ ky_ dy_]=wz:=⟨_,rfl⟩;have pz:Box x3 ab [.bool my_,.slice oy_ ny_ cy_,.slice py_ ky_ dy_]:=by rw[←hwz];exact psb.setAll [.bool my_,.slice oy_ ny_ cy_,.slice py_ ky_ dy_] rfl
            have hkz:Kept x2 x3:=by rw[←hwz];exact Kept.setPart psb (noWordB _ rfl) 0 [.bool my_,.slice oy_ ny_ cy_,.slice py_ ky_ dy_] (by simp)
            have HB3:=Lib.hid (show Below w6.heap.size w6 x3 by rw[←hwz];exact below_setAll (HX1.out.trans (hby.mono HX1.out.size)) (by have:=HAB.out;omega) _);have ptx:Box x3 tb [.int .i64 v,.bool mx_,.slice ox_ nx_ cx_,.slice px_ kx_ dx_]:=by rw[←hwz];exact Box.farFrom (by have:=HTB.out;omega) _ 0 (PT.out.below HX27.out)
            have PT3:=Lib.hid ptx;have FXW3:=Lib.hid ((FXW.out.below HX27.out).kept hkz);have PA3:=Lib.hid pz;have FA3:=Lib.hid (show RF x3 (.agg #[.bool my_,.slice oy_ ny_ cy_,.slice py_ ky_ dy_]) (1+40*(j+1)) (totQ ((ol.take (j+1)).map (·.2))) by
              rw[HTJ.out,List.map_append];refine((fy.more (by omega)).of ?_).kept hkz;exact(totQ_snoc _ _).symm);simp only[Go.MagM.setAll,Nat.zero_add,Nat.reduceAdd] at hwz;have HWZ:=Lib.hid hwz;clear fy hby psb pz hkz hwz ptx;go_wp2;rw[HWZ.out];clear sc0 sf0 sc1 sf1 sc2 sf2 sd1 sg1 sd2 sg2;go_loopw [12,14,106] (fun tv _ iv wr=>∃(i:Nat) (tb':Bool),i≤n∧iv= .int .i64 (i:Int)∧tv= .bool tb'∧tb'=(il.take i).any (fun x=>decide (x.1=v)&&decide (q*S=x.2))∧Below x3.heap.size x3 wr) (fun _ _ iv _=>n-(intOf iv).toNat);case atStart=>exact⟨0,false,Nat.zero_le _,rfl,rfl,rfl,Below.refl _ _⟩
            case round=>
              obtain⟨i,tb',hi,rfl,rfl,htb,hb3r⟩:=hrel;by_cases hlti:i<n
              · have hlti':decide ((i:Int)<(n:Int))=true:=decide_eq_true (by omega);obtain⟨⟨vx,qx⟩,hx⟩:∃s,il[i]?=some s:=⟨_,List.getElem?_eq_getElem (by rw[HN.out];exact hlti)⟩;have hb6r:Below w6.heap.size w6 wr:=HB3.out.trans (hb3r.mono HB3.out.size);obtain⟨b',mw_,ow_,nw_,cw_,pw_,kw_,dw_,hbe,i0,i1,i2,i3,i5⟩:=(HIN.out.below hb6r) i vx qx hx;obtain rfl:g=b':=by injection hbe with h;injection h
                have hTA:(il.take (i+1)).any (fun x=>decide (x.1=v)&&decide (q*S=x.2))=(tb'||(decide (vx=v)&&decide (q*S=qx))):=by rw[List.take_add_one,hx,htb,List.any_append];simp
                have j1:(0:Int)≤(i:Int):=by omega
                have j2:(i:Int)<(n:Int):=by omega
                obtain⟨y1,hy1,py,hby1,hsy1⟩:=new_box wr _ rfl [.int .i64 vx,.bool mw_,.slice ow_ nw_ cw_,.slice pw_ kw_ dw_] 61;obtain⟨yb,hyb⟩:∃x,wr.heap.size=x:=⟨_,rfl⟩;rw[hyb] at py;have HY3:=Lib.hid (hb3r.trans (hby1.mono hb3r.size));have HY6:=Lib.hid (HB3.out.trans (HY3.out.mono HB3.out.size));have PY:=Lib.hid py;have FY:=Lib.hid (i5.below hby1);have HTA:=Lib.hid hTA;have C31:=Lib.hid (show∀w',Below y1.heap.size y1 w'→w'.cell? ⟨yb,0,none⟩=some (.int .i64 vx)∧w'.cell? ⟨yb,1,none⟩=some (.bool mw_)∧w'.cell? ⟨yb,2,none⟩=some (.slice ow_ nw_ cw_)∧w'.cell? ⟨yb,3,none⟩=some (.slice pw_ kw_ dw_)∧w'.cell? ⟨tb,0,none⟩=some (.int .i64 v)∧w'.cell? ⟨tb,1,none⟩=some (.bool mx_)∧w'.cell? ⟨tb,2,none⟩=some (.slice ox_ nx_ cx_)∧w'.cell? ⟨tb,3,none⟩=some (.slice px_ kx_ dx_)∧w'.cell? ⟨sb,0,none⟩=some (.bool ms_)∧w'.cell? ⟨sb,1,none⟩=some (.slice os_ ns_ cs_)∧w'.cell? ⟨sb,2,none⟩=some (.slice ps_ ks_ ds_) from fun w' hb=>by have a:=PY.out.below hb;have b:=PT3.out.below (HY3.out.trans (hb.mono HY3.out.size));have c:=PSU.out.below (HY6.out.trans (hb.mono HY6.out.size));exact⟨a.c 0 _ rfl,a.c 1 _ rfl,a.c 2 _ rfl,a.c 3 _ rfl,b.c 0 _ rfl,b.c 1 _ rfl,b.c 2 _ rfl,b.c 3 _ rfl,c.c 0 _ rfl,c.c 1 _ rfl,c.c 2 _ rfl⟩);clear hx hb6r i5 hTA py hby1 hsy1 hb3r htb hbe;go_wp2;clear hy1 hyb i0 i1 i2 i3;have hq_0:=(Below.refl y1.heap.size y1).drew';cases tb' with
                |true=>
                  refine wp_region_noPanic ?_;refine wp_region_held_drew (S:=fun w'=>w'.cell? ⟨yb,0,none⟩=some (.int .i64 vx)∧w'.cell? ⟨yb,1,none⟩=some (.bool mw_)∧w'.cell? ⟨yb,2,none⟩=some (.slice ow_ nw_ cw_)∧w'.cell? ⟨yb,3,none⟩=some (.slice pw_ kw_ dw_)∧w'.cell? ⟨tb,0,none⟩=some (.int .i64 v)∧w'.cell? ⟨tb,1,none⟩=some (.bool mx_)∧w'.cell? ⟨tb,2,none⟩=some (.slice ox_ nx_ cx_)∧w'.cell? ⟨tb,3,none⟩=some (.slice px_ kx_ dx_)∧w'.cell? ⟨sb,0,none⟩=some (.bool ms_)∧w'.cell? ⟨sb,1,none⟩=some (.slice os_ ns_ cs_)∧w'.cell? ⟨sb,2,none⟩=some (.slice ps_ ks_ ds_)) (by kernel_rfl) (C31.out _ hq_0) (fun hHeld=>?_);refine rU 0 _ _ ?_;refine rU 1 _ _ ?_;refine rS 2 ?_ ?_ ?_ ?_;rotate_left 1;·simp only[gA,gS,gZ];exact rfl
                  ·rfl
                  try simp only[Act.put,sA,sZ,sS]
                  refine rS 3 ?_ ?_ ?_ ?_;rotate_left 1;·simp only[gA,gS,gZ];exact rfl
                  ·rfl
                  try simp only[Act.put,sA,sZ,sS]
                  refine rS 4 ?_ ?_ ?_ ?_;rotate_left 1;·simp only[gA,gS,gZ];exact rfl
                  ·rfl
                  try simp only[Act.put,sA,sZ,sS]
                  refine rS 5 ?_ ?_ ?_ ?_;rotate_left 1;·simp only[gA,gS,gZ];exact rfl
                  ·rfl
                  try simp only[Act.put,sA,sZ,sS]
                  refine rS 6 ?_ ?_ ?_ ?_;rotate_left 1;·simp only[gA,gS,gZ];exact rfl
                  ·rfl
                  try simp only[Act.put,sA,sZ,sS]
                  refine rS 7 ?_ ?_ ?_ ?_;rotate_left 1;·simp only[gA,gS,gZ];exact rfl
                  ·rfl
                  try simp only[Act.put,sA,sZ,sS]
                  refine rS 8 ?_ ?_ ?_ ?_;rotate_left 1;·simp only[gA,gS,gZ];exact rfl
                  ·rfl
                  try simp only[Act.put,sA,sZ,sS]
                  refine rS 9 ?_ ?_ ?_ ?_;rotate_left 1;·simp only[gA,gS,gZ];exact rfl
                  ·rfl
                  try simp only[Act.put,sA,sZ,sS]
                  refine rS 10 ?_ ?_ ?_ ?_;rotate_left 1;·simp only[gA,gS,gZ];exact rfl
                  ·rfl
                  try simp only[Act.put,sA,sZ,sS]
                  refine rS 11 ?_ ?_ ?_ ?_;rotate_left 1;·simp only[gA,gS,gZ];exact rfl
                  ·rfl
                  try simp only[Act.put,sA,sZ,sS]
                  refine rS 12 ?_ ?_ ?_ ?_;rotate_left 1;·simp only[gA,gS,gZ];exact rfl
                  ·rfl
                  try simp only[Act.put,sA,sZ,sS]
                  refine rS 13 ?_ ?_ ?_ ?_;rotate_left 1;·simp only[gA,gS,gZ];exact rfl
                  ·rfl
                  try simp only[Act.put,sA,sZ,sS]
                  refine rS 14 ?_ ?_ ?_ ?_;rotate_left 1;·simp only[gA,gS,gZ];exact rfl
                  ·rfl
                  try simp only[Act.put,sA,sZ,sS]
                  refine rS 15 ?_ ?_ ?_ ?_;rotate_left 1;·simp only[gA,gS,gZ];exact rfl
                  ·rfl
                  try simp only[Act.put,sA,sZ,sS]
                  refine rU 16 _ _ ?_;refine rU 17 _ _ ?_;refine wpAnyH_done (by kernel_rfl) ?_ _;refine NoPanic.normal ?_;have HFI:=Lib.hid (HY3.out.trans (hq_0.mono HY3.out.size));clear hHeld hq_0;go_wp2;exact⟨⟨i+1,true,by omega,by go_num,rfl,by rw[HTA.out];rfl,HFI.out⟩,by simp[intOf];omega⟩|false=>
                  by_cases hvx:vx=v
                  · have hvd:(vx==v)=true:=by simp[hvx]
                    obtain⟨bb,hbb⟩:∃bb,decide (q*S=qx)=bb:=⟨_,rfl⟩;have HBB:=Lib.hid (show q*S=qx↔bb=true by rw[←hbb];simp);have HTB2:=Lib.hid (show(il.take (i+1)).any (fun x=>decide (x.1=v)&&decide (q*S=x.2))=bb by rw[HTA.out,hbb];simp[hvx]);clear hbb;refine wp_region_noPanic ?_;refine wp_region_held_drew (S:=fun w'=>w'.cell? ⟨yb,0,none⟩=some (.int .i64 vx)∧w'.cell? ⟨yb,1,none⟩=some (.bool mw_)∧w'.cell? ⟨yb,2,none⟩=some (.slice ow_ nw_ cw_)∧w'.cell? ⟨yb,3,none⟩=some (.slice pw_ kw_ dw_)∧w'.cell? ⟨tb,0,none⟩=some (.int .i64 v)∧w'.cell? ⟨tb,1,none⟩=some (.bool mx_)∧w'.cell? ⟨tb,2,none⟩=some (.slice ox_ nx_ cx_)∧w'.cell? ⟨tb,3,none⟩=some (.slice px_ kx_ dx_)∧w'.cell? ⟨sb,0,none⟩=some (.bool ms_)∧w'.cell? ⟨sb,1,none⟩=some (.slice os_ ns_ cs_)∧w'.cell? ⟨sb,2,none⟩=some (.slice ps_ ks_ ds_)) (by kernel_rfl) (C31.out _ hq_0) (fun hHeld=>?_);refine rU 0 _ _ ?_;refine rU 1 _ _ ?_;refine rU 2 _ _ ?_;refine rU 3 _ _ ?_;refine rU 4 _ _ ?_;refine rU 5 _ _ ?_;refine rU 6 _ _ ?_;refine rU 7 _ _ ?_;refine rU 8 _ _ ?_;refine rU 9 _ _ ?_;refine rU 10 _ _ ?_;refine rU 12 _ _ ?_;refine rU 13 _ _ ?_;refine rC 11 _ (fun K hK=>?_);go_simp;refine(qMul _ _ ln (1+4*k) q S _ (by omega) (by omega) (FXW3.out.below (HY3.out.trans (hq_0.mono HY3.out.size))).q (FSU.out.below (HY6.out.trans (hq_0.mono HY6.out.size))).q).mono ?_;rintro e y2 ⟨mv_,ov_,nv_,cv_,pv_,kv_,dv_,rfl,fv2,hb1q⟩;have hq_1:=hq_0.trans (hb1q.mono hq_0.size);go_wp2_with fail;refine hK.out _ _ (C31.out _ hq_1) (fun hHeld=>?_);clear hK K;try simp only[Act.put,sA,sZ,sS]
                    refine rC 14 _ (fun K hK=>?_);go_simp;refine(qSame _ _ (ln+(1+4*k)+2) 2 (q*S) qx _ (by omega) (by omega) fv2.q (FY.out.below hq_1) bb HBB.out).mono ?_;rintro e y3 ⟨rfl,hb2q⟩;have hq_2:=hq_1.trans (hb2q.mono hq_1.size);go_wp2_with fail;refine hK.out _ _ (C31.out _ hq_2) (fun hHeld=>?_);clear hK K;try simp only[Act.put,sA,sZ,sS]
                    refine rU 15 _ _ ?_;refine rU 16 _ _ ?_;refine rU 17 _ _ ?_;refine wpAnyH_done (by kernel_rfl) ?_ _;refine NoPanic.normal ?_;have HFI:=Lib.hid (HY3.out.trans (hq_2.mono HY3.out.size));clear hHeld hq_0 hq_1 hq_2;go_wp2;exact⟨⟨i+1,bb,by omega,by go_num,rfl,HTB2.out.symm,HFI.out⟩,by simp[intOf];omega⟩
                  · have hvd:(vx==v)=false:=by simp[hvx]
                    have HTB2:=Lib.hid (show(il.take (i+1)).any (fun x=>decide (x.1=v)&&decide (q*S=x.2))=false by rw[HTA.out];simp[hvx]);refine wp_region_noPanic ?_;refine wp_region_held_drew (S:=fun w'=>w'.cell? ⟨yb,0,none⟩=some (.int .i64 vx)∧w'.cell? ⟨yb,1,none⟩=some (.bool mw_)∧w'.cell? ⟨yb,2,none⟩=some (.slice ow_ nw_ cw_)∧w'.cell? ⟨yb,3,none⟩=some (.slice pw_ kw_ dw_)∧w'.cell? ⟨tb,0,none⟩=some (.int .i64 v)∧w'.cell? ⟨tb,1,none⟩=some (.bool mx_)∧w'.cell? ⟨tb,2,none⟩=some (.slice ox_ nx_ cx_)∧w'.cell? ⟨tb,3,none⟩=some (.slice px_ kx_ dx_)∧w'.cell? ⟨sb,0,none⟩=some (.bool ms_)∧w'.cell? ⟨sb,1,none⟩=some (.slice os_ ns_ cs_)∧w'.cell? ⟨sb,2,none⟩=some (.slice ps_ ks_ ds_)) (by kernel_rfl) (C31.out _ hq_0) (fun hHeld=>?_);refine rU 0 _ _ ?_;refine rU 1 _ _ ?_;refine rU 2 _ _ ?_;refine rU 3 _ _ ?_;refine rU 4 _ _ ?_;refine rU 5 _ _ ?_;refine rU 6 _ _ ?_;refine rU 7 _ _ ?_;refine rS 8 ?_ ?_ ?_ ?_;rotate_left 1;·simp only[gA,gS,gZ];exact rfl
                    ·rfl
                    try simp only[Act.put,sA,sZ,sS]
                    refine rS 9 ?_ ?_ ?_ ?_;rotate_left 1;·simp only[gA,gS,gZ];exact rfl
                    ·rfl
                    try simp only[Act.put,sA,sZ,sS]
                    refine rS 10 ?_ ?_ ?_ ?_;rotate_left 1;·simp only[gA,gS,gZ];exact rfl
                    ·rfl
                    try simp only[Act.put,sA,sZ,sS]
                    refine rS 11 ?_ ?_ ?_ ?_;rotate_left 1;·simp only[gA,gS,gZ];exact rfl
                    ·rfl
                    try simp only[Act.put,sA,sZ,sS]
                    refine rS 12 ?_ ?_ ?_ ?_;rotate_left 1;·simp only[gA,gS,gZ];exact rfl
                    ·rfl
                    try simp only[Act.put,sA,sZ,sS]
                    refine rS 13 ?_ ?_ ?_ ?_;rotate_left 1;·simp only[gA,gS,gZ];exact rfl
                    ·rfl
                    try simp only[Act.put,sA,sZ,sS]
                    refine rS 14 ?_ ?_ ?_ ?_;rotate_left 1;·simp only[gA,gS,gZ];exact rfl
                    ·rfl
                    try simp only[Act.put,sA,sZ,sS]
                    refine rU 15 _ _ ?_;refine rU 16 _ _ ?_;refine rU 17 _ _ ?_;refine wpAnyH_done (by kernel_rfl) ?_ _;refine NoPanic.normal ?_;have HFI:=Lib.hid (HY3.out.trans (hq_0.mono HY3.out.size));clear hHeld hq_0;go_wp2;exact⟨⟨i+1,false,by omega,by go_num,rfl,HTB2.out.symm,HFI.out⟩,by simp[intOf];omega⟩
              · have hlti':decide ((i:Int)<(n:Int))=false:=decide_eq_false (by omega);rw[List.take_of_length_le (by rw[HN.out];omega)] at htb;have htrue:tb'=true:=by
                  rw[htb,List.any_eq_true];obtain⟨x,hx1,hx2,hx3⟩:=HMEM.out;exact⟨x,hx1,by simp[hx2,hx3]⟩
                subst htrue;have HFI:=Lib.hid (HB3.out.trans (hb3r.mono HB3.out.size));have HPF:=Lib.hid (PA3.out.below hb3r);have HFF:=Lib.hid (FA3.out.below hb3r);clear htb hb3r;go_wp2;exact⟨⟨j+1,_,_,_,_,_,_,_,by omega,by go_num,HPF.out,HFF.out,HFI.out⟩,by simp[intOf];omega⟩
        · have hltj':decide ((j:Int)<(zl:Int))=false:=decide_eq_false (by omega);rw[List.take_of_length_le (by rw[HZL.out];omega)] at fa_0;have HONE:=Lib.hid (show totQ (ol.map (·.2))=((1:Int):Rat) by rw[totQ_perm (HZP.out.map _),kept_one HZ.out HSE.out];rfl);have HPE:=Lib.hid pa_0;have HFE:=Lib.hid fa_0;have HBE:=Lib.hid hB_0;obtain⟨we,hwe⟩:∃we,we=wr:=⟨_,rfl⟩;rw[←hwe] at HPE HFE HBE;rw[←hwe];clear hwe pa_0 fa_0 hB_0;go_wp2;go_loopw [15,17,133] (fun cv _ iv wr=>∃(i cnt:Nat),i≤n∧iv= .int .i64 (i:Int)∧cv= .int .i64 (cnt:Int)∧cnt=posN (il.take i)∧cnt≤i∧Below we.heap.size we wr) (fun _ _ iv _=>n-(intOf iv).toNat);case atStart=>exact⟨0,0,Nat.zero_le _,rfl,rfl,rfl,Nat.le_refl _,Below.refl _ _⟩
          case round=>
            obtain⟨i,cnt,hi,rfl,rfl,hcnt,hci,hber⟩:=hrel;by_cases hlti:i<n
            · have hlti':decide ((i:Int)<(n:Int))=true:=decide_eq_true (by omega);obtain⟨⟨vx,qx⟩,hx⟩:∃s,il[i]?=some s:=⟨_,List.getElem?_eq_getElem (by rw[HN.out];exact hlti)⟩;have hb6r:Below w6.heap.size w6 wr:=HBE.out.trans (hber.mono HBE.out.size);obtain⟨b',mw_,ow_,nw_,cw_,pw_,kw_,dw_,hbe,i0,i1,i2,i3,i5⟩:=(HIN.out.below hb6r) i vx qx hx;obtain rfl:g=b':=by injection hbe with h;injection h
              have hTC:posN (il.take (i+1))=cnt+(if 0<qx then 1 else 0):=by rw[List.take_add_one,hx,hcnt];exact posN_snoc _ _
              have j1:(0:Int)≤(i:Int):=by omega
              have j2:(i:Int)<(n:Int):=by omega
              obtain⟨y1,hy1,py,hby1,hsy1⟩:=new_box wr _ rfl [.int .i64 vx,.bool mw_,.slice ow_ nw_ cw_,.slice pw_ kw_ dw_] 61;obtain⟨yb,hyb⟩:∃x,wr.heap.size=x:=⟨_,rfl⟩;rw[hyb] at py;have z1:=py.c 1 _ rfl;have z2:=py.c 2 _ rfl;have z3:=py.c 3 _ rfl;obtain⟨s',hs'⟩:∃s',qx.num.sign=s':=⟨_,rfl⟩;have HSI:=Lib.hid (qSign _ 2 qx y1 (by omega) (i5.below hby1) s' hs');have HYE:=Lib.hid (hber.trans (hby1.mono hber.size));have HSX:=Lib.hid hs';have HTC:=Lib.hid hTC;clear hx hb6r i5 hTC py hby1 hsy1 hber hcnt hbe hs';go_wp2_with fail;refine HSI.out.mono ?_;rintro e y2 ⟨rfl,hby2⟩;have HYE2:=Lib.hid (HYE.out.trans (hby2.mono HYE.out.size));clear hy1 hyb i0 i1 i2 i3 z1 z2 z3 hby2;by_cases hqx:0<qx
              · have hsp:0<s':=HSX.out▸pos_sign.1 hqx;have dp:decide (0<s')=true:=decide_eq_true hsp;have dp':decide (s'>0)=true:=decide_eq_true hsp;clear hsp;go_wp2;exact⟨⟨i+1,cnt+1,by omega,by go_num,by go_num,by rw[HTC.out,if_pos hqx],by omega,HYE2.out⟩,by simp[intOf];omega⟩
              · have hsp:¬0<s':=fun h=>hqx (pos_sign.2 (HSX.out.symm▸h));have dp:decide (0<s')=false:=decide_eq_false hsp;have dp':decide (s'>0)=false:=decide_eq_false hsp;clear hsp;go_wp2;exact⟨⟨i+1,cnt,by omega,by go_num,rfl,by rw[HTC.out,if_neg hqx];rfl,by omega,HYE2.out⟩,by simp[intOf];omega⟩
            · have hlti':decide ((i:Int)<(n:Int))=false:=decide_eq_false (by omega);rw[List.take_of_length_le (by rw[HN.out];omega)] at hcnt;have hcz:cnt=zl:=by rw[hcnt,←kept_count HSP.out HPOS.out,←HZP.out.length_eq,HZL.out]
              subst hcz;have hcc:((cnt:Int)==(cnt:Int))=true:=by simp
              have PAE:=Lib.hid (HPE.out.below hber);have FAE:=Lib.hid (HFE.out.below hber);have HFI:=Lib.hid (show Below w.heap.size w wr from HB2.out.trans ((HB6.out.trans ((HBE.out.trans (hber.mono HBE.out.size)).mono HB6.out.size)).mono HB2.out.size));have C43:=Lib.hid (show∀w',Below wr.heap.size wr w'→w'.cell? ⟨ab,0,none⟩=some (.bool ma_)∧w'.cell? ⟨ab,1,none⟩=some (.slice oa_ na_ ca_)∧w'.cell? ⟨ab,2,none⟩=some (.slice pa_ ka_ da_) from fun w' hb=>by have p:=PAE.out.below hb;exact⟨p.c 0 _ rfl,p.c 1 _ rfl,p.c 2 _ rfl⟩);clear hcnt hber;go_wp2;have hq_0:=(Below.refl wr.heap.size wr).drew';refine wp_region_noPanic ?_;refine wp_region_held_drew (S:=fun w'=>w'.cell? ⟨ab,0,none⟩=some (.bool ma_)∧w'.cell? ⟨ab,1,none⟩=some (.slice oa_ na_ ca_)∧w'.cell? ⟨ab,2,none⟩=some (.slice pa_ ka_ da_)) (by kernel_rfl) (C43.out _ hq_0) (fun hHeld=>?_);refine rU 0 _ _ ?_;refine rU 1 _ _ ?_;refine rU 2 _ _ ?_;refine rU 3 _ _ ?_;refine rU 4 _ _ ?_;refine rU 5 _ _ ?_;refine rC 6 _ (fun K hK=>?_);go_simp;refine(fOf_any 1 (by omega) (by omega) _).mono ?_;rintro e v1 ⟨mu_,ou_,nu_,cu_,pu_,ku_,du_,rfl,fu,hb1q⟩;have hq_1:=hq_0.trans (hb1q.mono hq_0.size);go_wp2_with fail;refine hK.out _ _ (C43.out _ hq_1) (fun hHeld=>?_);clear hK K;try simp only[Act.put,sA,sZ,sS]
              refine rC 7 _ (fun K hK=>?_);go_simp;refine(qSame_yes _ _ (1+40*j) 1 _ _ _ (by omega) (by omega) (FAE.out.below hq_1).q fu.q HONE.out).mono ?_;rintro e v2 ⟨rfl,hb2q⟩;have hq_2:=hq_1.trans (hb2q.mono hq_1.size);go_wp2_with fail;refine hK.out _ _ (C43.out _ hq_2) (fun hHeld=>?_);clear hK K;try simp only[Act.put,sA,sZ,sS]
              refine rU 8 _ _ ?_;refine rU 9 _ _ ?_;refine wpAnyH_done (by kernel_rfl) ?_ _;refine NoPanic.normal ?_;have HFIN:=Lib.hid (HFI.out.trans (hq_2.mono HFI.out.size));clear hHeld;go_wp2;go_ret;exact⟨rfl,HFIN.out⟩
end Go.Proofs.YtammmemfkpcpcaaGreat
