/- From the form of the rows to the walks of layer 7: what a slice of Spots reads as. -/
import Derived.Test.YtkcfaddilknelaaParti
import Derived.Test.YtkcfaddilknelaaPartl
import Derived.Deep.Slices
import Derived.Test.YtkcfaddilknelaaPartk
import Derived.Test.YtkcfaddilknelaaPartj
import Derived.Test.YtkcfaddilknelaaParth
namespace Go.Proofs.Ytkcfaddilknelaa
open Go.ChangeShapes Go.WideShapes Go.RowKit Go.MagM
theorem list6_of {l : List Value} (h : l.length = 6) : ∃ a b c d e f, l = [a, b, c, d, e, f] := by
  match l, h with
  | [a, b, c, d, e, f], _ => exact ⟨a, b, c, d, e, f, rfl⟩
set_option maxRecDepth 100000 in
/-- What a slice of Spots reads as. -/
theorem view_spots {H : Type} {enc : TypeId × Value → H} {W : World} {b0 : Nat} {v : Value} {d : DataW H} {p : List MemPlace} (hv : Value.okWide Try.prog W .any b0 52 v)
    (h : DataW.Trod enc Try.prog W 0 (fun _ => true) true 52 v d p) :
    ∃ ao n c l, v = .slice ao n c ∧ (l.length = n ∧ Raws W ao l) := by
  obtain ⟨ao, n, c, rfl⟩ := okWide_slice Try.underlying52 hv
  obtain ⟨fuel, hf⟩ := h
  rcases Go.Deep.open_slice Try.underlying52 hf with ⟨hcs, _⟩ | ⟨a, len, cap, m, k, D, Pl, hcs, _, hlc, _, hm, _, hx⟩
  · simp [Value.cells] at hcs
    obtain ⟨rfl, rfl, rfl⟩ := hcs
    exact ⟨_, _, _, [], rfl, rfl, fun i X D X' D' hi => by simp at hi⟩
  · simp [Value.cells] at hcs
    obtain ⟨rfl, rfl, rfl⟩ := hcs
    simp only [if_true] at hm
    subst hm
    obtain ⟨ab, ao, as'⟩ := a
    have hs : 0 < n → as' = none := fun h0 => by
      obtain ⟨cs', h1, _⟩ := hx 0 (by omega)
      rw [spotCells] at h1
      obtain ⟨_, hlen, hcell⟩ := World.cells?_some h1
      obtain ⟨c0, c1, c2, c3, c4, c5, rfl⟩ := list6_of hlen
      have hsp := World.cell?_spot (hcell 0 (by omega))
      simpa [Addr.add] using hsp
    have each : ∀ i, i < n → ∃ q : Int × Nat × Int × Nat, ∃ m so sn sc tp tn tc m' so' sn' sc' tp' tn' tc', as' = none ∧ At6 W ab (ao + i * 6) (.bool m) (.slice so sn sc) (.slice tp tn tc) (.bool m') (.slice so' sn' sc') (.slice tp' tn' tc') ∧
        (∃ L, FD W (.agg #[.bool m, .slice so sn sc, .slice tp tn tc]) L q.1 q.2.1) ∧ (∃ L, FD W (.agg #[.bool m', .slice so' sn' sc', .slice tp' tn' tc']) L q.2.2.1 q.2.2.2) := by
      intro i hi
      obtain ⟨cs', h1, h2⟩ := hx i (by omega)
      rw [spotCells] at h1
      obtain ⟨_, hlen, hcell⟩ := World.cells?_some h1
      obtain ⟨c0, c1, c2, c3, c4, c5, rfl⟩ := list6_of hlen
      obtain ⟨m, so, sn, sc, tp, tn, tc, m', so', sn', sc', tp', tn', tc', L, X, D, L', X', D', rfl, rfl, rfl, rfl, rfl, rfl, hF, hF'⟩ := open_spot h2
      obtain rfl := hs (by omega)
      rw [addr_add] at hcell
      refine ⟨(X, D, X', D'), m, so, sn, sc, tp, tn, tc, m', so', sn', sc', tp', tn', tc', rfl, ⟨?_, ?_, ?_, ?_, ?_, ?_⟩, ⟨L, hF⟩, ⟨L', hF'⟩⟩
      · have := hcell 0 (by omega); rw [addr_add] at this; exact this
      · have := hcell 1 (by omega); rw [addr_add] at this; exact this
      · have := hcell 2 (by omega); rw [addr_add] at this; exact this
      · have := hcell 3 (by omega); rw [addr_add] at this; exact this
      · have := hcell 4 (by omega); rw [addr_add] at this; exact this
      · have := hcell 5 (by omega); rw [addr_add] at this; exact this
    obtain ⟨f, hfa⟩ := Go.Deep.choose_lt each
    refine ⟨_, _, _, (List.range n).map f, rfl, by simp, fun i X D X' D' hi => ?_⟩
    have hin : i < n := by have := (List.getElem?_eq_some_iff.1 hi).1; simpa using this
    have hq : f i = (X, D, X', D') := by
      rw [List.getElem?_map, List.getElem?_range hin] at hi
      simpa using hi
    obtain ⟨m, so, sn, sc, tp, tn, tc, m', so', sn', sc', tp', tn', tc', rfl, h1, h2, h3⟩ := hfa i hin
    rw [hq] at h2 h3
    exact ⟨ab, ao, m, so, sn, sc, tp, tn, tc, m', so', sn', sc', tp', tn', tc', rfl, h1, h2, h3⟩
end Go.Proofs.Ytkcfaddilknelaa
/- Three Spots, three Fracs in a box; their Area2, their Sum. -/
namespace Go.Proofs.Ytkcfaddilknelaa
open Go.RowKit Go.MagM
theorem spots3 {w : World} {g : Nat} {axm : Bool} {axo : Option Addr} {axn axc : Nat} {axp : Option Addr} {axk axd : Nat} {aym : Bool} {ayo : Option Addr} {ayn ayc : Nat} {ayp : Option Addr} {ayk ayd : Nat} {bxm : Bool} {bxo : Option Addr} {bxn bxc : Nat} {bxp : Option Addr} {bxk bxd : Nat} {bym : Bool} {byo : Option Addr} {byn byc : Nat} {byp : Option Addr} {byk byd : Nat} {vxm : Bool} {vxo : Option Addr} {vxn vxc : Nat} {vxp : Option Addr} {vxk vxd : Nat} {vym : Bool} {vyo : Option Addr} {vyn vyc : Nat} {vyp : Option Addr} {vyk vyd : Nat} {L : Nat} {axq ayq bxq byq vxq vyq : Rat} (h : Box w g [.bool axm, .slice axo axn axc, .slice axp axk axd, .bool aym, .slice ayo ayn ayc, .slice ayp ayk ayd, .bool bxm, .slice bxo bxn bxc, .slice bxp bxk bxd, .bool bym, .slice byo byn byc, .slice byp byk byd, .bool vxm, .slice vxo vxn vxc, .slice vxp vxk vxd, .bool vym, .slice vyo vyn vyc, .slice vyp vyk vyd]) (fax_0 : FQ w (.agg #[.bool axm, .slice axo axn axc, .slice axp axk axd]) L axq) (fay_0 : FQ w (.agg #[.bool aym, .slice ayo ayn ayc, .slice ayp ayk ayd]) L ayq) (fbx_0 : FQ w (.agg #[.bool bxm, .slice bxo bxn bxc, .slice bxp bxk bxd]) L bxq) (fby_0 : FQ w (.agg #[.bool bym, .slice byo byn byc, .slice byp byk byd]) L byq) (fvx_0 : FQ w (.agg #[.bool vxm, .slice vxo vxn vxc, .slice vxp vxk vxd]) L vxq) (fvy_0 : FQ w (.agg #[.bool vym, .slice vyo vyn vyc, .slice vyp vyk vyd]) L vyq) : Spots w (some ⟨g, 0, none⟩) L [(axq, ayq), (bxq, byq), (vxq, vyq)] := by
  intro i x y hi
  have hi2 : i < 3 := by have := (List.getElem?_eq_some_iff.1 hi).1; simpa using this
  obtain rfl | rfl | rfl : i = 0 ∨ i = 1 ∨ i = 2 := by omega
  · simp at hi; obtain ⟨rfl, rfl⟩ := hi
    exact ⟨g, 0, axm, axo, axn, axc, axp, axk, axd, aym, ayo, ayn, ayc, ayp, ayk, ayd, rfl, h.c0, h.c1, h.c2, h.c3, h.c4, h.c5, fax_0, fay_0⟩
  · simp at hi; obtain ⟨rfl, rfl⟩ := hi
    exact ⟨g, 0, bxm, bxo, bxn, bxc, bxp, bxk, bxd, bym, byo, byn, byc, byp, byk, byd, rfl, h.c6, h.c7, h.c8, h.c9, h.c10, h.c11, fbx_0, fby_0⟩
  · simp at hi; obtain ⟨rfl, rfl⟩ := hi
    exact ⟨g, 0, vxm, vxo, vxn, vxc, vxp, vxk, vxd, vym, vyo, vyn, vyc, vyp, vyk, vyd, rfl, h.c12, h.c13, h.c14, h.c15, h.c16, h.c17, fvx_0, fvy_0⟩
theorem sArea2_three {g c : Nat} {axm : Bool} {axo : Option Addr} {axn axc : Nat} {axp : Option Addr} {axk axd : Nat} {aym : Bool} {ayo : Option Addr} {ayn ayc : Nat} {ayp : Option Addr} {ayk ayd : Nat} {bxm : Bool} {bxo : Option Addr} {bxn bxc : Nat} {bxp : Option Addr} {bxk bxd : Nat} {bym : Bool} {byo : Option Addr} {byn byc : Nat} {byp : Option Addr} {byk byd : Nat} {vxm : Bool} {vxo : Option Addr} {vxn vxc : Nat} {vxp : Option Addr} {vxk vxd : Nat} {vym : Bool} {vyo : Option Addr} {vyn vyc : Nat} {vyp : Option Addr} {vyk vyd : Nat} (L : Nat) (axq ayq bxq byq vxq vyq : Rat) (w : World) (hL : L ≤ 100000) (h : Box w g [.bool axm, .slice axo axn axc, .slice axp axk axd, .bool aym, .slice ayo ayn ayc, .slice ayp ayk ayd, .bool bxm, .slice bxo bxn bxc, .slice bxp bxk bxd, .bool bym, .slice byo byn byc, .slice byp byk byd, .bool vxm, .slice vxo vxn vxc, .slice vxp vxk vxd, .bool vym, .slice vyo vyn vyc, .slice vyp vyk vyd]) (fax_0 : FQ w (.agg #[.bool axm, .slice axo axn axc, .slice axp axk axd]) L axq) (fay_0 : FQ w (.agg #[.bool aym, .slice ayo ayn ayc, .slice ayp ayk ayd]) L ayq) (fbx_0 : FQ w (.agg #[.bool bxm, .slice bxo bxn bxc, .slice bxp bxk bxd]) L bxq) (fby_0 : FQ w (.agg #[.bool bym, .slice byo byn byc, .slice byp byk byd]) L byq) (fvx_0 : FQ w (.agg #[.bool vxm, .slice vxo vxn vxc, .slice vxp vxk vxd]) L vxq) (fvy_0 : FQ w (.agg #[.bool vym, .slice vyo vyn vyc, .slice vyp vyk vyd]) L vyq) :
    Calls Try.prog 28 #[.slice (some ⟨g, 0, none⟩) 3 c] w fun e w' => AnsF w w' e (1 + 3 * (((L + L + 2) + (L + L + 2) + 2) + 2)) (areaQ [(axq, ayq), (bxq, byq), (vxq, vyq)]) :=
  sArea2_any _ 3 c _ L w rfl (by omega) hL (spots3 h fax_0 fay_0 fbx_0 fby_0 fvx_0 fvy_0)
theorem fracs3_box {w : World} {g : Nat} {am : Bool} {ao : Option Addr} {an ac : Nat} {ap : Option Addr} {ak ad : Nat} {bm : Bool} {bo : Option Addr} {bn bc : Nat} {bp : Option Addr} {bk bd : Nat} {vm : Bool} {vo : Option Addr} {vn vc : Nat} {vp : Option Addr} {vk vd : Nat} {L : Nat} {X Y Z : Int} {D E F : Nat} (h : Box w g [.bool am, .slice ao an ac, .slice ap ak ad, .bool bm, .slice bo bn bc, .slice bp bk bd, .bool vm, .slice vo vn vc, .slice vp vk vd]) (h1 : FD w (.agg #[.bool am, .slice ao an ac, .slice ap ak ad]) L X D) (h2 : FD w (.agg #[.bool bm, .slice bo bn bc, .slice bp bk bd]) L Y E) (h3 : FD w (.agg #[.bool vm, .slice vo vn vc, .slice vp vk vd]) L Z F) : Fracs w (some ⟨g, 0, none⟩) [(L, X, D), (L, Y, E), (L, Z, F)] := by
  intro i L' U G hi
  have hi2 : i < 3 := by have := (List.getElem?_eq_some_iff.1 hi).1; simpa using this
  obtain rfl | rfl | rfl : i = 0 ∨ i = 1 ∨ i = 2 := by omega
  · simp at hi; obtain ⟨rfl, rfl, rfl⟩ := hi
    exact ⟨g, 0, _, _, _, _, _, _, _, rfl, h.c0, h.c1, h.c2, h1⟩
  · simp at hi; obtain ⟨rfl, rfl, rfl⟩ := hi
    exact ⟨g, 0, _, _, _, _, _, _, _, rfl, h.c3, h.c4, h.c5, h2⟩
  · simp at hi; obtain ⟨rfl, rfl, rfl⟩ := hi
    exact ⟨g, 0, _, _, _, _, _, _, _, rfl, h.c6, h.c7, h.c8, h3⟩
theorem fSum3 {g c : Nat} {am : Bool} {ao : Option Addr} {an ac : Nat} {ap : Option Addr} {ak ad : Nat} {bm : Bool} {bo : Option Addr} {bn bc : Nat} {bp : Option Addr} {bk bd : Nat} {vm : Bool} {vo : Option Addr} {vn vc : Nat} {vp : Option Addr} {vk vd : Nat} (L : Nat) (aq bq vq : Rat) (w : World) (hL : L ≤ 1000000) (h : Box w g [.bool am, .slice ao an ac, .slice ap ak ad, .bool bm, .slice bo bn bc, .slice bp bk bd, .bool vm, .slice vo vn vc, .slice vp vk vd]) (fa_0 : FQ w (.agg #[.bool am, .slice ao an ac, .slice ap ak ad]) L aq) (fb_0 : FQ w (.agg #[.bool bm, .slice bo bn bc, .slice bp bk bd]) L bq) (fv_0 : FQ w (.agg #[.bool vm, .slice vo vn vc, .slice vp vk vd]) L vq) :
    Calls Try.prog 40 #[.slice (some ⟨g, 0, none⟩) 3 c] w fun e w' => AnsF w w' e (3 * (L + 2) + 1) (aq + bq + vq) := by
  obtain ⟨X, D, h1, rfl⟩ := fa_0
  obtain ⟨Y, E, h2, rfl⟩ := fb_0
  obtain ⟨Z, F, h3, rfl⟩ := fv_0
  refine (fSum_go _ 3 c _ w rfl (by omega) ?_ (fracs3_box h h1 h2 h3)).mono fun e w' k => k.of ?_ ?_
  · intro L' U G hm; simp at hm; omega
  · simp [fLen]; omega
  · simp [fVal, Rat.zero_add]
end Go.Proofs.Ytkcfaddilknelaa
/- Sums of two and three, and of none. -/
namespace Go.Proofs.Ytkcfaddilknelaa
open Go.RowKit Go.MagM
theorem nums_two (w : World) (T : TypeId) {L1 L2 : Nat} {X Y : Int} {m1 m2 : Bool} {o1 o2 : Option Addr} {n1 c1 n2 c2 : Nat} (h1 : Num w (.agg #[.bool m1, .slice o1 n1 c1]) L1 X) (h2 : Num w (.agg #[.bool m2, .slice o2 n2 c2]) L2 Y) :
    Nums (w.alloc (.cells #[.bool m1, .slice o1 n1 c1, .bool m2, .slice o2 n2 c2] T)) (some ⟨w.heap.size, 0, none⟩) [(L1, X), (L2, Y)] := by
  have hb : Below w.heap.size w (w.alloc (.cells #[.bool m1, .slice o1 n1 c1, .bool m2, .slice o2 n2 c2] T)) := (Below.refl _ _).alloc (Nat.le_refl _) _
  intro i L Z hi
  have hi2 : i < 2 := by have := (List.getElem?_eq_some_iff.1 hi).1; simpa using this
  obtain rfl | rfl : i = 0 ∨ i = 1 := by omega
  · simp at hi; obtain ⟨rfl, rfl⟩ := hi
    exact ⟨_, 0, m1, o1, n1, c1, rfl, by simp [go_sem], by simp [go_sem], h1.below hb⟩
  · simp at hi; obtain ⟨rfl, rfl⟩ := hi
    exact ⟨_, 0, m2, o2, n2, c2, rfl, by simp [go_sem], by simp [go_sem], h2.below hb⟩
theorem nums_three (w : World) (T : TypeId) {L1 L2 L3 : Nat} {X Y Z : Int} {m1 m2 m3 : Bool} {o1 o2 o3 : Option Addr} {n1 c1 n2 c2 n3 c3 : Nat} (h1 : Num w (.agg #[.bool m1, .slice o1 n1 c1]) L1 X) (h2 : Num w (.agg #[.bool m2, .slice o2 n2 c2]) L2 Y) (h3 : Num w (.agg #[.bool m3, .slice o3 n3 c3]) L3 Z) :
    Nums (w.alloc (.cells #[.bool m1, .slice o1 n1 c1, .bool m2, .slice o2 n2 c2, .bool m3, .slice o3 n3 c3] T)) (some ⟨w.heap.size, 0, none⟩) [(L1, X), (L2, Y), (L3, Z)] := by
  have hb : Below w.heap.size w (w.alloc (.cells #[.bool m1, .slice o1 n1 c1, .bool m2, .slice o2 n2 c2, .bool m3, .slice o3 n3 c3] T)) := (Below.refl _ _).alloc (Nat.le_refl _) _
  intro i L Z hi
  have hi2 : i < 3 := by have := (List.getElem?_eq_some_iff.1 hi).1; simpa using this
  obtain rfl | rfl | rfl : i = 0 ∨ i = 1 ∨ i = 2 := by omega
  · simp at hi; obtain ⟨rfl, rfl⟩ := hi
    exact ⟨_, 0, m1, o1, n1, c1, rfl, by simp [go_sem], by simp [go_sem], h1.below hb⟩
  · simp at hi; obtain ⟨rfl, rfl⟩ := hi
    exact ⟨_, 0, m2, o2, n2, c2, rfl, by simp [go_sem], by simp [go_sem], h2.below hb⟩
  · simp at hi; obtain ⟨rfl, rfl⟩ := hi
    exact ⟨_, 0, m3, o3, n3, c3, rfl, by simp [go_sem], by simp [go_sem], h3.below hb⟩
theorem box_lt {w : World} {g : Nat} {u v : Value} (h : Box2 w g u v) : g < w.heap.size := World.block_lt_of_cell? w ⟨g, 0, none⟩ h.c0
theorem Nums.drew {w : World} {ao : Option Addr} {l : List (Nat × Int)} (h : Nums w ao l) : Nums w.drew ao l := h
end Go.Proofs.Ytkcfaddilknelaa
/- The calls of pred: Circle. -/
namespace Go.Proofs.Ytkcfaddilknelaa
open Go.RowKit Go.MagM
theorem nums3_box {w : World} {g : Nat} {L1 L2 L3 : Nat} {X Y Z : Int} {m1 m2 m3 : Bool} {o1 o2 o3 : Option Addr} {n1 c1 n2 c2 n3 c3 : Nat} (h : Box w g [.bool m1, .slice o1 n1 c1, .bool m2, .slice o2 n2 c2, .bool m3, .slice o3 n3 c3])
    (h1 : Num w (.agg #[.bool m1, .slice o1 n1 c1]) L1 X) (h2 : Num w (.agg #[.bool m2, .slice o2 n2 c2]) L2 Y) (h3 : Num w (.agg #[.bool m3, .slice o3 n3 c3]) L3 Z) :
    Nums w (some ⟨g, 0, none⟩) [(L1, X), (L2, Y), (L3, Z)] := by
  intro i L Z hi
  have hi2 : i < 3 := by have := (List.getElem?_eq_some_iff.1 hi).1; simpa using this
  obtain rfl | rfl | rfl : i = 0 ∨ i = 1 ∨ i = 2 := by omega
  · simp at hi; obtain ⟨rfl, rfl⟩ := hi
    exact ⟨_, 0, m1, o1, n1, c1, rfl, h.c0, h.c1, h1⟩
  · simp at hi; obtain ⟨rfl, rfl⟩ := hi
    exact ⟨_, 0, m2, o2, n2, c2, rfl, h.c2, h.c3, h2⟩
  · simp at hi; obtain ⟨rfl, rfl⟩ := hi
    exact ⟨_, 0, m3, o3, n3, c3, rfl, h.c4, h.c5, h3⟩
theorem Sign_named (va : Value) (L : Nat) (X s : Int) (w : World) (hL : L ≤ 4000000000) (ha : Num w va L X) (h : X.sign = s) :
    Calls Try.prog 41 #[va] w fun e w' => e = .returned (.int .i64 s) ∧ Below w.heap.size w w' := by
  subst h; exact Sign_any va L X w hL ha
theorem Cmp_named (va vb : Value) (L L' : Nat) (X Y s : Int) (w : World) (hL : L ≤ 4000000000) (hL' : L' ≤ 4000000000) (ha : Num w va L X) (hb : Num w vb L' Y) (h : icmp X Y = s) :
    Calls Try.prog 58 #[va, vb] w fun e w' => e = .returned (.int .i64 s) ∧ Below w.heap.size w w' := by
  subst h; exact nCmp_any va vb L L' X Y w hL hL' ha hb
end Go.Proofs.Ytkcfaddilknelaa
/- The calls of spot: less, beyond, Centre. -/
namespace Go.Proofs.Ytkcfaddilknelaa
open Go.RowKit Go.MagM
def AnsSt (w w' : World) (e : Ending) (L : Nat) (p q : Rat) : Prop := ∃ m ao n c bo k d m2 ao2 n2 c2 bo2 k2 d2, e = .returned (.tuple #[.agg #[.bool m, .slice ao n c, .slice bo k d, .bool m2, .slice ao2 n2 c2, .slice bo2 k2 d2], .bool true]) ∧
  RF w' (.agg #[.bool m, .slice ao n c, .slice bo k d]) L p ∧ RF w' (.agg #[.bool m2, .slice ao2 n2 c2, .slice bo2 k2 d2]) L q ∧ Below w.heap.size w w'
theorem AnsSt.of {w w' : World} {e : Ending} {L L' : Nat} {p q p' q' : Rat} (h : AnsSt w w' e L p q) (hL : L ≤ L') (hp : p = p') (hq : q = q') : AnsSt w w' e L' p' q' := by
  subst hp hq; obtain ⟨m, ao, n, c, bo, k, d, m2, ao2, n2, c2, bo2, k2, d2, h1, h2, h3, h4⟩ := h; exact ⟨m, ao, n, c, bo, k, d, m2, ao2, n2, c2, bo2, k2, d2, h1, h2.more hL, h3.more hL, h4⟩
set_option maxHeartbeats 4000000 in
theorem sless_any {am : Bool} {ao : Option Addr} {an ac : Nat} {bm : Bool} {bo : Option Addr} {bn bc : Nat} (La Lb : Nat) (Xa Xb p q : Int) (w : World) (ha : La ≤ 1000000) (hb : Lb ≤ 1000000) (hp1 : -9223372036854775808 ≤ p) (hp2 : p < 9223372036854775808) (hq1 : -9223372036854775808 ≤ q) (hq2 : q < 9223372036854775808) (fa_0 : Num w (.agg #[.bool am, .slice ao an ac]) La Xa) (fb_0 : Num w (.agg #[.bool bm, .slice bo bn bc]) Lb Xb) :
    Calls Try.prog 42 #[.agg #[.bool am, .slice ao an ac], .int .i64 p, .agg #[.bool bm, .slice bo bn bc], .int .i64 q] w fun e w' => AnsNum w w' e (max (La + 1) (Lb + 1) + 1) (Xa * p - Xb * q) := by
  have hB_0 := Below.refl w.heap.size w
  have HP1 := Lib.hid hp1; have HP2 := Lib.hid hp2; have HQ1 := Lib.hid hq1; have HQ2 := Lib.hid hq2; have HA := Lib.hid ha; have HB := Lib.hid hb
  clear hp1 hp2 hq1 hq2 ha hb
  obtain ⟨w1, hw1, pa_0, hb1, hs1⟩ := new_box w (w.heap.size) rfl [.bool am, .slice ao an ac] 29
  have hb1' : Below w.heap.size w w1 := hb1.mono (by omega)
  clear hb1
  have hB_1 := hB_0.trans (hb1'.mono hB_0.size)
  have fa_1 := fa_0.below hb1'
  have fb_1 := fb_0.below hb1'
  clear hb1' hB_0 fa_0 fb_0
  obtain ⟨w2, hw2, pb_0, hb2, hs2⟩ := new_box w1 (w.heap.size + 1) hs1 [.bool bm, .slice bo bn bc] 29
  have hb2' : Below w1.heap.size w1 w2 := hb2.mono (by omega)
  clear hb2
  have hB_2 := hB_1.trans (hb2'.mono hB_1.size)
  have fa_2 := fa_1.below hb2'
  have fb_2 := fb_1.below hb2'
  have pa_1 := pa_0.below hb2'
  clear hb2' hB_1 fa_1 fb_1 pa_0
  obtain ⟨w3, hw3, pr_0, hb3, hs3⟩ := new_box w2 (w.heap.size + 1 + 1) hs2 [.bool false, .slice none 0 0] 29
  have hb3' : Below w2.heap.size w2 w3 := hb3.mono (by omega)
  clear hb3
  have hB_3 := hB_2.trans (hb3'.mono hB_2.size)
  have fa_3 := fa_2.below hb3'
  have fb_3 := fb_2.below hb3'
  have pa_2 := pa_1.below hb3'
  have pb_1 := pb_0.below hb3'
  clear hb3' hB_2 fa_2 fb_2 pa_1 pb_0
  go_enter Try.func42, Try.ntmps42
  go_wp2
  have hB_4 := hB_3.drew'
  have fa_4 := fa_3.drew
  have fb_4 := fb_3.drew
  have pa_3 := pa_2.drew
  have pb_2 := pb_1.drew
  have pr_1 := pr_0.drew
  clear hB_3 fa_3 fb_3 pa_2 pb_1 pr_0
  go_region_held3 (fun w' => w'.cell? ⟨w.heap.size, 0, none⟩ = some (.bool am) ∧ w'.cell? ⟨w.heap.size, 1, none⟩ = some (.slice ao an ac) ∧ w'.cell? ⟨w.heap.size + 1, 0, none⟩ = some (.bool bm) ∧ w'.cell? ⟨w.heap.size + 1, 1, none⟩ = some (.slice bo bn bc))
    (first | with_reducible exact ⟨pa_3.c0, pa_3.c1, pb_2.c0, pb_2.c1⟩ | with_reducible exact ⟨pa_4.c0, pa_4.c1, pb_3.c0, pb_3.c1⟩ | with_reducible exact ⟨pa_5.c0, pa_5.c1, pb_4.c0, pb_4.c1⟩ | with_reducible exact ⟨pa_6.c0, pa_6.c1, pb_5.c0, pb_5.c1⟩ | with_reducible exact ⟨pa_7.c0, pa_7.c1, pb_6.c0, pb_6.c1⟩ | with_reducible exact ⟨pa_8.c0, pa_8.c1, pb_7.c0, pb_7.c1⟩ | with_reducible exact ⟨pa_9.c0, pa_9.c1, pb_8.c0, pb_8.c1⟩ | fail)
    (first
      | (go_at_call 31; (with_reducible refine (nOf_any p HP1.out HP2.out _).mono ?_); rintro e w4 ⟨m1, o1, n1, c1, rfl, f1_0, hb4⟩; have hB_5 := hB_4.trans (hb4.mono hB_4.size); have fa_5 := fa_4.below hb4; have fb_5 := fb_4.below hb4; have pa_4 := pa_3.below hb4; have pb_3 := pb_2.below hb4; have pr_2 := pr_1.below hb4; clear hb4 hB_4 fa_4 fb_4 pa_3 pb_2 pr_1)
      | (go_at_call 37; (with_reducible refine (nMul_any _ _ La 1 Xa p _ (by have := HA.out; have := HB.out; omega) (by omega) fa_5 f1_0.num).mono ?_); rintro e w5 ⟨m2, o2, n2, c2, rfl, f2_0, hb5⟩; have hB_6 := hB_5.trans (hb5.mono hB_5.size); have fa_6 := fa_5.below hb5; have fb_6 := fb_5.below hb5; have pa_5 := pa_4.below hb5; have pb_4 := pb_3.below hb5; have pr_3 := pr_2.below hb5; have f1_1 := f1_0.below hb5; clear hb5 hB_5 fa_5 fb_5 pa_4 pb_3 pr_2 f1_0)
      | (go_at_call 31; (with_reducible refine (nOf_any q HQ1.out HQ2.out _).mono ?_); rintro e w6 ⟨m3, o3, n3, c3, rfl, f3_0, hb6⟩; have hB_7 := hB_6.trans (hb6.mono hB_6.size); have fa_7 := fa_6.below hb6; have fb_7 := fb_6.below hb6; have pa_6 := pa_5.below hb6; have pb_5 := pb_4.below hb6; have pr_4 := pr_3.below hb6; have f1_2 := f1_1.below hb6; have f2_1 := f2_0.below hb6; clear hb6 hB_6 fa_6 fb_6 pa_5 pb_4 pr_3 f1_1 f2_0)
      | (go_at_call 37; (with_reducible refine (nMul_any _ _ Lb 1 Xb q _ (by have := HA.out; have := HB.out; omega) (by omega) fb_7 f3_0.num).mono ?_); rintro e w7 ⟨m4, o4, n4, c4, rfl, f4_0, hb7⟩; have hB_8 := hB_7.trans (hb7.mono hB_7.size); have fa_8 := fa_7.below hb7; have fb_8 := fb_7.below hb7; have pa_7 := pa_6.below hb7; have pb_6 := pb_5.below hb7; have pr_5 := pr_4.below hb7; have f1_3 := f1_2.below hb7; have f2_2 := f2_1.below hb7; have f3_1 := f3_0.below hb7; clear hb7 hB_7 fa_7 fb_7 pa_6 pb_5 pr_4 f1_2 f2_1 f3_0)
      | (go_at_call 68; (with_reducible refine (nSub_any _ _ (La + 1) (Lb + 1) _ _ _ (by have := HA.out; have := HB.out; omega) (by have := HA.out; have := HB.out; omega) f2_2.num f4_0.num).mono ?_); rintro e w8 ⟨m5, o5, n5, c5, rfl, f5_0, hb8⟩; have hB_9 := hB_8.trans (hb8.mono hB_8.size); have fa_9 := fa_8.below hb8; have fb_9 := fb_8.below hb8; have pa_8 := pa_7.below hb8; have pb_7 := pb_6.below hb8; have pr_6 := pr_5.below hb8; have f1_4 := f1_3.below hb8; have f2_3 := f2_2.below hb8; have f3_2 := f3_1.below hb8; have f4_1 := f4_0.below hb8; clear hb8 hB_8 fa_8 fb_8 pa_7 pb_6 pr_5 f1_3 f2_2 f3_1 f4_0; obtain ⟨sf1a, sf1b, sf1c, sf1d⟩ := pr_6.open2; obtain ⟨sg1a, sg1b⟩ := Box.put2 pr_6 (.bool m5); have hB_10 := below_setAll hB_9 (g := w.heap.size + 1 + 1) (by omega) [.bool m5, .slice o5 n5 c5]; have fa_10 := fa_9.setAll pr_6 (noWord2 _ _ _ _) [.bool m5, .slice o5 n5 c5] rfl; have fb_10 := fb_9.setAll pr_6 (noWord2 _ _ _ _) [.bool m5, .slice o5 n5 c5] rfl; have pa_9 := pa_8.farAll (g' := w.heap.size + 1 + 1) (by omega) [.bool m5, .slice o5 n5 c5]; have pb_8 := pb_7.farAll (g' := w.heap.size + 1 + 1) (by omega) [.bool m5, .slice o5 n5 c5]; have f1_5 := f1_4.setAll pr_6 (noWord2 _ _ _ _) [.bool m5, .slice o5 n5 c5] rfl; have f2_4 := f2_3.setAll pr_6 (noWord2 _ _ _ _) [.bool m5, .slice o5 n5 c5] rfl; have f3_3 := f3_2.setAll pr_6 (noWord2 _ _ _ _) [.bool m5, .slice o5 n5 c5] rfl; have f4_2 := f4_1.setAll pr_6 (noWord2 _ _ _ _) [.bool m5, .slice o5 n5 c5] rfl; have f5_1 := f5_0.setAll pr_6 (noWord2 _ _ _ _) [.bool m5, .slice o5 n5 c5] rfl; have pr_7 := pr_6.setAll [.bool m5, .slice o5 n5 c5] rfl; simp only [setAll, Nat.zero_add] at hB_10 fa_10 fb_10 pa_9 pb_8 pr_7 f1_5 f2_4 f3_3 f4_2 f5_1))
  clear hB_9 fa_9 fb_9 pa_8 pb_7 f1_4 f2_3 f3_2 f4_1 f5_0 pr_6
  clear sf1a sf1b sf1c sf1d sg1a sg1b
  generalize (World.setCell (World.setCell w8 ⟨w.heap.size + 1 + 1, 0, none⟩ (.bool m5)) ⟨w.heap.size + 1 + 1, 1, none⟩ (.slice o5 n5 c5)) = w9 at *
  go_wp2
  obtain ⟨pre0, pre1, pre2, pre3⟩ := pr_7.open2
  exact bodyPost_ret (v := .agg #[.bool m5, .slice o5 n5 c5]) (by simp [results, Try.results42, go_sem, pre0, pre1]) rfl ⟨_, _, _, _, rfl, f5_1, hB_10⟩
set_option maxHeartbeats 4000000 in
theorem sbeyond_any {am : Bool} {ao : Option Addr} {an ac : Nat} {bm : Bool} {bo : Option Addr} {bn bc : Nat} (p : Int) (La Lb : Nat) (Xa Xb : Int) (w : World) (ha : La ≤ 1000000) (hb : Lb ≤ 1000000) (hp1 : -9223372036854775808 ≤ p) (hp2 : p < 9223372036854775808) (h0 : Xb ≠ 0) (fa_0 : Num w (.agg #[.bool am, .slice ao an ac]) La Xa) (fb_0 : Num w (.agg #[.bool bm, .slice bo bn bc]) Lb Xb) :
    Calls Try.prog 44 #[.int .i64 p, .agg #[.bool am, .slice ao an ac], .agg #[.bool bm, .slice bo bn bc]] w fun e w' => AnsF w w' e (1 + max La Lb + 2) ((p : Rat) + (Xa : Rat) / (Xb : Rat)) := by
  have hB_0 := Below.refl w.heap.size w
  have HP1 := Lib.hid hp1; have HP2 := Lib.hid hp2; have HA := Lib.hid ha; have HB := Lib.hid hb; have H0 := Lib.hid h0
  clear hp1 hp2 ha hb h0
  obtain ⟨w1, hw1, pa_0, hb1, hs1⟩ := new_box w (w.heap.size) rfl [.bool am, .slice ao an ac] 29
  have hb1' : Below w.heap.size w w1 := hb1.mono (by omega)
  clear hb1
  have hB_1 := hB_0.trans (hb1'.mono hB_0.size)
  have fa_1 := fa_0.below hb1'
  have fb_1 := fb_0.below hb1'
  clear hb1' hB_0 fa_0 fb_0
  obtain ⟨w2, hw2, pb_0, hb2, hs2⟩ := new_box w1 (w.heap.size + 1) hs1 [.bool bm, .slice bo bn bc] 29
  have hb2' : Below w1.heap.size w1 w2 := hb2.mono (by omega)
  clear hb2
  have hB_2 := hB_1.trans (hb2'.mono hB_1.size)
  have fa_2 := fa_1.below hb2'
  have fb_2 := fb_1.below hb2'
  have pa_1 := pa_0.below hb2'
  clear hb2' hB_1 fa_1 fb_1 pa_0
  obtain ⟨w3, hw3, pr_0, hb3, hs3⟩ := new_box w2 (w.heap.size + 1 + 1) hs2 [.bool false, .slice none 0 0, .slice none 0 0] 31
  have hb3' : Below w2.heap.size w2 w3 := hb3.mono (by omega)
  clear hb3
  have hB_3 := hB_2.trans (hb3'.mono hB_2.size)
  have fa_3 := fa_2.below hb3'
  have fb_3 := fb_2.below hb3'
  have pa_2 := pa_1.below hb3'
  have pb_1 := pb_0.below hb3'
  clear hb3' hB_2 fa_2 fb_2 pa_1 pb_0
  go_enter Try.func44, Try.ntmps44
  obtain ⟨pae0, pae1, pae2, pae3⟩ := pa_2.open2
  obtain ⟨pbe0, pbe1, pbe2, pbe3⟩ := pb_1.open2
  go_wp2_with fail
  refine (fMake_some _ _ La Lb Xa Xb _ (by have := HA.out; have := HB.out; omega) (by have := HA.out; have := HB.out; omega) fa_3 fb_3 H0.out).mono ?_
  rintro e w4 ⟨m1, o1, n1, c1, p1, k1, d1, rfl, f1_0, hb4⟩
  clear pae0 pae1 pae2 pae3 pbe0 pbe1 pbe2 pbe3
  have hB_4 := hB_3.trans (hb4.mono hB_3.size)
  have fa_4 := fa_3.below hb4
  have fb_4 := fb_3.below hb4
  have pa_3 := pa_2.below hb4
  have pb_2 := pb_1.below hb4
  have pr_1 := pr_0.below hb4
  clear hb4 hB_3 fa_3 fb_3 pa_2 pb_1 pr_0
  have hl1pa := pa_3.lt
  have hl1pb := pb_2.lt
  have hl1pr := pr_1.lt
  have hl1B := hB_4.size
  obtain ⟨w5, hw5, pq_0, hb5, hs5⟩ := new_box w4 (w4.heap.size) rfl [.bool m1, .slice o1 n1 c1, .slice p1 k1 d1] 31
  have hb5' : Below w4.heap.size w4 w5 := hb5.mono (by omega)
  clear hb5
  have hB_5 := hB_4.trans (hb5'.mono hB_4.size)
  have fa_5 := fa_4.below hb5'
  have fb_5 := fb_4.below hb5'
  have pa_4 := pa_3.below hb5'
  have pb_3 := pb_2.below hb5'
  have pr_2 := pr_1.below hb5'
  have f1_1 := f1_0.below hb5'
  clear hb5' hB_4 fa_4 fb_4 pa_3 pb_2 pr_1 f1_0
  go_wp2
  try rw [hw5]
  have hB_6 := hB_5.drew'
  have fa_6 := fa_5.drew
  have fb_6 := fb_5.drew
  have pa_5 := pa_4.drew
  have pb_4 := pb_3.drew
  have pr_3 := pr_2.drew
  have f1_2 := f1_1.drew
  have pq_1 := pq_0.drew
  clear hB_5 fa_5 fb_5 pa_4 pb_3 pr_2 f1_1 pq_0
  go_region_held3 (fun w' => w'.cell? ⟨w4.heap.size, 0, none⟩ = some (.bool m1) ∧ w'.cell? ⟨w4.heap.size, 1, none⟩ = some (.slice o1 n1 c1) ∧ w'.cell? ⟨w4.heap.size, 2, none⟩ = some (.slice p1 k1 d1))
    (first | with_reducible exact ⟨pq_1.c0, pq_1.c1, pq_1.c2⟩ | with_reducible exact ⟨pq_2.c0, pq_2.c1, pq_2.c2⟩ | with_reducible exact ⟨pq_3.c0, pq_3.c1, pq_3.c2⟩ | with_reducible exact ⟨pq_4.c0, pq_4.c1, pq_4.c2⟩ | fail)
    (first
      | (go_at_call 21; (with_reducible refine (fOf_any p HP1.out HP2.out _).mono ?_); rintro e w6 ⟨m2, o2, n2, c2, p2, k2, d2, rfl, f2_0, hb6⟩; have hB_7 := hB_6.trans (hb6.mono hB_6.size); have fa_7 := fa_6.below hb6; have fb_7 := fb_6.below hb6; have pa_6 := pa_5.below hb6; have pb_5 := pb_4.below hb6; have pr_4 := pr_3.below hb6; have f1_3 := f1_2.below hb6; have pq_2 := pq_1.below hb6; clear hb6 hB_6 fa_6 fb_6 pa_5 pb_4 pr_3 f1_2 pq_1)
      | (go_at_call 27; (with_reducible refine (qAdd _ _ 1 (max La Lb) _ _ _ (by omega) (by have := HA.out; have := HB.out; omega) f2_0.q f1_3.q).mono ?_); rintro e w7 ⟨m3, o3, n3, c3, p3, k3, d3, rfl, f3_0, hb7⟩; have hB_8 := hB_7.trans (hb7.mono hB_7.size); have fa_8 := fa_7.below hb7; have fb_8 := fb_7.below hb7; have pa_7 := pa_6.below hb7; have pb_6 := pb_5.below hb7; have pr_5 := pr_4.below hb7; have f1_4 := f1_3.below hb7; have pq_3 := pq_2.below hb7; have f2_1 := f2_0.below hb7; clear hb7 hB_7 fa_7 fb_7 pa_6 pb_5 pr_4 f1_3 pq_2 f2_0; obtain ⟨sf1a, sf1b, sf1c, sf1d, sf1e, sf1f⟩ := pr_5.open3; obtain ⟨sg1a, sg1b, sg1c, sg1d⟩ := Box.put3 pr_5 (.bool m3) (.slice o3 n3 c3); have hB_9 := below_setAll hB_8 (g := w.heap.size + 1 + 1) (by omega) [.bool m3, .slice o3 n3 c3, .slice p3 k3 d3]; have fa_9 := fa_8.setAll pr_5 (noWord3 _ _ _ _ _ _ _) [.bool m3, .slice o3 n3 c3, .slice p3 k3 d3] rfl; have fb_9 := fb_8.setAll pr_5 (noWord3 _ _ _ _ _ _ _) [.bool m3, .slice o3 n3 c3, .slice p3 k3 d3] rfl; have pa_8 := pa_7.farAll (g' := w.heap.size + 1 + 1) (by omega) [.bool m3, .slice o3 n3 c3, .slice p3 k3 d3]; have pb_7 := pb_6.farAll (g' := w.heap.size + 1 + 1) (by omega) [.bool m3, .slice o3 n3 c3, .slice p3 k3 d3]; have f1_5 := f1_4.setAll pr_5 (noWord3 _ _ _ _ _ _ _) [.bool m3, .slice o3 n3 c3, .slice p3 k3 d3] rfl; have pq_4 := pq_3.farAll (g' := w.heap.size + 1 + 1) (by omega) [.bool m3, .slice o3 n3 c3, .slice p3 k3 d3]; have f2_2 := f2_1.setAll pr_5 (noWord3 _ _ _ _ _ _ _) [.bool m3, .slice o3 n3 c3, .slice p3 k3 d3] rfl; have f3_1 := f3_0.setAll pr_5 (noWord3 _ _ _ _ _ _ _) [.bool m3, .slice o3 n3 c3, .slice p3 k3 d3] rfl; have pr_6 := pr_5.setAll [.bool m3, .slice o3 n3 c3, .slice p3 k3 d3] rfl; simp only [setAll, Nat.zero_add, Nat.reduceAdd] at hB_9 fa_9 fb_9 pa_8 pb_7 pr_6 f1_5 pq_4 f2_2 f3_1))
  clear hB_8 fa_8 fb_8 pa_7 pb_6 f1_4 pq_3 f2_1 f3_0 pr_5
  clear sf1a sf1b sf1c sf1d sf1e sf1f sg1a sg1b sg1c sg1d
  generalize (World.setCell (World.setCell (World.setCell w7 ⟨w.heap.size + 1 + 1, 0, none⟩ (.bool m3)) ⟨w.heap.size + 1 + 1, 1, none⟩ (.slice o3 n3 c3)) ⟨w.heap.size + 1 + 1, 2, none⟩ (.slice p3 k3 d3)) = w8 at *
  go_wp2
  obtain ⟨pre0, pre1, pre2, pre3, pre4, pre5⟩ := pr_6.open3
  exact bodyPost_ret (v := .agg #[.bool m3, .slice o3 n3 c3, .slice p3 k3 d3]) (by simp [results, Try.results44, go_sem, pre0, pre1, pre2]) rfl ⟨_, _, _, _, _, _, _, rfl, f3_1, hB_9⟩
end Go.Proofs.Ytkcfaddilknelaa
/- The calls of spot: Centre. -/
namespace Go.Proofs.Ytkcfaddilknelaa
open Go.RowKit Go.MagM
set_option maxHeartbeats 4000000 in
theorem sCentre_n (a0 a1 b0 b1 v0 v1 : Int) (ha0 : InP a0) (ha1 : InP a1) (hb0 : InP b0) (hb1 : InP b1) (hv0 : InP v0) (hv1 : InP v1) (hs : (crs a0 a1 b0 b1 v0 v1).sign = 0) (w : World) :
    Calls Try.prog 11 #[.agg #[.int .i64 a0, .int .i64 a1], .agg #[.int .i64 b0, .int .i64 b1], .agg #[.int .i64 v0, .int .i64 v1]] w fun e w' => e = .returned (.tuple #[.agg #[.bool false, .slice none 0 0, .slice none 0 0, .bool false, .slice none 0 0, .slice none 0 0], .bool false]) ∧ Below w.heap.size w w' := by
  have hB_0 := Below.refl w.heap.size w
  have HA0 := Lib.hid ha0; have HA1 := Lib.hid ha1; have HB0 := Lib.hid hb0; have HB1 := Lib.hid hb1; have HV0 := Lib.hid hv0; have HV1 := Lib.hid hv1; have HS := Lib.hid hs
  clear ha0 ha1 hb0 hb1 hv0 hv1 hs
  obtain ⟨w1, hw1, pa_0, hb1, hs1⟩ := new_box w (w.heap.size) rfl [.int .i64 a0, .int .i64 a1] 23
  have hb1' : Below w.heap.size w w1 := hb1.mono (by omega)
  clear hb1
  have hB_1 := hB_0.trans (hb1'.mono hB_0.size)
  clear hb1' hB_0
  obtain ⟨w2, hw2, pb_0, hb2, hs2⟩ := new_box w1 (w.heap.size + 1) hs1 [.int .i64 b0, .int .i64 b1] 23
  have hb2' : Below w1.heap.size w1 w2 := hb2.mono (by omega)
  clear hb2
  have hB_2 := hB_1.trans (hb2'.mono hB_1.size)
  have pa_1 := pa_0.below hb2'
  clear hb2' hB_1 pa_0
  obtain ⟨w3, hw3, pv_0, hb3, hs3⟩ := new_box w2 (w.heap.size + 1 + 1) hs2 [.int .i64 v0, .int .i64 v1] 23
  have hb3' : Below w2.heap.size w2 w3 := hb3.mono (by omega)
  clear hb3
  have hB_3 := hB_2.trans (hb3'.mono hB_2.size)
  have pa_2 := pa_1.below hb3'
  have pb_1 := pb_0.below hb3'
  clear hb3' hB_2 pa_1 pb_0
  obtain ⟨w4, hw4, pr_0, hb4, hs4⟩ := new_box w3 (w.heap.size + 1 + 1 + 1) hs3 [.bool false, .slice none 0 0, .slice none 0 0, .bool false, .slice none 0 0, .slice none 0 0] 33
  have hb4' : Below w3.heap.size w3 w4 := hb4.mono (by omega)
  clear hb4
  have hB_4 := hB_3.trans (hb4'.mono hB_3.size)
  have pa_3 := pa_2.below hb4'
  have pb_2 := pb_1.below hb4'
  have pv_1 := pv_0.below hb4'
  clear hb4' hB_3 pa_2 pb_1 pv_0
  go_enter Try.func11, Try.ntmps11
  obtain ⟨pae0, pae1, pae2, pae3⟩ := pa_3.open2
  obtain ⟨pbe0, pbe1, pbe2, pbe3⟩ := pb_2.open2
  obtain ⟨pve0, pve1, pve2, pve3⟩ := pv_1.open2
  go_wp2_with fail
  refine (Area2_any a0 a1 b0 b1 v0 v1 HA0.out HA1.out HB0.out HB1.out HV0.out HV1.out _).mono ?_
  rintro e w5 ⟨m1, o1, n1, c1, rfl, f1_0, hb5⟩
  clear pae0 pae1 pae2 pae3 pbe0 pbe1 pbe2 pbe3 pve0 pve1 pve2 pve3
  have hB_5 := hB_4.trans (hb5.mono hB_4.size)
  have pa_4 := pa_3.below hb5
  have pb_3 := pb_2.below hb5
  have pv_2 := pv_1.below hb5
  have pr_1 := pr_0.below hb5
  clear hb5 hB_4 pa_3 pb_2 pv_1 pr_0
  have hl1pa := pa_4.lt
  have hl1pb := pb_3.lt
  have hl1pv := pv_2.lt
  have hl1pr := pr_1.lt
  have hl1B := hB_5.size
  obtain ⟨w6, hw6, pn_0, hb6, hs6⟩ := new_box w5 (w5.heap.size) rfl [.bool m1, .slice o1 n1 c1] 29
  have hb6' : Below w5.heap.size w5 w6 := hb6.mono (by omega)
  clear hb6
  have hB_6 := hB_5.trans (hb6'.mono hB_5.size)
  have pa_5 := pa_4.below hb6'
  have pb_4 := pb_3.below hb6'
  have pv_3 := pv_2.below hb6'
  have pr_2 := pr_1.below hb6'
  have f1_1 := f1_0.below hb6'
  clear hb6' hB_5 pa_4 pb_3 pv_2 pr_1 f1_0
  obtain ⟨pne0, pne1, pne2, pne3⟩ := pn_0.open2
  go_wp2_with fail
  refine (Sign_named _ 2 _ 0 _ (by omega) f1_1.num HS.out).mono ?_
  rintro e w7 ⟨rfl, hb7⟩
  clear pne0 pne1 pne2 pne3
  have hB_7 := hB_6.trans (hb7.mono hB_6.size)
  have pa_6 := pa_5.below hb7
  have pb_5 := pb_4.below hb7
  have pv_4 := pv_3.below hb7
  have pr_3 := pr_2.below hb7
  have f1_2 := f1_1.below hb7
  have pn_1 := pn_0.below hb7
  clear hb7 hB_6 pa_5 pb_4 pv_3 pr_2 f1_1 pn_0
  obtain ⟨pae0, pae1, pae2, pae3⟩ := pa_6.open2
  obtain ⟨pbe0, pbe1, pbe2, pbe3⟩ := pb_5.open2
  obtain ⟨pve0, pve1, pve2, pve3⟩ := pv_4.open2
  obtain ⟨pne0, pne1, pne2, pne3⟩ := pn_1.open2
  obtain ⟨sf1a, sf1b, sf1c, sf1d, sf1e, sf1f, sf1g, sf1h, sf1i, sf1j, sf1k, sf1l⟩ := pr_3.open6
  obtain ⟨sg1a, sg1b, sg1c, sg1d, sg1e, sg1f, sg1g, sg1h, sg1i, sg1j⟩ := Box.put6 pr_3 (.bool false) (.slice none 0 0) (.slice none 0 0) (.bool false) (.slice none 0 0)
  go_wp2
  clear pae0 pae1 pae2 pae3 pbe0 pbe1 pbe2 pbe3 pve0 pve1 pve2 pve3 pne0 pne1 pne2 pne3 sf1a sf1b sf1c sf1d sf1e sf1f sf1g sf1h sf1i sf1j sf1k sf1l sg1a sg1b sg1c sg1d sg1e sg1f sg1g sg1h sg1i sg1j
  have hB_8 := below_setAll hB_7 (g := w.heap.size + 1 + 1 + 1) (by omega) [.bool false, .slice none 0 0, .slice none 0 0, .bool false, .slice none 0 0, .slice none 0 0]
  have pa_7 := pa_6.farAll (g' := w.heap.size + 1 + 1 + 1) (by omega) [.bool false, .slice none 0 0, .slice none 0 0, .bool false, .slice none 0 0, .slice none 0 0]
  have pb_6 := pb_5.farAll (g' := w.heap.size + 1 + 1 + 1) (by omega) [.bool false, .slice none 0 0, .slice none 0 0, .bool false, .slice none 0 0, .slice none 0 0]
  have pv_5 := pv_4.farAll (g' := w.heap.size + 1 + 1 + 1) (by omega) [.bool false, .slice none 0 0, .slice none 0 0, .bool false, .slice none 0 0, .slice none 0 0]
  have f1_3 := f1_2.setAll pr_3 (noWord6 _ _ _ _ _ _ _ _ _ _ _ _ _ _) [.bool false, .slice none 0 0, .slice none 0 0, .bool false, .slice none 0 0, .slice none 0 0] rfl
  have pn_2 := pn_1.farAll (g' := w.heap.size + 1 + 1 + 1) (by omega) [.bool false, .slice none 0 0, .slice none 0 0, .bool false, .slice none 0 0, .slice none 0 0]
  have pr_4 := pr_3.setAll [.bool false, .slice none 0 0, .slice none 0 0, .bool false, .slice none 0 0, .slice none 0 0] rfl
  simp only [setAll, Nat.zero_add, Nat.reduceAdd] at hB_8 pa_7 pb_6 pv_5 pr_4 f1_3 pn_2
  clear hB_7 pa_6 pb_5 pv_4 f1_2 pn_1 pr_3
  generalize (World.setCell (World.setCell (World.setCell (World.setCell (World.setCell (World.setCell w7 ⟨w.heap.size + 1 + 1 + 1, 0, none⟩ (.bool false)) ⟨w.heap.size + 1 + 1 + 1, 1, none⟩ (.slice none 0 0)) ⟨w.heap.size + 1 + 1 + 1, 2, none⟩ (.slice none 0 0)) ⟨w.heap.size + 1 + 1 + 1, 3, none⟩ (.bool false)) ⟨w.heap.size + 1 + 1 + 1, 4, none⟩ (.slice none 0 0)) ⟨w.heap.size + 1 + 1 + 1, 5, none⟩ (.slice none 0 0)) = w8 at *
  go_wp2
  obtain ⟨pre0, pre1, pre2, pre3, pre4, pre5, pre6, pre7, pre8, pre9, pre10, pre11⟩ := pr_4.open6
  exact bodyPost_ret (v := .tuple #[.agg #[.bool false, .slice none 0 0, .slice none 0 0, .bool false, .slice none 0 0, .slice none 0 0], .bool false]) (by simp [results, Try.results11, go_sem, pre0, pre1, pre2, pre3, pre4, pre5]) rfl ⟨rfl, hB_8⟩
set_option maxRecDepth 100000 in
set_option maxHeartbeats 16000000 in
theorem sCentre_w (a0 a1 b0 b1 v0 v1 : Int) (ha0 : InP a0) (ha1 : InP a1) (hb0 : InP b0) (hb1 : InP b1) (hv0 : InP v0) (hv1 : InP v1) (s : Int) (hs : (crs a0 a1 b0 b1 v0 v1).sign = s) (HE0 : (s == 0) = false) (he : crs a0 a1 b0 b1 v0 v1 + crs a0 a1 b0 b1 v0 v1 ≠ 0) (hw : IntKind.i64.wrap (v1 - a1) = v1 - a1 ∧ IntKind.i64.wrap (b1 - a1) = b1 - a1 ∧ IntKind.i64.wrap (b0 - a0) = b0 - a0 ∧ IntKind.i64.wrap (v0 - a0) = v0 - a0) (w : World) :
    Calls Try.prog 11 #[.agg #[.int .i64 a0, .int .i64 a1], .agg #[.int .i64 b0, .int .i64 b1], .agg #[.int .i64 v0, .int .i64 v1]] w fun e w' => AnsSt w w' e 7 (cx a0 a1 b0 b1 v0 v1) (cy a0 a1 b0 b1 v0 v1) := by
  have hB_0 := Below.refl w.heap.size w
  have HA0 := Lib.hid ha0; have HA1 := Lib.hid ha1; have HB0 := Lib.hid hb0; have HB1 := Lib.hid hb1; have HV0 := Lib.hid hv0; have HV1 := Lib.hid hv1; have HS := Lib.hid hs
  clear ha0 ha1 hb0 hb1 hv0 hv1 hs
  have HE := Lib.hid he; have HW := Lib.hid hw; clear he hw
  have e0 := HE0; clear HE0
  obtain ⟨e1, e2, e3, e4⟩ := HW.out
  obtain ⟨w1, hw1, pa_0, hb1, hs1⟩ := new_box w (w.heap.size) rfl [.int .i64 a0, .int .i64 a1] 23
  have hb1' : Below w.heap.size w w1 := hb1.mono (by omega)
  clear hb1
  have hB_1 := hB_0.trans (hb1'.mono hB_0.size)
  clear hb1' hB_0
  obtain ⟨w2, hw2, pb_0, hb2, hs2⟩ := new_box w1 (w.heap.size + 1) hs1 [.int .i64 b0, .int .i64 b1] 23
  have hb2' : Below w1.heap.size w1 w2 := hb2.mono (by omega)
  clear hb2
  have hB_2 := hB_1.trans (hb2'.mono hB_1.size)
  have pa_1 := pa_0.below hb2'
  clear hb2' hB_1 pa_0
  obtain ⟨w3, hw3, pv_0, hb3, hs3⟩ := new_box w2 (w.heap.size + 1 + 1) hs2 [.int .i64 v0, .int .i64 v1] 23
  have hb3' : Below w2.heap.size w2 w3 := hb3.mono (by omega)
  clear hb3
  have hB_3 := hB_2.trans (hb3'.mono hB_2.size)
  have pa_2 := pa_1.below hb3'
  have pb_1 := pb_0.below hb3'
  clear hb3' hB_2 pa_1 pb_0
  obtain ⟨w4, hw4, pr_0, hb4, hs4⟩ := new_box w3 (w.heap.size + 1 + 1 + 1) hs3 [.bool false, .slice none 0 0, .slice none 0 0, .bool false, .slice none 0 0, .slice none 0 0] 33
  have hb4' : Below w3.heap.size w3 w4 := hb4.mono (by omega)
  clear hb4
  have hB_4 := hB_3.trans (hb4'.mono hB_3.size)
  have pa_3 := pa_2.below hb4'
  have pb_2 := pb_1.below hb4'
  have pv_1 := pv_0.below hb4'
  clear hb4' hB_3 pa_2 pb_1 pv_0
  go_enter Try.func11, Try.ntmps11
  obtain ⟨pae0, pae1, pae2, pae3⟩ := pa_3.open2
  obtain ⟨pbe0, pbe1, pbe2, pbe3⟩ := pb_2.open2
  obtain ⟨pve0, pve1, pve2, pve3⟩ := pv_1.open2
  go_wp2_with fail
  refine (Area2_any a0 a1 b0 b1 v0 v1 HA0.out HA1.out HB0.out HB1.out HV0.out HV1.out _).mono ?_
  rintro e w5 ⟨m1, o1, n1, c1, rfl, f1_0, hb5⟩
  clear pae0 pae1 pae2 pae3 pbe0 pbe1 pbe2 pbe3 pve0 pve1 pve2 pve3
  have hB_5 := hB_4.trans (hb5.mono hB_4.size)
  have pa_4 := pa_3.below hb5
  have pb_3 := pb_2.below hb5
  have pv_2 := pv_1.below hb5
  have pr_1 := pr_0.below hb5
  clear hb5 hB_4 pa_3 pb_2 pv_1 pr_0
  have hl1pa := pa_4.lt
  have hl1pb := pb_3.lt
  have hl1pv := pv_2.lt
  have hl1pr := pr_1.lt
  have hl1B := hB_5.size
  obtain ⟨w6, hw6, pn_0, hb6, hs6⟩ := new_box w5 (w5.heap.size) rfl [.bool m1, .slice o1 n1 c1] 29
  have hb6' : Below w5.heap.size w5 w6 := hb6.mono (by omega)
  clear hb6
  have hB_6 := hB_5.trans (hb6'.mono hB_5.size)
  have pa_5 := pa_4.below hb6'
  have pb_4 := pb_3.below hb6'
  have pv_3 := pv_2.below hb6'
  have pr_2 := pr_1.below hb6'
  have f1_1 := f1_0.below hb6'
  clear hb6' hB_5 pa_4 pb_3 pv_2 pr_1 f1_0
  obtain ⟨pne0, pne1, pne2, pne3⟩ := pn_0.open2
  go_wp2_with fail
  refine (Sign_named _ 2 _ s _ (by omega) f1_1.num HS.out).mono ?_
  rintro e w7 ⟨rfl, hb7⟩
  clear pne0 pne1 pne2 pne3
  have hB_7 := hB_6.trans (hb7.mono hB_6.size)
  have pa_6 := pa_5.below hb7
  have pb_5 := pb_4.below hb7
  have pv_4 := pv_3.below hb7
  have pr_3 := pr_2.below hb7
  have f1_2 := f1_1.below hb7
  have pn_1 := pn_0.below hb7
  clear hb7 hB_6 pa_5 pb_4 pv_3 pr_2 f1_1 pn_0
  obtain ⟨pae0, pae1, pae2, pae3⟩ := pa_6.open2
  obtain ⟨pbe0, pbe1, pbe2, pbe3⟩ := pb_5.open2
  obtain ⟨pve0, pve1, pve2, pve3⟩ := pv_4.open2
  obtain ⟨pne0, pne1, pne2, pne3⟩ := pn_1.open2
  go_wp2
  clear pae0 pae1 pae2 pae3 pbe0 pbe1 pbe2 pbe3 pve0 pve1 pve2 pve3 pne0 pne1 pne2 pne3
  have hWi_0 := Below.refl w7.heap.size w7
  have hsi : w.heap.size ≤ w7.heap.size := hB_7.size
  have hlipa := pa_6.lt
  have hlipb := pb_5.lt
  have hlipv := pv_4.lt
  have hlipr := pr_3.lt
  have hlipn := pn_1.lt
  have hB_8 := hB_7.drew'
  have pa_7 := pa_6.drew
  have pb_6 := pb_5.drew
  have pv_5 := pv_4.drew
  have pr_4 := pr_3.drew
  have f1_3 := f1_2.drew
  have pn_2 := pn_1.drew
  have hWi_1 := hWi_0.drew'
  clear hB_7 pa_6 pb_5 pv_4 pr_3 f1_2 pn_1 hWi_0
  obtain ⟨FFi, hFFi⟩ : ∃ F : World → Prop, ∀ w', F w' ↔ (Below w.heap.size w w' ∧ Box w' (w.heap.size) [.int .i64 a0, .int .i64 a1] ∧ Box w' (w.heap.size + 1) [.int .i64 b0, .int .i64 b1] ∧ Box w' (w.heap.size + 1 + 1) [.int .i64 v0, .int .i64 v1] ∧ Box w' (w.heap.size + 1 + 1 + 1) [.bool false, .slice none 0 0, .slice none 0 0, .bool false, .slice none 0 0, .slice none 0 0] ∧ RNum w' (.agg #[.bool m1, .slice o1 n1 c1]) 2 (crs a0 a1 b0 b1 v0 v1) ∧ Box w' (w5.heap.size) [.bool m1, .slice o1 n1 c1] ∧ Below w7.heap.size w7 w') := ⟨_, fun _ => Iff.rfl⟩
  have cFi : ∀ {w' w'' : World}, FFi w' → Below w'.heap.size w' w'' → FFi w'' := by
    intro w' w'' h hb
    obtain ⟨y0, y1, y2, y3, y4, y5, y6, y7⟩ := (hFFi _).1 h
    exact (hFFi _).2 ⟨y0.trans (hb.mono y0.size), y1.below hb, y2.below hb, y3.below hb, y4.below hb, y5.below hb, y6.below hb, y7.trans (hb.mono y7.size)⟩
  have mFi : ∀ {w' : World}, FFi w' → w7.heap.size ≤ w'.heap.size := by
    intro w' h
    obtain ⟨y0, y1, y2, y3, y4, y5, y6, y7⟩ := (hFFi _).1 h
    exact y7.size
  have sFi : ∀ {w' : World}, FFi w' → (w'.cell? ⟨w.heap.size, 0, none⟩ = some (.int .i64 a0) ∧ w'.cell? ⟨w.heap.size, 1, none⟩ = some (.int .i64 a1) ∧ w'.cell? ⟨w.heap.size + 1, 0, none⟩ = some (.int .i64 b0) ∧ w'.cell? ⟨w.heap.size + 1, 1, none⟩ = some (.int .i64 b1) ∧ w'.cell? ⟨w.heap.size + 1 + 1, 0, none⟩ = some (.int .i64 v0) ∧ w'.cell? ⟨w.heap.size + 1 + 1, 1, none⟩ = some (.int .i64 v1)) := by
    intro w' h
    obtain ⟨y0, y1, y2, y3, y4, y5, y6, y7⟩ := (hFFi _).1 h
    exact ⟨y1.c0, y1.c1, y2.c0, y2.c1, y3.c0, y3.c1⟩
  have zF : FFi w7.drew := (hFFi _).2 ⟨hB_8, pa_7, pb_6, pv_5, pr_4, f1_3, pn_2, hWi_1⟩
  clear hB_8 pa_7 pb_6 pv_5 pr_4 f1_3 pn_2 hWi_1
  refine wp_region_noPanic ?_
  refine wp_region_held_drew (S := fun w' => w'.cell? ⟨w.heap.size, 0, none⟩ = some (.int .i64 a0) ∧ w'.cell? ⟨w.heap.size, 1, none⟩ = some (.int .i64 a1) ∧ w'.cell? ⟨w.heap.size + 1, 0, none⟩ = some (.int .i64 b0) ∧ w'.cell? ⟨w.heap.size + 1, 1, none⟩ = some (.int .i64 b1) ∧ w'.cell? ⟨w.heap.size + 1 + 1, 0, none⟩ = some (.int .i64 v0) ∧ w'.cell? ⟨w.heap.size + 1 + 1, 1, none⟩ = some (.int .i64 v1)) (by kernel_rfl) (sFi zF) (fun hHeld => ?_)
  refine reg_take 0 ?_ ?_ ?_ (by kernel_rfl) (by kernel_rfl) (by kernel_rfl) (fun _ _ _ h => h) ?_ ?_ (by assumption) ?_
  rotate_left 2
  · simp only [List.getElem?_toArray, List.getElem?_cons_zero]; exact rfl
  · rfl
  · intro w hSw; (try dsimp only at hSw); go_simp; try with_reducible rfl
  try simp only [Act.put]
  try simp only [List.setIfInBounds_toArray, List.set_cons_zero, List.set_cons_succ]
  refine reg_take 1 ?_ ?_ ?_ (by kernel_rfl) (by kernel_rfl) (by kernel_rfl) (fun _ _ _ h => h) ?_ ?_ (by assumption) ?_
  rotate_left 2
  · simp only [List.getElem?_toArray, List.getElem?_cons_succ, List.getElem?_cons_zero]; exact rfl
  · rfl
  · intro w hSw; (try dsimp only at hSw); go_simp; try with_reducible rfl
  try simp only [Act.put]
  try simp only [List.setIfInBounds_toArray, List.set_cons_zero, List.set_cons_succ]
  refine reg_take 3 ?_ ?_ ?_ (by kernel_rfl) (by kernel_rfl) (by kernel_rfl) (fun _ _ _ h => h) ?_ ?_ (by assumption) ?_
  rotate_left 2
  · simp only [List.getElem?_toArray, List.getElem?_cons_succ, List.getElem?_cons_zero]; exact rfl
  · rfl
  · intro w hSw; (try dsimp only at hSw); go_simp; try with_reducible rfl
  try simp only [Act.put]
  try simp only [List.setIfInBounds_toArray, List.set_cons_zero, List.set_cons_succ]
  refine reg_take 4 ?_ ?_ ?_ (by kernel_rfl) (by kernel_rfl) (by kernel_rfl) (fun _ _ _ h => h) ?_ ?_ (by assumption) ?_
  rotate_left 2
  · simp only [List.getElem?_toArray, List.getElem?_cons_succ, List.getElem?_cons_zero]; exact rfl
  · rfl
  · intro w hSw; (try dsimp only at hSw); go_simp; try with_reducible rfl
  try simp only [Act.put]
  try simp only [List.setIfInBounds_toArray, List.set_cons_zero, List.set_cons_succ]
  refine reg_grab (fun WWi ai hWW hAA => ?_)
  rw [hWW]
  have HAi := Lib.hid hAA; clear hWW hAA hHeld
  obtain ⟨IVi, hIVi⟩ : ∃ IV : Array Bool → Act → World → Prop, ∀ l a w', IV l a w' ↔ ∃ (lb2 lb5 lb6 lb7 : Bool) (lv2 lv5 lv6 lv7 : Value) (m2 : Bool) (o2 : Option Addr) (n2 : Nat) (c2 : Nat) (m3 : Bool) (o3 : Option Addr) (n3 : Nat) (c3 : Nat) (gqb gqc : Nat), l = #[true, true, lb2, true, true, lb5, lb6, lb7, false, false] ∧ a = ((((ai.put (some 24) lv2).put (some 27) lv5).put (some 9) lv6).put (some 10) lv7) ∧ FFi w' ∧ (lb2 = true → lv2 = .agg #[.bool m2, .slice o2 n2 c2] ∧ RNum w' (.agg #[.bool m2, .slice o2 n2 c2]) (2) (sqd a0 a1 b0 b1)) ∧ (lb5 = true → lv5 = .agg #[.bool m3, .slice o3 n3 c3] ∧ RNum w' (.agg #[.bool m3, .slice o3 n3 c3]) (2) (sqd a0 a1 v0 v1)) ∧ (lb6 = true → lv6 = .pointer (some ⟨gqb, 0, none⟩) ∧ Box w' gqb [.bool false, .slice none 0 0] ∧ w7.heap.size ≤ gqb) ∧ (lb7 = true → lv7 = .pointer (some ⟨gqc, 0, none⟩) ∧ Box w' gqc [.bool false, .slice none 0 0] ∧ w7.heap.size ≤ gqc) ∧ (lb5 = true → lb2 = true) ∧ (lb6 = true → lb7 = true → gqb ≠ gqc) := ⟨_, fun _ _ _ => Iff.rfl⟩
  refine wpAnyH_until IVi ?_ _ _ _ _ ((hIVi _ _ _).2 ⟨false, false, false, false, (ai.tmps.getD 24 undef), (ai.tmps.getD 27 undef), (ai.tmps.getD 9 undef), (ai.tmps.getD 10 undef), false, none, 0, 0, false, none, 0, 0, 0, 0, rfl, (by simp only [put_same]), zF, (fun h => by cases h), (fun h => by cases h), (fun h => by cases h), (fun h => by cases h), (fun h => by cases h), (fun h => by cases h)⟩) (by kernel_rfl)
  clear zF
  intro ll aa w8 hI
  obtain ⟨lb2, lb5, lb6, lb7, lv2, lv5, lv6, lv7, m2, o2, n2, c2, m3, o3, n3, c3, gqb, gqc, rfl, rfl, zF, F2, F5, F6, F7, dp5_2, nq6_7⟩ := (hIVi _ _ _).1 hI
  clear hI
  by_cases hL : lb2 = true ∧ lb5 = true ∧ lb6 = true ∧ lb7 = true
  · left
    obtain ⟨rfl, rfl, rfl, rfl⟩ := hL
    obtain ⟨rfl, f2_0⟩ := F2 rfl
    clear F2
    obtain ⟨rfl, f3_0⟩ := F5 rfl
    clear F5
    obtain ⟨rfl, qb_0, hgqb⟩ := F6 rfl
    clear F6
    obtain ⟨rfl, qc_0, hgqc⟩ := F7 rfl
    clear F7
    have hnqbqc := nq6_7 rfl rfl
    clear dp5_2 nq6_7
    show wpAnyH _ _ _ _ _ 2 _ _ _
    rw [HAi.out]
    try simp only [Act.put]
    try simp only [List.setIfInBounds_toArray, List.set_cons_zero, List.set_cons_succ]
    obtain ⟨hB_0, pa_0, pb_0, pv_0, pr_0, f1_0, pn_0, hWi_0⟩ := (hFFi _).1 zF
    clear zF
    clear hWi_0
    obtain ⟨sf1a, sf1b, sf1c, sf1d⟩ := qb_0.open2
    obtain ⟨sg1a, sg1b⟩ := Box.put2 qb_0 (.bool m2)
    refine reg_call 8 ?_ (by kernel_rfl) ?_ (fun K hK => ?_)
    rotate_left 1
    · simp only [List.getElem?_toArray, List.getElem?_cons_succ, List.getElem?_cons_zero]; exact rfl
    go_simp
    have hB_1 := below_setAll hB_0 (g := gqb) (by omega) [.bool m2, .slice o2 n2 c2]
    have pa_1 := pa_0.farAll (g' := gqb) (by omega) [.bool m2, .slice o2 n2 c2]
    have pb_1 := pb_0.farAll (g' := gqb) (by omega) [.bool m2, .slice o2 n2 c2]
    have pv_1 := pv_0.farAll (g' := gqb) (by omega) [.bool m2, .slice o2 n2 c2]
    have pr_1 := pr_0.farAll (g' := gqb) (by omega) [.bool m2, .slice o2 n2 c2]
    have f1_1 := f1_0.setAll qb_0 (noWord2 _ _ _ _) [.bool m2, .slice o2 n2 c2] rfl
    have pn_1 := pn_0.farAll (g' := gqb) (by omega) [.bool m2, .slice o2 n2 c2]
    have f2_1 := f2_0.setAll qb_0 (noWord2 _ _ _ _) [.bool m2, .slice o2 n2 c2] rfl
    have f3_1 := f3_0.setAll qb_0 (noWord2 _ _ _ _) [.bool m2, .slice o2 n2 c2] rfl
    have qc_1 := qc_0.farAll (g' := gqb) (by omega) [.bool m2, .slice o2 n2 c2]
    have qb_1 := qb_0.setAll [.bool m2, .slice o2 n2 c2] rfl
    simp only [setAll, Nat.zero_add] at hB_1 pa_1 pb_1 pv_1 pr_1 f1_1 pn_1 f2_1 f3_1 qb_1 qc_1
    clear sf1a sf1b sf1c sf1d sg1a sg1b
    clear hB_0 pa_0 pb_0 pv_0 pr_0 f1_0 pn_0 f2_0 f3_0 qc_0 qb_0
    refine hK.out _ _ ⟨pa_1.c0, pa_1.c1, pb_1.c0, pb_1.c1, pv_1.c0, pv_1.c1⟩ (fun hHeld => ?_)
    clear hK K
    try simp only [Act.put]
    try simp only [List.setIfInBounds_toArray, List.set_cons_zero, List.set_cons_succ]
    generalize (World.setCell (World.setCell w8 ⟨gqb, 0, none⟩ (.bool m2)) ⟨gqb, 1, none⟩ (.slice o2 n2 c2)) = w9 at *
    obtain ⟨sf2a, sf2b, sf2c, sf2d⟩ := qc_1.open2
    obtain ⟨sg2a, sg2b⟩ := Box.put2 qc_1 (.bool m3)
    refine reg_call 9 ?_ (by kernel_rfl) ?_ (fun K hK => ?_)
    rotate_left 1
    · simp only [List.getElem?_toArray, List.getElem?_cons_succ, List.getElem?_cons_zero]; exact rfl
    go_simp
    have hB_2 := below_setAll hB_1 (g := gqc) (by omega) [.bool m3, .slice o3 n3 c3]
    have pa_2 := pa_1.farAll (g' := gqc) (by omega) [.bool m3, .slice o3 n3 c3]
    have pb_2 := pb_1.farAll (g' := gqc) (by omega) [.bool m3, .slice o3 n3 c3]
    have pv_2 := pv_1.farAll (g' := gqc) (by omega) [.bool m3, .slice o3 n3 c3]
    have pr_2 := pr_1.farAll (g' := gqc) (by omega) [.bool m3, .slice o3 n3 c3]
    have f1_2 := f1_1.setAll qc_1 (noWord2 _ _ _ _) [.bool m3, .slice o3 n3 c3] rfl
    have pn_2 := pn_1.farAll (g' := gqc) (by omega) [.bool m3, .slice o3 n3 c3]
    have f2_2 := f2_1.setAll qc_1 (noWord2 _ _ _ _) [.bool m3, .slice o3 n3 c3] rfl
    have f3_2 := f3_1.setAll qc_1 (noWord2 _ _ _ _) [.bool m3, .slice o3 n3 c3] rfl
    have qb_2 := qb_1.farAll (g' := gqc) (by omega) [.bool m3, .slice o3 n3 c3]
    have qc_2 := qc_1.setAll [.bool m3, .slice o3 n3 c3] rfl
    simp only [setAll, Nat.zero_add] at hB_2 pa_2 pb_2 pv_2 pr_2 f1_2 pn_2 f2_2 f3_2 qb_2 qc_2
    clear sf2a sf2b sf2c sf2d sg2a sg2b
    clear hB_1 pa_1 pb_1 pv_1 pr_1 f1_1 pn_1 f2_1 f3_1 qb_1 qc_1
    refine hK.out _ _ ⟨pa_2.c0, pa_2.c1, pb_2.c0, pb_2.c1, pv_2.c0, pv_2.c1⟩ (fun hHeld => ?_)
    clear hK K
    try simp only [Act.put]
    try simp only [List.setIfInBounds_toArray, List.set_cons_zero, List.set_cons_succ]
    generalize (World.setCell (World.setCell w9 ⟨gqc, 0, none⟩ (.bool m3)) ⟨gqc, 1, none⟩ (.slice o3 n3 c3)) = w10 at *
    refine wpAnyH_done (by kernel_rfl) ?_ _
    refine NoPanic.normal ?_
    obtain ⟨pae0, pae1, pae2, pae3⟩ := pa_2.open2
    obtain ⟨pbe0, pbe1, pbe2, pbe3⟩ := pb_2.open2
    obtain ⟨pve0, pve1, pve2, pve3⟩ := pv_2.open2
    obtain ⟨qbe0, qbe1, qbe2, qbe3⟩ := qb_2.open2
    obtain ⟨qce0, qce1, qce2, qce3⟩ := qc_2.open2
    go_wp2_with fail
    refine (sless_any 2 2 _ _ (v1 - a1) (b1 - a1) _ (by omega) (by omega) (InP.lo HV1.out HA1.out) (InP.hi HV1.out HA1.out) (InP.lo HB1.out HA1.out) (InP.hi HB1.out HA1.out) f2_2.num f3_2.num).mono ?_
    rintro e w11 ⟨m4, o4, n4, c4, rfl, f4_0, hb11⟩
    clear pae0 pae1 pae2 pae3 pbe0 pbe1 pbe2 pbe3 pve0 pve1 pve2 pve3 qbe0 qbe1 qbe2 qbe3 qce0 qce1 qce2 qce3
    have hB_3 := hB_2.trans (hb11.mono hB_2.size)
    have pa_3 := pa_2.below hb11
    have pb_3 := pb_2.below hb11
    have pv_3 := pv_2.below hb11
    have pr_3 := pr_2.below hb11
    have f1_3 := f1_2.below hb11
    have pn_3 := pn_2.below hb11
    have f2_3 := f2_2.below hb11
    have f3_3 := f3_2.below hb11
    have qb_3 := qb_2.below hb11
    have qc_3 := qc_2.below hb11
    clear hb11 hB_2 pa_2 pb_2 pv_2 pr_2 f1_2 pn_2 f2_2 f3_2 qb_2 qc_2
    have hl2pa := pa_3.lt
    have hl2pb := pb_3.lt
    have hl2pv := pv_3.lt
    have hl2pr := pr_3.lt
    have hl2pn := pn_3.lt
    have hl2qb := qb_3.lt
    have hl2qc := qc_3.lt
    have hl2B := hB_3.size
    obtain ⟨w12, hw12, px_0, hb12, hs12⟩ := new_box w11 (w11.heap.size) rfl [.bool m4, .slice o4 n4 c4] 29
    have hb12' : Below w11.heap.size w11 w12 := hb12.mono (by omega)
    clear hb12
    have hB_4 := hB_3.trans (hb12'.mono hB_3.size)
    have pa_4 := pa_3.below hb12'
    have pb_4 := pb_3.below hb12'
    have pv_4 := pv_3.below hb12'
    have pr_4 := pr_3.below hb12'
    have f1_4 := f1_3.below hb12'
    have pn_4 := pn_3.below hb12'
    have f2_4 := f2_3.below hb12'
    have f3_4 := f3_3.below hb12'
    have qb_4 := qb_3.below hb12'
    have qc_4 := qc_3.below hb12'
    have f4_1 := f4_0.below hb12'
    clear hb12' hB_3 pa_3 pb_3 pv_3 pr_3 f1_3 pn_3 f2_3 f3_3 qb_3 qc_3 f4_0
    obtain ⟨pae0, pae1, pae2, pae3⟩ := pa_4.open2
    obtain ⟨pbe0, pbe1, pbe2, pbe3⟩ := pb_4.open2
    obtain ⟨pve0, pve1, pve2, pve3⟩ := pv_4.open2
    obtain ⟨qbe0, qbe1, qbe2, qbe3⟩ := qb_4.open2
    obtain ⟨qce0, qce1, qce2, qce3⟩ := qc_4.open2
    go_wp2_with fail
    refine (sless_any 2 2 _ _ (b0 - a0) (v0 - a0) _ (by omega) (by omega) (InP.lo HB0.out HA0.out) (InP.hi HB0.out HA0.out) (InP.lo HV0.out HA0.out) (InP.hi HV0.out HA0.out) f3_4.num f2_4.num).mono ?_
    rintro e w13 ⟨m5, o5, n5, c5, rfl, f5_0, hb13⟩
    clear pae0 pae1 pae2 pae3 pbe0 pbe1 pbe2 pbe3 pve0 pve1 pve2 pve3 qbe0 qbe1 qbe2 qbe3 qce0 qce1 qce2 qce3
    have hB_5 := hB_4.trans (hb13.mono hB_4.size)
    have pa_5 := pa_4.below hb13
    have pb_5 := pb_4.below hb13
    have pv_5 := pv_4.below hb13
    have pr_5 := pr_4.below hb13
    have f1_5 := f1_4.below hb13
    have pn_5 := pn_4.below hb13
    have f2_5 := f2_4.below hb13
    have f3_5 := f3_4.below hb13
    have qb_5 := qb_4.below hb13
    have qc_5 := qc_4.below hb13
    have f4_2 := f4_1.below hb13
    have px_1 := px_0.below hb13
    clear hb13 hB_4 pa_4 pb_4 pv_4 pr_4 f1_4 pn_4 f2_4 f3_4 qb_4 qc_4 f4_1 px_0
    have hl3pa := pa_5.lt
    have hl3pb := pb_5.lt
    have hl3pv := pv_5.lt
    have hl3pr := pr_5.lt
    have hl3pn := pn_5.lt
    have hl3qb := qb_5.lt
    have hl3qc := qc_5.lt
    have hl3px := px_1.lt
    have hl3B := hB_5.size
    obtain ⟨w14, hw14, py_0, hb14, hs14⟩ := new_box w13 (w13.heap.size) rfl [.bool m5, .slice o5 n5 c5] 29
    have hb14' : Below w13.heap.size w13 w14 := hb14.mono (by omega)
    clear hb14
    have hB_6 := hB_5.trans (hb14'.mono hB_5.size)
    have pa_6 := pa_5.below hb14'
    have pb_6 := pb_5.below hb14'
    have pv_6 := pv_5.below hb14'
    have pr_6 := pr_5.below hb14'
    have f1_6 := f1_5.below hb14'
    have pn_6 := pn_5.below hb14'
    have f2_6 := f2_5.below hb14'
    have f3_6 := f3_5.below hb14'
    have qb_6 := qb_5.below hb14'
    have qc_6 := qc_5.below hb14'
    have f4_3 := f4_2.below hb14'
    have px_2 := px_1.below hb14'
    have f5_1 := f5_0.below hb14'
    clear hb14' hB_5 pa_5 pb_5 pv_5 pr_5 f1_5 pn_5 f2_5 f3_5 qb_5 qc_5 f4_2 px_1 f5_0
    obtain ⟨pne0, pne1, pne2, pne3⟩ := pn_6.open2
    go_wp2_with fail
    refine (nAdd_any _ _ 2 2 _ _ _ (by omega) (by omega) f1_6.num f1_6.num).mono ?_
    rintro e w15 ⟨m6, o6, n6, c6, rfl, f6_0, hb15⟩
    clear pne0 pne1 pne2 pne3
    have hB_7 := hB_6.trans (hb15.mono hB_6.size)
    have pa_7 := pa_6.below hb15
    have pb_7 := pb_6.below hb15
    have pv_7 := pv_6.below hb15
    have pr_7 := pr_6.below hb15
    have f1_7 := f1_6.below hb15
    have pn_7 := pn_6.below hb15
    have f2_7 := f2_6.below hb15
    have f3_7 := f3_6.below hb15
    have qb_7 := qb_6.below hb15
    have qc_7 := qc_6.below hb15
    have f4_4 := f4_3.below hb15
    have px_3 := px_2.below hb15
    have f5_2 := f5_1.below hb15
    have py_1 := py_0.below hb15
    clear hb15 hB_6 pa_6 pb_6 pv_6 pr_6 f1_6 pn_6 f2_6 f3_6 qb_6 qc_6 f4_3 px_2 f5_1 py_0
    have hl4pa := pa_7.lt
    have hl4pb := pb_7.lt
    have hl4pv := pv_7.lt
    have hl4pr := pr_7.lt
    have hl4pn := pn_7.lt
    have hl4qb := qb_7.lt
    have hl4qc := qc_7.lt
    have hl4px := px_3.lt
    have hl4py := py_1.lt
    have hl4B := hB_7.size
    obtain ⟨w16, hw16, pd_0, hb16, hs16⟩ := new_box w15 (w15.heap.size) rfl [.bool m6, .slice o6 n6 c6] 29
    have hb16' : Below w15.heap.size w15 w16 := hb16.mono (by omega)
    clear hb16
    have hB_8 := hB_7.trans (hb16'.mono hB_7.size)
    have pa_8 := pa_7.below hb16'
    have pb_8 := pb_7.below hb16'
    have pv_8 := pv_7.below hb16'
    have pr_8 := pr_7.below hb16'
    have f1_8 := f1_7.below hb16'
    have pn_8 := pn_7.below hb16'
    have f2_8 := f2_7.below hb16'
    have f3_8 := f3_7.below hb16'
    have qb_8 := qb_7.below hb16'
    have qc_8 := qc_7.below hb16'
    have f4_5 := f4_4.below hb16'
    have px_4 := px_3.below hb16'
    have f5_3 := f5_2.below hb16'
    have py_2 := py_1.below hb16'
    have f6_1 := f6_0.below hb16'
    clear hb16' hB_7 pa_7 pb_7 pv_7 pr_7 f1_7 pn_7 f2_7 f3_7 qb_7 qc_7 f4_4 px_3 f5_2 py_1 f6_0
    go_wp2
    try rw [hw16]
    have hB_9 := hB_8.drew'
    have pa_9 := pa_8.drew
    have pb_9 := pb_8.drew
    have pv_9 := pv_8.drew
    have pr_9 := pr_8.drew
    have f1_9 := f1_8.drew
    have pn_9 := pn_8.drew
    have f2_9 := f2_8.drew
    have f3_9 := f3_8.drew
    have qb_9 := qb_8.drew
    have qc_9 := qc_8.drew
    have f4_6 := f4_5.drew
    have px_5 := px_4.drew
    have f5_4 := f5_3.drew
    have py_3 := py_2.drew
    have f6_2 := f6_1.drew
    have pd_1 := pd_0.drew
    clear hB_8 pa_8 pb_8 pv_8 pr_8 f1_8 pn_8 f2_8 f3_8 qb_8 qc_8 f4_5 px_4 f5_3 py_2 f6_1 pd_0
    go_region_held3 (fun w' => w'.cell? ⟨w.heap.size, 0, none⟩ = some (.int .i64 a0) ∧ w'.cell? ⟨w.heap.size, 1, none⟩ = some (.int .i64 a1) ∧ w'.cell? ⟨w11.heap.size, 0, none⟩ = some (.bool m4) ∧ w'.cell? ⟨w11.heap.size, 1, none⟩ = some (.slice o4 n4 c4) ∧ w'.cell? ⟨w13.heap.size, 0, none⟩ = some (.bool m5) ∧ w'.cell? ⟨w13.heap.size, 1, none⟩ = some (.slice o5 n5 c5) ∧ w'.cell? ⟨w15.heap.size, 0, none⟩ = some (.bool m6) ∧ w'.cell? ⟨w15.heap.size, 1, none⟩ = some (.slice o6 n6 c6))
      (first | with_reducible exact ⟨pa_9.c0, pa_9.c1, px_5.c0, px_5.c1, py_3.c0, py_3.c1, pd_1.c0, pd_1.c1⟩ | with_reducible exact ⟨pa_10.c0, pa_10.c1, px_6.c0, px_6.c1, py_4.c0, py_4.c1, pd_2.c0, pd_2.c1⟩ | with_reducible exact ⟨pa_11.c0, pa_11.c1, px_7.c0, px_7.c1, py_5.c0, py_5.c1, pd_3.c0, pd_3.c1⟩ | with_reducible exact ⟨pa_12.c0, pa_12.c1, px_8.c0, px_8.c1, py_6.c0, py_6.c1, pd_4.c0, pd_4.c1⟩ | fail)
      (first
        | (go_at_call 44; (with_reducible refine (sbeyond_any a0 4 3 _ _ _ (by omega) (by omega) (by have := HA0.out; unfold InP at this; omega) (by have := HA0.out; unfold InP at this; omega) HE.out f4_6.num f6_2.num).mono ?_); rintro e w17 ⟨m7x, o7x, n7x, c7x, p7x, k7x, d7x, rfl, f7x_0, hb17⟩; have hB_10 := hB_9.trans (hb17.mono hB_9.size); have pa_10 := pa_9.below hb17; have pb_10 := pb_9.below hb17; have pv_10 := pv_9.below hb17; have pr_10 := pr_9.below hb17; have f1_10 := f1_9.below hb17; have pn_10 := pn_9.below hb17; have f2_10 := f2_9.below hb17; have f3_10 := f3_9.below hb17; have qb_10 := qb_9.below hb17; have qc_10 := qc_9.below hb17; have f4_7 := f4_6.below hb17; have px_6 := px_5.below hb17; have f5_5 := f5_4.below hb17; have py_4 := py_3.below hb17; have f6_3 := f6_2.below hb17; have pd_2 := pd_1.below hb17; clear hb17 hB_9 pa_9 pb_9 pv_9 pr_9 f1_9 pn_9 f2_9 f3_9 qb_9 qc_9 f4_6 px_5 f5_4 py_3 f6_2 pd_1)
        | (go_at_call 44; (with_reducible refine (sbeyond_any a1 4 3 _ _ _ (by omega) (by omega) (by have := HA1.out; unfold InP at this; omega) (by have := HA1.out; unfold InP at this; omega) HE.out f5_5.num f6_3.num).mono ?_); rintro e w18 ⟨m7y, o7y, n7y, c7y, p7y, k7y, d7y, rfl, f7y_0, hb18⟩; have hB_11 := hB_10.trans (hb18.mono hB_10.size); have pa_11 := pa_10.below hb18; have pb_11 := pb_10.below hb18; have pv_11 := pv_10.below hb18; have pr_11 := pr_10.below hb18; have f1_11 := f1_10.below hb18; have pn_11 := pn_10.below hb18; have f2_11 := f2_10.below hb18; have f3_11 := f3_10.below hb18; have qb_11 := qb_10.below hb18; have qc_11 := qc_10.below hb18; have f4_8 := f4_7.below hb18; have px_7 := px_6.below hb18; have f5_6 := f5_5.below hb18; have py_5 := py_4.below hb18; have f6_4 := f6_3.below hb18; have pd_3 := pd_2.below hb18; have f7x_1 := f7x_0.below hb18; clear hb18 hB_10 pa_10 pb_10 pv_10 pr_10 f1_10 pn_10 f2_10 f3_10 qb_10 qc_10 f4_7 px_6 f5_5 py_4 f6_3 pd_2 f7x_0; obtain ⟨sf3a, sf3b, sf3c, sf3d, sf3e, sf3f, sf3g, sf3h, sf3i, sf3j, sf3k, sf3l⟩ := pr_11.open6; obtain ⟨sg3a, sg3b, sg3c, sg3d, sg3e, sg3f, sg3g, sg3h, sg3i, sg3j⟩ := Box.put6 pr_11 (.bool m7x) (.slice o7x n7x c7x) (.slice p7x k7x d7x) (.bool m7y) (.slice o7y n7y c7y); have hB_12 := below_setAll hB_11 (g := w.heap.size + 1 + 1 + 1) (by omega) [.bool m7x, .slice o7x n7x c7x, .slice p7x k7x d7x, .bool m7y, .slice o7y n7y c7y, .slice p7y k7y d7y]; have pa_12 := pa_11.farAll (g' := w.heap.size + 1 + 1 + 1) (by omega) [.bool m7x, .slice o7x n7x c7x, .slice p7x k7x d7x, .bool m7y, .slice o7y n7y c7y, .slice p7y k7y d7y]; have pb_12 := pb_11.farAll (g' := w.heap.size + 1 + 1 + 1) (by omega) [.bool m7x, .slice o7x n7x c7x, .slice p7x k7x d7x, .bool m7y, .slice o7y n7y c7y, .slice p7y k7y d7y]; have pv_12 := pv_11.farAll (g' := w.heap.size + 1 + 1 + 1) (by omega) [.bool m7x, .slice o7x n7x c7x, .slice p7x k7x d7x, .bool m7y, .slice o7y n7y c7y, .slice p7y k7y d7y]; have f1_12 := f1_11.setAll pr_11 (noWord6 _ _ _ _ _ _ _ _ _ _ _ _ _ _) [.bool m7x, .slice o7x n7x c7x, .slice p7x k7x d7x, .bool m7y, .slice o7y n7y c7y, .slice p7y k7y d7y] rfl; have pn_12 := pn_11.farAll (g' := w.heap.size + 1 + 1 + 1) (by omega) [.bool m7x, .slice o7x n7x c7x, .slice p7x k7x d7x, .bool m7y, .slice o7y n7y c7y, .slice p7y k7y d7y]; have f2_12 := f2_11.setAll pr_11 (noWord6 _ _ _ _ _ _ _ _ _ _ _ _ _ _) [.bool m7x, .slice o7x n7x c7x, .slice p7x k7x d7x, .bool m7y, .slice o7y n7y c7y, .slice p7y k7y d7y] rfl; have f3_12 := f3_11.setAll pr_11 (noWord6 _ _ _ _ _ _ _ _ _ _ _ _ _ _) [.bool m7x, .slice o7x n7x c7x, .slice p7x k7x d7x, .bool m7y, .slice o7y n7y c7y, .slice p7y k7y d7y] rfl; have qb_12 := qb_11.farAll (g' := w.heap.size + 1 + 1 + 1) (by omega) [.bool m7x, .slice o7x n7x c7x, .slice p7x k7x d7x, .bool m7y, .slice o7y n7y c7y, .slice p7y k7y d7y]; have qc_12 := qc_11.farAll (g' := w.heap.size + 1 + 1 + 1) (by omega) [.bool m7x, .slice o7x n7x c7x, .slice p7x k7x d7x, .bool m7y, .slice o7y n7y c7y, .slice p7y k7y d7y]; have f4_9 := f4_8.setAll pr_11 (noWord6 _ _ _ _ _ _ _ _ _ _ _ _ _ _) [.bool m7x, .slice o7x n7x c7x, .slice p7x k7x d7x, .bool m7y, .slice o7y n7y c7y, .slice p7y k7y d7y] rfl; have px_8 := px_7.farAll (g' := w.heap.size + 1 + 1 + 1) (by omega) [.bool m7x, .slice o7x n7x c7x, .slice p7x k7x d7x, .bool m7y, .slice o7y n7y c7y, .slice p7y k7y d7y]; have f5_7 := f5_6.setAll pr_11 (noWord6 _ _ _ _ _ _ _ _ _ _ _ _ _ _) [.bool m7x, .slice o7x n7x c7x, .slice p7x k7x d7x, .bool m7y, .slice o7y n7y c7y, .slice p7y k7y d7y] rfl; have py_6 := py_5.farAll (g' := w.heap.size + 1 + 1 + 1) (by omega) [.bool m7x, .slice o7x n7x c7x, .slice p7x k7x d7x, .bool m7y, .slice o7y n7y c7y, .slice p7y k7y d7y]; have f6_5 := f6_4.setAll pr_11 (noWord6 _ _ _ _ _ _ _ _ _ _ _ _ _ _) [.bool m7x, .slice o7x n7x c7x, .slice p7x k7x d7x, .bool m7y, .slice o7y n7y c7y, .slice p7y k7y d7y] rfl; have pd_4 := pd_3.farAll (g' := w.heap.size + 1 + 1 + 1) (by omega) [.bool m7x, .slice o7x n7x c7x, .slice p7x k7x d7x, .bool m7y, .slice o7y n7y c7y, .slice p7y k7y d7y]; have f7x_2 := f7x_1.setAll pr_11 (noWord6 _ _ _ _ _ _ _ _ _ _ _ _ _ _) [.bool m7x, .slice o7x n7x c7x, .slice p7x k7x d7x, .bool m7y, .slice o7y n7y c7y, .slice p7y k7y d7y] rfl; have f7y_1 := f7y_0.setAll pr_11 (noWord6 _ _ _ _ _ _ _ _ _ _ _ _ _ _) [.bool m7x, .slice o7x n7x c7x, .slice p7x k7x d7x, .bool m7y, .slice o7y n7y c7y, .slice p7y k7y d7y] rfl; have pr_12 := pr_11.setAll [.bool m7x, .slice o7x n7x c7x, .slice p7x k7x d7x, .bool m7y, .slice o7y n7y c7y, .slice p7y k7y d7y] rfl; simp only [setAll, Nat.zero_add, Nat.reduceAdd] at hB_12 pa_12 pb_12 pv_12 pr_12 f1_12 pn_12 f2_12 f3_12 qb_12 qc_12 f4_9 px_8 f5_7 py_6 f6_5 pd_4 f7x_2 f7y_1))
    clear hB_11 pa_11 pb_11 pv_11 f1_11 pn_11 f2_11 f3_11 qb_11 qc_11 f4_8 px_7 f5_6 py_5 f6_4 pd_3 f7x_1 f7y_0 pr_11
    clear sf3a sf3b sf3c sf3d sf3e sf3f sf3g sf3h sf3i sf3j sf3k sf3l sg3a sg3b sg3c sg3d sg3e sg3f sg3g sg3h sg3i sg3j
    generalize (World.setCell (World.setCell (World.setCell (World.setCell (World.setCell (World.setCell w18 ⟨w.heap.size + 1 + 1 + 1, 0, none⟩ (.bool m7x)) ⟨w.heap.size + 1 + 1 + 1, 1, none⟩ (.slice o7x n7x c7x)) ⟨w.heap.size + 1 + 1 + 1, 2, none⟩ (.slice p7x k7x d7x)) ⟨w.heap.size + 1 + 1 + 1, 3, none⟩ (.bool m7y)) ⟨w.heap.size + 1 + 1 + 1, 4, none⟩ (.slice o7y n7y c7y)) ⟨w.heap.size + 1 + 1 + 1, 5, none⟩ (.slice p7y k7y d7y)) = w19 at *
    go_wp2
    obtain ⟨pre0, pre1, pre2, pre3, pre4, pre5, pre6, pre7, pre8, pre9, pre10, pre11⟩ := pr_12.open6
    exact bodyPost_ret (v := .tuple #[.agg #[.bool m7x, .slice o7x n7x c7x, .slice p7x k7x d7x, .bool m7y, .slice o7y n7y c7y, .slice p7y k7y d7y], .bool true]) (by simp [results, Try.results11, go_sem, pre0, pre1, pre2, pre3, pre4, pre5]) rfl ⟨_, _, _, _, _, _, _, _, _, _, _, _, _, _, rfl, f7x_2, f7y_1, hB_12⟩
  · right
    refine ⟨?_, fun i hi => ?_⟩
    · clear zF F2 F5 F6 F7 nq6_7
      cases lb2
      · exact ready_of 2 _ rfl rfl (by kernel_rfl)
      cases lb5
      · exact ready_of 5 _ rfl rfl (by kernel_rfl)
      cases lb6
      · exact ready_of 6 _ rfl rfl (by kernel_rfl)
      cases lb7
      · exact ready_of 7 _ rfl rfl (by kernel_rfl)
      exact absurd ⟨rfl, rfl, rfl, rfl⟩ hL
    have hd : (lb2 = false ∧ i = 2) ∨ (lb5 = false ∧ lb2 = true ∧ i = 5) ∨ (lb6 = false ∧ i = 6) ∨ (lb7 = false ∧ i = 7) := by
      have hin := ready_lt hi
      obtain rfl | rfl | rfl | rfl | rfl | rfl | rfl | rfl | rfl | rfl : i = 0 ∨ i = 1 ∨ i = 2 ∨ i = 3 ∨ i = 4 ∨ i = 5 ∨ i = 6 ∨ i = 7 ∨ i = 8 ∨ i = 9 := by have hin' : i < 10 := hin; omega
      · exact absurd (ready_off hi) (fun h => Bool.noConfusion (show true = false from h))
      · exact absurd (ready_off hi) (fun h => Bool.noConfusion (show true = false from h))
      · exact .inl ⟨ready_off hi, rfl⟩
      · exact absurd (ready_off hi) (fun h => Bool.noConfusion (show true = false from h))
      · exact absurd (ready_off hi) (fun h => Bool.noConfusion (show true = false from h))
      · exact .inr (.inl ⟨ready_off hi, ready_dep (d := 2) hi (by kernel_rfl), rfl⟩)
      · exact .inr (.inr (.inl ⟨ready_off hi, rfl⟩))
      · exact .inr (.inr (.inr (⟨ready_off hi, rfl⟩)))
      · have k6 : lb6 = true := ready_dep (d := 6) hi (by kernel_rfl); have k2 : lb2 = true := ready_dep (d := 2) hi (by kernel_rfl); have k5 : lb5 = true := ready_dep (d := 5) hi (by kernel_rfl); have k7 : lb7 = true := ready_dep (d := 7) hi (by kernel_rfl)
        exact absurd ⟨k2, k5, k6, k7⟩ hL
      · exact absurd (ready_dep (d := 8) hi (by kernel_rfl)) (fun h => Bool.noConfusion (show false = true from h))
    clear hi hL
    rcases hd with ⟨rfl, rfl⟩ | ⟨rfl, rfl, rfl⟩ | ⟨rfl, rfl⟩ | ⟨rfl, rfl⟩
    · refine step_of 2 ?_ ?_ (fun K hK => ?_)
      rotate_left 1
      · simp only [List.getElem?_toArray, List.getElem?_cons_succ, List.getElem?_cons_zero]; exact rfl
      rw [HAi.out]
      try simp only [Act.put]
      try simp only [List.setIfInBounds_toArray, List.set_cons_zero, List.set_cons_succ]
      go_simp
      refine (Dist2_any a0 a1 b0 b1 HA0.out HA1.out HB0.out HB1.out _).mono ?_
      rintro e w20 ⟨m2, o2, n2, c2, rfl, f2_0, hb⟩
      go_wp2_with fail
      refine hK.out _ _ (sFi (cFi zF hb)) ?_
      exact (hIVi _ _ _).2 ⟨true, lb5, lb6, lb7, (.agg #[.bool m2, .slice o2 n2 c2]), lv5, lv6, lv7, m2, o2, n2, c2, m3, o3, n3, c3, gqb, gqc, rfl, (by simp only [HAi.out, Act.put, List.setIfInBounds_toArray, List.set_cons_zero, List.set_cons_succ]), (cFi zF hb), (fun _ => ⟨rfl, f2_0⟩), (fun h => absurd (dp5_2 h) (by decide)), (fun h => ⟨(F6 h).1, (F6 h).2.1.below hb, (F6 h).2.2⟩), (fun h => ⟨(F7 h).1, (F7 h).2.1.below hb, (F7 h).2.2⟩), (fun _ => rfl), nq6_7⟩
    · obtain ⟨rfl, f2_0⟩ := F2 rfl
      clear F2
      refine step_of 5 ?_ ?_ (fun K hK => ?_)
      rotate_left 1
      · simp only [List.getElem?_toArray, List.getElem?_cons_succ, List.getElem?_cons_zero]; exact rfl
      rw [HAi.out]
      try simp only [Act.put]
      try simp only [List.setIfInBounds_toArray, List.set_cons_zero, List.set_cons_succ]
      go_simp
      refine (Dist2_any a0 a1 v0 v1 HA0.out HA1.out HV0.out HV1.out _).mono ?_
      rintro e w21 ⟨m3, o3, n3, c3, rfl, f3_0, hb⟩
      go_wp2_with fail
      refine hK.out _ _ (sFi (cFi zF hb)) ?_
      exact (hIVi _ _ _).2 ⟨true, true, lb6, lb7, _, (.agg #[.bool m3, .slice o3 n3 c3]), lv6, lv7, m2, o2, n2, c2, m3, o3, n3, c3, gqb, gqc, rfl, (by simp only [HAi.out, Act.put, List.setIfInBounds_toArray, List.set_cons_zero, List.set_cons_succ]), (cFi zF hb), (fun _ => ⟨rfl, f2_0.below hb⟩), (fun _ => ⟨rfl, f3_0⟩), (fun h => ⟨(F6 h).1, (F6 h).2.1.below hb, (F6 h).2.2⟩), (fun h => ⟨(F7 h).1, (F7 h).2.1.below hb, (F7 h).2.2⟩), (fun _ => rfl), nq6_7⟩
    · refine step_of 6 ?_ ?_ (fun K hK => ?_)
      rotate_left 1
      · simp only [List.getElem?_toArray, List.getElem?_cons_succ, List.getElem?_cons_zero]; exact rfl
      rw [HAi.out]
      try simp only [Act.put]
      try simp only [List.setIfInBounds_toArray, List.set_cons_zero, List.set_cons_succ]
      go_simp
      have hgn := mFi zF
      have hq7 : lb7 = true → gqc < w8.heap.size := fun h => (F7 h).2.1.lt
      obtain ⟨wn, hwn, qb_0, hb, -⟩ := new_box w8 _ rfl [.bool false, .slice none 0 0] 29
      rw [hwn]
      refine hK.out _ _ (sFi (cFi zF hb)) ?_
      exact (hIVi _ _ _).2 ⟨lb2, lb5, true, lb7, lv2, lv5, (.pointer (some ⟨w8.heap.size, 0, none⟩)), lv7, m2, o2, n2, c2, m3, o3, n3, c3, w8.heap.size, gqc, rfl, (by simp only [HAi.out, Act.put, List.setIfInBounds_toArray, List.set_cons_zero, List.set_cons_succ]), (cFi zF hb), (fun h => ⟨(F2 h).1, (F2 h).2.below hb⟩), (fun h => ⟨(F5 h).1, (F5 h).2.below hb⟩), (fun _ => ⟨rfl, qb_0, hgn⟩), (fun h => ⟨(F7 h).1, (F7 h).2.1.below hb, (F7 h).2.2⟩), dp5_2, (fun _ h => by have := hq7 h; omega)⟩
    · refine step_of 7 ?_ ?_ (fun K hK => ?_)
      rotate_left 1
      · simp only [List.getElem?_toArray, List.getElem?_cons_succ, List.getElem?_cons_zero]; exact rfl
      rw [HAi.out]
      try simp only [Act.put]
      try simp only [List.setIfInBounds_toArray, List.set_cons_zero, List.set_cons_succ]
      go_simp
      have hgn := mFi zF
      have hq6 : lb6 = true → gqb < w8.heap.size := fun h => (F6 h).2.1.lt
      obtain ⟨wn, hwn, qc_0, hb, -⟩ := new_box w8 _ rfl [.bool false, .slice none 0 0] 29
      rw [hwn]
      refine hK.out _ _ (sFi (cFi zF hb)) ?_
      exact (hIVi _ _ _).2 ⟨lb2, lb5, lb6, true, lv2, lv5, lv6, (.pointer (some ⟨w8.heap.size, 0, none⟩)), m2, o2, n2, c2, m3, o3, n3, c3, gqb, w8.heap.size, rfl, (by simp only [HAi.out, Act.put, List.setIfInBounds_toArray, List.set_cons_zero, List.set_cons_succ]), (cFi zF hb), (fun h => ⟨(F2 h).1, (F2 h).2.below hb⟩), (fun h => ⟨(F5 h).1, (F5 h).2.below hb⟩), (fun h => ⟨(F6 h).1, (F6 h).2.1.below hb, (F6 h).2.2⟩), (fun _ => ⟨rfl, qc_0, hgn⟩), dp5_2, (fun h _ => by have := hq6 h; omega)⟩
theorem sCentre_s (a0 a1 b0 b1 v0 v1 : Int) (ha0 : InP a0) (ha1 : InP a1) (hb0 : InP b0) (hb1 : InP b1) (hv0 : InP v0) (hv1 : InP v1) (h : crs a0 a1 b0 b1 v0 v1 ≠ 0) (w : World) : Calls Try.prog 11 #[.agg #[.int .i64 a0, .int .i64 a1], .agg #[.int .i64 b0, .int .i64 b1], .agg #[.int .i64 v0, .int .i64 v1]] w fun e w' => AnsSt w w' e 7 (cx a0 a1 b0 b1 v0 v1) (cy a0 a1 b0 b1 v0 v1) :=
  sCentre_w a0 a1 b0 b1 v0 v1 ha0 ha1 hb0 hb1 hv0 hv1 _ rfl (beq_eq_false_iff_ne.2 (fun k => h (Int.sign_eq_zero_iff_zero.1 k))) (by omega) ⟨hv1.wrap ha1, hb1.wrap ha1, hb0.wrap ha0, hv0.wrap ha0⟩ w
end Go.Proofs.Ytkcfaddilknelaa
/- The statements' own fit. -/
namespace Go.Proofs.Ytkcfaddilknelaa
open Go.RowKit Go.MagM
theorem in0 : InP 0 := by unfold InP; omega
theorem in1 : InP 1 := by unfold InP; omega
theorem in2 : InP 2 := by unfold InP; omega
theorem cx_fit : cx 0 0 2 0 0 2 = ((1 : Int) : Rat) := by
  have h := cx_mul (a0 := 0) (a1 := 0) (b0 := 2) (b1 := 0) (v0 := 0) (v1 := 2) (by decide)
  apply mul_cancel (d := ((crs 0 0 2 0 0 2 + crs 0 0 2 0 0 2 : Int) : Rat)) (ic_ne (by decide))
  rw [show ((0 : Int) : Rat) = 0 from rfl] at h
  rw [← ic_mul, show (1 : Int) * (crs 0 0 2 0 0 2 + crs 0 0 2 0 0 2) = cxN 0 0 2 0 0 2 from by decide, ← h]
  grind
theorem cy_fit : cy 0 0 2 0 0 2 = ((1 : Int) : Rat) := by
  have h := cy_mul (a0 := 0) (a1 := 0) (b0 := 2) (b1 := 0) (v0 := 0) (v1 := 2) (by decide)
  apply mul_cancel (d := ((crs 0 0 2 0 0 2 + crs 0 0 2 0 0 2 : Int) : Rat)) (ic_ne (by decide))
  rw [show ((0 : Int) : Rat) = 0 from rfl] at h
  rw [← ic_mul, show (1 : Int) * (crs 0 0 2 0 0 2 + crs 0 0 2 0 0 2) = cyN 0 0 2 0 0 2 from by decide, ← h]
  grind
theorem dist_fit : (distQ ((1 : Int) : Rat) ((1 : Int) : Rat) ((0 : Int) : Rat) ((0 : Int) : Rat)).num.sign = 1 := by
  rw [dist_int, Rat.num_intCast]; decide
set_option maxHeartbeats 4000000 in
theorem sfit_any (w : World) :
    Calls Try.prog 9 #[] w fun e w' => e = .returned (.bool true) ∧ Below w.heap.size w w' := by
  have hB_0 := Below.refl w.heap.size w
  go_enter Try.func9, Try.ntmps9
  go_wp2_with fail
  refine (sCentre_s 0 0 2 0 0 2 in0 in0 in2 in0 in0 in2 (by decide) _).mono ?_
  rintro e w1 ⟨m1x, o1x, n1x, c1x, p1x, k1x, d1x, m1y, o1y, n1y, c1y, p1y, k1y, d1y, rfl, f1x_0, f1y_0, hb1⟩
  have hB_1 := hB_0.trans (hb1.mono hB_0.size)
  clear hb1 hB_0
  rw [cx_fit] at f1x_0
  rw [cy_fit] at f1y_0
  have hl1B := hB_1.size
  obtain ⟨w2, hw2, pc_0, hb2, hs2⟩ := new_box w1 (w1.heap.size) rfl [.bool m1x, .slice o1x n1x c1x, .slice p1x k1x d1x, .bool m1y, .slice o1y n1y c1y, .slice p1y k1y d1y] 33
  have hb2' : Below w1.heap.size w1 w2 := hb2.mono (by omega)
  clear hb2
  have hB_2 := hB_1.trans (hb2'.mono hB_1.size)
  have f1x_1 := f1x_0.below hb2'
  have f1y_1 := f1y_0.below hb2'
  clear hb2' hB_1 f1x_0 f1y_0
  go_wp2
  try rw [hw2]
  have hB_3 := hB_2.drew'
  have f1x_2 := f1x_1.drew
  have f1y_2 := f1y_1.drew
  have pc_1 := pc_0.drew
  clear hB_2 f1x_1 f1y_1 pc_0
  go_region_held3 (fun w' => w'.cell? ⟨w1.heap.size, 0, none⟩ = some (.bool m1x) ∧ w'.cell? ⟨w1.heap.size, 1, none⟩ = some (.slice o1x n1x c1x) ∧ w'.cell? ⟨w1.heap.size, 2, none⟩ = some (.slice p1x k1x d1x) ∧ w'.cell? ⟨w1.heap.size, 3, none⟩ = some (.bool m1y) ∧ w'.cell? ⟨w1.heap.size, 4, none⟩ = some (.slice o1y n1y c1y) ∧ w'.cell? ⟨w1.heap.size, 5, none⟩ = some (.slice p1y k1y d1y))
    (first | with_reducible exact ⟨pc_1.c0, pc_1.c1, pc_1.c2, pc_1.c3, pc_1.c4, pc_1.c5⟩ | with_reducible exact ⟨pc_2.c0, pc_2.c1, pc_2.c2, pc_2.c3, pc_2.c4, pc_2.c5⟩ | with_reducible exact ⟨pc_3.c0, pc_3.c1, pc_3.c2, pc_3.c3, pc_3.c4, pc_3.c5⟩ | with_reducible exact ⟨pc_4.c0, pc_4.c1, pc_4.c2, pc_4.c3, pc_4.c4, pc_4.c5⟩ | with_reducible exact ⟨pc_5.c0, pc_5.c1, pc_5.c2, pc_5.c3, pc_5.c4, pc_5.c5⟩ | with_reducible exact ⟨pc_6.c0, pc_6.c1, pc_6.c2, pc_6.c3, pc_6.c4, pc_6.c5⟩ | with_reducible exact ⟨pc_7.c0, pc_7.c1, pc_7.c2, pc_7.c3, pc_7.c4, pc_7.c5⟩ | with_reducible exact ⟨pc_8.c0, pc_8.c1, pc_8.c2, pc_8.c3, pc_8.c4, pc_8.c5⟩ | fail)
    (first
      | (go_at_call 15; (with_reducible refine (sOf_any 1 1 in1 in1 _).mono ?_); rintro e w3 ⟨m2x, o2x, n2x, c2x, p2x, k2x, d2x, m2y, o2y, n2y, c2y, p2y, k2y, d2y, rfl, f2x_0, f2y_0, hb3⟩; have hB_4 := hB_3.trans (hb3.mono hB_3.size); have f1x_3 := f1x_2.below hb3; have f1y_3 := f1y_2.below hb3; have pc_2 := pc_1.below hb3; clear hb3 hB_3 f1x_2 f1y_2 pc_1)
      | (go_at_call 17; (with_reducible refine (sSame_any 7 _ _ 1 _ _ _ (by omega) (by omega) f1x_3.q f1y_3.q f2x_0.q f2y_0.q true ⟨fun _ => rfl, fun _ => ⟨rfl, rfl⟩⟩).mono ?_); rintro e w4 ⟨rfl, hb4⟩; have hB_5 := hB_4.trans (hb4.mono hB_4.size); have f1x_4 := f1x_3.below hb4; have f1y_4 := f1y_3.below hb4; have pc_3 := pc_2.below hb4; have f2x_1 := f2x_0.below hb4; have f2y_1 := f2y_0.below hb4; clear hb4 hB_4 f1x_3 f1y_3 pc_2 f2x_0 f2y_0)
      | (go_at_call 15; (with_reducible refine (sOf_any 0 0 in0 in0 _).mono ?_); rintro e w5 ⟨m3x, o3x, n3x, c3x, p3x, k3x, d3x, m3y, o3y, n3y, c3y, p3y, k3y, d3y, rfl, f3x_0, f3y_0, hb5⟩; have hB_6 := hB_5.trans (hb5.mono hB_5.size); have f1x_5 := f1x_4.below hb5; have f1y_5 := f1y_4.below hb5; have pc_4 := pc_3.below hb5; have f2x_2 := f2x_1.below hb5; have f2y_2 := f2y_1.below hb5; clear hb5 hB_5 f1x_4 f1y_4 pc_3 f2x_1 f2y_1)
      | (go_at_call 17; (with_reducible refine (sSame_any 7 _ _ 1 _ _ _ (by omega) (by omega) f1x_5.q f1y_5.q f3x_0.q f3y_0.q false ⟨fun k => absurd (Rat.intCast_inj.1 k.1) (by decide), fun k => by cases k⟩).mono ?_); rintro e w6 ⟨rfl, hb6⟩; have hB_7 := hB_6.trans (hb6.mono hB_6.size); have f1x_6 := f1x_5.below hb6; have f1y_6 := f1y_5.below hb6; have pc_5 := pc_4.below hb6; have f2x_3 := f2x_2.below hb6; have f2y_3 := f2y_2.below hb6; have f3x_1 := f3x_0.below hb6; have f3y_1 := f3y_0.below hb6; clear hb6 hB_6 f1x_5 f1y_5 pc_4 f2x_2 f2y_2 f3x_0 f3y_0)
      | (go_at_call 15; (with_reducible refine (sOf_any 0 0 in0 in0 _).mono ?_); rintro e w7 ⟨m4x, o4x, n4x, c4x, p4x, k4x, d4x, m4y, o4y, n4y, c4y, p4y, k4y, d4y, rfl, f4x_0, f4y_0, hb7⟩; have hB_8 := hB_7.trans (hb7.mono hB_7.size); have f1x_7 := f1x_6.below hb7; have f1y_7 := f1y_6.below hb7; have pc_6 := pc_5.below hb7; have f2x_4 := f2x_3.below hb7; have f2y_4 := f2y_3.below hb7; have f3x_2 := f3x_1.below hb7; have f3y_2 := f3y_1.below hb7; clear hb7 hB_7 f1x_6 f1y_6 pc_5 f2x_3 f2y_3 f3x_1 f3y_1)
      | (go_at_call 14; (with_reducible refine (sDist2_any 7 _ _ 1 _ _ _ (by omega) (by omega) f1x_7.q f1y_7.q f4x_0.q f4y_0.q).mono ?_); rintro e w8 ⟨m5, o5, n5, c5, p5, k5, d5, rfl, f5_0, hb8⟩; have hB_9 := hB_8.trans (hb8.mono hB_8.size); have f1x_8 := f1x_7.below hb8; have f1y_8 := f1y_7.below hb8; have pc_7 := pc_6.below hb8; have f2x_5 := f2x_4.below hb8; have f2y_5 := f2y_4.below hb8; have f3x_3 := f3x_2.below hb8; have f3y_3 := f3y_2.below hb8; have f4x_1 := f4x_0.below hb8; have f4y_1 := f4y_0.below hb8; clear hb8 hB_8 f1x_7 f1y_7 pc_6 f2x_4 f2y_4 f3x_2 f3y_2 f4x_0 f4y_0)
      | (go_at_call 13; (with_reducible refine (qSign _ _ _ _ (by omega) f5_0.q 1 dist_fit).mono ?_); rintro e w9 ⟨rfl, hb9⟩; have hB_10 := hB_9.trans (hb9.mono hB_9.size); have f1x_9 := f1x_8.below hb9; have f1y_9 := f1y_8.below hb9; have pc_8 := pc_7.below hb9; have f2x_6 := f2x_5.below hb9; have f2y_6 := f2y_5.below hb9; have f3x_4 := f3x_3.below hb9; have f3y_4 := f3y_3.below hb9; have f4x_2 := f4x_1.below hb9; have f4y_2 := f4y_1.below hb9; have f5_1 := f5_0.below hb9; clear hb9 hB_9 f1x_8 f1y_8 pc_7 f2x_5 f2y_5 f3x_3 f3y_3 f4x_1 f4y_1 f5_0))
  go_wp2
  go_ret
  exact ⟨rfl, hB_10⟩
end Go.Proofs.Ytkcfaddilknelaa
/- The statement SpotAreas, walked. -/
namespace Go.Proofs.Ytkcfaddilknelaa
open Go.RowKit Go.MagM
theorem info_spot : (Try.prog.info? 33).map (fun i => (i.zero, i.size, i.bytes)) = some (some (.agg #[.bool false, .slice none 0 0, .slice none 0 0, .bool false, .slice none 0 0, .slice none 0 0]), 6, 112) := by kernel_rfl
theorem ofNat_mod (k n : Nat) : ((k : Int) + 1).tmod (n : Int) = (((k + 1) % n : Nat) : Int) := by
  rw [show (k : Int) + 1 = ((k + 1 : Nat) : Int) by omega]; exact (Int.ofNat_tmod _ _).symm
set_option maxHeartbeats 4000000 in
theorem SpotAreas_long {oxm : Bool} {oxo : Option Addr} {oxn oxc : Nat} {oxp : Option Addr} {oxk oxd : Nat} {oym : Bool} {oyo : Option Addr} {oyn oyc : Nat} {oyp : Option Addr} {oyk oyd : Nat} (Lox Loy : Nat) (Xox Xoy : Int) (Dox Doy : Nat) (lo : Option Addr) (n lc : Nat) (h7 : 7 < n) (w : World) (fox_0 : FD w (.agg #[.bool oxm, .slice oxo oxn oxc, .slice oxp oxk oxd]) Lox Xox Dox) (foy_0 : FD w (.agg #[.bool oym, .slice oyo oyn oyc, .slice oyp oyk oyd]) Loy Xoy Doy) :
    Calls Try.prog 5 #[.slice lo n lc, .agg #[.bool oxm, .slice oxo oxn oxc, .slice oxp oxk oxd, .bool oym, .slice oyo oyn oyc, .slice oyp oyk oyd]] w fun e w' => e = .returned (.bool true) ∧ Below w.heap.size w w' := by
  have hB_0 := Below.refl w.heap.size w
  have _ := fox_0; have _ := foy_0
  have hl1 : (7 : Int) < (n : Int) := by omega
  obtain ⟨w1, hw1, ps_0, hb1, hs1⟩ := new_box w (w.heap.size) rfl [.bool oxm, .slice oxo oxn oxc, .slice oxp oxk oxd, .bool oym, .slice oyo oyn oyc, .slice oyp oyk oyd] 33
  have hb1' : Below w.heap.size w w1 := hb1.mono (by omega)
  clear hb1
  have hB_1 := hB_0.trans (hb1'.mono hB_0.size)
  have fox_1 := fox_0.below hb1'
  have foy_1 := foy_0.below hb1'
  clear hb1' hB_0 fox_0 foy_0
  go_enter Try.func5, Try.ntmps5
  go_wp2_with fail
  refine (sfit_any _).mono ?_
  rintro e w2 ⟨rfl, hb2⟩
  have hB_2 := hB_1.trans (hb2.mono hB_1.size)
  have fox_2 := fox_1.below hb2
  have foy_2 := foy_1.below hb2
  have ps_1 := ps_0.below hb2
  clear hb2 hB_1 fox_1 foy_1 ps_0
  go_wp2
  go_ret
  exact ⟨rfl, hB_2⟩
set_option maxRecDepth 100000 in
set_option maxHeartbeats 64000000 in
theorem SpotAreas_w {oxm : Bool} {oxo : Option Addr} {oxn oxc : Nat} {oxp : Option Addr} {oxk oxd : Nat} {oym : Bool} {oyo : Option Addr} {oyn oyc : Nat} {oyp : Option Addr} {oyk oyd : Nat} (Lox Loy : Nat) (Xox Xoy : Int) (Dox Doy : Nat) (lo : Option Addr) (n lc : Nat) (l : List (Int × Nat × Int × Nat)) (hn : l.length = n) (h7 : n ≤ 7) (w : World) (fox_0 : FD w (.agg #[.bool oxm, .slice oxo oxn oxc, .slice oxp oxk oxd]) Lox Xox Dox) (foy_0 : FD w (.agg #[.bool oym, .slice oyo oyn oyc, .slice oyp oyk oyd]) Loy Xoy Doy) (hraw : Raws w lo l) :
    Calls Try.prog 5 #[.slice lo n lc, .agg #[.bool oxm, .slice oxo oxn oxc, .slice oxp oxk oxd, .bool oym, .slice oyo oyn oyc, .slice oyp oyk oyd]] w fun e w' => e = .returned (.bool true) ∧ Below w.heap.size w w' := by
  have hB_0 := Below.refl w.heap.size w
  have RW := Lib.hid hraw; clear hraw
  obtain ⟨i0, hi, hz0, hz1, hz2⟩ := info_parts info_spot
  have HI := Lib.hid hi; have HZ0 := Lib.hid hz0; have HZ1 := Lib.hid hz1; have HZ2 := Lib.hid hz2
  clear hi hz0 hz1 hz2
  have hl1 : ¬ (7 : Int) < (n : Int) := by omega
  obtain ⟨P, hP⟩ : ∃ P, tames l = P := ⟨_, rfl⟩
  have hPl : P.length = n := by rw [← hP, ← hn]; simp [tames]
  have HP := Lib.hid hP; have HPL := Lib.hid hPl; clear hP hPl
  obtain ⟨w1, hw1, ps_0, hb1, hs1⟩ := new_box w (w.heap.size) rfl [.bool oxm, .slice oxo oxn oxc, .slice oxp oxk oxd, .bool oym, .slice oyo oyn oyc, .slice oyp oyk oyd] 33
  have hb1' : Below w.heap.size w w1 := hb1.mono (by omega)
  clear hb1
  have hB_1 := hB_0.trans (hb1'.mono hB_0.size)
  have fox_1 := fox_0.below hb1'
  have foy_1 := foy_0.below hb1'
  clear hb1' hB_0 fox_0 foy_0
  go_enter Try.func5, Try.ntmps5
  obtain ⟨pse0, pse1, pse2, pse3, pse4, pse5, pse6, pse7, pse8, pse9, pse10, pse11⟩ := ps_0.open6
  go_wp2_with fail
  refine (sfit_any _).mono ?_
  rintro e w2 ⟨rfl, hb2⟩
  clear pse0 pse1 pse2 pse3 pse4 pse5 pse6 pse7 pse8 pse9 pse10 pse11
  have hB_2 := hB_1.trans (hb2.mono hB_1.size)
  have fox_2 := fox_1.below hb2
  have foy_2 := foy_1.below hb2
  have ps_1 := ps_0.below hb2
  clear hb2 hB_1 fox_1 foy_1 ps_0
  obtain ⟨pse0, pse1, pse2, pse3, pse4, pse5, pse6, pse7, pse8, pse9, pse10, pse11⟩ := ps_1.open6
  go_wp2_with fail
  refine (stame_any Lox Loy Xox Xoy Dox Doy _ fox_2 foy_2).mono ?_
  rintro e w3 ⟨m1x, o1x, n1x, c1x, p1x, k1x, d1x, m1y, o1y, n1y, c1y, p1y, k1y, d1y, rfl, f1x_0, f1y_0, hb3⟩
  clear pse0 pse1 pse2 pse3 pse4 pse5 pse6 pse7 pse8 pse9 pse10 pse11
  have hB_3 := hB_2.trans (hb3.mono hB_2.size)
  have fox_3 := fox_2.below hb3
  have foy_3 := foy_2.below hb3
  have ps_2 := ps_1.below hb3
  clear hb3 hB_2 fox_2 foy_2 ps_1
  clear fox_3 foy_3
  obtain ⟨sf1a, sf1b, sf1c, sf1d, sf1e, sf1f, sf1g, sf1h, sf1i, sf1j, sf1k, sf1l⟩ := ps_2.open6
  obtain ⟨sg1a, sg1b, sg1c, sg1d, sg1e, sg1f, sg1g, sg1h, sg1i, sg1j⟩ := Box.put6 ps_2 (.bool m1x) (.slice o1x n1x c1x) (.slice p1x k1x d1x) (.bool m1y) (.slice o1y n1y c1y)
  have hB_4 := below_setAll hB_3 (g := w.heap.size) (by omega) [.bool m1x, .slice o1x n1x c1x, .slice p1x k1x d1x, .bool m1y, .slice o1y n1y c1y, .slice p1y k1y d1y]
  have f1x_1 := f1x_0.setAll ps_2 (noWord6 _ _ _ _ _ _ _ _ _ _ _ _ _ _) [.bool m1x, .slice o1x n1x c1x, .slice p1x k1x d1x, .bool m1y, .slice o1y n1y c1y, .slice p1y k1y d1y] rfl
  have f1y_1 := f1y_0.setAll ps_2 (noWord6 _ _ _ _ _ _ _ _ _ _ _ _ _ _) [.bool m1x, .slice o1x n1x c1x, .slice p1x k1x d1x, .bool m1y, .slice o1y n1y c1y, .slice p1y k1y d1y] rfl
  have ps_3 := ps_2.setAll [.bool m1x, .slice o1x n1x c1x, .slice p1x k1x d1x, .bool m1y, .slice o1y n1y c1y, .slice p1y k1y d1y] rfl
  simp only [setAll, Nat.zero_add, Nat.reduceAdd] at hB_4 ps_3 f1x_1 f1y_1
  go_wp2_with fail
  clear sf1a sf1b sf1c sf1d sf1e sf1f sf1g sf1h sf1i sf1j sf1k sf1l sg1a sg1b sg1c sg1d sg1e sg1f sg1g sg1h sg1i sg1j hB_3 f1x_0 f1y_0 ps_2
  generalize (World.setCell (World.setCell (World.setCell (World.setCell (World.setCell (World.setCell w3 ⟨w.heap.size, 0, none⟩ (.bool m1x)) ⟨w.heap.size, 1, none⟩ (.slice o1x n1x c1x)) ⟨w.heap.size, 2, none⟩ (.slice p1x k1x d1x)) ⟨w.heap.size, 3, none⟩ (.bool m1y)) ⟨w.heap.size, 4, none⟩ (.slice o1y n1y c1y)) ⟨w.heap.size, 5, none⟩ (.slice p1y k1y d1y)) = w4 at *
  go_loopw [5, 21] (fun pv iv wr => ∃ k : Nat, ∃ xs : List Value, ∃ u : Value, k ≤ n ∧ iv = .int .i64 k ∧ u = pv ∧ RowN wr (w.heap.size + 1) 33 6 u k xs ∧ Sr wr 1 xs (P.take k) ∧ Below w.heap.size w wr ∧ Box wr w.heap.size [.bool m1x, .slice o1x n1x c1x, .slice p1x k1x d1x, .bool m1y, .slice o1y n1y c1y, .slice p1y k1y d1y] ∧ RF wr (.agg #[.bool m1x, .slice o1x n1x c1x, .slice p1x k1x d1x]) 1 (tameQ Xox Dox) ∧ RF wr (.agg #[.bool m1y, .slice o1y n1y c1y, .slice p1y k1y d1y]) 1 (tameQ Xoy Doy)) (fun _ iv _ => n - (intOf iv).toNat)
  case atStart => exact ⟨0, [], _, Nat.zero_le _, rfl, rfl, RowN.nil _ _ _ _, Sr.nil _ _, hB_4, ps_3, f1x_1, f1y_1⟩
  case round =>
    obtain ⟨k, xs, u, hk, rfl, hu, row_0, sr_0, hB_0, ps_0, f1x_0, f1y_0⟩ := hrel
    subst hu
    by_cases hlt : k < n
    · obtain ⟨X, D, X', D', hlk⟩ : ∃ X D X' D', l[k]? = some (X, D, X', D') := ⟨_, _, _, _, List.getElem?_eq_getElem (by omega)⟩
      obtain ⟨b, o, m2x, o2x, n2x, c2x, p2x, k2x, d2x, m2y, o2y, n2y, c2y, p2y, k2y, d2y, hao, dd_0, ⟨L2x, f2x_0⟩, ⟨L2y, f2y_0⟩⟩ := (RW.out.below hB_0) k X D X' D' hlk
      subst hao
      have hrl := row_0.lt
      have hT := tames_at hlk
      rw [HP.out] at hT
      have HT := Lib.hid hT; clear hT hlk
      obtain ⟨d0, d1, d2, d3, d4, d5⟩ := dd_0
      have hl1ps := ps_0.lt
      have hl1B := hB_0.size
      obtain ⟨w5, hw5, pt_0, hb5, hs5⟩ := new_box wr (wr.heap.size) rfl [.bool m2x, .slice o2x n2x c2x, .slice p2x k2x d2x, .bool m2y, .slice o2y n2y c2y, .slice p2y k2y d2y] 33
      have hb5' : Below wr.heap.size wr w5 := hb5.mono (by omega)
      clear hb5
      have hB_1 := hB_0.trans (hb5'.mono hB_0.size)
      have ps_1 := ps_0.below hb5'
      have row_1 := row_0.below hb5'
      have sr_1 := sr_0.below hb5'
      have f1x_1 := f1x_0.below hb5'
      have f1y_1 := f1y_0.below hb5'
      have f2x_1 := f2x_0.below hb5'
      have f2y_1 := f2y_0.below hb5'
      clear hb5' hB_0 ps_0 row_0 sr_0 f1x_0 f1y_0 f2x_0 f2y_0
      obtain ⟨pte0, pte1, pte2, pte3, pte4, pte5, pte6, pte7, pte8, pte9, pte10, pte11⟩ := pt_0.open6
      go_wp2_with fail
      refine (stame_any L2x L2y X X' D D' _ f2x_1 f2y_1).mono ?_
      rintro e w6 ⟨m3x, o3x, n3x, c3x, p3x, k3x, d3x, m3y, o3y, n3y, c3y, p3y, k3y, d3y, rfl, f3x_0, f3y_0, hb6⟩
      clear pte0 pte1 pte2 pte3 pte4 pte5 pte6 pte7 pte8 pte9 pte10 pte11
      have hB_2 := hB_1.trans (hb6.mono hB_1.size)
      have ps_2 := ps_1.below hb6
      have row_2 := row_1.below hb6
      have sr_2 := sr_1.below hb6
      have f1x_2 := f1x_1.below hb6
      have f1y_2 := f1y_1.below hb6
      have f2x_2 := f2x_1.below hb6
      have f2y_2 := f2y_1.below hb6
      have pt_1 := pt_0.below hb6
      clear hb6 hB_1 ps_1 row_1 sr_1 f1x_1 f1y_1 f2x_1 f2y_1 pt_0
      clear d0 d1 d2 d3 d4 d5
      clear f2x_2 f2y_2 pt_1
      have hl2ps := ps_2.lt
      have hl2B := hB_2.size
      obtain ⟨w7, hw7, pz_0, hb7, hs7⟩ := new_box w6 (w6.heap.size) rfl [.bool m3x, .slice o3x n3x c3x, .slice p3x k3x d3x, .bool m3y, .slice o3y n3y c3y, .slice p3y k3y d3y] 33
      have hb7' : Below w6.heap.size w6 w7 := hb7.mono (by omega)
      clear hb7
      have hB_3 := hB_2.trans (hb7'.mono hB_2.size)
      have ps_3 := ps_2.below hb7'
      have row_3 := row_2.below hb7'
      have sr_3 := sr_2.below hb7'
      have f1x_3 := f1x_2.below hb7'
      have f1y_3 := f1y_2.below hb7'
      have f3x_1 := f3x_0.below hb7'
      have f3y_1 := f3y_0.below hb7'
      clear hb7' hB_2 ps_2 row_2 sr_2 f1x_2 f1y_2 f3x_0 f3y_0
      have hzps := ps_3.lt
      have hzpz := pz_0.lt
      obtain ⟨v1, wa, hrun, rown, hgrow, hkept⟩ := run_append_row (P := Try.prog) w7 (w.heap.size + 1) 52 52 33 i0 (.agg #[.bool false, .slice none 0 0, .slice none 0 0, .bool false, .slice none 0 0, .slice none 0 0]) 6 112 (by kernel_rfl) HI.out HZ0.out HZ1.out HZ2.out rfl (noWord6 _ _ _ _ _ _ _ _ _ _ _ _ _ _) u k xs row_3 ⟨w6.heap.size, 0, none⟩ 1 1 [.bool m3x, .slice o3x n3x c3x, .slice p3x k3x d3x, .bool m3y, .slice o3y n3y c3y, .slice p3y k3y d3y] (by omega) rfl pz_0.news (by intro u hu; simp at hu; rcases hu with rfl | rfl | rfl | rfl | rfl | rfl <;> rfl) (noWord6 _ _ _ _ _ _ _ _ _ _ _ _ _ _) (by unfold maxLen; omega) (by omega) (by have := hB_3.size; omega)
      go_wp2_with (refine wpList_append_row rfl _ _ 52 rfl rfl rfl hrun ?_)
      clear row_3 hrun
      have hB_4 := hB_3.grown hgrow (by have := hB_3.size; omega) (fun k hk => by have := hrl k hk; omega)
      have ps_4 := ps_3.grown hgrow (fun e => by have := hrl _ e; omega) ps_3.lt
      have sr_4 := sr_3.kept hkept
      have f1x_4 := f1x_3.kept hkept
      have f1y_4 := f1y_3.kept hkept
      have f3x_2 := f3x_1.kept hkept
      have f3y_2 := f3y_1.kept hkept
      clear hB_3 ps_3 sr_3 f1x_3 f1y_3 f3x_1 f3y_1
      refine ⟨⟨k + 1, _, _, by omega, by go_num, rfl, rown, ?_, hB_4, ps_4, f1x_4, f1y_4⟩, by simp [intOf]; omega⟩
      rw [HT.out]
      exact sr_4.append (Sr.one f3x_2.q f3y_2.q)
    · obtain rfl : k = n := by omega
      have htk : P.take k = P := List.take_of_length_le (by rw [HPL.out]; exact Nat.le_refl _)
      rw [htk] at sr_0
      obtain ⟨uo, uc, rfl⟩ := row_0.shape
      go_wp2_with fail
      refine (fOf_any 0 (by omega) (by omega) _).mono ?_
      rintro e w5 ⟨m4, o4, n4, c4, p4, k4, d4, rfl, f4_0, hb5⟩
      have hB_1 := hB_0.trans (hb5.mono hB_0.size)
      have ps_1 := ps_0.below hb5
      have row_1 := row_0.below hb5
      have sr_1 := sr_0.below hb5
      have f1x_1 := f1x_0.below hb5
      have f1y_1 := f1y_0.below hb5
      clear hb5 hB_0 ps_0 row_0 sr_0 f1x_0 f1y_0
      have hul := row_1.lt
      have hl1ps := ps_1.lt
      have hl1B := hB_1.size
      obtain ⟨w6, hw6, pm_0, hb6, hs6⟩ := new_box w5 (w5.heap.size) rfl [.bool m4, .slice o4 n4 c4, .slice p4 k4 d4] 31
      have hb6' : Below w5.heap.size w5 w6 := hb6.mono (by omega)
      clear hb6
      have hB_2 := hB_1.trans (hb6'.mono hB_1.size)
      have ps_2 := ps_1.below hb6'
      have row_2 := row_1.below hb6'
      have sr_2 := sr_1.below hb6'
      have f1x_2 := f1x_1.below hb6'
      have f1y_2 := f1y_1.below hb6'
      have f4_1 := f4_0.below hb6'
      clear hb6' hB_1 ps_1 row_1 sr_1 f1x_1 f1y_1 f4_0
      go_wp2
      try rw [hw6]
      have hpm := pm_0.lt
      clear hs6
      go_loopw [6, 34] (fun qv iv wr => ∃ j : Nat, ∃ ys : List Value, ∃ v : Value, j ≤ k ∧ iv = .int .i64 j ∧ v = qv ∧ (j = 0 → v = .slice none 0 0) ∧ RowN wr w6.heap.size 33 6 v j ys ∧ Sr wr 1 ys (P.take j).reverse ∧ Below w.heap.size w wr ∧ Box wr w.heap.size [.bool m1x, .slice o1x n1x c1x, .slice p1x k1x d1x, .bool m1y, .slice o1y n1y c1y, .slice p1y k1y d1y] ∧ RF wr (.agg #[.bool m1x, .slice o1x n1x c1x, .slice p1x k1x d1x]) 1 (tameQ Xox Dox) ∧ RF wr (.agg #[.bool m1y, .slice o1y n1y c1y, .slice p1y k1y d1y]) 1 (tameQ Xoy Doy) ∧ RowN wr (w.heap.size + 1) 33 6 (.slice uo k uc) k xs ∧ Sr wr 1 xs P ∧ w6.heap.size ≤ wr.heap.size ∧
          ∃ m5 o5 n5 c5 p5 k5 d5, Box wr (w5.heap.size) [.bool m5, .slice o5 n5 c5, .slice p5 k5 d5] ∧ RF wr (.agg #[.bool m5, .slice o5 n5 c5, .slice p5 k5 d5]) (1 + j * 39) (fanQ (tameQ Xox Dox, tameQ Xoy Doy) P j)) (fun _ iv _ => k - (intOf iv).toNat)
      case atStart => exact ⟨0, [], _, Nat.zero_le _, rfl, rfl, fun _ => rfl, RowN.nil _ _ _ _, Sr.nil _ _, hB_2, ps_2, f1x_2, f1y_2, row_2, sr_2, Nat.le_refl _, _, _, _, _, _, _, _, pm_0, f4_1⟩
      case round =>
          obtain ⟨j, ys, v, hj, rfl, hv, hv0, rq_0, sq_0, hB_0, ps_0, f1x_0, f1y_0, row_0, sr_0, hWB, m5, o5, n5, c5, p5, k5, d5, pm_0, f5_0⟩ := hrel
          subst hv
          by_cases hjl : j < k
          · obtain ⟨i, hi⟩ : ∃ i, (j + 1) % k = i := ⟨_, rfl⟩
            have hik : i < k := by rw [← hi]; exact Nat.mod_lt _ (by omega)
            have hPk := HPL.out
            obtain ⟨x, y, hPj⟩ : ∃ x y, P[j]? = some (x, y) := ⟨_, _, List.getElem?_eq_getElem (by omega)⟩
            obtain ⟨x', y', hPi⟩ : ∃ x y, P[i]? = some (x, y) := ⟨_, _, List.getElem?_eq_getElem (by omega)⟩
            obtain ⟨gp, cp, m6x, o6x, n6x, c6x, p6x, k6x, d6x, m6y, o6y, n6y, c6y, p6y, k6y, d6y, hu, da_0, f6x_0, f6y_0⟩ := sr_0.at row_0 hPj
            simp only [Value.slice.injEq, true_and] at hu
            obtain ⟨rfl, rfl⟩ := hu
            obtain ⟨gp', cp', m7x, o7x, n7x, c7x, p7x, k7x, d7x, m7y, o7y, n7y, c7y, p7y, k7y, d7y, hu', db_0, f7x_0, f7y_0⟩ := sr_0.at row_0 hPi
            simp at hu'
            obtain ⟨rfl, rfl⟩ := hu'
            have hgp := hul gp rfl
            have hgm : gp < w5.heap.size := by omega
            have hmod : ((j : Int) + 1).tmod (k : Int) = (i : Int) := by rw [ofNat_mod, hi]
            have hk0 : ((k : Int) == 0) = false := by simp; omega
            have hkn : ¬ k = 0 := by omega
            have hwj : IntKind.i64.wrap ((j : Int) + 1) = (j : Int) + 1 := by rw [IntKind.wrap_i64]; omega
            have hb1 : (0 : Int) ≤ (j : Int) := by omega
            have hb2 : (j : Int) < (k : Int) := by omega
            have hb3 : (0 : Int) ≤ (i : Int) := by omega
            have hb4 : (i : Int) < (k : Int) := by omega
            have hF : fanQ (tameQ Xox Dox, tameQ Xoy Doy) P (j + 1) = fanQ (tameQ Xox Dox, tameQ Xoy Doy) P j + areaQ [(tameQ Xox Dox, tameQ Xoy Doy), (x, y), (x', y')] := by
              rw [fanQ, HPL.out, hi, List.getD_eq_getElem?_getD, List.getD_eq_getElem?_getD, hPj, hPi]; rfl
            have HF := Lib.hid hF; have HREV := Lib.hid (rev_take hPj)
            clear hF hPi hPk hi
            go_wp2
            have hWq_0 := Below.refl wr.heap.size wr
            have hsq : w.heap.size ≤ wr.heap.size := hB_0.size
            have hlqps := ps_0.lt
            have hlqpm := pm_0.lt
            have hB_1 := hB_0.drew'
            have ps_1 := ps_0.drew
            have f1x_1 := f1x_0.drew
            have f1y_1 := f1y_0.drew
            have row_1 := row_0.drew
            have sr_1 := sr_0.drew
            have rq_1 := rq_0.drew
            have sq_1 := sq_0.drew
            have pm_1 := pm_0.drew
            have f5_1 := f5_0.drew
            have da_1 := da_0.drew
            have db_1 := db_0.drew
            have f6x_1 := f6x_0.drew
            have f6y_1 := f6y_0.drew
            have f7x_1 := f7x_0.drew
            have f7y_1 := f7y_0.drew
            have hWq_1 := hWq_0.drew'
            clear hB_0 ps_0 f1x_0 f1y_0 row_0 sr_0 rq_0 sq_0 pm_0 f5_0 da_0 db_0 f6x_0 f6y_0 f7x_0 f7y_0 hWq_0
            obtain ⟨FFq, hFFq⟩ : ∃ F : World → Prop, ∀ w', F w' ↔ (Below w.heap.size w w' ∧ Box w' (w.heap.size) [.bool m1x, .slice o1x n1x c1x, .slice p1x k1x d1x, .bool m1y, .slice o1y n1y c1y, .slice p1y k1y d1y] ∧ RF w' (.agg #[.bool m1x, .slice o1x n1x c1x, .slice p1x k1x d1x]) (1) (tameQ Xox Dox) ∧ RF w' (.agg #[.bool m1y, .slice o1y n1y c1y, .slice p1y k1y d1y]) (1) (tameQ Xoy Doy) ∧ RowN w' (w.heap.size + 1) 33 6 (.slice (some ⟨gp, 0, none⟩) k uc) k xs ∧ Sr w' 1 xs P ∧ RowN w' w6.heap.size 33 6 v j ys ∧ Sr w' 1 ys (P.take j).reverse ∧ Box w' (w5.heap.size) [.bool m5, .slice o5 n5 c5, .slice p5 k5 d5] ∧ RF w' (.agg #[.bool m5, .slice o5 n5 c5, .slice p5 k5 d5]) (1 + j * 39) (fanQ (tameQ Xox Dox, tameQ Xoy Doy) P j) ∧ At6 w' gp (j * 6) (.bool m6x) (.slice o6x n6x c6x) (.slice p6x k6x d6x) (.bool m6y) (.slice o6y n6y c6y) (.slice p6y k6y d6y) ∧ At6 w' gp (i * 6) (.bool m7x) (.slice o7x n7x c7x) (.slice p7x k7x d7x) (.bool m7y) (.slice o7y n7y c7y) (.slice p7y k7y d7y) ∧ FQ w' (.agg #[.bool m6x, .slice o6x n6x c6x, .slice p6x k6x d6x]) 1 (x) ∧ FQ w' (.agg #[.bool m6y, .slice o6y n6y c6y, .slice p6y k6y d6y]) 1 (y) ∧ FQ w' (.agg #[.bool m7x, .slice o7x n7x c7x, .slice p7x k7x d7x]) 1 (x') ∧ FQ w' (.agg #[.bool m7y, .slice o7y n7y c7y, .slice p7y k7y d7y]) 1 (y') ∧ Below wr.heap.size wr w') := ⟨_, fun _ => Iff.rfl⟩
            have cFq : ∀ {w' w'' : World}, FFq w' → Below w'.heap.size w' w'' → FFq w'' := by
              intro w' w'' h hb
              obtain ⟨y0, y1, y2, y3, y4, y5, y6, y7, y8, y9, y10, y11, y12, y13, y14, y15, y16⟩ := (hFFq _).1 h
              exact (hFFq _).2 ⟨y0.trans (hb.mono y0.size), y1.below hb, y2.below hb, y3.below hb, y4.below hb, y5.below hb, y6.below hb, y7.below hb, y8.below hb, y9.below hb, y10.below hb, y11.below hb, y12.below hb, y13.below hb, y14.below hb, y15.below hb, y16.trans (hb.mono y16.size)⟩
            have mFq : ∀ {w' : World}, FFq w' → wr.heap.size ≤ w'.heap.size := by
              intro w' h
              obtain ⟨y0, y1, y2, y3, y4, y5, y6, y7, y8, y9, y10, y11, y12, y13, y14, y15, y16⟩ := (hFFq _).1 h
              exact y16.size
            have sFq : ∀ {w' : World}, FFq w' → (w'.cell? ⟨w.heap.size, 0, none⟩ = some (.bool m1x) ∧ w'.cell? ⟨w.heap.size, 1, none⟩ = some (.slice o1x n1x c1x) ∧ w'.cell? ⟨w.heap.size, 2, none⟩ = some (.slice p1x k1x d1x) ∧ w'.cell? ⟨w.heap.size, 3, none⟩ = some (.bool m1y) ∧ w'.cell? ⟨w.heap.size, 4, none⟩ = some (.slice o1y n1y c1y) ∧ w'.cell? ⟨w.heap.size, 5, none⟩ = some (.slice p1y k1y d1y) ∧ w'.cell? ⟨gp, j * 6, none⟩ = some (.bool m6x) ∧ w'.cell? ⟨gp, j * 6 + 1, none⟩ = some (.slice o6x n6x c6x) ∧ w'.cell? ⟨gp, j * 6 + 2, none⟩ = some (.slice p6x k6x d6x) ∧ w'.cell? ⟨gp, j * 6 + 3, none⟩ = some (.bool m6y) ∧ w'.cell? ⟨gp, j * 6 + 4, none⟩ = some (.slice o6y n6y c6y) ∧ w'.cell? ⟨gp, j * 6 + 5, none⟩ = some (.slice p6y k6y d6y) ∧ w'.cell? ⟨gp, i * 6, none⟩ = some (.bool m7x) ∧ w'.cell? ⟨gp, i * 6 + 1, none⟩ = some (.slice o7x n7x c7x) ∧ w'.cell? ⟨gp, i * 6 + 2, none⟩ = some (.slice p7x k7x d7x) ∧ w'.cell? ⟨gp, i * 6 + 3, none⟩ = some (.bool m7y) ∧ w'.cell? ⟨gp, i * 6 + 4, none⟩ = some (.slice o7y n7y c7y) ∧ w'.cell? ⟨gp, i * 6 + 5, none⟩ = some (.slice p7y k7y d7y)) := by
              intro w' h
              obtain ⟨y0, y1, y2, y3, y4, y5, y6, y7, y8, y9, y10, y11, y12, y13, y14, y15, y16⟩ := (hFFq _).1 h
              exact ⟨y1.c0, y1.c1, y1.c2, y1.c3, y1.c4, y1.c5, y10.c0, y10.c1, y10.c2, y10.c3, y10.c4, y10.c5, y11.c0, y11.c1, y11.c2, y11.c3, y11.c4, y11.c5⟩
            have zF : FFq wr.drew := (hFFq _).2 ⟨hB_1, ps_1, f1x_1, f1y_1, row_1, sr_1, rq_1, sq_1, pm_1, f5_1, da_1, db_1, f6x_1, f6y_1, f7x_1, f7y_1, hWq_1⟩
            clear hB_1 ps_1 f1x_1 f1y_1 row_1 sr_1 rq_1 sq_1 pm_1 f5_1 da_1 db_1 f6x_1 f6y_1 f7x_1 f7y_1 hWq_1
            refine wp_region_noPanic ?_
            refine wp_region_held_drew (S := fun w' => w'.cell? ⟨w.heap.size, 0, none⟩ = some (.bool m1x) ∧ w'.cell? ⟨w.heap.size, 1, none⟩ = some (.slice o1x n1x c1x) ∧ w'.cell? ⟨w.heap.size, 2, none⟩ = some (.slice p1x k1x d1x) ∧ w'.cell? ⟨w.heap.size, 3, none⟩ = some (.bool m1y) ∧ w'.cell? ⟨w.heap.size, 4, none⟩ = some (.slice o1y n1y c1y) ∧ w'.cell? ⟨w.heap.size, 5, none⟩ = some (.slice p1y k1y d1y) ∧ w'.cell? ⟨gp, j * 6, none⟩ = some (.bool m6x) ∧ w'.cell? ⟨gp, j * 6 + 1, none⟩ = some (.slice o6x n6x c6x) ∧ w'.cell? ⟨gp, j * 6 + 2, none⟩ = some (.slice p6x k6x d6x) ∧ w'.cell? ⟨gp, j * 6 + 3, none⟩ = some (.bool m6y) ∧ w'.cell? ⟨gp, j * 6 + 4, none⟩ = some (.slice o6y n6y c6y) ∧ w'.cell? ⟨gp, j * 6 + 5, none⟩ = some (.slice p6y k6y d6y) ∧ w'.cell? ⟨gp, i * 6, none⟩ = some (.bool m7x) ∧ w'.cell? ⟨gp, i * 6 + 1, none⟩ = some (.slice o7x n7x c7x) ∧ w'.cell? ⟨gp, i * 6 + 2, none⟩ = some (.slice p7x k7x d7x) ∧ w'.cell? ⟨gp, i * 6 + 3, none⟩ = some (.bool m7y) ∧ w'.cell? ⟨gp, i * 6 + 4, none⟩ = some (.slice o7y n7y c7y) ∧ w'.cell? ⟨gp, i * 6 + 5, none⟩ = some (.slice p7y k7y d7y)) (by kernel_rfl) (sFq zF) (fun hHeld => ?_)
            refine reg_take 1 ?_ ?_ ?_ (by kernel_rfl) (by kernel_rfl) (by kernel_rfl) (fun _ _ _ h => h) ?_ ?_ (by assumption) ?_
            rotate_left 2
            · simp only [List.getElem?_toArray, List.getElem?_cons_succ, List.getElem?_cons_zero]; exact rfl
            · rfl
            · intro w hSw; (try dsimp only at hSw); go_simp; try with_reducible rfl
            try simp only [Act.put]
            try simp only [List.setIfInBounds_toArray, List.set_cons_zero, List.set_cons_succ]
            refine reg_take 2 ?_ ?_ ?_ (by kernel_rfl) (by kernel_rfl) (by kernel_rfl) (fun _ _ _ h => h) ?_ ?_ (by assumption) ?_
            rotate_left 2
            · simp only [List.getElem?_toArray, List.getElem?_cons_succ, List.getElem?_cons_zero]; exact rfl
            · rfl
            · intro w hSw; (try dsimp only at hSw); go_simp; try with_reducible rfl
            try simp only [Act.put]
            try simp only [List.setIfInBounds_toArray, List.set_cons_zero, List.set_cons_succ]
            refine reg_take 3 ?_ ?_ ?_ (by kernel_rfl) (by kernel_rfl) (by kernel_rfl) (fun _ _ _ h => h) ?_ ?_ (by assumption) ?_
            rotate_left 2
            · simp only [List.getElem?_toArray, List.getElem?_cons_succ, List.getElem?_cons_zero]; exact rfl
            · rfl
            · intro w hSw; (try dsimp only at hSw); go_simp; try with_reducible rfl
            try simp only [Act.put]
            try simp only [List.setIfInBounds_toArray, List.set_cons_zero, List.set_cons_succ]
            refine reg_take 4 ?_ ?_ ?_ (by kernel_rfl) (by kernel_rfl) (by kernel_rfl) (fun _ _ _ h => h) ?_ ?_ (by assumption) ?_
            rotate_left 2
            · simp only [List.getElem?_toArray, List.getElem?_cons_succ, List.getElem?_cons_zero]; exact rfl
            · rfl
            · intro w hSw; (try dsimp only at hSw); go_simp; try with_reducible rfl
            try simp only [Act.put]
            try simp only [List.setIfInBounds_toArray, List.set_cons_zero, List.set_cons_succ]
            refine reg_take 5 ?_ ?_ ?_ (by kernel_rfl) (by kernel_rfl) (by kernel_rfl) (fun _ _ _ h => h) ?_ ?_ (by assumption) ?_
            rotate_left 2
            · simp only [List.getElem?_toArray, List.getElem?_cons_succ, List.getElem?_cons_zero]; exact rfl
            · rfl
            · intro w hSw; (try dsimp only at hSw); go_simp; try with_reducible rfl
            try simp only [Act.put]
            try simp only [List.setIfInBounds_toArray, List.set_cons_zero, List.set_cons_succ]
            refine reg_take 6 ?_ ?_ ?_ (by kernel_rfl) (by kernel_rfl) (by kernel_rfl) (fun _ _ _ h => h) ?_ ?_ (by assumption) ?_
            rotate_left 2
            · simp only [List.getElem?_toArray, List.getElem?_cons_succ, List.getElem?_cons_zero]; exact rfl
            · rfl
            · intro w hSw; (try dsimp only at hSw); go_simp; try with_reducible rfl
            try simp only [Act.put]
            try simp only [List.setIfInBounds_toArray, List.set_cons_zero, List.set_cons_succ]
            refine reg_take 7 ?_ ?_ ?_ (by kernel_rfl) (by kernel_rfl) (by kernel_rfl) (fun _ _ _ h => h) ?_ ?_ (by assumption) ?_
            rotate_left 2
            · simp only [List.getElem?_toArray, List.getElem?_cons_succ, List.getElem?_cons_zero]; exact rfl
            · rfl
            · intro w hSw; (try dsimp only at hSw); go_simp; try with_reducible rfl
            try simp only [Act.put]
            try simp only [List.setIfInBounds_toArray, List.set_cons_zero, List.set_cons_succ]
            refine reg_take 8 ?_ ?_ ?_ (by kernel_rfl) (by kernel_rfl) (by kernel_rfl) (fun _ _ _ h => h) ?_ ?_ (by assumption) ?_
            rotate_left 2
            · simp only [List.getElem?_toArray, List.getElem?_cons_succ, List.getElem?_cons_zero]; exact rfl
            · rfl
            · intro w hSw; (try dsimp only at hSw); go_simp; try with_reducible rfl
            try simp only [Act.put]
            try simp only [List.setIfInBounds_toArray, List.set_cons_zero, List.set_cons_succ]
            refine reg_take 9 ?_ ?_ ?_ (by kernel_rfl) (by kernel_rfl) (by kernel_rfl) (fun _ _ _ h => h) ?_ ?_ (by assumption) ?_
            rotate_left 2
            · simp only [List.getElem?_toArray, List.getElem?_cons_succ, List.getElem?_cons_zero]; exact rfl
            · rfl
            · intro w hSw; (try dsimp only at hSw); go_simp; try with_reducible rfl
            try simp only [Act.put]
            try simp only [List.setIfInBounds_toArray, List.set_cons_zero, List.set_cons_succ]
            refine reg_take 10 ?_ ?_ ?_ (by kernel_rfl) (by kernel_rfl) (by kernel_rfl) (fun _ _ _ h => h) ?_ ?_ (by assumption) ?_
            rotate_left 2
            · simp only [List.getElem?_toArray, List.getElem?_cons_succ, List.getElem?_cons_zero]; exact rfl
            · rfl
            · intro w hSw; (try dsimp only at hSw); go_simp; try with_reducible rfl
            try simp only [Act.put]
            try simp only [List.setIfInBounds_toArray, List.set_cons_zero, List.set_cons_succ]
            refine reg_take 11 ?_ ?_ ?_ (by kernel_rfl) (by kernel_rfl) (by kernel_rfl) (fun _ _ _ h => h) ?_ ?_ (by assumption) ?_
            rotate_left 2
            · simp only [List.getElem?_toArray, List.getElem?_cons_succ, List.getElem?_cons_zero]; exact rfl
            · rfl
            · intro w hSw; (try dsimp only at hSw); go_simp; try with_reducible rfl
            try simp only [Act.put]
            try simp only [List.setIfInBounds_toArray, List.set_cons_zero, List.set_cons_succ]
            refine reg_take 12 ?_ ?_ ?_ (by kernel_rfl) (by kernel_rfl) (by kernel_rfl) (fun _ _ _ h => h) ?_ ?_ (by assumption) ?_
            rotate_left 2
            · simp only [List.getElem?_toArray, List.getElem?_cons_succ, List.getElem?_cons_zero]; exact rfl
            · rfl
            · intro w hSw; (try dsimp only at hSw); go_simp; try with_reducible rfl
            try simp only [Act.put]
            try simp only [List.setIfInBounds_toArray, List.set_cons_zero, List.set_cons_succ]
            refine reg_take 13 ?_ ?_ ?_ (by kernel_rfl) (by kernel_rfl) (by kernel_rfl) (fun _ _ _ h => h) ?_ ?_ (by assumption) ?_
            rotate_left 2
            · simp only [List.getElem?_toArray, List.getElem?_cons_succ, List.getElem?_cons_zero]; exact rfl
            · rfl
            · intro w hSw; (try dsimp only at hSw); go_simp; try with_reducible rfl
            try simp only [Act.put]
            try simp only [List.setIfInBounds_toArray, List.set_cons_zero, List.set_cons_succ]
            refine reg_grab (fun WWq aq hWW hAA => ?_)
            rw [hWW]
            have HAq := Lib.hid hAA; clear hWW hAA hHeld
            obtain ⟨IVq, hIVq⟩ : ∃ IV : Array Bool → Act → World → Prop, ∀ l a w', IV l a w' ↔ ∀ CC : Prop, (∀ (lb0 lb14 lb15 lb16 : Bool) (lv0 lv14 lv15 lv16 : Value) (m8 : Bool) (o8 : Option Addr) (n8 : Nat) (c8 : Nat) (p8 : Option Addr) (k8 : Nat) (d8 : Nat) (m9 : Bool) (o9 : Option Addr) (n9 : Nat) (c9 : Nat) (p9 : Option Addr) (k9 : Nat) (d9 : Nat) (gpz : Nat), (l = #[lb0, true, true, true, true, true, true, true, true, true, true, true, true, true, lb14, lb15, lb16, false]) → (a = ((((aq.put (some 37) lv0).put (some 51) lv14).put (some 52) lv15).put (some 53) lv16)) → (FFq w') → ((lb0 = true → lv0 = .agg #[.bool m5, .slice o5 n5 c5, .slice p5 k5 d5])) → ((lb14 = true → lv14 = .slice (some ⟨gpz, 0, none⟩) 3 3 ∧ Box w' gpz [.bool m1x, .slice o1x n1x c1x, .slice p1x k1x d1x, .bool m1y, .slice o1y n1y c1y, .slice p1y k1y d1y, .bool m6x, .slice o6x n6x c6x, .slice p6x k6x d6x, .bool m6y, .slice o6y n6y c6y, .slice p6y k6y d6y, .bool m7x, .slice o7x n7x c7x, .slice p7x k7x d7x, .bool m7y, .slice o7y n7y c7y, .slice p7y k7y d7y] ∧ wr.heap.size ≤ gpz)) → ((lb15 = true → lv15 = .agg #[.bool m8, .slice o8 n8 c8, .slice p8 k8 d8] ∧ RF w' (.agg #[.bool m8, .slice o8 n8 c8, .slice p8 k8 d8]) (1 + 3 * (((1 + 1 + 2) + (1 + 1 + 2) + 2) + 2)) (areaQ [(tameQ Xox Dox, tameQ Xoy Doy), (x, y), (x', y')]))) → ((lb16 = true → lv16 = .agg #[.bool m9, .slice o9 n9 c9, .slice p9 k9 d9] ∧ RF w' (.agg #[.bool m9, .slice o9 n9 c9, .slice p9 k9 d9]) ((1 + j * 39) + (1 + 3 * (((1 + 1 + 2) + (1 + 1 + 2) + 2) + 2)) + 2) (fanQ (tameQ Xox Dox, tameQ Xoy Doy) P j + areaQ [(tameQ Xox Dox, tameQ Xoy Doy), (x, y), (x', y')]))) → ((lb15 = true → lb14 = true)) → ((lb16 = true → lb0 = true)) → ((lb16 = true → lb15 = true)) → CC) → CC := ⟨_, fun _ _ _ => Iff.rfl⟩
            refine wpAnyH_until IVq ?_ _ _ _ _ ((hIVq _ _ _).2 (fun CC kk => kk false false false false (aq.tmps.getD 37 undef) (aq.tmps.getD 51 undef) (aq.tmps.getD 52 undef) (aq.tmps.getD 53 undef) false none 0 0 none 0 0 false none 0 0 none 0 0 0 rfl (by simp only [put_same]) zF (fun h => by cases h) (fun h => by cases h) (fun h => by cases h) (fun h => by cases h) (fun h => by cases h) (fun h => by cases h) (fun h => by cases h))) (by kernel_rfl)
            clear zF
            intro ll aa w7 hI
            refine (hIVq _ _ _).1 hI _ ?_
            clear hI
            intro lb0 lb14 lb15 lb16 lv0 lv14 lv15 lv16 m8 o8 n8 c8 p8 k8 d8 m9 o9 n9 c9 p9 k9 d9 gpz hll haa zF F0 F14 F15 F16 dp15_14 dp16_0 dp16_15
            subst hll haa
            by_cases hL : lb0 = true ∧ lb14 = true ∧ lb15 = true ∧ lb16 = true
            · left
              obtain ⟨rfl, rfl, rfl, rfl⟩ := hL
              obtain rfl := F0 rfl
              clear F0
              obtain ⟨rfl, pz_0, hgpz⟩ := F14 rfl
              clear F14
              obtain ⟨rfl, f8_0⟩ := F15 rfl
              clear F15
              obtain ⟨rfl, f9_0⟩ := F16 rfl
              clear F16
              clear dp15_14 dp16_0 dp16_15
              show wpAnyH _ _ _ _ _ 1 _ _ _
              rw [HAq.out]
              try simp only [Act.put]
              try simp only [List.setIfInBounds_toArray, List.set_cons_zero, List.set_cons_succ]
              obtain ⟨hB_0, ps_0, f1x_0, f1y_0, row_0, sr_0, rq_0, sq_0, pm_0, f5_0, da_0, db_0, f6x_0, f6y_0, f7x_0, f7y_0, hWq_0⟩ := (hFFq _).1 zF
              clear zF
              clear hWq_0
              obtain ⟨sf1a, sf1b, sf1c, sf1d, sf1e, sf1f⟩ := pm_0.open3
              obtain ⟨sg1a, sg1b, sg1c, sg1d⟩ := Box.put3 pm_0 (.bool m9) (.slice o9 n9 c9)
              refine reg_call 17 ?_ (by kernel_rfl) ?_ (fun K hK => ?_)
              rotate_left 1
              · simp only [List.getElem?_toArray, List.getElem?_cons_succ, List.getElem?_cons_zero]; exact rfl
              go_simp
              have hB_1 := below_setAll hB_0 (g := w5.heap.size) (by omega) [.bool m9, .slice o9 n9 c9, .slice p9 k9 d9]
              have ps_1 := ps_0.farAll (g' := w5.heap.size) (by omega) [.bool m9, .slice o9 n9 c9, .slice p9 k9 d9]
              have f1x_1 := f1x_0.setAll pm_0 (noWord3 _ _ _ _ _ _ _) [.bool m9, .slice o9 n9 c9, .slice p9 k9 d9] rfl
              have f1y_1 := f1y_0.setAll pm_0 (noWord3 _ _ _ _ _ _ _) [.bool m9, .slice o9 n9 c9, .slice p9 k9 d9] rfl
              have row_1 := RowN.farFrom (g' := w5.heap.size) (fun g hg => by have h1 := row_0.lt g hg; first | omega | (have h2 := hul g hg; omega)) [.bool m9, .slice o9 n9 c9, .slice p9 k9 d9] 0 row_0
              have sr_1 := sr_0.setAll pm_0 (noWord3 _ _ _ _ _ _ _) [.bool m9, .slice o9 n9 c9, .slice p9 k9 d9] rfl
              have rq_1 := RowN.farFrom (g' := w5.heap.size) (fun g hg => by have h1 := rq_0.lt g hg; first | omega | (have h2 := hul g hg; omega)) [.bool m9, .slice o9 n9 c9, .slice p9 k9 d9] 0 rq_0
              have sq_1 := sq_0.setAll pm_0 (noWord3 _ _ _ _ _ _ _) [.bool m9, .slice o9 n9 c9, .slice p9 k9 d9] rfl
              have f5_1 := f5_0.setAll pm_0 (noWord3 _ _ _ _ _ _ _) [.bool m9, .slice o9 n9 c9, .slice p9 k9 d9] rfl
              have da_1 := da_0.farAll (g' := w5.heap.size) (by omega) [.bool m9, .slice o9 n9 c9, .slice p9 k9 d9]
              have db_1 := db_0.farAll (g' := w5.heap.size) (by omega) [.bool m9, .slice o9 n9 c9, .slice p9 k9 d9]
              have f6x_1 := f6x_0.setAll pm_0 (noWord3 _ _ _ _ _ _ _) [.bool m9, .slice o9 n9 c9, .slice p9 k9 d9] rfl
              have f6y_1 := f6y_0.setAll pm_0 (noWord3 _ _ _ _ _ _ _) [.bool m9, .slice o9 n9 c9, .slice p9 k9 d9] rfl
              have f7x_1 := f7x_0.setAll pm_0 (noWord3 _ _ _ _ _ _ _) [.bool m9, .slice o9 n9 c9, .slice p9 k9 d9] rfl
              have f7y_1 := f7y_0.setAll pm_0 (noWord3 _ _ _ _ _ _ _) [.bool m9, .slice o9 n9 c9, .slice p9 k9 d9] rfl
              have pz_1 := pz_0.farAll (g' := w5.heap.size) (by omega) [.bool m9, .slice o9 n9 c9, .slice p9 k9 d9]
              have f8_1 := f8_0.setAll pm_0 (noWord3 _ _ _ _ _ _ _) [.bool m9, .slice o9 n9 c9, .slice p9 k9 d9] rfl
              have f9_1 := f9_0.setAll pm_0 (noWord3 _ _ _ _ _ _ _) [.bool m9, .slice o9 n9 c9, .slice p9 k9 d9] rfl
              have pm_1 := pm_0.setAll [.bool m9, .slice o9 n9 c9, .slice p9 k9 d9] rfl
              simp only [setAll, Nat.zero_add, Nat.reduceAdd] at hB_1 ps_1 f1x_1 f1y_1 row_1 sr_1 rq_1 sq_1 pm_1 f5_1 da_1 db_1 f6x_1 f6y_1 f7x_1 f7y_1 pz_1 f8_1 f9_1
              clear sf1a sf1b sf1c sf1d sf1e sf1f sg1a sg1b sg1c sg1d
              clear hB_0 ps_0 f1x_0 f1y_0 row_0 sr_0 rq_0 sq_0 f5_0 da_0 db_0 f6x_0 f6y_0 f7x_0 f7y_0 pz_0 f8_0 f9_0 pm_0
              refine hK.out _ _ ⟨ps_1.c0, ps_1.c1, ps_1.c2, ps_1.c3, ps_1.c4, ps_1.c5, da_1.c0, da_1.c1, da_1.c2, da_1.c3, da_1.c4, da_1.c5, db_1.c0, db_1.c1, db_1.c2, db_1.c3, db_1.c4, db_1.c5⟩ (fun hHeld => ?_)
              clear hK K
              try simp only [Act.put]
              try simp only [List.setIfInBounds_toArray, List.set_cons_zero, List.set_cons_succ]
              generalize (World.setCell (World.setCell (World.setCell w7 ⟨w5.heap.size, 0, none⟩ (.bool m9)) ⟨w5.heap.size, 1, none⟩ (.slice o9 n9 c9)) ⟨w5.heap.size, 2, none⟩ (.slice p9 k9 d9)) = w8 at *
              refine wpAnyH_done (by kernel_rfl) ?_ _
              refine NoPanic.normal ?_
              have hzz := pz_1.lt
              clear f5_1 f8_1 pz_1 db_1 f7x_1 f7y_1
              obtain ⟨d0, d1, d2, d3, d4, d5⟩ := da_1
              have hl1ps := ps_1.lt
              have hl1pm := pm_1.lt
              have hl1B := hB_1.size
              obtain ⟨w9, hw9, pe_0, hb9, hs9⟩ := new_box w8 (w8.heap.size) rfl [.bool m6x, .slice o6x n6x c6x, .slice p6x k6x d6x, .bool m6y, .slice o6y n6y c6y, .slice p6y k6y d6y] 33
              have hb9' : Below w8.heap.size w8 w9 := hb9.mono (by omega)
              clear hb9
              have hB_2 := hB_1.trans (hb9'.mono hB_1.size)
              have ps_2 := ps_1.below hb9'
              have f1x_2 := f1x_1.below hb9'
              have f1y_2 := f1y_1.below hb9'
              have row_2 := row_1.below hb9'
              have sr_2 := sr_1.below hb9'
              have rq_2 := rq_1.below hb9'
              have sq_2 := sq_1.below hb9'
              have pm_2 := pm_1.below hb9'
              have f6x_2 := f6x_1.below hb9'
              have f6y_2 := f6y_1.below hb9'
              have f9_2 := f9_1.below hb9'
              clear hb9' hB_1 ps_1 f1x_1 f1y_1 row_1 sr_1 rq_1 sq_1 pm_1 f6x_1 f6y_1 f9_1
              have hlim : w6.heap.size ≤ w9.heap.size := by have := pe_0.lt; omega
              have hzps := ps_2.lt
              have hzpm := pm_2.lt
              have rowe : RowN w9 w6.heap.size 33 6 (.slice (some ⟨w8.heap.size, 0, none⟩) 1 1) 1 [.bool m6x, .slice o6x n6x c6x, .slice p6x k6x d6x, .bool m6y, .slice o6y n6y c6y, .slice p6y k6y d6y] := RowN.made hw9 (by omega) rfl (by unfold maxLen; omega) (noWord6 _ _ _ _ _ _ _ _ _ _ _ _ _ _)
              have hre : ∀ g, (Value.slice (some ⟨w8.heap.size, 0, none⟩) 1 1).ownBlock = some g → g = w8.heap.size := fun g hg => by simpa [Value.ownBlock] using hg.symm
              by_cases hj0 : j = 0
              · subst hj0
                obtain rfl := hv0 rfl
                have hrun := run_append_none (P := Try.prog) w9 52 52 33 i0 (by kernel_rfl) HI.out (w8.heap.size) 1 1 (Nat.le_refl _)
                have hys : ys = [] := by have := rq_2.1; exact List.eq_nil_of_length_eq_zero (by omega)
                subst hys
                go_wp2_with (refine wpList_append_row rfl _ _ 52 rfl rfl rfl hrun ?_)
                try rw [hw9]
                refine ⟨⟨0 + 1, _, _, by omega, by go_num, rfl, fun h => absurd h (by omega), rowe, ?_, hB_2, ps_2, f1x_2, f1y_2, row_2, sr_2, hlim, _, _, _, _, _, _, _, pm_2, ?_⟩, by simp [intOf]; omega⟩
                · rw [HREV.out]; exact (Sr.one f6x_2 f6y_2).append sq_2
                · rw [HF.out]; exact f9_2.more (by omega)
              · obtain ⟨gq, cq, hvq⟩ : ∃ gq cq, v = .slice (some ⟨gq, 0, none⟩) j cq := by
                  rcases rq_2.2 with ⟨_, h⟩ | ⟨g, cap, _, h, _⟩
                  · exact absurd h hj0
                  · exact ⟨g, cap, h⟩
                subst hvq
                obtain ⟨v1, wa, hrun, rown, hgrow, hkept⟩ := run_append_row (P := Try.prog) w9 w6.heap.size 52 52 33 i0 (.agg #[.bool false, .slice none 0 0, .slice none 0 0, .bool false, .slice none 0 0, .slice none 0 0]) 6 112 (by kernel_rfl) HI.out HZ0.out HZ1.out HZ2.out rfl (noWord6 _ _ _ _ _ _ _ _ _ _ _ _ _ _) _ 1 _ rowe ⟨gq, 0, none⟩ j cq ys (by omega) rq_2.1 (fun a u hu => by rw [addr_add, Nat.zero_add]; exact rq_2.cells rfl a u hu) sq_2.1 sq_2.2.1 (by unfold maxLen; omega) (by omega) hlim
                go_wp2_with (refine wpList_append_row rfl _ _ 52 rfl rfl rfl hrun ?_)
                clear rq_2 hrun
                have hsw := hgrow.size
                have hrz : ∀ g, (Value.slice (some ⟨w8.heap.size, 0, none⟩) 1 1).ownBlock = some g → w6.heap.size ≤ g ∧ g = w8.heap.size := fun g hg => by have := hre g hg; have := rowe.lt g hg; omega
                have hB_3 := hB_2.grown hgrow (by have := hB_2.size; omega) (fun k hk => by have := hrz k hk; omega)
                have ps_3 := ps_2.grown hgrow (fun e => by have := hrz _ e; omega) ps_2.lt
                have f1x_3 := f1x_2.kept hkept
                have f1y_3 := f1y_2.kept hkept
                have row_3 := row_2.grown hgrow (fun k hk e => by have h1 := hul k hk; have h2 := hrz k e.symm; omega)
                have sr_3 := sr_2.kept hkept
                have sq_3 := sq_2.kept hkept
                have pm_3 := pm_2.grown hgrow (fun e => by have := hrz _ e; omega) pm_2.lt
                have f6x_3 := f6x_2.kept hkept
                have f6y_3 := f6y_2.kept hkept
                have f9_3 := f9_2.kept hkept
                clear hB_2 ps_2 f1x_2 f1y_2 row_2 sr_2 sq_2 pm_2 f6x_2 f6y_2 f9_2
                refine ⟨⟨j + 1, _, _, by omega, by go_num, rfl, fun h => absurd h (by omega), Nat.add_comm 1 j ▸ rown, ?_, hB_3, ps_3, f1x_3, f1y_3, row_3, sr_3, by omega, _, _, _, _, _, _, _, pm_3, ?_⟩, by simp [intOf]; omega⟩
                · rw [HREV.out]; exact (Sr.one f6x_3 f6y_3).append sq_3
                · rw [HF.out]; exact f9_3.more (by omega)
            · right
              refine ⟨?_, fun i hi => ?_⟩
              · clear zF F0 F14 F15 F16
                cases lb0
                · exact ready_of 0 _ rfl rfl (by kernel_rfl)
                cases lb14
                · exact ready_of 14 _ rfl rfl (by kernel_rfl)
                cases lb15
                · exact ready_of 15 _ rfl rfl (by kernel_rfl)
                cases lb16
                · exact ready_of 16 _ rfl rfl (by kernel_rfl)
                exact absurd ⟨rfl, rfl, rfl, rfl⟩ hL
              have hd : (lb0 = false ∧ i = 0) ∨ (lb14 = false ∧ i = 14) ∨ (lb15 = false ∧ lb14 = true ∧ i = 15) ∨ (lb16 = false ∧ lb0 = true ∧ lb15 = true ∧ i = 16) := by
                have hin := ready_lt hi
                obtain rfl | rfl | rfl | rfl | rfl | rfl | rfl | rfl | rfl | rfl | rfl | rfl | rfl | rfl | rfl | rfl | rfl | rfl : i = 0 ∨ i = 1 ∨ i = 2 ∨ i = 3 ∨ i = 4 ∨ i = 5 ∨ i = 6 ∨ i = 7 ∨ i = 8 ∨ i = 9 ∨ i = 10 ∨ i = 11 ∨ i = 12 ∨ i = 13 ∨ i = 14 ∨ i = 15 ∨ i = 16 ∨ i = 17 := by have hin' : i < 18 := hin; omega
                · exact .inl ⟨ready_off hi, rfl⟩
                · exact absurd (ready_off hi) (fun h => Bool.noConfusion (show true = false from h))
                · exact absurd (ready_off hi) (fun h => Bool.noConfusion (show true = false from h))
                · exact absurd (ready_off hi) (fun h => Bool.noConfusion (show true = false from h))
                · exact absurd (ready_off hi) (fun h => Bool.noConfusion (show true = false from h))
                · exact absurd (ready_off hi) (fun h => Bool.noConfusion (show true = false from h))
                · exact absurd (ready_off hi) (fun h => Bool.noConfusion (show true = false from h))
                · exact absurd (ready_off hi) (fun h => Bool.noConfusion (show true = false from h))
                · exact absurd (ready_off hi) (fun h => Bool.noConfusion (show true = false from h))
                · exact absurd (ready_off hi) (fun h => Bool.noConfusion (show true = false from h))
                · exact absurd (ready_off hi) (fun h => Bool.noConfusion (show true = false from h))
                · exact absurd (ready_off hi) (fun h => Bool.noConfusion (show true = false from h))
                · exact absurd (ready_off hi) (fun h => Bool.noConfusion (show true = false from h))
                · exact absurd (ready_off hi) (fun h => Bool.noConfusion (show true = false from h))
                · exact .inr (.inl ⟨ready_off hi, rfl⟩)
                · exact .inr (.inr (.inl ⟨ready_off hi, ready_dep (d := 14) hi (by kernel_rfl), rfl⟩))
                · exact .inr (.inr (.inr (⟨ready_off hi, ready_dep (d := 0) hi (by kernel_rfl), ready_dep (d := 15) hi (by kernel_rfl), rfl⟩)))
                · have k16 : lb16 = true := ready_dep (d := 16) hi (by kernel_rfl); have k0 : lb0 = true := ready_dep (d := 0) hi (by kernel_rfl); have k14 : lb14 = true := ready_dep (d := 14) hi (by kernel_rfl); have k15 : lb15 = true := ready_dep (d := 15) hi (by kernel_rfl)
                  exact absurd ⟨k0, k14, k15, k16⟩ hL
              clear hi hL
              rcases hd with ⟨rfl, rfl⟩ | ⟨rfl, rfl⟩ | ⟨rfl, rfl, rfl⟩ | ⟨rfl, rfl, rfl, rfl⟩
              · obtain ⟨-, -, -, -, -, -, -, -, pm_0, -, -, -, -, -, -, -, -⟩ := (hFFq _).1 zF
                obtain ⟨pme0, pme1, pme2, pme3, pme4, pme5⟩ := pm_0.open3
                refine step_of 0 ?_ ?_ (fun K hK => ?_)
                rotate_left 1
                · simp only [List.getElem?_toArray, List.getElem?_cons_zero]; exact rfl
                rw [HAq.out]
                try simp only [Act.put]
                try simp only [List.setIfInBounds_toArray, List.set_cons_zero, List.set_cons_succ]
                go_simp
                refine hK.out _ _ (sFq zF) ?_
                exact (hIVq _ _ _).2 (fun CC kk => kk true lb14 lb15 lb16 (.agg #[.bool m5, .slice o5 n5 c5, .slice p5 k5 d5]) lv14 lv15 lv16 m8 o8 n8 c8 p8 k8 d8 m9 o9 n9 c9 p9 k9 d9 gpz rfl (by simp only [HAq.out, Act.put, List.setIfInBounds_toArray, List.set_cons_zero, List.set_cons_succ]) zF (fun _ => rfl) F14 F15 (fun h => absurd (dp16_0 h) (by decide)) dp15_14 (fun _ => rfl) dp16_15)
              · refine step_of 14 ?_ ?_ (fun K hK => ?_)
                rotate_left 1
                · simp only [List.getElem?_toArray, List.getElem?_cons_succ, List.getElem?_cons_zero]; exact rfl
                rw [HAq.out]
                try simp only [Act.put]
                try simp only [List.setIfInBounds_toArray, List.set_cons_zero, List.set_cons_succ]
                go_simp
                have hgn := mFq zF
                obtain ⟨wn, hwn, pz_0, hb, -⟩ := new_box w7 _ rfl [.bool m1x, .slice o1x n1x c1x, .slice p1x k1x d1x, .bool m1y, .slice o1y n1y c1y, .slice p1y k1y d1y, .bool m6x, .slice o6x n6x c6x, .slice p6x k6x d6x, .bool m6y, .slice o6y n6y c6y, .slice p6y k6y d6y, .bool m7x, .slice o7x n7x c7x, .slice p7x k7x d7x, .bool m7y, .slice o7y n7y c7y, .slice p7y k7y d7y] 33
                rw [hwn]
                refine hK.out _ _ (sFq (cFq zF hb)) ?_
                exact (hIVq _ _ _).2 (fun CC kk => kk lb0 true lb15 lb16 lv0 (.slice (some ⟨w7.heap.size, 0, none⟩) 3 3) lv15 lv16 m8 o8 n8 c8 p8 k8 d8 m9 o9 n9 c9 p9 k9 d9 w7.heap.size rfl (by simp only [HAq.out, Act.put, List.setIfInBounds_toArray, List.set_cons_zero, List.set_cons_succ]) (cFq zF hb) F0 (fun _ => ⟨rfl, pz_0, hgn⟩) (fun h => absurd (dp15_14 h) (by decide)) (fun h => absurd (dp15_14 (dp16_15 h)) (by decide)) (fun _ => rfl) dp16_0 dp16_15)
              · obtain ⟨rfl, pz_0, hgpz⟩ := F14 rfl
                clear F14
                obtain ⟨-, -, f1x_0, f1y_0, -, -, -, -, -, -, -, -, f6x_0, f6y_0, f7x_0, f7y_0, -⟩ := (hFFq _).1 zF
                refine step_of 15 ?_ ?_ (fun K hK => ?_)
                rotate_left 1
                · simp only [List.getElem?_toArray, List.getElem?_cons_succ, List.getElem?_cons_zero]; exact rfl
                rw [HAq.out]
                try simp only [Act.put]
                try simp only [List.setIfInBounds_toArray, List.set_cons_zero, List.set_cons_succ]
                go_simp
                refine (sArea2_three 1 _ _ _ _ _ _ _ (by omega) pz_0 f1x_0.q f1y_0.q f6x_0 f6y_0 f7x_0 f7y_0).mono ?_
                rintro e w10 ⟨m8, o8, n8, c8, p8, k8, d8, rfl, f8_0, hb⟩
                go_wp2_with fail
                refine hK.out _ _ (sFq (cFq zF hb)) ?_
                exact (hIVq _ _ _).2 (fun CC kk => kk lb0 true true lb16 lv0 _ (.agg #[.bool m8, .slice o8 n8 c8, .slice p8 k8 d8]) lv16 m8 o8 n8 c8 p8 k8 d8 m9 o9 n9 c9 p9 k9 d9 gpz rfl (by simp only [HAq.out, Act.put, List.setIfInBounds_toArray, List.set_cons_zero, List.set_cons_succ]) (cFq zF hb) F0 (fun _ => ⟨rfl, pz_0.below hb, hgpz⟩) (fun _ => ⟨rfl, f8_0⟩) (fun h => absurd (dp16_15 h) (by decide)) (fun _ => rfl) dp16_0 (fun _ => rfl))
              · obtain rfl := dp15_14 rfl
                obtain rfl := F0 rfl
                clear F0
                obtain ⟨rfl, pz_0, hgpz⟩ := F14 rfl
                clear F14
                obtain ⟨rfl, f8_0⟩ := F15 rfl
                clear F15
                obtain ⟨-, -, -, -, -, -, -, -, -, f5_0, -, -, -, -, -, -, -⟩ := (hFFq _).1 zF
                refine step_of 16 ?_ ?_ (fun K hK => ?_)
                rotate_left 1
                · simp only [List.getElem?_toArray, List.getElem?_cons_succ, List.getElem?_cons_zero]; exact rfl
                rw [HAq.out]
                try simp only [Act.put]
                try simp only [List.setIfInBounds_toArray, List.set_cons_zero, List.set_cons_succ]
                go_simp
                refine (qAdd _ _ (1 + j * 39) (1 + 3 * (((1 + 1 + 2) + (1 + 1 + 2) + 2) + 2)) _ _ _ (by omega) (by omega) f5_0.q f8_0.q).mono ?_
                rintro e w11 ⟨m9, o9, n9, c9, p9, k9, d9, rfl, f9_0, hb⟩
                go_wp2_with fail
                refine hK.out _ _ (sFq (cFq zF hb)) ?_
                exact (hIVq _ _ _).2 (fun CC kk => kk true true true true _ _ _ (.agg #[.bool m9, .slice o9 n9 c9, .slice p9 k9 d9]) m8 o8 n8 c8 p8 k8 d8 m9 o9 n9 c9 p9 k9 d9 gpz rfl (by simp only [HAq.out, Act.put, List.setIfInBounds_toArray, List.set_cons_zero, List.set_cons_succ]) (cFq zF hb) (fun _ => rfl) (fun _ => ⟨rfl, pz_0.below hb, hgpz⟩) (fun _ => ⟨rfl, f8_0.below hb⟩) (fun _ => ⟨rfl, f9_0⟩) (fun _ => rfl) (fun _ => rfl) (fun _ => rfl))
          · obtain rfl : j = k := by omega
            have htk2 : P.take j = P := List.take_of_length_le (by rw [HPL.out]; exact Nat.le_refl _)
            rw [htk2] at sq_0
            obtain ⟨po, pc, hpu, spp_0⟩ := sr_0.spots row_0 HPL.out
            obtain ⟨qo, qc, hqv, spq_0⟩ := sq_0.spots rq_0 (by rw [List.length_reverse]; exact HPL.out)
            subst hqv
            clear rq_0 sq_0
            simp only [Value.slice.injEq, true_and] at hpu
            obtain ⟨rfl, rfl⟩ := hpu
            go_wp2_with fail
            refine (sArea2_any uo j uc P 1 _ HPL.out (by omega) (by omega) spp_0).mono ?_
            rintro e w7 ⟨m10, o10, n10, c10, p10, k10, d10, rfl, f10_0, hb7⟩
            have hB_1 := hB_0.trans (hb7.mono hB_0.size)
            have ps_1 := ps_0.below hb7
            have f1x_1 := f1x_0.below hb7
            have f1y_1 := f1y_0.below hb7
            have row_1 := row_0.below hb7
            have sr_1 := sr_0.below hb7
            have pm_1 := pm_0.below hb7
            have f5_1 := f5_0.below hb7
            have spp_1 := spp_0.below hb7
            have spq_1 := spq_0.below hb7
            clear hb7 hB_0 ps_0 f1x_0 f1y_0 row_0 sr_0 pm_0 f5_0 spp_0 spq_0
            have hl1ps := ps_1.lt
            have hl1pm := pm_1.lt
            have hl1B := hB_1.size
            obtain ⟨w8, hw8, pA_0, hb8, hs8⟩ := new_box w7 (w7.heap.size) rfl [.bool m10, .slice o10 n10 c10, .slice p10 k10 d10] 31
            have hb8' : Below w7.heap.size w7 w8 := hb8.mono (by omega)
            clear hb8
            have hB_2 := hB_1.trans (hb8'.mono hB_1.size)
            have ps_2 := ps_1.below hb8'
            have f1x_2 := f1x_1.below hb8'
            have f1y_2 := f1y_1.below hb8'
            have row_2 := row_1.below hb8'
            have sr_2 := sr_1.below hb8'
            have pm_2 := pm_1.below hb8'
            have f5_2 := f5_1.below hb8'
            have spp_2 := spp_1.below hb8'
            have spq_2 := spq_1.below hb8'
            have f10_1 := f10_0.below hb8'
            clear hb8' hB_1 ps_1 f1x_1 f1y_1 row_1 sr_1 pm_1 f5_1 spp_1 spq_1 f10_0
            go_wp2
            try rw [hw8]
            have hP7 : P.length ≤ 7 := by rw [HPL.out]; omega
            have hfan := fan_all (tameQ Xox Dox, tameQ Xoy Doy) P hP7
            rw [HPL.out] at hfan
            have hback := back_all P hP7
            have HFAN := Lib.hid hfan; have HBACK := Lib.hid hback; clear hfan hback
            have hB_3 := hB_2.drew'
            have ps_3 := ps_2.drew
            have f1x_3 := f1x_2.drew
            have f1y_3 := f1y_2.drew
            have row_3 := row_2.drew
            have sr_3 := sr_2.drew
            have pm_3 := pm_2.drew
            have f5_3 := f5_2.drew
            have spp_3 := spp_2.drew
            have spq_3 := spq_2.drew
            have f10_2 := f10_1.drew
            have pA_1 := pA_0.drew
            clear hB_2 ps_2 f1x_2 f1y_2 row_2 sr_2 pm_2 f5_2 spp_2 spq_2 f10_1 pA_0
            go_region_held3 (fun w' => w'.cell? ⟨w7.heap.size, 0, none⟩ = some (.bool m10) ∧ w'.cell? ⟨w7.heap.size, 1, none⟩ = some (.slice o10 n10 c10) ∧ w'.cell? ⟨w7.heap.size, 2, none⟩ = some (.slice p10 k10 d10) ∧ w'.cell? ⟨w5.heap.size, 0, none⟩ = some (.bool m5) ∧ w'.cell? ⟨w5.heap.size, 1, none⟩ = some (.slice o5 n5 c5) ∧ w'.cell? ⟨w5.heap.size, 2, none⟩ = some (.slice p5 k5 d5))
              (first | with_reducible exact ⟨pA_1.c0, pA_1.c1, pA_1.c2, pm_3.c0, pm_3.c1, pm_3.c2⟩ | with_reducible exact ⟨pA_2.c0, pA_2.c1, pA_2.c2, pm_4.c0, pm_4.c1, pm_4.c2⟩ | with_reducible exact ⟨pA_3.c0, pA_3.c1, pA_3.c2, pm_5.c0, pm_5.c1, pm_5.c2⟩ | with_reducible exact ⟨pA_4.c0, pA_4.c1, pA_4.c2, pm_6.c0, pm_6.c1, pm_6.c2⟩ | with_reducible exact ⟨pA_5.c0, pA_5.c1, pA_5.c2, pm_7.c0, pm_7.c1, pm_7.c2⟩ | fail)
              (first
                | (go_at_call 16; (with_reducible refine (qSame_yes _ _ (1 + j * ((((1 + 1 + 2) + (1 + 1 + 2) + 2)) + 2)) (1 + j * 39) _ _ _ (by omega) (by omega) f10_2.q f5_3.q HFAN.out.symm).mono ?_); rintro e w9 ⟨rfl, hb9⟩; have hB_4 := hB_3.trans (hb9.mono hB_3.size); have ps_4 := ps_3.below hb9; have f1x_4 := f1x_3.below hb9; have f1y_4 := f1y_3.below hb9; have row_4 := row_3.below hb9; have sr_4 := sr_3.below hb9; have pm_4 := pm_3.below hb9; have f5_4 := f5_3.below hb9; have spp_4 := spp_3.below hb9; have spq_4 := spq_3.below hb9; have f10_3 := f10_2.below hb9; have pA_2 := pA_1.below hb9; clear hb9 hB_3 ps_3 f1x_3 f1y_3 row_3 sr_3 pm_3 f5_3 spp_3 spq_3 f10_2 pA_1)
                | (go_at_call 28; (with_reducible refine (sArea2_any qo j qc P.reverse 1 _ (by rw [List.length_reverse]; exact HPL.out) (by omega) (by omega) spq_4).mono ?_); rintro e w10 ⟨m11, o11, n11, c11, p11, k11, d11, rfl, f11_0, hb10⟩; have hB_5 := hB_4.trans (hb10.mono hB_4.size); have ps_5 := ps_4.below hb10; have f1x_5 := f1x_4.below hb10; have f1y_5 := f1y_4.below hb10; have row_5 := row_4.below hb10; have sr_5 := sr_4.below hb10; have pm_5 := pm_4.below hb10; have f5_5 := f5_4.below hb10; have spp_5 := spp_4.below hb10; have spq_5 := spq_4.below hb10; have f10_4 := f10_3.below hb10; have pA_3 := pA_2.below hb10; clear hb10 hB_4 ps_4 f1x_4 f1y_4 row_4 sr_4 pm_4 f5_4 spp_4 spq_4 f10_3 pA_2)
                | (go_at_call 29; (with_reducible refine (qNeg _ (1 + j * ((((1 + 1 + 2) + (1 + 1 + 2) + 2)) + 2)) _ _ (by omega) f10_4.q).mono ?_); rintro e w11 ⟨m12, o12, n12, c12, p12, k12, d12, rfl, f12_0, hb11⟩; have hB_6 := hB_5.trans (hb11.mono hB_5.size); have ps_6 := ps_5.below hb11; have f1x_6 := f1x_5.below hb11; have f1y_6 := f1y_5.below hb11; have row_6 := row_5.below hb11; have sr_6 := sr_5.below hb11; have pm_6 := pm_5.below hb11; have f5_6 := f5_5.below hb11; have spp_6 := spp_5.below hb11; have spq_6 := spq_5.below hb11; have f10_5 := f10_4.below hb11; have pA_4 := pA_3.below hb11; have f11_1 := f11_0.below hb11; clear hb11 hB_5 ps_5 f1x_5 f1y_5 row_5 sr_5 pm_5 f5_5 spp_5 spq_5 f10_4 pA_3 f11_0)
                | (go_at_call 16; (with_reducible refine (qSame_yes _ _ (1 + j * ((((1 + 1 + 2) + (1 + 1 + 2) + 2)) + 2)) (max (1 + j * ((((1 + 1 + 2) + (1 + 1 + 2) + 2)) + 2)) 1) _ _ _ (by omega) (by omega) f11_1.q f12_0.q HBACK.out).mono ?_); rintro e w12 ⟨rfl, hb12⟩; have hB_7 := hB_6.trans (hb12.mono hB_6.size); have ps_7 := ps_6.below hb12; have f1x_7 := f1x_6.below hb12; have f1y_7 := f1y_6.below hb12; have row_7 := row_6.below hb12; have sr_7 := sr_6.below hb12; have pm_7 := pm_6.below hb12; have f5_7 := f5_6.below hb12; have spp_7 := spp_6.below hb12; have spq_7 := spq_6.below hb12; have f10_6 := f10_5.below hb12; have pA_5 := pA_4.below hb12; have f11_2 := f11_1.below hb12; have f12_1 := f12_0.below hb12; clear hb12 hB_6 ps_6 f1x_6 f1y_6 row_6 sr_6 pm_6 f5_6 spp_6 spq_6 f10_5 pA_4 f11_1 f12_0))
            clear f11_2 f12_1 spq_7 pm_7 f5_7 spp_7
            go_wp2
            by_cases hj0 : j = 0
            · subst hj0
              have hB_8 := hB_7.drew'
              have ps_8 := ps_7.drew
              have f1x_8 := f1x_7.drew
              have f1y_8 := f1y_7.drew
              have row_8 := row_7.drew
              have sr_8 := sr_7.drew
              have f10_7 := f10_6.drew
              have pA_6 := pA_5.drew
              refine wp_region_noPanic ?_
              refine wp_region_held_drew (S := fun w' => w'.cell? ⟨w7.heap.size, 0, none⟩ = some (.bool m10) ∧ w'.cell? ⟨w7.heap.size, 1, none⟩ = some (.slice o10 n10 c10) ∧ w'.cell? ⟨w7.heap.size, 2, none⟩ = some (.slice p10 k10 d10)) (by kernel_rfl) (⟨pA_6.c0, pA_6.c1, pA_6.c2⟩) (fun hHeld => ?_)
              refine reg_take 0 ?_ ?_ ?_ (by kernel_rfl) (by kernel_rfl) (by kernel_rfl) (fun _ _ _ h => h) ?_ ?_ (by assumption) ?_
              rotate_left 2
              · simp only [List.getElem?_toArray, List.getElem?_cons_zero]; exact rfl
              · rfl
              · intro w hSw; (try dsimp only at hSw); go_simp; try with_reducible rfl
              try simp only [Act.put]
              try simp only [List.setIfInBounds_toArray, List.set_cons_zero, List.set_cons_succ]
              refine reg_take 1 ?_ ?_ ?_ (by kernel_rfl) (by kernel_rfl) (by kernel_rfl) (fun _ _ _ h => h) ?_ ?_ (by assumption) ?_
              rotate_left 2
              · simp only [List.getElem?_toArray, List.getElem?_cons_succ, List.getElem?_cons_zero]; exact rfl
              · rfl
              · intro w hSw; (try dsimp only at hSw); go_simp; try with_reducible rfl
              try simp only [Act.put]
              try simp only [List.setIfInBounds_toArray, List.set_cons_zero, List.set_cons_succ]
              refine reg_take 2 ?_ ?_ ?_ (by kernel_rfl) (by kernel_rfl) (by kernel_rfl) (fun _ _ _ h => h) ?_ ?_ (by assumption) ?_
              rotate_left 2
              · simp only [List.getElem?_toArray, List.getElem?_cons_succ, List.getElem?_cons_zero]; exact rfl
              · rfl
              · intro w hSw; (try dsimp only at hSw); go_simp; try with_reducible rfl
              try simp only [Act.put]
              try simp only [List.setIfInBounds_toArray, List.set_cons_zero, List.set_cons_succ]
              refine reg_take 3 ?_ ?_ ?_ (by kernel_rfl) (by kernel_rfl) (by kernel_rfl) (fun _ _ _ h => h) ?_ ?_ (by assumption) ?_
              rotate_left 2
              · simp only [List.getElem?_toArray, List.getElem?_cons_succ, List.getElem?_cons_zero]; exact rfl
              · rfl
              · intro w hSw; (try dsimp only at hSw); go_simp; try with_reducible rfl
              try simp only [Act.put]
              try simp only [List.setIfInBounds_toArray, List.set_cons_zero, List.set_cons_succ]
              refine reg_skip 4 ?_ ?_ (by kernel_rfl) (by kernel_rfl) (by kernel_rfl) (fun _ _ _ h => h) ?_ (by assumption) ?_
              rotate_left 1
              · simp only [List.getElem?_toArray, List.getElem?_cons_succ, List.getElem?_cons_zero]; exact rfl
              · rfl
              try simp only [Act.put]
              try simp only [List.setIfInBounds_toArray, List.set_cons_zero, List.set_cons_succ]
              refine reg_skip 5 ?_ ?_ (by kernel_rfl) (by kernel_rfl) (by kernel_rfl) (fun _ _ _ h => h) ?_ (by assumption) ?_
              rotate_left 1
              · simp only [List.getElem?_toArray, List.getElem?_cons_succ, List.getElem?_cons_zero]; exact rfl
              · rfl
              try simp only [Act.put]
              try simp only [List.setIfInBounds_toArray, List.set_cons_zero, List.set_cons_succ]
              refine reg_skip 6 ?_ ?_ (by kernel_rfl) (by kernel_rfl) (by kernel_rfl) (fun _ _ _ h => h) ?_ (by assumption) ?_
              rotate_left 1
              · simp only [List.getElem?_toArray, List.getElem?_cons_succ, List.getElem?_cons_zero]; exact rfl
              · rfl
              try simp only [Act.put]
              try simp only [List.setIfInBounds_toArray, List.set_cons_zero, List.set_cons_succ]
              refine reg_skip 7 ?_ ?_ (by kernel_rfl) (by kernel_rfl) (by kernel_rfl) (fun _ _ _ h => h) ?_ (by assumption) ?_
              rotate_left 1
              · simp only [List.getElem?_toArray, List.getElem?_cons_succ, List.getElem?_cons_zero]; exact rfl
              · rfl
              try simp only [Act.put]
              try simp only [List.setIfInBounds_toArray, List.set_cons_zero, List.set_cons_succ]
              refine reg_skip 8 ?_ ?_ (by kernel_rfl) (by kernel_rfl) (by kernel_rfl) (fun _ _ _ h => h) ?_ (by assumption) ?_
              rotate_left 1
              · simp only [List.getElem?_toArray, List.getElem?_cons_succ, List.getElem?_cons_zero]; exact rfl
              · rfl
              try simp only [Act.put]
              try simp only [List.setIfInBounds_toArray, List.set_cons_zero, List.set_cons_succ]
              refine reg_skip 9 ?_ ?_ (by kernel_rfl) (by kernel_rfl) (by kernel_rfl) (fun _ _ _ h => h) ?_ (by assumption) ?_
              rotate_left 1
              · simp only [List.getElem?_toArray, List.getElem?_cons_succ, List.getElem?_cons_zero]; exact rfl
              · rfl
              try simp only [Act.put]
              try simp only [List.setIfInBounds_toArray, List.set_cons_zero, List.set_cons_succ]
              refine reg_skip 10 ?_ ?_ (by kernel_rfl) (by kernel_rfl) (by kernel_rfl) (fun _ _ _ h => h) ?_ (by assumption) ?_
              rotate_left 1
              · simp only [List.getElem?_toArray, List.getElem?_cons_succ, List.getElem?_cons_zero]; exact rfl
              · rfl
              try simp only [Act.put]
              try simp only [List.setIfInBounds_toArray, List.set_cons_zero, List.set_cons_succ]
              refine reg_skip 11 ?_ ?_ (by kernel_rfl) (by kernel_rfl) (by kernel_rfl) (fun _ _ _ h => h) ?_ (by assumption) ?_
              rotate_left 1
              · simp only [List.getElem?_toArray, List.getElem?_cons_succ, List.getElem?_cons_zero]; exact rfl
              · rfl
              try simp only [Act.put]
              try simp only [List.setIfInBounds_toArray, List.set_cons_zero, List.set_cons_succ]
              refine reg_skip 12 ?_ ?_ (by kernel_rfl) (by kernel_rfl) (by kernel_rfl) (fun _ _ _ h => h) ?_ (by assumption) ?_
              rotate_left 1
              · simp only [List.getElem?_toArray, List.getElem?_cons_succ, List.getElem?_cons_zero]; exact rfl
              · rfl
              try simp only [Act.put]
              try simp only [List.setIfInBounds_toArray, List.set_cons_zero, List.set_cons_succ]
              refine reg_skip 13 ?_ ?_ (by kernel_rfl) (by kernel_rfl) (by kernel_rfl) (fun _ _ _ h => h) ?_ (by assumption) ?_
              rotate_left 1
              · simp only [List.getElem?_toArray, List.getElem?_cons_succ, List.getElem?_cons_zero]; exact rfl
              · rfl
              try simp only [Act.put]
              try simp only [List.setIfInBounds_toArray, List.set_cons_zero, List.set_cons_succ]
              refine reg_skip 14 ?_ ?_ (by kernel_rfl) (by kernel_rfl) (by kernel_rfl) (fun _ _ _ h => h) ?_ (by assumption) ?_
              rotate_left 1
              · simp only [List.getElem?_toArray, List.getElem?_cons_succ, List.getElem?_cons_zero]; exact rfl
              · rfl
              try simp only [Act.put]
              try simp only [List.setIfInBounds_toArray, List.set_cons_zero, List.set_cons_succ]
              refine reg_skip 15 ?_ ?_ (by kernel_rfl) (by kernel_rfl) (by kernel_rfl) (fun _ _ _ h => h) ?_ (by assumption) ?_
              rotate_left 1
              · simp only [List.getElem?_toArray, List.getElem?_cons_succ, List.getElem?_cons_zero]; exact rfl
              · rfl
              try simp only [Act.put]
              try simp only [List.setIfInBounds_toArray, List.set_cons_zero, List.set_cons_succ]
              refine reg_skip 16 ?_ ?_ (by kernel_rfl) (by kernel_rfl) (by kernel_rfl) (fun _ _ _ h => h) ?_ (by assumption) ?_
              rotate_left 1
              · simp only [List.getElem?_toArray, List.getElem?_cons_succ, List.getElem?_cons_zero]; exact rfl
              · rfl
              try simp only [Act.put]
              try simp only [List.setIfInBounds_toArray, List.set_cons_zero, List.set_cons_succ]
              refine reg_skip 17 ?_ ?_ (by kernel_rfl) (by kernel_rfl) (by kernel_rfl) (fun _ _ _ h => h) ?_ (by assumption) ?_
              rotate_left 1
              · simp only [List.getElem?_toArray, List.getElem?_cons_succ, List.getElem?_cons_zero]; exact rfl
              · rfl
              try simp only [Act.put]
              try simp only [List.setIfInBounds_toArray, List.set_cons_zero, List.set_cons_succ]
              refine reg_take 18 ?_ ?_ ?_ (by kernel_rfl) (by kernel_rfl) (by kernel_rfl) (fun _ _ _ h => h) ?_ ?_ (by assumption) ?_
              rotate_left 2
              · simp only [List.getElem?_toArray, List.getElem?_cons_succ, List.getElem?_cons_zero]; exact rfl
              · rfl
              · intro w hSw; (try dsimp only at hSw); go_simp; try with_reducible rfl
              try simp only [Act.put]
              try simp only [List.setIfInBounds_toArray, List.set_cons_zero, List.set_cons_succ]
              refine reg_take 19 ?_ ?_ ?_ (by kernel_rfl) (by kernel_rfl) (by kernel_rfl) (fun _ _ _ h => h) ?_ ?_ (by assumption) ?_
              rotate_left 2
              · simp only [List.getElem?_toArray, List.getElem?_cons_succ, List.getElem?_cons_zero]; exact rfl
              · rfl
              · intro w hSw; (try dsimp only at hSw); go_simp; try with_reducible rfl
              try simp only [Act.put]
              try simp only [List.setIfInBounds_toArray, List.set_cons_zero, List.set_cons_succ]
              refine wpAnyH_done (by kernel_rfl) ?_ _
              refine NoPanic.normal ?_
              go_wp2
              go_ret
              exact ⟨rfl, hB_8⟩
            · obtain ⟨n1, rfl⟩ : ∃ n1, j = n1 + 1 := ⟨j - 1, by omega⟩
              obtain ⟨⟨x, y⟩, P1, hPP⟩ : ∃ p P1, P = p :: P1 := by
                have := HPL.out
                cases P with
                | nil => simp at this
                | cons p P1 => exact ⟨p, P1, rfl⟩
              subst hPP
              obtain ⟨gp, cp, m6x, o6x, n6x, c6x, p6x, k6x, d6x, m6y, o6y, n6y, c6y, p6y, k6y, d6y, hpo, da_0, f6x_0, f6y_0⟩ := sr_7.at row_7 (i := 0) (x := x) (y := y) rfl
              simp only [Value.slice.injEq] at hpo
              obtain ⟨rfl, -, rfl⟩ := hpo
              rw [Nat.zero_mul] at da_0
              have hgp := hul gp rfl
              have hrow := row_7
              have hP1 : P1.length = n1 := by have := HPL.out; simpa using this
              obtain ⟨bo, hbo, hsl⟩ : ∃ bo : Addr, (∀ w1 : World, RowN w1 (w.heap.size + 1) 33 6 (Value.slice (some ⟨gp, 0, none⟩) (n1 + 1) uc) (n1 + 1) xs → ∀ a u, (xs.drop 6)[a]? = some u → w1.cell? (bo.add a) = some u) ∧ ∀ w : World, (Instr.slice 52 (Value.slice (some ⟨gp, 0, none⟩) (n1 + 1) uc) (some (Value.int .i64 1)) (some (Value.int .i64 ((n1 : Int) + 1))) (some (Value.int .i64 ((n1 : Int) + 1)))).run Try.prog w = Result.ok (Value.slice (some bo) n1 n1) w := by
                have hcap : n1 + 1 ≤ uc := by
                  rcases hrow.2 with ⟨h, _⟩ | ⟨_, cap, _, h, _, _, h4, _⟩
                  · cases h
                  · simp at h; omega
                have hl := hrow.1
                clear hrow
                cases n1 with
                | zero =>
                  refine ⟨⟨gp, 0, none⟩, fun w1 hr a u hu => ?_, fun w => ?_⟩
                  · rw [List.drop_eq_nil_of_le (by omega)] at hu
                    simp at hu
                  · have h1 : (1 : Int) ≤ (uc : Int) := by omega
                    simp [Instr.slice, Instr.sliceBounds, Instr.sliceBound, go_sem, h1]
                | succ m =>
                  refine ⟨⟨gp, 6, none⟩, fun w1 hr a u hu => ?_, fun w => ?_⟩
                  · rw [addr_add]
                    rw [List.getElem?_drop] at hu
                    exact hr.cells rfl _ _ hu
                  · have h1 : (m : Int) + 1 + 1 ≤ (uc : Int) := by omega
                    have h2 : (0 : Int) ≤ (m : Int) + 1 + 1 := by omega

                    have h4 : ((m : Int) + 1 + 1).toNat = m + 2 := by omega
                    have h5 : ¬ m + 2 = 1 := by omega
                    have h6 : (m : Int) + 1 + 1 ≤ (m : Int) + 2 := by omega
                    have h7 : (1 : Int) ≤ (m : Int) + 2 := by omega
                    simp [Instr.slice, Instr.sliceBounds, Instr.sliceBound, go_sem, h1, h2, h4, h5, h6, h7, Addr.add]
              have hstail := sr_7.tail
              clear hrow
              have hn2 : ¬ n1 + 1 = 0 := by omega
              have hn3 : ((n1 : Int) + 1 == 0) = false := by simp; omega
              have hn4 : (0 : Int) < (n1 : Int) + 1 := by omega
              have HP1 := Lib.hid hP1; clear hP1
              have st_0 := hstail; clear hstail
              have hB_8 := hB_7.drew'
              have ps_8 := ps_7.drew
              have f1x_8 := f1x_7.drew
              have f1y_8 := f1y_7.drew
              have row_8 := row_7.drew
              have sr_8 := sr_7.drew
              have f10_7 := f10_6.drew
              have pA_6 := pA_5.drew
              have da_1 := da_0.drew
              have st_1 := st_0.drew
              have f6x_1 := f6x_0.drew
              have f6y_1 := f6y_0.drew
              clear hB_7 ps_7 f1x_7 f1y_7 row_7 sr_7 f10_6 pA_5 da_0 st_0 f6x_0 f6y_0
              refine wp_region_noPanic ?_
              refine wp_region_held_drew (S := fun w' => w'.cell? ⟨gp, 0, none⟩ = some (.bool m6x) ∧ w'.cell? ⟨gp, 1, none⟩ = some (.slice o6x n6x c6x) ∧ w'.cell? ⟨gp, 2, none⟩ = some (.slice p6x k6x d6x) ∧ w'.cell? ⟨gp, 3, none⟩ = some (.bool m6y) ∧ w'.cell? ⟨gp, 4, none⟩ = some (.slice o6y n6y c6y) ∧ w'.cell? ⟨gp, 5, none⟩ = some (.slice p6y k6y d6y) ∧ w'.cell? ⟨w7.heap.size, 0, none⟩ = some (.bool m10) ∧ w'.cell? ⟨w7.heap.size, 1, none⟩ = some (.slice o10 n10 c10) ∧ w'.cell? ⟨w7.heap.size, 2, none⟩ = some (.slice p10 k10 d10)) (by kernel_rfl) (⟨da_1.c0, da_1.c1, da_1.c2, da_1.c3, da_1.c4, da_1.c5, pA_6.c0, pA_6.c1, pA_6.c2⟩) (fun hHeld => ?_)
              generalize w12.drew = w13 at *
              refine reg_take 0 ?_ ?_ ?_ (by kernel_rfl) (by kernel_rfl) (by kernel_rfl) (fun _ _ _ h => h) ?_ ?_ (by assumption) ?_
              rotate_left 2
              · simp only [List.getElem?_toArray, List.getElem?_cons_zero]; exact rfl
              · rfl
              · intro w hSw; (try dsimp only at hSw); go_simp; try with_reducible rfl
              try simp only [Act.put]
              try simp only [List.setIfInBounds_toArray, List.set_cons_zero, List.set_cons_succ]
              refine reg_take 1 ?_ ?_ ?_ (by kernel_rfl) (by kernel_rfl) (by kernel_rfl) (fun _ _ _ h => h) ?_ ?_ (by assumption) ?_
              rotate_left 2
              · simp only [List.getElem?_toArray, List.getElem?_cons_succ, List.getElem?_cons_zero]; exact rfl
              · rfl
              · intro w hSw; (try dsimp only at hSw); go_simp; try with_reducible rfl
              try simp only [Act.put]
              try simp only [List.setIfInBounds_toArray, List.set_cons_zero, List.set_cons_succ]
              refine reg_take 2 ?_ ?_ ?_ (by kernel_rfl) (by kernel_rfl) (by kernel_rfl) (fun _ _ _ h => h) ?_ ?_ (by assumption) ?_
              rotate_left 2
              · simp only [List.getElem?_toArray, List.getElem?_cons_succ, List.getElem?_cons_zero]; exact rfl
              · rfl
              · intro w hSw; (try dsimp only at hSw); go_simp; try with_reducible rfl
              try simp only [Act.put]
              try simp only [List.setIfInBounds_toArray, List.set_cons_zero, List.set_cons_succ]
              refine reg_take 3 ?_ ?_ ?_ (by kernel_rfl) (by kernel_rfl) (by kernel_rfl) (fun _ _ _ h => h) ?_ ?_ (by assumption) ?_
              rotate_left 2
              · simp only [List.getElem?_toArray, List.getElem?_cons_succ, List.getElem?_cons_zero]; exact rfl
              · rfl
              · intro w hSw; (try dsimp only at hSw); go_simp; try with_reducible rfl
              try simp only [Act.put]
              try simp only [List.setIfInBounds_toArray, List.set_cons_zero, List.set_cons_succ]
              refine reg_take 4 ?_ ?_ ?_ (by kernel_rfl) (by kernel_rfl) (by kernel_rfl) (fun _ _ _ h => h) ?_ ?_ (by assumption) ?_
              rotate_left 2
              · simp only [List.getElem?_toArray, List.getElem?_cons_succ, List.getElem?_cons_zero]; exact rfl
              · rfl
              · intro w hSw; (try dsimp only at hSw); go_simp; try with_reducible rfl
              try simp only [Act.put]
              try simp only [List.setIfInBounds_toArray, List.set_cons_zero, List.set_cons_succ]
              refine reg_take 5 ?_ ?_ ?_ (by kernel_rfl) (by kernel_rfl) (by kernel_rfl) (fun _ _ _ h => h) ?_ ?_ (by assumption) ?_
              rotate_left 2
              · simp only [List.getElem?_toArray, List.getElem?_cons_succ, List.getElem?_cons_zero]; exact rfl
              · rfl
              · intro w hSw; (try dsimp only at hSw); go_simp; try with_reducible rfl
              try simp only [Act.put]
              try simp only [List.setIfInBounds_toArray, List.set_cons_zero, List.set_cons_succ]
              refine reg_take 6 ?_ ?_ ?_ (by kernel_rfl) (by kernel_rfl) (by kernel_rfl) (fun _ _ _ h => h) ?_ ?_ (by assumption) ?_
              rotate_left 2
              · simp only [List.getElem?_toArray, List.getElem?_cons_succ, List.getElem?_cons_zero]; exact rfl
              · rfl
              · intro w hSw; (try dsimp only at hSw); go_simp; try with_reducible rfl
              try simp only [Act.put]
              try simp only [List.setIfInBounds_toArray, List.set_cons_zero, List.set_cons_succ]
              refine reg_take 7 ?_ ?_ ?_ (by kernel_rfl) (by kernel_rfl) (by kernel_rfl) (fun _ _ _ h => h) ?_ ?_ (by assumption) ?_
              rotate_left 2
              · simp only [List.getElem?_toArray, List.getElem?_cons_succ, List.getElem?_cons_zero]; exact rfl
              · rfl
              · intro w hSw; (try dsimp only at hSw); go_simp; try with_reducible rfl
              try simp only [Act.put]
              try simp only [List.setIfInBounds_toArray, List.set_cons_zero, List.set_cons_succ]
              refine reg_take 8 ?_ ?_ ?_ (by kernel_rfl) (by kernel_rfl) (by kernel_rfl) (fun _ _ _ h => h) ?_ ?_ (by assumption) ?_
              rotate_left 2
              · simp only [List.getElem?_toArray, List.getElem?_cons_succ, List.getElem?_cons_zero]; exact rfl
              · rfl
              · intro w hSw; (try dsimp only at hSw); go_simp; try with_reducible rfl
              try simp only [Act.put]
              try simp only [List.setIfInBounds_toArray, List.set_cons_zero, List.set_cons_succ]
              refine reg_take 9 ?_ ?_ ?_ (by kernel_rfl) (by kernel_rfl) (by kernel_rfl) (fun _ _ _ h => h) ?_ ?_ (by assumption) ?_
              rotate_left 2
              · simp only [List.getElem?_toArray, List.getElem?_cons_succ, List.getElem?_cons_zero]; exact rfl
              · rfl
              · intro w hSw; (try dsimp only at hSw); go_simp; try with_reducible rfl
              try simp only [Act.put]
              try simp only [List.setIfInBounds_toArray, List.set_cons_zero, List.set_cons_succ]
              refine reg_take 10 ?_ ?_ ?_ (by kernel_rfl) (by kernel_rfl) (by kernel_rfl) (fun _ _ _ h => h) ?_ ?_ (by assumption) ?_
              rotate_left 2
              · simp only [List.getElem?_toArray, List.getElem?_cons_succ, List.getElem?_cons_zero]; exact rfl
              · rfl
              · intro w hSw; (try dsimp only at hSw); go_simp; try with_reducible rfl
              try simp only [Act.put]
              try simp only [List.setIfInBounds_toArray, List.set_cons_zero, List.set_cons_succ]
              refine reg_take 11 ?_ ?_ ?_ (by kernel_rfl) (by kernel_rfl) (by kernel_rfl) (fun _ _ _ h => h) ?_ ?_ (by assumption) ?_
              rotate_left 2
              · simp only [List.getElem?_toArray, List.getElem?_cons_succ, List.getElem?_cons_zero]; exact rfl
              · rfl
              · intro w hSw; (try dsimp only at hSw); go_simp; try with_reducible rfl
              try simp only [Act.put]
              try simp only [List.setIfInBounds_toArray, List.set_cons_zero, List.set_cons_succ]
              refine reg_take 12 ?_ ?_ ?_ (by kernel_rfl) (by kernel_rfl) (by kernel_rfl) (fun _ _ _ h => h) ?_ ?_ (by assumption) ?_
              rotate_left 2
              · simp only [List.getElem?_toArray, List.getElem?_cons_succ, List.getElem?_cons_zero]; exact rfl
              · rfl
              · intro w hSw; (try dsimp only at hSw); go_simp; try with_reducible rfl
              try simp only [Act.put]
              try simp only [List.setIfInBounds_toArray, List.set_cons_zero, List.set_cons_succ]
              refine reg_take 16 ?_ ?_ ?_ (by kernel_rfl) (by kernel_rfl) (by kernel_rfl) (fun _ _ _ h => h) ?_ ?_ (by assumption) ?_
              rotate_left 2
              · simp only [List.getElem?_toArray, List.getElem?_cons_succ, List.getElem?_cons_zero]; exact rfl
              · rfl
              · intro w hSw; (try dsimp only at hSw); go_simp; try with_reducible rfl
              try simp only [Act.put]
              try simp only [List.setIfInBounds_toArray, List.set_cons_zero, List.set_cons_succ]
              refine reg_call 13 ?_ (by kernel_rfl) ?_ (fun K hK => ?_)
              rotate_left 1
              · simp only [List.getElem?_toArray, List.getElem?_cons_succ, List.getElem?_cons_zero]; exact rfl
              go_simp
              obtain ⟨w14, hwz, pz_0, hbz, -⟩ := new_box w13 _ rfl [.bool m6x, .slice o6x n6x c6x, .slice p6x k6x d6x, .bool m6y, .slice o6y n6y c6y, .slice p6y k6y d6y] 33
              rw [hwz]
              clear hwz
              have hB_9 := hB_8.trans (hbz.mono hB_8.size)
              have ps_9 := ps_8.below hbz
              have f1x_9 := f1x_8.below hbz
              have f1y_9 := f1y_8.below hbz
              have row_9 := row_8.below hbz
              have sr_9 := sr_8.below hbz
              have f10_8 := f10_7.below hbz
              have pA_7 := pA_6.below hbz
              have da_2 := da_1.below hbz
              have st_2 := st_1.below hbz
              have f6x_2 := f6x_1.below hbz
              have f6y_2 := f6y_1.below hbz
              clear hB_8 ps_8 f1x_8 f1y_8 row_8 sr_8 f10_7 pA_6 da_1 st_1 f6x_1 f6y_1
              clear hbz
              refine hK.out _ _ ⟨da_2.c0, da_2.c1, da_2.c2, da_2.c3, da_2.c4, da_2.c5, pA_7.c0, pA_7.c1, pA_7.c2⟩ (fun hHeld => ?_)
              clear hK K
              try simp only [Act.put]
              try simp only [List.setIfInBounds_toArray, List.set_cons_zero, List.set_cons_succ]
              refine reg_call 14 ?_ (by kernel_rfl) ?_ (fun K hK => ?_)
              rotate_left 1
              · simp only [List.getElem?_toArray, List.getElem?_cons_succ, List.getElem?_cons_zero]; exact rfl
              have hlo : (xs.drop 6).length = n1 * 6 := by rw [st_2.2.2.1, HP1.out]
              obtain ⟨v1, wa, hrun, rown, hgrow, hkept⟩ := run_append_moved (P := Try.prog) w14 (w.heap.size + 1) 52 52 33 i0 (.agg #[.bool false, .slice none 0 0, .slice none 0 0, .bool false, .slice none 0 0, .slice none 0 0]) 6 112 (by kernel_rfl) HI.out HZ0.out HZ1.out HZ2.out rfl (noWord6 _ _ _ _ _ _ _ _ _ _ _ _ _ _) bo n1 (xs.drop 6) hlo (hbo _ row_9) st_2.2.1 ⟨w13.heap.size, 0, none⟩ 1 1 [.bool m6x, .slice o6x n6x c6x, .slice p6x k6x d6x, .bool m6y, .slice o6y n6y c6y, .slice p6y k6y d6y] (by omega) rfl pz_0.news (noWord6 _ _ _ _ _ _ _ _ _ _ _ _ _ _) (by unfold maxLen; omega) (by omega) (by have h1 := pA_7.lt; have h2 := hB_9.size; have h3 := ps_9.lt; omega)
              have hB_10 := hB_9.grown hgrow (by have := hB_9.size; omega) (fun k hk => by cases hk)
              have ps_10 := ps_9.grown hgrow (fun e => by cases e) ps_9.lt
              have f1x_10 := f1x_9.kept hkept
              have f1y_10 := f1y_9.kept hkept
              have row_10 := row_9.grown hgrow (fun k hk e => by cases e)
              have sr_10 := sr_9.kept hkept
              have f10_9 := f10_8.kept hkept
              have pA_8 := pA_7.grown hgrow (fun e => by cases e) pA_7.lt
              have da_3 := da_2.grown hgrow (fun e => by cases e)
              have st_3 := st_2.kept hkept
              have f6x_3 := f6x_2.kept hkept
              have f6y_3 := f6y_2.kept hkept
              have pz_1 := pz_0.grown hgrow (fun e => by cases e) pz_0.lt
              clear hB_9 ps_9 f1x_9 f1y_9 row_9 sr_9 f10_8 pA_7 da_2 st_2 f6x_2 f6y_2 pz_0
              obtain ⟨ao3, ac3, rfl, spt_0⟩ := (st_3.append (Sr.one f6x_3 f6y_3)).spots rown (by rw [List.length_append, HP1.out]; rfl)
              refine wanted_by (by kernel_rfl) ?_
              refine wp_append_row _ _ 52 rfl rfl rfl hrun ?_
              refine hK.out _ _ ⟨da_3.c0, da_3.c1, da_3.c2, da_3.c3, da_3.c4, da_3.c5, pA_8.c0, pA_8.c1, pA_8.c2⟩ (fun hHeld => ?_)
              clear hK K
              try simp only [Act.put]
              try simp only [List.setIfInBounds_toArray, List.set_cons_zero, List.set_cons_succ]
              refine reg_call 15 ?_ (by kernel_rfl) ?_ (fun K hK => ?_)
              rotate_left 1
              · simp only [List.getElem?_toArray, List.getElem?_cons_succ, List.getElem?_cons_zero]; exact rfl
              go_simp
              refine (sArea2_any ao3 (n1 + 1) ac3 (P1 ++ [(x, y)]) 1 _ (by rw [List.length_append, HP1.out]; rfl) (by omega) (by omega) spt_0).mono ?_
              rintro e w15 ⟨m13, o13, n13, c13, p13, k13, d13, rfl, f13_0, hb15⟩
              have hB_11 := hB_10.trans (hb15.mono hB_10.size)
              have ps_11 := ps_10.below hb15
              have f1x_11 := f1x_10.below hb15
              have f1y_11 := f1y_10.below hb15
              have row_11 := row_10.below hb15
              have sr_11 := sr_10.below hb15
              have f10_10 := f10_9.below hb15
              have pA_9 := pA_8.below hb15
              have da_4 := da_3.below hb15
              have st_4 := st_3.below hb15
              have f6x_4 := f6x_3.below hb15
              have f6y_4 := f6y_3.below hb15
              have pz_2 := pz_1.below hb15
              have spt_1 := spt_0.below hb15
              clear hb15 hB_10 ps_10 f1x_10 f1y_10 row_10 sr_10 f10_9 pA_8 da_3 st_3 f6x_3 f6y_3 pz_1 spt_0
              go_wp2_with fail
              refine hK.out _ _ ⟨da_4.c0, da_4.c1, da_4.c2, da_4.c3, da_4.c4, da_4.c5, pA_9.c0, pA_9.c1, pA_9.c2⟩ (fun hHeld => ?_)
              clear hK K
              try simp only [Act.put]
              try simp only [List.setIfInBounds_toArray, List.set_cons_zero, List.set_cons_succ]
              refine reg_call 17 ?_ (by kernel_rfl) ?_ (fun K hK => ?_)
              rotate_left 1
              · simp only [List.getElem?_toArray, List.getElem?_cons_succ, List.getElem?_cons_zero]; exact rfl
              go_simp
              refine (qSame_yes _ _ (1 + (n1 + 1) * ((((1 + 1 + 2) + (1 + 1 + 2) + 2)) + 2)) (1 + (n1 + 1) * ((((1 + 1 + 2) + (1 + 1 + 2) + 2)) + 2)) _ _ _ (by omega) (by omega) f13_0.q f10_10.q (on_all (x, y) P1 (by rw [HP1.out]; omega))).mono ?_
              rintro e w16 ⟨rfl, hb16⟩
              have hB_12 := hB_11.trans (hb16.mono hB_11.size)
              have ps_12 := ps_11.below hb16
              have f1x_12 := f1x_11.below hb16
              have f1y_12 := f1y_11.below hb16
              have row_12 := row_11.below hb16
              have sr_12 := sr_11.below hb16
              have f10_11 := f10_10.below hb16
              have pA_10 := pA_9.below hb16
              have da_5 := da_4.below hb16
              have st_5 := st_4.below hb16
              have f6x_5 := f6x_4.below hb16
              have f6y_5 := f6y_4.below hb16
              have pz_3 := pz_2.below hb16
              have spt_2 := spt_1.below hb16
              have f13_1 := f13_0.below hb16
              clear hb16 hB_11 ps_11 f1x_11 f1y_11 row_11 sr_11 f10_10 pA_9 da_4 st_4 f6x_4 f6y_4 pz_2 spt_1 f13_0
              go_wp2_with fail
              refine hK.out _ _ ⟨da_5.c0, da_5.c1, da_5.c2, da_5.c3, da_5.c4, da_5.c5, pA_10.c0, pA_10.c1, pA_10.c2⟩ (fun hHeld => ?_)
              clear hK K
              try simp only [Act.put]
              try simp only [List.setIfInBounds_toArray, List.set_cons_zero, List.set_cons_succ]
              refine reg_take 18 ?_ ?_ ?_ (by kernel_rfl) (by kernel_rfl) (by kernel_rfl) (fun _ _ _ h => h) ?_ ?_ (by assumption) ?_
              rotate_left 2
              · simp only [List.getElem?_toArray, List.getElem?_cons_succ, List.getElem?_cons_zero]; exact rfl
              · rfl
              · intro w hSw; (try dsimp only at hSw); go_simp; try with_reducible rfl
              try simp only [Act.put]
              try simp only [List.setIfInBounds_toArray, List.set_cons_zero, List.set_cons_succ]
              refine reg_take 19 ?_ ?_ ?_ (by kernel_rfl) (by kernel_rfl) (by kernel_rfl) (fun _ _ _ h => h) ?_ ?_ (by assumption) ?_
              rotate_left 2
              · simp only [List.getElem?_toArray, List.getElem?_cons_succ, List.getElem?_cons_zero]; exact rfl
              · rfl
              · intro w hSw; (try dsimp only at hSw); go_simp; try with_reducible rfl
              try simp only [Act.put]
              try simp only [List.setIfInBounds_toArray, List.set_cons_zero, List.set_cons_succ]
              refine wpAnyH_done (by kernel_rfl) ?_ _
              refine NoPanic.normal ?_
              go_wp2
              go_ret
              exact ⟨rfl, hB_12⟩
end Go.Proofs.Ytkcfaddilknelaa
/- The statement SpotAreas: for all inputs. -/
namespace Go.Proofs.Ytkcfaddilknelaa
open Go.RowKit Go.MagM
theorem SpotAreas_walk {oxm : Bool} {oxo : Option Addr} {oxn oxc : Nat} {oxp : Option Addr} {oxk oxd : Nat} {oym : Bool} {oyo : Option Addr} {oyn oyc : Nat} {oyp : Option Addr} {oyk oyd : Nat} {lo : Option Addr} {n lc : Nat} {l : List (Int × Nat × Int × Nat)} {Lox : Nat} {Xox : Int} {Dox : Nat} {Loy : Nat} {Xoy : Int} {Doy : Nat} (w : World) (hl : l.length = n ∧ Raws w lo l) (fox_0 : FD w (.agg #[.bool oxm, .slice oxo oxn oxc, .slice oxp oxk oxd]) Lox Xox Dox) (foy_0 : FD w (.agg #[.bool oym, .slice oyo oyn oyc, .slice oyp oyk oyd]) Loy Xoy Doy) :
    Calls Try.prog 5 #[.slice lo n lc, .agg #[.bool oxm, .slice oxo oxn oxc, .slice oxp oxk oxd, .bool oym, .slice oyo oyn oyc, .slice oyp oyk oyd]] w fun e w' => e = .returned (.bool true) ∧ Below w.heap.size w w' := by
  by_cases h7 : n ≤ 7
  · exact SpotAreas_w Lox Loy Xox Xoy Dox Doy lo n lc l hl.1 h7 w fox_0 foy_0 hl.2
  · exact SpotAreas_long Lox Loy Xox Xoy Dox Doy lo n lc (by omega) w fox_0 foy_0
end Go.Proofs.Ytkcfaddilknelaa
