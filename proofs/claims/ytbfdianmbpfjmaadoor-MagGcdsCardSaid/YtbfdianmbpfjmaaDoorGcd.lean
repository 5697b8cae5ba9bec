/- The parts of Gcd: gcdWords, at, head. -/
import Derived.Test.YtbfdianmbpfjmaaDoorWalkG
import Derived.Test.YtbfdianmbpfjmaaDoorGcdm
namespace Go.Proofs.YtbfdianmbpfjmaaDoor
open Go.RowKit Go.MagM
set_option maxHeartbeats 1000000 in
theorem gcdWords_any (x y : Nat) (w : World) (hx : x < B) (hy : y < B) :
    Calls Tryd.prog 18 #[.int .u64 (x : Int), .int .u64 (y : Int)] w fun e w' => ∃ q, e = .returned (.int .u64 ((Nat.gcd x y : Nat) : Int)) ∧ w' = w.drewN q := by
  go_enter Tryd.func18, Tryd.ntmps18
  go_wp2
  go_loopw [0, 1] (fun av bv wr => ∃ a b q : Nat, av = .int .u64 a ∧ bv = .int .u64 b ∧ a < B ∧ b < B ∧ Nat.gcd a b = Nat.gcd x y ∧ wr = w.drewN q) (fun _ bv _ => (intOf bv).toNat)
  case atStart => exact ⟨x, y, 0, rfl, rfl, hx, hy, rfl, rfl⟩
  case round =>
    obtain ⟨a, b, q, rfl, rfl, ha, hb, hg, rfl⟩ := hrel
    have HG := Lib.hid hg; have HA := Lib.hid ha; have HBB := Lib.hid hb; clear hg ha hb
    by_cases h0 : b = 0
    · subst h0
      go_wp2
      go_ret
      refine ⟨q, ?_, rfl⟩
      rw [← HG.out, Nat.gcd_zero_right]; rfl
    · have hbb : ((b : Int) != 0) = true := by simp; omega
      have hb0 : (b : Int) ≠ 0 := by omega
      obtain ⟨r, hr⟩ : ∃ r, a % b = r := ⟨_, rfl⟩
      have hmod : (a : Int) % (b : Int) = (r : Int) := by rw [← hr]; simp
      have hrb : r < b := by rw [← hr]; exact Nat.mod_lt _ (by omega)
      have HR := Lib.hid hr; have HRB := Lib.hid hrb; clear hr hrb
      go_wp2
      go_quiet (fail)
      go_wp2
      refine ⟨⟨b, r, q + nq, rfl, by rw [hmod], HBB.out, Nat.lt_trans HRB.out HBB.out, ?_, by rw [World.drewN_drewN]⟩, ?_⟩
      · rw [← HG.out, ← HR.out, Nat.gcd_comm b, ← Nat.gcd_rec, Nat.gcd_comm]
      · have := HRB.out; simp [intOf]; omega
set_option maxHeartbeats 1000000 in
theorem at_any (ao : Option Addr) (n c i : Nat) (f : Nat → Nat) (w : World) (hr : Reads w ao n f) :
    Calls Tryd.prog 37 #[.slice ao n c, .int .i64 (i : Int)] w fun e w' => e = .returned (.int .u64 (((if i < n then f i else 0 : Nat)) : Int)) ∧ w = w' := by
  by_cases h : i < n
  · obtain ⟨b, o, rfl, hc, _⟩ := hr i h
    rw [if_pos h]
    clear hr
    go_enter Tryd.func37, Tryd.ntmps37
    go_wp2
    go_ret
    exact ⟨rfl, rfl⟩
  · rw [if_neg h]
    clear hr
    go_enter Tryd.func37, Tryd.ntmps37
    go_wp2
    go_ret
    exact ⟨rfl, rfl⟩
/-- A word of a number, 0 beyond its end. -/
def zx (f : Nat → Nat) (n i : Nat) : Nat := if i < n then f i else 0
theorem zx_lt {f : Nat → Nat} {n : Nat} (h : ∀ i, i < n → f i < B) (i : Nat) : zx f n i < B := by
  unfold zx; split
  · exact h i (by omega)
  · exact B_pos
set_option maxHeartbeats 1000000 in
theorem head_any (ao : Option Addr) (n c T t s : Nat) (f : Nat → Nat) (w : World) (hT : T ≤ 9000000000) (hTt : (T : Int) - 1 = (t : Int)) (hs : s ≤ 63) (hr : Reads w ao n f) :
    Calls Tryd.prog 27 #[.slice ao n c, .int .i64 (T : Int), .int .i64 (s : Int)] w fun e w' =>
      ∃ q, e = .returned (.int .u64 ((zx f n T * 2 ^ s % B + zx f n t * 2 ^ s / B : Nat) : Int)) ∧ w' = w.drewN q := by
  have hlt := zx_lt hr.lt t
  have a1 : ∀ (i : Nat) (q : Nat), Calls Tryd.prog 37 #[.slice ao n c, .int .i64 (i : Int)] (w.drewN q) fun e w' => e = .returned (.int .u64 ((zx f n i : Nat) : Int)) ∧ ∃ k, w' = w.drewN k :=
    fun i q => (at_any ao n c i f (w.drewN q) hr).mono fun _ _ h => ⟨h.1, q, h.2.symm⟩
  obtain ⟨x, hx⟩ : ∃ x, zx f n T = x := ⟨_, rfl⟩
  obtain ⟨y, hy⟩ : ∃ y, zx f n t = y := ⟨_, rfl⟩
  have aT := a1 T
  have at' := a1 t
  simp only [hx] at aT ⊢; simp only [hy] at at' hlt ⊢
  have AT := Lib.hid aT; have At := Lib.hid at'; have HL := Lib.hid hlt
  clear a1 hr hx hy aT at' hlt
  have b5 : (0 : Int) ≤ 64 - (s : Int) := by omega
  have hk1 : IntKind.i64.wrap ((T : Int) - 1) = (t : Int) := by rw [IntWalk.i64_in _ (by omega)]; omega
  have b7 : IntKind.i64.wrap (64 - (s : Int)) = 64 - (s : Int) := IntWalk.i64_in _ (by omega)
  clear hTt
  go_enter Tryd.func27, Tryd.ntmps27
  go_wp2
  go_quiet ((go_at_call 37; first | with_reducible exact AT.out _ | with_reducible exact At.out _))
  go_wp2
  go_ret
  refine ⟨nq, ?_, rfl⟩
  rw [← orU _ _ _ HL.out (by omega)]; rfl
end Go.Proofs.YtbfdianmbpfjmaaDoor
