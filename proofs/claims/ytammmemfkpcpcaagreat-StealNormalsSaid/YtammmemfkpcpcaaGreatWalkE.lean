import Derived.Test.YtammmemfkpcpcaaGreatPartd
import Derived.Lib.TrailingZeros
import Derived.Lib.Tables
import Derived.Handy
namespace Go.Proofs.YtammmemfkpcpcaaGreat
open Go.RowKit Go.MagM
theorem len8_bl:∀x:Nat,x<256→Lib.len8 (x:Int)=((bl x:Nat):Int):=by decide+kernel
theorem bl_s32{x:Nat}(h:4294967296≤x):bl x=32+bl (x/4294967296):=bl_shift 32 h
theorem bl_s16{x:Nat}(h:65536≤x):bl x=16+bl (x/65536):=bl_shift 16 h
theorem bl_s8{x:Nat}(h:256≤x):bl x=8+bl (x/256):=bl_shift 8 h
theorem bl_small{x:Nat}(h:x<256):bl x≤8:=by
  by_cases h0:x=0;·rw[h0,bl_zero]<;>omega
  · have a:=bl_ge h0;have b:=(Nat.pow_lt_pow_iff_right (show 1<2 by omega)).1 (show 2^(bl x-1)<2^8 by omega);omega
set_option maxRecDepth 100000 in theorem len64_c000(x:Nat)(w:World)(hx:x<B)(h32:x<4294967296)(h16:x<65536)(h8:x<256):Calls Tryz.prog 152 #[.int .u64 x] w fun e w'=>e= .returned (.int .i64 ((bl x:Nat):Int))∧w=w':=by
  have hb:bl x=bl x:=by rfl
  have hlt:x<256:=by unfold B at hx;omega
  have h9:0≤(x:Int)∧(x:Int)≤255:=by unfold B at hx;omega
  obtain⟨h9a,h9b⟩:=h9;have f32:¬(4294967296:Int)≤(x:Int):=by omega
  have f16:¬(65536:Int)≤(x:Int):=by omega
  have f8:¬(256:Int)≤(x:Int):=by omega
  have HB:=Lib.hid hb;have HL:=Lib.hid hlt;clear hb hx h32 h16 h8 hlt;go_enter Tryz.func152,Tryz.ntmps152;go_wp2;go_ret;refine⟨ret1 (k:= .i64) ?_,rfl⟩;have e1:=len8_bl _ HL.out;have e2:=bl_small HL.out;try simp only[Int.natCast_ediv,Int.cast_ofNat_Int] at e1
  try rw[show bl x=_ from HB.out]
  rw[show Lib.len8 ((x:Int))=_ from e1];go_arith
set_option maxRecDepth 100000 in theorem len64_c001(x:Nat)(w:World)(hx:x<B)(h32:x<4294967296)(h16:x<65536)(h8:256≤x):Calls Tryz.prog 152 #[.int .u64 x] w fun e w'=>e= .returned (.int .i64 ((bl x:Nat):Int))∧w=w':=by
  have hb:bl x=8+bl (x/256):=by rw[bl_s8 h8]<;>omega
  have hlt:(x/256)<256:=by unfold B at hx;omega
  have h9:0≤(x:Int)/256∧(x:Int)/256≤255:=by unfold B at hx;omega
  obtain⟨h9a,h9b⟩:=h9;have f32:¬(4294967296:Int)≤(x:Int):=by omega
  have f16:¬(65536:Int)≤(x:Int):=by omega
  have f8:(256:Int)≤(x:Int):=by omega
  have HB:=Lib.hid hb;have HL:=Lib.hid hlt;clear hb hx h32 h16 h8 hlt;go_enter Tryz.func152,Tryz.ntmps152;go_wp2;go_ret;refine⟨ret1 (k:= .i64) ?_,rfl⟩;have e1:=len8_bl _ HL.out;have e2:=bl_small HL.out;try simp only[Int.natCast_ediv,Int.cast_ofNat_Int] at e1
  try rw[show bl x=_ from HB.out]
  rw[show Lib.len8 ((x:Int)/256)=_ from e1];go_arith
set_option maxRecDepth 100000 in theorem len64_c010(x:Nat)(w:World)(hx:x<B)(h32:x<4294967296)(h16:65536≤x)(h8:(x/65536)<256):Calls Tryz.prog 152 #[.int .u64 x] w fun e w'=>e= .returned (.int .i64 ((bl x:Nat):Int))∧w=w':=by
  have hb:bl x=16+bl (x/65536):=by rw[bl_s16 h16]<;>omega
  have hlt:(x/65536)<256:=by unfold B at hx;omega
  have h9:0≤(x:Int)/65536∧(x:Int)/65536≤255:=by unfold B at hx;omega
  obtain⟨h9a,h9b⟩:=h9;have f32:¬(4294967296:Int)≤(x:Int):=by omega
  have f16:(65536:Int)≤(x:Int):=by omega
  have f8:¬(256:Int)≤(x:Int)/65536:=by omega
  have HB:=Lib.hid hb;have HL:=Lib.hid hlt;clear hb hx h32 h16 h8 hlt;go_enter Tryz.func152,Tryz.ntmps152;go_wp2;go_ret;refine⟨ret1 (k:= .i64) ?_,rfl⟩;have e1:=len8_bl _ HL.out;have e2:=bl_small HL.out;try simp only[Int.natCast_ediv,Int.cast_ofNat_Int] at e1
  try rw[show bl x=_ from HB.out]
  rw[show Lib.len8 ((x:Int)/65536)=_ from e1];go_arith
set_option maxRecDepth 100000 in theorem len64_c011(x:Nat)(w:World)(hx:x<B)(h32:x<4294967296)(h16:65536≤x)(h8:256≤(x/65536)):Calls Tryz.prog 152 #[.int .u64 x] w fun e w'=>e= .returned (.int .i64 ((bl x:Nat):Int))∧w=w':=by
  have hb:bl x=16+8+bl ((x/65536)/256):=by rw[bl_s16 h16,bl_s8 h8]<;>omega
  have hlt:((x/65536)/256)<256:=by unfold B at hx;omega
  have h9:0≤(x:Int)/65536/256∧(x:Int)/65536/256≤255:=by unfold B at hx;omega
  obtain⟨h9a,h9b⟩:=h9;have f32:¬(4294967296:Int)≤(x:Int):=by omega
  have f16:(65536:Int)≤(x:Int):=by omega
  have f8:(256:Int)≤(x:Int)/65536:=by omega
  have HB:=Lib.hid hb;have HL:=Lib.hid hlt;clear hb hx h32 h16 h8 hlt;go_enter Tryz.func152,Tryz.ntmps152;go_wp2;go_ret;refine⟨ret1 (k:= .i64) ?_,rfl⟩;have e1:=len8_bl _ HL.out;have e2:=bl_small HL.out;try simp only[Int.natCast_ediv,Int.cast_ofNat_Int] at e1
  try rw[show bl x=_ from HB.out]
  rw[show Lib.len8 ((x:Int)/65536/256)=_ from e1];go_arith
set_option maxRecDepth 100000 in theorem len64_c100(x:Nat)(w:World)(hx:x<B)(h32:4294967296≤x)(h16:(x/4294967296)<65536)(h8:(x/4294967296)<256):Calls Tryz.prog 152 #[.int .u64 x] w fun e w'=>e= .returned (.int .i64 ((bl x:Nat):Int))∧w=w':=by
  have _:=h16;have hb:bl x=32+bl (x/4294967296):=by rw[bl_s32 h32]<;>omega
  have hlt:(x/4294967296)<256:=by unfold B at hx;omega
  have h9:0≤(x:Int)/4294967296∧(x:Int)/4294967296≤255:=by unfold B at hx;omega
  obtain⟨h9a,h9b⟩:=h9;have f32:(4294967296:Int)≤(x:Int):=by omega
  have f16:¬(65536:Int)≤(x:Int)/4294967296:=by omega
  have f8:¬(256:Int)≤(x:Int)/4294967296:=by omega
  have HB:=Lib.hid hb;have HL:=Lib.hid hlt;clear hb hx h32 h16 h8 hlt;go_enter Tryz.func152,Tryz.ntmps152;go_wp2;go_ret;refine⟨ret1 (k:= .i64) ?_,rfl⟩;have e1:=len8_bl _ HL.out;have e2:=bl_small HL.out;try simp only[Int.natCast_ediv,Int.cast_ofNat_Int] at e1
  try rw[show bl x=_ from HB.out]
  rw[show Lib.len8 ((x:Int)/4294967296)=_ from e1];go_arith
set_option maxRecDepth 100000 in theorem len64_c101(x:Nat)(w:World)(hx:x<B)(h32:4294967296≤x)(h16:(x/4294967296)<65536)(h8:256≤(x/4294967296)):Calls Tryz.prog 152 #[.int .u64 x] w fun e w'=>e= .returned (.int .i64 ((bl x:Nat):Int))∧w=w':=by
  have _:=hx;have hb:bl x=32+8+bl ((x/4294967296)/256):=by rw[bl_s32 h32,bl_s8 h8]<;>omega
  have hlt:((x/4294967296)/256)<256:=by unfold B at hx;omega
  have h9:0≤(x:Int)/4294967296/256∧(x:Int)/4294967296/256≤255:=by unfold B at hx;omega
  obtain⟨h9a,h9b⟩:=h9;have f32:(4294967296:Int)≤(x:Int):=by omega
  have f16:¬(65536:Int)≤(x:Int)/4294967296:=by omega
  have f8:(256:Int)≤(x:Int)/4294967296:=by omega
  have HB:=Lib.hid hb;have HL:=Lib.hid hlt;clear hb hx h32 h16 h8 hlt;go_enter Tryz.func152,Tryz.ntmps152;go_wp2;go_ret;refine⟨ret1 (k:= .i64) ?_,rfl⟩;have e1:=len8_bl _ HL.out;have e2:=bl_small HL.out;try simp only[Int.natCast_ediv,Int.cast_ofNat_Int] at e1
  try rw[show bl x=_ from HB.out]
  rw[show Lib.len8 ((x:Int)/4294967296/256)=_ from e1];go_arith
set_option maxRecDepth 100000 in theorem len64_c110(x:Nat)(w:World)(hx:x<B)(h32:4294967296≤x)(h16:65536≤(x/4294967296))(h8:((x/4294967296)/65536)<256):Calls Tryz.prog 152 #[.int .u64 x] w fun e w'=>e= .returned (.int .i64 ((bl x:Nat):Int))∧w=w':=by
  have hb:bl x=32+16+bl ((x/4294967296)/65536):=by rw[bl_s32 h32,bl_s16 h16]<;>omega
  have hlt:((x/4294967296)/65536)<256:=by unfold B at hx;omega
  have h9:0≤(x:Int)/4294967296/65536∧(x:Int)/4294967296/65536≤255:=by unfold B at hx;omega
  obtain⟨h9a,h9b⟩:=h9;have f32:(4294967296:Int)≤(x:Int):=by omega
  have f16:(65536:Int)≤(x:Int)/4294967296:=by omega
  have f8:¬(256:Int)≤(x:Int)/4294967296/65536:=by omega
  have HB:=Lib.hid hb;have HL:=Lib.hid hlt;clear hb hx h32 h16 h8 hlt;go_enter Tryz.func152,Tryz.ntmps152;go_wp2;go_ret;refine⟨ret1 (k:= .i64) ?_,rfl⟩;have e1:=len8_bl _ HL.out;have e2:=bl_small HL.out;try simp only[Int.natCast_ediv,Int.cast_ofNat_Int] at e1
  try rw[show bl x=_ from HB.out]
  rw[show Lib.len8 ((x:Int)/4294967296/65536)=_ from e1];go_arith
set_option maxRecDepth 100000 in theorem len64_c111(x:Nat)(w:World)(hx:x<B)(h32:4294967296≤x)(h16:65536≤(x/4294967296))(h8:256≤((x/4294967296)/65536)):Calls Tryz.prog 152 #[.int .u64 x] w fun e w'=>e= .returned (.int .i64 ((bl x:Nat):Int))∧w=w':=by
  have hb:bl x=32+16+8+bl (((x/4294967296)/65536)/256):=by rw[bl_s32 h32,bl_s16 h16,bl_s8 h8]<;>omega
  have hlt:(((x/4294967296)/65536)/256)<256:=by unfold B at hx;omega
  have h9:0≤(x:Int)/4294967296/65536/256∧(x:Int)/4294967296/65536/256≤255:=by unfold B at hx;omega
  obtain⟨h9a,h9b⟩:=h9;have f32:(4294967296:Int)≤(x:Int):=by omega
  have f16:(65536:Int)≤(x:Int)/4294967296:=by omega
  have f8:(256:Int)≤(x:Int)/4294967296/65536:=by omega
  have HB:=Lib.hid hb;have HL:=Lib.hid hlt;clear hb hx h32 h16 h8 hlt;go_enter Tryz.func152,Tryz.ntmps152;go_wp2;go_ret;refine⟨ret1 (k:= .i64) ?_,rfl⟩;have e1:=len8_bl _ HL.out;have e2:=bl_small HL.out;try simp only[Int.natCast_ediv,Int.cast_ofNat_Int] at e1
  try rw[show bl x=_ from HB.out]
  rw[show Lib.len8 ((x:Int)/4294967296/65536/256)=_ from e1];go_arith
theorem len64_any(x:Nat)(w:World)(hx:x<B):Calls Tryz.prog 152 #[.int .u64 x] w fun e w'=>e= .returned (.int .i64 ((bl x:Nat):Int))∧w=w':=by
  rcases Nat.lt_or_ge x 4294967296 with h32|h32
  · skip;rcases Nat.lt_or_ge x 65536 with h16|h16
    · skip;rcases Nat.lt_or_ge x 256 with h8|h8
      · skip;exact len64_c000 x w hx h32 h16 h8
      · skip;exact len64_c001 x w hx h32 h16 h8
    · skip;rcases Nat.lt_or_ge (x/65536) 256 with h8|h8
      · skip;exact len64_c010 x w hx h32 h16 h8
      · skip;exact len64_c011 x w hx h32 h16 h8
  · skip;rcases Nat.lt_or_ge (x/4294967296) 65536 with h16|h16
    · skip;rcases Nat.lt_or_ge (x/4294967296) 256 with h8|h8;· skip;exact len64_c100 x w hx h32 h16 h8
      · skip;exact len64_c101 x w hx h32 h16 h8
    · skip;rcases Nat.lt_or_ge ((x/4294967296)/65536) 256 with h8|h8;· skip;exact len64_c110 x w hx h32 h16 h8
      · skip;exact len64_c111 x w hx h32 h16 h8
theorem lead64_any(x:Nat)(w:World)(hx:x<B):Calls Tryz.prog 187 #[.int .u64 x] w fun e w'=>e= .returned (.int .i64 ((64-bl x:Nat):Int))∧w=w':=by
  have hb:bl x≤64:=by
    by_cases h0:x=0;·rw[h0,bl_zero];omega
    · have a:=bl_ge h0;have b:=(Nat.pow_lt_pow_iff_right (show 1<2 by omega)).1 (show 2^(bl x-1)<2^64 by unfold B at hx;omega);omega
  have HX:=Lib.hid hx;clear hx;go_enter Tryz.func187,Tryz.ntmps187;go_wp2_with (go_at_call 152;refine(len64_any _ _ HX.out).mono ?_;rintro e w1 ⟨rfl,rfl⟩);go_ret;exact⟨ret1 (k:= .i64) (by omega),rfl⟩
end Go.Proofs.YtammmemfkpcpcaaGreat
