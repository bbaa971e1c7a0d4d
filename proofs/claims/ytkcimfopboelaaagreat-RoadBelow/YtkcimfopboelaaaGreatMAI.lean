import Derived.Test.YtkcimfopboelaaaGreatMAF
import Derived.Test.YtkcimfopboelaaaGreatChecked
import Derived.KernelRfl
namespace Go.Proofs.YtkcimfopboelaaaGreat
open Go Go.AbsE
variable {t : Tr AVal} {h : AH} {dst : Option Tmp} {tt : TypeId} {pos : String} {after : Array Edge} {guard : Option (Nat × Bool)} {x : Operand} {b off : Nat} {g : Kd} {cs l : List AVal} {el : TypeId} {v : AVal}
theorem ag2 : isAggT Tryz.prog 2 = some false := by kernel_rfl
theorem ag3 : isAggT Tryz.prog 3 = some false := by kernel_rfl
theorem sz3 : sizeT Tryz.prog 3 = some 1 := by kernel_rfl
theorem ag4 : isAggT Tryz.prog 4 = some false := by kernel_rfl
theorem sz4 : sizeT Tryz.prog 4 = some 1 := by kernel_rfl
theorem ag22 : isAggT Tryz.prog 22 = some false := by kernel_rfl
theorem sz22 : sizeT Tryz.prog 22 = some 1 := by kernel_rfl
theorem ag23 : isAggT Tryz.prog 23 = some false := by kernel_rfl
theorem sz23 : sizeT Tryz.prog 23 = some 1 := by kernel_rfl
theorem ag25 : isAggT Tryz.prog 25 = some true := by kernel_rfl
theorem sz25 : sizeT Tryz.prog 25 = some 2 := by kernel_rfl
theorem ag29 : isAggT Tryz.prog 29 = some true := by kernel_rfl
theorem sz29 : sizeT Tryz.prog 29 = some 2 := by kernel_rfl
theorem ag30 : isAggT Tryz.prog 30 = some false := by kernel_rfl
theorem sz30 : sizeT Tryz.prog 30 = some 1 := by kernel_rfl
theorem ag58 : isAggT Tryz.prog 58 = some true := by kernel_rfl
theorem sz58 : sizeT Tryz.prog 58 = some 7 := by kernel_rfl
theorem ag62 : isAggT Tryz.prog 62 = some true := by kernel_rfl
theorem sz62 : sizeT Tryz.prog 62 = some 7 := by kernel_rfl
theorem ag68 : isAggT Tryz.prog 68 = some false := by kernel_rfl
theorem sz68 : sizeT Tryz.prog 68 = some 1 := by kernel_rfl
theorem ag74 : isAggT Tryz.prog 74 = some false := by kernel_rfl
theorem sz74 : sizeT Tryz.prog 74 = some 1 := by kernel_rfl
theorem ag75 : isAggT Tryz.prog 75 = some false := by kernel_rfl
theorem sz75 : sizeT Tryz.prog 75 = some 1 := by kernel_rfl
theorem ag77 : isAggT Tryz.prog 77 = some true := by kernel_rfl
theorem sz77 : sizeT Tryz.prog 77 = some 2 := by kernel_rfl
theorem ag80 : isAggT Tryz.prog 80 = some false := by kernel_rfl
theorem sz80 : sizeT Tryz.prog 80 = some 1 := by kernel_rfl
theorem ag84 : isAggT Tryz.prog 84 = some true := by kernel_rfl
theorem sz84 : sizeT Tryz.prog 84 = some 4 := by kernel_rfl
theorem sz85 : sizeT Tryz.prog 85 = some 10 := by kernel_rfl
theorem ag87 : isAggT Tryz.prog 87 = some true := by kernel_rfl
theorem sz87 : sizeT Tryz.prog 87 = some 14 := by kernel_rfl
theorem ag120 : isAggT Tryz.prog 120 = some false := by kernel_rfl
theorem sz120 : sizeT Tryz.prog 120 = some 1 := by kernel_rfl
theorem ag121 : isAggT Tryz.prog 121 = some false := by kernel_rfl
theorem sz121 : sizeT Tryz.prog 121 = some 1 := by kernel_rfl
theorem ag126 : isAggT Tryz.prog 126 = some true := by kernel_rfl
theorem sz126 : sizeT Tryz.prog 126 = some 11 := by kernel_rfl
theorem ag135 : isAggT Tryz.prog 135 = some false := by kernel_rfl
theorem ag157 : isAggT Tryz.prog 157 = some true := by kernel_rfl
theorem sz157 : sizeT Tryz.prog 157 = some 7 := by kernel_rfl
theorem sz166 : sizeT Tryz.prog 166 = some 4 := by kernel_rfl
theorem ag167 : isAggT Tryz.prog 167 = some false := by kernel_rfl
theorem sz167 : sizeT Tryz.prog 167 = some 1 := by kernel_rfl
theorem ag169 : isAggT Tryz.prog 169 = some false := by kernel_rfl
theorem sz169 : sizeT Tryz.prog 169 = some 1 := by kernel_rfl
theorem fa25_0 (hx : ev t x = some (.ptr b off)) : aOp Tryz.prog t h ⟨dst, .fieldAddr 25 x 0, tt, pos, after, guard⟩ = some (.val (.ptr b (off + 0)) h) := by
 have := aOp_fieldAddr (P := Tryz.prog) (h := h) (dst := dst) (tt := tt) (pos := pos) (after := after) (guard := guard) (f := 0) Tryz.underlying25 rfl (n := 1) sz22 rfl hx
 exact this
theorem fa25_1 (hx : ev t x = some (.ptr b off)) : aOp Tryz.prog t h ⟨dst, .fieldAddr 25 x 1, tt, pos, after, guard⟩ = some (.val (.ptr b (off + 1)) h) := by
 have := aOp_fieldAddr (P := Tryz.prog) (h := h) (dst := dst) (tt := tt) (pos := pos) (after := after) (guard := guard) (f := 1) Tryz.underlying25 rfl (n := 1) sz23 rfl hx
 exact this
theorem fa29_0 (hx : ev t x = some (.ptr b off)) : aOp Tryz.prog t h ⟨dst, .fieldAddr 29 x 0, tt, pos, after, guard⟩ = some (.val (.ptr b (off + 0)) h) := by
 have := aOp_fieldAddr (P := Tryz.prog) (h := h) (dst := dst) (tt := tt) (pos := pos) (after := after) (guard := guard) (f := 0) Tryz.underlying29 rfl (n := 1) sz3 rfl hx
 exact this
theorem fd29_0 (hx : ev t x = some (.agg cs)) (hv : cs[0]? = some v) : aOp Tryz.prog t h ⟨dst, .field 29 x 0, tt, pos, after, guard⟩ = some (.val v h) := by
 have := aOp_field (P := Tryz.prog) (h := h) (dst := dst) (tt := tt) (pos := pos) (after := after) (guard := guard) (f := 0) Tryz.underlying29 rfl hx (partT_one ag3 hv)
 exact this
theorem fa29_1 (hx : ev t x = some (.ptr b off)) : aOp Tryz.prog t h ⟨dst, .fieldAddr 29 x 1, tt, pos, after, guard⟩ = some (.val (.ptr b (off + 1)) h) := by
 have := aOp_fieldAddr (P := Tryz.prog) (h := h) (dst := dst) (tt := tt) (pos := pos) (after := after) (guard := guard) (f := 1) Tryz.underlying29 rfl (n := 1) sz3 rfl hx
 exact this
theorem fa58_0 (hx : ev t x = some (.ptr b off)) : aOp Tryz.prog t h ⟨dst, .fieldAddr 58 x 0, tt, pos, after, guard⟩ = some (.val (.ptr b (off + 0)) h) := by
 have := aOp_fieldAddr (P := Tryz.prog) (h := h) (dst := dst) (tt := tt) (pos := pos) (after := after) (guard := guard) (f := 0) Tryz.underlying58 rfl (n := 2) sz29 rfl hx
 exact this
theorem fa58_1 (hx : ev t x = some (.ptr b off)) : aOp Tryz.prog t h ⟨dst, .fieldAddr 58 x 1, tt, pos, after, guard⟩ = some (.val (.ptr b (off + 2)) h) := by
 have := aOp_fieldAddr (P := Tryz.prog) (h := h) (dst := dst) (tt := tt) (pos := pos) (after := after) (guard := guard) (f := 1) Tryz.underlying58 rfl (n := 2) sz29 rfl hx
 exact this
theorem fa58_2 (hx : ev t x = some (.ptr b off)) : aOp Tryz.prog t h ⟨dst, .fieldAddr 58 x 2, tt, pos, after, guard⟩ = some (.val (.ptr b (off + 4)) h) := by
 have := aOp_fieldAddr (P := Tryz.prog) (h := h) (dst := dst) (tt := tt) (pos := pos) (after := after) (guard := guard) (f := 2) Tryz.underlying58 rfl (n := 2) sz29 rfl hx
 exact this
theorem fa58_3 (hx : ev t x = some (.ptr b off)) : aOp Tryz.prog t h ⟨dst, .fieldAddr 58 x 3, tt, pos, after, guard⟩ = some (.val (.ptr b (off + 6)) h) := by
 have := aOp_fieldAddr (P := Tryz.prog) (h := h) (dst := dst) (tt := tt) (pos := pos) (after := after) (guard := guard) (f := 3) Tryz.underlying58 rfl (n := 1) sz3 rfl hx
 exact this
theorem fa62_0 (hx : ev t x = some (.ptr b off)) : aOp Tryz.prog t h ⟨dst, .fieldAddr 62 x 0, tt, pos, after, guard⟩ = some (.val (.ptr b (off + 0)) h) := by
 have := aOp_fieldAddr (P := Tryz.prog) (h := h) (dst := dst) (tt := tt) (pos := pos) (after := after) (guard := guard) (f := 0) Tryz.underlying62 rfl (n := 1) sz3 rfl hx
 exact this
theorem fa62_1 (hx : ev t x = some (.ptr b off)) : aOp Tryz.prog t h ⟨dst, .fieldAddr 62 x 1, tt, pos, after, guard⟩ = some (.val (.ptr b (off + 1)) h) := by
 have := aOp_fieldAddr (P := Tryz.prog) (h := h) (dst := dst) (tt := tt) (pos := pos) (after := after) (guard := guard) (f := 1) Tryz.underlying62 rfl (n := 2) sz29 rfl hx
 exact this
theorem fa62_2 (hx : ev t x = some (.ptr b off)) : aOp Tryz.prog t h ⟨dst, .fieldAddr 62 x 2, tt, pos, after, guard⟩ = some (.val (.ptr b (off + 3)) h) := by
 have := aOp_fieldAddr (P := Tryz.prog) (h := h) (dst := dst) (tt := tt) (pos := pos) (after := after) (guard := guard) (f := 2) Tryz.underlying62 rfl (n := 1) sz3 rfl hx
 exact this
theorem fa62_3 (hx : ev t x = some (.ptr b off)) : aOp Tryz.prog t h ⟨dst, .fieldAddr 62 x 3, tt, pos, after, guard⟩ = some (.val (.ptr b (off + 4)) h) := by
 have := aOp_fieldAddr (P := Tryz.prog) (h := h) (dst := dst) (tt := tt) (pos := pos) (after := after) (guard := guard) (f := 3) Tryz.underlying62 rfl (n := 1) sz3 rfl hx
 exact this
theorem fa62_4 (hx : ev t x = some (.ptr b off)) : aOp Tryz.prog t h ⟨dst, .fieldAddr 62 x 4, tt, pos, after, guard⟩ = some (.val (.ptr b (off + 5)) h) := by
 have := aOp_fieldAddr (P := Tryz.prog) (h := h) (dst := dst) (tt := tt) (pos := pos) (after := after) (guard := guard) (f := 4) Tryz.underlying62 rfl (n := 2) sz29 rfl hx
 exact this
theorem fa77_0 (hx : ev t x = some (.ptr b off)) : aOp Tryz.prog t h ⟨dst, .fieldAddr 77 x 0, tt, pos, after, guard⟩ = some (.val (.ptr b (off + 0)) h) := by
 have := aOp_fieldAddr (P := Tryz.prog) (h := h) (dst := dst) (tt := tt) (pos := pos) (after := after) (guard := guard) (f := 0) Tryz.underlying77 rfl (n := 1) sz74 rfl hx
 exact this
theorem fa77_1 (hx : ev t x = some (.ptr b off)) : aOp Tryz.prog t h ⟨dst, .fieldAddr 77 x 1, tt, pos, after, guard⟩ = some (.val (.ptr b (off + 1)) h) := by
 have := aOp_fieldAddr (P := Tryz.prog) (h := h) (dst := dst) (tt := tt) (pos := pos) (after := after) (guard := guard) (f := 1) Tryz.underlying77 rfl (n := 1) sz75 rfl hx
 exact this
theorem fa84_0 (hx : ev t x = some (.ptr b off)) : aOp Tryz.prog t h ⟨dst, .fieldAddr 84 x 0, tt, pos, after, guard⟩ = some (.val (.ptr b (off + 0)) h) := by
 have := aOp_fieldAddr (P := Tryz.prog) (h := h) (dst := dst) (tt := tt) (pos := pos) (after := after) (guard := guard) (f := 0) Tryz.underlying84 rfl (n := 1) sz3 rfl hx
 exact this
theorem fd84_0 (hx : ev t x = some (.agg cs)) (hv : cs[0]? = some v) : aOp Tryz.prog t h ⟨dst, .field 84 x 0, tt, pos, after, guard⟩ = some (.val v h) := by
 have := aOp_field (P := Tryz.prog) (h := h) (dst := dst) (tt := tt) (pos := pos) (after := after) (guard := guard) (f := 0) Tryz.underlying84 rfl hx (partT_one ag3 hv)
 exact this
theorem fa84_1 (hx : ev t x = some (.ptr b off)) : aOp Tryz.prog t h ⟨dst, .fieldAddr 84 x 1, tt, pos, after, guard⟩ = some (.val (.ptr b (off + 1)) h) := by
 have := aOp_fieldAddr (P := Tryz.prog) (h := h) (dst := dst) (tt := tt) (pos := pos) (after := after) (guard := guard) (f := 1) Tryz.underlying84 rfl (n := 1) sz3 rfl hx
 exact this
theorem fa84_2 (hx : ev t x = some (.ptr b off)) : aOp Tryz.prog t h ⟨dst, .fieldAddr 84 x 2, tt, pos, after, guard⟩ = some (.val (.ptr b (off + 2)) h) := by
 have := aOp_fieldAddr (P := Tryz.prog) (h := h) (dst := dst) (tt := tt) (pos := pos) (after := after) (guard := guard) (f := 2) Tryz.underlying84 rfl (n := 1) sz3 rfl hx
 exact this
theorem fa84_3 (hx : ev t x = some (.ptr b off)) : aOp Tryz.prog t h ⟨dst, .fieldAddr 84 x 3, tt, pos, after, guard⟩ = some (.val (.ptr b (off + 3)) h) := by
 have := aOp_fieldAddr (P := Tryz.prog) (h := h) (dst := dst) (tt := tt) (pos := pos) (after := after) (guard := guard) (f := 3) Tryz.underlying84 rfl (n := 1) sz3 rfl hx
 exact this
theorem fa87_0 (hx : ev t x = some (.ptr b off)) : aOp Tryz.prog t h ⟨dst, .fieldAddr 87 x 0, tt, pos, after, guard⟩ = some (.val (.ptr b (off + 0)) h) := by
 have := aOp_fieldAddr (P := Tryz.prog) (h := h) (dst := dst) (tt := tt) (pos := pos) (after := after) (guard := guard) (f := 0) Tryz.underlying87 rfl (n := 4) sz84 rfl hx
 exact this
theorem fa87_1 (hx : ev t x = some (.ptr b off)) : aOp Tryz.prog t h ⟨dst, .fieldAddr 87 x 1, tt, pos, after, guard⟩ = some (.val (.ptr b (off + 4)) h) := by
 have := aOp_fieldAddr (P := Tryz.prog) (h := h) (dst := dst) (tt := tt) (pos := pos) (after := after) (guard := guard) (f := 1) Tryz.underlying87 rfl (n := 10) sz85 rfl hx
 exact this
theorem fa126_0 (hx : ev t x = some (.ptr b off)) : aOp Tryz.prog t h ⟨dst, .fieldAddr 126 x 0, tt, pos, after, guard⟩ = some (.val (.ptr b (off + 0)) h) := by
 have := aOp_fieldAddr (P := Tryz.prog) (h := h) (dst := dst) (tt := tt) (pos := pos) (after := after) (guard := guard) (f := 0) Tryz.underlying126 rfl (n := 10) sz85 rfl hx
 exact this
theorem fa126_1 (hx : ev t x = some (.ptr b off)) : aOp Tryz.prog t h ⟨dst, .fieldAddr 126 x 1, tt, pos, after, guard⟩ = some (.val (.ptr b (off + 10)) h) := by
 have := aOp_fieldAddr (P := Tryz.prog) (h := h) (dst := dst) (tt := tt) (pos := pos) (after := after) (guard := guard) (f := 1) Tryz.underlying126 rfl (n := 1) sz3 rfl hx
 exact this
theorem fa145_0 (hx : ev t x = some (.ptr b off)) : aOp Tryz.prog t h ⟨dst, .fieldAddr 145 x 0, tt, pos, after, guard⟩ = some (.val (.ptr b (off + 0)) h) := by
 have := aOp_fieldAddr (P := Tryz.prog) (h := h) (dst := dst) (tt := tt) (pos := pos) (after := after) (guard := guard) (f := 0) Tryz.underlying145 rfl (n := 1) sz68 rfl hx
 exact this
theorem fa157_0 (hx : ev t x = some (.ptr b off)) : aOp Tryz.prog t h ⟨dst, .fieldAddr 157 x 0, tt, pos, after, guard⟩ = some (.val (.ptr b (off + 0)) h) := by
 have := aOp_fieldAddr (P := Tryz.prog) (h := h) (dst := dst) (tt := tt) (pos := pos) (after := after) (guard := guard) (f := 0) Tryz.underlying157 rfl (n := 2) sz29 rfl hx
 exact this
theorem fa157_1 (hx : ev t x = some (.ptr b off)) : aOp Tryz.prog t h ⟨dst, .fieldAddr 157 x 1, tt, pos, after, guard⟩ = some (.val (.ptr b (off + 2)) h) := by
 have := aOp_fieldAddr (P := Tryz.prog) (h := h) (dst := dst) (tt := tt) (pos := pos) (after := after) (guard := guard) (f := 1) Tryz.underlying157 rfl (n := 2) sz29 rfl hx
 exact this
theorem fa157_2 (hx : ev t x = some (.ptr b off)) : aOp Tryz.prog t h ⟨dst, .fieldAddr 157 x 2, tt, pos, after, guard⟩ = some (.val (.ptr b (off + 4)) h) := by
 have := aOp_fieldAddr (P := Tryz.prog) (h := h) (dst := dst) (tt := tt) (pos := pos) (after := after) (guard := guard) (f := 2) Tryz.underlying157 rfl (n := 2) sz29 rfl hx
 exact this
theorem fa157_3 (hx : ev t x = some (.ptr b off)) : aOp Tryz.prog t h ⟨dst, .fieldAddr 157 x 3, tt, pos, after, guard⟩ = some (.val (.ptr b (off + 6)) h) := by
 have := aOp_fieldAddr (P := Tryz.prog) (h := h) (dst := dst) (tt := tt) (pos := pos) (after := after) (guard := guard) (f := 3) Tryz.underlying157 rfl (n := 1) sz3 rfl hx
 exact this
theorem fa162_0 (hx : ev t x = some (.ptr b off)) : aOp Tryz.prog t h ⟨dst, .fieldAddr 162 x 0, tt, pos, after, guard⟩ = some (.val (.ptr b (off + 0)) h) := by
 have := aOp_fieldAddr (P := Tryz.prog) (h := h) (dst := dst) (tt := tt) (pos := pos) (after := after) (guard := guard) (f := 0) Tryz.underlying162 rfl (n := 2) sz29 rfl hx
 exact this
theorem fa164_0 (hx : ev t x = some (.ptr b off)) : aOp Tryz.prog t h ⟨dst, .fieldAddr 164 x 0, tt, pos, after, guard⟩ = some (.val (.ptr b (off + 0)) h) := by
 have := aOp_fieldAddr (P := Tryz.prog) (h := h) (dst := dst) (tt := tt) (pos := pos) (after := after) (guard := guard) (f := 0) Tryz.underlying164 rfl (n := 1) sz3 rfl hx
 exact this
theorem fa166_1 (hx : ev t x = some (.ptr b off)) : aOp Tryz.prog t h ⟨dst, .fieldAddr 166 x 1, tt, pos, after, guard⟩ = some (.val (.ptr b (off + 1)) h) := by
 have := aOp_fieldAddr (P := Tryz.prog) (h := h) (dst := dst) (tt := tt) (pos := pos) (after := after) (guard := guard) (f := 1) Tryz.underlying166 rfl (n := 1) sz3 rfl hx
 exact this
theorem fa166_2 (hx : ev t x = some (.ptr b off)) : aOp Tryz.prog t h ⟨dst, .fieldAddr 166 x 2, tt, pos, after, guard⟩ = some (.val (.ptr b (off + 2)) h) := by
 have := aOp_fieldAddr (P := Tryz.prog) (h := h) (dst := dst) (tt := tt) (pos := pos) (after := after) (guard := guard) (f := 2) Tryz.underlying166 rfl (n := 2) sz29 rfl hx
 exact this
theorem ld3 (hx : ev t x = some (.ptr b off)) (hb : Has h b (.cells g cs el)) (hv : cs[off]? = some v) : aOp Tryz.prog t h ⟨dst, .load 3 x, tt, pos, after, guard⟩ = some (.val v h) := aOp_load1 ag3 hx hb hv
theorem ld4 (hx : ev t x = some (.ptr b off)) (hb : Has h b (.cells g cs el)) (hv : cs[off]? = some v) : aOp Tryz.prog t h ⟨dst, .load 4 x, tt, pos, after, guard⟩ = some (.val v h) := aOp_load1 ag4 hx hb hv
theorem ld22 (hx : ev t x = some (.ptr b off)) (hb : Has h b (.cells g cs el)) (hv : cs[off]? = some v) : aOp Tryz.prog t h ⟨dst, .load 22 x, tt, pos, after, guard⟩ = some (.val v h) := aOp_load1 ag22 hx hb hv
theorem ld23 (hx : ev t x = some (.ptr b off)) (hb : Has h b (.cells g cs el)) (hv : cs[off]? = some v) : aOp Tryz.prog t h ⟨dst, .load 23 x, tt, pos, after, guard⟩ = some (.val v h) := aOp_load1 ag23 hx hb hv
theorem ld25 (hx : ev t x = some (.ptr b off)) (hb : Has h b (.cells g cs el)) (hv : slice? cs off 2 = some l) : aOp Tryz.prog t h ⟨dst, .load 25 x, tt, pos, after, guard⟩ = some (.val (.agg l) h) := aOp_loadN ag25 sz25 hx hb hv
theorem ld29 (hx : ev t x = some (.ptr b off)) (hb : Has h b (.cells g cs el)) (hv : slice? cs off 2 = some l) : aOp Tryz.prog t h ⟨dst, .load 29 x, tt, pos, after, guard⟩ = some (.val (.agg l) h) := aOp_loadN ag29 sz29 hx hb hv
theorem ld58 (hx : ev t x = some (.ptr b off)) (hb : Has h b (.cells g cs el)) (hv : slice? cs off 7 = some l) : aOp Tryz.prog t h ⟨dst, .load 58 x, tt, pos, after, guard⟩ = some (.val (.agg l) h) := aOp_loadN ag58 sz58 hx hb hv
theorem ld62 (hx : ev t x = some (.ptr b off)) (hb : Has h b (.cells g cs el)) (hv : slice? cs off 7 = some l) : aOp Tryz.prog t h ⟨dst, .load 62 x, tt, pos, after, guard⟩ = some (.val (.agg l) h) := aOp_loadN ag62 sz62 hx hb hv
theorem ld68 (hx : ev t x = some (.ptr b off)) (hb : Has h b (.cells g cs el)) (hv : cs[off]? = some v) : aOp Tryz.prog t h ⟨dst, .load 68 x, tt, pos, after, guard⟩ = some (.val v h) := aOp_load1 ag68 hx hb hv
theorem ld74 (hx : ev t x = some (.ptr b off)) (hb : Has h b (.cells g cs el)) (hv : cs[off]? = some v) : aOp Tryz.prog t h ⟨dst, .load 74 x, tt, pos, after, guard⟩ = some (.val v h) := aOp_load1 ag74 hx hb hv
theorem ld75 (hx : ev t x = some (.ptr b off)) (hb : Has h b (.cells g cs el)) (hv : cs[off]? = some v) : aOp Tryz.prog t h ⟨dst, .load 75 x, tt, pos, after, guard⟩ = some (.val v h) := aOp_load1 ag75 hx hb hv
theorem ld77 (hx : ev t x = some (.ptr b off)) (hb : Has h b (.cells g cs el)) (hv : slice? cs off 2 = some l) : aOp Tryz.prog t h ⟨dst, .load 77 x, tt, pos, after, guard⟩ = some (.val (.agg l) h) := aOp_loadN ag77 sz77 hx hb hv
theorem ld80 (hx : ev t x = some (.ptr b off)) (hb : Has h b (.cells g cs el)) (hv : cs[off]? = some v) : aOp Tryz.prog t h ⟨dst, .load 80 x, tt, pos, after, guard⟩ = some (.val v h) := aOp_load1 ag80 hx hb hv
theorem ld84 (hx : ev t x = some (.ptr b off)) (hb : Has h b (.cells g cs el)) (hv : slice? cs off 4 = some l) : aOp Tryz.prog t h ⟨dst, .load 84 x, tt, pos, after, guard⟩ = some (.val (.agg l) h) := aOp_loadN ag84 sz84 hx hb hv
theorem ld87 (hx : ev t x = some (.ptr b off)) (hb : Has h b (.cells g cs el)) (hv : slice? cs off 14 = some l) : aOp Tryz.prog t h ⟨dst, .load 87 x, tt, pos, after, guard⟩ = some (.val (.agg l) h) := aOp_loadN ag87 sz87 hx hb hv
theorem ld120 (hx : ev t x = some (.ptr b off)) (hb : Has h b (.cells g cs el)) (hv : cs[off]? = some v) : aOp Tryz.prog t h ⟨dst, .load 120 x, tt, pos, after, guard⟩ = some (.val v h) := aOp_load1 ag120 hx hb hv
theorem ld121 (hx : ev t x = some (.ptr b off)) (hb : Has h b (.cells g cs el)) (hv : cs[off]? = some v) : aOp Tryz.prog t h ⟨dst, .load 121 x, tt, pos, after, guard⟩ = some (.val v h) := aOp_load1 ag121 hx hb hv
theorem ld126 (hx : ev t x = some (.ptr b off)) (hb : Has h b (.cells g cs el)) (hv : slice? cs off 11 = some l) : aOp Tryz.prog t h ⟨dst, .load 126 x, tt, pos, after, guard⟩ = some (.val (.agg l) h) := aOp_loadN ag126 sz126 hx hb hv
theorem ld135 (hx : ev t x = some (.ptr b off)) (hb : Has h b (.cells g cs el)) (hv : cs[off]? = some v) : aOp Tryz.prog t h ⟨dst, .load 135 x, tt, pos, after, guard⟩ = some (.val v h) := aOp_load1 ag135 hx hb hv
theorem ld167 (hx : ev t x = some (.ptr b off)) (hb : Has h b (.cells g cs el)) (hv : cs[off]? = some v) : aOp Tryz.prog t h ⟨dst, .load 167 x, tt, pos, after, guard⟩ = some (.val v h) := aOp_load1 ag167 hx hb hv
theorem by29 : bytesT Tryz.prog 29 = some 16 := by kernel_rfl
theorem by62 : bytesT Tryz.prog 62 = some 56 := by kernel_rfl
theorem by87 : bytesT Tryz.prog 87 = some 112 := by kernel_rfl
theorem by120 : bytesT Tryz.prog 120 = some 24 := by kernel_rfl
theorem by157 : bytesT Tryz.prog 157 = some 56 := by kernel_rfl
theorem by169 : bytesT Tryz.prog 169 = some 16 := by kernel_rfl
theorem flds25 : ∃ fs, Tryz.prog.underlying 25 = some (.struct fs) ∧ placesT Tryz.prog fs.toList = some [(0, 1), (1, 1)] := ⟨_, Tryz.underlying25, by kernel_rfl⟩
noncomputable def fs25 : Array Field := flds25.choose
theorem hu25 : Tryz.prog.underlying 25 = some (.struct fs25) := flds25.choose_spec.1
theorem pl25 : placesT Tryz.prog fs25.toList = some [(0, 1), (1, 1)] := flds25.choose_spec.2
theorem flds29 : ∃ fs, Tryz.prog.underlying 29 = some (.struct fs) ∧ placesT Tryz.prog fs.toList = some [(0, 1), (1, 1)] := ⟨_, Tryz.underlying29, by kernel_rfl⟩
noncomputable def fs29 : Array Field := flds29.choose
theorem hu29 : Tryz.prog.underlying 29 = some (.struct fs29) := flds29.choose_spec.1
theorem pl29 : placesT Tryz.prog fs29.toList = some [(0, 1), (1, 1)] := flds29.choose_spec.2
theorem flds58 : ∃ fs, Tryz.prog.underlying 58 = some (.struct fs) ∧ placesT Tryz.prog fs.toList = some [(0, 2), (2, 2), (4, 2), (6, 1)] := ⟨_, Tryz.underlying58, by kernel_rfl⟩
noncomputable def fs58 : Array Field := flds58.choose
theorem hu58 : Tryz.prog.underlying 58 = some (.struct fs58) := flds58.choose_spec.1
theorem pl58 : placesT Tryz.prog fs58.toList = some [(0, 2), (2, 2), (4, 2), (6, 1)] := flds58.choose_spec.2
theorem flds62 : ∃ fs, Tryz.prog.underlying 62 = some (.struct fs) ∧ placesT Tryz.prog fs.toList = some [(0, 1), (1, 2), (3, 1), (4, 1), (5, 2)] := ⟨_, Tryz.underlying62, by kernel_rfl⟩
noncomputable def fs62 : Array Field := flds62.choose
theorem hu62 : Tryz.prog.underlying 62 = some (.struct fs62) := flds62.choose_spec.1
theorem pl62 : placesT Tryz.prog fs62.toList = some [(0, 1), (1, 2), (3, 1), (4, 1), (5, 2)] := flds62.choose_spec.2
theorem flds77 : ∃ fs, Tryz.prog.underlying 77 = some (.struct fs) ∧ placesT Tryz.prog fs.toList = some [(0, 1), (1, 1)] := ⟨_, Tryz.underlying77, by kernel_rfl⟩
noncomputable def fs77 : Array Field := flds77.choose
theorem hu77 : Tryz.prog.underlying 77 = some (.struct fs77) := flds77.choose_spec.1
theorem pl77 : placesT Tryz.prog fs77.toList = some [(0, 1), (1, 1)] := flds77.choose_spec.2
theorem flds84 : ∃ fs, Tryz.prog.underlying 84 = some (.struct fs) ∧ placesT Tryz.prog fs.toList = some [(0, 1), (1, 1), (2, 1), (3, 1)] := ⟨_, Tryz.underlying84, by kernel_rfl⟩
noncomputable def fs84 : Array Field := flds84.choose
theorem hu84 : Tryz.prog.underlying 84 = some (.struct fs84) := flds84.choose_spec.1
theorem pl84 : placesT Tryz.prog fs84.toList = some [(0, 1), (1, 1), (2, 1), (3, 1)] := flds84.choose_spec.2
theorem flds87 : ∃ fs, Tryz.prog.underlying 87 = some (.struct fs) ∧ placesT Tryz.prog fs.toList = some [(0, 4), (4, 10)] := ⟨_, Tryz.underlying87, by kernel_rfl⟩
noncomputable def fs87 : Array Field := flds87.choose
theorem hu87 : Tryz.prog.underlying 87 = some (.struct fs87) := flds87.choose_spec.1
theorem pl87 : placesT Tryz.prog fs87.toList = some [(0, 4), (4, 10)] := flds87.choose_spec.2
theorem flds126 : ∃ fs, Tryz.prog.underlying 126 = some (.struct fs) ∧ placesT Tryz.prog fs.toList = some [(0, 10), (10, 1)] := ⟨_, Tryz.underlying126, by kernel_rfl⟩
noncomputable def fs126 : Array Field := flds126.choose
theorem hu126 : Tryz.prog.underlying 126 = some (.struct fs126) := flds126.choose_spec.1
theorem pl126 : placesT Tryz.prog fs126.toList = some [(0, 10), (10, 1)] := flds126.choose_spec.2
theorem flds145 : ∃ fs, Tryz.prog.underlying 145 = some (.struct fs) ∧ placesT Tryz.prog fs.toList = some [(0, 1)] := ⟨_, Tryz.underlying145, by kernel_rfl⟩
noncomputable def fs145 : Array Field := flds145.choose
theorem hu145 : Tryz.prog.underlying 145 = some (.struct fs145) := flds145.choose_spec.1
theorem pl145 : placesT Tryz.prog fs145.toList = some [(0, 1)] := flds145.choose_spec.2
theorem flds162 : ∃ fs, Tryz.prog.underlying 162 = some (.struct fs) ∧ placesT Tryz.prog fs.toList = some [(0, 2)] := ⟨_, Tryz.underlying162, by kernel_rfl⟩
noncomputable def fs162 : Array Field := flds162.choose
theorem hu162 : Tryz.prog.underlying 162 = some (.struct fs162) := flds162.choose_spec.1
theorem pl162 : placesT Tryz.prog fs162.toList = some [(0, 2)] := flds162.choose_spec.2
theorem flds164 : ∃ fs, Tryz.prog.underlying 164 = some (.struct fs) ∧ placesT Tryz.prog fs.toList = some [(0, 1)] := ⟨_, Tryz.underlying164, by kernel_rfl⟩
noncomputable def fs164 : Array Field := flds164.choose
theorem hu164 : Tryz.prog.underlying 164 = some (.struct fs164) := flds164.choose_spec.1
theorem pl164 : placesT Tryz.prog fs164.toList = some [(0, 1)] := flds164.choose_spec.2
theorem flds166 : ∃ fs, Tryz.prog.underlying 166 = some (.struct fs) ∧ placesT Tryz.prog fs.toList = some [(0, 1), (1, 1), (2, 2)] := ⟨_, Tryz.underlying166, by kernel_rfl⟩
noncomputable def fs166 : Array Field := flds166.choose
theorem hu166 : Tryz.prog.underlying 166 = some (.struct fs166) := flds166.choose_spec.1
theorem pl166 : placesT Tryz.prog fs166.toList = some [(0, 1), (1, 1), (2, 2)] := flds166.choose_spec.2
theorem zt3 : zeroT Tryz.prog 3 = some (.int .i64 0) := by kernel_rfl
theorem zt4 : zeroT Tryz.prog 4 = some (.bool false) := by kernel_rfl
theorem zt25 : zeroT Tryz.prog 25 = some (.agg [.nilslice, .nilslice]) := by kernel_rfl
theorem zt29 : zeroT Tryz.prog 29 = some (.agg [.int .i64 0, .int .i64 0]) := by kernel_rfl
theorem zt30 : zeroT Tryz.prog 30 = some (.int .i64 0) := by kernel_rfl
theorem zt58 : zeroT Tryz.prog 58 = some (.agg [.int .i64 0, .int .i64 0, .int .i64 0, .int .i64 0, .int .i64 0, .int .i64 0, .int .i64 0]) := by kernel_rfl
theorem zt62 : zeroT Tryz.prog 62 = some (.agg [.int .i64 0, .int .i64 0, .int .i64 0, .int .i64 0, .int .i64 0, .int .i64 0, .int .i64 0]) := by kernel_rfl
theorem zt77 : zeroT Tryz.prog 77 = some (.agg [.nilslice, .nilslice]) := by kernel_rfl
theorem zt80 : zeroT Tryz.prog 80 = some .nilmap := by kernel_rfl
theorem zt84 : zeroT Tryz.prog 84 = some (.agg [.int .i64 0, .int .i64 0, .int .i64 0, .int .i64 0]) := by kernel_rfl
theorem zt87 : zeroT Tryz.prog 87 = some (.agg [.int .i64 0, .int .i64 0, .int .i64 0, .int .i64 0, .int .i64 0, .int .i64 0, .int .i64 0, .int .i64 0, .int .i64 0, .int .i64 0, .int .i64 0, .int .i64 0, .int .i64 0, .int .i64 0]) := by kernel_rfl
theorem zt120 : zeroT Tryz.prog 120 = some .nilslice := by kernel_rfl
theorem zt121 : zeroT Tryz.prog 121 = some .nilfunc := by kernel_rfl
theorem zt126 : zeroT Tryz.prog 126 = some (.agg [.int .i64 0, .int .i64 0, .int .i64 0, .int .i64 0, .int .i64 0, .int .i64 0, .int .i64 0, .int .i64 0, .int .i64 0, .int .i64 0, .int .i64 0]) := by kernel_rfl
theorem zt145 : zeroT Tryz.prog 145 = some (.agg [.nilfunc]) := by kernel_rfl
theorem zt157 : zeroT Tryz.prog 157 = some (.agg [.int .i64 0, .int .i64 0, .int .i64 0, .int .i64 0, .int .i64 0, .int .i64 0, .int .i64 0]) := by kernel_rfl
theorem zt162 : zeroT Tryz.prog 162 = some (.agg [.int .i64 0, .int .i64 0]) := by kernel_rfl
theorem zt164 : zeroT Tryz.prog 164 = some (.agg [.int .i64 0]) := by kernel_rfl
theorem zt166 : zeroT Tryz.prog 166 = some (.agg [.int .i64 0, .int .i64 0, .int .i64 0, .int .i64 0]) := by kernel_rfl
theorem zt167 : zeroT Tryz.prog 167 = some .nilfunc := by kernel_rfl
theorem zt169 : zeroT Tryz.prog 169 = some .nilIface := by kernel_rfl
theorem aFunc10 : aFunc Tryz.prog 10 = some Tryz.f10 := by kernel_rfl
theorem aFunc13 : aFunc Tryz.prog 13 = some Tryz.f13 := by kernel_rfl
theorem aFunc14 : aFunc Tryz.prog 14 = some Tryz.f14 := by kernel_rfl
theorem aFunc15 : aFunc Tryz.prog 15 = some Tryz.f15 := by kernel_rfl
theorem aFunc17 : aFunc Tryz.prog 17 = some Tryz.f17 := by kernel_rfl
theorem aFunc19 : aFunc Tryz.prog 19 = some Tryz.f19 := by kernel_rfl
theorem aFunc21 : aFunc Tryz.prog 21 = some Tryz.f21 := by kernel_rfl
theorem aFunc24 : aFunc Tryz.prog 24 = some Tryz.f24 := by kernel_rfl
theorem aFunc26 : aFunc Tryz.prog 26 = some Tryz.f26 := by kernel_rfl
theorem aFunc28 : aFunc Tryz.prog 28 = some Tryz.f28 := by kernel_rfl
theorem aFunc30 : aFunc Tryz.prog 30 = some Tryz.f30 := by kernel_rfl
theorem aFunc32 : aFunc Tryz.prog 32 = some Tryz.f32 := by kernel_rfl
theorem aFunc33 : aFunc Tryz.prog 33 = some Tryz.f33 := by kernel_rfl
theorem aFunc34 : aFunc Tryz.prog 34 = some Tryz.f34 := by kernel_rfl
theorem aFunc35 : aFunc Tryz.prog 35 = some Tryz.f35 := by kernel_rfl
theorem aFunc36 : aFunc Tryz.prog 36 = some Tryz.f36 := by kernel_rfl
theorem aFunc42 : aFunc Tryz.prog 42 = some Tryz.f42 := by kernel_rfl
theorem aFunc43 : aFunc Tryz.prog 43 = some Tryz.f43 := by kernel_rfl
theorem aFunc45 : aFunc Tryz.prog 45 = some Tryz.f45 := by kernel_rfl
theorem aFunc48 : aFunc Tryz.prog 48 = some Tryz.f48 := by kernel_rfl
theorem aFunc49 : aFunc Tryz.prog 49 = some Tryz.f49 := by kernel_rfl
theorem aFunc50 : aFunc Tryz.prog 50 = some Tryz.f50 := by kernel_rfl
theorem aFunc51 : aFunc Tryz.prog 51 = some Tryz.f51 := by kernel_rfl
theorem aFunc52 : aFunc Tryz.prog 52 = some Tryz.f52 := by kernel_rfl
theorem aFunc53 : aFunc Tryz.prog 53 = some Tryz.f53 := by kernel_rfl
theorem aFunc54 : aFunc Tryz.prog 54 = some Tryz.f54 := by kernel_rfl
theorem aFunc56 : aFunc Tryz.prog 56 = some Tryz.f56 := by kernel_rfl
theorem aFunc59 : aFunc Tryz.prog 59 = some Tryz.f59 := by kernel_rfl
theorem aFunc60 : aFunc Tryz.prog 60 = some Tryz.f60 := by kernel_rfl
theorem aFunc61 : aFunc Tryz.prog 61 = some Tryz.f61 := by kernel_rfl
theorem aFunc62 : aFunc Tryz.prog 62 = some Tryz.f62 := by kernel_rfl
theorem aFunc66 : aFunc Tryz.prog 66 = some Tryz.f66 := by kernel_rfl
theorem aFunc67 : aFunc Tryz.prog 67 = some Tryz.f67 := by kernel_rfl
theorem aFunc69 : aFunc Tryz.prog 69 = some Tryz.f69 := by kernel_rfl
theorem aFunc70 : aFunc Tryz.prog 70 = some Tryz.f70 := by kernel_rfl
theorem aFunc73 : aFunc Tryz.prog 73 = some Tryz.f73 := by kernel_rfl
theorem aFunc74 : aFunc Tryz.prog 74 = some Tryz.f74 := by kernel_rfl
theorem aFunc75 : aFunc Tryz.prog 75 = some Tryz.f75 := by kernel_rfl
theorem aFunc76 : aFunc Tryz.prog 76 = some Tryz.f76 := by kernel_rfl
theorem aFunc77 : aFunc Tryz.prog 77 = some Tryz.f77 := by kernel_rfl
theorem aFunc78 : aFunc Tryz.prog 78 = some Tryz.f78 := by kernel_rfl
theorem aFunc79 : aFunc Tryz.prog 79 = some Tryz.f79 := by kernel_rfl
theorem aFunc80 : aFunc Tryz.prog 80 = some Tryz.f80 := by kernel_rfl
theorem aFunc86 : aFunc Tryz.prog 86 = some Tryz.f86 := by kernel_rfl
theorem aFunc87 : aFunc Tryz.prog 87 = some Tryz.f87 := by kernel_rfl
theorem aFunc88 : aFunc Tryz.prog 88 = some Tryz.f88 := by kernel_rfl
theorem aFunc90 : aFunc Tryz.prog 90 = some Tryz.f90 := by kernel_rfl
theorem aFunc91 : aFunc Tryz.prog 91 = some Tryz.f91 := by kernel_rfl
theorem aFunc92 : aFunc Tryz.prog 92 = some Tryz.f92 := by kernel_rfl
theorem aFunc93 : aFunc Tryz.prog 93 = some Tryz.f93 := by kernel_rfl
theorem aFunc94 : aFunc Tryz.prog 94 = some Tryz.f94 := by kernel_rfl
theorem aFunc95 : aFunc Tryz.prog 95 = some Tryz.f95 := by kernel_rfl
theorem aFunc96 : aFunc Tryz.prog 96 = some Tryz.f96 := by kernel_rfl
theorem aFunc97 : aFunc Tryz.prog 97 = some Tryz.f97 := by kernel_rfl
theorem aFunc98 : aFunc Tryz.prog 98 = some Tryz.f98 := by kernel_rfl
theorem aFunc99 : aFunc Tryz.prog 99 = some Tryz.f99 := by kernel_rfl
theorem aFunc100 : aFunc Tryz.prog 100 = some Tryz.f100 := by kernel_rfl
theorem aFunc101 : aFunc Tryz.prog 101 = some Tryz.f101 := by kernel_rfl
theorem aFunc102 : aFunc Tryz.prog 102 = some Tryz.f102 := by kernel_rfl
theorem aFunc103 : aFunc Tryz.prog 103 = some Tryz.f103 := by kernel_rfl
theorem aFunc104 : aFunc Tryz.prog 104 = some Tryz.f104 := by kernel_rfl
theorem aFunc105 : aFunc Tryz.prog 105 = some Tryz.f105 := by kernel_rfl
theorem aFunc106 : aFunc Tryz.prog 106 = some Tryz.f106 := by kernel_rfl
theorem aFunc108 : aFunc Tryz.prog 108 = some Tryz.f108 := by kernel_rfl
theorem aFunc110 : aFunc Tryz.prog 110 = some Tryz.f110 := by kernel_rfl
theorem aFunc111 : aFunc Tryz.prog 111 = some Tryz.f111 := by kernel_rfl
theorem aFunc112 : aFunc Tryz.prog 112 = some Tryz.f112 := by kernel_rfl
theorem aFunc113 : aFunc Tryz.prog 113 = some Tryz.f113 := by kernel_rfl
theorem aFunc114 : aFunc Tryz.prog 114 = some Tryz.f114 := by kernel_rfl
theorem aFunc115 : aFunc Tryz.prog 115 = some Tryz.f115 := by kernel_rfl
theorem aFunc116 : aFunc Tryz.prog 116 = some Tryz.f116 := by kernel_rfl
theorem aFunc117 : aFunc Tryz.prog 117 = some Tryz.f117 := by kernel_rfl
theorem aFunc118 : aFunc Tryz.prog 118 = some Tryz.f118 := by kernel_rfl
theorem aFunc119 : aFunc Tryz.prog 119 = some Tryz.f119 := by kernel_rfl
theorem aFunc120 : aFunc Tryz.prog 120 = some Tryz.f120 := by kernel_rfl
theorem aFunc121 : aFunc Tryz.prog 121 = some Tryz.f121 := by kernel_rfl
theorem aFunc122 : aFunc Tryz.prog 122 = some Tryz.f122 := by kernel_rfl
theorem aFunc123 : aFunc Tryz.prog 123 = some Tryz.f123 := by kernel_rfl
theorem aFunc124 : aFunc Tryz.prog 124 = some Tryz.f124 := by kernel_rfl
theorem aFunc127 : aFunc Tryz.prog 127 = some Tryz.f127 := by kernel_rfl
theorem aFunc128 : aFunc Tryz.prog 128 = some Tryz.f128 := by kernel_rfl
theorem aFunc129 : aFunc Tryz.prog 129 = some Tryz.f129 := by kernel_rfl
theorem aFunc130 : aFunc Tryz.prog 130 = some Tryz.f130 := by kernel_rfl
theorem aFunc131 : aFunc Tryz.prog 131 = some Tryz.f131 := by kernel_rfl
theorem aFunc132 : aFunc Tryz.prog 132 = some Tryz.f132 := by kernel_rfl
theorem aFunc133 : aFunc Tryz.prog 133 = some Tryz.f133 := by kernel_rfl
theorem aFunc134 : aFunc Tryz.prog 134 = some Tryz.f134 := by kernel_rfl
theorem aFunc135 : aFunc Tryz.prog 135 = some Tryz.f135 := by kernel_rfl
theorem aFunc136 : aFunc Tryz.prog 136 = some Tryz.f136 := by kernel_rfl
theorem aFunc137 : aFunc Tryz.prog 137 = some Tryz.f137 := by kernel_rfl
theorem aFunc138 : aFunc Tryz.prog 138 = some Tryz.f138 := by kernel_rfl
theorem aFunc139 : aFunc Tryz.prog 139 = some Tryz.f139 := by kernel_rfl
theorem aFunc140 : aFunc Tryz.prog 140 = some Tryz.f140 := by kernel_rfl
theorem aFunc141 : aFunc Tryz.prog 141 = some Tryz.f141 := by kernel_rfl
theorem aFunc142 : aFunc Tryz.prog 142 = some Tryz.f142 := by kernel_rfl
theorem aFunc143 : aFunc Tryz.prog 143 = some Tryz.f143 := by kernel_rfl
theorem aFunc144 : aFunc Tryz.prog 144 = some Tryz.f144 := by kernel_rfl
theorem aFunc145 : aFunc Tryz.prog 145 = some Tryz.f145 := by kernel_rfl
theorem aFunc146 : aFunc Tryz.prog 146 = some Tryz.f146 := by kernel_rfl
theorem aFunc147 : aFunc Tryz.prog 147 = some Tryz.f147 := by kernel_rfl
theorem aFunc148 : aFunc Tryz.prog 148 = some Tryz.f148 := by kernel_rfl
theorem aFunc149 : aFunc Tryz.prog 149 = some Tryz.f149 := by kernel_rfl
theorem aFunc151 : aFunc Tryz.prog 151 = some Tryz.f151 := by kernel_rfl
theorem aFunc152 : aFunc Tryz.prog 152 = some Tryz.f152 := by kernel_rfl
theorem aFunc153 : aFunc Tryz.prog 153 = some Tryz.f153 := by kernel_rfl
theorem aFunc154 : aFunc Tryz.prog 154 = some Tryz.f154 := by kernel_rfl
theorem aFunc155 : aFunc Tryz.prog 155 = some Tryz.f155 := by kernel_rfl
theorem aFunc157 : aFunc Tryz.prog 157 = some Tryz.f157 := by kernel_rfl
theorem aFunc173 : aFunc Tryz.prog 173 = some Tryz.f173 := by kernel_rfl
theorem aFunc174 : aFunc Tryz.prog 174 = some Tryz.f174 := by kernel_rfl
theorem aFunc175 : aFunc Tryz.prog 175 = some Tryz.f175 := by kernel_rfl
theorem aFunc176 : aFunc Tryz.prog 176 = some Tryz.f176 := by kernel_rfl
theorem aFunc177 : aFunc Tryz.prog 177 = some Tryz.f177 := by kernel_rfl
theorem aFunc178 : aFunc Tryz.prog 178 = some Tryz.f178 := by kernel_rfl
theorem aFunc179 : aFunc Tryz.prog 179 = some Tryz.f179 := by kernel_rfl
end Go.Proofs.YtkcimfopboelaaaGreat
