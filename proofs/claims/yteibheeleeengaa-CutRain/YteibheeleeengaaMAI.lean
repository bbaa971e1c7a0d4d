import Derived.Test.YteibheeleeengaaMAF
import Derived.Test.YteibheeleeengaaChecked
import Derived.KernelRfl
namespace Go.Proofs.Yteibheeleeengaa
open Go Go.AbsE
variable {t : Tr AVal} {h : AH} {dst : Option Tmp} {tt : TypeId} {pos : String} {after : Array Edge} {guard : Option (Nat × Bool)} {x : Operand} {b off : Nat} {g : Kd} {cs l : List AVal} {el : TypeId} {v : AVal}
theorem ag2 : isAggT Try.prog 2 = some false := by kernel_rfl
theorem ag3 : isAggT Try.prog 3 = some false := by kernel_rfl
theorem sz3 : sizeT Try.prog 3 = some 1 := by kernel_rfl
theorem ag4 : isAggT Try.prog 4 = some false := by kernel_rfl
theorem sz4 : sizeT Try.prog 4 = some 1 := by kernel_rfl
theorem ag23 : isAggT Try.prog 23 = some true := by kernel_rfl
theorem sz23 : sizeT Try.prog 23 = some 2 := by kernel_rfl
theorem ag24 : isAggT Try.prog 24 = some false := by kernel_rfl
theorem sz24 : sizeT Try.prog 24 = some 1 := by kernel_rfl
theorem ag25 : isAggT Try.prog 25 = some false := by kernel_rfl
theorem sz25 : sizeT Try.prog 25 = some 1 := by kernel_rfl
theorem ag26 : isAggT Try.prog 26 = some false := by kernel_rfl
theorem sz26 : sizeT Try.prog 26 = some 1 := by kernel_rfl
theorem ag28 : isAggT Try.prog 28 = some true := by kernel_rfl
theorem sz28 : sizeT Try.prog 28 = some 8 := by kernel_rfl
theorem ag37 : isAggT Try.prog 37 = some false := by kernel_rfl
theorem sz37 : sizeT Try.prog 37 = some 1 := by kernel_rfl
theorem ag45 : isAggT Try.prog 45 = some true := by kernel_rfl
theorem sz45 : sizeT Try.prog 45 = some 4 := by kernel_rfl
theorem ag53 : isAggT Try.prog 53 = some true := by kernel_rfl
theorem sz53 : sizeT Try.prog 53 = some 3 := by kernel_rfl
theorem ag58 : isAggT Try.prog 58 = some false := by kernel_rfl
theorem sz58 : sizeT Try.prog 58 = some 1 := by kernel_rfl
theorem ag68 : isAggT Try.prog 68 = some true := by kernel_rfl
theorem sz68 : sizeT Try.prog 68 = some 8 := by kernel_rfl
theorem ag72 : isAggT Try.prog 72 = some false := by kernel_rfl
theorem sz72 : sizeT Try.prog 72 = some 1 := by kernel_rfl
theorem ag77 : isAggT Try.prog 77 = some true := by kernel_rfl
theorem sz77 : sizeT Try.prog 77 = some 2 := by kernel_rfl
theorem ag79 : isAggT Try.prog 79 = some true := by kernel_rfl
theorem sz79 : sizeT Try.prog 79 = some 4 := by kernel_rfl
theorem ag86 : isAggT Try.prog 86 = some false := by kernel_rfl
theorem ag87 : isAggT Try.prog 87 = some false := by kernel_rfl
theorem ag99 : isAggT Try.prog 99 = some true := by kernel_rfl
theorem sz99 : sizeT Try.prog 99 = some 18 := by kernel_rfl
theorem ag102 : isAggT Try.prog 102 = some true := by kernel_rfl
theorem sz102 : sizeT Try.prog 102 = some 2 := by kernel_rfl
theorem ag124 : isAggT Try.prog 124 = some false := by kernel_rfl
theorem ag126 : isAggT Try.prog 126 = some false := by kernel_rfl
theorem sz126 : sizeT Try.prog 126 = some 1 := by kernel_rfl
theorem ag128 : isAggT Try.prog 128 = some false := by kernel_rfl
theorem sz128 : sizeT Try.prog 128 = some 1 := by kernel_rfl
theorem ag140 : isAggT Try.prog 140 = some true := by kernel_rfl
theorem sz140 : sizeT Try.prog 140 = some 4 := by kernel_rfl
theorem fa23_0 (hx : ev t x = some (.ptr b off)) : aOp Try.prog t h ⟨dst, .fieldAddr 23 x 0, tt, pos, after, guard⟩ = some (.val (.ptr b (off + 0)) h) := by
 have := aOp_fieldAddr (P := Try.prog) (h := h) (dst := dst) (tt := tt) (pos := pos) (after := after) (guard := guard) (f := 0) Try.underlying23 rfl (n := 1) sz3 rfl hx
 exact this
theorem fa23_1 (hx : ev t x = some (.ptr b off)) : aOp Try.prog t h ⟨dst, .fieldAddr 23 x 1, tt, pos, after, guard⟩ = some (.val (.ptr b (off + 1)) h) := by
 have := aOp_fieldAddr (P := Try.prog) (h := h) (dst := dst) (tt := tt) (pos := pos) (after := after) (guard := guard) (f := 1) Try.underlying23 rfl (n := 1) sz3 rfl hx
 exact this
theorem fa28_0 (hx : ev t x = some (.ptr b off)) : aOp Try.prog t h ⟨dst, .fieldAddr 28 x 0, tt, pos, after, guard⟩ = some (.val (.ptr b (off + 0)) h) := by
 have := aOp_fieldAddr (P := Try.prog) (h := h) (dst := dst) (tt := tt) (pos := pos) (after := after) (guard := guard) (f := 0) Try.underlying28 rfl (n := 2) sz23 rfl hx
 exact this
theorem fa28_1 (hx : ev t x = some (.ptr b off)) : aOp Try.prog t h ⟨dst, .fieldAddr 28 x 1, tt, pos, after, guard⟩ = some (.val (.ptr b (off + 2)) h) := by
 have := aOp_fieldAddr (P := Try.prog) (h := h) (dst := dst) (tt := tt) (pos := pos) (after := after) (guard := guard) (f := 1) Try.underlying28 rfl (n := 2) sz23 rfl hx
 exact this
theorem fa28_2 (hx : ev t x = some (.ptr b off)) : aOp Try.prog t h ⟨dst, .fieldAddr 28 x 2, tt, pos, after, guard⟩ = some (.val (.ptr b (off + 4)) h) := by
 have := aOp_fieldAddr (P := Try.prog) (h := h) (dst := dst) (tt := tt) (pos := pos) (after := after) (guard := guard) (f := 2) Try.underlying28 rfl (n := 1) sz24 rfl hx
 exact this
theorem fa28_3 (hx : ev t x = some (.ptr b off)) : aOp Try.prog t h ⟨dst, .fieldAddr 28 x 3, tt, pos, after, guard⟩ = some (.val (.ptr b (off + 5)) h) := by
 have := aOp_fieldAddr (P := Try.prog) (h := h) (dst := dst) (tt := tt) (pos := pos) (after := after) (guard := guard) (f := 3) Try.underlying28 rfl (n := 1) sz3 rfl hx
 exact this
theorem fa28_4 (hx : ev t x = some (.ptr b off)) : aOp Try.prog t h ⟨dst, .fieldAddr 28 x 4, tt, pos, after, guard⟩ = some (.val (.ptr b (off + 6)) h) := by
 have := aOp_fieldAddr (P := Try.prog) (h := h) (dst := dst) (tt := tt) (pos := pos) (after := after) (guard := guard) (f := 4) Try.underlying28 rfl (n := 1) sz25 rfl hx
 exact this
theorem fa28_5 (hx : ev t x = some (.ptr b off)) : aOp Try.prog t h ⟨dst, .fieldAddr 28 x 5, tt, pos, after, guard⟩ = some (.val (.ptr b (off + 7)) h) := by
 have := aOp_fieldAddr (P := Try.prog) (h := h) (dst := dst) (tt := tt) (pos := pos) (after := after) (guard := guard) (f := 5) Try.underlying28 rfl (n := 1) sz26 rfl hx
 exact this
theorem fa45_0 (hx : ev t x = some (.ptr b off)) : aOp Try.prog t h ⟨dst, .fieldAddr 45 x 0, tt, pos, after, guard⟩ = some (.val (.ptr b (off + 0)) h) := by
 have := aOp_fieldAddr (P := Try.prog) (h := h) (dst := dst) (tt := tt) (pos := pos) (after := after) (guard := guard) (f := 0) Try.underlying45 rfl (n := 2) sz23 rfl hx
 exact this
theorem fa45_1 (hx : ev t x = some (.ptr b off)) : aOp Try.prog t h ⟨dst, .fieldAddr 45 x 1, tt, pos, after, guard⟩ = some (.val (.ptr b (off + 2)) h) := by
 have := aOp_fieldAddr (P := Try.prog) (h := h) (dst := dst) (tt := tt) (pos := pos) (after := after) (guard := guard) (f := 1) Try.underlying45 rfl (n := 1) sz3 rfl hx
 exact this
theorem fa45_2 (hx : ev t x = some (.ptr b off)) : aOp Try.prog t h ⟨dst, .fieldAddr 45 x 2, tt, pos, after, guard⟩ = some (.val (.ptr b (off + 3)) h) := by
 have := aOp_fieldAddr (P := Try.prog) (h := h) (dst := dst) (tt := tt) (pos := pos) (after := after) (guard := guard) (f := 2) Try.underlying45 rfl (n := 1) sz3 rfl hx
 exact this
theorem fa53_0 (hx : ev t x = some (.ptr b off)) : aOp Try.prog t h ⟨dst, .fieldAddr 53 x 0, tt, pos, after, guard⟩ = some (.val (.ptr b (off + 0)) h) := by
 have := aOp_fieldAddr (P := Try.prog) (h := h) (dst := dst) (tt := tt) (pos := pos) (after := after) (guard := guard) (f := 0) Try.underlying53 rfl (n := 1) sz3 rfl hx
 exact this
theorem fa53_1 (hx : ev t x = some (.ptr b off)) : aOp Try.prog t h ⟨dst, .fieldAddr 53 x 1, tt, pos, after, guard⟩ = some (.val (.ptr b (off + 1)) h) := by
 have := aOp_fieldAddr (P := Try.prog) (h := h) (dst := dst) (tt := tt) (pos := pos) (after := after) (guard := guard) (f := 1) Try.underlying53 rfl (n := 2) sz23 rfl hx
 exact this
theorem fa68_0 (hx : ev t x = some (.ptr b off)) : aOp Try.prog t h ⟨dst, .fieldAddr 68 x 0, tt, pos, after, guard⟩ = some (.val (.ptr b (off + 0)) h) := by
 have := aOp_fieldAddr (P := Try.prog) (h := h) (dst := dst) (tt := tt) (pos := pos) (after := after) (guard := guard) (f := 0) Try.underlying68 rfl (n := 2) sz23 rfl hx
 exact this
theorem fa68_1 (hx : ev t x = some (.ptr b off)) : aOp Try.prog t h ⟨dst, .fieldAddr 68 x 1, tt, pos, after, guard⟩ = some (.val (.ptr b (off + 2)) h) := by
 have := aOp_fieldAddr (P := Try.prog) (h := h) (dst := dst) (tt := tt) (pos := pos) (after := after) (guard := guard) (f := 1) Try.underlying68 rfl (n := 2) sz23 rfl hx
 exact this
theorem fa68_2 (hx : ev t x = some (.ptr b off)) : aOp Try.prog t h ⟨dst, .fieldAddr 68 x 2, tt, pos, after, guard⟩ = some (.val (.ptr b (off + 4)) h) := by
 have := aOp_fieldAddr (P := Try.prog) (h := h) (dst := dst) (tt := tt) (pos := pos) (after := after) (guard := guard) (f := 2) Try.underlying68 rfl (n := 1) sz24 rfl hx
 exact this
theorem fa68_3 (hx : ev t x = some (.ptr b off)) : aOp Try.prog t h ⟨dst, .fieldAddr 68 x 3, tt, pos, after, guard⟩ = some (.val (.ptr b (off + 5)) h) := by
 have := aOp_fieldAddr (P := Try.prog) (h := h) (dst := dst) (tt := tt) (pos := pos) (after := after) (guard := guard) (f := 3) Try.underlying68 rfl (n := 1) sz3 rfl hx
 exact this
theorem fa68_4 (hx : ev t x = some (.ptr b off)) : aOp Try.prog t h ⟨dst, .fieldAddr 68 x 4, tt, pos, after, guard⟩ = some (.val (.ptr b (off + 6)) h) := by
 have := aOp_fieldAddr (P := Try.prog) (h := h) (dst := dst) (tt := tt) (pos := pos) (after := after) (guard := guard) (f := 4) Try.underlying68 rfl (n := 1) sz25 rfl hx
 exact this
theorem fa68_5 (hx : ev t x = some (.ptr b off)) : aOp Try.prog t h ⟨dst, .fieldAddr 68 x 5, tt, pos, after, guard⟩ = some (.val (.ptr b (off + 7)) h) := by
 have := aOp_fieldAddr (P := Try.prog) (h := h) (dst := dst) (tt := tt) (pos := pos) (after := after) (guard := guard) (f := 5) Try.underlying68 rfl (n := 1) sz26 rfl hx
 exact this
theorem fa77_0 (hx : ev t x = some (.ptr b off)) : aOp Try.prog t h ⟨dst, .fieldAddr 77 x 0, tt, pos, after, guard⟩ = some (.val (.ptr b (off + 0)) h) := by
 have := aOp_fieldAddr (P := Try.prog) (h := h) (dst := dst) (tt := tt) (pos := pos) (after := after) (guard := guard) (f := 0) Try.underlying77 rfl (n := 2) sz23 rfl hx
 exact this
theorem fd77_0 (hx : ev t x = some (.agg cs)) (hv : slice? cs 0 2 = some l) : aOp Try.prog t h ⟨dst, .field 77 x 0, tt, pos, after, guard⟩ = some (.val (.agg l) h) := by
 have := aOp_field (P := Try.prog) (h := h) (dst := dst) (tt := tt) (pos := pos) (after := after) (guard := guard) (f := 0) Try.underlying77 rfl hx (partT_agg ag23 sz23 hv)
 exact this
theorem fa79_0 (hx : ev t x = some (.ptr b off)) : aOp Try.prog t h ⟨dst, .fieldAddr 79 x 0, tt, pos, after, guard⟩ = some (.val (.ptr b (off + 0)) h) := by
 have := aOp_fieldAddr (P := Try.prog) (h := h) (dst := dst) (tt := tt) (pos := pos) (after := after) (guard := guard) (f := 0) Try.underlying79 rfl (n := 2) sz23 rfl hx
 exact this
theorem fa79_1 (hx : ev t x = some (.ptr b off)) : aOp Try.prog t h ⟨dst, .fieldAddr 79 x 1, tt, pos, after, guard⟩ = some (.val (.ptr b (off + 2)) h) := by
 have := aOp_fieldAddr (P := Try.prog) (h := h) (dst := dst) (tt := tt) (pos := pos) (after := after) (guard := guard) (f := 1) Try.underlying79 rfl (n := 1) sz3 rfl hx
 exact this
theorem fa79_2 (hx : ev t x = some (.ptr b off)) : aOp Try.prog t h ⟨dst, .fieldAddr 79 x 2, tt, pos, after, guard⟩ = some (.val (.ptr b (off + 3)) h) := by
 have := aOp_fieldAddr (P := Try.prog) (h := h) (dst := dst) (tt := tt) (pos := pos) (after := after) (guard := guard) (f := 2) Try.underlying79 rfl (n := 1) sz3 rfl hx
 exact this
theorem fa102_0 (hx : ev t x = some (.ptr b off)) : aOp Try.prog t h ⟨dst, .fieldAddr 102 x 0, tt, pos, after, guard⟩ = some (.val (.ptr b (off + 0)) h) := by
 have := aOp_fieldAddr (P := Try.prog) (h := h) (dst := dst) (tt := tt) (pos := pos) (after := after) (guard := guard) (f := 0) Try.underlying102 rfl (n := 1) sz3 rfl hx
 exact this
theorem fa102_1 (hx : ev t x = some (.ptr b off)) : aOp Try.prog t h ⟨dst, .fieldAddr 102 x 1, tt, pos, after, guard⟩ = some (.val (.ptr b (off + 1)) h) := by
 have := aOp_fieldAddr (P := Try.prog) (h := h) (dst := dst) (tt := tt) (pos := pos) (after := after) (guard := guard) (f := 1) Try.underlying102 rfl (n := 1) sz3 rfl hx
 exact this
theorem fa108_0 (hx : ev t x = some (.ptr b off)) : aOp Try.prog t h ⟨dst, .fieldAddr 108 x 0, tt, pos, after, guard⟩ = some (.val (.ptr b (off + 0)) h) := by
 have := aOp_fieldAddr (P := Try.prog) (h := h) (dst := dst) (tt := tt) (pos := pos) (after := after) (guard := guard) (f := 0) Try.underlying108 rfl (n := 1) sz58 rfl hx
 exact this
theorem fa138_0 (hx : ev t x = some (.ptr b off)) : aOp Try.prog t h ⟨dst, .fieldAddr 138 x 0, tt, pos, after, guard⟩ = some (.val (.ptr b (off + 0)) h) := by
 have := aOp_fieldAddr (P := Try.prog) (h := h) (dst := dst) (tt := tt) (pos := pos) (after := after) (guard := guard) (f := 0) Try.underlying138 rfl (n := 2) sz77 rfl hx
 exact this
theorem fa140_0 (hx : ev t x = some (.ptr b off)) : aOp Try.prog t h ⟨dst, .fieldAddr 140 x 0, tt, pos, after, guard⟩ = some (.val (.ptr b (off + 0)) h) := by
 have := aOp_fieldAddr (P := Try.prog) (h := h) (dst := dst) (tt := tt) (pos := pos) (after := after) (guard := guard) (f := 0) Try.underlying140 rfl (n := 2) sz23 rfl hx
 exact this
theorem fa140_1 (hx : ev t x = some (.ptr b off)) : aOp Try.prog t h ⟨dst, .fieldAddr 140 x 1, tt, pos, after, guard⟩ = some (.val (.ptr b (off + 2)) h) := by
 have := aOp_fieldAddr (P := Try.prog) (h := h) (dst := dst) (tt := tt) (pos := pos) (after := after) (guard := guard) (f := 1) Try.underlying140 rfl (n := 1) sz3 rfl hx
 exact this
theorem fa140_2 (hx : ev t x = some (.ptr b off)) : aOp Try.prog t h ⟨dst, .fieldAddr 140 x 2, tt, pos, after, guard⟩ = some (.val (.ptr b (off + 3)) h) := by
 have := aOp_fieldAddr (P := Try.prog) (h := h) (dst := dst) (tt := tt) (pos := pos) (after := after) (guard := guard) (f := 2) Try.underlying140 rfl (n := 1) sz3 rfl hx
 exact this
theorem ld3 (hx : ev t x = some (.ptr b off)) (hb : Has h b (.cells g cs el)) (hv : cs[off]? = some v) : aOp Try.prog t h ⟨dst, .load 3 x, tt, pos, after, guard⟩ = some (.val v h) := aOp_load1 ag3 hx hb hv
theorem ld4 (hx : ev t x = some (.ptr b off)) (hb : Has h b (.cells g cs el)) (hv : cs[off]? = some v) : aOp Try.prog t h ⟨dst, .load 4 x, tt, pos, after, guard⟩ = some (.val v h) := aOp_load1 ag4 hx hb hv
theorem ld23 (hx : ev t x = some (.ptr b off)) (hb : Has h b (.cells g cs el)) (hv : slice? cs off 2 = some l) : aOp Try.prog t h ⟨dst, .load 23 x, tt, pos, after, guard⟩ = some (.val (.agg l) h) := aOp_loadN ag23 sz23 hx hb hv
theorem ld24 (hx : ev t x = some (.ptr b off)) (hb : Has h b (.cells g cs el)) (hv : cs[off]? = some v) : aOp Try.prog t h ⟨dst, .load 24 x, tt, pos, after, guard⟩ = some (.val v h) := aOp_load1 ag24 hx hb hv
theorem ld25 (hx : ev t x = some (.ptr b off)) (hb : Has h b (.cells g cs el)) (hv : cs[off]? = some v) : aOp Try.prog t h ⟨dst, .load 25 x, tt, pos, after, guard⟩ = some (.val v h) := aOp_load1 ag25 hx hb hv
theorem ld26 (hx : ev t x = some (.ptr b off)) (hb : Has h b (.cells g cs el)) (hv : cs[off]? = some v) : aOp Try.prog t h ⟨dst, .load 26 x, tt, pos, after, guard⟩ = some (.val v h) := aOp_load1 ag26 hx hb hv
theorem ld28 (hx : ev t x = some (.ptr b off)) (hb : Has h b (.cells g cs el)) (hv : slice? cs off 8 = some l) : aOp Try.prog t h ⟨dst, .load 28 x, tt, pos, after, guard⟩ = some (.val (.agg l) h) := aOp_loadN ag28 sz28 hx hb hv
theorem ld45 (hx : ev t x = some (.ptr b off)) (hb : Has h b (.cells g cs el)) (hv : slice? cs off 4 = some l) : aOp Try.prog t h ⟨dst, .load 45 x, tt, pos, after, guard⟩ = some (.val (.agg l) h) := aOp_loadN ag45 sz45 hx hb hv
theorem ld58 (hx : ev t x = some (.ptr b off)) (hb : Has h b (.cells g cs el)) (hv : cs[off]? = some v) : aOp Try.prog t h ⟨dst, .load 58 x, tt, pos, after, guard⟩ = some (.val v h) := aOp_load1 ag58 hx hb hv
theorem ld68 (hx : ev t x = some (.ptr b off)) (hb : Has h b (.cells g cs el)) (hv : slice? cs off 8 = some l) : aOp Try.prog t h ⟨dst, .load 68 x, tt, pos, after, guard⟩ = some (.val (.agg l) h) := aOp_loadN ag68 sz68 hx hb hv
theorem ld72 (hx : ev t x = some (.ptr b off)) (hb : Has h b (.cells g cs el)) (hv : cs[off]? = some v) : aOp Try.prog t h ⟨dst, .load 72 x, tt, pos, after, guard⟩ = some (.val v h) := aOp_load1 ag72 hx hb hv
theorem ld77 (hx : ev t x = some (.ptr b off)) (hb : Has h b (.cells g cs el)) (hv : slice? cs off 2 = some l) : aOp Try.prog t h ⟨dst, .load 77 x, tt, pos, after, guard⟩ = some (.val (.agg l) h) := aOp_loadN ag77 sz77 hx hb hv
theorem ld79 (hx : ev t x = some (.ptr b off)) (hb : Has h b (.cells g cs el)) (hv : slice? cs off 4 = some l) : aOp Try.prog t h ⟨dst, .load 79 x, tt, pos, after, guard⟩ = some (.val (.agg l) h) := aOp_loadN ag79 sz79 hx hb hv
theorem ld86 (hx : ev t x = some (.ptr b off)) (hb : Has h b (.cells g cs el)) (hv : cs[off]? = some v) : aOp Try.prog t h ⟨dst, .load 86 x, tt, pos, after, guard⟩ = some (.val v h) := aOp_load1 ag86 hx hb hv
theorem ld87 (hx : ev t x = some (.ptr b off)) (hb : Has h b (.cells g cs el)) (hv : cs[off]? = some v) : aOp Try.prog t h ⟨dst, .load 87 x, tt, pos, after, guard⟩ = some (.val v h) := aOp_load1 ag87 hx hb hv
theorem ld99 (hx : ev t x = some (.ptr b off)) (hb : Has h b (.cells g cs el)) (hv : slice? cs off 18 = some l) : aOp Try.prog t h ⟨dst, .load 99 x, tt, pos, after, guard⟩ = some (.val (.agg l) h) := aOp_loadN ag99 sz99 hx hb hv
theorem ld102 (hx : ev t x = some (.ptr b off)) (hb : Has h b (.cells g cs el)) (hv : slice? cs off 2 = some l) : aOp Try.prog t h ⟨dst, .load 102 x, tt, pos, after, guard⟩ = some (.val (.agg l) h) := aOp_loadN ag102 sz102 hx hb hv
theorem ld124 (hx : ev t x = some (.ptr b off)) (hb : Has h b (.cells g cs el)) (hv : cs[off]? = some v) : aOp Try.prog t h ⟨dst, .load 124 x, tt, pos, after, guard⟩ = some (.val v h) := aOp_load1 ag124 hx hb hv
theorem ld126 (hx : ev t x = some (.ptr b off)) (hb : Has h b (.cells g cs el)) (hv : cs[off]? = some v) : aOp Try.prog t h ⟨dst, .load 126 x, tt, pos, after, guard⟩ = some (.val v h) := aOp_load1 ag126 hx hb hv
theorem ld140 (hx : ev t x = some (.ptr b off)) (hb : Has h b (.cells g cs el)) (hv : slice? cs off 4 = some l) : aOp Try.prog t h ⟨dst, .load 140 x, tt, pos, after, guard⟩ = some (.val (.agg l) h) := aOp_loadN ag140 sz140 hx hb hv
theorem by3 : bytesT Try.prog 3 = some 8 := by kernel_rfl
theorem by23 : bytesT Try.prog 23 = some 16 := by kernel_rfl
theorem by53 : bytesT Try.prog 53 = some 24 := by kernel_rfl
theorem by126 : bytesT Try.prog 126 = some 24 := by kernel_rfl
theorem by128 : bytesT Try.prog 128 = some 16 := by kernel_rfl
theorem flds7 : ∃ fs, Try.prog.underlying 7 = some (.struct fs) ∧ placesT Try.prog fs.toList = some [(0, 1), (1, 1), (2, 1), (3, 1)] := ⟨_, Try.underlying7, by kernel_rfl⟩
noncomputable def fs7 : Array Field := flds7.choose
theorem hu7 : Try.prog.underlying 7 = some (.struct fs7) := flds7.choose_spec.1
theorem flds23 : ∃ fs, Try.prog.underlying 23 = some (.struct fs) ∧ placesT Try.prog fs.toList = some [(0, 1), (1, 1)] := ⟨_, Try.underlying23, by kernel_rfl⟩
noncomputable def fs23 : Array Field := flds23.choose
theorem hu23 : Try.prog.underlying 23 = some (.struct fs23) := flds23.choose_spec.1
theorem pl23 : placesT Try.prog fs23.toList = some [(0, 1), (1, 1)] := flds23.choose_spec.2
theorem flds28 : ∃ fs, Try.prog.underlying 28 = some (.struct fs) ∧ placesT Try.prog fs.toList = some [(0, 2), (2, 2), (4, 1), (5, 1), (6, 1), (7, 1)] := ⟨_, Try.underlying28, by kernel_rfl⟩
noncomputable def fs28 : Array Field := flds28.choose
theorem hu28 : Try.prog.underlying 28 = some (.struct fs28) := flds28.choose_spec.1
theorem pl28 : placesT Try.prog fs28.toList = some [(0, 2), (2, 2), (4, 1), (5, 1), (6, 1), (7, 1)] := flds28.choose_spec.2
theorem flds45 : ∃ fs, Try.prog.underlying 45 = some (.struct fs) ∧ placesT Try.prog fs.toList = some [(0, 2), (2, 1), (3, 1)] := ⟨_, Try.underlying45, by kernel_rfl⟩
noncomputable def fs45 : Array Field := flds45.choose
theorem hu45 : Try.prog.underlying 45 = some (.struct fs45) := flds45.choose_spec.1
theorem pl45 : placesT Try.prog fs45.toList = some [(0, 2), (2, 1), (3, 1)] := flds45.choose_spec.2
theorem flds53 : ∃ fs, Try.prog.underlying 53 = some (.struct fs) ∧ placesT Try.prog fs.toList = some [(0, 1), (1, 2)] := ⟨_, Try.underlying53, by kernel_rfl⟩
noncomputable def fs53 : Array Field := flds53.choose
theorem hu53 : Try.prog.underlying 53 = some (.struct fs53) := flds53.choose_spec.1
theorem pl53 : placesT Try.prog fs53.toList = some [(0, 1), (1, 2)] := flds53.choose_spec.2
theorem flds77 : ∃ fs, Try.prog.underlying 77 = some (.struct fs) ∧ placesT Try.prog fs.toList = some [(0, 2)] := ⟨_, Try.underlying77, by kernel_rfl⟩
noncomputable def fs77 : Array Field := flds77.choose
theorem hu77 : Try.prog.underlying 77 = some (.struct fs77) := flds77.choose_spec.1
theorem pl77 : placesT Try.prog fs77.toList = some [(0, 2)] := flds77.choose_spec.2
theorem flds102 : ∃ fs, Try.prog.underlying 102 = some (.struct fs) ∧ placesT Try.prog fs.toList = some [(0, 1), (1, 1)] := ⟨_, Try.underlying102, by kernel_rfl⟩
noncomputable def fs102 : Array Field := flds102.choose
theorem hu102 : Try.prog.underlying 102 = some (.struct fs102) := flds102.choose_spec.1
theorem pl102 : placesT Try.prog fs102.toList = some [(0, 1), (1, 1)] := flds102.choose_spec.2
theorem flds108 : ∃ fs, Try.prog.underlying 108 = some (.struct fs) ∧ placesT Try.prog fs.toList = some [(0, 1)] := ⟨_, Try.underlying108, by kernel_rfl⟩
noncomputable def fs108 : Array Field := flds108.choose
theorem hu108 : Try.prog.underlying 108 = some (.struct fs108) := flds108.choose_spec.1
theorem pl108 : placesT Try.prog fs108.toList = some [(0, 1)] := flds108.choose_spec.2
theorem flds138 : ∃ fs, Try.prog.underlying 138 = some (.struct fs) ∧ placesT Try.prog fs.toList = some [(0, 2)] := ⟨_, Try.underlying138, by kernel_rfl⟩
noncomputable def fs138 : Array Field := flds138.choose
theorem hu138 : Try.prog.underlying 138 = some (.struct fs138) := flds138.choose_spec.1
theorem pl138 : placesT Try.prog fs138.toList = some [(0, 2)] := flds138.choose_spec.2
theorem flds140 : ∃ fs, Try.prog.underlying 140 = some (.struct fs) ∧ placesT Try.prog fs.toList = some [(0, 2), (2, 1), (3, 1)] := ⟨_, Try.underlying140, by kernel_rfl⟩
noncomputable def fs140 : Array Field := flds140.choose
theorem hu140 : Try.prog.underlying 140 = some (.struct fs140) := flds140.choose_spec.1
theorem pl140 : placesT Try.prog fs140.toList = some [(0, 2), (2, 1), (3, 1)] := flds140.choose_spec.2
theorem zt3 : zeroT Try.prog 3 = some (.int .i64 0) := by kernel_rfl
theorem zt4 : zeroT Try.prog 4 = some (.bool false) := by kernel_rfl
theorem zt23 : zeroT Try.prog 23 = some (.agg [.int .i64 0, .int .i64 0]) := by kernel_rfl
theorem zt28 : zeroT Try.prog 28 = some (.agg [.int .i64 0, .int .i64 0, .int .i64 0, .int .i64 0, .nilslice, .int .i64 0, .nilslice, .nilslice]) := by kernel_rfl
theorem zt37 : zeroT Try.prog 37 = some (.int .i64 0) := by kernel_rfl
theorem zt45 : zeroT Try.prog 45 = some (.agg [.int .i64 0, .int .i64 0, .int .i64 0, .int .i64 0]) := by kernel_rfl
theorem zt53 : zeroT Try.prog 53 = some (.agg [.int .i64 0, .int .i64 0, .int .i64 0]) := by kernel_rfl
theorem zt72 : zeroT Try.prog 72 = some .nilmap := by kernel_rfl
theorem zt77 : zeroT Try.prog 77 = some (.agg [.int .i64 0, .int .i64 0]) := by kernel_rfl
theorem zt79 : zeroT Try.prog 79 = some (.agg [.int .i64 0, .int .i64 0, .int .i64 0, .int .i64 0]) := by kernel_rfl
theorem zt99 : zeroT Try.prog 99 = some (.agg [.int .i64 0, .int .i64 0, .int .i64 0, .int .i64 0, .int .i64 0, .int .i64 0, .int .i64 0, .int .i64 0, .int .i64 0, .int .i64 0, .int .i64 0, .int .i64 0, .int .i64 0, .int .i64 0, .int .i64 0, .int .i64 0, .int .i64 0, .int .i64 0]) := by kernel_rfl
theorem zt102 : zeroT Try.prog 102 = some (.agg [.int .i64 0, .int .i64 0]) := by kernel_rfl
theorem zt108 : zeroT Try.prog 108 = some (.agg [.nilfunc]) := by kernel_rfl
theorem zt126 : zeroT Try.prog 126 = some .nilslice := by kernel_rfl
theorem zt128 : zeroT Try.prog 128 = some .nilIface := by kernel_rfl
theorem zt138 : zeroT Try.prog 138 = some (.agg [.int .i64 0, .int .i64 0]) := by kernel_rfl
theorem zt140 : zeroT Try.prog 140 = some (.agg [.int .i64 0, .int .i64 0, .int .i64 0, .int .i64 0]) := by kernel_rfl
theorem aFunc8 : aFunc Try.prog 8 = some Try.f8 := by kernel_rfl
theorem aFunc10 : aFunc Try.prog 10 = some Try.f10 := by kernel_rfl
theorem aFunc11 : aFunc Try.prog 11 = some Try.f11 := by kernel_rfl
theorem aFunc14 : aFunc Try.prog 14 = some Try.f14 := by kernel_rfl
theorem aFunc15 : aFunc Try.prog 15 = some Try.f15 := by kernel_rfl
theorem aFunc17 : aFunc Try.prog 17 = some Try.f17 := by kernel_rfl
theorem aFunc18 : aFunc Try.prog 18 = some Try.f18 := by kernel_rfl
theorem aFunc19 : aFunc Try.prog 19 = some Try.f19 := by kernel_rfl
theorem aFunc20 : aFunc Try.prog 20 = some Try.f20 := by kernel_rfl
theorem aFunc21 : aFunc Try.prog 21 = some Try.f21 := by kernel_rfl
theorem aFunc22 : aFunc Try.prog 22 = some Try.f22 := by kernel_rfl
theorem aFunc23 : aFunc Try.prog 23 = some Try.f23 := by kernel_rfl
theorem aFunc24 : aFunc Try.prog 24 = some Try.f24 := by kernel_rfl
theorem aFunc25 : aFunc Try.prog 25 = some Try.f25 := by kernel_rfl
theorem aFunc26 : aFunc Try.prog 26 = some Try.f26 := by kernel_rfl
theorem aFunc30 : aFunc Try.prog 30 = some Try.f30 := by kernel_rfl
theorem aFunc32 : aFunc Try.prog 32 = some Try.f32 := by kernel_rfl
theorem aFunc33 : aFunc Try.prog 33 = some Try.f33 := by kernel_rfl
theorem aFunc34 : aFunc Try.prog 34 = some Try.f34 := by kernel_rfl
theorem aFunc35 : aFunc Try.prog 35 = some Try.f35 := by kernel_rfl
theorem aFunc36 : aFunc Try.prog 36 = some Try.f36 := by kernel_rfl
theorem aFunc37 : aFunc Try.prog 37 = some Try.f37 := by kernel_rfl
theorem aFunc38 : aFunc Try.prog 38 = some Try.f38 := by kernel_rfl
theorem aFunc39 : aFunc Try.prog 39 = some Try.f39 := by kernel_rfl
theorem aFunc40 : aFunc Try.prog 40 = some Try.f40 := by kernel_rfl
theorem aFunc41 : aFunc Try.prog 41 = some Try.f41 := by kernel_rfl
theorem aFunc42 : aFunc Try.prog 42 = some Try.f42 := by kernel_rfl
theorem aFunc43 : aFunc Try.prog 43 = some Try.f43 := by kernel_rfl
theorem aFunc44 : aFunc Try.prog 44 = some Try.f44 := by kernel_rfl
theorem aFunc45 : aFunc Try.prog 45 = some Try.f45 := by kernel_rfl
theorem aFunc46 : aFunc Try.prog 46 = some Try.f46 := by kernel_rfl
theorem aFunc47 : aFunc Try.prog 47 = some Try.f47 := by kernel_rfl
theorem aFunc48 : aFunc Try.prog 48 = some Try.f48 := by kernel_rfl
theorem aFunc49 : aFunc Try.prog 49 = some Try.f49 := by kernel_rfl
theorem aFunc50 : aFunc Try.prog 50 = some Try.f50 := by kernel_rfl
theorem aFunc51 : aFunc Try.prog 51 = some Try.f51 := by kernel_rfl
theorem aFunc52 : aFunc Try.prog 52 = some Try.f52 := by kernel_rfl
theorem aFunc53 : aFunc Try.prog 53 = some Try.f53 := by kernel_rfl
theorem aFunc54 : aFunc Try.prog 54 = some Try.f54 := by kernel_rfl
theorem aFunc55 : aFunc Try.prog 55 = some Try.f55 := by kernel_rfl
theorem aFunc56 : aFunc Try.prog 56 = some Try.f56 := by kernel_rfl
theorem aFunc57 : aFunc Try.prog 57 = some Try.f57 := by kernel_rfl
theorem aFunc58 : aFunc Try.prog 58 = some Try.f58 := by kernel_rfl
theorem aFunc59 : aFunc Try.prog 59 = some Try.f59 := by kernel_rfl
theorem aFunc60 : aFunc Try.prog 60 = some Try.f60 := by kernel_rfl
theorem aFunc61 : aFunc Try.prog 61 = some Try.f61 := by kernel_rfl
theorem aFunc62 : aFunc Try.prog 62 = some Try.f62 := by kernel_rfl
theorem aFunc63 : aFunc Try.prog 63 = some Try.f63 := by kernel_rfl
theorem aFunc64 : aFunc Try.prog 64 = some Try.f64 := by kernel_rfl
theorem aFunc65 : aFunc Try.prog 65 = some Try.f65 := by kernel_rfl
theorem aFunc66 : aFunc Try.prog 66 = some Try.f66 := by kernel_rfl
theorem aFunc67 : aFunc Try.prog 67 = some Try.f67 := by kernel_rfl
theorem aFunc68 : aFunc Try.prog 68 = some Try.f68 := by kernel_rfl
theorem aFunc69 : aFunc Try.prog 69 = some Try.f69 := by kernel_rfl
theorem aFunc70 : aFunc Try.prog 70 = some Try.f70 := by kernel_rfl
theorem aFunc71 : aFunc Try.prog 71 = some Try.f71 := by kernel_rfl
theorem aFunc72 : aFunc Try.prog 72 = some Try.f72 := by kernel_rfl
theorem aFunc73 : aFunc Try.prog 73 = some Try.f73 := by kernel_rfl
theorem aFunc74 : aFunc Try.prog 74 = some Try.f74 := by kernel_rfl
theorem aFunc75 : aFunc Try.prog 75 = some Try.f75 := by kernel_rfl
theorem aFunc76 : aFunc Try.prog 76 = some Try.f76 := by kernel_rfl
theorem aFunc77 : aFunc Try.prog 77 = some Try.f77 := by kernel_rfl
theorem aFunc78 : aFunc Try.prog 78 = some Try.f78 := by kernel_rfl
theorem aFunc79 : aFunc Try.prog 79 = some Try.f79 := by kernel_rfl
theorem aFunc80 : aFunc Try.prog 80 = some Try.f80 := by kernel_rfl
theorem aFunc81 : aFunc Try.prog 81 = some Try.f81 := by kernel_rfl
theorem aFunc82 : aFunc Try.prog 82 = some Try.f82 := by kernel_rfl
theorem aFunc83 : aFunc Try.prog 83 = some Try.f83 := by kernel_rfl
theorem aFunc85 : aFunc Try.prog 85 = some Try.f85 := by kernel_rfl
theorem aFunc86 : aFunc Try.prog 86 = some Try.f86 := by kernel_rfl
theorem aFunc87 : aFunc Try.prog 87 = some Try.f87 := by kernel_rfl
theorem aFunc88 : aFunc Try.prog 88 = some Try.f88 := by kernel_rfl
theorem aFunc89 : aFunc Try.prog 89 = some Try.f89 := by kernel_rfl
theorem aFunc90 : aFunc Try.prog 90 = some Try.f90 := by kernel_rfl
theorem aFunc91 : aFunc Try.prog 91 = some Try.f91 := by kernel_rfl
theorem aFunc92 : aFunc Try.prog 92 = some Try.f92 := by kernel_rfl
theorem aFunc93 : aFunc Try.prog 93 = some Try.f93 := by kernel_rfl
theorem aFunc94 : aFunc Try.prog 94 = some Try.f94 := by kernel_rfl
theorem aFunc110 : aFunc Try.prog 110 = some Try.f110 := by kernel_rfl
theorem aFunc111 : aFunc Try.prog 111 = some Try.f111 := by kernel_rfl
theorem aFunc112 : aFunc Try.prog 112 = some Try.f112 := by kernel_rfl
theorem aFunc113 : aFunc Try.prog 113 = some Try.f113 := by kernel_rfl
theorem aFunc114 : aFunc Try.prog 114 = some Try.f114 := by kernel_rfl
end Go.Proofs.Yteibheeleeengaa
