import Derived.Test.YtobhkdgcciolmaaMAF
import Derived.Test.YtobhkdgcciolmaaChecked
import Derived.KernelRfl
namespace Go.Proofs.Ytobhkdgcciolmaa
open Go Go.AbsE
variable {t : Tr AVal} {h : AH} {dst : Option Tmp} {tt : TypeId} {pos : String} {after : Array Edge} {guard : Option (Nat × Bool)} {x : Operand} {b off : Nat} {g : Kd} {cs l : List AVal} {el : TypeId} {v : AVal}
theorem ag2 : isAggT Try.prog 2 = some false := by kernel_rfl
theorem ag3 : isAggT Try.prog 3 = some false := by kernel_rfl
theorem sz3 : sizeT Try.prog 3 = some 1 := by kernel_rfl
theorem ag4 : isAggT Try.prog 4 = some false := by kernel_rfl
theorem sz4 : sizeT Try.prog 4 = some 1 := by kernel_rfl
theorem ag23 : isAggT Try.prog 23 = some true := by kernel_rfl
theorem sz23 : sizeT Try.prog 23 = some 2 := by kernel_rfl
theorem ag24 : isAggT Try.prog 24 = some false := by kernel_rfl
theorem sz24 : sizeT Try.prog 24 = some 1 := by kernel_rfl
theorem ag27 : isAggT Try.prog 27 = some false := by kernel_rfl
theorem sz27 : sizeT Try.prog 27 = some 1 := by kernel_rfl
theorem ag28 : isAggT Try.prog 28 = some false := by kernel_rfl
theorem sz28 : sizeT Try.prog 28 = some 1 := by kernel_rfl
theorem ag30 : isAggT Try.prog 30 = some true := by kernel_rfl
theorem sz30 : sizeT Try.prog 30 = some 4 := by kernel_rfl
theorem ag41 : isAggT Try.prog 41 = some true := by kernel_rfl
theorem sz41 : sizeT Try.prog 41 = some 2 := by kernel_rfl
theorem ag42 : isAggT Try.prog 42 = some false := by kernel_rfl
theorem sz42 : sizeT Try.prog 42 = some 1 := by kernel_rfl
theorem ag44 : isAggT Try.prog 44 = some true := by kernel_rfl
theorem sz44 : sizeT Try.prog 44 = some 4 := by kernel_rfl
theorem ag47 : isAggT Try.prog 47 = some false := by kernel_rfl
theorem sz47 : sizeT Try.prog 47 = some 1 := by kernel_rfl
theorem ag52 : isAggT Try.prog 52 = some true := by kernel_rfl
theorem sz52 : sizeT Try.prog 52 = some 6 := by kernel_rfl
theorem ag55 : isAggT Try.prog 55 = some true := by kernel_rfl
theorem sz55 : sizeT Try.prog 55 = some 4 := by kernel_rfl
theorem sz70 : sizeT Try.prog 70 = some 4 := by kernel_rfl
theorem ag72 : isAggT Try.prog 72 = some true := by kernel_rfl
theorem sz72 : sizeT Try.prog 72 = some 5 := by kernel_rfl
theorem ag74 : isAggT Try.prog 74 = some true := by kernel_rfl
theorem sz74 : sizeT Try.prog 74 = some 8 := by kernel_rfl
theorem ag84 : isAggT Try.prog 84 = some false := by kernel_rfl
theorem sz84 : sizeT Try.prog 84 = some 1 := by kernel_rfl
theorem ag97 : isAggT Try.prog 97 = some false := by kernel_rfl
theorem sz97 : sizeT Try.prog 97 = some 1 := by kernel_rfl
theorem ag100 : isAggT Try.prog 100 = some false := by kernel_rfl
theorem ag101 : isAggT Try.prog 101 = some false := by kernel_rfl
theorem sz101 : sizeT Try.prog 101 = some 1 := by kernel_rfl
theorem ag110 : isAggT Try.prog 110 = some true := by kernel_rfl
theorem sz110 : sizeT Try.prog 110 = some 3 := by kernel_rfl
theorem sz112 : sizeT Try.prog 112 = some 3 := by kernel_rfl
theorem fa23_0 (hx : ev t x = some (.ptr b off)) : aOp Try.prog t h ⟨dst, .fieldAddr 23 x 0, tt, pos, after, guard⟩ = some (.val (.ptr b (off + 0)) h) := by
 have := aOp_fieldAddr (P := Try.prog) (h := h) (dst := dst) (tt := tt) (pos := pos) (after := after) (guard := guard) (f := 0) Try.underlying23 rfl (n := 1) sz3 rfl hx
 exact this
theorem fd23_0 (hx : ev t x = some (.agg cs)) (hv : cs[0]? = some v) : aOp Try.prog t h ⟨dst, .field 23 x 0, tt, pos, after, guard⟩ = some (.val v h) := by
 have := aOp_field (P := Try.prog) (h := h) (dst := dst) (tt := tt) (pos := pos) (after := after) (guard := guard) (f := 0) Try.underlying23 rfl hx (partT_one ag3 hv)
 exact this
theorem fa23_1 (hx : ev t x = some (.ptr b off)) : aOp Try.prog t h ⟨dst, .fieldAddr 23 x 1, tt, pos, after, guard⟩ = some (.val (.ptr b (off + 1)) h) := by
 have := aOp_fieldAddr (P := Try.prog) (h := h) (dst := dst) (tt := tt) (pos := pos) (after := after) (guard := guard) (f := 1) Try.underlying23 rfl (n := 1) sz3 rfl hx
 exact this
theorem fa30_0 (hx : ev t x = some (.ptr b off)) : aOp Try.prog t h ⟨dst, .fieldAddr 30 x 0, tt, pos, after, guard⟩ = some (.val (.ptr b (off + 0)) h) := by
 have := aOp_fieldAddr (P := Try.prog) (h := h) (dst := dst) (tt := tt) (pos := pos) (after := after) (guard := guard) (f := 0) Try.underlying30 rfl (n := 1) sz27 rfl hx
 exact this
theorem fa30_1 (hx : ev t x = some (.ptr b off)) : aOp Try.prog t h ⟨dst, .fieldAddr 30 x 1, tt, pos, after, guard⟩ = some (.val (.ptr b (off + 1)) h) := by
 have := aOp_fieldAddr (P := Try.prog) (h := h) (dst := dst) (tt := tt) (pos := pos) (after := after) (guard := guard) (f := 1) Try.underlying30 rfl (n := 2) sz23 rfl hx
 exact this
theorem fa30_2 (hx : ev t x = some (.ptr b off)) : aOp Try.prog t h ⟨dst, .fieldAddr 30 x 2, tt, pos, after, guard⟩ = some (.val (.ptr b (off + 3)) h) := by
 have := aOp_fieldAddr (P := Try.prog) (h := h) (dst := dst) (tt := tt) (pos := pos) (after := after) (guard := guard) (f := 2) Try.underlying30 rfl (n := 1) sz28 rfl hx
 exact this
theorem fa41_0 (hx : ev t x = some (.ptr b off)) : aOp Try.prog t h ⟨dst, .fieldAddr 41 x 0, tt, pos, after, guard⟩ = some (.val (.ptr b (off + 0)) h) := by
 have := aOp_fieldAddr (P := Try.prog) (h := h) (dst := dst) (tt := tt) (pos := pos) (after := after) (guard := guard) (f := 0) Try.underlying41 rfl (n := 2) sz23 rfl hx
 exact this
theorem fd41_0 (hx : ev t x = some (.agg cs)) (hv : slice? cs 0 2 = some l) : aOp Try.prog t h ⟨dst, .field 41 x 0, tt, pos, after, guard⟩ = some (.val (.agg l) h) := by
 have := aOp_field (P := Try.prog) (h := h) (dst := dst) (tt := tt) (pos := pos) (after := after) (guard := guard) (f := 0) Try.underlying41 rfl hx (partT_agg ag23 sz23 hv)
 exact this
theorem fa44_0 (hx : ev t x = some (.ptr b off)) : aOp Try.prog t h ⟨dst, .fieldAddr 44 x 0, tt, pos, after, guard⟩ = some (.val (.ptr b (off + 0)) h) := by
 have := aOp_fieldAddr (P := Try.prog) (h := h) (dst := dst) (tt := tt) (pos := pos) (after := after) (guard := guard) (f := 0) Try.underlying44 rfl (n := 1) sz27 rfl hx
 exact this
theorem fa44_1 (hx : ev t x = some (.ptr b off)) : aOp Try.prog t h ⟨dst, .fieldAddr 44 x 1, tt, pos, after, guard⟩ = some (.val (.ptr b (off + 1)) h) := by
 have := aOp_fieldAddr (P := Try.prog) (h := h) (dst := dst) (tt := tt) (pos := pos) (after := after) (guard := guard) (f := 1) Try.underlying44 rfl (n := 2) sz41 rfl hx
 exact this
theorem fa44_2 (hx : ev t x = some (.ptr b off)) : aOp Try.prog t h ⟨dst, .fieldAddr 44 x 2, tt, pos, after, guard⟩ = some (.val (.ptr b (off + 3)) h) := by
 have := aOp_fieldAddr (P := Try.prog) (h := h) (dst := dst) (tt := tt) (pos := pos) (after := after) (guard := guard) (f := 2) Try.underlying44 rfl (n := 1) sz42 rfl hx
 exact this
theorem fa52_0 (hx : ev t x = some (.ptr b off)) : aOp Try.prog t h ⟨dst, .fieldAddr 52 x 0, tt, pos, after, guard⟩ = some (.val (.ptr b (off + 0)) h) := by
 have := aOp_fieldAddr (P := Try.prog) (h := h) (dst := dst) (tt := tt) (pos := pos) (after := after) (guard := guard) (f := 0) Try.underlying52 rfl (n := 2) sz23 rfl hx
 exact this
theorem fa52_1 (hx : ev t x = some (.ptr b off)) : aOp Try.prog t h ⟨dst, .fieldAddr 52 x 1, tt, pos, after, guard⟩ = some (.val (.ptr b (off + 2)) h) := by
 have := aOp_fieldAddr (P := Try.prog) (h := h) (dst := dst) (tt := tt) (pos := pos) (after := after) (guard := guard) (f := 1) Try.underlying52 rfl (n := 2) sz23 rfl hx
 exact this
theorem fa52_2 (hx : ev t x = some (.ptr b off)) : aOp Try.prog t h ⟨dst, .fieldAddr 52 x 2, tt, pos, after, guard⟩ = some (.val (.ptr b (off + 4)) h) := by
 have := aOp_fieldAddr (P := Try.prog) (h := h) (dst := dst) (tt := tt) (pos := pos) (after := after) (guard := guard) (f := 2) Try.underlying52 rfl (n := 2) sz23 rfl hx
 exact this
theorem fa55_0 (hx : ev t x = some (.ptr b off)) : aOp Try.prog t h ⟨dst, .fieldAddr 55 x 0, tt, pos, after, guard⟩ = some (.val (.ptr b (off + 0)) h) := by
 have := aOp_fieldAddr (P := Try.prog) (h := h) (dst := dst) (tt := tt) (pos := pos) (after := after) (guard := guard) (f := 0) Try.underlying55 rfl (n := 1) sz3 rfl hx
 exact this
theorem fa55_1 (hx : ev t x = some (.ptr b off)) : aOp Try.prog t h ⟨dst, .fieldAddr 55 x 1, tt, pos, after, guard⟩ = some (.val (.ptr b (off + 1)) h) := by
 have := aOp_fieldAddr (P := Try.prog) (h := h) (dst := dst) (tt := tt) (pos := pos) (after := after) (guard := guard) (f := 1) Try.underlying55 rfl (n := 1) sz3 rfl hx
 exact this
theorem fa55_2 (hx : ev t x = some (.ptr b off)) : aOp Try.prog t h ⟨dst, .fieldAddr 55 x 2, tt, pos, after, guard⟩ = some (.val (.ptr b (off + 2)) h) := by
 have := aOp_fieldAddr (P := Try.prog) (h := h) (dst := dst) (tt := tt) (pos := pos) (after := after) (guard := guard) (f := 2) Try.underlying55 rfl (n := 2) sz23 rfl hx
 exact this
theorem fa72_0 (hx : ev t x = some (.ptr b off)) : aOp Try.prog t h ⟨dst, .fieldAddr 72 x 0, tt, pos, after, guard⟩ = some (.val (.ptr b (off + 0)) h) := by
 have := aOp_fieldAddr (P := Try.prog) (h := h) (dst := dst) (tt := tt) (pos := pos) (after := after) (guard := guard) (f := 0) Try.underlying72 rfl (n := 4) sz70 rfl hx
 exact this
theorem fa72_1 (hx : ev t x = some (.ptr b off)) : aOp Try.prog t h ⟨dst, .fieldAddr 72 x 1, tt, pos, after, guard⟩ = some (.val (.ptr b (off + 4)) h) := by
 have := aOp_fieldAddr (P := Try.prog) (h := h) (dst := dst) (tt := tt) (pos := pos) (after := after) (guard := guard) (f := 1) Try.underlying72 rfl (n := 1) sz3 rfl hx
 exact this
theorem fa86_0 (hx : ev t x = some (.ptr b off)) : aOp Try.prog t h ⟨dst, .fieldAddr 86 x 0, tt, pos, after, guard⟩ = some (.val (.ptr b (off + 0)) h) := by
 have := aOp_fieldAddr (P := Try.prog) (h := h) (dst := dst) (tt := tt) (pos := pos) (after := after) (guard := guard) (f := 0) Try.underlying86 rfl (n := 1) sz84 rfl hx
 exact this
theorem fa110_0 (hx : ev t x = some (.ptr b off)) : aOp Try.prog t h ⟨dst, .fieldAddr 110 x 0, tt, pos, after, guard⟩ = some (.val (.ptr b (off + 0)) h) := by
 have := aOp_fieldAddr (P := Try.prog) (h := h) (dst := dst) (tt := tt) (pos := pos) (after := after) (guard := guard) (f := 0) Try.underlying110 rfl (n := 2) sz41 rfl hx
 exact this
theorem fa110_1 (hx : ev t x = some (.ptr b off)) : aOp Try.prog t h ⟨dst, .fieldAddr 110 x 1, tt, pos, after, guard⟩ = some (.val (.ptr b (off + 2)) h) := by
 have := aOp_fieldAddr (P := Try.prog) (h := h) (dst := dst) (tt := tt) (pos := pos) (after := after) (guard := guard) (f := 1) Try.underlying110 rfl (n := 1) sz3 rfl hx
 exact this
theorem fa112_0 (hx : ev t x = some (.ptr b off)) : aOp Try.prog t h ⟨dst, .fieldAddr 112 x 0, tt, pos, after, guard⟩ = some (.val (.ptr b (off + 0)) h) := by
 have := aOp_fieldAddr (P := Try.prog) (h := h) (dst := dst) (tt := tt) (pos := pos) (after := after) (guard := guard) (f := 0) Try.underlying112 rfl (n := 3) sz110 rfl hx
 exact this
theorem fa121_0 (hx : ev t x = some (.ptr b off)) : aOp Try.prog t h ⟨dst, .fieldAddr 121 x 0, tt, pos, after, guard⟩ = some (.val (.ptr b (off + 0)) h) := by
 have := aOp_fieldAddr (P := Try.prog) (h := h) (dst := dst) (tt := tt) (pos := pos) (after := after) (guard := guard) (f := 0) Try.underlying121 rfl (n := 3) sz110 rfl hx
 exact this
theorem ld3 (hx : ev t x = some (.ptr b off)) (hb : Has h b (.cells g cs el)) (hv : cs[off]? = some v) : aOp Try.prog t h ⟨dst, .load 3 x, tt, pos, after, guard⟩ = some (.val v h) := aOp_load1 ag3 hx hb hv
theorem ld23 (hx : ev t x = some (.ptr b off)) (hb : Has h b (.cells g cs el)) (hv : slice? cs off 2 = some l) : aOp Try.prog t h ⟨dst, .load 23 x, tt, pos, after, guard⟩ = some (.val (.agg l) h) := aOp_loadN ag23 sz23 hx hb hv
theorem ld27 (hx : ev t x = some (.ptr b off)) (hb : Has h b (.cells g cs el)) (hv : cs[off]? = some v) : aOp Try.prog t h ⟨dst, .load 27 x, tt, pos, after, guard⟩ = some (.val v h) := aOp_load1 ag27 hx hb hv
theorem ld28 (hx : ev t x = some (.ptr b off)) (hb : Has h b (.cells g cs el)) (hv : cs[off]? = some v) : aOp Try.prog t h ⟨dst, .load 28 x, tt, pos, after, guard⟩ = some (.val v h) := aOp_load1 ag28 hx hb hv
theorem ld30 (hx : ev t x = some (.ptr b off)) (hb : Has h b (.cells g cs el)) (hv : slice? cs off 4 = some l) : aOp Try.prog t h ⟨dst, .load 30 x, tt, pos, after, guard⟩ = some (.val (.agg l) h) := aOp_loadN ag30 sz30 hx hb hv
theorem ld41 (hx : ev t x = some (.ptr b off)) (hb : Has h b (.cells g cs el)) (hv : slice? cs off 2 = some l) : aOp Try.prog t h ⟨dst, .load 41 x, tt, pos, after, guard⟩ = some (.val (.agg l) h) := aOp_loadN ag41 sz41 hx hb hv
theorem ld42 (hx : ev t x = some (.ptr b off)) (hb : Has h b (.cells g cs el)) (hv : cs[off]? = some v) : aOp Try.prog t h ⟨dst, .load 42 x, tt, pos, after, guard⟩ = some (.val v h) := aOp_load1 ag42 hx hb hv
theorem ld44 (hx : ev t x = some (.ptr b off)) (hb : Has h b (.cells g cs el)) (hv : slice? cs off 4 = some l) : aOp Try.prog t h ⟨dst, .load 44 x, tt, pos, after, guard⟩ = some (.val (.agg l) h) := aOp_loadN ag44 sz44 hx hb hv
theorem ld47 (hx : ev t x = some (.ptr b off)) (hb : Has h b (.cells g cs el)) (hv : cs[off]? = some v) : aOp Try.prog t h ⟨dst, .load 47 x, tt, pos, after, guard⟩ = some (.val v h) := aOp_load1 ag47 hx hb hv
theorem ld52 (hx : ev t x = some (.ptr b off)) (hb : Has h b (.cells g cs el)) (hv : slice? cs off 6 = some l) : aOp Try.prog t h ⟨dst, .load 52 x, tt, pos, after, guard⟩ = some (.val (.agg l) h) := aOp_loadN ag52 sz52 hx hb hv
theorem ld55 (hx : ev t x = some (.ptr b off)) (hb : Has h b (.cells g cs el)) (hv : slice? cs off 4 = some l) : aOp Try.prog t h ⟨dst, .load 55 x, tt, pos, after, guard⟩ = some (.val (.agg l) h) := aOp_loadN ag55 sz55 hx hb hv
theorem ld72 (hx : ev t x = some (.ptr b off)) (hb : Has h b (.cells g cs el)) (hv : slice? cs off 5 = some l) : aOp Try.prog t h ⟨dst, .load 72 x, tt, pos, after, guard⟩ = some (.val (.agg l) h) := aOp_loadN ag72 sz72 hx hb hv
theorem ld74 (hx : ev t x = some (.ptr b off)) (hb : Has h b (.cells g cs el)) (hv : slice? cs off 8 = some l) : aOp Try.prog t h ⟨dst, .load 74 x, tt, pos, after, guard⟩ = some (.val (.agg l) h) := aOp_loadN ag74 sz74 hx hb hv
theorem ld84 (hx : ev t x = some (.ptr b off)) (hb : Has h b (.cells g cs el)) (hv : cs[off]? = some v) : aOp Try.prog t h ⟨dst, .load 84 x, tt, pos, after, guard⟩ = some (.val v h) := aOp_load1 ag84 hx hb hv
theorem ld100 (hx : ev t x = some (.ptr b off)) (hb : Has h b (.cells g cs el)) (hv : cs[off]? = some v) : aOp Try.prog t h ⟨dst, .load 100 x, tt, pos, after, guard⟩ = some (.val v h) := aOp_load1 ag100 hx hb hv
theorem ld101 (hx : ev t x = some (.ptr b off)) (hb : Has h b (.cells g cs el)) (hv : cs[off]? = some v) : aOp Try.prog t h ⟨dst, .load 101 x, tt, pos, after, guard⟩ = some (.val v h) := aOp_load1 ag101 hx hb hv
theorem ld110 (hx : ev t x = some (.ptr b off)) (hb : Has h b (.cells g cs el)) (hv : slice? cs off 3 = some l) : aOp Try.prog t h ⟨dst, .load 110 x, tt, pos, after, guard⟩ = some (.val (.agg l) h) := aOp_loadN ag110 sz110 hx hb hv
theorem by55 : bytesT Try.prog 55 = some 32 := by kernel_rfl
theorem by97 : bytesT Try.prog 97 = some 16 := by kernel_rfl
theorem flds23 : ∃ fs, Try.prog.underlying 23 = some (.struct fs) ∧ placesT Try.prog fs.toList = some [(0, 1), (1, 1)] := ⟨_, Try.underlying23, by kernel_rfl⟩
noncomputable def fs23 : Array Field := flds23.choose
theorem hu23 : Try.prog.underlying 23 = some (.struct fs23) := flds23.choose_spec.1
theorem pl23 : placesT Try.prog fs23.toList = some [(0, 1), (1, 1)] := flds23.choose_spec.2
theorem flds30 : ∃ fs, Try.prog.underlying 30 = some (.struct fs) ∧ placesT Try.prog fs.toList = some [(0, 1), (1, 2), (3, 1)] := ⟨_, Try.underlying30, by kernel_rfl⟩
noncomputable def fs30 : Array Field := flds30.choose
theorem hu30 : Try.prog.underlying 30 = some (.struct fs30) := flds30.choose_spec.1
theorem pl30 : placesT Try.prog fs30.toList = some [(0, 1), (1, 2), (3, 1)] := flds30.choose_spec.2
theorem flds41 : ∃ fs, Try.prog.underlying 41 = some (.struct fs) ∧ placesT Try.prog fs.toList = some [(0, 2)] := ⟨_, Try.underlying41, by kernel_rfl⟩
noncomputable def fs41 : Array Field := flds41.choose
theorem hu41 : Try.prog.underlying 41 = some (.struct fs41) := flds41.choose_spec.1
theorem pl41 : placesT Try.prog fs41.toList = some [(0, 2)] := flds41.choose_spec.2
theorem flds44 : ∃ fs, Try.prog.underlying 44 = some (.struct fs) ∧ placesT Try.prog fs.toList = some [(0, 1), (1, 2), (3, 1)] := ⟨_, Try.underlying44, by kernel_rfl⟩
noncomputable def fs44 : Array Field := flds44.choose
theorem hu44 : Try.prog.underlying 44 = some (.struct fs44) := flds44.choose_spec.1
theorem pl44 : placesT Try.prog fs44.toList = some [(0, 1), (1, 2), (3, 1)] := flds44.choose_spec.2
theorem flds52 : ∃ fs, Try.prog.underlying 52 = some (.struct fs) ∧ placesT Try.prog fs.toList = some [(0, 2), (2, 2), (4, 2)] := ⟨_, Try.underlying52, by kernel_rfl⟩
noncomputable def fs52 : Array Field := flds52.choose
theorem hu52 : Try.prog.underlying 52 = some (.struct fs52) := flds52.choose_spec.1
theorem pl52 : placesT Try.prog fs52.toList = some [(0, 2), (2, 2), (4, 2)] := flds52.choose_spec.2
theorem flds55 : ∃ fs, Try.prog.underlying 55 = some (.struct fs) ∧ placesT Try.prog fs.toList = some [(0, 1), (1, 1), (2, 2)] := ⟨_, Try.underlying55, by kernel_rfl⟩
noncomputable def fs55 : Array Field := flds55.choose
theorem hu55 : Try.prog.underlying 55 = some (.struct fs55) := flds55.choose_spec.1
theorem pl55 : placesT Try.prog fs55.toList = some [(0, 1), (1, 1), (2, 2)] := flds55.choose_spec.2
theorem flds72 : ∃ fs, Try.prog.underlying 72 = some (.struct fs) ∧ placesT Try.prog fs.toList = some [(0, 4), (4, 1)] := ⟨_, Try.underlying72, by kernel_rfl⟩
noncomputable def fs72 : Array Field := flds72.choose
theorem hu72 : Try.prog.underlying 72 = some (.struct fs72) := flds72.choose_spec.1
theorem pl72 : placesT Try.prog fs72.toList = some [(0, 4), (4, 1)] := flds72.choose_spec.2
theorem flds86 : ∃ fs, Try.prog.underlying 86 = some (.struct fs) ∧ placesT Try.prog fs.toList = some [(0, 1)] := ⟨_, Try.underlying86, by kernel_rfl⟩
noncomputable def fs86 : Array Field := flds86.choose
theorem hu86 : Try.prog.underlying 86 = some (.struct fs86) := flds86.choose_spec.1
theorem pl86 : placesT Try.prog fs86.toList = some [(0, 1)] := flds86.choose_spec.2
theorem flds110 : ∃ fs, Try.prog.underlying 110 = some (.struct fs) ∧ placesT Try.prog fs.toList = some [(0, 2), (2, 1)] := ⟨_, Try.underlying110, by kernel_rfl⟩
noncomputable def fs110 : Array Field := flds110.choose
theorem hu110 : Try.prog.underlying 110 = some (.struct fs110) := flds110.choose_spec.1
theorem pl110 : placesT Try.prog fs110.toList = some [(0, 2), (2, 1)] := flds110.choose_spec.2
theorem flds112 : ∃ fs, Try.prog.underlying 112 = some (.struct fs) ∧ placesT Try.prog fs.toList = some [(0, 3)] := ⟨_, Try.underlying112, by kernel_rfl⟩
noncomputable def fs112 : Array Field := flds112.choose
theorem hu112 : Try.prog.underlying 112 = some (.struct fs112) := flds112.choose_spec.1
theorem pl112 : placesT Try.prog fs112.toList = some [(0, 3)] := flds112.choose_spec.2
theorem flds121 : ∃ fs, Try.prog.underlying 121 = some (.struct fs) ∧ placesT Try.prog fs.toList = some [(0, 3)] := ⟨_, Try.underlying121, by kernel_rfl⟩
noncomputable def fs121 : Array Field := flds121.choose
theorem hu121 : Try.prog.underlying 121 = some (.struct fs121) := flds121.choose_spec.1
theorem pl121 : placesT Try.prog fs121.toList = some [(0, 3)] := flds121.choose_spec.2
theorem zt3 : zeroT Try.prog 3 = some (.int .i64 0) := by kernel_rfl
theorem zt4 : zeroT Try.prog 4 = some (.bool false) := by kernel_rfl
theorem zt23 : zeroT Try.prog 23 = some (.agg [.int .i64 0, .int .i64 0]) := by kernel_rfl
theorem zt24 : zeroT Try.prog 24 = some (.int .i64 0) := by kernel_rfl
theorem zt30 : zeroT Try.prog 30 = some (.agg [.nilslice, .int .i64 0, .int .i64 0, .nilslice]) := by kernel_rfl
theorem zt41 : zeroT Try.prog 41 = some (.agg [.int .i64 0, .int .i64 0]) := by kernel_rfl
theorem zt44 : zeroT Try.prog 44 = some (.agg [.nilslice, .int .i64 0, .int .i64 0, .nilslice]) := by kernel_rfl
theorem zt47 : zeroT Try.prog 47 = some .nilmap := by kernel_rfl
theorem zt52 : zeroT Try.prog 52 = some (.agg [.int .i64 0, .int .i64 0, .int .i64 0, .int .i64 0, .int .i64 0, .int .i64 0]) := by kernel_rfl
theorem zt55 : zeroT Try.prog 55 = some (.agg [.int .i64 0, .int .i64 0, .int .i64 0, .int .i64 0]) := by kernel_rfl
theorem zt72 : zeroT Try.prog 72 = some (.agg [.int .i64 0, .int .i64 0, .int .i64 0, .int .i64 0, .int .i64 0]) := by kernel_rfl
theorem zt74 : zeroT Try.prog 74 = some (.agg [.int .i64 0, .int .i64 0, .int .i64 0, .int .i64 0, .int .i64 0, .int .i64 0, .int .i64 0, .int .i64 0]) := by kernel_rfl
theorem zt86 : zeroT Try.prog 86 = some (.agg [.nilfunc]) := by kernel_rfl
theorem zt97 : zeroT Try.prog 97 = some .nilIface := by kernel_rfl
theorem zt101 : zeroT Try.prog 101 = some .nilfunc := by kernel_rfl
theorem zt110 : zeroT Try.prog 110 = some (.agg [.int .i64 0, .int .i64 0, .int .i64 0]) := by kernel_rfl
theorem zt112 : zeroT Try.prog 112 = some (.agg [.int .i64 0, .int .i64 0, .int .i64 0]) := by kernel_rfl
theorem zt121 : zeroT Try.prog 121 = some (.agg [.int .i64 0, .int .i64 0, .int .i64 0]) := by kernel_rfl
theorem aFunc3 : aFunc Try.prog 3 = some Try.f3 := by kernel_rfl
theorem aFunc4 : aFunc Try.prog 4 = some Try.f4 := by kernel_rfl
theorem aFunc5 : aFunc Try.prog 5 = some Try.f5 := by kernel_rfl
theorem aFunc6 : aFunc Try.prog 6 = some Try.f6 := by kernel_rfl
theorem aFunc7 : aFunc Try.prog 7 = some Try.f7 := by kernel_rfl
theorem aFunc8 : aFunc Try.prog 8 = some Try.f8 := by kernel_rfl
theorem aFunc9 : aFunc Try.prog 9 = some Try.f9 := by kernel_rfl
theorem aFunc10 : aFunc Try.prog 10 = some Try.f10 := by kernel_rfl
theorem aFunc11 : aFunc Try.prog 11 = some Try.f11 := by kernel_rfl
theorem aFunc12 : aFunc Try.prog 12 = some Try.f12 := by kernel_rfl
theorem aFunc13 : aFunc Try.prog 13 = some Try.f13 := by kernel_rfl
theorem aFunc14 : aFunc Try.prog 14 = some Try.f14 := by kernel_rfl
theorem aFunc15 : aFunc Try.prog 15 = some Try.f15 := by kernel_rfl
theorem aFunc16 : aFunc Try.prog 16 = some Try.f16 := by kernel_rfl
theorem aFunc17 : aFunc Try.prog 17 = some Try.f17 := by kernel_rfl
theorem aFunc18 : aFunc Try.prog 18 = some Try.f18 := by kernel_rfl
theorem aFunc19 : aFunc Try.prog 19 = some Try.f19 := by kernel_rfl
theorem aFunc20 : aFunc Try.prog 20 = some Try.f20 := by kernel_rfl
theorem aFunc21 : aFunc Try.prog 21 = some Try.f21 := by kernel_rfl
theorem aFunc22 : aFunc Try.prog 22 = some Try.f22 := by kernel_rfl
theorem aFunc23 : aFunc Try.prog 23 = some Try.f23 := by kernel_rfl
theorem aFunc24 : aFunc Try.prog 24 = some Try.f24 := by kernel_rfl
theorem aFunc25 : aFunc Try.prog 25 = some Try.f25 := by kernel_rfl
theorem aFunc26 : aFunc Try.prog 26 = some Try.f26 := by kernel_rfl
theorem aFunc27 : aFunc Try.prog 27 = some Try.f27 := by kernel_rfl
theorem aFunc28 : aFunc Try.prog 28 = some Try.f28 := by kernel_rfl
theorem aFunc29 : aFunc Try.prog 29 = some Try.f29 := by kernel_rfl
theorem aFunc30 : aFunc Try.prog 30 = some Try.f30 := by kernel_rfl
theorem aFunc31 : aFunc Try.prog 31 = some Try.f31 := by kernel_rfl
theorem aFunc32 : aFunc Try.prog 32 = some Try.f32 := by kernel_rfl
theorem aFunc33 : aFunc Try.prog 33 = some Try.f33 := by kernel_rfl
theorem aFunc34 : aFunc Try.prog 34 = some Try.f34 := by kernel_rfl
theorem aFunc35 : aFunc Try.prog 35 = some Try.f35 := by kernel_rfl
theorem aFunc36 : aFunc Try.prog 36 = some Try.f36 := by kernel_rfl
theorem aFunc37 : aFunc Try.prog 37 = some Try.f37 := by kernel_rfl
theorem aFunc38 : aFunc Try.prog 38 = some Try.f38 := by kernel_rfl
theorem aFunc39 : aFunc Try.prog 39 = some Try.f39 := by kernel_rfl
theorem aFunc40 : aFunc Try.prog 40 = some Try.f40 := by kernel_rfl
theorem aFunc41 : aFunc Try.prog 41 = some Try.f41 := by kernel_rfl
theorem aFunc42 : aFunc Try.prog 42 = some Try.f42 := by kernel_rfl
theorem aFunc43 : aFunc Try.prog 43 = some Try.f43 := by kernel_rfl
theorem aFunc44 : aFunc Try.prog 44 = some Try.f44 := by kernel_rfl
theorem aFunc45 : aFunc Try.prog 45 = some Try.f45 := by kernel_rfl
theorem aFunc46 : aFunc Try.prog 46 = some Try.f46 := by kernel_rfl
theorem aFunc47 : aFunc Try.prog 47 = some Try.f47 := by kernel_rfl
theorem aFunc48 : aFunc Try.prog 48 = some Try.f48 := by kernel_rfl
theorem aFunc49 : aFunc Try.prog 49 = some Try.f49 := by kernel_rfl
theorem aFunc50 : aFunc Try.prog 50 = some Try.f50 := by kernel_rfl
theorem aFunc51 : aFunc Try.prog 51 = some Try.f51 := by kernel_rfl
theorem aFunc52 : aFunc Try.prog 52 = some Try.f52 := by kernel_rfl
theorem aFunc53 : aFunc Try.prog 53 = some Try.f53 := by kernel_rfl
theorem aFunc54 : aFunc Try.prog 54 = some Try.f54 := by kernel_rfl
theorem aFunc55 : aFunc Try.prog 55 = some Try.f55 := by kernel_rfl
theorem aFunc56 : aFunc Try.prog 56 = some Try.f56 := by kernel_rfl
theorem aFunc57 : aFunc Try.prog 57 = some Try.f57 := by kernel_rfl
theorem aFunc58 : aFunc Try.prog 58 = some Try.f58 := by kernel_rfl
theorem aFunc59 : aFunc Try.prog 59 = some Try.f59 := by kernel_rfl
theorem aFunc60 : aFunc Try.prog 60 = some Try.f60 := by kernel_rfl
theorem aFunc61 : aFunc Try.prog 61 = some Try.f61 := by kernel_rfl
theorem aFunc62 : aFunc Try.prog 62 = some Try.f62 := by kernel_rfl
theorem aFunc63 : aFunc Try.prog 63 = some Try.f63 := by kernel_rfl
theorem aFunc64 : aFunc Try.prog 64 = some Try.f64 := by kernel_rfl
theorem aFunc65 : aFunc Try.prog 65 = some Try.f65 := by kernel_rfl
theorem aFunc66 : aFunc Try.prog 66 = some Try.f66 := by kernel_rfl
theorem aFunc67 : aFunc Try.prog 67 = some Try.f67 := by kernel_rfl
theorem aFunc68 : aFunc Try.prog 68 = some Try.f68 := by kernel_rfl
theorem aFunc69 : aFunc Try.prog 69 = some Try.f69 := by kernel_rfl
theorem aFunc70 : aFunc Try.prog 70 = some Try.f70 := by kernel_rfl
theorem aFunc71 : aFunc Try.prog 71 = some Try.f71 := by kernel_rfl
theorem aFunc72 : aFunc Try.prog 72 = some Try.f72 := by kernel_rfl
theorem aFunc73 : aFunc Try.prog 73 = some Try.f73 := by kernel_rfl
theorem aFunc74 : aFunc Try.prog 74 = some Try.f74 := by kernel_rfl
theorem aFunc75 : aFunc Try.prog 75 = some Try.f75 := by kernel_rfl
theorem aFunc76 : aFunc Try.prog 76 = some Try.f76 := by kernel_rfl
theorem aFunc77 : aFunc Try.prog 77 = some Try.f77 := by kernel_rfl
theorem aFunc78 : aFunc Try.prog 78 = some Try.f78 := by kernel_rfl
theorem aFunc79 : aFunc Try.prog 79 = some Try.f79 := by kernel_rfl
theorem aFunc80 : aFunc Try.prog 80 = some Try.f80 := by kernel_rfl
theorem aFunc81 : aFunc Try.prog 81 = some Try.f81 := by kernel_rfl
theorem aFunc82 : aFunc Try.prog 82 = some Try.f82 := by kernel_rfl
theorem aFunc83 : aFunc Try.prog 83 = some Try.f83 := by kernel_rfl
theorem aFunc84 : aFunc Try.prog 84 = some Try.f84 := by kernel_rfl
theorem aFunc85 : aFunc Try.prog 85 = some Try.f85 := by kernel_rfl
theorem aFunc86 : aFunc Try.prog 86 = some Try.f86 := by kernel_rfl
theorem aFunc87 : aFunc Try.prog 87 = some Try.f87 := by kernel_rfl
theorem aFunc88 : aFunc Try.prog 88 = some Try.f88 := by kernel_rfl
theorem aFunc89 : aFunc Try.prog 89 = some Try.f89 := by kernel_rfl
theorem aFunc90 : aFunc Try.prog 90 = some Try.f90 := by kernel_rfl
theorem aFunc91 : aFunc Try.prog 91 = some Try.f91 := by kernel_rfl
theorem aFunc92 : aFunc Try.prog 92 = some Try.f92 := by kernel_rfl
theorem aFunc93 : aFunc Try.prog 93 = some Try.f93 := by kernel_rfl
theorem aFunc95 : aFunc Try.prog 95 = some Try.f95 := by kernel_rfl
theorem aFunc96 : aFunc Try.prog 96 = some Try.f96 := by kernel_rfl
theorem aFunc112 : aFunc Try.prog 112 = some Try.f112 := by kernel_rfl
theorem aFunc113 : aFunc Try.prog 113 = some Try.f113 := by kernel_rfl
theorem aFunc114 : aFunc Try.prog 114 = some Try.f114 := by kernel_rfl
theorem aFunc115 : aFunc Try.prog 115 = some Try.f115 := by kernel_rfl
theorem aFunc116 : aFunc Try.prog 116 = some Try.f116 := by kernel_rfl
theorem aFunc117 : aFunc Try.prog 117 = some Try.f117 := by kernel_rfl
theorem aFunc118 : aFunc Try.prog 118 = some Try.f118 := by kernel_rfl
end Go.Proofs.Ytobhkdgcciolmaa
