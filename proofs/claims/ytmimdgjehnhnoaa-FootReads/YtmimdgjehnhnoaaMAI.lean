import Derived.Test.YtmimdgjehnhnoaaMAF
import Derived.Test.YtmimdgjehnhnoaaChecked
import Derived.KernelRfl
namespace Go.Proofs.Ytmimdgjehnhnoaa
open Go Go.AbsE
variable {t : Tr AVal} {h : AH} {dst : Option Tmp} {tt : TypeId} {pos : String} {after : Array Edge} {guard : Option (Nat × Bool)} {x : Operand} {b off : Nat} {g : Kd} {cs l : List AVal} {el : TypeId} {v : AVal}
theorem ag2 : isAggT Try.prog 2 = some false := by kernel_rfl
theorem ag3 : isAggT Try.prog 3 = some false := by kernel_rfl
theorem sz3 : sizeT Try.prog 3 = some 1 := by kernel_rfl
theorem ag4 : isAggT Try.prog 4 = some false := by kernel_rfl
theorem sz4 : sizeT Try.prog 4 = some 1 := by kernel_rfl
theorem ag22 : isAggT Try.prog 22 = some false := by kernel_rfl
theorem sz22 : sizeT Try.prog 22 = some 1 := by kernel_rfl
theorem sz23 : sizeT Try.prog 23 = some 3 := by kernel_rfl
theorem ag24 : isAggT Try.prog 24 = some false := by kernel_rfl
theorem sz24 : sizeT Try.prog 24 = some 1 := by kernel_rfl
theorem ag26 : isAggT Try.prog 26 = some true := by kernel_rfl
theorem sz26 : sizeT Try.prog 26 = some 9 := by kernel_rfl
theorem ag27 : isAggT Try.prog 27 = some true := by kernel_rfl
theorem sz27 : sizeT Try.prog 27 = some 3 := by kernel_rfl
theorem ag31 : isAggT Try.prog 31 = some true := by kernel_rfl
theorem sz31 : sizeT Try.prog 31 = some 2 := by kernel_rfl
theorem ag32 : isAggT Try.prog 32 = some false := by kernel_rfl
theorem sz32 : sizeT Try.prog 32 = some 1 := by kernel_rfl
theorem ag40 : isAggT Try.prog 40 = some false := by kernel_rfl
theorem sz40 : sizeT Try.prog 40 = some 1 := by kernel_rfl
theorem ag72 : isAggT Try.prog 72 = some true := by kernel_rfl
theorem sz72 : sizeT Try.prog 72 = some 3 := by kernel_rfl
theorem ag80 : isAggT Try.prog 80 = some true := by kernel_rfl
theorem sz80 : sizeT Try.prog 80 = some 9 := by kernel_rfl
theorem ag83 : isAggT Try.prog 83 = some true := by kernel_rfl
theorem sz83 : sizeT Try.prog 83 = some 3 := by kernel_rfl
theorem ag94 : isAggT Try.prog 94 = some false := by kernel_rfl
theorem ag111 : isAggT Try.prog 111 = some true := by kernel_rfl
theorem sz111 : sizeT Try.prog 111 = some 2 := by kernel_rfl
theorem ag117 : isAggT Try.prog 117 = some false := by kernel_rfl
theorem sz117 : sizeT Try.prog 117 = some 1 := by kernel_rfl
theorem ag119 : isAggT Try.prog 119 = some true := by kernel_rfl
theorem sz119 : sizeT Try.prog 119 = some 9 := by kernel_rfl
theorem ag127 : isAggT Try.prog 127 = some false := by kernel_rfl
theorem sz127 : sizeT Try.prog 127 = some 1 := by kernel_rfl
theorem ag128 : isAggT Try.prog 128 = some false := by kernel_rfl
theorem sz128 : sizeT Try.prog 128 = some 1 := by kernel_rfl
theorem sz132 : sizeT Try.prog 132 = some 9 := by kernel_rfl
theorem sz136 : sizeT Try.prog 136 = some 8 := by kernel_rfl
theorem ag138 : isAggT Try.prog 138 = some true := by kernel_rfl
theorem sz138 : sizeT Try.prog 138 = some 9 := by kernel_rfl
theorem ag143 : isAggT Try.prog 143 = some false := by kernel_rfl
theorem sz143 : sizeT Try.prog 143 = some 1 := by kernel_rfl
theorem ag144 : isAggT Try.prog 144 = some false := by kernel_rfl
theorem sz144 : sizeT Try.prog 144 = some 1 := by kernel_rfl
theorem fa26_0 (hx : ev t x = some (.ptr b off)) : aOp Try.prog t h ⟨dst, .fieldAddr 26 x 0, tt, pos, after, guard⟩ = some (.val (.ptr b (off + 0)) h) := by
 have := aOp_fieldAddr (P := Try.prog) (h := h) (dst := dst) (tt := tt) (pos := pos) (after := after) (guard := guard) (f := 0) Try.underlying26 rfl (n := 1) sz22 rfl hx
 exact this
theorem fa26_1 (hx : ev t x = some (.ptr b off)) : aOp Try.prog t h ⟨dst, .fieldAddr 26 x 1, tt, pos, after, guard⟩ = some (.val (.ptr b (off + 1)) h) := by
 have := aOp_fieldAddr (P := Try.prog) (h := h) (dst := dst) (tt := tt) (pos := pos) (after := after) (guard := guard) (f := 1) Try.underlying26 rfl (n := 1) sz3 rfl hx
 exact this
theorem fa26_2 (hx : ev t x = some (.ptr b off)) : aOp Try.prog t h ⟨dst, .fieldAddr 26 x 2, tt, pos, after, guard⟩ = some (.val (.ptr b (off + 2)) h) := by
 have := aOp_fieldAddr (P := Try.prog) (h := h) (dst := dst) (tt := tt) (pos := pos) (after := after) (guard := guard) (f := 2) Try.underlying26 rfl (n := 3) sz23 rfl hx
 exact this
theorem fa26_3 (hx : ev t x = some (.ptr b off)) : aOp Try.prog t h ⟨dst, .fieldAddr 26 x 3, tt, pos, after, guard⟩ = some (.val (.ptr b (off + 5)) h) := by
 have := aOp_fieldAddr (P := Try.prog) (h := h) (dst := dst) (tt := tt) (pos := pos) (after := after) (guard := guard) (f := 3) Try.underlying26 rfl (n := 3) sz23 rfl hx
 exact this
theorem fa26_4 (hx : ev t x = some (.ptr b off)) : aOp Try.prog t h ⟨dst, .fieldAddr 26 x 4, tt, pos, after, guard⟩ = some (.val (.ptr b (off + 8)) h) := by
 have := aOp_fieldAddr (P := Try.prog) (h := h) (dst := dst) (tt := tt) (pos := pos) (after := after) (guard := guard) (f := 4) Try.underlying26 rfl (n := 1) sz24 rfl hx
 exact this
theorem fa31_0 (hx : ev t x = some (.ptr b off)) : aOp Try.prog t h ⟨dst, .fieldAddr 31 x 0, tt, pos, after, guard⟩ = some (.val (.ptr b (off + 0)) h) := by
 have := aOp_fieldAddr (P := Try.prog) (h := h) (dst := dst) (tt := tt) (pos := pos) (after := after) (guard := guard) (f := 0) Try.underlying31 rfl (n := 1) sz3 rfl hx
 exact this
theorem fa31_1 (hx : ev t x = some (.ptr b off)) : aOp Try.prog t h ⟨dst, .fieldAddr 31 x 1, tt, pos, after, guard⟩ = some (.val (.ptr b (off + 1)) h) := by
 have := aOp_fieldAddr (P := Try.prog) (h := h) (dst := dst) (tt := tt) (pos := pos) (after := after) (guard := guard) (f := 1) Try.underlying31 rfl (n := 1) sz3 rfl hx
 exact this
theorem fa72_0 (hx : ev t x = some (.ptr b off)) : aOp Try.prog t h ⟨dst, .fieldAddr 72 x 0, tt, pos, after, guard⟩ = some (.val (.ptr b (off + 0)) h) := by
 have := aOp_fieldAddr (P := Try.prog) (h := h) (dst := dst) (tt := tt) (pos := pos) (after := after) (guard := guard) (f := 0) Try.underlying72 rfl (n := 2) sz31 rfl hx
 exact this
theorem fa72_1 (hx : ev t x = some (.ptr b off)) : aOp Try.prog t h ⟨dst, .fieldAddr 72 x 1, tt, pos, after, guard⟩ = some (.val (.ptr b (off + 2)) h) := by
 have := aOp_fieldAddr (P := Try.prog) (h := h) (dst := dst) (tt := tt) (pos := pos) (after := after) (guard := guard) (f := 1) Try.underlying72 rfl (n := 1) sz3 rfl hx
 exact this
theorem fa80_0 (hx : ev t x = some (.ptr b off)) : aOp Try.prog t h ⟨dst, .fieldAddr 80 x 0, tt, pos, after, guard⟩ = some (.val (.ptr b (off + 0)) h) := by
 have := aOp_fieldAddr (P := Try.prog) (h := h) (dst := dst) (tt := tt) (pos := pos) (after := after) (guard := guard) (f := 0) Try.underlying80 rfl (n := 1) sz22 rfl hx
 exact this
theorem fa80_1 (hx : ev t x = some (.ptr b off)) : aOp Try.prog t h ⟨dst, .fieldAddr 80 x 1, tt, pos, after, guard⟩ = some (.val (.ptr b (off + 1)) h) := by
 have := aOp_fieldAddr (P := Try.prog) (h := h) (dst := dst) (tt := tt) (pos := pos) (after := after) (guard := guard) (f := 1) Try.underlying80 rfl (n := 1) sz3 rfl hx
 exact this
theorem fa80_2 (hx : ev t x = some (.ptr b off)) : aOp Try.prog t h ⟨dst, .fieldAddr 80 x 2, tt, pos, after, guard⟩ = some (.val (.ptr b (off + 2)) h) := by
 have := aOp_fieldAddr (P := Try.prog) (h := h) (dst := dst) (tt := tt) (pos := pos) (after := after) (guard := guard) (f := 2) Try.underlying80 rfl (n := 3) sz23 rfl hx
 exact this
theorem fa80_3 (hx : ev t x = some (.ptr b off)) : aOp Try.prog t h ⟨dst, .fieldAddr 80 x 3, tt, pos, after, guard⟩ = some (.val (.ptr b (off + 5)) h) := by
 have := aOp_fieldAddr (P := Try.prog) (h := h) (dst := dst) (tt := tt) (pos := pos) (after := after) (guard := guard) (f := 3) Try.underlying80 rfl (n := 3) sz23 rfl hx
 exact this
theorem fa80_4 (hx : ev t x = some (.ptr b off)) : aOp Try.prog t h ⟨dst, .fieldAddr 80 x 4, tt, pos, after, guard⟩ = some (.val (.ptr b (off + 8)) h) := by
 have := aOp_fieldAddr (P := Try.prog) (h := h) (dst := dst) (tt := tt) (pos := pos) (after := after) (guard := guard) (f := 4) Try.underlying80 rfl (n := 1) sz24 rfl hx
 exact this
theorem fa111_0 (hx : ev t x = some (.ptr b off)) : aOp Try.prog t h ⟨dst, .fieldAddr 111 x 0, tt, pos, after, guard⟩ = some (.val (.ptr b (off + 0)) h) := by
 have := aOp_fieldAddr (P := Try.prog) (h := h) (dst := dst) (tt := tt) (pos := pos) (after := after) (guard := guard) (f := 0) Try.underlying111 rfl (n := 1) sz3 rfl hx
 exact this
theorem fd111_0 (hx : ev t x = some (.agg cs)) (hv : cs[0]? = some v) : aOp Try.prog t h ⟨dst, .field 111 x 0, tt, pos, after, guard⟩ = some (.val v h) := by
 have := aOp_field (P := Try.prog) (h := h) (dst := dst) (tt := tt) (pos := pos) (after := after) (guard := guard) (f := 0) Try.underlying111 rfl hx (partT_one ag3 hv)
 exact this
theorem fa111_1 (hx : ev t x = some (.ptr b off)) : aOp Try.prog t h ⟨dst, .fieldAddr 111 x 1, tt, pos, after, guard⟩ = some (.val (.ptr b (off + 1)) h) := by
 have := aOp_fieldAddr (P := Try.prog) (h := h) (dst := dst) (tt := tt) (pos := pos) (after := after) (guard := guard) (f := 1) Try.underlying111 rfl (n := 1) sz40 rfl hx
 exact this
theorem fa130_0 (hx : ev t x = some (.ptr b off)) : aOp Try.prog t h ⟨dst, .fieldAddr 130 x 0, tt, pos, after, guard⟩ = some (.val (.ptr b (off + 0)) h) := by
 have := aOp_fieldAddr (P := Try.prog) (h := h) (dst := dst) (tt := tt) (pos := pos) (after := after) (guard := guard) (f := 0) Try.underlying130 rfl (n := 1) sz127 rfl hx
 exact this
theorem fa130_1 (hx : ev t x = some (.ptr b off)) : aOp Try.prog t h ⟨dst, .fieldAddr 130 x 1, tt, pos, after, guard⟩ = some (.val (.ptr b (off + 1)) h) := by
 have := aOp_fieldAddr (P := Try.prog) (h := h) (dst := dst) (tt := tt) (pos := pos) (after := after) (guard := guard) (f := 1) Try.underlying130 rfl (n := 1) sz128 rfl hx
 exact this
theorem fa132_0 (hx : ev t x = some (.ptr b off)) : aOp Try.prog t h ⟨dst, .fieldAddr 132 x 0, tt, pos, after, guard⟩ = some (.val (.ptr b (off + 0)) h) := by
 have := aOp_fieldAddr (P := Try.prog) (h := h) (dst := dst) (tt := tt) (pos := pos) (after := after) (guard := guard) (f := 0) Try.underlying132 rfl (n := 9) sz80 rfl hx
 exact this
theorem fa134_0 (hx : ev t x = some (.ptr b off)) : aOp Try.prog t h ⟨dst, .fieldAddr 134 x 0, tt, pos, after, guard⟩ = some (.val (.ptr b (off + 0)) h) := by
 have := aOp_fieldAddr (P := Try.prog) (h := h) (dst := dst) (tt := tt) (pos := pos) (after := after) (guard := guard) (f := 0) Try.underlying134 rfl (n := 9) sz132 rfl hx
 exact this
theorem fa138_0 (hx : ev t x = some (.ptr b off)) : aOp Try.prog t h ⟨dst, .fieldAddr 138 x 0, tt, pos, after, guard⟩ = some (.val (.ptr b (off + 0)) h) := by
 have := aOp_fieldAddr (P := Try.prog) (h := h) (dst := dst) (tt := tt) (pos := pos) (after := after) (guard := guard) (f := 0) Try.underlying138 rfl (n := 8) sz136 rfl hx
 exact this
theorem fa138_1 (hx : ev t x = some (.ptr b off)) : aOp Try.prog t h ⟨dst, .fieldAddr 138 x 1, tt, pos, after, guard⟩ = some (.val (.ptr b (off + 8)) h) := by
 have := aOp_fieldAddr (P := Try.prog) (h := h) (dst := dst) (tt := tt) (pos := pos) (after := after) (guard := guard) (f := 1) Try.underlying138 rfl (n := 1) sz3 rfl hx
 exact this
theorem ld3 (hx : ev t x = some (.ptr b off)) (hb : Has h b (.cells g cs el)) (hv : cs[off]? = some v) : aOp Try.prog t h ⟨dst, .load 3 x, tt, pos, after, guard⟩ = some (.val v h) := aOp_load1 ag3 hx hb hv
theorem ld4 (hx : ev t x = some (.ptr b off)) (hb : Has h b (.cells g cs el)) (hv : cs[off]? = some v) : aOp Try.prog t h ⟨dst, .load 4 x, tt, pos, after, guard⟩ = some (.val v h) := aOp_load1 ag4 hx hb hv
theorem ld22 (hx : ev t x = some (.ptr b off)) (hb : Has h b (.cells g cs el)) (hv : cs[off]? = some v) : aOp Try.prog t h ⟨dst, .load 22 x, tt, pos, after, guard⟩ = some (.val v h) := aOp_load1 ag22 hx hb hv
theorem ld24 (hx : ev t x = some (.ptr b off)) (hb : Has h b (.cells g cs el)) (hv : cs[off]? = some v) : aOp Try.prog t h ⟨dst, .load 24 x, tt, pos, after, guard⟩ = some (.val v h) := aOp_load1 ag24 hx hb hv
theorem ld26 (hx : ev t x = some (.ptr b off)) (hb : Has h b (.cells g cs el)) (hv : slice? cs off 9 = some l) : aOp Try.prog t h ⟨dst, .load 26 x, tt, pos, after, guard⟩ = some (.val (.agg l) h) := aOp_loadN ag26 sz26 hx hb hv
theorem ld27 (hx : ev t x = some (.ptr b off)) (hb : Has h b (.cells g cs el)) (hv : slice? cs off 3 = some l) : aOp Try.prog t h ⟨dst, .load 27 x, tt, pos, after, guard⟩ = some (.val (.agg l) h) := aOp_loadN ag27 sz27 hx hb hv
theorem ld31 (hx : ev t x = some (.ptr b off)) (hb : Has h b (.cells g cs el)) (hv : slice? cs off 2 = some l) : aOp Try.prog t h ⟨dst, .load 31 x, tt, pos, after, guard⟩ = some (.val (.agg l) h) := aOp_loadN ag31 sz31 hx hb hv
theorem ld40 (hx : ev t x = some (.ptr b off)) (hb : Has h b (.cells g cs el)) (hv : cs[off]? = some v) : aOp Try.prog t h ⟨dst, .load 40 x, tt, pos, after, guard⟩ = some (.val v h) := aOp_load1 ag40 hx hb hv
theorem ld80 (hx : ev t x = some (.ptr b off)) (hb : Has h b (.cells g cs el)) (hv : slice? cs off 9 = some l) : aOp Try.prog t h ⟨dst, .load 80 x, tt, pos, after, guard⟩ = some (.val (.agg l) h) := aOp_loadN ag80 sz80 hx hb hv
theorem ld83 (hx : ev t x = some (.ptr b off)) (hb : Has h b (.cells g cs el)) (hv : slice? cs off 3 = some l) : aOp Try.prog t h ⟨dst, .load 83 x, tt, pos, after, guard⟩ = some (.val (.agg l) h) := aOp_loadN ag83 sz83 hx hb hv
theorem ld94 (hx : ev t x = some (.ptr b off)) (hb : Has h b (.cells g cs el)) (hv : cs[off]? = some v) : aOp Try.prog t h ⟨dst, .load 94 x, tt, pos, after, guard⟩ = some (.val v h) := aOp_load1 ag94 hx hb hv
theorem ld111 (hx : ev t x = some (.ptr b off)) (hb : Has h b (.cells g cs el)) (hv : slice? cs off 2 = some l) : aOp Try.prog t h ⟨dst, .load 111 x, tt, pos, after, guard⟩ = some (.val (.agg l) h) := aOp_loadN ag111 sz111 hx hb hv
theorem ld117 (hx : ev t x = some (.ptr b off)) (hb : Has h b (.cells g cs el)) (hv : cs[off]? = some v) : aOp Try.prog t h ⟨dst, .load 117 x, tt, pos, after, guard⟩ = some (.val v h) := aOp_load1 ag117 hx hb hv
theorem ld119 (hx : ev t x = some (.ptr b off)) (hb : Has h b (.cells g cs el)) (hv : slice? cs off 9 = some l) : aOp Try.prog t h ⟨dst, .load 119 x, tt, pos, after, guard⟩ = some (.val (.agg l) h) := aOp_loadN ag119 sz119 hx hb hv
theorem ld127 (hx : ev t x = some (.ptr b off)) (hb : Has h b (.cells g cs el)) (hv : cs[off]? = some v) : aOp Try.prog t h ⟨dst, .load 127 x, tt, pos, after, guard⟩ = some (.val v h) := aOp_load1 ag127 hx hb hv
theorem ld128 (hx : ev t x = some (.ptr b off)) (hb : Has h b (.cells g cs el)) (hv : cs[off]? = some v) : aOp Try.prog t h ⟨dst, .load 128 x, tt, pos, after, guard⟩ = some (.val v h) := aOp_load1 ag128 hx hb hv
theorem ld138 (hx : ev t x = some (.ptr b off)) (hb : Has h b (.cells g cs el)) (hv : slice? cs off 9 = some l) : aOp Try.prog t h ⟨dst, .load 138 x, tt, pos, after, guard⟩ = some (.val (.agg l) h) := aOp_loadN ag138 sz138 hx hb hv
theorem ld143 (hx : ev t x = some (.ptr b off)) (hb : Has h b (.cells g cs el)) (hv : cs[off]? = some v) : aOp Try.prog t h ⟨dst, .load 143 x, tt, pos, after, guard⟩ = some (.val v h) := aOp_load1 ag143 hx hb hv
theorem ld144 (hx : ev t x = some (.ptr b off)) (hb : Has h b (.cells g cs el)) (hv : cs[off]? = some v) : aOp Try.prog t h ⟨dst, .load 144 x, tt, pos, after, guard⟩ = some (.val v h) := aOp_load1 ag144 hx hb hv
theorem by3 : bytesT Try.prog 3 = some 8 := by kernel_rfl
theorem by27 : bytesT Try.prog 27 = some 24 := by kernel_rfl
theorem flds8 : ∃ fs, Try.prog.underlying 8 = some (.struct fs) ∧ placesT Try.prog fs.toList = some [(0, 1), (1, 1), (2, 1), (3, 1)] := ⟨_, Try.underlying8, by kernel_rfl⟩
noncomputable def fs8 : Array Field := flds8.choose
theorem hu8 : Try.prog.underlying 8 = some (.struct fs8) := flds8.choose_spec.1
theorem flds26 : ∃ fs, Try.prog.underlying 26 = some (.struct fs) ∧ placesT Try.prog fs.toList = some [(0, 1), (1, 1), (2, 3), (5, 3), (8, 1)] := ⟨_, Try.underlying26, by kernel_rfl⟩
noncomputable def fs26 : Array Field := flds26.choose
theorem hu26 : Try.prog.underlying 26 = some (.struct fs26) := flds26.choose_spec.1
theorem pl26 : placesT Try.prog fs26.toList = some [(0, 1), (1, 1), (2, 3), (5, 3), (8, 1)] := flds26.choose_spec.2
theorem flds31 : ∃ fs, Try.prog.underlying 31 = some (.struct fs) ∧ placesT Try.prog fs.toList = some [(0, 1), (1, 1)] := ⟨_, Try.underlying31, by kernel_rfl⟩
noncomputable def fs31 : Array Field := flds31.choose
theorem hu31 : Try.prog.underlying 31 = some (.struct fs31) := flds31.choose_spec.1
theorem pl31 : placesT Try.prog fs31.toList = some [(0, 1), (1, 1)] := flds31.choose_spec.2
theorem flds72 : ∃ fs, Try.prog.underlying 72 = some (.struct fs) ∧ placesT Try.prog fs.toList = some [(0, 2), (2, 1)] := ⟨_, Try.underlying72, by kernel_rfl⟩
noncomputable def fs72 : Array Field := flds72.choose
theorem hu72 : Try.prog.underlying 72 = some (.struct fs72) := flds72.choose_spec.1
theorem pl72 : placesT Try.prog fs72.toList = some [(0, 2), (2, 1)] := flds72.choose_spec.2
theorem flds111 : ∃ fs, Try.prog.underlying 111 = some (.struct fs) ∧ placesT Try.prog fs.toList = some [(0, 1), (1, 1)] := ⟨_, Try.underlying111, by kernel_rfl⟩
noncomputable def fs111 : Array Field := flds111.choose
theorem hu111 : Try.prog.underlying 111 = some (.struct fs111) := flds111.choose_spec.1
theorem pl111 : placesT Try.prog fs111.toList = some [(0, 1), (1, 1)] := flds111.choose_spec.2
theorem flds130 : ∃ fs, Try.prog.underlying 130 = some (.struct fs) ∧ placesT Try.prog fs.toList = some [(0, 1), (1, 1)] := ⟨_, Try.underlying130, by kernel_rfl⟩
noncomputable def fs130 : Array Field := flds130.choose
theorem hu130 : Try.prog.underlying 130 = some (.struct fs130) := flds130.choose_spec.1
theorem pl130 : placesT Try.prog fs130.toList = some [(0, 1), (1, 1)] := flds130.choose_spec.2
theorem flds132 : ∃ fs, Try.prog.underlying 132 = some (.struct fs) ∧ placesT Try.prog fs.toList = some [(0, 9)] := ⟨_, Try.underlying132, by kernel_rfl⟩
noncomputable def fs132 : Array Field := flds132.choose
theorem hu132 : Try.prog.underlying 132 = some (.struct fs132) := flds132.choose_spec.1
theorem pl132 : placesT Try.prog fs132.toList = some [(0, 9)] := flds132.choose_spec.2
theorem flds134 : ∃ fs, Try.prog.underlying 134 = some (.struct fs) ∧ placesT Try.prog fs.toList = some [(0, 9)] := ⟨_, Try.underlying134, by kernel_rfl⟩
noncomputable def fs134 : Array Field := flds134.choose
theorem hu134 : Try.prog.underlying 134 = some (.struct fs134) := flds134.choose_spec.1
theorem pl134 : placesT Try.prog fs134.toList = some [(0, 9)] := flds134.choose_spec.2
theorem flds138 : ∃ fs, Try.prog.underlying 138 = some (.struct fs) ∧ placesT Try.prog fs.toList = some [(0, 8), (8, 1)] := ⟨_, Try.underlying138, by kernel_rfl⟩
noncomputable def fs138 : Array Field := flds138.choose
theorem hu138 : Try.prog.underlying 138 = some (.struct fs138) := flds138.choose_spec.1
theorem pl138 : placesT Try.prog fs138.toList = some [(0, 8), (8, 1)] := flds138.choose_spec.2
theorem zt3 : zeroT Try.prog 3 = some (.int .i64 0) := by kernel_rfl
theorem zt4 : zeroT Try.prog 4 = some (.bool false) := by kernel_rfl
theorem zt23 : zeroT Try.prog 23 = some (.agg [.int .i64 0, .int .i64 0, .int .i64 0]) := by kernel_rfl
theorem zt26 : zeroT Try.prog 26 = some (.agg [.nilslice, .int .i64 0, .int .i64 0, .int .i64 0, .int .i64 0, .int .i64 0, .int .i64 0, .int .i64 0, .nilslice]) := by kernel_rfl
theorem zt27 : zeroT Try.prog 27 = some (.agg [.int .i64 0, .int .i64 0, .int .i64 0]) := by kernel_rfl
theorem zt31 : zeroT Try.prog 31 = some (.agg [.int .i64 0, .int .i64 0]) := by kernel_rfl
theorem zt32 : zeroT Try.prog 32 = some (.int .i64 0) := by kernel_rfl
theorem zt40 : zeroT Try.prog 40 = some .nilslice := by kernel_rfl
theorem zt72 : zeroT Try.prog 72 = some (.agg [.int .i64 0, .int .i64 0, .int .i64 0]) := by kernel_rfl
theorem zt80 : zeroT Try.prog 80 = some (.agg [.nilslice, .int .i64 0, .int .i64 0, .int .i64 0, .int .i64 0, .int .i64 0, .int .i64 0, .int .i64 0, .nilslice]) := by kernel_rfl
theorem zt83 : zeroT Try.prog 83 = some (.agg [.int .i64 0, .int .i64 0, .int .i64 0]) := by kernel_rfl
theorem zt111 : zeroT Try.prog 111 = some (.agg [.int .i64 0, .nilslice]) := by kernel_rfl
theorem zt119 : zeroT Try.prog 119 = some (.agg [.int .i64 0, .int .i64 0, .int .i64 0, .int .i64 0, .int .i64 0, .int .i64 0, .int .i64 0, .int .i64 0, .int .i64 0]) := by kernel_rfl
theorem zt130 : zeroT Try.prog 130 = some (.agg [.nilfunc, .nilfunc]) := by kernel_rfl
theorem zt132 : zeroT Try.prog 132 = some (.agg [.nilslice, .int .i64 0, .int .i64 0, .int .i64 0, .int .i64 0, .int .i64 0, .int .i64 0, .int .i64 0, .nilslice]) := by kernel_rfl
theorem zt134 : zeroT Try.prog 134 = some (.agg [.nilslice, .int .i64 0, .int .i64 0, .int .i64 0, .int .i64 0, .int .i64 0, .int .i64 0, .int .i64 0, .nilslice]) := by kernel_rfl
theorem zt138 : zeroT Try.prog 138 = some (.agg [.int .i64 0, .int .i64 0, .int .i64 0, .int .i64 0, .int .i64 0, .int .i64 0, .int .i64 0, .int .i64 0, .int .i64 0]) := by kernel_rfl
theorem zt143 : zeroT Try.prog 143 = some .nilmap := by kernel_rfl
theorem zt144 : zeroT Try.prog 144 = some .nilfunc := by kernel_rfl
theorem aFunc3 : aFunc Try.prog 3 = some Try.f3 := by kernel_rfl
theorem aFunc12 : aFunc Try.prog 12 = some Try.f12 := by kernel_rfl
theorem aFunc13 : aFunc Try.prog 13 = some Try.f13 := by kernel_rfl
theorem aFunc14 : aFunc Try.prog 14 = some Try.f14 := by kernel_rfl
theorem aFunc15 : aFunc Try.prog 15 = some Try.f15 := by kernel_rfl
theorem aFunc16 : aFunc Try.prog 16 = some Try.f16 := by kernel_rfl
theorem aFunc17 : aFunc Try.prog 17 = some Try.f17 := by kernel_rfl
theorem aFunc18 : aFunc Try.prog 18 = some Try.f18 := by kernel_rfl
theorem aFunc19 : aFunc Try.prog 19 = some Try.f19 := by kernel_rfl
theorem aFunc20 : aFunc Try.prog 20 = some Try.f20 := by kernel_rfl
theorem aFunc22 : aFunc Try.prog 22 = some Try.f22 := by kernel_rfl
theorem aFunc31 : aFunc Try.prog 31 = some Try.f31 := by kernel_rfl
theorem aFunc32 : aFunc Try.prog 32 = some Try.f32 := by kernel_rfl
theorem aFunc33 : aFunc Try.prog 33 = some Try.f33 := by kernel_rfl
theorem aFunc34 : aFunc Try.prog 34 = some Try.f34 := by kernel_rfl
theorem aFunc36 : aFunc Try.prog 36 = some Try.f36 := by kernel_rfl
theorem aFunc38 : aFunc Try.prog 38 = some Try.f38 := by kernel_rfl
theorem aFunc40 : aFunc Try.prog 40 = some Try.f40 := by kernel_rfl
theorem aFunc41 : aFunc Try.prog 41 = some Try.f41 := by kernel_rfl
theorem aFunc42 : aFunc Try.prog 42 = some Try.f42 := by kernel_rfl
theorem aFunc43 : aFunc Try.prog 43 = some Try.f43 := by kernel_rfl
theorem aFunc44 : aFunc Try.prog 44 = some Try.f44 := by kernel_rfl
theorem aFunc45 : aFunc Try.prog 45 = some Try.f45 := by kernel_rfl
theorem aFunc46 : aFunc Try.prog 46 = some Try.f46 := by kernel_rfl
theorem aFunc47 : aFunc Try.prog 47 = some Try.f47 := by kernel_rfl
theorem aFunc48 : aFunc Try.prog 48 = some Try.f48 := by kernel_rfl
theorem aFunc49 : aFunc Try.prog 49 = some Try.f49 := by kernel_rfl
theorem aFunc50 : aFunc Try.prog 50 = some Try.f50 := by kernel_rfl
theorem aFunc51 : aFunc Try.prog 51 = some Try.f51 := by kernel_rfl
theorem aFunc52 : aFunc Try.prog 52 = some Try.f52 := by kernel_rfl
theorem aFunc53 : aFunc Try.prog 53 = some Try.f53 := by kernel_rfl
theorem aFunc54 : aFunc Try.prog 54 = some Try.f54 := by kernel_rfl
theorem aFunc55 : aFunc Try.prog 55 = some Try.f55 := by kernel_rfl
theorem aFunc56 : aFunc Try.prog 56 = some Try.f56 := by kernel_rfl
theorem aFunc57 : aFunc Try.prog 57 = some Try.f57 := by kernel_rfl
theorem aFunc58 : aFunc Try.prog 58 = some Try.f58 := by kernel_rfl
theorem aFunc59 : aFunc Try.prog 59 = some Try.f59 := by kernel_rfl
theorem aFunc60 : aFunc Try.prog 60 = some Try.f60 := by kernel_rfl
theorem aFunc61 : aFunc Try.prog 61 = some Try.f61 := by kernel_rfl
theorem aFunc62 : aFunc Try.prog 62 = some Try.f62 := by kernel_rfl
theorem aFunc63 : aFunc Try.prog 63 = some Try.f63 := by kernel_rfl
theorem aFunc64 : aFunc Try.prog 64 = some Try.f64 := by kernel_rfl
theorem aFunc66 : aFunc Try.prog 66 = some Try.f66 := by kernel_rfl
theorem aFunc67 : aFunc Try.prog 67 = some Try.f67 := by kernel_rfl
theorem aFunc68 : aFunc Try.prog 68 = some Try.f68 := by kernel_rfl
theorem aFunc72 : aFunc Try.prog 72 = some Try.f72 := by kernel_rfl
theorem aFunc73 : aFunc Try.prog 73 = some Try.f73 := by kernel_rfl
theorem aFunc74 : aFunc Try.prog 74 = some Try.f74 := by kernel_rfl
theorem aFunc75 : aFunc Try.prog 75 = some Try.f75 := by kernel_rfl
theorem aFunc76 : aFunc Try.prog 76 = some Try.f76 := by kernel_rfl
theorem aFunc77 : aFunc Try.prog 77 = some Try.f77 := by kernel_rfl
theorem aFunc79 : aFunc Try.prog 79 = some Try.f79 := by kernel_rfl
theorem aFunc80 : aFunc Try.prog 80 = some Try.f80 := by kernel_rfl
theorem aFunc81 : aFunc Try.prog 81 = some Try.f81 := by kernel_rfl
theorem aFunc82 : aFunc Try.prog 82 = some Try.f82 := by kernel_rfl
theorem aFunc83 : aFunc Try.prog 83 = some Try.f83 := by kernel_rfl
theorem aFunc84 : aFunc Try.prog 84 = some Try.f84 := by kernel_rfl
theorem aFunc85 : aFunc Try.prog 85 = some Try.f85 := by kernel_rfl
theorem aFunc86 : aFunc Try.prog 86 = some Try.f86 := by kernel_rfl
theorem aFunc87 : aFunc Try.prog 87 = some Try.f87 := by kernel_rfl
theorem aFunc88 : aFunc Try.prog 88 = some Try.f88 := by kernel_rfl
theorem aFunc89 : aFunc Try.prog 89 = some Try.f89 := by kernel_rfl
theorem aFunc90 : aFunc Try.prog 90 = some Try.f90 := by kernel_rfl
theorem aFunc91 : aFunc Try.prog 91 = some Try.f91 := by kernel_rfl
theorem aFunc92 : aFunc Try.prog 92 = some Try.f92 := by kernel_rfl
theorem aFunc93 : aFunc Try.prog 93 = some Try.f93 := by kernel_rfl
theorem aFunc94 : aFunc Try.prog 94 = some Try.f94 := by kernel_rfl
theorem aFunc95 : aFunc Try.prog 95 = some Try.f95 := by kernel_rfl
theorem aFunc96 : aFunc Try.prog 96 = some Try.f96 := by kernel_rfl
theorem aFunc100 : aFunc Try.prog 100 = some Try.f100 := by kernel_rfl
theorem aFunc101 : aFunc Try.prog 101 = some Try.f101 := by kernel_rfl
theorem aFunc102 : aFunc Try.prog 102 = some Try.f102 := by kernel_rfl
theorem aFunc103 : aFunc Try.prog 103 = some Try.f103 := by kernel_rfl
theorem aFunc104 : aFunc Try.prog 104 = some Try.f104 := by kernel_rfl
theorem aFunc105 : aFunc Try.prog 105 = some Try.f105 := by kernel_rfl
theorem aFunc106 : aFunc Try.prog 106 = some Try.f106 := by kernel_rfl
theorem aFunc107 : aFunc Try.prog 107 = some Try.f107 := by kernel_rfl
theorem aFunc108 : aFunc Try.prog 108 = some Try.f108 := by kernel_rfl
theorem aFunc109 : aFunc Try.prog 109 = some Try.f109 := by kernel_rfl
theorem aFunc110 : aFunc Try.prog 110 = some Try.f110 := by kernel_rfl
theorem aFunc111 : aFunc Try.prog 111 = some Try.f111 := by kernel_rfl
theorem aFunc112 : aFunc Try.prog 112 = some Try.f112 := by kernel_rfl
theorem aFunc113 : aFunc Try.prog 113 = some Try.f113 := by kernel_rfl
theorem aFunc114 : aFunc Try.prog 114 = some Try.f114 := by kernel_rfl
theorem aFunc115 : aFunc Try.prog 115 = some Try.f115 := by kernel_rfl
theorem aFunc116 : aFunc Try.prog 116 = some Try.f116 := by kernel_rfl
theorem aFunc117 : aFunc Try.prog 117 = some Try.f117 := by kernel_rfl
theorem aFunc118 : aFunc Try.prog 118 = some Try.f118 := by kernel_rfl
theorem aFunc119 : aFunc Try.prog 119 = some Try.f119 := by kernel_rfl
theorem aFunc120 : aFunc Try.prog 120 = some Try.f120 := by kernel_rfl
theorem aFunc121 : aFunc Try.prog 121 = some Try.f121 := by kernel_rfl
theorem aFunc122 : aFunc Try.prog 122 = some Try.f122 := by kernel_rfl
theorem aFunc123 : aFunc Try.prog 123 = some Try.f123 := by kernel_rfl
theorem aFunc124 : aFunc Try.prog 124 = some Try.f124 := by kernel_rfl
theorem aFunc125 : aFunc Try.prog 125 = some Try.f125 := by kernel_rfl
theorem aFunc141 : aFunc Try.prog 141 = some Try.f141 := by kernel_rfl
theorem aFunc142 : aFunc Try.prog 142 = some Try.f142 := by kernel_rfl
theorem aFunc143 : aFunc Try.prog 143 = some Try.f143 := by kernel_rfl
theorem aFunc144 : aFunc Try.prog 144 = some Try.f144 := by kernel_rfl
end Go.Proofs.Ytmimdgjehnhnoaa
