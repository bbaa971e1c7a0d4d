import Derived.Test.YtkhiagdmbajimaaMAF
import Derived.Test.YtkhiagdmbajimaaChecked
import Derived.KernelRfl
namespace Go.Proofs.Ytkhiagdmbajimaa
open Go Go.AbsE
variable {t : Tr AVal} {h : AH} {dst : Option Tmp} {tt : TypeId} {pos : String} {after : Array Edge} {guard : Option (Nat × Bool)} {x : Operand} {b off : Nat} {g : Kd} {cs l : List AVal} {el : TypeId} {v : AVal}
theorem ag2 : isAggT Try.prog 2 = some false := by kernel_rfl
theorem ag3 : isAggT Try.prog 3 = some false := by kernel_rfl
theorem sz3 : sizeT Try.prog 3 = some 1 := by kernel_rfl
theorem ag22 : isAggT Try.prog 22 = some false := by kernel_rfl
theorem sz22 : sizeT Try.prog 22 = some 1 := by kernel_rfl
theorem ag25 : isAggT Try.prog 25 = some false := by kernel_rfl
theorem sz25 : sizeT Try.prog 25 = some 1 := by kernel_rfl
theorem ag26 : isAggT Try.prog 26 = some false := by kernel_rfl
theorem sz26 : sizeT Try.prog 26 = some 1 := by kernel_rfl
theorem ag27 : isAggT Try.prog 27 = some false := by kernel_rfl
theorem sz27 : sizeT Try.prog 27 = some 1 := by kernel_rfl
theorem ag29 : isAggT Try.prog 29 = some true := by kernel_rfl
theorem sz29 : sizeT Try.prog 29 = some 4 := by kernel_rfl
theorem ag32 : isAggT Try.prog 32 = some true := by kernel_rfl
theorem sz32 : sizeT Try.prog 32 = some 2 := by kernel_rfl
theorem ag35 : isAggT Try.prog 35 = some true := by kernel_rfl
theorem sz35 : sizeT Try.prog 35 = some 2 := by kernel_rfl
theorem ag45 : isAggT Try.prog 45 = some false := by kernel_rfl
theorem ag47 : isAggT Try.prog 47 = some false := by kernel_rfl
theorem sz47 : sizeT Try.prog 47 = some 1 := by kernel_rfl
theorem ag57 : isAggT Try.prog 57 = some true := by kernel_rfl
theorem sz57 : sizeT Try.prog 57 = some 3 := by kernel_rfl
theorem ag60 : isAggT Try.prog 60 = some true := by kernel_rfl
theorem sz60 : sizeT Try.prog 60 = some 4 := by kernel_rfl
theorem ag64 : isAggT Try.prog 64 = some false := by kernel_rfl
theorem sz64 : sizeT Try.prog 64 = some 1 := by kernel_rfl
theorem ag71 : isAggT Try.prog 71 = some true := by kernel_rfl
theorem sz71 : sizeT Try.prog 71 = some 4 := by kernel_rfl
theorem ag72 : isAggT Try.prog 72 = some false := by kernel_rfl
theorem sz72 : sizeT Try.prog 72 = some 1 := by kernel_rfl
theorem ag74 : isAggT Try.prog 74 = some false := by kernel_rfl
theorem sz74 : sizeT Try.prog 74 = some 1 := by kernel_rfl
theorem ag79 : isAggT Try.prog 79 = some true := by kernel_rfl
theorem sz79 : sizeT Try.prog 79 = some 2 := by kernel_rfl
theorem ag93 : isAggT Try.prog 93 = some false := by kernel_rfl
theorem sz93 : sizeT Try.prog 93 = some 1 := by kernel_rfl
theorem sz97 : sizeT Try.prog 97 = some 5 := by kernel_rfl
theorem ag99 : isAggT Try.prog 99 = some true := by kernel_rfl
theorem sz99 : sizeT Try.prog 99 = some 5 := by kernel_rfl
theorem ag100 : isAggT Try.prog 100 = some false := by kernel_rfl
theorem sz100 : sizeT Try.prog 100 = some 1 := by kernel_rfl
theorem ag104 : isAggT Try.prog 104 = some true := by kernel_rfl
theorem sz104 : sizeT Try.prog 104 = some 1 := by kernel_rfl
theorem fa29_0 (hx : ev t x = some (.ptr b off)) : aOp Try.prog t h ⟨dst, .fieldAddr 29 x 0, tt, pos, after, guard⟩ = some (.val (.ptr b (off + 0)) h) := by
 have := aOp_fieldAddr (P := Try.prog) (h := h) (dst := dst) (tt := tt) (pos := pos) (after := after) (guard := guard) (f := 0) Try.underlying29 rfl (n := 1) sz25 rfl hx
 exact this
theorem fa29_1 (hx : ev t x = some (.ptr b off)) : aOp Try.prog t h ⟨dst, .fieldAddr 29 x 1, tt, pos, after, guard⟩ = some (.val (.ptr b (off + 1)) h) := by
 have := aOp_fieldAddr (P := Try.prog) (h := h) (dst := dst) (tt := tt) (pos := pos) (after := after) (guard := guard) (f := 1) Try.underlying29 rfl (n := 1) sz26 rfl hx
 exact this
theorem fa29_2 (hx : ev t x = some (.ptr b off)) : aOp Try.prog t h ⟨dst, .fieldAddr 29 x 2, tt, pos, after, guard⟩ = some (.val (.ptr b (off + 2)) h) := by
 have := aOp_fieldAddr (P := Try.prog) (h := h) (dst := dst) (tt := tt) (pos := pos) (after := after) (guard := guard) (f := 2) Try.underlying29 rfl (n := 1) sz27 rfl hx
 exact this
theorem fa29_3 (hx : ev t x = some (.ptr b off)) : aOp Try.prog t h ⟨dst, .fieldAddr 29 x 3, tt, pos, after, guard⟩ = some (.val (.ptr b (off + 3)) h) := by
 have := aOp_fieldAddr (P := Try.prog) (h := h) (dst := dst) (tt := tt) (pos := pos) (after := after) (guard := guard) (f := 3) Try.underlying29 rfl (n := 1) sz26 rfl hx
 exact this
theorem fa32_0 (hx : ev t x = some (.ptr b off)) : aOp Try.prog t h ⟨dst, .fieldAddr 32 x 0, tt, pos, after, guard⟩ = some (.val (.ptr b (off + 0)) h) := by
 have := aOp_fieldAddr (P := Try.prog) (h := h) (dst := dst) (tt := tt) (pos := pos) (after := after) (guard := guard) (f := 0) Try.underlying32 rfl (n := 1) sz3 rfl hx
 exact this
theorem fa32_1 (hx : ev t x = some (.ptr b off)) : aOp Try.prog t h ⟨dst, .fieldAddr 32 x 1, tt, pos, after, guard⟩ = some (.val (.ptr b (off + 1)) h) := by
 have := aOp_fieldAddr (P := Try.prog) (h := h) (dst := dst) (tt := tt) (pos := pos) (after := after) (guard := guard) (f := 1) Try.underlying32 rfl (n := 1) sz3 rfl hx
 exact this
theorem fa35_0 (hx : ev t x = some (.ptr b off)) : aOp Try.prog t h ⟨dst, .fieldAddr 35 x 0, tt, pos, after, guard⟩ = some (.val (.ptr b (off + 0)) h) := by
 have := aOp_fieldAddr (P := Try.prog) (h := h) (dst := dst) (tt := tt) (pos := pos) (after := after) (guard := guard) (f := 0) Try.underlying35 rfl (n := 1) sz3 rfl hx
 exact this
theorem fd35_0 (hx : ev t x = some (.agg cs)) (hv : cs[0]? = some v) : aOp Try.prog t h ⟨dst, .field 35 x 0, tt, pos, after, guard⟩ = some (.val v h) := by
 have := aOp_field (P := Try.prog) (h := h) (dst := dst) (tt := tt) (pos := pos) (after := after) (guard := guard) (f := 0) Try.underlying35 rfl hx (partT_one ag3 hv)
 exact this
theorem fa35_1 (hx : ev t x = some (.ptr b off)) : aOp Try.prog t h ⟨dst, .fieldAddr 35 x 1, tt, pos, after, guard⟩ = some (.val (.ptr b (off + 1)) h) := by
 have := aOp_fieldAddr (P := Try.prog) (h := h) (dst := dst) (tt := tt) (pos := pos) (after := after) (guard := guard) (f := 1) Try.underlying35 rfl (n := 1) sz3 rfl hx
 exact this
theorem fd35_1 (hx : ev t x = some (.agg cs)) (hv : cs[1]? = some v) : aOp Try.prog t h ⟨dst, .field 35 x 1, tt, pos, after, guard⟩ = some (.val v h) := by
 have := aOp_field (P := Try.prog) (h := h) (dst := dst) (tt := tt) (pos := pos) (after := after) (guard := guard) (f := 1) Try.underlying35 rfl hx (partT_one ag3 hv)
 exact this
theorem fa57_0 (hx : ev t x = some (.ptr b off)) : aOp Try.prog t h ⟨dst, .fieldAddr 57 x 0, tt, pos, after, guard⟩ = some (.val (.ptr b (off + 0)) h) := by
 have := aOp_fieldAddr (P := Try.prog) (h := h) (dst := dst) (tt := tt) (pos := pos) (after := after) (guard := guard) (f := 0) Try.underlying57 rfl (n := 1) sz3 rfl hx
 exact this
theorem fa57_1 (hx : ev t x = some (.ptr b off)) : aOp Try.prog t h ⟨dst, .fieldAddr 57 x 1, tt, pos, after, guard⟩ = some (.val (.ptr b (off + 1)) h) := by
 have := aOp_fieldAddr (P := Try.prog) (h := h) (dst := dst) (tt := tt) (pos := pos) (after := after) (guard := guard) (f := 1) Try.underlying57 rfl (n := 1) sz3 rfl hx
 exact this
theorem fa57_2 (hx : ev t x = some (.ptr b off)) : aOp Try.prog t h ⟨dst, .fieldAddr 57 x 2, tt, pos, after, guard⟩ = some (.val (.ptr b (off + 2)) h) := by
 have := aOp_fieldAddr (P := Try.prog) (h := h) (dst := dst) (tt := tt) (pos := pos) (after := after) (guard := guard) (f := 2) Try.underlying57 rfl (n := 1) sz3 rfl hx
 exact this
theorem fa60_0 (hx : ev t x = some (.ptr b off)) : aOp Try.prog t h ⟨dst, .fieldAddr 60 x 0, tt, pos, after, guard⟩ = some (.val (.ptr b (off + 0)) h) := by
 have := aOp_fieldAddr (P := Try.prog) (h := h) (dst := dst) (tt := tt) (pos := pos) (after := after) (guard := guard) (f := 0) Try.underlying60 rfl (n := 2) sz35 rfl hx
 exact this
theorem fa60_1 (hx : ev t x = some (.ptr b off)) : aOp Try.prog t h ⟨dst, .fieldAddr 60 x 1, tt, pos, after, guard⟩ = some (.val (.ptr b (off + 2)) h) := by
 have := aOp_fieldAddr (P := Try.prog) (h := h) (dst := dst) (tt := tt) (pos := pos) (after := after) (guard := guard) (f := 1) Try.underlying60 rfl (n := 2) sz35 rfl hx
 exact this
theorem fa71_0 (hx : ev t x = some (.ptr b off)) : aOp Try.prog t h ⟨dst, .fieldAddr 71 x 0, tt, pos, after, guard⟩ = some (.val (.ptr b (off + 0)) h) := by
 have := aOp_fieldAddr (P := Try.prog) (h := h) (dst := dst) (tt := tt) (pos := pos) (after := after) (guard := guard) (f := 0) Try.underlying71 rfl (n := 1) sz25 rfl hx
 exact this
theorem fa71_1 (hx : ev t x = some (.ptr b off)) : aOp Try.prog t h ⟨dst, .fieldAddr 71 x 1, tt, pos, after, guard⟩ = some (.val (.ptr b (off + 1)) h) := by
 have := aOp_fieldAddr (P := Try.prog) (h := h) (dst := dst) (tt := tt) (pos := pos) (after := after) (guard := guard) (f := 1) Try.underlying71 rfl (n := 1) sz26 rfl hx
 exact this
theorem fa71_2 (hx : ev t x = some (.ptr b off)) : aOp Try.prog t h ⟨dst, .fieldAddr 71 x 2, tt, pos, after, guard⟩ = some (.val (.ptr b (off + 2)) h) := by
 have := aOp_fieldAddr (P := Try.prog) (h := h) (dst := dst) (tt := tt) (pos := pos) (after := after) (guard := guard) (f := 2) Try.underlying71 rfl (n := 1) sz27 rfl hx
 exact this
theorem fa71_3 (hx : ev t x = some (.ptr b off)) : aOp Try.prog t h ⟨dst, .fieldAddr 71 x 3, tt, pos, after, guard⟩ = some (.val (.ptr b (off + 3)) h) := by
 have := aOp_fieldAddr (P := Try.prog) (h := h) (dst := dst) (tt := tt) (pos := pos) (after := after) (guard := guard) (f := 3) Try.underlying71 rfl (n := 1) sz26 rfl hx
 exact this
theorem fa79_0 (hx : ev t x = some (.ptr b off)) : aOp Try.prog t h ⟨dst, .fieldAddr 79 x 0, tt, pos, after, guard⟩ = some (.val (.ptr b (off + 0)) h) := by
 have := aOp_fieldAddr (P := Try.prog) (h := h) (dst := dst) (tt := tt) (pos := pos) (after := after) (guard := guard) (f := 0) Try.underlying79 rfl (n := 1) sz47 rfl hx
 exact this
theorem fa79_1 (hx : ev t x = some (.ptr b off)) : aOp Try.prog t h ⟨dst, .fieldAddr 79 x 1, tt, pos, after, guard⟩ = some (.val (.ptr b (off + 1)) h) := by
 have := aOp_fieldAddr (P := Try.prog) (h := h) (dst := dst) (tt := tt) (pos := pos) (after := after) (guard := guard) (f := 1) Try.underlying79 rfl (n := 1) sz25 rfl hx
 exact this
theorem fa99_0 (hx : ev t x = some (.ptr b off)) : aOp Try.prog t h ⟨dst, .fieldAddr 99 x 0, tt, pos, after, guard⟩ = some (.val (.ptr b (off + 0)) h) := by
 have := aOp_fieldAddr (P := Try.prog) (h := h) (dst := dst) (tt := tt) (pos := pos) (after := after) (guard := guard) (f := 0) Try.underlying99 rfl (n := 5) sz97 rfl hx
 exact this
theorem fa104_0 (hx : ev t x = some (.ptr b off)) : aOp Try.prog t h ⟨dst, .fieldAddr 104 x 0, tt, pos, after, guard⟩ = some (.val (.ptr b (off + 0)) h) := by
 have := aOp_fieldAddr (P := Try.prog) (h := h) (dst := dst) (tt := tt) (pos := pos) (after := after) (guard := guard) (f := 0) Try.underlying104 rfl (n := 1) sz26 rfl hx
 exact this
theorem fa110_0 (hx : ev t x = some (.ptr b off)) : aOp Try.prog t h ⟨dst, .fieldAddr 110 x 0, tt, pos, after, guard⟩ = some (.val (.ptr b (off + 0)) h) := by
 have := aOp_fieldAddr (P := Try.prog) (h := h) (dst := dst) (tt := tt) (pos := pos) (after := after) (guard := guard) (f := 0) Try.underlying110 rfl (n := 1) sz104 rfl hx
 exact this
theorem fa110_1 (hx : ev t x = some (.ptr b off)) : aOp Try.prog t h ⟨dst, .fieldAddr 110 x 1, tt, pos, after, guard⟩ = some (.val (.ptr b (off + 1)) h) := by
 have := aOp_fieldAddr (P := Try.prog) (h := h) (dst := dst) (tt := tt) (pos := pos) (after := after) (guard := guard) (f := 1) Try.underlying110 rfl (n := 1) sz3 rfl hx
 exact this
theorem fa112_0 (hx : ev t x = some (.ptr b off)) : aOp Try.prog t h ⟨dst, .fieldAddr 112 x 0, tt, pos, after, guard⟩ = some (.val (.ptr b (off + 0)) h) := by
 have := aOp_fieldAddr (P := Try.prog) (h := h) (dst := dst) (tt := tt) (pos := pos) (after := after) (guard := guard) (f := 0) Try.underlying112 rfl (n := 1) sz64 rfl hx
 exact this
theorem ld3 (hx : ev t x = some (.ptr b off)) (hb : Has h b (.cells g cs el)) (hv : cs[off]? = some v) : aOp Try.prog t h ⟨dst, .load 3 x, tt, pos, after, guard⟩ = some (.val v h) := aOp_load1 ag3 hx hb hv
theorem ld25 (hx : ev t x = some (.ptr b off)) (hb : Has h b (.cells g cs el)) (hv : cs[off]? = some v) : aOp Try.prog t h ⟨dst, .load 25 x, tt, pos, after, guard⟩ = some (.val v h) := aOp_load1 ag25 hx hb hv
theorem ld26 (hx : ev t x = some (.ptr b off)) (hb : Has h b (.cells g cs el)) (hv : cs[off]? = some v) : aOp Try.prog t h ⟨dst, .load 26 x, tt, pos, after, guard⟩ = some (.val v h) := aOp_load1 ag26 hx hb hv
theorem ld27 (hx : ev t x = some (.ptr b off)) (hb : Has h b (.cells g cs el)) (hv : cs[off]? = some v) : aOp Try.prog t h ⟨dst, .load 27 x, tt, pos, after, guard⟩ = some (.val v h) := aOp_load1 ag27 hx hb hv
theorem ld29 (hx : ev t x = some (.ptr b off)) (hb : Has h b (.cells g cs el)) (hv : slice? cs off 4 = some l) : aOp Try.prog t h ⟨dst, .load 29 x, tt, pos, after, guard⟩ = some (.val (.agg l) h) := aOp_loadN ag29 sz29 hx hb hv
theorem ld32 (hx : ev t x = some (.ptr b off)) (hb : Has h b (.cells g cs el)) (hv : slice? cs off 2 = some l) : aOp Try.prog t h ⟨dst, .load 32 x, tt, pos, after, guard⟩ = some (.val (.agg l) h) := aOp_loadN ag32 sz32 hx hb hv
theorem ld35 (hx : ev t x = some (.ptr b off)) (hb : Has h b (.cells g cs el)) (hv : slice? cs off 2 = some l) : aOp Try.prog t h ⟨dst, .load 35 x, tt, pos, after, guard⟩ = some (.val (.agg l) h) := aOp_loadN ag35 sz35 hx hb hv
theorem ld45 (hx : ev t x = some (.ptr b off)) (hb : Has h b (.cells g cs el)) (hv : cs[off]? = some v) : aOp Try.prog t h ⟨dst, .load 45 x, tt, pos, after, guard⟩ = some (.val v h) := aOp_load1 ag45 hx hb hv
theorem ld47 (hx : ev t x = some (.ptr b off)) (hb : Has h b (.cells g cs el)) (hv : cs[off]? = some v) : aOp Try.prog t h ⟨dst, .load 47 x, tt, pos, after, guard⟩ = some (.val v h) := aOp_load1 ag47 hx hb hv
theorem ld64 (hx : ev t x = some (.ptr b off)) (hb : Has h b (.cells g cs el)) (hv : cs[off]? = some v) : aOp Try.prog t h ⟨dst, .load 64 x, tt, pos, after, guard⟩ = some (.val v h) := aOp_load1 ag64 hx hb hv
theorem ld71 (hx : ev t x = some (.ptr b off)) (hb : Has h b (.cells g cs el)) (hv : slice? cs off 4 = some l) : aOp Try.prog t h ⟨dst, .load 71 x, tt, pos, after, guard⟩ = some (.val (.agg l) h) := aOp_loadN ag71 sz71 hx hb hv
theorem ld72 (hx : ev t x = some (.ptr b off)) (hb : Has h b (.cells g cs el)) (hv : cs[off]? = some v) : aOp Try.prog t h ⟨dst, .load 72 x, tt, pos, after, guard⟩ = some (.val v h) := aOp_load1 ag72 hx hb hv
theorem ld74 (hx : ev t x = some (.ptr b off)) (hb : Has h b (.cells g cs el)) (hv : cs[off]? = some v) : aOp Try.prog t h ⟨dst, .load 74 x, tt, pos, after, guard⟩ = some (.val v h) := aOp_load1 ag74 hx hb hv
theorem ld79 (hx : ev t x = some (.ptr b off)) (hb : Has h b (.cells g cs el)) (hv : slice? cs off 2 = some l) : aOp Try.prog t h ⟨dst, .load 79 x, tt, pos, after, guard⟩ = some (.val (.agg l) h) := aOp_loadN ag79 sz79 hx hb hv
theorem ld99 (hx : ev t x = some (.ptr b off)) (hb : Has h b (.cells g cs el)) (hv : slice? cs off 5 = some l) : aOp Try.prog t h ⟨dst, .load 99 x, tt, pos, after, guard⟩ = some (.val (.agg l) h) := aOp_loadN ag99 sz99 hx hb hv
theorem ld100 (hx : ev t x = some (.ptr b off)) (hb : Has h b (.cells g cs el)) (hv : cs[off]? = some v) : aOp Try.prog t h ⟨dst, .load 100 x, tt, pos, after, guard⟩ = some (.val v h) := aOp_load1 ag100 hx hb hv
theorem ld104 (hx : ev t x = some (.ptr b off)) (hb : Has h b (.cells g cs el)) (hv : slice? cs off 1 = some l) : aOp Try.prog t h ⟨dst, .load 104 x, tt, pos, after, guard⟩ = some (.val (.agg l) h) := aOp_loadN ag104 sz104 hx hb hv
theorem by2 : bytesT Try.prog 2 = some 8 := by kernel_rfl
theorem by3 : bytesT Try.prog 3 = some 8 := by kernel_rfl
theorem by32 : bytesT Try.prog 32 = some 16 := by kernel_rfl
theorem by35 : bytesT Try.prog 35 = some 16 := by kernel_rfl
theorem flds29 : ∃ fs, Try.prog.underlying 29 = some (.struct fs) ∧ placesT Try.prog fs.toList = some [(0, 1), (1, 1), (2, 1), (3, 1)] := ⟨_, Try.underlying29, by kernel_rfl⟩
noncomputable def fs29 : Array Field := flds29.choose
theorem hu29 : Try.prog.underlying 29 = some (.struct fs29) := flds29.choose_spec.1
theorem pl29 : placesT Try.prog fs29.toList = some [(0, 1), (1, 1), (2, 1), (3, 1)] := flds29.choose_spec.2
theorem flds32 : ∃ fs, Try.prog.underlying 32 = some (.struct fs) ∧ placesT Try.prog fs.toList = some [(0, 1), (1, 1)] := ⟨_, Try.underlying32, by kernel_rfl⟩
noncomputable def fs32 : Array Field := flds32.choose
theorem hu32 : Try.prog.underlying 32 = some (.struct fs32) := flds32.choose_spec.1
theorem pl32 : placesT Try.prog fs32.toList = some [(0, 1), (1, 1)] := flds32.choose_spec.2
theorem flds35 : ∃ fs, Try.prog.underlying 35 = some (.struct fs) ∧ placesT Try.prog fs.toList = some [(0, 1), (1, 1)] := ⟨_, Try.underlying35, by kernel_rfl⟩
noncomputable def fs35 : Array Field := flds35.choose
theorem hu35 : Try.prog.underlying 35 = some (.struct fs35) := flds35.choose_spec.1
theorem pl35 : placesT Try.prog fs35.toList = some [(0, 1), (1, 1)] := flds35.choose_spec.2
theorem flds57 : ∃ fs, Try.prog.underlying 57 = some (.struct fs) ∧ placesT Try.prog fs.toList = some [(0, 1), (1, 1), (2, 1)] := ⟨_, Try.underlying57, by kernel_rfl⟩
noncomputable def fs57 : Array Field := flds57.choose
theorem hu57 : Try.prog.underlying 57 = some (.struct fs57) := flds57.choose_spec.1
theorem pl57 : placesT Try.prog fs57.toList = some [(0, 1), (1, 1), (2, 1)] := flds57.choose_spec.2
theorem flds60 : ∃ fs, Try.prog.underlying 60 = some (.struct fs) ∧ placesT Try.prog fs.toList = some [(0, 2), (2, 2)] := ⟨_, Try.underlying60, by kernel_rfl⟩
noncomputable def fs60 : Array Field := flds60.choose
theorem hu60 : Try.prog.underlying 60 = some (.struct fs60) := flds60.choose_spec.1
theorem pl60 : placesT Try.prog fs60.toList = some [(0, 2), (2, 2)] := flds60.choose_spec.2
theorem flds79 : ∃ fs, Try.prog.underlying 79 = some (.struct fs) ∧ placesT Try.prog fs.toList = some [(0, 1), (1, 1)] := ⟨_, Try.underlying79, by kernel_rfl⟩
noncomputable def fs79 : Array Field := flds79.choose
theorem hu79 : Try.prog.underlying 79 = some (.struct fs79) := flds79.choose_spec.1
theorem pl79 : placesT Try.prog fs79.toList = some [(0, 1), (1, 1)] := flds79.choose_spec.2
theorem flds104 : ∃ fs, Try.prog.underlying 104 = some (.struct fs) ∧ placesT Try.prog fs.toList = some [(0, 1)] := ⟨_, Try.underlying104, by kernel_rfl⟩
noncomputable def fs104 : Array Field := flds104.choose
theorem hu104 : Try.prog.underlying 104 = some (.struct fs104) := flds104.choose_spec.1
theorem pl104 : placesT Try.prog fs104.toList = some [(0, 1)] := flds104.choose_spec.2
theorem flds110 : ∃ fs, Try.prog.underlying 110 = some (.struct fs) ∧ placesT Try.prog fs.toList = some [(0, 1), (1, 1)] := ⟨_, Try.underlying110, by kernel_rfl⟩
noncomputable def fs110 : Array Field := flds110.choose
theorem hu110 : Try.prog.underlying 110 = some (.struct fs110) := flds110.choose_spec.1
theorem pl110 : placesT Try.prog fs110.toList = some [(0, 1), (1, 1)] := flds110.choose_spec.2
theorem flds112 : ∃ fs, Try.prog.underlying 112 = some (.struct fs) ∧ placesT Try.prog fs.toList = some [(0, 1)] := ⟨_, Try.underlying112, by kernel_rfl⟩
noncomputable def fs112 : Array Field := flds112.choose
theorem hu112 : Try.prog.underlying 112 = some (.struct fs112) := flds112.choose_spec.1
theorem pl112 : placesT Try.prog fs112.toList = some [(0, 1)] := flds112.choose_spec.2
theorem zt3 : zeroT Try.prog 3 = some (.int .i64 0) := by kernel_rfl
theorem zt22 : zeroT Try.prog 22 = some (.int .i64 0) := by kernel_rfl
theorem zt29 : zeroT Try.prog 29 = some (.agg [.nilslice, .nilslice, .nilslice, .nilslice]) := by kernel_rfl
theorem zt32 : zeroT Try.prog 32 = some (.agg [.int .i64 0, .int .i64 0]) := by kernel_rfl
theorem zt35 : zeroT Try.prog 35 = some (.agg [.int .i64 0, .int .i64 0]) := by kernel_rfl
theorem zt57 : zeroT Try.prog 57 = some (.agg [.int .i64 0, .int .i64 0, .int .i64 0]) := by kernel_rfl
theorem zt60 : zeroT Try.prog 60 = some (.agg [.int .i64 0, .int .i64 0, .int .i64 0, .int .i64 0]) := by kernel_rfl
theorem zt72 : zeroT Try.prog 72 = some .nilfunc := by kernel_rfl
theorem zt74 : zeroT Try.prog 74 = some .nilmap := by kernel_rfl
theorem zt79 : zeroT Try.prog 79 = some (.agg [.nilslice, .nilslice]) := by kernel_rfl
theorem zt99 : zeroT Try.prog 99 = some (.agg [.int .i64 0, .int .i64 0, .int .i64 0, .int .i64 0, .int .i64 0]) := by kernel_rfl
theorem zt100 : zeroT Try.prog 100 = some .nilslice := by kernel_rfl
theorem zt104 : zeroT Try.prog 104 = some (.agg [.nilslice]) := by kernel_rfl
theorem zt110 : zeroT Try.prog 110 = some (.agg [.nilslice, .int .i64 0]) := by kernel_rfl
theorem zt112 : zeroT Try.prog 112 = some (.agg [.nilfunc]) := by kernel_rfl
theorem aFunc4 : aFunc Try.prog 4 = some Try.f4 := by kernel_rfl
theorem aFunc10 : aFunc Try.prog 10 = some Try.f10 := by kernel_rfl
theorem aFunc11 : aFunc Try.prog 11 = some Try.f11 := by kernel_rfl
theorem aFunc12 : aFunc Try.prog 12 = some Try.f12 := by kernel_rfl
theorem aFunc13 : aFunc Try.prog 13 = some Try.f13 := by kernel_rfl
theorem aFunc14 : aFunc Try.prog 14 = some Try.f14 := by kernel_rfl
theorem aFunc15 : aFunc Try.prog 15 = some Try.f15 := by kernel_rfl
theorem aFunc16 : aFunc Try.prog 16 = some Try.f16 := by kernel_rfl
theorem aFunc17 : aFunc Try.prog 17 = some Try.f17 := by kernel_rfl
theorem aFunc18 : aFunc Try.prog 18 = some Try.f18 := by kernel_rfl
theorem aFunc19 : aFunc Try.prog 19 = some Try.f19 := by kernel_rfl
theorem aFunc20 : aFunc Try.prog 20 = some Try.f20 := by kernel_rfl
theorem aFunc21 : aFunc Try.prog 21 = some Try.f21 := by kernel_rfl
theorem aFunc22 : aFunc Try.prog 22 = some Try.f22 := by kernel_rfl
theorem aFunc23 : aFunc Try.prog 23 = some Try.f23 := by kernel_rfl
theorem aFunc24 : aFunc Try.prog 24 = some Try.f24 := by kernel_rfl
theorem aFunc25 : aFunc Try.prog 25 = some Try.f25 := by kernel_rfl
theorem aFunc26 : aFunc Try.prog 26 = some Try.f26 := by kernel_rfl
theorem aFunc27 : aFunc Try.prog 27 = some Try.f27 := by kernel_rfl
theorem aFunc28 : aFunc Try.prog 28 = some Try.f28 := by kernel_rfl
theorem aFunc29 : aFunc Try.prog 29 = some Try.f29 := by kernel_rfl
theorem aFunc37 : aFunc Try.prog 37 = some Try.f37 := by kernel_rfl
theorem aFunc38 : aFunc Try.prog 38 = some Try.f38 := by kernel_rfl
theorem aFunc39 : aFunc Try.prog 39 = some Try.f39 := by kernel_rfl
theorem aFunc40 : aFunc Try.prog 40 = some Try.f40 := by kernel_rfl
theorem aFunc41 : aFunc Try.prog 41 = some Try.f41 := by kernel_rfl
theorem aFunc42 : aFunc Try.prog 42 = some Try.f42 := by kernel_rfl
theorem aFunc43 : aFunc Try.prog 43 = some Try.f43 := by kernel_rfl
theorem aFunc44 : aFunc Try.prog 44 = some Try.f44 := by kernel_rfl
theorem aFunc45 : aFunc Try.prog 45 = some Try.f45 := by kernel_rfl
theorem aFunc46 : aFunc Try.prog 46 = some Try.f46 := by kernel_rfl
theorem aFunc47 : aFunc Try.prog 47 = some Try.f47 := by kernel_rfl
theorem aFunc48 : aFunc Try.prog 48 = some Try.f48 := by kernel_rfl
theorem aFunc49 : aFunc Try.prog 49 = some Try.f49 := by kernel_rfl
theorem aFunc50 : aFunc Try.prog 50 = some Try.f50 := by kernel_rfl
theorem aFunc51 : aFunc Try.prog 51 = some Try.f51 := by kernel_rfl
theorem aFunc52 : aFunc Try.prog 52 = some Try.f52 := by kernel_rfl
theorem aFunc53 : aFunc Try.prog 53 = some Try.f53 := by kernel_rfl
theorem aFunc54 : aFunc Try.prog 54 = some Try.f54 := by kernel_rfl
theorem aFunc55 : aFunc Try.prog 55 = some Try.f55 := by kernel_rfl
theorem aFunc56 : aFunc Try.prog 56 = some Try.f56 := by kernel_rfl
theorem aFunc57 : aFunc Try.prog 57 = some Try.f57 := by kernel_rfl
theorem aFunc58 : aFunc Try.prog 58 = some Try.f58 := by kernel_rfl
theorem aFunc59 : aFunc Try.prog 59 = some Try.f59 := by kernel_rfl
theorem aFunc60 : aFunc Try.prog 60 = some Try.f60 := by kernel_rfl
theorem aFunc61 : aFunc Try.prog 61 = some Try.f61 := by kernel_rfl
theorem aFunc62 : aFunc Try.prog 62 = some Try.f62 := by kernel_rfl
theorem aFunc63 : aFunc Try.prog 63 = some Try.f63 := by kernel_rfl
theorem aFunc64 : aFunc Try.prog 64 = some Try.f64 := by kernel_rfl
theorem aFunc66 : aFunc Try.prog 66 = some Try.f66 := by kernel_rfl
theorem aFunc67 : aFunc Try.prog 67 = some Try.f67 := by kernel_rfl
theorem aFunc68 : aFunc Try.prog 68 = some Try.f68 := by kernel_rfl
theorem aFunc69 : aFunc Try.prog 69 = some Try.f69 := by kernel_rfl
theorem aFunc70 : aFunc Try.prog 70 = some Try.f70 := by kernel_rfl
theorem aFunc71 : aFunc Try.prog 71 = some Try.f71 := by kernel_rfl
theorem aFunc72 : aFunc Try.prog 72 = some Try.f72 := by kernel_rfl
theorem aFunc73 : aFunc Try.prog 73 = some Try.f73 := by kernel_rfl
theorem aFunc74 : aFunc Try.prog 74 = some Try.f74 := by kernel_rfl
theorem aFunc75 : aFunc Try.prog 75 = some Try.f75 := by kernel_rfl
theorem aFunc76 : aFunc Try.prog 76 = some Try.f76 := by kernel_rfl
theorem aFunc77 : aFunc Try.prog 77 = some Try.f77 := by kernel_rfl
theorem aFunc78 : aFunc Try.prog 78 = some Try.f78 := by kernel_rfl
theorem aFunc79 : aFunc Try.prog 79 = some Try.f79 := by kernel_rfl
theorem aFunc80 : aFunc Try.prog 80 = some Try.f80 := by kernel_rfl
theorem aFunc81 : aFunc Try.prog 81 = some Try.f81 := by kernel_rfl
theorem aFunc82 : aFunc Try.prog 82 = some Try.f82 := by kernel_rfl
theorem aFunc83 : aFunc Try.prog 83 = some Try.f83 := by kernel_rfl
theorem aFunc84 : aFunc Try.prog 84 = some Try.f84 := by kernel_rfl
theorem aFunc85 : aFunc Try.prog 85 = some Try.f85 := by kernel_rfl
theorem aFunc86 : aFunc Try.prog 86 = some Try.f86 := by kernel_rfl
theorem aFunc87 : aFunc Try.prog 87 = some Try.f87 := by kernel_rfl
theorem aFunc88 : aFunc Try.prog 88 = some Try.f88 := by kernel_rfl
theorem aFunc89 : aFunc Try.prog 89 = some Try.f89 := by kernel_rfl
theorem aFunc90 : aFunc Try.prog 90 = some Try.f90 := by kernel_rfl
theorem aFunc91 : aFunc Try.prog 91 = some Try.f91 := by kernel_rfl
theorem aFunc92 : aFunc Try.prog 92 = some Try.f92 := by kernel_rfl
theorem aFunc93 : aFunc Try.prog 93 = some Try.f93 := by kernel_rfl
theorem aFunc94 : aFunc Try.prog 94 = some Try.f94 := by kernel_rfl
theorem aFunc96 : aFunc Try.prog 96 = some Try.f96 := by kernel_rfl
theorem aFunc97 : aFunc Try.prog 97 = some Try.f97 := by kernel_rfl
theorem aFunc98 : aFunc Try.prog 98 = some Try.f98 := by kernel_rfl
theorem aFunc99 : aFunc Try.prog 99 = some Try.f99 := by kernel_rfl
theorem aFunc100 : aFunc Try.prog 100 = some Try.f100 := by kernel_rfl
theorem aFunc101 : aFunc Try.prog 101 = some Try.f101 := by kernel_rfl
theorem aFunc102 : aFunc Try.prog 102 = some Try.f102 := by kernel_rfl
theorem aFunc103 : aFunc Try.prog 103 = some Try.f103 := by kernel_rfl
theorem aFunc119 : aFunc Try.prog 119 = some Try.f119 := by kernel_rfl
theorem aFunc120 : aFunc Try.prog 120 = some Try.f120 := by kernel_rfl
theorem aFunc121 : aFunc Try.prog 121 = some Try.f121 := by kernel_rfl
end Go.Proofs.Ytkhiagdmbajimaa
