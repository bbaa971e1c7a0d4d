import Derived.Test.YtobhkdgcciolmaaGreatMAF
import Derived.Test.YtobhkdgcciolmaaGreatChecked
import Derived.KernelRfl
namespace Go.Proofs.YtobhkdgcciolmaaGreat
open Go Go.AbsE
variable {t : Tr AVal} {h : AH} {dst : Option Tmp} {tt : TypeId} {pos : String} {after : Array Edge} {guard : Option (Nat × Bool)} {x : Operand} {b off : Nat} {g : Kd} {cs l : List AVal} {el : TypeId} {v : AVal}
theorem ag2 : isAggT Tryz.prog 2 = some false := by kernel_rfl
theorem ag3 : isAggT Tryz.prog 3 = some false := by kernel_rfl
theorem sz3 : sizeT Tryz.prog 3 = some 1 := by kernel_rfl
theorem ag4 : isAggT Tryz.prog 4 = some false := by kernel_rfl
theorem sz4 : sizeT Tryz.prog 4 = some 1 := by kernel_rfl
theorem ag22 : isAggT Tryz.prog 22 = some false := by kernel_rfl
theorem sz22 : sizeT Tryz.prog 22 = some 1 := by kernel_rfl
theorem ag24 : isAggT Tryz.prog 24 = some true := by kernel_rfl
theorem sz24 : sizeT Tryz.prog 24 = some 2 := by kernel_rfl
theorem ag25 : isAggT Tryz.prog 25 = some false := by kernel_rfl
theorem sz25 : sizeT Tryz.prog 25 = some 1 := by kernel_rfl
theorem ag27 : isAggT Tryz.prog 27 = some true := by kernel_rfl
theorem sz27 : sizeT Tryz.prog 27 = some 4 := by kernel_rfl
theorem ag30 : isAggT Tryz.prog 30 = some false := by kernel_rfl
theorem sz30 : sizeT Tryz.prog 30 = some 1 := by kernel_rfl
theorem ag41 : isAggT Tryz.prog 41 = some false := by kernel_rfl
theorem ag42 : isAggT Tryz.prog 42 = some false := by kernel_rfl
theorem sz42 : sizeT Tryz.prog 42 = some 1 := by kernel_rfl
theorem ag53 : isAggT Tryz.prog 53 = some true := by kernel_rfl
theorem sz53 : sizeT Tryz.prog 53 = some 4 := by kernel_rfl
theorem ag58 : isAggT Tryz.prog 58 = some true := by kernel_rfl
theorem sz58 : sizeT Tryz.prog 58 = some 6 := by kernel_rfl
theorem ag61 : isAggT Tryz.prog 61 = some false := by kernel_rfl
theorem sz61 : sizeT Tryz.prog 61 = some 1 := by kernel_rfl
theorem ag71 : isAggT Tryz.prog 71 = some true := by kernel_rfl
theorem sz71 : sizeT Tryz.prog 71 = some 2 := by kernel_rfl
theorem ag72 : isAggT Tryz.prog 72 = some false := by kernel_rfl
theorem sz72 : sizeT Tryz.prog 72 = some 1 := by kernel_rfl
theorem ag74 : isAggT Tryz.prog 74 = some true := by kernel_rfl
theorem sz74 : sizeT Tryz.prog 74 = some 4 := by kernel_rfl
theorem ag77 : isAggT Tryz.prog 77 = some false := by kernel_rfl
theorem sz77 : sizeT Tryz.prog 77 = some 1 := by kernel_rfl
theorem sz112 : sizeT Tryz.prog 112 = some 4 := by kernel_rfl
theorem ag114 : isAggT Tryz.prog 114 = some true := by kernel_rfl
theorem sz114 : sizeT Tryz.prog 114 = some 5 := by kernel_rfl
theorem ag116 : isAggT Tryz.prog 116 = some true := by kernel_rfl
theorem sz116 : sizeT Tryz.prog 116 = some 8 := by kernel_rfl
theorem ag138 : isAggT Tryz.prog 138 = some false := by kernel_rfl
theorem sz138 : sizeT Tryz.prog 138 = some 1 := by kernel_rfl
theorem ag141 : isAggT Tryz.prog 141 = some false := by kernel_rfl
theorem ag142 : isAggT Tryz.prog 142 = some false := by kernel_rfl
theorem sz142 : sizeT Tryz.prog 142 = some 1 := by kernel_rfl
theorem ag150 : isAggT Tryz.prog 150 = some true := by kernel_rfl
theorem sz150 : sizeT Tryz.prog 150 = some 3 := by kernel_rfl
theorem sz152 : sizeT Tryz.prog 152 = some 3 := by kernel_rfl
theorem fa24_0 (hx : ev t x = some (.ptr b off)) : aOp Tryz.prog t h ⟨dst, .fieldAddr 24 x 0, tt, pos, after, guard⟩ = some (.val (.ptr b (off + 0)) h) := by
 have := aOp_fieldAddr (P := Tryz.prog) (h := h) (dst := dst) (tt := tt) (pos := pos) (after := after) (guard := guard) (f := 0) Tryz.underlying24 rfl (n := 1) sz3 rfl hx
 exact this
theorem fd24_0 (hx : ev t x = some (.agg cs)) (hv : cs[0]? = some v) : aOp Tryz.prog t h ⟨dst, .field 24 x 0, tt, pos, after, guard⟩ = some (.val v h) := by
 have := aOp_field (P := Tryz.prog) (h := h) (dst := dst) (tt := tt) (pos := pos) (after := after) (guard := guard) (f := 0) Tryz.underlying24 rfl hx (partT_one ag3 hv)
 exact this
theorem fa24_1 (hx : ev t x = some (.ptr b off)) : aOp Tryz.prog t h ⟨dst, .fieldAddr 24 x 1, tt, pos, after, guard⟩ = some (.val (.ptr b (off + 1)) h) := by
 have := aOp_fieldAddr (P := Tryz.prog) (h := h) (dst := dst) (tt := tt) (pos := pos) (after := after) (guard := guard) (f := 1) Tryz.underlying24 rfl (n := 1) sz3 rfl hx
 exact this
theorem fa27_0 (hx : ev t x = some (.ptr b off)) : aOp Tryz.prog t h ⟨dst, .fieldAddr 27 x 0, tt, pos, after, guard⟩ = some (.val (.ptr b (off + 0)) h) := by
 have := aOp_fieldAddr (P := Tryz.prog) (h := h) (dst := dst) (tt := tt) (pos := pos) (after := after) (guard := guard) (f := 0) Tryz.underlying27 rfl (n := 1) sz22 rfl hx
 exact this
theorem fa27_1 (hx : ev t x = some (.ptr b off)) : aOp Tryz.prog t h ⟨dst, .fieldAddr 27 x 1, tt, pos, after, guard⟩ = some (.val (.ptr b (off + 1)) h) := by
 have := aOp_fieldAddr (P := Tryz.prog) (h := h) (dst := dst) (tt := tt) (pos := pos) (after := after) (guard := guard) (f := 1) Tryz.underlying27 rfl (n := 2) sz24 rfl hx
 exact this
theorem fa27_2 (hx : ev t x = some (.ptr b off)) : aOp Tryz.prog t h ⟨dst, .fieldAddr 27 x 2, tt, pos, after, guard⟩ = some (.val (.ptr b (off + 3)) h) := by
 have := aOp_fieldAddr (P := Tryz.prog) (h := h) (dst := dst) (tt := tt) (pos := pos) (after := after) (guard := guard) (f := 2) Tryz.underlying27 rfl (n := 1) sz25 rfl hx
 exact this
theorem fa53_0 (hx : ev t x = some (.ptr b off)) : aOp Tryz.prog t h ⟨dst, .fieldAddr 53 x 0, tt, pos, after, guard⟩ = some (.val (.ptr b (off + 0)) h) := by
 have := aOp_fieldAddr (P := Tryz.prog) (h := h) (dst := dst) (tt := tt) (pos := pos) (after := after) (guard := guard) (f := 0) Tryz.underlying53 rfl (n := 1) sz3 rfl hx
 exact this
theorem fa53_1 (hx : ev t x = some (.ptr b off)) : aOp Tryz.prog t h ⟨dst, .fieldAddr 53 x 1, tt, pos, after, guard⟩ = some (.val (.ptr b (off + 1)) h) := by
 have := aOp_fieldAddr (P := Tryz.prog) (h := h) (dst := dst) (tt := tt) (pos := pos) (after := after) (guard := guard) (f := 1) Tryz.underlying53 rfl (n := 1) sz3 rfl hx
 exact this
theorem fa53_2 (hx : ev t x = some (.ptr b off)) : aOp Tryz.prog t h ⟨dst, .fieldAddr 53 x 2, tt, pos, after, guard⟩ = some (.val (.ptr b (off + 2)) h) := by
 have := aOp_fieldAddr (P := Tryz.prog) (h := h) (dst := dst) (tt := tt) (pos := pos) (after := after) (guard := guard) (f := 2) Tryz.underlying53 rfl (n := 2) sz24 rfl hx
 exact this
theorem fa58_0 (hx : ev t x = some (.ptr b off)) : aOp Tryz.prog t h ⟨dst, .fieldAddr 58 x 0, tt, pos, after, guard⟩ = some (.val (.ptr b (off + 0)) h) := by
 have := aOp_fieldAddr (P := Tryz.prog) (h := h) (dst := dst) (tt := tt) (pos := pos) (after := after) (guard := guard) (f := 0) Tryz.underlying58 rfl (n := 2) sz24 rfl hx
 exact this
theorem fa58_1 (hx : ev t x = some (.ptr b off)) : aOp Tryz.prog t h ⟨dst, .fieldAddr 58 x 1, tt, pos, after, guard⟩ = some (.val (.ptr b (off + 2)) h) := by
 have := aOp_fieldAddr (P := Tryz.prog) (h := h) (dst := dst) (tt := tt) (pos := pos) (after := after) (guard := guard) (f := 1) Tryz.underlying58 rfl (n := 2) sz24 rfl hx
 exact this
theorem fa58_2 (hx : ev t x = some (.ptr b off)) : aOp Tryz.prog t h ⟨dst, .fieldAddr 58 x 2, tt, pos, after, guard⟩ = some (.val (.ptr b (off + 4)) h) := by
 have := aOp_fieldAddr (P := Tryz.prog) (h := h) (dst := dst) (tt := tt) (pos := pos) (after := after) (guard := guard) (f := 2) Tryz.underlying58 rfl (n := 2) sz24 rfl hx
 exact this
theorem fa71_0 (hx : ev t x = some (.ptr b off)) : aOp Tryz.prog t h ⟨dst, .fieldAddr 71 x 0, tt, pos, after, guard⟩ = some (.val (.ptr b (off + 0)) h) := by
 have := aOp_fieldAddr (P := Tryz.prog) (h := h) (dst := dst) (tt := tt) (pos := pos) (after := after) (guard := guard) (f := 0) Tryz.underlying71 rfl (n := 2) sz24 rfl hx
 exact this
theorem fd71_0 (hx : ev t x = some (.agg cs)) (hv : slice? cs 0 2 = some l) : aOp Tryz.prog t h ⟨dst, .field 71 x 0, tt, pos, after, guard⟩ = some (.val (.agg l) h) := by
 have := aOp_field (P := Tryz.prog) (h := h) (dst := dst) (tt := tt) (pos := pos) (after := after) (guard := guard) (f := 0) Tryz.underlying71 rfl hx (partT_agg ag24 sz24 hv)
 exact this
theorem fa74_0 (hx : ev t x = some (.ptr b off)) : aOp Tryz.prog t h ⟨dst, .fieldAddr 74 x 0, tt, pos, after, guard⟩ = some (.val (.ptr b (off + 0)) h) := by
 have := aOp_fieldAddr (P := Tryz.prog) (h := h) (dst := dst) (tt := tt) (pos := pos) (after := after) (guard := guard) (f := 0) Tryz.underlying74 rfl (n := 1) sz22 rfl hx
 exact this
theorem fa74_1 (hx : ev t x = some (.ptr b off)) : aOp Tryz.prog t h ⟨dst, .fieldAddr 74 x 1, tt, pos, after, guard⟩ = some (.val (.ptr b (off + 1)) h) := by
 have := aOp_fieldAddr (P := Tryz.prog) (h := h) (dst := dst) (tt := tt) (pos := pos) (after := after) (guard := guard) (f := 1) Tryz.underlying74 rfl (n := 2) sz71 rfl hx
 exact this
theorem fa74_2 (hx : ev t x = some (.ptr b off)) : aOp Tryz.prog t h ⟨dst, .fieldAddr 74 x 2, tt, pos, after, guard⟩ = some (.val (.ptr b (off + 3)) h) := by
 have := aOp_fieldAddr (P := Tryz.prog) (h := h) (dst := dst) (tt := tt) (pos := pos) (after := after) (guard := guard) (f := 2) Tryz.underlying74 rfl (n := 1) sz72 rfl hx
 exact this
theorem fa114_0 (hx : ev t x = some (.ptr b off)) : aOp Tryz.prog t h ⟨dst, .fieldAddr 114 x 0, tt, pos, after, guard⟩ = some (.val (.ptr b (off + 0)) h) := by
 have := aOp_fieldAddr (P := Tryz.prog) (h := h) (dst := dst) (tt := tt) (pos := pos) (after := after) (guard := guard) (f := 0) Tryz.underlying114 rfl (n := 4) sz112 rfl hx
 exact this
theorem fa114_1 (hx : ev t x = some (.ptr b off)) : aOp Tryz.prog t h ⟨dst, .fieldAddr 114 x 1, tt, pos, after, guard⟩ = some (.val (.ptr b (off + 4)) h) := by
 have := aOp_fieldAddr (P := Tryz.prog) (h := h) (dst := dst) (tt := tt) (pos := pos) (after := after) (guard := guard) (f := 1) Tryz.underlying114 rfl (n := 1) sz3 rfl hx
 exact this
theorem fa129_0 (hx : ev t x = some (.ptr b off)) : aOp Tryz.prog t h ⟨dst, .fieldAddr 129 x 0, tt, pos, after, guard⟩ = some (.val (.ptr b (off + 0)) h) := by
 have := aOp_fieldAddr (P := Tryz.prog) (h := h) (dst := dst) (tt := tt) (pos := pos) (after := after) (guard := guard) (f := 0) Tryz.underlying129 rfl (n := 1) sz61 rfl hx
 exact this
theorem fa150_0 (hx : ev t x = some (.ptr b off)) : aOp Tryz.prog t h ⟨dst, .fieldAddr 150 x 0, tt, pos, after, guard⟩ = some (.val (.ptr b (off + 0)) h) := by
 have := aOp_fieldAddr (P := Tryz.prog) (h := h) (dst := dst) (tt := tt) (pos := pos) (after := after) (guard := guard) (f := 0) Tryz.underlying150 rfl (n := 2) sz71 rfl hx
 exact this
theorem fa150_1 (hx : ev t x = some (.ptr b off)) : aOp Tryz.prog t h ⟨dst, .fieldAddr 150 x 1, tt, pos, after, guard⟩ = some (.val (.ptr b (off + 2)) h) := by
 have := aOp_fieldAddr (P := Tryz.prog) (h := h) (dst := dst) (tt := tt) (pos := pos) (after := after) (guard := guard) (f := 1) Tryz.underlying150 rfl (n := 1) sz3 rfl hx
 exact this
theorem fa152_0 (hx : ev t x = some (.ptr b off)) : aOp Tryz.prog t h ⟨dst, .fieldAddr 152 x 0, tt, pos, after, guard⟩ = some (.val (.ptr b (off + 0)) h) := by
 have := aOp_fieldAddr (P := Tryz.prog) (h := h) (dst := dst) (tt := tt) (pos := pos) (after := after) (guard := guard) (f := 0) Tryz.underlying152 rfl (n := 3) sz150 rfl hx
 exact this
theorem fa160_0 (hx : ev t x = some (.ptr b off)) : aOp Tryz.prog t h ⟨dst, .fieldAddr 160 x 0, tt, pos, after, guard⟩ = some (.val (.ptr b (off + 0)) h) := by
 have := aOp_fieldAddr (P := Tryz.prog) (h := h) (dst := dst) (tt := tt) (pos := pos) (after := after) (guard := guard) (f := 0) Tryz.underlying160 rfl (n := 3) sz150 rfl hx
 exact this
theorem ld3 (hx : ev t x = some (.ptr b off)) (hb : Has h b (.cells g cs el)) (hv : cs[off]? = some v) : aOp Tryz.prog t h ⟨dst, .load 3 x, tt, pos, after, guard⟩ = some (.val v h) := aOp_load1 ag3 hx hb hv
theorem ld22 (hx : ev t x = some (.ptr b off)) (hb : Has h b (.cells g cs el)) (hv : cs[off]? = some v) : aOp Tryz.prog t h ⟨dst, .load 22 x, tt, pos, after, guard⟩ = some (.val v h) := aOp_load1 ag22 hx hb hv
theorem ld24 (hx : ev t x = some (.ptr b off)) (hb : Has h b (.cells g cs el)) (hv : slice? cs off 2 = some l) : aOp Tryz.prog t h ⟨dst, .load 24 x, tt, pos, after, guard⟩ = some (.val (.agg l) h) := aOp_loadN ag24 sz24 hx hb hv
theorem ld25 (hx : ev t x = some (.ptr b off)) (hb : Has h b (.cells g cs el)) (hv : cs[off]? = some v) : aOp Tryz.prog t h ⟨dst, .load 25 x, tt, pos, after, guard⟩ = some (.val v h) := aOp_load1 ag25 hx hb hv
theorem ld27 (hx : ev t x = some (.ptr b off)) (hb : Has h b (.cells g cs el)) (hv : slice? cs off 4 = some l) : aOp Tryz.prog t h ⟨dst, .load 27 x, tt, pos, after, guard⟩ = some (.val (.agg l) h) := aOp_loadN ag27 sz27 hx hb hv
theorem ld41 (hx : ev t x = some (.ptr b off)) (hb : Has h b (.cells g cs el)) (hv : cs[off]? = some v) : aOp Tryz.prog t h ⟨dst, .load 41 x, tt, pos, after, guard⟩ = some (.val v h) := aOp_load1 ag41 hx hb hv
theorem ld53 (hx : ev t x = some (.ptr b off)) (hb : Has h b (.cells g cs el)) (hv : slice? cs off 4 = some l) : aOp Tryz.prog t h ⟨dst, .load 53 x, tt, pos, after, guard⟩ = some (.val (.agg l) h) := aOp_loadN ag53 sz53 hx hb hv
theorem ld58 (hx : ev t x = some (.ptr b off)) (hb : Has h b (.cells g cs el)) (hv : slice? cs off 6 = some l) : aOp Tryz.prog t h ⟨dst, .load 58 x, tt, pos, after, guard⟩ = some (.val (.agg l) h) := aOp_loadN ag58 sz58 hx hb hv
theorem ld61 (hx : ev t x = some (.ptr b off)) (hb : Has h b (.cells g cs el)) (hv : cs[off]? = some v) : aOp Tryz.prog t h ⟨dst, .load 61 x, tt, pos, after, guard⟩ = some (.val v h) := aOp_load1 ag61 hx hb hv
theorem ld71 (hx : ev t x = some (.ptr b off)) (hb : Has h b (.cells g cs el)) (hv : slice? cs off 2 = some l) : aOp Tryz.prog t h ⟨dst, .load 71 x, tt, pos, after, guard⟩ = some (.val (.agg l) h) := aOp_loadN ag71 sz71 hx hb hv
theorem ld72 (hx : ev t x = some (.ptr b off)) (hb : Has h b (.cells g cs el)) (hv : cs[off]? = some v) : aOp Tryz.prog t h ⟨dst, .load 72 x, tt, pos, after, guard⟩ = some (.val v h) := aOp_load1 ag72 hx hb hv
theorem ld74 (hx : ev t x = some (.ptr b off)) (hb : Has h b (.cells g cs el)) (hv : slice? cs off 4 = some l) : aOp Tryz.prog t h ⟨dst, .load 74 x, tt, pos, after, guard⟩ = some (.val (.agg l) h) := aOp_loadN ag74 sz74 hx hb hv
theorem ld77 (hx : ev t x = some (.ptr b off)) (hb : Has h b (.cells g cs el)) (hv : cs[off]? = some v) : aOp Tryz.prog t h ⟨dst, .load 77 x, tt, pos, after, guard⟩ = some (.val v h) := aOp_load1 ag77 hx hb hv
theorem ld114 (hx : ev t x = some (.ptr b off)) (hb : Has h b (.cells g cs el)) (hv : slice? cs off 5 = some l) : aOp Tryz.prog t h ⟨dst, .load 114 x, tt, pos, after, guard⟩ = some (.val (.agg l) h) := aOp_loadN ag114 sz114 hx hb hv
theorem ld116 (hx : ev t x = some (.ptr b off)) (hb : Has h b (.cells g cs el)) (hv : slice? cs off 8 = some l) : aOp Tryz.prog t h ⟨dst, .load 116 x, tt, pos, after, guard⟩ = some (.val (.agg l) h) := aOp_loadN ag116 sz116 hx hb hv
theorem ld141 (hx : ev t x = some (.ptr b off)) (hb : Has h b (.cells g cs el)) (hv : cs[off]? = some v) : aOp Tryz.prog t h ⟨dst, .load 141 x, tt, pos, after, guard⟩ = some (.val v h) := aOp_load1 ag141 hx hb hv
theorem ld142 (hx : ev t x = some (.ptr b off)) (hb : Has h b (.cells g cs el)) (hv : cs[off]? = some v) : aOp Tryz.prog t h ⟨dst, .load 142 x, tt, pos, after, guard⟩ = some (.val v h) := aOp_load1 ag142 hx hb hv
theorem ld150 (hx : ev t x = some (.ptr b off)) (hb : Has h b (.cells g cs el)) (hv : slice? cs off 3 = some l) : aOp Tryz.prog t h ⟨dst, .load 150 x, tt, pos, after, guard⟩ = some (.val (.agg l) h) := aOp_loadN ag150 sz150 hx hb hv
theorem by3 : bytesT Tryz.prog 3 = some 8 := by kernel_rfl
theorem by53 : bytesT Tryz.prog 53 = some 32 := by kernel_rfl
theorem by138 : bytesT Tryz.prog 138 = some 16 := by kernel_rfl
theorem flds24 : ∃ fs, Tryz.prog.underlying 24 = some (.struct fs) ∧ placesT Tryz.prog fs.toList = some [(0, 1), (1, 1)] := ⟨_, Tryz.underlying24, by kernel_rfl⟩
noncomputable def fs24 : Array Field := flds24.choose
theorem hu24 : Tryz.prog.underlying 24 = some (.struct fs24) := flds24.choose_spec.1
theorem pl24 : placesT Tryz.prog fs24.toList = some [(0, 1), (1, 1)] := flds24.choose_spec.2
theorem flds27 : ∃ fs, Tryz.prog.underlying 27 = some (.struct fs) ∧ placesT Tryz.prog fs.toList = some [(0, 1), (1, 2), (3, 1)] := ⟨_, Tryz.underlying27, by kernel_rfl⟩
noncomputable def fs27 : Array Field := flds27.choose
theorem hu27 : Tryz.prog.underlying 27 = some (.struct fs27) := flds27.choose_spec.1
theorem pl27 : placesT Tryz.prog fs27.toList = some [(0, 1), (1, 2), (3, 1)] := flds27.choose_spec.2
theorem flds53 : ∃ fs, Tryz.prog.underlying 53 = some (.struct fs) ∧ placesT Tryz.prog fs.toList = some [(0, 1), (1, 1), (2, 2)] := ⟨_, Tryz.underlying53, by kernel_rfl⟩
noncomputable def fs53 : Array Field := flds53.choose
theorem hu53 : Tryz.prog.underlying 53 = some (.struct fs53) := flds53.choose_spec.1
theorem pl53 : placesT Tryz.prog fs53.toList = some [(0, 1), (1, 1), (2, 2)] := flds53.choose_spec.2
theorem flds58 : ∃ fs, Tryz.prog.underlying 58 = some (.struct fs) ∧ placesT Tryz.prog fs.toList = some [(0, 2), (2, 2), (4, 2)] := ⟨_, Tryz.underlying58, by kernel_rfl⟩
noncomputable def fs58 : Array Field := flds58.choose
theorem hu58 : Tryz.prog.underlying 58 = some (.struct fs58) := flds58.choose_spec.1
theorem pl58 : placesT Tryz.prog fs58.toList = some [(0, 2), (2, 2), (4, 2)] := flds58.choose_spec.2
theorem flds71 : ∃ fs, Tryz.prog.underlying 71 = some (.struct fs) ∧ placesT Tryz.prog fs.toList = some [(0, 2)] := ⟨_, Tryz.underlying71, by kernel_rfl⟩
noncomputable def fs71 : Array Field := flds71.choose
theorem hu71 : Tryz.prog.underlying 71 = some (.struct fs71) := flds71.choose_spec.1
theorem pl71 : placesT Tryz.prog fs71.toList = some [(0, 2)] := flds71.choose_spec.2
theorem flds74 : ∃ fs, Tryz.prog.underlying 74 = some (.struct fs) ∧ placesT Tryz.prog fs.toList = some [(0, 1), (1, 2), (3, 1)] := ⟨_, Tryz.underlying74, by kernel_rfl⟩
noncomputable def fs74 : Array Field := flds74.choose
theorem hu74 : Tryz.prog.underlying 74 = some (.struct fs74) := flds74.choose_spec.1
theorem pl74 : placesT Tryz.prog fs74.toList = some [(0, 1), (1, 2), (3, 1)] := flds74.choose_spec.2
theorem flds114 : ∃ fs, Tryz.prog.underlying 114 = some (.struct fs) ∧ placesT Tryz.prog fs.toList = some [(0, 4), (4, 1)] := ⟨_, Tryz.underlying114, by kernel_rfl⟩
noncomputable def fs114 : Array Field := flds114.choose
theorem hu114 : Tryz.prog.underlying 114 = some (.struct fs114) := flds114.choose_spec.1
theorem pl114 : placesT Tryz.prog fs114.toList = some [(0, 4), (4, 1)] := flds114.choose_spec.2
theorem flds129 : ∃ fs, Tryz.prog.underlying 129 = some (.struct fs) ∧ placesT Tryz.prog fs.toList = some [(0, 1)] := ⟨_, Tryz.underlying129, by kernel_rfl⟩
noncomputable def fs129 : Array Field := flds129.choose
theorem hu129 : Tryz.prog.underlying 129 = some (.struct fs129) := flds129.choose_spec.1
theorem pl129 : placesT Tryz.prog fs129.toList = some [(0, 1)] := flds129.choose_spec.2
theorem flds150 : ∃ fs, Tryz.prog.underlying 150 = some (.struct fs) ∧ placesT Tryz.prog fs.toList = some [(0, 2), (2, 1)] := ⟨_, Tryz.underlying150, by kernel_rfl⟩
noncomputable def fs150 : Array Field := flds150.choose
theorem hu150 : Tryz.prog.underlying 150 = some (.struct fs150) := flds150.choose_spec.1
theorem pl150 : placesT Tryz.prog fs150.toList = some [(0, 2), (2, 1)] := flds150.choose_spec.2
theorem flds152 : ∃ fs, Tryz.prog.underlying 152 = some (.struct fs) ∧ placesT Tryz.prog fs.toList = some [(0, 3)] := ⟨_, Tryz.underlying152, by kernel_rfl⟩
noncomputable def fs152 : Array Field := flds152.choose
theorem hu152 : Tryz.prog.underlying 152 = some (.struct fs152) := flds152.choose_spec.1
theorem pl152 : placesT Tryz.prog fs152.toList = some [(0, 3)] := flds152.choose_spec.2
theorem flds160 : ∃ fs, Tryz.prog.underlying 160 = some (.struct fs) ∧ placesT Tryz.prog fs.toList = some [(0, 3)] := ⟨_, Tryz.underlying160, by kernel_rfl⟩
noncomputable def fs160 : Array Field := flds160.choose
theorem hu160 : Tryz.prog.underlying 160 = some (.struct fs160) := flds160.choose_spec.1
theorem pl160 : placesT Tryz.prog fs160.toList = some [(0, 3)] := flds160.choose_spec.2
theorem zt3 : zeroT Tryz.prog 3 = some (.int .i64 0) := by kernel_rfl
theorem zt4 : zeroT Tryz.prog 4 = some (.bool false) := by kernel_rfl
theorem zt24 : zeroT Tryz.prog 24 = some (.agg [.int .i64 0, .int .i64 0]) := by kernel_rfl
theorem zt27 : zeroT Tryz.prog 27 = some (.agg [.nilslice, .int .i64 0, .int .i64 0, .nilslice]) := by kernel_rfl
theorem zt30 : zeroT Tryz.prog 30 = some (.int .i64 0) := by kernel_rfl
theorem zt53 : zeroT Tryz.prog 53 = some (.agg [.int .i64 0, .int .i64 0, .int .i64 0, .int .i64 0]) := by kernel_rfl
theorem zt58 : zeroT Tryz.prog 58 = some (.agg [.int .i64 0, .int .i64 0, .int .i64 0, .int .i64 0, .int .i64 0, .int .i64 0]) := by kernel_rfl
theorem zt71 : zeroT Tryz.prog 71 = some (.agg [.int .i64 0, .int .i64 0]) := by kernel_rfl
theorem zt74 : zeroT Tryz.prog 74 = some (.agg [.nilslice, .int .i64 0, .int .i64 0, .nilslice]) := by kernel_rfl
theorem zt77 : zeroT Tryz.prog 77 = some .nilmap := by kernel_rfl
theorem zt114 : zeroT Tryz.prog 114 = some (.agg [.int .i64 0, .int .i64 0, .int .i64 0, .int .i64 0, .int .i64 0]) := by kernel_rfl
theorem zt116 : zeroT Tryz.prog 116 = some (.agg [.int .i64 0, .int .i64 0, .int .i64 0, .int .i64 0, .int .i64 0, .int .i64 0, .int .i64 0, .int .i64 0]) := by kernel_rfl
theorem zt129 : zeroT Tryz.prog 129 = some (.agg [.nilfunc]) := by kernel_rfl
theorem zt138 : zeroT Tryz.prog 138 = some .nilIface := by kernel_rfl
theorem zt142 : zeroT Tryz.prog 142 = some .nilfunc := by kernel_rfl
theorem zt150 : zeroT Tryz.prog 150 = some (.agg [.int .i64 0, .int .i64 0, .int .i64 0]) := by kernel_rfl
theorem zt152 : zeroT Tryz.prog 152 = some (.agg [.int .i64 0, .int .i64 0, .int .i64 0]) := by kernel_rfl
theorem zt160 : zeroT Tryz.prog 160 = some (.agg [.int .i64 0, .int .i64 0, .int .i64 0]) := by kernel_rfl
theorem aFunc5 : aFunc Tryz.prog 5 = some Tryz.f5 := by kernel_rfl
theorem aFunc12 : aFunc Tryz.prog 12 = some Tryz.f12 := by kernel_rfl
theorem aFunc13 : aFunc Tryz.prog 13 = some Tryz.f13 := by kernel_rfl
theorem aFunc15 : aFunc Tryz.prog 15 = some Tryz.f15 := by kernel_rfl
theorem aFunc17 : aFunc Tryz.prog 17 = some Tryz.f17 := by kernel_rfl
theorem aFunc19 : aFunc Tryz.prog 19 = some Tryz.f19 := by kernel_rfl
theorem aFunc21 : aFunc Tryz.prog 21 = some Tryz.f21 := by kernel_rfl
theorem aFunc23 : aFunc Tryz.prog 23 = some Tryz.f23 := by kernel_rfl
theorem aFunc25 : aFunc Tryz.prog 25 = some Tryz.f25 := by kernel_rfl
theorem aFunc27 : aFunc Tryz.prog 27 = some Tryz.f27 := by kernel_rfl
theorem aFunc29 : aFunc Tryz.prog 29 = some Tryz.f29 := by kernel_rfl
theorem aFunc30 : aFunc Tryz.prog 30 = some Tryz.f30 := by kernel_rfl
theorem aFunc31 : aFunc Tryz.prog 31 = some Tryz.f31 := by kernel_rfl
theorem aFunc32 : aFunc Tryz.prog 32 = some Tryz.f32 := by kernel_rfl
theorem aFunc33 : aFunc Tryz.prog 33 = some Tryz.f33 := by kernel_rfl
theorem aFunc35 : aFunc Tryz.prog 35 = some Tryz.f35 := by kernel_rfl
theorem aFunc36 : aFunc Tryz.prog 36 = some Tryz.f36 := by kernel_rfl
theorem aFunc41 : aFunc Tryz.prog 41 = some Tryz.f41 := by kernel_rfl
theorem aFunc42 : aFunc Tryz.prog 42 = some Tryz.f42 := by kernel_rfl
theorem aFunc43 : aFunc Tryz.prog 43 = some Tryz.f43 := by kernel_rfl
theorem aFunc44 : aFunc Tryz.prog 44 = some Tryz.f44 := by kernel_rfl
theorem aFunc45 : aFunc Tryz.prog 45 = some Tryz.f45 := by kernel_rfl
theorem aFunc46 : aFunc Tryz.prog 46 = some Tryz.f46 := by kernel_rfl
theorem aFunc47 : aFunc Tryz.prog 47 = some Tryz.f47 := by kernel_rfl
theorem aFunc48 : aFunc Tryz.prog 48 = some Tryz.f48 := by kernel_rfl
theorem aFunc49 : aFunc Tryz.prog 49 = some Tryz.f49 := by kernel_rfl
theorem aFunc51 : aFunc Tryz.prog 51 = some Tryz.f51 := by kernel_rfl
theorem aFunc53 : aFunc Tryz.prog 53 = some Tryz.f53 := by kernel_rfl
theorem aFunc54 : aFunc Tryz.prog 54 = some Tryz.f54 := by kernel_rfl
theorem aFunc56 : aFunc Tryz.prog 56 = some Tryz.f56 := by kernel_rfl
theorem aFunc57 : aFunc Tryz.prog 57 = some Tryz.f57 := by kernel_rfl
theorem aFunc58 : aFunc Tryz.prog 58 = some Tryz.f58 := by kernel_rfl
theorem aFunc59 : aFunc Tryz.prog 59 = some Tryz.f59 := by kernel_rfl
theorem aFunc60 : aFunc Tryz.prog 60 = some Tryz.f60 := by kernel_rfl
theorem aFunc63 : aFunc Tryz.prog 63 = some Tryz.f63 := by kernel_rfl
theorem aFunc64 : aFunc Tryz.prog 64 = some Tryz.f64 := by kernel_rfl
theorem aFunc65 : aFunc Tryz.prog 65 = some Tryz.f65 := by kernel_rfl
theorem aFunc68 : aFunc Tryz.prog 68 = some Tryz.f68 := by kernel_rfl
theorem aFunc69 : aFunc Tryz.prog 69 = some Tryz.f69 := by kernel_rfl
theorem aFunc70 : aFunc Tryz.prog 70 = some Tryz.f70 := by kernel_rfl
theorem aFunc71 : aFunc Tryz.prog 71 = some Tryz.f71 := by kernel_rfl
theorem aFunc72 : aFunc Tryz.prog 72 = some Tryz.f72 := by kernel_rfl
theorem aFunc73 : aFunc Tryz.prog 73 = some Tryz.f73 := by kernel_rfl
theorem aFunc79 : aFunc Tryz.prog 79 = some Tryz.f79 := by kernel_rfl
theorem aFunc80 : aFunc Tryz.prog 80 = some Tryz.f80 := by kernel_rfl
theorem aFunc81 : aFunc Tryz.prog 81 = some Tryz.f81 := by kernel_rfl
theorem aFunc82 : aFunc Tryz.prog 82 = some Tryz.f82 := by kernel_rfl
theorem aFunc83 : aFunc Tryz.prog 83 = some Tryz.f83 := by kernel_rfl
theorem aFunc84 : aFunc Tryz.prog 84 = some Tryz.f84 := by kernel_rfl
theorem aFunc85 : aFunc Tryz.prog 85 = some Tryz.f85 := by kernel_rfl
theorem aFunc86 : aFunc Tryz.prog 86 = some Tryz.f86 := by kernel_rfl
theorem aFunc87 : aFunc Tryz.prog 87 = some Tryz.f87 := by kernel_rfl
theorem aFunc88 : aFunc Tryz.prog 88 = some Tryz.f88 := by kernel_rfl
theorem aFunc89 : aFunc Tryz.prog 89 = some Tryz.f89 := by kernel_rfl
theorem aFunc90 : aFunc Tryz.prog 90 = some Tryz.f90 := by kernel_rfl
theorem aFunc91 : aFunc Tryz.prog 91 = some Tryz.f91 := by kernel_rfl
theorem aFunc92 : aFunc Tryz.prog 92 = some Tryz.f92 := by kernel_rfl
theorem aFunc93 : aFunc Tryz.prog 93 = some Tryz.f93 := by kernel_rfl
theorem aFunc94 : aFunc Tryz.prog 94 = some Tryz.f94 := by kernel_rfl
theorem aFunc95 : aFunc Tryz.prog 95 = some Tryz.f95 := by kernel_rfl
theorem aFunc96 : aFunc Tryz.prog 96 = some Tryz.f96 := by kernel_rfl
theorem aFunc97 : aFunc Tryz.prog 97 = some Tryz.f97 := by kernel_rfl
theorem aFunc98 : aFunc Tryz.prog 98 = some Tryz.f98 := by kernel_rfl
theorem aFunc99 : aFunc Tryz.prog 99 = some Tryz.f99 := by kernel_rfl
theorem aFunc100 : aFunc Tryz.prog 100 = some Tryz.f100 := by kernel_rfl
theorem aFunc101 : aFunc Tryz.prog 101 = some Tryz.f101 := by kernel_rfl
theorem aFunc102 : aFunc Tryz.prog 102 = some Tryz.f102 := by kernel_rfl
theorem aFunc103 : aFunc Tryz.prog 103 = some Tryz.f103 := by kernel_rfl
theorem aFunc104 : aFunc Tryz.prog 104 = some Tryz.f104 := by kernel_rfl
theorem aFunc105 : aFunc Tryz.prog 105 = some Tryz.f105 := by kernel_rfl
theorem aFunc106 : aFunc Tryz.prog 106 = some Tryz.f106 := by kernel_rfl
theorem aFunc107 : aFunc Tryz.prog 107 = some Tryz.f107 := by kernel_rfl
theorem aFunc108 : aFunc Tryz.prog 108 = some Tryz.f108 := by kernel_rfl
theorem aFunc109 : aFunc Tryz.prog 109 = some Tryz.f109 := by kernel_rfl
theorem aFunc110 : aFunc Tryz.prog 110 = some Tryz.f110 := by kernel_rfl
theorem aFunc112 : aFunc Tryz.prog 112 = some Tryz.f112 := by kernel_rfl
theorem aFunc113 : aFunc Tryz.prog 113 = some Tryz.f113 := by kernel_rfl
theorem aFunc114 : aFunc Tryz.prog 114 = some Tryz.f114 := by kernel_rfl
theorem aFunc115 : aFunc Tryz.prog 115 = some Tryz.f115 := by kernel_rfl
theorem aFunc116 : aFunc Tryz.prog 116 = some Tryz.f116 := by kernel_rfl
theorem aFunc117 : aFunc Tryz.prog 117 = some Tryz.f117 := by kernel_rfl
theorem aFunc118 : aFunc Tryz.prog 118 = some Tryz.f118 := by kernel_rfl
theorem aFunc119 : aFunc Tryz.prog 119 = some Tryz.f119 := by kernel_rfl
theorem aFunc120 : aFunc Tryz.prog 120 = some Tryz.f120 := by kernel_rfl
theorem aFunc121 : aFunc Tryz.prog 121 = some Tryz.f121 := by kernel_rfl
theorem aFunc122 : aFunc Tryz.prog 122 = some Tryz.f122 := by kernel_rfl
theorem aFunc123 : aFunc Tryz.prog 123 = some Tryz.f123 := by kernel_rfl
theorem aFunc124 : aFunc Tryz.prog 124 = some Tryz.f124 := by kernel_rfl
theorem aFunc125 : aFunc Tryz.prog 125 = some Tryz.f125 := by kernel_rfl
theorem aFunc126 : aFunc Tryz.prog 126 = some Tryz.f126 := by kernel_rfl
theorem aFunc127 : aFunc Tryz.prog 127 = some Tryz.f127 := by kernel_rfl
theorem aFunc128 : aFunc Tryz.prog 128 = some Tryz.f128 := by kernel_rfl
theorem aFunc129 : aFunc Tryz.prog 129 = some Tryz.f129 := by kernel_rfl
theorem aFunc130 : aFunc Tryz.prog 130 = some Tryz.f130 := by kernel_rfl
theorem aFunc131 : aFunc Tryz.prog 131 = some Tryz.f131 := by kernel_rfl
theorem aFunc133 : aFunc Tryz.prog 133 = some Tryz.f133 := by kernel_rfl
theorem aFunc134 : aFunc Tryz.prog 134 = some Tryz.f134 := by kernel_rfl
theorem aFunc135 : aFunc Tryz.prog 135 = some Tryz.f135 := by kernel_rfl
theorem aFunc136 : aFunc Tryz.prog 136 = some Tryz.f136 := by kernel_rfl
theorem aFunc137 : aFunc Tryz.prog 137 = some Tryz.f137 := by kernel_rfl
theorem aFunc138 : aFunc Tryz.prog 138 = some Tryz.f138 := by kernel_rfl
theorem aFunc140 : aFunc Tryz.prog 140 = some Tryz.f140 := by kernel_rfl
theorem aFunc141 : aFunc Tryz.prog 141 = some Tryz.f141 := by kernel_rfl
theorem aFunc157 : aFunc Tryz.prog 157 = some Tryz.f157 := by kernel_rfl
theorem aFunc158 : aFunc Tryz.prog 158 = some Tryz.f158 := by kernel_rfl
theorem aFunc159 : aFunc Tryz.prog 159 = some Tryz.f159 := by kernel_rfl
theorem aFunc160 : aFunc Tryz.prog 160 = some Tryz.f160 := by kernel_rfl
theorem aFunc161 : aFunc Tryz.prog 161 = some Tryz.f161 := by kernel_rfl
theorem aFunc162 : aFunc Tryz.prog 162 = some Tryz.f162 := by kernel_rfl
theorem aFunc163 : aFunc Tryz.prog 163 = some Tryz.f163 := by kernel_rfl
end Go.Proofs.YtobhkdgcciolmaaGreat
