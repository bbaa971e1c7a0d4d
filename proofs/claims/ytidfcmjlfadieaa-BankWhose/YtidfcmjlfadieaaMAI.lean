import Derived.Test.YtidfcmjlfadieaaMAF
import Derived.Test.YtidfcmjlfadieaaChecked
import Derived.KernelRfl
namespace Go.Proofs.Ytidfcmjlfadieaa
open Go Go.AbsE
theorem ag1 : isAggT Try.prog 1 = some false := by kernel_rfl
theorem ag3 : isAggT Try.prog 3 = some false := by kernel_rfl
theorem sz3 : sizeT Try.prog 3 = some 1 := by kernel_rfl
theorem ag4 : isAggT Try.prog 4 = some false := by kernel_rfl
theorem sz4 : sizeT Try.prog 4 = some 1 := by kernel_rfl
theorem ag8 : isAggT Try.prog 8 = some true := by kernel_rfl
theorem sz8 : sizeT Try.prog 8 = some 4 := by kernel_rfl
theorem ag10 : isAggT Try.prog 10 = some false := by kernel_rfl
theorem ag22 : isAggT Try.prog 22 = some false := by kernel_rfl
theorem sz22 : sizeT Try.prog 22 = some 1 := by kernel_rfl
theorem ag23 : isAggT Try.prog 23 = some false := by kernel_rfl
theorem sz23 : sizeT Try.prog 23 = some 1 := by kernel_rfl
theorem ag25 : isAggT Try.prog 25 = some true := by kernel_rfl
theorem sz25 : sizeT Try.prog 25 = some 4 := by kernel_rfl
theorem ag28 : isAggT Try.prog 28 = some false := by kernel_rfl
theorem sz28 : sizeT Try.prog 28 = some 1 := by kernel_rfl
theorem ag40 : isAggT Try.prog 40 = some true := by kernel_rfl
theorem sz40 : sizeT Try.prog 40 = some 2 := by kernel_rfl
theorem ag52 : isAggT Try.prog 52 = some true := by kernel_rfl
theorem sz52 : sizeT Try.prog 52 = some 2 := by kernel_rfl
theorem ag57 : isAggT Try.prog 57 = some true := by kernel_rfl
theorem sz57 : sizeT Try.prog 57 = some 5 := by kernel_rfl
theorem ag88 : isAggT Try.prog 88 = some false := by kernel_rfl
theorem sz88 : sizeT Try.prog 88 = some 1 := by kernel_rfl
theorem ag90 : isAggT Try.prog 90 = some true := by kernel_rfl
theorem sz90 : sizeT Try.prog 90 = some 1 := by kernel_rfl
theorem ag92 : isAggT Try.prog 92 = some true := by kernel_rfl
theorem sz92 : sizeT Try.prog 92 = some 4 := by kernel_rfl
theorem ag111 : isAggT Try.prog 111 = some true := by kernel_rfl
theorem sz111 : sizeT Try.prog 111 = some 11 := by kernel_rfl
theorem sz139 : sizeT Try.prog 139 = some 1 := by kernel_rfl
theorem ag144 : isAggT Try.prog 144 = some false := by kernel_rfl
theorem ag145 : isAggT Try.prog 145 = some false := by kernel_rfl
theorem sz145 : sizeT Try.prog 145 = some 1 := by kernel_rfl
theorem ag146 : isAggT Try.prog 146 = some false := by kernel_rfl
theorem sz146 : sizeT Try.prog 146 = some 1 := by kernel_rfl
theorem sz147 : sizeT Try.prog 147 = some 4 := by kernel_rfl
theorem ag149 : isAggT Try.prog 149 = some true := by kernel_rfl
theorem sz149 : sizeT Try.prog 149 = some 5 := by kernel_rfl
theorem ag150 : isAggT Try.prog 150 = some false := by kernel_rfl
theorem sz150 : sizeT Try.prog 150 = some 1 := by kernel_rfl
theorem ag154 : isAggT Try.prog 154 = some false := by kernel_rfl
theorem ag164 : isAggT Try.prog 164 = some false := by kernel_rfl
theorem sz164 : sizeT Try.prog 164 = some 1 := by kernel_rfl
theorem ag165 : isAggT Try.prog 165 = some false := by kernel_rfl
theorem sz165 : sizeT Try.prog 165 = some 1 := by kernel_rfl
theorem ag195 : isAggT Try.prog 195 = some true := by kernel_rfl
theorem sz195 : sizeT Try.prog 195 = some 5 := by kernel_rfl
theorem ag221 : isAggT Try.prog 221 = some false := by kernel_rfl
theorem fa25_0 {t : Tr AVal} {h : AH} {dst : Option Tmp} {tt : TypeId} {pos : String} {after : Array Edge} {guard : Option (Nat × Bool)} {x : Operand} {b off : Nat} (hx : ev t x = some (.ptr b off)) : aOp Try.prog t h ⟨dst, .fieldAddr 25 x 0, tt, pos, after, guard⟩ = some (.val (.ptr b (off + 0)) h) := by
  have := aOp_fieldAddr (P := Try.prog) (h := h) (dst := dst) (tt := tt) (pos := pos) (after := after) (guard := guard) (f := 0) Try.underlying25 rfl (n := 1) sz3 rfl hx
  exact this
theorem fa25_1 {t : Tr AVal} {h : AH} {dst : Option Tmp} {tt : TypeId} {pos : String} {after : Array Edge} {guard : Option (Nat × Bool)} {x : Operand} {b off : Nat} (hx : ev t x = some (.ptr b off)) : aOp Try.prog t h ⟨dst, .fieldAddr 25 x 1, tt, pos, after, guard⟩ = some (.val (.ptr b (off + 1)) h) := by
  have := aOp_fieldAddr (P := Try.prog) (h := h) (dst := dst) (tt := tt) (pos := pos) (after := after) (guard := guard) (f := 1) Try.underlying25 rfl (n := 1) sz3 rfl hx
  exact this
theorem fa25_2 {t : Tr AVal} {h : AH} {dst : Option Tmp} {tt : TypeId} {pos : String} {after : Array Edge} {guard : Option (Nat × Bool)} {x : Operand} {b off : Nat} (hx : ev t x = some (.ptr b off)) : aOp Try.prog t h ⟨dst, .fieldAddr 25 x 2, tt, pos, after, guard⟩ = some (.val (.ptr b (off + 2)) h) := by
  have := aOp_fieldAddr (P := Try.prog) (h := h) (dst := dst) (tt := tt) (pos := pos) (after := after) (guard := guard) (f := 2) Try.underlying25 rfl (n := 1) sz22 rfl hx
  exact this
theorem fa25_3 {t : Tr AVal} {h : AH} {dst : Option Tmp} {tt : TypeId} {pos : String} {after : Array Edge} {guard : Option (Nat × Bool)} {x : Operand} {b off : Nat} (hx : ev t x = some (.ptr b off)) : aOp Try.prog t h ⟨dst, .fieldAddr 25 x 3, tt, pos, after, guard⟩ = some (.val (.ptr b (off + 3)) h) := by
  have := aOp_fieldAddr (P := Try.prog) (h := h) (dst := dst) (tt := tt) (pos := pos) (after := after) (guard := guard) (f := 3) Try.underlying25 rfl (n := 1) sz23 rfl hx
  exact this
theorem fa40_0 {t : Tr AVal} {h : AH} {dst : Option Tmp} {tt : TypeId} {pos : String} {after : Array Edge} {guard : Option (Nat × Bool)} {x : Operand} {b off : Nat} (hx : ev t x = some (.ptr b off)) : aOp Try.prog t h ⟨dst, .fieldAddr 40 x 0, tt, pos, after, guard⟩ = some (.val (.ptr b (off + 0)) h) := by
  have := aOp_fieldAddr (P := Try.prog) (h := h) (dst := dst) (tt := tt) (pos := pos) (after := after) (guard := guard) (f := 0) Try.underlying40 rfl (n := 1) sz3 rfl hx
  exact this
theorem fa40_1 {t : Tr AVal} {h : AH} {dst : Option Tmp} {tt : TypeId} {pos : String} {after : Array Edge} {guard : Option (Nat × Bool)} {x : Operand} {b off : Nat} (hx : ev t x = some (.ptr b off)) : aOp Try.prog t h ⟨dst, .fieldAddr 40 x 1, tt, pos, after, guard⟩ = some (.val (.ptr b (off + 1)) h) := by
  have := aOp_fieldAddr (P := Try.prog) (h := h) (dst := dst) (tt := tt) (pos := pos) (after := after) (guard := guard) (f := 1) Try.underlying40 rfl (n := 1) sz3 rfl hx
  exact this
theorem fa52_0 {t : Tr AVal} {h : AH} {dst : Option Tmp} {tt : TypeId} {pos : String} {after : Array Edge} {guard : Option (Nat × Bool)} {x : Operand} {b off : Nat} (hx : ev t x = some (.ptr b off)) : aOp Try.prog t h ⟨dst, .fieldAddr 52 x 0, tt, pos, after, guard⟩ = some (.val (.ptr b (off + 0)) h) := by
  have := aOp_fieldAddr (P := Try.prog) (h := h) (dst := dst) (tt := tt) (pos := pos) (after := after) (guard := guard) (f := 0) Try.underlying52 rfl (n := 1) sz3 rfl hx
  exact this
theorem fa52_1 {t : Tr AVal} {h : AH} {dst : Option Tmp} {tt : TypeId} {pos : String} {after : Array Edge} {guard : Option (Nat × Bool)} {x : Operand} {b off : Nat} (hx : ev t x = some (.ptr b off)) : aOp Try.prog t h ⟨dst, .fieldAddr 52 x 1, tt, pos, after, guard⟩ = some (.val (.ptr b (off + 1)) h) := by
  have := aOp_fieldAddr (P := Try.prog) (h := h) (dst := dst) (tt := tt) (pos := pos) (after := after) (guard := guard) (f := 1) Try.underlying52 rfl (n := 1) sz3 rfl hx
  exact this
theorem fa57_0 {t : Tr AVal} {h : AH} {dst : Option Tmp} {tt : TypeId} {pos : String} {after : Array Edge} {guard : Option (Nat × Bool)} {x : Operand} {b off : Nat} (hx : ev t x = some (.ptr b off)) : aOp Try.prog t h ⟨dst, .fieldAddr 57 x 0, tt, pos, after, guard⟩ = some (.val (.ptr b (off + 0)) h) := by
  have := aOp_fieldAddr (P := Try.prog) (h := h) (dst := dst) (tt := tt) (pos := pos) (after := after) (guard := guard) (f := 0) Try.underlying57 rfl (n := 1) sz3 rfl hx
  exact this
theorem fa57_1 {t : Tr AVal} {h : AH} {dst : Option Tmp} {tt : TypeId} {pos : String} {after : Array Edge} {guard : Option (Nat × Bool)} {x : Operand} {b off : Nat} (hx : ev t x = some (.ptr b off)) : aOp Try.prog t h ⟨dst, .fieldAddr 57 x 1, tt, pos, after, guard⟩ = some (.val (.ptr b (off + 1)) h) := by
  have := aOp_fieldAddr (P := Try.prog) (h := h) (dst := dst) (tt := tt) (pos := pos) (after := after) (guard := guard) (f := 1) Try.underlying57 rfl (n := 2) sz40 rfl hx
  exact this
theorem fa57_2 {t : Tr AVal} {h : AH} {dst : Option Tmp} {tt : TypeId} {pos : String} {after : Array Edge} {guard : Option (Nat × Bool)} {x : Operand} {b off : Nat} (hx : ev t x = some (.ptr b off)) : aOp Try.prog t h ⟨dst, .fieldAddr 57 x 2, tt, pos, after, guard⟩ = some (.val (.ptr b (off + 3)) h) := by
  have := aOp_fieldAddr (P := Try.prog) (h := h) (dst := dst) (tt := tt) (pos := pos) (after := after) (guard := guard) (f := 2) Try.underlying57 rfl (n := 2) sz40 rfl hx
  exact this
theorem fa90_0 {t : Tr AVal} {h : AH} {dst : Option Tmp} {tt : TypeId} {pos : String} {after : Array Edge} {guard : Option (Nat × Bool)} {x : Operand} {b off : Nat} (hx : ev t x = some (.ptr b off)) : aOp Try.prog t h ⟨dst, .fieldAddr 90 x 0, tt, pos, after, guard⟩ = some (.val (.ptr b (off + 0)) h) := by
  have := aOp_fieldAddr (P := Try.prog) (h := h) (dst := dst) (tt := tt) (pos := pos) (after := after) (guard := guard) (f := 0) Try.underlying90 rfl (n := 1) sz23 rfl hx
  exact this
theorem fa92_0 {t : Tr AVal} {h : AH} {dst : Option Tmp} {tt : TypeId} {pos : String} {after : Array Edge} {guard : Option (Nat × Bool)} {x : Operand} {b off : Nat} (hx : ev t x = some (.ptr b off)) : aOp Try.prog t h ⟨dst, .fieldAddr 92 x 0, tt, pos, after, guard⟩ = some (.val (.ptr b (off + 0)) h) := by
  have := aOp_fieldAddr (P := Try.prog) (h := h) (dst := dst) (tt := tt) (pos := pos) (after := after) (guard := guard) (f := 0) Try.underlying92 rfl (n := 1) sz3 rfl hx
  exact this
theorem fa92_1 {t : Tr AVal} {h : AH} {dst : Option Tmp} {tt : TypeId} {pos : String} {after : Array Edge} {guard : Option (Nat × Bool)} {x : Operand} {b off : Nat} (hx : ev t x = some (.ptr b off)) : aOp Try.prog t h ⟨dst, .fieldAddr 92 x 1, tt, pos, after, guard⟩ = some (.val (.ptr b (off + 1)) h) := by
  have := aOp_fieldAddr (P := Try.prog) (h := h) (dst := dst) (tt := tt) (pos := pos) (after := after) (guard := guard) (f := 1) Try.underlying92 rfl (n := 1) sz3 rfl hx
  exact this
theorem fa92_2 {t : Tr AVal} {h : AH} {dst : Option Tmp} {tt : TypeId} {pos : String} {after : Array Edge} {guard : Option (Nat × Bool)} {x : Operand} {b off : Nat} (hx : ev t x = some (.ptr b off)) : aOp Try.prog t h ⟨dst, .fieldAddr 92 x 2, tt, pos, after, guard⟩ = some (.val (.ptr b (off + 2)) h) := by
  have := aOp_fieldAddr (P := Try.prog) (h := h) (dst := dst) (tt := tt) (pos := pos) (after := after) (guard := guard) (f := 2) Try.underlying92 rfl (n := 1) sz88 rfl hx
  exact this
theorem fa92_3 {t : Tr AVal} {h : AH} {dst : Option Tmp} {tt : TypeId} {pos : String} {after : Array Edge} {guard : Option (Nat × Bool)} {x : Operand} {b off : Nat} (hx : ev t x = some (.ptr b off)) : aOp Try.prog t h ⟨dst, .fieldAddr 92 x 3, tt, pos, after, guard⟩ = some (.val (.ptr b (off + 3)) h) := by
  have := aOp_fieldAddr (P := Try.prog) (h := h) (dst := dst) (tt := tt) (pos := pos) (after := after) (guard := guard) (f := 3) Try.underlying92 rfl (n := 1) sz90 rfl hx
  exact this
theorem fa139_0 {t : Tr AVal} {h : AH} {dst : Option Tmp} {tt : TypeId} {pos : String} {after : Array Edge} {guard : Option (Nat × Bool)} {x : Operand} {b off : Nat} (hx : ev t x = some (.ptr b off)) : aOp Try.prog t h ⟨dst, .fieldAddr 139 x 0, tt, pos, after, guard⟩ = some (.val (.ptr b (off + 0)) h) := by
  have := aOp_fieldAddr (P := Try.prog) (h := h) (dst := dst) (tt := tt) (pos := pos) (after := after) (guard := guard) (f := 0) Try.underlying139 rfl (n := 1) sz28 rfl hx
  exact this
theorem fa149_0 {t : Tr AVal} {h : AH} {dst : Option Tmp} {tt : TypeId} {pos : String} {after : Array Edge} {guard : Option (Nat × Bool)} {x : Operand} {b off : Nat} (hx : ev t x = some (.ptr b off)) : aOp Try.prog t h ⟨dst, .fieldAddr 149 x 0, tt, pos, after, guard⟩ = some (.val (.ptr b (off + 0)) h) := by
  have := aOp_fieldAddr (P := Try.prog) (h := h) (dst := dst) (tt := tt) (pos := pos) (after := after) (guard := guard) (f := 0) Try.underlying149 rfl (n := 1) sz3 rfl hx
  exact this
theorem fa149_1 {t : Tr AVal} {h : AH} {dst : Option Tmp} {tt : TypeId} {pos : String} {after : Array Edge} {guard : Option (Nat × Bool)} {x : Operand} {b off : Nat} (hx : ev t x = some (.ptr b off)) : aOp Try.prog t h ⟨dst, .fieldAddr 149 x 1, tt, pos, after, guard⟩ = some (.val (.ptr b (off + 1)) h) := by
  have := aOp_fieldAddr (P := Try.prog) (h := h) (dst := dst) (tt := tt) (pos := pos) (after := after) (guard := guard) (f := 1) Try.underlying149 rfl (n := 4) sz147 rfl hx
  exact this
theorem fa195_0 {t : Tr AVal} {h : AH} {dst : Option Tmp} {tt : TypeId} {pos : String} {after : Array Edge} {guard : Option (Nat × Bool)} {x : Operand} {b off : Nat} (hx : ev t x = some (.ptr b off)) : aOp Try.prog t h ⟨dst, .fieldAddr 195 x 0, tt, pos, after, guard⟩ = some (.val (.ptr b (off + 0)) h) := by
  have := aOp_fieldAddr (P := Try.prog) (h := h) (dst := dst) (tt := tt) (pos := pos) (after := after) (guard := guard) (f := 0) Try.underlying195 rfl (n := 1) sz3 rfl hx
  exact this
theorem fa195_1 {t : Tr AVal} {h : AH} {dst : Option Tmp} {tt : TypeId} {pos : String} {after : Array Edge} {guard : Option (Nat × Bool)} {x : Operand} {b off : Nat} (hx : ev t x = some (.ptr b off)) : aOp Try.prog t h ⟨dst, .fieldAddr 195 x 1, tt, pos, after, guard⟩ = some (.val (.ptr b (off + 1)) h) := by
  have := aOp_fieldAddr (P := Try.prog) (h := h) (dst := dst) (tt := tt) (pos := pos) (after := after) (guard := guard) (f := 1) Try.underlying195 rfl (n := 2) sz40 rfl hx
  exact this
theorem fa195_2 {t : Tr AVal} {h : AH} {dst : Option Tmp} {tt : TypeId} {pos : String} {after : Array Edge} {guard : Option (Nat × Bool)} {x : Operand} {b off : Nat} (hx : ev t x = some (.ptr b off)) : aOp Try.prog t h ⟨dst, .fieldAddr 195 x 2, tt, pos, after, guard⟩ = some (.val (.ptr b (off + 3)) h) := by
  have := aOp_fieldAddr (P := Try.prog) (h := h) (dst := dst) (tt := tt) (pos := pos) (after := after) (guard := guard) (f := 2) Try.underlying195 rfl (n := 2) sz40 rfl hx
  exact this
theorem fa206_0 {t : Tr AVal} {h : AH} {dst : Option Tmp} {tt : TypeId} {pos : String} {after : Array Edge} {guard : Option (Nat × Bool)} {x : Operand} {b off : Nat} (hx : ev t x = some (.ptr b off)) : aOp Try.prog t h ⟨dst, .fieldAddr 206 x 0, tt, pos, after, guard⟩ = some (.val (.ptr b (off + 0)) h) := by
  have := aOp_fieldAddr (P := Try.prog) (h := h) (dst := dst) (tt := tt) (pos := pos) (after := after) (guard := guard) (f := 0) Try.underlying206 rfl (n := 1) sz90 rfl hx
  exact this
theorem fa206_1 {t : Tr AVal} {h : AH} {dst : Option Tmp} {tt : TypeId} {pos : String} {after : Array Edge} {guard : Option (Nat × Bool)} {x : Operand} {b off : Nat} (hx : ev t x = some (.ptr b off)) : aOp Try.prog t h ⟨dst, .fieldAddr 206 x 1, tt, pos, after, guard⟩ = some (.val (.ptr b (off + 1)) h) := by
  have := aOp_fieldAddr (P := Try.prog) (h := h) (dst := dst) (tt := tt) (pos := pos) (after := after) (guard := guard) (f := 1) Try.underlying206 rfl (n := 1) sz3 rfl hx
  exact this
theorem fa206_2 {t : Tr AVal} {h : AH} {dst : Option Tmp} {tt : TypeId} {pos : String} {after : Array Edge} {guard : Option (Nat × Bool)} {x : Operand} {b off : Nat} (hx : ev t x = some (.ptr b off)) : aOp Try.prog t h ⟨dst, .fieldAddr 206 x 2, tt, pos, after, guard⟩ = some (.val (.ptr b (off + 2)) h) := by
  have := aOp_fieldAddr (P := Try.prog) (h := h) (dst := dst) (tt := tt) (pos := pos) (after := after) (guard := guard) (f := 2) Try.underlying206 rfl (n := 1) sz3 rfl hx
  exact this
theorem fa206_3 {t : Tr AVal} {h : AH} {dst : Option Tmp} {tt : TypeId} {pos : String} {after : Array Edge} {guard : Option (Nat × Bool)} {x : Operand} {b off : Nat} (hx : ev t x = some (.ptr b off)) : aOp Try.prog t h ⟨dst, .fieldAddr 206 x 3, tt, pos, after, guard⟩ = some (.val (.ptr b (off + 3)) h) := by
  have := aOp_fieldAddr (P := Try.prog) (h := h) (dst := dst) (tt := tt) (pos := pos) (after := after) (guard := guard) (f := 3) Try.underlying206 rfl (n := 1) sz3 rfl hx
  exact this
theorem ld3 {t : Tr AVal} {h : AH} {dst : Option Tmp} {tt : TypeId} {pos : String} {after : Array Edge} {guard : Option (Nat × Bool)} {x : Operand} {b off : Nat} {g : Kd} {cs : List AVal} {el : TypeId} {v : AVal} (hx : ev t x = some (.ptr b off)) (hb : Has h b (.cells g cs el)) (hv : cs[off]? = some v) : aOp Try.prog t h ⟨dst, .load 3 x, tt, pos, after, guard⟩ = some (.val v h) := aOp_load1 ag3 hx hb hv
theorem ld4 {t : Tr AVal} {h : AH} {dst : Option Tmp} {tt : TypeId} {pos : String} {after : Array Edge} {guard : Option (Nat × Bool)} {x : Operand} {b off : Nat} {g : Kd} {cs : List AVal} {el : TypeId} {v : AVal} (hx : ev t x = some (.ptr b off)) (hb : Has h b (.cells g cs el)) (hv : cs[off]? = some v) : aOp Try.prog t h ⟨dst, .load 4 x, tt, pos, after, guard⟩ = some (.val v h) := aOp_load1 ag4 hx hb hv
theorem ld8 {t : Tr AVal} {h : AH} {dst : Option Tmp} {tt : TypeId} {pos : String} {after : Array Edge} {guard : Option (Nat × Bool)} {x : Operand} {b off : Nat} {g : Kd} {cs l : List AVal} {el : TypeId} (hx : ev t x = some (.ptr b off)) (hb : Has h b (.cells g cs el)) (hv : slice? cs off 4 = some l) : aOp Try.prog t h ⟨dst, .load 8 x, tt, pos, after, guard⟩ = some (.val (.agg l) h) := aOp_loadN ag8 sz8 hx hb hv
theorem ld22 {t : Tr AVal} {h : AH} {dst : Option Tmp} {tt : TypeId} {pos : String} {after : Array Edge} {guard : Option (Nat × Bool)} {x : Operand} {b off : Nat} {g : Kd} {cs : List AVal} {el : TypeId} {v : AVal} (hx : ev t x = some (.ptr b off)) (hb : Has h b (.cells g cs el)) (hv : cs[off]? = some v) : aOp Try.prog t h ⟨dst, .load 22 x, tt, pos, after, guard⟩ = some (.val v h) := aOp_load1 ag22 hx hb hv
theorem ld23 {t : Tr AVal} {h : AH} {dst : Option Tmp} {tt : TypeId} {pos : String} {after : Array Edge} {guard : Option (Nat × Bool)} {x : Operand} {b off : Nat} {g : Kd} {cs : List AVal} {el : TypeId} {v : AVal} (hx : ev t x = some (.ptr b off)) (hb : Has h b (.cells g cs el)) (hv : cs[off]? = some v) : aOp Try.prog t h ⟨dst, .load 23 x, tt, pos, after, guard⟩ = some (.val v h) := aOp_load1 ag23 hx hb hv
theorem ld25 {t : Tr AVal} {h : AH} {dst : Option Tmp} {tt : TypeId} {pos : String} {after : Array Edge} {guard : Option (Nat × Bool)} {x : Operand} {b off : Nat} {g : Kd} {cs l : List AVal} {el : TypeId} (hx : ev t x = some (.ptr b off)) (hb : Has h b (.cells g cs el)) (hv : slice? cs off 4 = some l) : aOp Try.prog t h ⟨dst, .load 25 x, tt, pos, after, guard⟩ = some (.val (.agg l) h) := aOp_loadN ag25 sz25 hx hb hv
theorem ld28 {t : Tr AVal} {h : AH} {dst : Option Tmp} {tt : TypeId} {pos : String} {after : Array Edge} {guard : Option (Nat × Bool)} {x : Operand} {b off : Nat} {g : Kd} {cs : List AVal} {el : TypeId} {v : AVal} (hx : ev t x = some (.ptr b off)) (hb : Has h b (.cells g cs el)) (hv : cs[off]? = some v) : aOp Try.prog t h ⟨dst, .load 28 x, tt, pos, after, guard⟩ = some (.val v h) := aOp_load1 ag28 hx hb hv
theorem ld40 {t : Tr AVal} {h : AH} {dst : Option Tmp} {tt : TypeId} {pos : String} {after : Array Edge} {guard : Option (Nat × Bool)} {x : Operand} {b off : Nat} {g : Kd} {cs l : List AVal} {el : TypeId} (hx : ev t x = some (.ptr b off)) (hb : Has h b (.cells g cs el)) (hv : slice? cs off 2 = some l) : aOp Try.prog t h ⟨dst, .load 40 x, tt, pos, after, guard⟩ = some (.val (.agg l) h) := aOp_loadN ag40 sz40 hx hb hv
theorem ld52 {t : Tr AVal} {h : AH} {dst : Option Tmp} {tt : TypeId} {pos : String} {after : Array Edge} {guard : Option (Nat × Bool)} {x : Operand} {b off : Nat} {g : Kd} {cs l : List AVal} {el : TypeId} (hx : ev t x = some (.ptr b off)) (hb : Has h b (.cells g cs el)) (hv : slice? cs off 2 = some l) : aOp Try.prog t h ⟨dst, .load 52 x, tt, pos, after, guard⟩ = some (.val (.agg l) h) := aOp_loadN ag52 sz52 hx hb hv
theorem ld57 {t : Tr AVal} {h : AH} {dst : Option Tmp} {tt : TypeId} {pos : String} {after : Array Edge} {guard : Option (Nat × Bool)} {x : Operand} {b off : Nat} {g : Kd} {cs l : List AVal} {el : TypeId} (hx : ev t x = some (.ptr b off)) (hb : Has h b (.cells g cs el)) (hv : slice? cs off 5 = some l) : aOp Try.prog t h ⟨dst, .load 57 x, tt, pos, after, guard⟩ = some (.val (.agg l) h) := aOp_loadN ag57 sz57 hx hb hv
theorem ld88 {t : Tr AVal} {h : AH} {dst : Option Tmp} {tt : TypeId} {pos : String} {after : Array Edge} {guard : Option (Nat × Bool)} {x : Operand} {b off : Nat} {g : Kd} {cs : List AVal} {el : TypeId} {v : AVal} (hx : ev t x = some (.ptr b off)) (hb : Has h b (.cells g cs el)) (hv : cs[off]? = some v) : aOp Try.prog t h ⟨dst, .load 88 x, tt, pos, after, guard⟩ = some (.val v h) := aOp_load1 ag88 hx hb hv
theorem ld90 {t : Tr AVal} {h : AH} {dst : Option Tmp} {tt : TypeId} {pos : String} {after : Array Edge} {guard : Option (Nat × Bool)} {x : Operand} {b off : Nat} {g : Kd} {cs l : List AVal} {el : TypeId} (hx : ev t x = some (.ptr b off)) (hb : Has h b (.cells g cs el)) (hv : slice? cs off 1 = some l) : aOp Try.prog t h ⟨dst, .load 90 x, tt, pos, after, guard⟩ = some (.val (.agg l) h) := aOp_loadN ag90 sz90 hx hb hv
theorem ld92 {t : Tr AVal} {h : AH} {dst : Option Tmp} {tt : TypeId} {pos : String} {after : Array Edge} {guard : Option (Nat × Bool)} {x : Operand} {b off : Nat} {g : Kd} {cs l : List AVal} {el : TypeId} (hx : ev t x = some (.ptr b off)) (hb : Has h b (.cells g cs el)) (hv : slice? cs off 4 = some l) : aOp Try.prog t h ⟨dst, .load 92 x, tt, pos, after, guard⟩ = some (.val (.agg l) h) := aOp_loadN ag92 sz92 hx hb hv
theorem ld111 {t : Tr AVal} {h : AH} {dst : Option Tmp} {tt : TypeId} {pos : String} {after : Array Edge} {guard : Option (Nat × Bool)} {x : Operand} {b off : Nat} {g : Kd} {cs l : List AVal} {el : TypeId} (hx : ev t x = some (.ptr b off)) (hb : Has h b (.cells g cs el)) (hv : slice? cs off 11 = some l) : aOp Try.prog t h ⟨dst, .load 111 x, tt, pos, after, guard⟩ = some (.val (.agg l) h) := aOp_loadN ag111 sz111 hx hb hv
theorem ld144 {t : Tr AVal} {h : AH} {dst : Option Tmp} {tt : TypeId} {pos : String} {after : Array Edge} {guard : Option (Nat × Bool)} {x : Operand} {b off : Nat} {g : Kd} {cs : List AVal} {el : TypeId} {v : AVal} (hx : ev t x = some (.ptr b off)) (hb : Has h b (.cells g cs el)) (hv : cs[off]? = some v) : aOp Try.prog t h ⟨dst, .load 144 x, tt, pos, after, guard⟩ = some (.val v h) := aOp_load1 ag144 hx hb hv
theorem ld145 {t : Tr AVal} {h : AH} {dst : Option Tmp} {tt : TypeId} {pos : String} {after : Array Edge} {guard : Option (Nat × Bool)} {x : Operand} {b off : Nat} {g : Kd} {cs : List AVal} {el : TypeId} {v : AVal} (hx : ev t x = some (.ptr b off)) (hb : Has h b (.cells g cs el)) (hv : cs[off]? = some v) : aOp Try.prog t h ⟨dst, .load 145 x, tt, pos, after, guard⟩ = some (.val v h) := aOp_load1 ag145 hx hb hv
theorem ld146 {t : Tr AVal} {h : AH} {dst : Option Tmp} {tt : TypeId} {pos : String} {after : Array Edge} {guard : Option (Nat × Bool)} {x : Operand} {b off : Nat} {g : Kd} {cs : List AVal} {el : TypeId} {v : AVal} (hx : ev t x = some (.ptr b off)) (hb : Has h b (.cells g cs el)) (hv : cs[off]? = some v) : aOp Try.prog t h ⟨dst, .load 146 x, tt, pos, after, guard⟩ = some (.val v h) := aOp_load1 ag146 hx hb hv
theorem ld149 {t : Tr AVal} {h : AH} {dst : Option Tmp} {tt : TypeId} {pos : String} {after : Array Edge} {guard : Option (Nat × Bool)} {x : Operand} {b off : Nat} {g : Kd} {cs l : List AVal} {el : TypeId} (hx : ev t x = some (.ptr b off)) (hb : Has h b (.cells g cs el)) (hv : slice? cs off 5 = some l) : aOp Try.prog t h ⟨dst, .load 149 x, tt, pos, after, guard⟩ = some (.val (.agg l) h) := aOp_loadN ag149 sz149 hx hb hv
theorem ld150 {t : Tr AVal} {h : AH} {dst : Option Tmp} {tt : TypeId} {pos : String} {after : Array Edge} {guard : Option (Nat × Bool)} {x : Operand} {b off : Nat} {g : Kd} {cs : List AVal} {el : TypeId} {v : AVal} (hx : ev t x = some (.ptr b off)) (hb : Has h b (.cells g cs el)) (hv : cs[off]? = some v) : aOp Try.prog t h ⟨dst, .load 150 x, tt, pos, after, guard⟩ = some (.val v h) := aOp_load1 ag150 hx hb hv
theorem ld154 {t : Tr AVal} {h : AH} {dst : Option Tmp} {tt : TypeId} {pos : String} {after : Array Edge} {guard : Option (Nat × Bool)} {x : Operand} {b off : Nat} {g : Kd} {cs : List AVal} {el : TypeId} {v : AVal} (hx : ev t x = some (.ptr b off)) (hb : Has h b (.cells g cs el)) (hv : cs[off]? = some v) : aOp Try.prog t h ⟨dst, .load 154 x, tt, pos, after, guard⟩ = some (.val v h) := aOp_load1 ag154 hx hb hv
theorem ld164 {t : Tr AVal} {h : AH} {dst : Option Tmp} {tt : TypeId} {pos : String} {after : Array Edge} {guard : Option (Nat × Bool)} {x : Operand} {b off : Nat} {g : Kd} {cs : List AVal} {el : TypeId} {v : AVal} (hx : ev t x = some (.ptr b off)) (hb : Has h b (.cells g cs el)) (hv : cs[off]? = some v) : aOp Try.prog t h ⟨dst, .load 164 x, tt, pos, after, guard⟩ = some (.val v h) := aOp_load1 ag164 hx hb hv
theorem ld165 {t : Tr AVal} {h : AH} {dst : Option Tmp} {tt : TypeId} {pos : String} {after : Array Edge} {guard : Option (Nat × Bool)} {x : Operand} {b off : Nat} {g : Kd} {cs : List AVal} {el : TypeId} {v : AVal} (hx : ev t x = some (.ptr b off)) (hb : Has h b (.cells g cs el)) (hv : cs[off]? = some v) : aOp Try.prog t h ⟨dst, .load 165 x, tt, pos, after, guard⟩ = some (.val v h) := aOp_load1 ag165 hx hb hv
theorem ld195 {t : Tr AVal} {h : AH} {dst : Option Tmp} {tt : TypeId} {pos : String} {after : Array Edge} {guard : Option (Nat × Bool)} {x : Operand} {b off : Nat} {g : Kd} {cs l : List AVal} {el : TypeId} (hx : ev t x = some (.ptr b off)) (hb : Has h b (.cells g cs el)) (hv : slice? cs off 5 = some l) : aOp Try.prog t h ⟨dst, .load 195 x, tt, pos, after, guard⟩ = some (.val (.agg l) h) := aOp_loadN ag195 sz195 hx hb hv
theorem ld221 {t : Tr AVal} {h : AH} {dst : Option Tmp} {tt : TypeId} {pos : String} {after : Array Edge} {guard : Option (Nat × Bool)} {x : Operand} {b off : Nat} {g : Kd} {cs : List AVal} {el : TypeId} {v : AVal} (hx : ev t x = some (.ptr b off)) (hb : Has h b (.cells g cs el)) (hv : cs[off]? = some v) : aOp Try.prog t h ⟨dst, .load 221 x, tt, pos, after, guard⟩ = some (.val v h) := aOp_load1 ag221 hx hb hv
theorem aFunc75 : aFunc Try.prog 75 = some Try.f75 := by kernel_rfl
theorem aFunc179 : aFunc Try.prog 179 = some Try.f179 := by kernel_rfl
theorem aFunc160 : aFunc Try.prog 160 = some Try.f160 := by kernel_rfl
theorem aFunc162 : aFunc Try.prog 162 = some Try.f162 := by kernel_rfl
theorem aFunc159 : aFunc Try.prog 159 = some Try.f159 := by kernel_rfl
theorem aFunc158 : aFunc Try.prog 158 = some Try.f158 := by kernel_rfl
theorem aFunc161 : aFunc Try.prog 161 = some Try.f161 := by kernel_rfl
theorem aFunc117 : aFunc Try.prog 117 = some Try.f117 := by kernel_rfl
theorem aFunc118 : aFunc Try.prog 118 = some Try.f118 := by kernel_rfl
theorem aFunc58 : aFunc Try.prog 58 = some Try.f58 := by kernel_rfl
theorem aFunc116 : aFunc Try.prog 116 = some Try.f116 := by kernel_rfl
theorem aFunc74 : aFunc Try.prog 74 = some Try.f74 := by kernel_rfl
theorem aFunc76 : aFunc Try.prog 76 = some Try.f76 := by kernel_rfl
theorem aFunc86 : aFunc Try.prog 86 = some Try.f86 := by kernel_rfl
theorem aFunc133 : aFunc Try.prog 133 = some Try.f133 := by kernel_rfl
theorem aFunc129 : aFunc Try.prog 129 = some Try.f129 := by kernel_rfl
theorem aFunc77 : aFunc Try.prog 77 = some Try.f77 := by kernel_rfl
theorem aFunc79 : aFunc Try.prog 79 = some Try.f79 := by kernel_rfl
theorem aFunc85 : aFunc Try.prog 85 = some Try.f85 := by kernel_rfl
theorem aFunc81 : aFunc Try.prog 81 = some Try.f81 := by kernel_rfl
theorem aFunc130 : aFunc Try.prog 130 = some Try.f130 := by kernel_rfl
theorem aFunc131 : aFunc Try.prog 131 = some Try.f131 := by kernel_rfl
theorem aFunc132 : aFunc Try.prog 132 = some Try.f132 := by kernel_rfl
theorem aFunc123 : aFunc Try.prog 123 = some Try.f123 := by kernel_rfl
theorem aFunc124 : aFunc Try.prog 124 = some Try.f124 := by kernel_rfl
theorem aFunc167 : aFunc Try.prog 167 = some Try.f167 := by kernel_rfl
theorem aFunc122 : aFunc Try.prog 122 = some Try.f122 := by kernel_rfl
theorem aFunc165 : aFunc Try.prog 165 = some Try.f165 := by kernel_rfl
theorem aFunc166 : aFunc Try.prog 166 = some Try.f166 := by kernel_rfl
theorem aFunc182 : aFunc Try.prog 182 = some Try.f182 := by kernel_rfl
theorem aFunc198 : aFunc Try.prog 198 = some Try.f198 := by kernel_rfl
theorem aFunc183 : aFunc Try.prog 183 = some Try.f183 := by kernel_rfl
theorem aFunc199 : aFunc Try.prog 199 = some Try.f199 := by kernel_rfl
theorem aFunc217 : aFunc Try.prog 217 = some Try.f217 := by kernel_rfl
theorem aFunc218 : aFunc Try.prog 218 = some Try.f218 := by kernel_rfl
theorem aFunc223 : aFunc Try.prog 223 = some Try.f223 := by kernel_rfl
theorem aFunc63 : aFunc Try.prog 63 = some Try.f63 := by kernel_rfl
theorem aFunc27 : aFunc Try.prog 27 = some Try.f27 := by kernel_rfl
theorem aFunc22 : aFunc Try.prog 22 = some Try.f22 := by kernel_rfl
theorem aFunc23 : aFunc Try.prog 23 = some Try.f23 := by kernel_rfl
theorem aFunc24 : aFunc Try.prog 24 = some Try.f24 := by kernel_rfl
theorem aFunc26 : aFunc Try.prog 26 = some Try.f26 := by kernel_rfl
theorem aFunc29 : aFunc Try.prog 29 = some Try.f29 := by kernel_rfl
theorem aFunc88 : aFunc Try.prog 88 = some Try.f88 := by kernel_rfl
theorem aFunc87 : aFunc Try.prog 87 = some Try.f87 := by kernel_rfl
theorem aFunc73 : aFunc Try.prog 73 = some Try.f73 := by kernel_rfl
theorem aFunc78 : aFunc Try.prog 78 = some Try.f78 := by kernel_rfl
theorem aFunc6 : aFunc Try.prog 6 = some Try.f6 := by kernel_rfl
theorem aFunc8 : aFunc Try.prog 8 = some Try.f8 := by kernel_rfl
theorem aFunc12 : aFunc Try.prog 12 = some Try.f12 := by kernel_rfl
theorem aFunc13 : aFunc Try.prog 13 = some Try.f13 := by kernel_rfl
theorem aFunc14 : aFunc Try.prog 14 = some Try.f14 := by kernel_rfl
theorem aFunc32 : aFunc Try.prog 32 = some Try.f32 := by kernel_rfl
theorem aFunc35 : aFunc Try.prog 35 = some Try.f35 := by kernel_rfl
theorem aFunc54 : aFunc Try.prog 54 = some Try.f54 := by kernel_rfl
theorem aFunc55 : aFunc Try.prog 55 = some Try.f55 := by kernel_rfl
theorem aFunc56 : aFunc Try.prog 56 = some Try.f56 := by kernel_rfl
theorem aFunc57 : aFunc Try.prog 57 = some Try.f57 := by kernel_rfl
theorem aFunc80 : aFunc Try.prog 80 = some Try.f80 := by kernel_rfl
theorem aFunc83 : aFunc Try.prog 83 = some Try.f83 := by kernel_rfl
end Go.Proofs.Ytidfcmjlfadieaa

namespace Go.Proofs.Ytidfcmjlfadieaa
open Go Go.AbsE
set_option maxRecDepth 100000
set_option linter.unusedVariables false
theorem inside_ok (n a b : Int) {r : Bool} (hr : decide (a ≤ n ∧ n ≤ b) = r) (h : AH) : Runs Try.prog 75 [.int .i64 n, .int .i64 a, .int .i64 b] h (fun en h' => en = .ret (.bool r) ∧ Ext h h') := by
  refine Runs.intro aFunc75 rfl rfl rfl rfl fun rest => ?_
  refine Go.seq noJ_ok (Go.region noJ_ok rfl ?_)
  refine GoR.op rfl rfl rfl rfl ?_
  refine GoR.end (Go.seq noJ_ok (Go.region noJ_ok rfl ?_))
  cases e1 : decide (a ≤ n) with
  | false =>
    refine GoR.op rfl rfl rfl rfl ?_
    refine GoR.op rfl rfl rfl rfl ?_
    refine GoR.op rfl rfl (aOp_leq rfl rfl e1) rfl ?_
    refine GoR.op rfl rfl rfl rfl ?_
    refine GoR.skip rfl rfl rfl ?_
    refine GoR.skip rfl rfl rfl ?_
    refine GoR.skip rfl rfl rfl ?_
    refine GoR.op rfl rfl rfl rfl ?_
    refine GoR.op rfl rfl rfl rfl ?_
    refine GoR.end (Go.ret noJ_ok (ret_end (aResult_of Try.func75 rfl rfl) ⟨?_, Ext.refl _⟩))
    rw [← hr]
    simp only [decide_eq_true_eq, decide_eq_false_iff_not] at e1
    simp [oneOrTuple]
    try omega
  | true =>
    cases e2 : decide (n ≤ b) with
    | false =>
      refine GoR.op rfl rfl rfl rfl ?_
      refine GoR.op rfl rfl rfl rfl ?_
      refine GoR.op rfl rfl (aOp_leq rfl rfl e1) rfl ?_
      refine GoR.op rfl rfl rfl rfl ?_
      refine GoR.op rfl rfl rfl rfl ?_
      refine GoR.op rfl rfl rfl rfl ?_
      refine GoR.op rfl rfl (aOp_leq rfl rfl e2) rfl ?_
      refine GoR.op rfl rfl rfl rfl ?_
      refine GoR.op rfl rfl rfl rfl ?_
      refine GoR.end (Go.ret noJ_ok (ret_end (aResult_of Try.func75 rfl rfl) ⟨?_, Ext.refl _⟩))
      rw [← hr]
      simp only [decide_eq_true_eq, decide_eq_false_iff_not] at e1 e2
      simp [oneOrTuple]
      try omega
    | true =>
      refine GoR.op rfl rfl rfl rfl ?_
      refine GoR.op rfl rfl rfl rfl ?_
      refine GoR.op rfl rfl (aOp_leq rfl rfl e1) rfl ?_
      refine GoR.op rfl rfl rfl rfl ?_
      refine GoR.op rfl rfl rfl rfl ?_
      refine GoR.op rfl rfl rfl rfl ?_
      refine GoR.op rfl rfl (aOp_leq rfl rfl e2) rfl ?_
      refine GoR.op rfl rfl rfl rfl ?_
      refine GoR.op rfl rfl rfl rfl ?_
      refine GoR.end (Go.ret noJ_ok (ret_end (aResult_of Try.func75 rfl rfl) ⟨?_, Ext.refl _⟩))
      rw [← hr]
      simp only [decide_eq_true_eq, decide_eq_false_iff_not] at e1 e2
      simp [oneOrTuple]
      try omega

theorem placed_ok (lo hi a b : Int) (hi64 : lo ≤ hi → a ≤ lo → hi ≤ b → inI64 (hi - lo)) {r : Bool} (hr : decide (lo ≤ hi ∧ a ≤ lo ∧ hi ≤ b ∧ hi - lo ≤ 2) = r) (h : AH) : Runs Try.prog 179 [.agg [.int .i64 lo, .int .i64 hi], .int .i64 a, .int .i64 b] h (fun en h' => en = .ret (.bool r) ∧ Ext h h') := by
  refine Runs.intro aFunc179 rfl rfl rfl rfl fun rest => ?_
  refine Go.seq noJ_ok (Go.region noJ_ok rfl ?_)
  refine GoR.box rfl rfl rfl rfl rfl rfl fun h1 x1 f1 => ?_
  refine GoR.op rfl rfl rfl rfl ?_
  refine GoR.end (Go.seq noJ_ok (Go.region noJ_ok rfl ?_))
  cases e1 : decide (lo ≤ hi) with
  | false =>
    refine GoR.op rfl rfl (fa40_0 rfl) rfl ?_
    refine GoR.op rfl rfl (ld3 rfl f1 rfl) rfl ?_
    refine GoR.op rfl rfl (fa40_1 rfl) rfl ?_
    refine GoR.op rfl rfl (ld3 rfl f1 rfl) rfl ?_
    refine GoR.op rfl rfl (aOp_leq rfl rfl e1) rfl ?_
    refine GoR.op rfl rfl rfl rfl ?_
    refine GoR.skip rfl rfl rfl ?_
    refine GoR.skip rfl rfl rfl ?_
    refine GoR.skip rfl rfl rfl ?_
    refine GoR.skip rfl rfl rfl ?_
    refine GoR.op rfl rfl rfl rfl ?_
    refine GoR.op rfl rfl rfl rfl ?_
    refine GoR.skip rfl rfl rfl ?_
    refine GoR.skip rfl rfl rfl ?_
    refine GoR.skip rfl rfl rfl ?_
    refine GoR.skip rfl rfl rfl ?_
    refine GoR.op rfl rfl rfl rfl ?_
    refine GoR.op rfl rfl rfl rfl ?_
    refine GoR.skip rfl rfl rfl ?_
    refine GoR.skip rfl rfl rfl ?_
    refine GoR.skip rfl rfl rfl ?_
    refine GoR.skip rfl rfl rfl ?_
    refine GoR.skip rfl rfl rfl ?_
    refine GoR.skip rfl rfl rfl ?_
    refine GoR.op rfl rfl rfl rfl ?_
    refine GoR.op rfl rfl rfl rfl ?_
    refine GoR.end (Go.ret noJ_ok (ret_end (aResult_of Try.func179 rfl rfl) ⟨?_, x1⟩))
    rw [← hr]
    simp only [decide_eq_true_eq, decide_eq_false_iff_not] at e1
    simp [oneOrTuple]
    try omega
  | true =>
    cases e2 : decide (a ≤ lo) with
    | false =>
      refine GoR.op rfl rfl (fa40_0 rfl) rfl ?_
      refine GoR.op rfl rfl (ld3 rfl f1 rfl) rfl ?_
      refine GoR.op rfl rfl (fa40_1 rfl) rfl ?_
      refine GoR.op rfl rfl (ld3 rfl f1 rfl) rfl ?_
      refine GoR.op rfl rfl (aOp_leq rfl rfl e1) rfl ?_
      refine GoR.op rfl rfl rfl rfl ?_
      refine GoR.op rfl rfl rfl rfl ?_
      refine GoR.op rfl rfl (fa40_0 rfl) rfl ?_
      refine GoR.op rfl rfl (ld3 rfl f1 rfl) rfl ?_
      refine GoR.op rfl rfl (aOp_leq rfl rfl e2) rfl ?_
      refine GoR.op rfl rfl rfl rfl ?_
      refine GoR.op rfl rfl rfl rfl ?_
      refine GoR.skip rfl rfl rfl ?_
      refine GoR.skip rfl rfl rfl ?_
      refine GoR.skip rfl rfl rfl ?_
      refine GoR.skip rfl rfl rfl ?_
      refine GoR.op rfl rfl rfl rfl ?_
      refine GoR.op rfl rfl rfl rfl ?_
      refine GoR.skip rfl rfl rfl ?_
      refine GoR.skip rfl rfl rfl ?_
      refine GoR.skip rfl rfl rfl ?_
      refine GoR.skip rfl rfl rfl ?_
      refine GoR.skip rfl rfl rfl ?_
      refine GoR.skip rfl rfl rfl ?_
      refine GoR.op rfl rfl rfl rfl ?_
      refine GoR.op rfl rfl rfl rfl ?_
      refine GoR.end (Go.ret noJ_ok (ret_end (aResult_of Try.func179 rfl rfl) ⟨?_, x1⟩))
      rw [← hr]
      simp only [decide_eq_true_eq, decide_eq_false_iff_not] at e1 e2
      simp [oneOrTuple]
      try omega
    | true =>
      cases e3 : decide (hi ≤ b) with
      | false =>
        refine GoR.op rfl rfl (fa40_0 rfl) rfl ?_
        refine GoR.op rfl rfl (ld3 rfl f1 rfl) rfl ?_
        refine GoR.op rfl rfl (fa40_1 rfl) rfl ?_
        refine GoR.op rfl rfl (ld3 rfl f1 rfl) rfl ?_
        refine GoR.op rfl rfl (aOp_leq rfl rfl e1) rfl ?_
        refine GoR.op rfl rfl rfl rfl ?_
        refine GoR.op rfl rfl rfl rfl ?_
        refine GoR.op rfl rfl (fa40_0 rfl) rfl ?_
        refine GoR.op rfl rfl (ld3 rfl f1 rfl) rfl ?_
        refine GoR.op rfl rfl (aOp_leq rfl rfl e2) rfl ?_
        refine GoR.op rfl rfl rfl rfl ?_
        refine GoR.op rfl rfl rfl rfl ?_
        refine GoR.op rfl rfl (fa40_1 rfl) rfl ?_
        refine GoR.op rfl rfl (ld3 rfl f1 rfl) rfl ?_
        refine GoR.op rfl rfl rfl rfl ?_
        refine GoR.op rfl rfl (aOp_leq rfl rfl e3) rfl ?_
        refine GoR.op rfl rfl rfl rfl ?_
        refine GoR.op rfl rfl rfl rfl ?_
        refine GoR.skip rfl rfl rfl ?_
        refine GoR.skip rfl rfl rfl ?_
        refine GoR.skip rfl rfl rfl ?_
        refine GoR.skip rfl rfl rfl ?_
        refine GoR.skip rfl rfl rfl ?_
        refine GoR.skip rfl rfl rfl ?_
        refine GoR.op rfl rfl rfl rfl ?_
        refine GoR.op rfl rfl rfl rfl ?_
        refine GoR.end (Go.ret noJ_ok (ret_end (aResult_of Try.func179 rfl rfl) ⟨?_, x1⟩))
        rw [← hr]
        simp only [decide_eq_true_eq, decide_eq_false_iff_not] at e1 e2 e3
        simp [oneOrTuple]
        try omega
      | true =>
        have hd : inI64 (hi - lo) := hi64 (by simpa using e1) (by simpa using e2) (by simpa using e3)
        cases e4 : decide (hi - lo ≤ 2) with
        | false =>
          refine GoR.op rfl rfl (fa40_0 rfl) rfl ?_
          refine GoR.op rfl rfl (ld3 rfl f1 rfl) rfl ?_
          refine GoR.op rfl rfl (fa40_1 rfl) rfl ?_
          refine GoR.op rfl rfl (ld3 rfl f1 rfl) rfl ?_
          refine GoR.op rfl rfl (aOp_leq rfl rfl e1) rfl ?_
          refine GoR.op rfl rfl rfl rfl ?_
          refine GoR.op rfl rfl rfl rfl ?_
          refine GoR.op rfl rfl (fa40_0 rfl) rfl ?_
          refine GoR.op rfl rfl (ld3 rfl f1 rfl) rfl ?_
          refine GoR.op rfl rfl (aOp_leq rfl rfl e2) rfl ?_
          refine GoR.op rfl rfl rfl rfl ?_
          refine GoR.op rfl rfl rfl rfl ?_
          refine GoR.op rfl rfl (fa40_1 rfl) rfl ?_
          refine GoR.op rfl rfl (ld3 rfl f1 rfl) rfl ?_
          refine GoR.op rfl rfl rfl rfl ?_
          refine GoR.op rfl rfl (aOp_leq rfl rfl e3) rfl ?_
          refine GoR.op rfl rfl rfl rfl ?_
          refine GoR.op rfl rfl rfl rfl ?_
          refine GoR.op rfl rfl (fa40_1 rfl) rfl ?_
          refine GoR.op rfl rfl (ld3 rfl f1 rfl) rfl ?_
          refine GoR.op rfl rfl (fa40_0 rfl) rfl ?_
          refine GoR.op rfl rfl (ld3 rfl f1 rfl) rfl ?_
          refine GoR.op rfl rfl (aOp_sub rfl rfl hd rfl) rfl ?_
          refine GoR.op rfl rfl (aOp_leq rfl rfl e4) rfl ?_
          refine GoR.op rfl rfl rfl rfl ?_
          refine GoR.op rfl rfl rfl rfl ?_
          refine GoR.end (Go.ret noJ_ok (ret_end (aResult_of Try.func179 rfl rfl) ⟨?_, x1⟩))
          rw [← hr]
          simp only [decide_eq_true_eq, decide_eq_false_iff_not] at e1 e2 e3 e4
          simp [oneOrTuple]
          try omega
        | true =>
          refine GoR.op rfl rfl (fa40_0 rfl) rfl ?_
          refine GoR.op rfl rfl (ld3 rfl f1 rfl) rfl ?_
          refine GoR.op rfl rfl (fa40_1 rfl) rfl ?_
          refine GoR.op rfl rfl (ld3 rfl f1 rfl) rfl ?_
          refine GoR.op rfl rfl (aOp_leq rfl rfl e1) rfl ?_
          refine GoR.op rfl rfl rfl rfl ?_
          refine GoR.op rfl rfl rfl rfl ?_
          refine GoR.op rfl rfl (fa40_0 rfl) rfl ?_
          refine GoR.op rfl rfl (ld3 rfl f1 rfl) rfl ?_
          refine GoR.op rfl rfl (aOp_leq rfl rfl e2) rfl ?_
          refine GoR.op rfl rfl rfl rfl ?_
          refine GoR.op rfl rfl rfl rfl ?_
          refine GoR.op rfl rfl (fa40_1 rfl) rfl ?_
          refine GoR.op rfl rfl (ld3 rfl f1 rfl) rfl ?_
          refine GoR.op rfl rfl rfl rfl ?_
          refine GoR.op rfl rfl (aOp_leq rfl rfl e3) rfl ?_
          refine GoR.op rfl rfl rfl rfl ?_
          refine GoR.op rfl rfl rfl rfl ?_
          refine GoR.op rfl rfl (fa40_1 rfl) rfl ?_
          refine GoR.op rfl rfl (ld3 rfl f1 rfl) rfl ?_
          refine GoR.op rfl rfl (fa40_0 rfl) rfl ?_
          refine GoR.op rfl rfl (ld3 rfl f1 rfl) rfl ?_
          refine GoR.op rfl rfl (aOp_sub rfl rfl hd rfl) rfl ?_
          refine GoR.op rfl rfl (aOp_leq rfl rfl e4) rfl ?_
          refine GoR.op rfl rfl rfl rfl ?_
          refine GoR.op rfl rfl rfl rfl ?_
          refine GoR.end (Go.ret noJ_ok (ret_end (aResult_of Try.func179 rfl rfl) ⟨?_, x1⟩))
          rw [← hr]
          simp only [decide_eq_true_eq, decide_eq_false_iff_not] at e1 e2 e3 e4
          simp [oneOrTuple]
          try omega

theorem markFits_ok (p hh np nh : Int) (s1 s2 : AVal) (hi64 : inI64 (np - 1)) {r : Bool} (hr : decide (0 ≤ p ∧ p ≤ np - 1 ∧ 0 ≤ hh ∧ hh ≤ nh) = r) (h : AH) : Runs Try.prog 162 [.agg [.int .i64 p, .int .i64 hh], .agg [.int .i64 np, .int .i64 nh, s1, s2]] h (fun en h' => en = .ret (.bool r) ∧ Ext h h') := by
  refine Runs.intro aFunc162 rfl rfl rfl rfl fun rest => ?_
  refine Go.seq noJ_ok (Go.region noJ_ok rfl ?_)
  refine GoR.box rfl rfl rfl rfl rfl rfl fun h1 x1 f1 => ?_
  refine GoR.box rfl rfl rfl rfl rfl rfl fun h2 x2 f2 => ?_
  replace f1 := f1.ext x2
  refine GoR.op rfl rfl rfl rfl ?_
  refine GoR.end (Go.seq noJ_ok (Go.region noJ_ok rfl ?_))
  cases e1 : decide (0 ≤ p ∧ p ≤ np - 1) with
  | false =>
    refine GoR.op rfl rfl (fa52_0 rfl) rfl ?_
    refine GoR.op rfl rfl (ld3 rfl f1 rfl) rfl ?_
    refine GoR.op rfl rfl (fa25_0 rfl) rfl ?_
    refine GoR.op rfl rfl (ld3 rfl f2 rfl) rfl ?_
    refine GoR.op rfl rfl (aOp_sub rfl rfl hi64 rfl) rfl ?_
    refine GoR.call rfl rfl (aOp_callFunc aFunc75 rfl) (inside_ok _ _ _ e1 _) ?_ (by rintro _ _ ⟨q, _⟩; cases q)
    rintro _ h3 ⟨q, x3⟩
    cases q
    replace f1 := f1.ext x3
    replace f2 := f2.ext x3
    refine ⟨_, rfl, ?_⟩
    refine GoR.op rfl rfl rfl rfl ?_
    refine GoR.skip rfl rfl rfl ?_
    refine GoR.skip rfl rfl rfl ?_
    refine GoR.skip rfl rfl rfl ?_
    refine GoR.skip rfl rfl rfl ?_
    refine GoR.skip rfl rfl rfl ?_
    refine GoR.op rfl rfl rfl rfl ?_
    refine GoR.op rfl rfl rfl rfl ?_
    refine GoR.end (Go.ret noJ_ok (ret_end (aResult_of Try.func162 rfl rfl) ⟨?_, ((x1).trans x2).trans x3⟩))
    rw [← hr]
    simp only [decide_eq_true_eq, decide_eq_false_iff_not] at e1
    simp [oneOrTuple]
    try omega
  | true =>
    cases e2 : decide (0 ≤ hh ∧ hh ≤ nh) with
    | false =>
      refine GoR.op rfl rfl (fa52_0 rfl) rfl ?_
      refine GoR.op rfl rfl (ld3 rfl f1 rfl) rfl ?_
      refine GoR.op rfl rfl (fa25_0 rfl) rfl ?_
      refine GoR.op rfl rfl (ld3 rfl f2 rfl) rfl ?_
      refine GoR.op rfl rfl (aOp_sub rfl rfl hi64 rfl) rfl ?_
      refine GoR.call rfl rfl (aOp_callFunc aFunc75 rfl) (inside_ok _ _ _ e1 _) ?_ (by rintro _ _ ⟨q, _⟩; cases q)
      rintro _ h3 ⟨q, x3⟩
      cases q
      replace f1 := f1.ext x3
      replace f2 := f2.ext x3
      refine ⟨_, rfl, ?_⟩
      refine GoR.op rfl rfl rfl rfl ?_
      refine GoR.op rfl rfl (fa52_1 rfl) rfl ?_
      refine GoR.op rfl rfl (ld3 rfl f1 rfl) rfl ?_
      refine GoR.op rfl rfl (fa25_1 rfl) rfl ?_
      refine GoR.op rfl rfl (ld3 rfl f2 rfl) rfl ?_
      refine GoR.call rfl rfl (aOp_callFunc aFunc75 rfl) (inside_ok _ _ _ e2 _) ?_ (by rintro _ _ ⟨q, _⟩; cases q)
      rintro _ h4 ⟨q, x4⟩
      cases q
      replace f1 := f1.ext x4
      replace f2 := f2.ext x4
      refine ⟨_, rfl, ?_⟩
      refine GoR.op rfl rfl rfl rfl ?_
      refine GoR.op rfl rfl rfl rfl ?_
      refine GoR.end (Go.ret noJ_ok (ret_end (aResult_of Try.func162 rfl rfl) ⟨?_, (((x1).trans x2).trans x3).trans x4⟩))
      rw [← hr]
      simp only [decide_eq_true_eq, decide_eq_false_iff_not] at e1 e2
      simp [oneOrTuple]
      try omega
    | true =>
      refine GoR.op rfl rfl (fa52_0 rfl) rfl ?_
      refine GoR.op rfl rfl (ld3 rfl f1 rfl) rfl ?_
      refine GoR.op rfl rfl (fa25_0 rfl) rfl ?_
      refine GoR.op rfl rfl (ld3 rfl f2 rfl) rfl ?_
      refine GoR.op rfl rfl (aOp_sub rfl rfl hi64 rfl) rfl ?_
      refine GoR.call rfl rfl (aOp_callFunc aFunc75 rfl) (inside_ok _ _ _ e1 _) ?_ (by rintro _ _ ⟨q, _⟩; cases q)
      rintro _ h3 ⟨q, x3⟩
      cases q
      replace f1 := f1.ext x3
      replace f2 := f2.ext x3
      refine ⟨_, rfl, ?_⟩
      refine GoR.op rfl rfl rfl rfl ?_
      refine GoR.op rfl rfl (fa52_1 rfl) rfl ?_
      refine GoR.op rfl rfl (ld3 rfl f1 rfl) rfl ?_
      refine GoR.op rfl rfl (fa25_1 rfl) rfl ?_
      refine GoR.op rfl rfl (ld3 rfl f2 rfl) rfl ?_
      refine GoR.call rfl rfl (aOp_callFunc aFunc75 rfl) (inside_ok _ _ _ e2 _) ?_ (by rintro _ _ ⟨q, _⟩; cases q)
      rintro _ h4 ⟨q, x4⟩
      cases q
      replace f1 := f1.ext x4
      replace f2 := f2.ext x4
      refine ⟨_, rfl, ?_⟩
      refine GoR.op rfl rfl rfl rfl ?_
      refine GoR.op rfl rfl rfl rfl ?_
      refine GoR.end (Go.ret noJ_ok (ret_end (aResult_of Try.func162 rfl rfl) ⟨?_, (((x1).trans x2).trans x3).trans x4⟩))
      rw [← hr]
      simp only [decide_eq_true_eq, decide_eq_false_iff_not] at e1 e2
      simp [oneOrTuple]
      try omega

theorem fits_ok (o fl fh tl th np nh : Int) (s1 s2 : AVal) (hp : inI64 np) (hp1 : inI64 (np - 1)) (hh1 : inI64 (nh - 1)) {r : Bool} (hr : decide (0 ≤ o ∧ o ≤ nh - 1 ∧ fl ≤ fh ∧ 0 ≤ fl ∧ fh ≤ np - 1 ∧ fh - fl ≤ 2 ∧ tl ≤ th ∧ 1 ≤ tl ∧ th ≤ np ∧ th - tl ≤ 2 ∧ fl < th) = r) (h : AH) : Runs Try.prog 160 [.agg [.int .i64 o, .int .i64 fl, .int .i64 fh, .int .i64 tl, .int .i64 th], .agg [.int .i64 np, .int .i64 nh, s1, s2]] h (fun en h' => en = .ret (.bool r) ∧ Ext h h') := by
  refine Runs.intro aFunc160 rfl rfl rfl rfl fun rest => ?_
  refine Go.seq noJ_ok (Go.region noJ_ok rfl ?_)
  refine GoR.box rfl rfl rfl rfl rfl rfl fun h1 x1 f1 => ?_
  refine GoR.box rfl rfl rfl rfl rfl rfl fun h2 x2 f2 => ?_
  replace f1 := f1.ext x2
  refine GoR.op rfl rfl rfl rfl ?_
  refine GoR.end (Go.seq noJ_ok (Go.region noJ_ok rfl ?_))
  have g1 : fl ≤ fh → 0 ≤ fl → fh ≤ np - 1 → inI64 (fh - fl) := by obtain ⟨q1, q2⟩ := hp1; intros; constructor <;> omega
  have g2 : tl ≤ th → 1 ≤ tl → th ≤ np → inI64 (th - tl) := by obtain ⟨q1, q2⟩ := hp; intros; constructor <;> omega
  cases e1 : decide (0 ≤ o ∧ o ≤ nh - 1) with
  | false =>
    refine GoR.op rfl rfl (fa195_0 rfl) rfl ?_
    refine GoR.op rfl rfl (ld3 rfl f1 rfl) rfl ?_
    refine GoR.op rfl rfl (fa25_1 rfl) rfl ?_
    refine GoR.op rfl rfl (ld3 rfl f2 rfl) rfl ?_
    refine GoR.op rfl rfl (aOp_sub rfl rfl hh1 rfl) rfl ?_
    refine GoR.call rfl rfl (aOp_callFunc aFunc75 rfl) (inside_ok _ _ _ e1 _) ?_ (by rintro _ _ ⟨q, _⟩; cases q)
    rintro _ h3 ⟨q, x3⟩
    cases q
    replace f1 := f1.ext x3
    replace f2 := f2.ext x3
    refine ⟨_, rfl, ?_⟩
    refine GoR.op rfl rfl rfl rfl ?_
    refine GoR.skip rfl rfl rfl ?_
    refine GoR.skip rfl rfl rfl ?_
    refine GoR.skip rfl rfl rfl ?_
    refine GoR.skip rfl rfl rfl ?_
    refine GoR.skip rfl rfl rfl ?_
    refine GoR.skip rfl rfl rfl ?_
    refine GoR.op rfl rfl rfl rfl ?_
    refine GoR.op rfl rfl rfl rfl ?_
    refine GoR.skip rfl rfl rfl ?_
    refine GoR.skip rfl rfl rfl ?_
    refine GoR.skip rfl rfl rfl ?_
    refine GoR.skip rfl rfl rfl ?_
    refine GoR.skip rfl rfl rfl ?_
    refine GoR.op rfl rfl rfl rfl ?_
    refine GoR.op rfl rfl rfl rfl ?_
    refine GoR.skip rfl rfl rfl ?_
    refine GoR.skip rfl rfl rfl ?_
    refine GoR.skip rfl rfl rfl ?_
    refine GoR.skip rfl rfl rfl ?_
    refine GoR.skip rfl rfl rfl ?_
    refine GoR.skip rfl rfl rfl ?_
    refine GoR.skip rfl rfl rfl ?_
    refine GoR.op rfl rfl rfl rfl ?_
    refine GoR.op rfl rfl rfl rfl ?_
    refine GoR.end (Go.ret noJ_ok (ret_end (aResult_of Try.func160 rfl rfl) ⟨?_, ((x1).trans x2).trans x3⟩))
    rw [← hr]
    simp only [decide_eq_true_eq, decide_eq_false_iff_not] at e1
    simp [oneOrTuple]
    try omega
  | true =>
    cases e2 : decide (fl ≤ fh ∧ 0 ≤ fl ∧ fh ≤ np - 1 ∧ fh - fl ≤ 2) with
    | false =>
      refine GoR.op rfl rfl (fa195_0 rfl) rfl ?_
      refine GoR.op rfl rfl (ld3 rfl f1 rfl) rfl ?_
      refine GoR.op rfl rfl (fa25_1 rfl) rfl ?_
      refine GoR.op rfl rfl (ld3 rfl f2 rfl) rfl ?_
      refine GoR.op rfl rfl (aOp_sub rfl rfl hh1 rfl) rfl ?_
      refine GoR.call rfl rfl (aOp_callFunc aFunc75 rfl) (inside_ok _ _ _ e1 _) ?_ (by rintro _ _ ⟨q, _⟩; cases q)
      rintro _ h3 ⟨q, x3⟩
      cases q
      replace f1 := f1.ext x3
      replace f2 := f2.ext x3
      refine ⟨_, rfl, ?_⟩
      refine GoR.op rfl rfl rfl rfl ?_
      refine GoR.op rfl rfl (fa195_1 rfl) rfl ?_
      refine GoR.op rfl rfl (ld40 rfl f1 rfl) rfl ?_
      refine GoR.op rfl rfl (fa25_0 rfl) rfl ?_
      refine GoR.op rfl rfl (ld3 rfl f2 rfl) rfl ?_
      refine GoR.op rfl rfl (aOp_sub rfl rfl hp1 rfl) rfl ?_
      refine GoR.call rfl rfl (aOp_callFunc aFunc179 rfl) (placed_ok _ _ _ _ g1 e2 _) ?_ (by rintro _ _ ⟨q, _⟩; cases q)
      rintro _ h4 ⟨q, x4⟩
      cases q
      replace f1 := f1.ext x4
      replace f2 := f2.ext x4
      refine ⟨_, rfl, ?_⟩
      refine GoR.op rfl rfl rfl rfl ?_
      refine GoR.op rfl rfl rfl rfl ?_
      refine GoR.skip rfl rfl rfl ?_
      refine GoR.skip rfl rfl rfl ?_
      refine GoR.skip rfl rfl rfl ?_
      refine GoR.skip rfl rfl rfl ?_
      refine GoR.skip rfl rfl rfl ?_
      refine GoR.op rfl rfl rfl rfl ?_
      refine GoR.op rfl rfl rfl rfl ?_
      refine GoR.skip rfl rfl rfl ?_
      refine GoR.skip rfl rfl rfl ?_
      refine GoR.skip rfl rfl rfl ?_
      refine GoR.skip rfl rfl rfl ?_
      refine GoR.skip rfl rfl rfl ?_
      refine GoR.skip rfl rfl rfl ?_
      refine GoR.skip rfl rfl rfl ?_
      refine GoR.op rfl rfl rfl rfl ?_
      refine GoR.op rfl rfl rfl rfl ?_
      refine GoR.end (Go.ret noJ_ok (ret_end (aResult_of Try.func160 rfl rfl) ⟨?_, (((x1).trans x2).trans x3).trans x4⟩))
      rw [← hr]
      simp only [decide_eq_true_eq, decide_eq_false_iff_not] at e1 e2
      simp [oneOrTuple]
      try omega
    | true =>
      cases e3 : decide (tl ≤ th ∧ 1 ≤ tl ∧ th ≤ np ∧ th - tl ≤ 2) with
      | false =>
        refine GoR.op rfl rfl (fa195_0 rfl) rfl ?_
        refine GoR.op rfl rfl (ld3 rfl f1 rfl) rfl ?_
        refine GoR.op rfl rfl (fa25_1 rfl) rfl ?_
        refine GoR.op rfl rfl (ld3 rfl f2 rfl) rfl ?_
        refine GoR.op rfl rfl (aOp_sub rfl rfl hh1 rfl) rfl ?_
        refine GoR.call rfl rfl (aOp_callFunc aFunc75 rfl) (inside_ok _ _ _ e1 _) ?_ (by rintro _ _ ⟨q, _⟩; cases q)
        rintro _ h3 ⟨q, x3⟩
        cases q
        replace f1 := f1.ext x3
        replace f2 := f2.ext x3
        refine ⟨_, rfl, ?_⟩
        refine GoR.op rfl rfl rfl rfl ?_
        refine GoR.op rfl rfl (fa195_1 rfl) rfl ?_
        refine GoR.op rfl rfl (ld40 rfl f1 rfl) rfl ?_
        refine GoR.op rfl rfl (fa25_0 rfl) rfl ?_
        refine GoR.op rfl rfl (ld3 rfl f2 rfl) rfl ?_
        refine GoR.op rfl rfl (aOp_sub rfl rfl hp1 rfl) rfl ?_
        refine GoR.call rfl rfl (aOp_callFunc aFunc179 rfl) (placed_ok _ _ _ _ g1 e2 _) ?_ (by rintro _ _ ⟨q, _⟩; cases q)
        rintro _ h4 ⟨q, x4⟩
        cases q
        replace f1 := f1.ext x4
        replace f2 := f2.ext x4
        refine ⟨_, rfl, ?_⟩
        refine GoR.op rfl rfl rfl rfl ?_
        refine GoR.op rfl rfl rfl rfl ?_
        refine GoR.op rfl rfl (fa195_2 rfl) rfl ?_
        refine GoR.op rfl rfl (ld40 rfl f1 rfl) rfl ?_
        refine GoR.op rfl rfl (fa25_0 rfl) rfl ?_
        refine GoR.op rfl rfl (ld3 rfl f2 rfl) rfl ?_
        refine GoR.call rfl rfl (aOp_callFunc aFunc179 rfl) (placed_ok _ _ _ _ g2 e3 _) ?_ (by rintro _ _ ⟨q, _⟩; cases q)
        rintro _ h5 ⟨q, x5⟩
        cases q
        replace f1 := f1.ext x5
        replace f2 := f2.ext x5
        refine ⟨_, rfl, ?_⟩
        refine GoR.op rfl rfl rfl rfl ?_
        refine GoR.op rfl rfl rfl rfl ?_
        refine GoR.skip rfl rfl rfl ?_
        refine GoR.skip rfl rfl rfl ?_
        refine GoR.skip rfl rfl rfl ?_
        refine GoR.skip rfl rfl rfl ?_
        refine GoR.skip rfl rfl rfl ?_
        refine GoR.skip rfl rfl rfl ?_
        refine GoR.skip rfl rfl rfl ?_
        refine GoR.op rfl rfl rfl rfl ?_
        refine GoR.op rfl rfl rfl rfl ?_
        refine GoR.end (Go.ret noJ_ok (ret_end (aResult_of Try.func160 rfl rfl) ⟨?_, ((((x1).trans x2).trans x3).trans x4).trans x5⟩))
        rw [← hr]
        simp only [decide_eq_true_eq, decide_eq_false_iff_not] at e1 e2 e3
        simp [oneOrTuple]
        try omega
      | true =>
        cases e4 : decide (fl < th) with
        | false =>
          refine GoR.op rfl rfl (fa195_0 rfl) rfl ?_
          refine GoR.op rfl rfl (ld3 rfl f1 rfl) rfl ?_
          refine GoR.op rfl rfl (fa25_1 rfl) rfl ?_
          refine GoR.op rfl rfl (ld3 rfl f2 rfl) rfl ?_
          refine GoR.op rfl rfl (aOp_sub rfl rfl hh1 rfl) rfl ?_
          refine GoR.call rfl rfl (aOp_callFunc aFunc75 rfl) (inside_ok _ _ _ e1 _) ?_ (by rintro _ _ ⟨q, _⟩; cases q)
          rintro _ h3 ⟨q, x3⟩
          cases q
          replace f1 := f1.ext x3
          replace f2 := f2.ext x3
          refine ⟨_, rfl, ?_⟩
          refine GoR.op rfl rfl rfl rfl ?_
          refine GoR.op rfl rfl (fa195_1 rfl) rfl ?_
          refine GoR.op rfl rfl (ld40 rfl f1 rfl) rfl ?_
          refine GoR.op rfl rfl (fa25_0 rfl) rfl ?_
          refine GoR.op rfl rfl (ld3 rfl f2 rfl) rfl ?_
          refine GoR.op rfl rfl (aOp_sub rfl rfl hp1 rfl) rfl ?_
          refine GoR.call rfl rfl (aOp_callFunc aFunc179 rfl) (placed_ok _ _ _ _ g1 e2 _) ?_ (by rintro _ _ ⟨q, _⟩; cases q)
          rintro _ h4 ⟨q, x4⟩
          cases q
          replace f1 := f1.ext x4
          replace f2 := f2.ext x4
          refine ⟨_, rfl, ?_⟩
          refine GoR.op rfl rfl rfl rfl ?_
          refine GoR.op rfl rfl rfl rfl ?_
          refine GoR.op rfl rfl (fa195_2 rfl) rfl ?_
          refine GoR.op rfl rfl (ld40 rfl f1 rfl) rfl ?_
          refine GoR.op rfl rfl (fa25_0 rfl) rfl ?_
          refine GoR.op rfl rfl (ld3 rfl f2 rfl) rfl ?_
          refine GoR.call rfl rfl (aOp_callFunc aFunc179 rfl) (placed_ok _ _ _ _ g2 e3 _) ?_ (by rintro _ _ ⟨q, _⟩; cases q)
          rintro _ h5 ⟨q, x5⟩
          cases q
          replace f1 := f1.ext x5
          replace f2 := f2.ext x5
          refine ⟨_, rfl, ?_⟩
          refine GoR.op rfl rfl rfl rfl ?_
          refine GoR.op rfl rfl rfl rfl ?_
          refine GoR.op rfl rfl (fa195_1 rfl) rfl ?_
          refine GoR.op rfl rfl (fa40_0 rfl) rfl ?_
          refine GoR.op rfl rfl (ld3 rfl f1 rfl) rfl ?_
          refine GoR.op rfl rfl (fa195_2 rfl) rfl ?_
          refine GoR.op rfl rfl (fa40_1 rfl) rfl ?_
          refine GoR.op rfl rfl (ld3 rfl f1 rfl) rfl ?_
          refine GoR.op rfl rfl (aOp_lss rfl rfl e4) rfl ?_
          refine GoR.op rfl rfl rfl rfl ?_
          refine GoR.op rfl rfl rfl rfl ?_
          refine GoR.end (Go.ret noJ_ok (ret_end (aResult_of Try.func160 rfl rfl) ⟨?_, ((((x1).trans x2).trans x3).trans x4).trans x5⟩))
          rw [← hr]
          simp only [decide_eq_true_eq, decide_eq_false_iff_not] at e1 e2 e3 e4
          simp [oneOrTuple]
          try omega
        | true =>
          refine GoR.op rfl rfl (fa195_0 rfl) rfl ?_
          refine GoR.op rfl rfl (ld3 rfl f1 rfl) rfl ?_
          refine GoR.op rfl rfl (fa25_1 rfl) rfl ?_
          refine GoR.op rfl rfl (ld3 rfl f2 rfl) rfl ?_
          refine GoR.op rfl rfl (aOp_sub rfl rfl hh1 rfl) rfl ?_
          refine GoR.call rfl rfl (aOp_callFunc aFunc75 rfl) (inside_ok _ _ _ e1 _) ?_ (by rintro _ _ ⟨q, _⟩; cases q)
          rintro _ h3 ⟨q, x3⟩
          cases q
          replace f1 := f1.ext x3
          replace f2 := f2.ext x3
          refine ⟨_, rfl, ?_⟩
          refine GoR.op rfl rfl rfl rfl ?_
          refine GoR.op rfl rfl (fa195_1 rfl) rfl ?_
          refine GoR.op rfl rfl (ld40 rfl f1 rfl) rfl ?_
          refine GoR.op rfl rfl (fa25_0 rfl) rfl ?_
          refine GoR.op rfl rfl (ld3 rfl f2 rfl) rfl ?_
          refine GoR.op rfl rfl (aOp_sub rfl rfl hp1 rfl) rfl ?_
          refine GoR.call rfl rfl (aOp_callFunc aFunc179 rfl) (placed_ok _ _ _ _ g1 e2 _) ?_ (by rintro _ _ ⟨q, _⟩; cases q)
          rintro _ h4 ⟨q, x4⟩
          cases q
          replace f1 := f1.ext x4
          replace f2 := f2.ext x4
          refine ⟨_, rfl, ?_⟩
          refine GoR.op rfl rfl rfl rfl ?_
          refine GoR.op rfl rfl rfl rfl ?_
          refine GoR.op rfl rfl (fa195_2 rfl) rfl ?_
          refine GoR.op rfl rfl (ld40 rfl f1 rfl) rfl ?_
          refine GoR.op rfl rfl (fa25_0 rfl) rfl ?_
          refine GoR.op rfl rfl (ld3 rfl f2 rfl) rfl ?_
          refine GoR.call rfl rfl (aOp_callFunc aFunc179 rfl) (placed_ok _ _ _ _ g2 e3 _) ?_ (by rintro _ _ ⟨q, _⟩; cases q)
          rintro _ h5 ⟨q, x5⟩
          cases q
          replace f1 := f1.ext x5
          replace f2 := f2.ext x5
          refine ⟨_, rfl, ?_⟩
          refine GoR.op rfl rfl rfl rfl ?_
          refine GoR.op rfl rfl rfl rfl ?_
          refine GoR.op rfl rfl (fa195_1 rfl) rfl ?_
          refine GoR.op rfl rfl (fa40_0 rfl) rfl ?_
          refine GoR.op rfl rfl (ld3 rfl f1 rfl) rfl ?_
          refine GoR.op rfl rfl (fa195_2 rfl) rfl ?_
          refine GoR.op rfl rfl (fa40_1 rfl) rfl ?_
          refine GoR.op rfl rfl (ld3 rfl f1 rfl) rfl ?_
          refine GoR.op rfl rfl (aOp_lss rfl rfl e4) rfl ?_
          refine GoR.op rfl rfl rfl rfl ?_
          refine GoR.op rfl rfl rfl rfl ?_
          refine GoR.end (Go.ret noJ_ok (ret_end (aResult_of Try.func160 rfl rfl) ⟨?_, ((((x1).trans x2).trans x3).trans x4).trans x5⟩))
          rw [← hr]
          simp only [decide_eq_true_eq, decide_eq_false_iff_not] at e1 e2 e3 e4
          simp [oneOrTuple]
          try omega

end Go.Proofs.Ytidfcmjlfadieaa

namespace Go.Proofs.Ytidfcmjlfadieaa
open Go Go.AbsE
set_option maxRecDepth 100000
set_option linter.unusedVariables false
theorem zt52 : zeroT Try.prog 52 = some (.agg [.int .i64 0, .int .i64 0]) := by kernel_rfl
theorem splice_all {α : Type} : ∀ {l m : List α}, l.length = m.length → splice l 0 m = some m := by
  intro l
  induction l with
  | nil => intro m hm; cases m with | nil => rfl | cons a m => simp at hm
  | cons a l ih =>
    intro m hm
    cases m with
    | nil => simp at hm
    | cons b m => simp only [splice, ih (m := m) (by simpa using hm)]

theorem zt57 : zeroT Try.prog 57 = some (.agg [.int .i64 0, .int .i64 0, .int .i64 0, .int .i64 0, .int .i64 0]) := by kernel_rfl
theorem by195 : bytesT Try.prog 195 = some 40 := by kernel_rfl
theorem zt195 : zeroT Try.prog 195 = some (.agg [.int .i64 0, .int .i64 0, .int .i64 0, .int .i64 0, .int .i64 0]) := by kernel_rfl

theorem zt92 : zeroT Try.prog 92 = some (.agg [.int .i64 0, .int .i64 0, .nilslice, .nilslice]) := by kernel_rfl
theorem zt90 : zeroT Try.prog 90 = some (.agg [.nilslice]) := by kernel_rfl
theorem pl92 : ∀ fs, Try.prog.underlying 92 = some (.struct fs) → placesT Try.prog fs.toList = some [(0, 1), (1, 1), (2, 1), (3, 1)] := by
  intro fs h
  rw [Try.underlying92] at h
  cases h
  kernel_rfl
theorem pl90 : ∀ fs, Try.prog.underlying 90 = some (.struct fs) → placesT Try.prog fs.toList = some [(0, 1)] := by
  intro fs h
  rw [Try.underlying90] at h
  cases h
  kernel_rfl
theorem cells_agg (l : List AVal) : (AVal.agg l).cells = l := rfl
theorem scal1 {v : AVal} (h : scalars [v] = true) : scalar v = true := by
  unfold scalars at h
  cases q : scalar v with
  | true => rfl
  | false => rw [q] at h; cases h
theorem scal4 {a b : Int} {s m : AVal} (hs : scalars [s] = true) (hm : scalars [m] = true) : scalars (AVal.agg [.int .i64 a, .int .i64 b, s, m]).cells = true := by
  show scalars [.int .i64 a, .int .i64 b, s, m] = true
  have e1 := scal1 hs
  have e2 := scal1 hm
  simp [scalars, e1, e2, show ∀ k n, scalar (.int k n) = true from fun _ _ => rfl]
end Go.Proofs.Ytidfcmjlfadieaa

namespace Go.Proofs.Ytidfcmjlfadieaa
open Go Go.AbsE
set_option maxRecDepth 100000
set_option linter.unusedVariables false
def Five (l : List AVal) : Prop := ∃ a b c d e : AVal, l = [a, b, c, d, e] ∧ scalars l = true

theorem leases_ok (np nh : Int) (s marks : AVal) (L : List (List AVal)) (h : AH) (hL : L.length ≤ 100) (h5 : ∀ l, l ∈ L → Five l) (hs : SliceOf h 5 s L) :
    Runs Try.prog 159 [.agg [.int .i64 np, .int .i64 nh, s, marks]] h (fun en h' => ∃ s', en = .ret s' ∧ Ext h h' ∧ Grow h' 195 5 h.next s' L.length L.flatten) := by
  refine Runs.intro aFunc159 rfl rfl rfl rfl fun rest => ?_
  refine Go.seq noJ_ok (Go.region noJ_ok rfl ?_)
  refine GoR.box rfl rfl rfl rfl rfl rfl fun h1 x1 f1 => ?_
  refine GoR.op rfl rfl rfl rfl ?_
  refine GoR.end (Go.seq noJ_ok (Go.region noJ_ok rfl ?_))
  refine GoR.op rfl rfl rfl rfl ?_
  refine GoR.end (Go.seq noJ_ok (Go.seq noJ_ok (Go.region noJ_ok rfl ?_)))
  refine GoR.op rfl rfl (fa25_2 rfl) rfl ?_
  refine GoR.op rfl rfl (ld22 rfl f1 rfl) rfl ?_
  refine GoR.op rfl rfl (aOp_lenSlice Try.underlying22 rfl hs.len) rfl ?_
  refine GoR.op rfl rfl rfl rfl ?_
  refine GoR.end (Go.block noJ_ok ?_)
  refine Go.keep [(3, .nilslice), (7, s), (8, .int .i64 L.length), (9, .int .i64 0)] ⟨rfl, rfl, rfl, rfl, trivial⟩ ?_
  refine Go.loopInv (fun n t h' => ∃ i s', n + i = L.length ∧ t = keepT [(3, s'), (7, s), (8, .int .i64 L.length), (9, .int .i64 (Int.ofNat i))] ∧ Ext h h' ∧ Grow h' 195 5 h.next s' i (L.take i).flatten) (n := L.length) ⟨0, .nilslice, rfl, rfl, x1, rfl, .inl ⟨rfl, rfl⟩⟩ ?_
  rintro n t h2 ⟨i, s', hn, rfl, x2, hg⟩ again
  refine Go.seq noJ_ok (Go.region noJ_ok rfl ?_)
  by_cases hi : i < L.length
  · refine GoR.op rfl rfl (aOp_lss rfl rfl (r := true) (by simp; omega)) rfl ?_
    refine GoR.end (Go.seq noJ_ok (Go.cond noJ_ok rfl (Go.code noJ_ok ?_)))
    refine Go.seq noJ_ok (Go.block noJ_ok (Go.seq noJ_ok (Go.region noJ_ok rfl ?_)))
    obtain ⟨l, hl⟩ : ∃ l, L[i]? = some l := ⟨L[i], by simp [hi]⟩
    obtain ⟨b, off, k1, k2⟩ := (hs.ext x2).at hl
    refine GoR.op rfl rfl (aOp_indexAddr Try.underlying22 sz57 rfl k1 rfl (Nat.ble_eq_true_of_le hi)) rfl ?_
    refine GoR.op rfl rfl (aOp_loadE ag57 sz57 rfl k2) rfl ?_
    obtain ⟨c0, c1, c2, c3, c4, rfl, hsc⟩ := h5 l (List.mem_of_getElem? hl)
    refine GoR.alloc rfl rfl rfl zt57 rfl rfl fun h3 x3 f3 => ?_
    refine GoR.store rfl rfl rfl rfl rfl rfl f3 rfl sz57 rfl hsc rfl fun h4 u4 => ?_
    refine GoR.end (Go.region noJ_ok rfl ?_)
    refine GoR.op rfl rfl rfl rfl ?_
    refine GoR.op rfl rfl (ld57 rfl (u4.has f3) rfl) rfl ?_
    refine GoR.build1 rfl rfl rfl Try.underlying88 sz195 zt195 rfl rfl rfl rfl rfl rfl fun h5 x5 f5 => ?_
    have x4 : Ext h h5 := (x2.trans (x3.upd u4 (Nat.le_refl _))).trans x5
    refine GoR.append1 (h0 := h) (s := s') (n := i) (cs := (L.take i).flatten) rfl rfl rfl Try.underlying88 Try.underlying88 sz195 by195 zt195 rfl rfl rfl rfl f5 rfl hsc ((hg.ext (x3.upd u4 (Nat.le_refl _))).ext x5) (by omega) x4 rfl rfl fun s1 h6 x6 g6 => ?_
    refine GoR.op rfl rfl rfl rfl ?_
    refine GoR.end (Go.inBlock noJ_ok (Go.region noJ_ok rfl ?_))
    have hi64 : inI64 (Int.ofNat i + 1) := by constructor <;> simp <;> omega
    refine GoR.op rfl rfl (aOp_add rfl rfl hi64 rfl) rfl ?_
    refine GoR.op rfl rfl rfl rfl ?_
    refine GoR.end ?_
    refine Go.keep [(3, s1), (7, s), (8, .int .i64 L.length), (9, .int .i64 (Int.ofNat i + 1))] ⟨rfl, rfl, rfl, rfl, trivial⟩ ?_
    refine again (n - 1) _ _ (by omega) ⟨i + 1, s1, by omega, rfl, x6, ?_⟩
    rw [List.take_add_one, hl]
    simpa [AVal.cells] using g6
  · refine GoR.op rfl rfl (aOp_lss rfl rfl (r := false) (by simp; omega)) rfl ?_
    refine GoR.end (Go.seq noJ_ok (Go.cond noJ_ok rfl (Go.code noJ_ok ?_)))
    refine Go.seq noJ_ok (Go.region noJ_ok rfl ?_)
    refine GoR.op rfl rfl rfl rfl ?_
    refine GoR.op rfl rfl rfl rfl ?_
    refine GoR.end (Go.ret noJ_ok (ret_end (aResult_of Try.func159 rfl rfl) ?_))
    have : i = L.length := by omega
    subst this
    rw [List.take_length] at hg
    exact ⟨s', rfl, x2, hg⟩

noncomputable def ops118 : Array Oper := ((drawnOps Try.f118)[0]?).getD #[]
theorem plan118 : plan ops118 = some (mkPlan ops118.toList [(0, 0, true, false), (1, 1, true, false), (2, 0, true, false), (3, 4, true, false), (4, 0, true, false),
        (6, 0, true, false), (7, 64, true, false), (8, 192, true, false), (5, 16, false, false), (9, 511, true, false),
        (10, 1023, false, false)]) := by kernel_rfl

theorem survey_ok (np nh : Int) (s marks : AVal) (L : List (List AVal)) (h : AH) (hL : L.length ≤ 100) (h5 : ∀ l, l ∈ L → Five l) (hs : SliceOf h 5 s L) (hss : sameA s s = true) (hsm : sameA marks marks = true) (hmc : marks.cells = [marks]) (hms : scalars [marks] = true) :
    Runs Try.prog 118 [.agg [.int .i64 np, .int .i64 nh, s, marks]] h (fun en h' => ∃ s', en = .ret (.agg [.int .i64 np, .int .i64 nh, s', marks]) ∧ Ext h h' ∧ Grow h' 195 5 h.next s' L.length L.flatten) := by
  refine Runs.intro aFunc118 rfl rfl rfl rfl fun rest => ?_
  refine Go.seq noJ_ok (Go.region noJ_ok rfl ?_)
  refine GoR.box rfl rfl rfl rfl rfl rfl fun h1 x1 f1 => ?_
  refine GoR.alloc rfl rfl rfl zt92 rfl rfl fun h2 x2 f2 => ?_
  replace f1 := f1.ext x2
  refine GoR.end (Go.seq noJ_ok (Go.drawn plan118 ?_))
  refine GoD.quiet rfl rfl (fun h' x => fa25_0 rfl) (by simp [sameA]) rfl ?_
  refine GoD.quiet rfl rfl (fun h' x => ld3 rfl (f1.ext x) rfl) (sameA_int _ _) rfl ?_
  refine GoD.quiet rfl rfl (fun h' x => fa25_1 rfl) (by simp [sameA]) rfl ?_
  refine GoD.quiet rfl rfl (fun h' x => ld3 rfl (f1.ext x) rfl) (sameA_int _ _) rfl ?_
  refine GoD.quiet (v := .agg [.int .i64 np, .int .i64 nh, s, marks]) rfl rfl (fun h' x => ld25 rfl (f1.ext x) rfl) (by simp [sameA, sameAs, eqI_eq, hss, hsm]) rfl ?_
  refine GoD.quiet rfl rfl (fun h' x => fa25_3 rfl) (by simp [sameA]) rfl ?_
  refine GoD.quiet rfl rfl (fun h' x => ld23 rfl (f1.ext x) rfl) hsm rfl ?_
  refine GoD.quiet (v := .agg [marks]) rfl rfl (fun h' x => aOp_build zt90 Try.underlying90 (pl90 _ Try.underlying90) rfl (by simp [aFillA, hmc, cells_agg, splice])) (by simp [sameA, sameAs, hsm]) rfl ?_
  refine GoD.call rfl rfl (aOp_callFunc aFunc159 rfl) (leases_ok np nh s marks L h2 hL h5 (hs.ext (x1.trans x2))) ?_ (by rintro _ _ ⟨_, q, _⟩; cases q)
  rintro _ h3 ⟨s', q, x3, g3⟩
  have q := (AEnd.ret.inj q).symm
  subst q
  refine ⟨x3, _, rfl, ?_⟩
  have hsc' : s'.cells = [s'] ∧ scalars [s'] = true ∧ sameA s' s' = true := by
    obtain ⟨_, ⟨rfl, _⟩ | ⟨_, b, _, rfl, _⟩⟩ := g3
    · exact ⟨rfl, rfl, rfl⟩
    · exact ⟨rfl, rfl, by simp [sameA]⟩
  obtain ⟨k1, k2, k3⟩ := hsc'
  refine GoD.quiet (v := .agg [.int .i64 np, .int .i64 nh, s', marks]) rfl rfl (fun h' x => aOp_build zt92 Try.underlying92 (pl92 _ Try.underlying92) rfl (by simp [aFillA, k1, cells_agg, splice, AVal.cells.eq_def (.int _ _)])) (by simp [sameA, sameAs, eqI_eq, k3, hsm]) rfl ?_
  refine GoD.store rfl rfl rfl rfl (by kernel_rfl) rfl rfl (f2.ext x3) rfl sz92 rfl (scal4 k2 hms) rfl fun h4 u4 => ?_
  refine GoD.end rfl (Go.ret noJ_ok (ret_end (aResult_of Try.func118 rfl (aResults_cell rfl (u4.has (f2.ext x3)) (inCells_agg ag92 sz92 rfl))) ⟨s', rfl, ?_, ?_⟩))
  · exact ((x1.trans x2).trans x3).upd u4 x1.1
  · exact (g3.upd u4 f2.1).low (x1.trans x2).1
end Go.Proofs.Ytidfcmjlfadieaa

namespace Go.Proofs.Ytidfcmjlfadieaa
open Go Go.AbsE
set_option maxRecDepth 100000
set_option linter.unusedVariables false
theorem all158_ok (F : FuncId) (fF : Func) (hF : aFunc Try.prog F = some fF) (bank : List AVal) (hbl : bank.length = 4) (s : AVal) (L : List (List AVal)) (f : List AVal → Bool) (h : AH) (hL : L.length ≤ 100) (h5 : ∀ l, l ∈ L → l.length = 5 ∧ scalars l = true) (hs : SliceOf h 5 s L)
    (hf : ∀ l, l ∈ L → ∀ h', Runs Try.prog F [.agg l, .agg bank] h' (fun en h'' => en = .ret (.bool (f l)) ∧ Ext h' h'')) :
    Runs Try.prog 158 [s, .func (.func F) [] [], .agg bank] h (fun en h' => en = .ret (.bool (L.all f)) ∧ Ext h h') := by
  refine Runs.intro aFunc158 rfl rfl rfl rfl fun rest => ?_
  refine Go.seq noJ_ok (Go.region noJ_ok rfl ?_)
  refine GoR.box rfl rfl rfl rfl rfl rfl fun h1 x1 f1 => ?_
  refine GoR.op rfl rfl rfl rfl ?_
  refine GoR.end (Go.seq noJ_ok (Go.seq noJ_ok (Go.region noJ_ok rfl ?_)))
  refine GoR.op rfl rfl rfl rfl ?_
  refine GoR.op rfl rfl (aOp_lenSlice Try.underlying88 rfl hs.len) rfl ?_
  refine GoR.op rfl rfl rfl rfl ?_
  refine GoR.end (Go.block noJ_ok ?_)
  refine Go.keep [(1, .func (.func F) [] []), (5, .ptr h.next 0), (9, s), (10, .int .i64 L.length), (11, .int .i64 0)] ⟨rfl, rfl, rfl, rfl, rfl, trivial⟩ ?_
  refine Go.loopInv (fun n t h' => ∃ i, n + i = L.length ∧ t = keepT [(1, .func (.func F) [] []), (5, .ptr h.next 0), (9, s), (10, .int .i64 L.length), (11, .int .i64 (Int.ofNat i))] ∧ Ext h1 h' ∧ (L.take i).all f = true) (n := L.length) ⟨0, rfl, rfl, Ext.refl _, rfl⟩ ?_
  rintro n t h2 ⟨i, hn, rfl, x2, ha⟩ again
  replace f1 := f1.ext x2
  refine Go.seq noJ_ok (Go.region noJ_ok rfl ?_)
  by_cases hi : i < L.length
  · refine GoR.op rfl rfl (aOp_lss rfl rfl (r := true) (by simp; omega)) rfl ?_
    refine GoR.end (Go.seq noJ_ok (Go.cond noJ_ok rfl (Go.code noJ_ok ?_)))
    refine Go.seq noJ_ok (Go.block noJ_ok (Go.seq noJ_ok (Go.region noJ_ok rfl ?_)))
    obtain ⟨l, hl⟩ : ∃ l, L[i]? = some l := ⟨L[i], by simp [hi]⟩
    have hm := List.mem_of_getElem? hl
    obtain ⟨b, off, k1, k2⟩ := (hs.ext (x1.trans x2)).at hl
    refine GoR.op rfl rfl (aOp_indexAddr Try.underlying88 sz195 rfl k1 rfl (Nat.ble_eq_true_of_le hi)) rfl ?_
    refine GoR.op rfl rfl (aOp_loadE ag195 sz195 rfl k2) rfl ?_
    obtain ⟨hl5, hsc⟩ := h5 l hm
    refine GoR.alloc rfl rfl rfl zt195 rfl rfl fun h3 x3 f3 => ?_
    refine GoR.store rfl rfl rfl rfl rfl rfl f3 rfl sz195 (by simp [cells_agg, hl5]) hsc (splice_all (by simp [cells_agg, hl5])) fun h4 u4 => ?_
    have x4 : Ext h2 h4 := x3.upd u4 (Nat.le_refl _)
    replace f1 := f1.ext x4
    refine GoR.end (Go.seq noJ_ok (Go.region noJ_ok rfl ?_))
    refine GoR.op rfl rfl rfl rfl ?_
    refine GoR.op rfl rfl (ld195 rfl (u4.has f3) (slice_all (by simp [cells_agg, hl5]))) rfl ?_
    refine GoR.op rfl rfl (ld25 rfl f1 (slice_all (by simp [cells_agg, hbl]))) rfl ?_
    refine GoR.call rfl rfl (aOp_callVal rfl hF rfl) (hf l hm h4) ?_ (by rintro _ _ ⟨q, _⟩; cases q)
    rintro _ h5 ⟨q, x5⟩
    have q := (AEnd.ret.inj q).symm
    subst q
    refine ⟨_, rfl, ?_⟩
    refine GoR.op rfl rfl rfl rfl ?_
    have hmore : (L.take (i + 1)).all f = f l := by rw [List.take_add_one, hl]; simp [ha]
    cases hfl : f l with
    | true =>
      rw [hfl] at hmore
      refine GoR.end (Go.cond noJ_ok (b := false) rfl (Go.code noJ_ok ?_))
      refine Go.inBlock noJ_ok (Go.region noJ_ok rfl ?_)
      have hi64 : inI64 (Int.ofNat i + 1) := by constructor <;> simp <;> omega
      refine GoR.op rfl rfl (aOp_add rfl rfl hi64 rfl) rfl ?_
      refine GoR.op rfl rfl rfl rfl ?_
      refine GoR.end ?_
      refine Go.keep [(1, .func (.func F) [] []), (5, .ptr h.next 0), (9, s), (10, .int .i64 L.length), (11, .int .i64 (Int.ofNat i + 1))] ⟨rfl, rfl, rfl, rfl, rfl, trivial⟩ ?_
      exact again (n - 1) _ _ (by omega) ⟨i + 1, by omega, rfl, (x2.trans x4).trans x5, hmore⟩
    | false =>
      rw [hfl] at hmore
      refine GoR.end (Go.cond noJ_ok (b := true) rfl (Go.seq noJ_ok (Go.region noJ_ok rfl ?_)))
      refine GoR.op rfl rfl rfl rfl ?_
      refine GoR.end (Go.ret noJ_ok (ret_end (aResult_of Try.func158 rfl rfl) ⟨?_, ((x1.trans x2).trans x4).trans x5⟩))
      have : L.all f = false := by
        cases hq : L.all f with
        | false => rfl
        | true => rw [List.all_eq_true] at hq; rw [hq l hm] at hfl; cases hfl
      rw [this]
      rfl
  · refine GoR.op rfl rfl (aOp_lss rfl rfl (r := false) (by simp; omega)) rfl ?_
    refine GoR.end (Go.seq noJ_ok (Go.cond noJ_ok rfl (Go.code noJ_ok ?_)))
    refine Go.seq noJ_ok (Go.region noJ_ok rfl ?_)
    refine GoR.op rfl rfl rfl rfl ?_
    refine GoR.end (Go.ret noJ_ok (ret_end (aResult_of Try.func158 rfl rfl) ⟨?_, x1.trans x2⟩))
    have : i = L.length := by omega
    subst this
    rw [List.take_length] at ha
    rw [ha]
    rfl

theorem all161_ok (F : FuncId) (fF : Func) (hF : aFunc Try.prog F = some fF) (bank : List AVal) (hbl : bank.length = 4) (s : AVal) (L : List (List AVal)) (f : List AVal → Bool) (h : AH) (hL : L.length ≤ 100) (h5 : ∀ l, l ∈ L → l.length = 2 ∧ scalars l = true) (hs : SliceOf h 2 s L)
    (hf : ∀ l, l ∈ L → ∀ h', Runs Try.prog F [.agg l, .agg bank] h' (fun en h'' => en = .ret (.bool (f l)) ∧ Ext h' h'')) :
    Runs Try.prog 161 [s, .func (.func F) [] [], .agg bank] h (fun en h' => en = .ret (.bool (L.all f)) ∧ Ext h h') := by
  refine Runs.intro aFunc161 rfl rfl rfl rfl fun rest => ?_
  refine Go.seq noJ_ok (Go.region noJ_ok rfl ?_)
  refine GoR.box rfl rfl rfl rfl rfl rfl fun h1 x1 f1 => ?_
  refine GoR.op rfl rfl rfl rfl ?_
  refine GoR.end (Go.seq noJ_ok (Go.seq noJ_ok (Go.region noJ_ok rfl ?_)))
  refine GoR.op rfl rfl rfl rfl ?_
  refine GoR.op rfl rfl (aOp_lenSlice Try.underlying23 rfl hs.len) rfl ?_
  refine GoR.op rfl rfl rfl rfl ?_
  refine GoR.end (Go.block noJ_ok ?_)
  refine Go.keep [(1, .func (.func F) [] []), (5, .ptr h.next 0), (9, s), (10, .int .i64 L.length), (11, .int .i64 0)] ⟨rfl, rfl, rfl, rfl, rfl, trivial⟩ ?_
  refine Go.loopInv (fun n t h' => ∃ i, n + i = L.length ∧ t = keepT [(1, .func (.func F) [] []), (5, .ptr h.next 0), (9, s), (10, .int .i64 L.length), (11, .int .i64 (Int.ofNat i))] ∧ Ext h1 h' ∧ (L.take i).all f = true) (n := L.length) ⟨0, rfl, rfl, Ext.refl _, rfl⟩ ?_
  rintro n t h2 ⟨i, hn, rfl, x2, ha⟩ again
  replace f1 := f1.ext x2
  refine Go.seq noJ_ok (Go.region noJ_ok rfl ?_)
  by_cases hi : i < L.length
  · refine GoR.op rfl rfl (aOp_lss rfl rfl (r := true) (by simp; omega)) rfl ?_
    refine GoR.end (Go.seq noJ_ok (Go.cond noJ_ok rfl (Go.code noJ_ok ?_)))
    refine Go.seq noJ_ok (Go.block noJ_ok (Go.seq noJ_ok (Go.region noJ_ok rfl ?_)))
    obtain ⟨l, hl⟩ : ∃ l, L[i]? = some l := ⟨L[i], by simp [hi]⟩
    have hm := List.mem_of_getElem? hl
    obtain ⟨b, off, k1, k2⟩ := (hs.ext (x1.trans x2)).at hl
    refine GoR.op rfl rfl (aOp_indexAddr Try.underlying23 sz52 rfl k1 rfl (Nat.ble_eq_true_of_le hi)) rfl ?_
    refine GoR.op rfl rfl (aOp_loadE ag52 sz52 rfl k2) rfl ?_
    obtain ⟨hl5, hsc⟩ := h5 l hm
    refine GoR.alloc rfl rfl rfl zt52 rfl rfl fun h3 x3 f3 => ?_
    refine GoR.store rfl rfl rfl rfl rfl rfl f3 rfl sz52 (by simp [cells_agg, hl5]) hsc (splice_all (by simp [cells_agg, hl5])) fun h4 u4 => ?_
    have x4 : Ext h2 h4 := x3.upd u4 (Nat.le_refl _)
    replace f1 := f1.ext x4
    refine GoR.end (Go.seq noJ_ok (Go.region noJ_ok rfl ?_))
    refine GoR.op rfl rfl rfl rfl ?_
    refine GoR.op rfl rfl (ld52 rfl (u4.has f3) (slice_all (by simp [cells_agg, hl5]))) rfl ?_
    refine GoR.op rfl rfl (ld25 rfl f1 (slice_all (by simp [cells_agg, hbl]))) rfl ?_
    refine GoR.call rfl rfl (aOp_callVal rfl hF rfl) (hf l hm h4) ?_ (by rintro _ _ ⟨q, _⟩; cases q)
    rintro _ h5 ⟨q, x5⟩
    have q := (AEnd.ret.inj q).symm
    subst q
    refine ⟨_, rfl, ?_⟩
    refine GoR.op rfl rfl rfl rfl ?_
    have hmore : (L.take (i + 1)).all f = f l := by rw [List.take_add_one, hl]; simp [ha]
    cases hfl : f l with
    | true =>
      rw [hfl] at hmore
      refine GoR.end (Go.cond noJ_ok (b := false) rfl (Go.code noJ_ok ?_))
      refine Go.inBlock noJ_ok (Go.region noJ_ok rfl ?_)
      have hi64 : inI64 (Int.ofNat i + 1) := by constructor <;> simp <;> omega
      refine GoR.op rfl rfl (aOp_add rfl rfl hi64 rfl) rfl ?_
      refine GoR.op rfl rfl rfl rfl ?_
      refine GoR.end ?_
      refine Go.keep [(1, .func (.func F) [] []), (5, .ptr h.next 0), (9, s), (10, .int .i64 L.length), (11, .int .i64 (Int.ofNat i + 1))] ⟨rfl, rfl, rfl, rfl, rfl, trivial⟩ ?_
      exact again (n - 1) _ _ (by omega) ⟨i + 1, by omega, rfl, (x2.trans x4).trans x5, hmore⟩
    | false =>
      rw [hfl] at hmore
      refine GoR.end (Go.cond noJ_ok (b := true) rfl (Go.seq noJ_ok (Go.region noJ_ok rfl ?_)))
      refine GoR.op rfl rfl rfl rfl ?_
      refine GoR.end (Go.ret noJ_ok (ret_end (aResult_of Try.func161 rfl rfl) ⟨?_, ((x1.trans x2).trans x4).trans x5⟩))
      have : L.all f = false := by
        cases hq : L.all f with
        | false => rfl
        | true => rw [List.all_eq_true] at hq; rw [hq l hm] at hfl; cases hfl
      rw [this]
      rfl
  · refine GoR.op rfl rfl (aOp_lss rfl rfl (r := false) (by simp; omega)) rfl ?_
    refine GoR.end (Go.seq noJ_ok (Go.cond noJ_ok rfl (Go.code noJ_ok ?_)))
    refine Go.seq noJ_ok (Go.region noJ_ok rfl ?_)
    refine GoR.op rfl rfl rfl rfl ?_
    refine GoR.end (Go.ret noJ_ok (ret_end (aResult_of Try.func161 rfl rfl) ⟨?_, x1.trans x2⟩))
    have : i = L.length := by omega
    subst this
    rw [List.take_length] at ha
    rw [ha]
    rfl
end Go.Proofs.Ytidfcmjlfadieaa
