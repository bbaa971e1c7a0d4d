import Derived.Test.YtidfcmjlfadieaaRA
import Derived.Test.YtidfcmjlfadieaaChecked
import Derived.KernelRfl
namespace Go.Proofs.Ytidfcmjlfadieaa
open Go Go.AbsE
theorem ag1 : isAggT Try.prog 1 = some false := by kernel_rfl
theorem ag3 : isAggT Try.prog 3 = some false := by kernel_rfl
theorem sz3 : sizeT Try.prog 3 = some 1 := by kernel_rfl
theorem ag4 : isAggT Try.prog 4 = some false := by kernel_rfl
theorem sz4 : sizeT Try.prog 4 = some 1 := by kernel_rfl
theorem ag8 : isAggT Try.prog 8 = some true := by kernel_rfl
theorem sz8 : sizeT Try.prog 8 = some 4 := by kernel_rfl
theorem ag10 : isAggT Try.prog 10 = some false := by kernel_rfl
theorem ag22 : isAggT Try.prog 22 = some false := by kernel_rfl
theorem sz22 : sizeT Try.prog 22 = some 1 := by kernel_rfl
theorem ag23 : isAggT Try.prog 23 = some false := by kernel_rfl
theorem sz23 : sizeT Try.prog 23 = some 1 := by kernel_rfl
theorem ag25 : isAggT Try.prog 25 = some true := by kernel_rfl
theorem sz25 : sizeT Try.prog 25 = some 4 := by kernel_rfl
theorem ag28 : isAggT Try.prog 28 = some false := by kernel_rfl
theorem sz28 : sizeT Try.prog 28 = some 1 := by kernel_rfl
theorem ag40 : isAggT Try.prog 40 = some true := by kernel_rfl
theorem sz40 : sizeT Try.prog 40 = some 2 := by kernel_rfl
theorem ag52 : isAggT Try.prog 52 = some true := by kernel_rfl
theorem sz52 : sizeT Try.prog 52 = some 2 := by kernel_rfl
theorem ag57 : isAggT Try.prog 57 = some true := by kernel_rfl
theorem sz57 : sizeT Try.prog 57 = some 5 := by kernel_rfl
theorem ag88 : isAggT Try.prog 88 = some false := by kernel_rfl
theorem sz88 : sizeT Try.prog 88 = some 1 := by kernel_rfl
theorem ag90 : isAggT Try.prog 90 = some true := by kernel_rfl
theorem sz90 : sizeT Try.prog 90 = some 1 := by kernel_rfl
theorem ag92 : isAggT Try.prog 92 = some true := by kernel_rfl
theorem sz92 : sizeT Try.prog 92 = some 4 := by kernel_rfl
theorem ag111 : isAggT Try.prog 111 = some true := by kernel_rfl
theorem sz111 : sizeT Try.prog 111 = some 11 := by kernel_rfl
theorem sz139 : sizeT Try.prog 139 = some 1 := by kernel_rfl
theorem ag144 : isAggT Try.prog 144 = some false := by kernel_rfl
theorem ag145 : isAggT Try.prog 145 = some false := by kernel_rfl
theorem sz145 : sizeT Try.prog 145 = some 1 := by kernel_rfl
theorem ag146 : isAggT Try.prog 146 = some false := by kernel_rfl
theorem sz146 : sizeT Try.prog 146 = some 1 := by kernel_rfl
theorem sz147 : sizeT Try.prog 147 = some 4 := by kernel_rfl
theorem ag149 : isAggT Try.prog 149 = some true := by kernel_rfl
theorem sz149 : sizeT Try.prog 149 = some 5 := by kernel_rfl
theorem ag150 : isAggT Try.prog 150 = some false := by kernel_rfl
theorem sz150 : sizeT Try.prog 150 = some 1 := by kernel_rfl
theorem ag154 : isAggT Try.prog 154 = some false := by kernel_rfl
theorem ag164 : isAggT Try.prog 164 = some false := by kernel_rfl
theorem sz164 : sizeT Try.prog 164 = some 1 := by kernel_rfl
theorem ag165 : isAggT Try.prog 165 = some false := by kernel_rfl
theorem sz165 : sizeT Try.prog 165 = some 1 := by kernel_rfl
theorem ag195 : isAggT Try.prog 195 = some true := by kernel_rfl
theorem sz195 : sizeT Try.prog 195 = some 5 := by kernel_rfl
theorem ag221 : isAggT Try.prog 221 = some false := by kernel_rfl
theorem fa25_0 {t : Tr AVal} {h : AH} {dst : Option Tmp} {tt : TypeId} {pos : String} {after : Array Edge} {guard : Option (Nat × Bool)} {x : Operand} {b off : Nat} (hx : ev t x = some (.ptr b off)) : aOp Try.prog t h ⟨dst, .fieldAddr 25 x 0, tt, pos, after, guard⟩ = some (.val (.ptr b (off + 0)) h) := by
  have := aOp_fieldAddr (P := Try.prog) (h := h) (dst := dst) (tt := tt) (pos := pos) (after := after) (guard := guard) (f := 0) Try.underlying25 rfl (n := 1) sz3 rfl hx
  exact this
theorem fa25_1 {t : Tr AVal} {h : AH} {dst : Option Tmp} {tt : TypeId} {pos : String} {after : Array Edge} {guard : Option (Nat × Bool)} {x : Operand} {b off : Nat} (hx : ev t x = some (.ptr b off)) : aOp Try.prog t h ⟨dst, .fieldAddr 25 x 1, tt, pos, after, guard⟩ = some (.val (.ptr b (off + 1)) h) := by
  have := aOp_fieldAddr (P := Try.prog) (h := h) (dst := dst) (tt := tt) (pos := pos) (after := after) (guard := guard) (f := 1) Try.underlying25 rfl (n := 1) sz3 rfl hx
  exact this
theorem fa25_2 {t : Tr AVal} {h : AH} {dst : Option Tmp} {tt : TypeId} {pos : String} {after : Array Edge} {guard : Option (Nat × Bool)} {x : Operand} {b off : Nat} (hx : ev t x = some (.ptr b off)) : aOp Try.prog t h ⟨dst, .fieldAddr 25 x 2, tt, pos, after, guard⟩ = some (.val (.ptr b (off + 2)) h) := by
  have := aOp_fieldAddr (P := Try.prog) (h := h) (dst := dst) (tt := tt) (pos := pos) (after := after) (guard := guard) (f := 2) Try.underlying25 rfl (n := 1) sz22 rfl hx
  exact this
theorem fa25_3 {t : Tr AVal} {h : AH} {dst : Option Tmp} {tt : TypeId} {pos : String} {after : Array Edge} {guard : Option (Nat × Bool)} {x : Operand} {b off : Nat} (hx : ev t x = some (.ptr b off)) : aOp Try.prog t h ⟨dst, .fieldAddr 25 x 3, tt, pos, after, guard⟩ = some (.val (.ptr b (off + 3)) h) := by
  have := aOp_fieldAddr (P := Try.prog) (h := h) (dst := dst) (tt := tt) (pos := pos) (after := after) (guard := guard) (f := 3) Try.underlying25 rfl (n := 1) sz23 rfl hx
  exact this
theorem fa40_0 {t : Tr AVal} {h : AH} {dst : Option Tmp} {tt : TypeId} {pos : String} {after : Array Edge} {guard : Option (Nat × Bool)} {x : Operand} {b off : Nat} (hx : ev t x = some (.ptr b off)) : aOp Try.prog t h ⟨dst, .fieldAddr 40 x 0, tt, pos, after, guard⟩ = some (.val (.ptr b (off + 0)) h) := by
  have := aOp_fieldAddr (P := Try.prog) (h := h) (dst := dst) (tt := tt) (pos := pos) (after := after) (guard := guard) (f := 0) Try.underlying40 rfl (n := 1) sz3 rfl hx
  exact this
theorem fa40_1 {t : Tr AVal} {h : AH} {dst : Option Tmp} {tt : TypeId} {pos : String} {after : Array Edge} {guard : Option (Nat × Bool)} {x : Operand} {b off : Nat} (hx : ev t x = some (.ptr b off)) : aOp Try.prog t h ⟨dst, .fieldAddr 40 x 1, tt, pos, after, guard⟩ = some (.val (.ptr b (off + 1)) h) := by
  have := aOp_fieldAddr (P := Try.prog) (h := h) (dst := dst) (tt := tt) (pos := pos) (after := after) (guard := guard) (f := 1) Try.underlying40 rfl (n := 1) sz3 rfl hx
  exact this
theorem fa52_0 {t : Tr AVal} {h : AH} {dst : Option Tmp} {tt : TypeId} {pos : String} {after : Array Edge} {guard : Option (Nat × Bool)} {x : Operand} {b off : Nat} (hx : ev t x = some (.ptr b off)) : aOp Try.prog t h ⟨dst, .fieldAddr 52 x 0, tt, pos, after, guard⟩ = some (.val (.ptr b (off + 0)) h) := by
  have := aOp_fieldAddr (P := Try.prog) (h := h) (dst := dst) (tt := tt) (pos := pos) (after := after) (guard := guard) (f := 0) Try.underlying52 rfl (n := 1) sz3 rfl hx
  exact this
theorem fa52_1 {t : Tr AVal} {h : AH} {dst : Option Tmp} {tt : TypeId} {pos : String} {after : Array Edge} {guard : Option (Nat × Bool)} {x : Operand} {b off : Nat} (hx : ev t x = some (.ptr b off)) : aOp Try.prog t h ⟨dst, .fieldAddr 52 x 1, tt, pos, after, guard⟩ = some (.val (.ptr b (off + 1)) h) := by
  have := aOp_fieldAddr (P := Try.prog) (h := h) (dst := dst) (tt := tt) (pos := pos) (after := after) (guard := guard) (f := 1) Try.underlying52 rfl (n := 1) sz3 rfl hx
  exact this
theorem fa57_0 {t : Tr AVal} {h : AH} {dst : Option Tmp} {tt : TypeId} {pos : String} {after : Array Edge} {guard : Option (Nat × Bool)} {x : Operand} {b off : Nat} (hx : ev t x = some (.ptr b off)) : aOp Try.prog t h ⟨dst, .fieldAddr 57 x 0, tt, pos, after, guard⟩ = some (.val (.ptr b (off + 0)) h) := by
  have := aOp_fieldAddr (P := Try.prog) (h := h) (dst := dst) (tt := tt) (pos := pos) (after := after) (guard := guard) (f := 0) Try.underlying57 rfl (n := 1) sz3 rfl hx
  exact this
theorem fa57_1 {t : Tr AVal} {h : AH} {dst : Option Tmp} {tt : TypeId} {pos : String} {after : Array Edge} {guard : Option (Nat × Bool)} {x : Operand} {b off : Nat} (hx : ev t x = some (.ptr b off)) : aOp Try.prog t h ⟨dst, .fieldAddr 57 x 1, tt, pos, after, guard⟩ = some (.val (.ptr b (off + 1)) h) := by
  have := aOp_fieldAddr (P := Try.prog) (h := h) (dst := dst) (tt := tt) (pos := pos) (after := after) (guard := guard) (f := 1) Try.underlying57 rfl (n := 2) sz40 rfl hx
  exact this
theorem fa57_2 {t : Tr AVal} {h : AH} {dst : Option Tmp} {tt : TypeId} {pos : String} {after : Array Edge} {guard : Option (Nat × Bool)} {x : Operand} {b off : Nat} (hx : ev t x = some (.ptr b off)) : aOp Try.prog t h ⟨dst, .fieldAddr 57 x 2, tt, pos, after, guard⟩ = some (.val (.ptr b (off + 3)) h) := by
  have := aOp_fieldAddr (P := Try.prog) (h := h) (dst := dst) (tt := tt) (pos := pos) (after := after) (guard := guard) (f := 2) Try.underlying57 rfl (n := 2) sz40 rfl hx
  exact this
theorem fa90_0 {t : Tr AVal} {h : AH} {dst : Option Tmp} {tt : TypeId} {pos : String} {after : Array Edge} {guard : Option (Nat × Bool)} {x : Operand} {b off : Nat} (hx : ev t x = some (.ptr b off)) : aOp Try.prog t h ⟨dst, .fieldAddr 90 x 0, tt, pos, after, guard⟩ = some (.val (.ptr b (off + 0)) h) := by
  have := aOp_fieldAddr (P := Try.prog) (h := h) (dst := dst) (tt := tt) (pos := pos) (after := after) (guard := guard) (f := 0) Try.underlying90 rfl (n := 1) sz23 rfl hx
  exact this
theorem fa92_0 {t : Tr AVal} {h : AH} {dst : Option Tmp} {tt : TypeId} {pos : String} {after : Array Edge} {guard : Option (Nat × Bool)} {x : Operand} {b off : Nat} (hx : ev t x = some (.ptr b off)) : aOp Try.prog t h ⟨dst, .fieldAddr 92 x 0, tt, pos, after, guard⟩ = some (.val (.ptr b (off + 0)) h) := by
  have := aOp_fieldAddr (P := Try.prog) (h := h) (dst := dst) (tt := tt) (pos := pos) (after := after) (guard := guard) (f := 0) Try.underlying92 rfl (n := 1) sz3 rfl hx
  exact this
theorem fa92_1 {t : Tr AVal} {h : AH} {dst : Option Tmp} {tt : TypeId} {pos : String} {after : Array Edge} {guard : Option (Nat × Bool)} {x : Operand} {b off : Nat} (hx : ev t x = some (.ptr b off)) : aOp Try.prog t h ⟨dst, .fieldAddr 92 x 1, tt, pos, after, guard⟩ = some (.val (.ptr b (off + 1)) h) := by
  have := aOp_fieldAddr (P := Try.prog) (h := h) (dst := dst) (tt := tt) (pos := pos) (after := after) (guard := guard) (f := 1) Try.underlying92 rfl (n := 1) sz3 rfl hx
  exact this
theorem fa92_2 {t : Tr AVal} {h : AH} {dst : Option Tmp} {tt : TypeId} {pos : String} {after : Array Edge} {guard : Option (Nat × Bool)} {x : Operand} {b off : Nat} (hx : ev t x = some (.ptr b off)) : aOp Try.prog t h ⟨dst, .fieldAddr 92 x 2, tt, pos, after, guard⟩ = some (.val (.ptr b (off + 2)) h) := by
  have := aOp_fieldAddr (P := Try.prog) (h := h) (dst := dst) (tt := tt) (pos := pos) (after := after) (guard := guard) (f := 2) Try.underlying92 rfl (n := 1) sz88 rfl hx
  exact this
theorem fa92_3 {t : Tr AVal} {h : AH} {dst : Option Tmp} {tt : TypeId} {pos : String} {after : Array Edge} {guard : Option (Nat × Bool)} {x : Operand} {b off : Nat} (hx : ev t x = some (.ptr b off)) : aOp Try.prog t h ⟨dst, .fieldAddr 92 x 3, tt, pos, after, guard⟩ = some (.val (.ptr b (off + 3)) h) := by
  have := aOp_fieldAddr (P := Try.prog) (h := h) (dst := dst) (tt := tt) (pos := pos) (after := after) (guard := guard) (f := 3) Try.underlying92 rfl (n := 1) sz90 rfl hx
  exact this
theorem fa139_0 {t : Tr AVal} {h : AH} {dst : Option Tmp} {tt : TypeId} {pos : String} {after : Array Edge} {guard : Option (Nat × Bool)} {x : Operand} {b off : Nat} (hx : ev t x = some (.ptr b off)) : aOp Try.prog t h ⟨dst, .fieldAddr 139 x 0, tt, pos, after, guard⟩ = some (.val (.ptr b (off + 0)) h) := by
  have := aOp_fieldAddr (P := Try.prog) (h := h) (dst := dst) (tt := tt) (pos := pos) (after := after) (guard := guard) (f := 0) Try.underlying139 rfl (n := 1) sz28 rfl hx
  exact this
theorem fa149_0 {t : Tr AVal} {h : AH} {dst : Option Tmp} {tt : TypeId} {pos : String} {after : Array Edge} {guard : Option (Nat × Bool)} {x : Operand} {b off : Nat} (hx : ev t x = some (.ptr b off)) : aOp Try.prog t h ⟨dst, .fieldAddr 149 x 0, tt, pos, after, guard⟩ = some (.val (.ptr b (off + 0)) h) := by
  have := aOp_fieldAddr (P := Try.prog) (h := h) (dst := dst) (tt := tt) (pos := pos) (after := after) (guard := guard) (f := 0) Try.underlying149 rfl (n := 1) sz3 rfl hx
  exact this
theorem fa149_1 {t : Tr AVal} {h : AH} {dst : Option Tmp} {tt : TypeId} {pos : String} {after : Array Edge} {guard : Option (Nat × Bool)} {x : Operand} {b off : Nat} (hx : ev t x = some (.ptr b off)) : aOp Try.prog t h ⟨dst, .fieldAddr 149 x 1, tt, pos, after, guard⟩ = some (.val (.ptr b (off + 1)) h) := by
  have := aOp_fieldAddr (P := Try.prog) (h := h) (dst := dst) (tt := tt) (pos := pos) (after := after) (guard := guard) (f := 1) Try.underlying149 rfl (n := 4) sz147 rfl hx
  exact this
theorem fa195_0 {t : Tr AVal} {h : AH} {dst : Option Tmp} {tt : TypeId} {pos : String} {after : Array Edge} {guard : Option (Nat × Bool)} {x : Operand} {b off : Nat} (hx : ev t x = some (.ptr b off)) : aOp Try.prog t h ⟨dst, .fieldAddr 195 x 0, tt, pos, after, guard⟩ = some (.val (.ptr b (off + 0)) h) := by
  have := aOp_fieldAddr (P := Try.prog) (h := h) (dst := dst) (tt := tt) (pos := pos) (after := after) (guard := guard) (f := 0) Try.underlying195 rfl (n := 1) sz3 rfl hx
  exact this
theorem fa195_1 {t : Tr AVal} {h : AH} {dst : Option Tmp} {tt : TypeId} {pos : String} {after : Array Edge} {guard : Option (Nat × Bool)} {x : Operand} {b off : Nat} (hx : ev t x = some (.ptr b off)) : aOp Try.prog t h ⟨dst, .fieldAddr 195 x 1, tt, pos, after, guard⟩ = some (.val (.ptr b (off + 1)) h) := by
  have := aOp_fieldAddr (P := Try.prog) (h := h) (dst := dst) (tt := tt) (pos := pos) (after := after) (guard := guard) (f := 1) Try.underlying195 rfl (n := 2) sz40 rfl hx
  exact this
theorem fa195_2 {t : Tr AVal} {h : AH} {dst : Option Tmp} {tt : TypeId} {pos : String} {after : Array Edge} {guard : Option (Nat × Bool)} {x : Operand} {b off : Nat} (hx : ev t x = some (.ptr b off)) : aOp Try.prog t h ⟨dst, .fieldAddr 195 x 2, tt, pos, after, guard⟩ = some (.val (.ptr b (off + 3)) h) := by
  have := aOp_fieldAddr (P := Try.prog) (h := h) (dst := dst) (tt := tt) (pos := pos) (after := after) (guard := guard) (f := 2) Try.underlying195 rfl (n := 2) sz40 rfl hx
  exact this
theorem fa206_0 {t : Tr AVal} {h : AH} {dst : Option Tmp} {tt : TypeId} {pos : String} {after : Array Edge} {guard : Option (Nat × Bool)} {x : Operand} {b off : Nat} (hx : ev t x = some (.ptr b off)) : aOp Try.prog t h ⟨dst, .fieldAddr 206 x 0, tt, pos, after, guard⟩ = some (.val (.ptr b (off + 0)) h) := by
  have := aOp_fieldAddr (P := Try.prog) (h := h) (dst := dst) (tt := tt) (pos := pos) (after := after) (guard := guard) (f := 0) Try.underlying206 rfl (n := 1) sz90 rfl hx
  exact this
theorem fa206_1 {t : Tr AVal} {h : AH} {dst : Option Tmp} {tt : TypeId} {pos : String} {after : Array Edge} {guard : Option (Nat × Bool)} {x : Operand} {b off : Nat} (hx : ev t x = some (.ptr b off)) : aOp Try.prog t h ⟨dst, .fieldAddr 206 x 1, tt, pos, after, guard⟩ = some (.val (.ptr b (off + 1)) h) := by
  have := aOp_fieldAddr (P := Try.prog) (h := h) (dst := dst) (tt := tt) (pos := pos) (after := after) (guard := guard) (f := 1) Try.underlying206 rfl (n := 1) sz3 rfl hx
  exact this
theorem fa206_2 {t : Tr AVal} {h : AH} {dst : Option Tmp} {tt : TypeId} {pos : String} {after : Array Edge} {guard : Option (Nat × Bool)} {x : Operand} {b off : Nat} (hx : ev t x = some (.ptr b off)) : aOp Try.prog t h ⟨dst, .fieldAddr 206 x 2, tt, pos, after, guard⟩ = some (.val (.ptr b (off + 2)) h) := by
  have := aOp_fieldAddr (P := Try.prog) (h := h) (dst := dst) (tt := tt) (pos := pos) (after := after) (guard := guard) (f := 2) Try.underlying206 rfl (n := 1) sz3 rfl hx
  exact this
theorem fa206_3 {t : Tr AVal} {h : AH} {dst : Option Tmp} {tt : TypeId} {pos : String} {after : Array Edge} {guard : Option (Nat × Bool)} {x : Operand} {b off : Nat} (hx : ev t x = some (.ptr b off)) : aOp Try.prog t h ⟨dst, .fieldAddr 206 x 3, tt, pos, after, guard⟩ = some (.val (.ptr b (off + 3)) h) := by
  have := aOp_fieldAddr (P := Try.prog) (h := h) (dst := dst) (tt := tt) (pos := pos) (after := after) (guard := guard) (f := 3) Try.underlying206 rfl (n := 1) sz3 rfl hx
  exact this
theorem ld3 {t : Tr AVal} {h : AH} {dst : Option Tmp} {tt : TypeId} {pos : String} {after : Array Edge} {guard : Option (Nat × Bool)} {x : Operand} {b off : Nat} {g : Kd} {cs : List AVal} {el : TypeId} {v : AVal} (hx : ev t x = some (.ptr b off)) (hb : Has h b (.cells g cs el)) (hv : cs[off]? = some v) : aOp Try.prog t h ⟨dst, .load 3 x, tt, pos, after, guard⟩ = some (.val v h) := aOp_load1 ag3 hx hb hv
theorem ld4 {t : Tr AVal} {h : AH} {dst : Option Tmp} {tt : TypeId} {pos : String} {after : Array Edge} {guard : Option (Nat × Bool)} {x : Operand} {b off : Nat} {g : Kd} {cs : List AVal} {el : TypeId} {v : AVal} (hx : ev t x = some (.ptr b off)) (hb : Has h b (.cells g cs el)) (hv : cs[off]? = some v) : aOp Try.prog t h ⟨dst, .load 4 x, tt, pos, after, guard⟩ = some (.val v h) := aOp_load1 ag4 hx hb hv
theorem ld8 {t : Tr AVal} {h : AH} {dst : Option Tmp} {tt : TypeId} {pos : String} {after : Array Edge} {guard : Option (Nat × Bool)} {x : Operand} {b off : Nat} {g : Kd} {cs l : List AVal} {el : TypeId} (hx : ev t x = some (.ptr b off)) (hb : Has h b (.cells g cs el)) (hv : slice? cs off 4 = some l) : aOp Try.prog t h ⟨dst, .load 8 x, tt, pos, after, guard⟩ = some (.val (.agg l) h) := aOp_loadN ag8 sz8 hx hb hv
theorem ld22 {t : Tr AVal} {h : AH} {dst : Option Tmp} {tt : TypeId} {pos : String} {after : Array Edge} {guard : Option (Nat × Bool)} {x : Operand} {b off : Nat} {g : Kd} {cs : List AVal} {el : TypeId} {v : AVal} (hx : ev t x = some (.ptr b off)) (hb : Has h b (.cells g cs el)) (hv : cs[off]? = some v) : aOp Try.prog t h ⟨dst, .load 22 x, tt, pos, after, guard⟩ = some (.val v h) := aOp_load1 ag22 hx hb hv
theorem ld23 {t : Tr AVal} {h : AH} {dst : Option Tmp} {tt : TypeId} {pos : String} {after : Array Edge} {guard : Option (Nat × Bool)} {x : Operand} {b off : Nat} {g : Kd} {cs : List AVal} {el : TypeId} {v : AVal} (hx : ev t x = some (.ptr b off)) (hb : Has h b (.cells g cs el)) (hv : cs[off]? = some v) : aOp Try.prog t h ⟨dst, .load 23 x, tt, pos, after, guard⟩ = some (.val v h) := aOp_load1 ag23 hx hb hv
theorem ld25 {t : Tr AVal} {h : AH} {dst : Option Tmp} {tt : TypeId} {pos : String} {after : Array Edge} {guard : Option (Nat × Bool)} {x : Operand} {b off : Nat} {g : Kd} {cs l : List AVal} {el : TypeId} (hx : ev t x = some (.ptr b off)) (hb : Has h b (.cells g cs el)) (hv : slice? cs off 4 = some l) : aOp Try.prog t h ⟨dst, .load 25 x, tt, pos, after, guard⟩ = some (.val (.agg l) h) := aOp_loadN ag25 sz25 hx hb hv
theorem ld28 {t : Tr AVal} {h : AH} {dst : Option Tmp} {tt : TypeId} {pos : String} {after : Array Edge} {guard : Option (Nat × Bool)} {x : Operand} {b off : Nat} {g : Kd} {cs : List AVal} {el : TypeId} {v : AVal} (hx : ev t x = some (.ptr b off)) (hb : Has h b (.cells g cs el)) (hv : cs[off]? = some v) : aOp Try.prog t h ⟨dst, .load 28 x, tt, pos, after, guard⟩ = some (.val v h) := aOp_load1 ag28 hx hb hv
theorem ld40 {t : Tr AVal} {h : AH} {dst : Option Tmp} {tt : TypeId} {pos : String} {after : Array Edge} {guard : Option (Nat × Bool)} {x : Operand} {b off : Nat} {g : Kd} {cs l : List AVal} {el : TypeId} (hx : ev t x = some (.ptr b off)) (hb : Has h b (.cells g cs el)) (hv : slice? cs off 2 = some l) : aOp Try.prog t h ⟨dst, .load 40 x, tt, pos, after, guard⟩ = some (.val (.agg l) h) := aOp_loadN ag40 sz40 hx hb hv
theorem ld52 {t : Tr AVal} {h : AH} {dst : Option Tmp} {tt : TypeId} {pos : String} {after : Array Edge} {guard : Option (Nat × Bool)} {x : Operand} {b off : Nat} {g : Kd} {cs l : List AVal} {el : TypeId} (hx : ev t x = some (.ptr b off)) (hb : Has h b (.cells g cs el)) (hv : slice? cs off 2 = some l) : aOp Try.prog t h ⟨dst, .load 52 x, tt, pos, after, guard⟩ = some (.val (.agg l) h) := aOp_loadN ag52 sz52 hx hb hv
theorem ld57 {t : Tr AVal} {h : AH} {dst : Option Tmp} {tt : TypeId} {pos : String} {after : Array Edge} {guard : Option (Nat × Bool)} {x : Operand} {b off : Nat} {g : Kd} {cs l : List AVal} {el : TypeId} (hx : ev t x = some (.ptr b off)) (hb : Has h b (.cells g cs el)) (hv : slice? cs off 5 = some l) : aOp Try.prog t h ⟨dst, .load 57 x, tt, pos, after, guard⟩ = some (.val (.agg l) h) := aOp_loadN ag57 sz57 hx hb hv
theorem ld88 {t : Tr AVal} {h : AH} {dst : Option Tmp} {tt : TypeId} {pos : String} {after : Array Edge} {guard : Option (Nat × Bool)} {x : Operand} {b off : Nat} {g : Kd} {cs : List AVal} {el : TypeId} {v : AVal} (hx : ev t x = some (.ptr b off)) (hb : Has h b (.cells g cs el)) (hv : cs[off]? = some v) : aOp Try.prog t h ⟨dst, .load 88 x, tt, pos, after, guard⟩ = some (.val v h) := aOp_load1 ag88 hx hb hv
theorem ld90 {t : Tr AVal} {h : AH} {dst : Option Tmp} {tt : TypeId} {pos : String} {after : Array Edge} {guard : Option (Nat × Bool)} {x : Operand} {b off : Nat} {g : Kd} {cs l : List AVal} {el : TypeId} (hx : ev t x = some (.ptr b off)) (hb : Has h b (.cells g cs el)) (hv : slice? cs off 1 = some l) : aOp Try.prog t h ⟨dst, .load 90 x, tt, pos, after, guard⟩ = some (.val (.agg l) h) := aOp_loadN ag90 sz90 hx hb hv
theorem ld92 {t : Tr AVal} {h : AH} {dst : Option Tmp} {tt : TypeId} {pos : String} {after : Array Edge} {guard : Option (Nat × Bool)} {x : Operand} {b off : Nat} {g : Kd} {cs l : List AVal} {el : TypeId} (hx : ev t x = some (.ptr b off)) (hb : Has h b (.cells g cs el)) (hv : slice? cs off 4 = some l) : aOp Try.prog t h ⟨dst, .load 92 x, tt, pos, after, guard⟩ = some (.val (.agg l) h) := aOp_loadN ag92 sz92 hx hb hv
theorem ld111 {t : Tr AVal} {h : AH} {dst : Option Tmp} {tt : TypeId} {pos : String} {after : Array Edge} {guard : Option (Nat × Bool)} {x : Operand} {b off : Nat} {g : Kd} {cs l : List AVal} {el : TypeId} (hx : ev t x = some (.ptr b off)) (hb : Has h b (.cells g cs el)) (hv : slice? cs off 11 = some l) : aOp Try.prog t h ⟨dst, .load 111 x, tt, pos, after, guard⟩ = some (.val (.agg l) h) := aOp_loadN ag111 sz111 hx hb hv
theorem ld144 {t : Tr AVal} {h : AH} {dst : Option Tmp} {tt : TypeId} {pos : String} {after : Array Edge} {guard : Option (Nat × Bool)} {x : Operand} {b off : Nat} {g : Kd} {cs : List AVal} {el : TypeId} {v : AVal} (hx : ev t x = some (.ptr b off)) (hb : Has h b (.cells g cs el)) (hv : cs[off]? = some v) : aOp Try.prog t h ⟨dst, .load 144 x, tt, pos, after, guard⟩ = some (.val v h) := aOp_load1 ag144 hx hb hv
theorem ld145 {t : Tr AVal} {h : AH} {dst : Option Tmp} {tt : TypeId} {pos : String} {after : Array Edge} {guard : Option (Nat × Bool)} {x : Operand} {b off : Nat} {g : Kd} {cs : List AVal} {el : TypeId} {v : AVal} (hx : ev t x = some (.ptr b off)) (hb : Has h b (.cells g cs el)) (hv : cs[off]? = some v) : aOp Try.prog t h ⟨dst, .load 145 x, tt, pos, after, guard⟩ = some (.val v h) := aOp_load1 ag145 hx hb hv
theorem ld146 {t : Tr AVal} {h : AH} {dst : Option Tmp} {tt : TypeId} {pos : String} {after : Array Edge} {guard : Option (Nat × Bool)} {x : Operand} {b off : Nat} {g : Kd} {cs : List AVal} {el : TypeId} {v : AVal} (hx : ev t x = some (.ptr b off)) (hb : Has h b (.cells g cs el)) (hv : cs[off]? = some v) : aOp Try.prog t h ⟨dst, .load 146 x, tt, pos, after, guard⟩ = some (.val v h) := aOp_load1 ag146 hx hb hv
theorem ld149 {t : Tr AVal} {h : AH} {dst : Option Tmp} {tt : TypeId} {pos : String} {after : Array Edge} {guard : Option (Nat × Bool)} {x : Operand} {b off : Nat} {g : Kd} {cs l : List AVal} {el : TypeId} (hx : ev t x = some (.ptr b off)) (hb : Has h b (.cells g cs el)) (hv : slice? cs off 5 = some l) : aOp Try.prog t h ⟨dst, .load 149 x, tt, pos, after, guard⟩ = some (.val (.agg l) h) := aOp_loadN ag149 sz149 hx hb hv
theorem ld150 {t : Tr AVal} {h : AH} {dst : Option Tmp} {tt : TypeId} {pos : String} {after : Array Edge} {guard : Option (Nat × Bool)} {x : Operand} {b off : Nat} {g : Kd} {cs : List AVal} {el : TypeId} {v : AVal} (hx : ev t x = some (.ptr b off)) (hb : Has h b (.cells g cs el)) (hv : cs[off]? = some v) : aOp Try.prog t h ⟨dst, .load 150 x, tt, pos, after, guard⟩ = some (.val v h) := aOp_load1 ag150 hx hb hv
theorem ld154 {t : Tr AVal} {h : AH} {dst : Option Tmp} {tt : TypeId} {pos : String} {after : Array Edge} {guard : Option (Nat × Bool)} {x : Operand} {b off : Nat} {g : Kd} {cs : List AVal} {el : TypeId} {v : AVal} (hx : ev t x = some (.ptr b off)) (hb : Has h b (.cells g cs el)) (hv : cs[off]? = some v) : aOp Try.prog t h ⟨dst, .load 154 x, tt, pos, after, guard⟩ = some (.val v h) := aOp_load1 ag154 hx hb hv
theorem ld164 {t : Tr AVal} {h : AH} {dst : Option Tmp} {tt : TypeId} {pos : String} {after : Array Edge} {guard : Option (Nat × Bool)} {x : Operand} {b off : Nat} {g : Kd} {cs : List AVal} {el : TypeId} {v : AVal} (hx : ev t x = some (.ptr b off)) (hb : Has h b (.cells g cs el)) (hv : cs[off]? = some v) : aOp Try.prog t h ⟨dst, .load 164 x, tt, pos, after, guard⟩ = some (.val v h) := aOp_load1 ag164 hx hb hv
theorem ld165 {t : Tr AVal} {h : AH} {dst : Option Tmp} {tt : TypeId} {pos : String} {after : Array Edge} {guard : Option (Nat × Bool)} {x : Operand} {b off : Nat} {g : Kd} {cs : List AVal} {el : TypeId} {v : AVal} (hx : ev t x = some (.ptr b off)) (hb : Has h b (.cells g cs el)) (hv : cs[off]? = some v) : aOp Try.prog t h ⟨dst, .load 165 x, tt, pos, after, guard⟩ = some (.val v h) := aOp_load1 ag165 hx hb hv
theorem ld195 {t : Tr AVal} {h : AH} {dst : Option Tmp} {tt : TypeId} {pos : String} {after : Array Edge} {guard : Option (Nat × Bool)} {x : Operand} {b off : Nat} {g : Kd} {cs l : List AVal} {el : TypeId} (hx : ev t x = some (.ptr b off)) (hb : Has h b (.cells g cs el)) (hv : slice? cs off 5 = some l) : aOp Try.prog t h ⟨dst, .load 195 x, tt, pos, after, guard⟩ = some (.val (.agg l) h) := aOp_loadN ag195 sz195 hx hb hv
theorem ld221 {t : Tr AVal} {h : AH} {dst : Option Tmp} {tt : TypeId} {pos : String} {after : Array Edge} {guard : Option (Nat × Bool)} {x : Operand} {b off : Nat} {g : Kd} {cs : List AVal} {el : TypeId} {v : AVal} (hx : ev t x = some (.ptr b off)) (hb : Has h b (.cells g cs el)) (hv : cs[off]? = some v) : aOp Try.prog t h ⟨dst, .load 221 x, tt, pos, after, guard⟩ = some (.val v h) := aOp_load1 ag221 hx hb hv
theorem aFunc75 : aFunc Try.prog 75 = some Try.f75 := by kernel_rfl
theorem aFunc179 : aFunc Try.prog 179 = some Try.f179 := by kernel_rfl
theorem aFunc160 : aFunc Try.prog 160 = some Try.f160 := by kernel_rfl
theorem aFunc162 : aFunc Try.prog 162 = some Try.f162 := by kernel_rfl
theorem aFunc159 : aFunc Try.prog 159 = some Try.f159 := by kernel_rfl
theorem aFunc158 : aFunc Try.prog 158 = some Try.f158 := by kernel_rfl
theorem aFunc161 : aFunc Try.prog 161 = some Try.f161 := by kernel_rfl
theorem aFunc117 : aFunc Try.prog 117 = some Try.f117 := by kernel_rfl
theorem aFunc118 : aFunc Try.prog 118 = some Try.f118 := by kernel_rfl
theorem aFunc58 : aFunc Try.prog 58 = some Try.f58 := by kernel_rfl
theorem aFunc116 : aFunc Try.prog 116 = some Try.f116 := by kernel_rfl
theorem aFunc74 : aFunc Try.prog 74 = some Try.f74 := by kernel_rfl
theorem aFunc76 : aFunc Try.prog 76 = some Try.f76 := by kernel_rfl
theorem aFunc86 : aFunc Try.prog 86 = some Try.f86 := by kernel_rfl
theorem aFunc133 : aFunc Try.prog 133 = some Try.f133 := by kernel_rfl
theorem aFunc129 : aFunc Try.prog 129 = some Try.f129 := by kernel_rfl
theorem aFunc85 : aFunc Try.prog 85 = some Try.f85 := by kernel_rfl
theorem aFunc81 : aFunc Try.prog 81 = some Try.f81 := by kernel_rfl
theorem aFunc130 : aFunc Try.prog 130 = some Try.f130 := by kernel_rfl
theorem aFunc131 : aFunc Try.prog 131 = some Try.f131 := by kernel_rfl
theorem aFunc132 : aFunc Try.prog 132 = some Try.f132 := by kernel_rfl
theorem aFunc123 : aFunc Try.prog 123 = some Try.f123 := by kernel_rfl
theorem aFunc124 : aFunc Try.prog 124 = some Try.f124 := by kernel_rfl
theorem aFunc167 : aFunc Try.prog 167 = some Try.f167 := by kernel_rfl
theorem aFunc122 : aFunc Try.prog 122 = some Try.f122 := by kernel_rfl
theorem aFunc165 : aFunc Try.prog 165 = some Try.f165 := by kernel_rfl
theorem aFunc166 : aFunc Try.prog 166 = some Try.f166 := by kernel_rfl
theorem aFunc182 : aFunc Try.prog 182 = some Try.f182 := by kernel_rfl
theorem aFunc198 : aFunc Try.prog 198 = some Try.f198 := by kernel_rfl
theorem aFunc183 : aFunc Try.prog 183 = some Try.f183 := by kernel_rfl
theorem aFunc199 : aFunc Try.prog 199 = some Try.f199 := by kernel_rfl
theorem aFunc217 : aFunc Try.prog 217 = some Try.f217 := by kernel_rfl
theorem aFunc218 : aFunc Try.prog 218 = some Try.f218 := by kernel_rfl
theorem aFunc223 : aFunc Try.prog 223 = some Try.f223 := by kernel_rfl
theorem aFunc63 : aFunc Try.prog 63 = some Try.f63 := by kernel_rfl
theorem aFunc27 : aFunc Try.prog 27 = some Try.f27 := by kernel_rfl
theorem aFunc29 : aFunc Try.prog 29 = some Try.f29 := by kernel_rfl
theorem aFunc88 : aFunc Try.prog 88 = some Try.f88 := by kernel_rfl
theorem aFunc87 : aFunc Try.prog 87 = some Try.f87 := by kernel_rfl
theorem aFunc8 : aFunc Try.prog 8 = some Try.f8 := by kernel_rfl
theorem aFunc12 : aFunc Try.prog 12 = some Try.f12 := by kernel_rfl
theorem aFunc13 : aFunc Try.prog 13 = some Try.f13 := by kernel_rfl
theorem aFunc14 : aFunc Try.prog 14 = some Try.f14 := by kernel_rfl
theorem aFunc32 : aFunc Try.prog 32 = some Try.f32 := by kernel_rfl
theorem aFunc35 : aFunc Try.prog 35 = some Try.f35 := by kernel_rfl
theorem aFunc54 : aFunc Try.prog 54 = some Try.f54 := by kernel_rfl
theorem aFunc55 : aFunc Try.prog 55 = some Try.f55 := by kernel_rfl
theorem aFunc56 : aFunc Try.prog 56 = some Try.f56 := by kernel_rfl
theorem aFunc57 : aFunc Try.prog 57 = some Try.f57 := by kernel_rfl
end Go.Proofs.Ytidfcmjlfadieaa
