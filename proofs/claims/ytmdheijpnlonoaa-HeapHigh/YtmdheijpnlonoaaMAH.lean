import Derived.Test.YtmdheijpnlonoaaMAF
import Derived.Test.YtmdheijpnlonoaaChecked
import Derived.KernelRfl
namespace Go.Proofs.Ytmdheijpnlonoaa
open Go Go.AbsE
theorem ag2 : isAggT Try.prog 2 = some false := by kernel_rfl
theorem ag3 : isAggT Try.prog 3 = some false := by kernel_rfl
theorem sz3 : sizeT Try.prog 3 = some 1 := by kernel_rfl
theorem ag4 : isAggT Try.prog 4 = some false := by kernel_rfl
theorem sz4 : sizeT Try.prog 4 = some 1 := by kernel_rfl
theorem ag22 : isAggT Try.prog 22 = some false := by kernel_rfl
theorem sz22 : sizeT Try.prog 22 = some 1 := by kernel_rfl
theorem ag23 : isAggT Try.prog 23 = some false := by kernel_rfl
theorem sz23 : sizeT Try.prog 23 = some 1 := by kernel_rfl
theorem ag24 : isAggT Try.prog 24 = some true := by kernel_rfl
theorem sz24 : sizeT Try.prog 24 = some 3 := by kernel_rfl
theorem ag25 : isAggT Try.prog 25 = some false := by kernel_rfl
theorem sz25 : sizeT Try.prog 25 = some 1 := by kernel_rfl
theorem ag27 : isAggT Try.prog 27 = some true := by kernel_rfl
theorem sz27 : sizeT Try.prog 27 = some 7 := by kernel_rfl
theorem ag30 : isAggT Try.prog 30 = some true := by kernel_rfl
theorem sz30 : sizeT Try.prog 30 = some 2 := by kernel_rfl
theorem ag35 : isAggT Try.prog 35 = some false := by kernel_rfl
theorem sz35 : sizeT Try.prog 35 = some 1 := by kernel_rfl
theorem ag50 : isAggT Try.prog 50 = some false := by kernel_rfl
theorem sz50 : sizeT Try.prog 50 = some 1 := by kernel_rfl
theorem ag59 : isAggT Try.prog 59 = some true := by kernel_rfl
theorem sz59 : sizeT Try.prog 59 = some 4 := by kernel_rfl
theorem ag63 : isAggT Try.prog 63 = some true := by kernel_rfl
theorem sz63 : sizeT Try.prog 63 = some 3 := by kernel_rfl
theorem ag74 : isAggT Try.prog 74 = some true := by kernel_rfl
theorem sz74 : sizeT Try.prog 74 = some 7 := by kernel_rfl
theorem ag77 : isAggT Try.prog 77 = some false := by kernel_rfl
theorem sz77 : sizeT Try.prog 77 = some 1 := by kernel_rfl
theorem ag96 : isAggT Try.prog 96 = some false := by kernel_rfl
theorem sz96 : sizeT Try.prog 96 = some 1 := by kernel_rfl
theorem ag102 : isAggT Try.prog 102 = some true := by kernel_rfl
theorem sz102 : sizeT Try.prog 102 = some 6 := by kernel_rfl
theorem ag103 : isAggT Try.prog 103 = some false := by kernel_rfl
theorem sz103 : sizeT Try.prog 103 = some 1 := by kernel_rfl
theorem ag106 : isAggT Try.prog 106 = some true := by kernel_rfl
theorem sz106 : sizeT Try.prog 106 = some 4 := by kernel_rfl
theorem ag111 : isAggT Try.prog 111 = some true := by kernel_rfl
theorem sz111 : sizeT Try.prog 111 = some 12 := by kernel_rfl
theorem ag114 : isAggT Try.prog 114 = some true := by kernel_rfl
theorem sz114 : sizeT Try.prog 114 = some 7 := by kernel_rfl
theorem ag117 : isAggT Try.prog 117 = some false := by kernel_rfl
theorem sz117 : sizeT Try.prog 117 = some 1 := by kernel_rfl
theorem ag131 : isAggT Try.prog 131 = some false := by kernel_rfl
theorem ag132 : isAggT Try.prog 132 = some false := by kernel_rfl
theorem sz132 : sizeT Try.prog 132 = some 1 := by kernel_rfl
theorem ag134 : isAggT Try.prog 134 = some false := by kernel_rfl
theorem sz134 : sizeT Try.prog 134 = some 1 := by kernel_rfl
theorem ag137 : isAggT Try.prog 137 = some false := by kernel_rfl
theorem ag140 : isAggT Try.prog 140 = some true := by kernel_rfl
theorem sz140 : sizeT Try.prog 140 = some 6 := by kernel_rfl
theorem ag146 : isAggT Try.prog 146 = some true := by kernel_rfl
theorem sz146 : sizeT Try.prog 146 = some 1 := by kernel_rfl
theorem ag150 : isAggT Try.prog 150 = some false := by kernel_rfl
theorem fa27_0 {t : Tr AVal} {h : AH} {dst : Option Tmp} {tt : TypeId} {pos : String} {after : Array Edge} {guard : Option (Nat × Bool)} {x : Operand} {b off : Nat} (hx : ev t x = some (.ptr b off)) : aOp Try.prog t h ⟨dst, .fieldAddr 27 x 0, tt, pos, after, guard⟩ = some (.val (.ptr b (off + 0)) h) := by
  have := aOp_fieldAddr (P := Try.prog) (h := h) (dst := dst) (tt := tt) (pos := pos) (after := after) (guard := guard) (f := 0) Try.underlying27 rfl (n := 1) sz22 rfl hx
  exact this
theorem fa27_1 {t : Tr AVal} {h : AH} {dst : Option Tmp} {tt : TypeId} {pos : String} {after : Array Edge} {guard : Option (Nat × Bool)} {x : Operand} {b off : Nat} (hx : ev t x = some (.ptr b off)) : aOp Try.prog t h ⟨dst, .fieldAddr 27 x 1, tt, pos, after, guard⟩ = some (.val (.ptr b (off + 1)) h) := by
  have := aOp_fieldAddr (P := Try.prog) (h := h) (dst := dst) (tt := tt) (pos := pos) (after := after) (guard := guard) (f := 1) Try.underlying27 rfl (n := 1) sz23 rfl hx
  exact this
theorem fa27_2 {t : Tr AVal} {h : AH} {dst : Option Tmp} {tt : TypeId} {pos : String} {after : Array Edge} {guard : Option (Nat × Bool)} {x : Operand} {b off : Nat} (hx : ev t x = some (.ptr b off)) : aOp Try.prog t h ⟨dst, .fieldAddr 27 x 2, tt, pos, after, guard⟩ = some (.val (.ptr b (off + 2)) h) := by
  have := aOp_fieldAddr (P := Try.prog) (h := h) (dst := dst) (tt := tt) (pos := pos) (after := after) (guard := guard) (f := 2) Try.underlying27 rfl (n := 3) sz24 rfl hx
  exact this
theorem fa27_3 {t : Tr AVal} {h : AH} {dst : Option Tmp} {tt : TypeId} {pos : String} {after : Array Edge} {guard : Option (Nat × Bool)} {x : Operand} {b off : Nat} (hx : ev t x = some (.ptr b off)) : aOp Try.prog t h ⟨dst, .fieldAddr 27 x 3, tt, pos, after, guard⟩ = some (.val (.ptr b (off + 5)) h) := by
  have := aOp_fieldAddr (P := Try.prog) (h := h) (dst := dst) (tt := tt) (pos := pos) (after := after) (guard := guard) (f := 3) Try.underlying27 rfl (n := 1) sz3 rfl hx
  exact this
theorem fa27_4 {t : Tr AVal} {h : AH} {dst : Option Tmp} {tt : TypeId} {pos : String} {after : Array Edge} {guard : Option (Nat × Bool)} {x : Operand} {b off : Nat} (hx : ev t x = some (.ptr b off)) : aOp Try.prog t h ⟨dst, .fieldAddr 27 x 4, tt, pos, after, guard⟩ = some (.val (.ptr b (off + 6)) h) := by
  have := aOp_fieldAddr (P := Try.prog) (h := h) (dst := dst) (tt := tt) (pos := pos) (after := after) (guard := guard) (f := 4) Try.underlying27 rfl (n := 1) sz25 rfl hx
  exact this
theorem fa30_0 {t : Tr AVal} {h : AH} {dst : Option Tmp} {tt : TypeId} {pos : String} {after : Array Edge} {guard : Option (Nat × Bool)} {x : Operand} {b off : Nat} (hx : ev t x = some (.ptr b off)) : aOp Try.prog t h ⟨dst, .fieldAddr 30 x 0, tt, pos, after, guard⟩ = some (.val (.ptr b (off + 0)) h) := by
  have := aOp_fieldAddr (P := Try.prog) (h := h) (dst := dst) (tt := tt) (pos := pos) (after := after) (guard := guard) (f := 0) Try.underlying30 rfl (n := 1) sz3 rfl hx
  exact this
theorem fa30_1 {t : Tr AVal} {h : AH} {dst : Option Tmp} {tt : TypeId} {pos : String} {after : Array Edge} {guard : Option (Nat × Bool)} {x : Operand} {b off : Nat} (hx : ev t x = some (.ptr b off)) : aOp Try.prog t h ⟨dst, .fieldAddr 30 x 1, tt, pos, after, guard⟩ = some (.val (.ptr b (off + 1)) h) := by
  have := aOp_fieldAddr (P := Try.prog) (h := h) (dst := dst) (tt := tt) (pos := pos) (after := after) (guard := guard) (f := 1) Try.underlying30 rfl (n := 1) sz3 rfl hx
  exact this
theorem fa59_0 {t : Tr AVal} {h : AH} {dst : Option Tmp} {tt : TypeId} {pos : String} {after : Array Edge} {guard : Option (Nat × Bool)} {x : Operand} {b off : Nat} (hx : ev t x = some (.ptr b off)) : aOp Try.prog t h ⟨dst, .fieldAddr 59 x 0, tt, pos, after, guard⟩ = some (.val (.ptr b (off + 0)) h) := by
  have := aOp_fieldAddr (P := Try.prog) (h := h) (dst := dst) (tt := tt) (pos := pos) (after := after) (guard := guard) (f := 0) Try.underlying59 rfl (n := 1) sz3 rfl hx
  exact this
theorem fa59_1 {t : Tr AVal} {h : AH} {dst : Option Tmp} {tt : TypeId} {pos : String} {after : Array Edge} {guard : Option (Nat × Bool)} {x : Operand} {b off : Nat} (hx : ev t x = some (.ptr b off)) : aOp Try.prog t h ⟨dst, .fieldAddr 59 x 1, tt, pos, after, guard⟩ = some (.val (.ptr b (off + 1)) h) := by
  have := aOp_fieldAddr (P := Try.prog) (h := h) (dst := dst) (tt := tt) (pos := pos) (after := after) (guard := guard) (f := 1) Try.underlying59 rfl (n := 1) sz3 rfl hx
  exact this
theorem fa59_2 {t : Tr AVal} {h : AH} {dst : Option Tmp} {tt : TypeId} {pos : String} {after : Array Edge} {guard : Option (Nat × Bool)} {x : Operand} {b off : Nat} (hx : ev t x = some (.ptr b off)) : aOp Try.prog t h ⟨dst, .fieldAddr 59 x 2, tt, pos, after, guard⟩ = some (.val (.ptr b (off + 2)) h) := by
  have := aOp_fieldAddr (P := Try.prog) (h := h) (dst := dst) (tt := tt) (pos := pos) (after := after) (guard := guard) (f := 2) Try.underlying59 rfl (n := 2) sz30 rfl hx
  exact this
theorem fa63_0 {t : Tr AVal} {h : AH} {dst : Option Tmp} {tt : TypeId} {pos : String} {after : Array Edge} {guard : Option (Nat × Bool)} {x : Operand} {b off : Nat} (hx : ev t x = some (.ptr b off)) : aOp Try.prog t h ⟨dst, .fieldAddr 63 x 0, tt, pos, after, guard⟩ = some (.val (.ptr b (off + 0)) h) := by
  have := aOp_fieldAddr (P := Try.prog) (h := h) (dst := dst) (tt := tt) (pos := pos) (after := after) (guard := guard) (f := 0) Try.underlying63 rfl (n := 1) sz3 rfl hx
  exact this
theorem fa63_1 {t : Tr AVal} {h : AH} {dst : Option Tmp} {tt : TypeId} {pos : String} {after : Array Edge} {guard : Option (Nat × Bool)} {x : Operand} {b off : Nat} (hx : ev t x = some (.ptr b off)) : aOp Try.prog t h ⟨dst, .fieldAddr 63 x 1, tt, pos, after, guard⟩ = some (.val (.ptr b (off + 1)) h) := by
  have := aOp_fieldAddr (P := Try.prog) (h := h) (dst := dst) (tt := tt) (pos := pos) (after := after) (guard := guard) (f := 1) Try.underlying63 rfl (n := 2) sz30 rfl hx
  exact this
theorem fa74_0 {t : Tr AVal} {h : AH} {dst : Option Tmp} {tt : TypeId} {pos : String} {after : Array Edge} {guard : Option (Nat × Bool)} {x : Operand} {b off : Nat} (hx : ev t x = some (.ptr b off)) : aOp Try.prog t h ⟨dst, .fieldAddr 74 x 0, tt, pos, after, guard⟩ = some (.val (.ptr b (off + 0)) h) := by
  have := aOp_fieldAddr (P := Try.prog) (h := h) (dst := dst) (tt := tt) (pos := pos) (after := after) (guard := guard) (f := 0) Try.underlying74 rfl (n := 1) sz22 rfl hx
  exact this
theorem fa74_1 {t : Tr AVal} {h : AH} {dst : Option Tmp} {tt : TypeId} {pos : String} {after : Array Edge} {guard : Option (Nat × Bool)} {x : Operand} {b off : Nat} (hx : ev t x = some (.ptr b off)) : aOp Try.prog t h ⟨dst, .fieldAddr 74 x 1, tt, pos, after, guard⟩ = some (.val (.ptr b (off + 1)) h) := by
  have := aOp_fieldAddr (P := Try.prog) (h := h) (dst := dst) (tt := tt) (pos := pos) (after := after) (guard := guard) (f := 1) Try.underlying74 rfl (n := 1) sz23 rfl hx
  exact this
theorem fa74_2 {t : Tr AVal} {h : AH} {dst : Option Tmp} {tt : TypeId} {pos : String} {after : Array Edge} {guard : Option (Nat × Bool)} {x : Operand} {b off : Nat} (hx : ev t x = some (.ptr b off)) : aOp Try.prog t h ⟨dst, .fieldAddr 74 x 2, tt, pos, after, guard⟩ = some (.val (.ptr b (off + 2)) h) := by
  have := aOp_fieldAddr (P := Try.prog) (h := h) (dst := dst) (tt := tt) (pos := pos) (after := after) (guard := guard) (f := 2) Try.underlying74 rfl (n := 3) sz24 rfl hx
  exact this
theorem fa74_3 {t : Tr AVal} {h : AH} {dst : Option Tmp} {tt : TypeId} {pos : String} {after : Array Edge} {guard : Option (Nat × Bool)} {x : Operand} {b off : Nat} (hx : ev t x = some (.ptr b off)) : aOp Try.prog t h ⟨dst, .fieldAddr 74 x 3, tt, pos, after, guard⟩ = some (.val (.ptr b (off + 5)) h) := by
  have := aOp_fieldAddr (P := Try.prog) (h := h) (dst := dst) (tt := tt) (pos := pos) (after := after) (guard := guard) (f := 3) Try.underlying74 rfl (n := 1) sz3 rfl hx
  exact this
theorem fa74_4 {t : Tr AVal} {h : AH} {dst : Option Tmp} {tt : TypeId} {pos : String} {after : Array Edge} {guard : Option (Nat × Bool)} {x : Operand} {b off : Nat} (hx : ev t x = some (.ptr b off)) : aOp Try.prog t h ⟨dst, .fieldAddr 74 x 4, tt, pos, after, guard⟩ = some (.val (.ptr b (off + 6)) h) := by
  have := aOp_fieldAddr (P := Try.prog) (h := h) (dst := dst) (tt := tt) (pos := pos) (after := after) (guard := guard) (f := 4) Try.underlying74 rfl (n := 1) sz25 rfl hx
  exact this
theorem fa106_0 {t : Tr AVal} {h : AH} {dst : Option Tmp} {tt : TypeId} {pos : String} {after : Array Edge} {guard : Option (Nat × Bool)} {x : Operand} {b off : Nat} (hx : ev t x = some (.ptr b off)) : aOp Try.prog t h ⟨dst, .fieldAddr 106 x 0, tt, pos, after, guard⟩ = some (.val (.ptr b (off + 0)) h) := by
  have := aOp_fieldAddr (P := Try.prog) (h := h) (dst := dst) (tt := tt) (pos := pos) (after := after) (guard := guard) (f := 0) Try.underlying106 rfl (n := 3) sz63 rfl hx
  exact this
theorem fa106_1 {t : Tr AVal} {h : AH} {dst : Option Tmp} {tt : TypeId} {pos : String} {after : Array Edge} {guard : Option (Nat × Bool)} {x : Operand} {b off : Nat} (hx : ev t x = some (.ptr b off)) : aOp Try.prog t h ⟨dst, .fieldAddr 106 x 1, tt, pos, after, guard⟩ = some (.val (.ptr b (off + 3)) h) := by
  have := aOp_fieldAddr (P := Try.prog) (h := h) (dst := dst) (tt := tt) (pos := pos) (after := after) (guard := guard) (f := 1) Try.underlying106 rfl (n := 1) sz25 rfl hx
  exact this
theorem fa114_0 {t : Tr AVal} {h : AH} {dst : Option Tmp} {tt : TypeId} {pos : String} {after : Array Edge} {guard : Option (Nat × Bool)} {x : Operand} {b off : Nat} (hx : ev t x = some (.ptr b off)) : aOp Try.prog t h ⟨dst, .fieldAddr 114 x 0, tt, pos, after, guard⟩ = some (.val (.ptr b (off + 0)) h) := by
  have := aOp_fieldAddr (P := Try.prog) (h := h) (dst := dst) (tt := tt) (pos := pos) (after := after) (guard := guard) (f := 0) Try.underlying114 rfl (n := 1) sz3 rfl hx
  exact this
theorem fa114_1 {t : Tr AVal} {h : AH} {dst : Option Tmp} {tt : TypeId} {pos : String} {after : Array Edge} {guard : Option (Nat × Bool)} {x : Operand} {b off : Nat} (hx : ev t x = some (.ptr b off)) : aOp Try.prog t h ⟨dst, .fieldAddr 114 x 1, tt, pos, after, guard⟩ = some (.val (.ptr b (off + 1)) h) := by
  have := aOp_fieldAddr (P := Try.prog) (h := h) (dst := dst) (tt := tt) (pos := pos) (after := after) (guard := guard) (f := 1) Try.underlying114 rfl (n := 6) sz102 rfl hx
  exact this
theorem fa119_0 {t : Tr AVal} {h : AH} {dst : Option Tmp} {tt : TypeId} {pos : String} {after : Array Edge} {guard : Option (Nat × Bool)} {x : Operand} {b off : Nat} (hx : ev t x = some (.ptr b off)) : aOp Try.prog t h ⟨dst, .fieldAddr 119 x 0, tt, pos, after, guard⟩ = some (.val (.ptr b (off + 0)) h) := by
  have := aOp_fieldAddr (P := Try.prog) (h := h) (dst := dst) (tt := tt) (pos := pos) (after := after) (guard := guard) (f := 0) Try.underlying119 rfl (n := 1) sz117 rfl hx
  exact this
theorem fa146_0 {t : Tr AVal} {h : AH} {dst : Option Tmp} {tt : TypeId} {pos : String} {after : Array Edge} {guard : Option (Nat × Bool)} {x : Operand} {b off : Nat} (hx : ev t x = some (.ptr b off)) : aOp Try.prog t h ⟨dst, .fieldAddr 146 x 0, tt, pos, after, guard⟩ = some (.val (.ptr b (off + 0)) h) := by
  have := aOp_fieldAddr (P := Try.prog) (h := h) (dst := dst) (tt := tt) (pos := pos) (after := after) (guard := guard) (f := 0) Try.underlying146 rfl (n := 1) sz3 rfl hx
  exact this
theorem fa148_0 {t : Tr AVal} {h : AH} {dst : Option Tmp} {tt : TypeId} {pos : String} {after : Array Edge} {guard : Option (Nat × Bool)} {x : Operand} {b off : Nat} (hx : ev t x = some (.ptr b off)) : aOp Try.prog t h ⟨dst, .fieldAddr 148 x 0, tt, pos, after, guard⟩ = some (.val (.ptr b (off + 0)) h) := by
  have := aOp_fieldAddr (P := Try.prog) (h := h) (dst := dst) (tt := tt) (pos := pos) (after := after) (guard := guard) (f := 0) Try.underlying148 rfl (n := 1) sz146 rfl hx
  exact this
theorem fa148_1 {t : Tr AVal} {h : AH} {dst : Option Tmp} {tt : TypeId} {pos : String} {after : Array Edge} {guard : Option (Nat × Bool)} {x : Operand} {b off : Nat} (hx : ev t x = some (.ptr b off)) : aOp Try.prog t h ⟨dst, .fieldAddr 148 x 1, tt, pos, after, guard⟩ = some (.val (.ptr b (off + 1)) h) := by
  have := aOp_fieldAddr (P := Try.prog) (h := h) (dst := dst) (tt := tt) (pos := pos) (after := after) (guard := guard) (f := 1) Try.underlying148 rfl (n := 3) sz24 rfl hx
  exact this
theorem ld3 {t : Tr AVal} {h : AH} {dst : Option Tmp} {tt : TypeId} {pos : String} {after : Array Edge} {guard : Option (Nat × Bool)} {x : Operand} {b off : Nat} {g : Kd} {cs : List AVal} {el : TypeId} {v : AVal} (hx : ev t x = some (.ptr b off)) (hb : Has h b (.cells g cs el)) (hv : cs[off]? = some v) : aOp Try.prog t h ⟨dst, .load 3 x, tt, pos, after, guard⟩ = some (.val v h) := aOp_load1 ag3 hx hb hv
theorem ld22 {t : Tr AVal} {h : AH} {dst : Option Tmp} {tt : TypeId} {pos : String} {after : Array Edge} {guard : Option (Nat × Bool)} {x : Operand} {b off : Nat} {g : Kd} {cs : List AVal} {el : TypeId} {v : AVal} (hx : ev t x = some (.ptr b off)) (hb : Has h b (.cells g cs el)) (hv : cs[off]? = some v) : aOp Try.prog t h ⟨dst, .load 22 x, tt, pos, after, guard⟩ = some (.val v h) := aOp_load1 ag22 hx hb hv
theorem ld23 {t : Tr AVal} {h : AH} {dst : Option Tmp} {tt : TypeId} {pos : String} {after : Array Edge} {guard : Option (Nat × Bool)} {x : Operand} {b off : Nat} {g : Kd} {cs : List AVal} {el : TypeId} {v : AVal} (hx : ev t x = some (.ptr b off)) (hb : Has h b (.cells g cs el)) (hv : cs[off]? = some v) : aOp Try.prog t h ⟨dst, .load 23 x, tt, pos, after, guard⟩ = some (.val v h) := aOp_load1 ag23 hx hb hv
theorem ld24 {t : Tr AVal} {h : AH} {dst : Option Tmp} {tt : TypeId} {pos : String} {after : Array Edge} {guard : Option (Nat × Bool)} {x : Operand} {b off : Nat} {g : Kd} {cs l : List AVal} {el : TypeId} (hx : ev t x = some (.ptr b off)) (hb : Has h b (.cells g cs el)) (hv : slice? cs off 3 = some l) : aOp Try.prog t h ⟨dst, .load 24 x, tt, pos, after, guard⟩ = some (.val (.agg l) h) := aOp_loadN ag24 sz24 hx hb hv
theorem ld25 {t : Tr AVal} {h : AH} {dst : Option Tmp} {tt : TypeId} {pos : String} {after : Array Edge} {guard : Option (Nat × Bool)} {x : Operand} {b off : Nat} {g : Kd} {cs : List AVal} {el : TypeId} {v : AVal} (hx : ev t x = some (.ptr b off)) (hb : Has h b (.cells g cs el)) (hv : cs[off]? = some v) : aOp Try.prog t h ⟨dst, .load 25 x, tt, pos, after, guard⟩ = some (.val v h) := aOp_load1 ag25 hx hb hv
theorem ld27 {t : Tr AVal} {h : AH} {dst : Option Tmp} {tt : TypeId} {pos : String} {after : Array Edge} {guard : Option (Nat × Bool)} {x : Operand} {b off : Nat} {g : Kd} {cs l : List AVal} {el : TypeId} (hx : ev t x = some (.ptr b off)) (hb : Has h b (.cells g cs el)) (hv : slice? cs off 7 = some l) : aOp Try.prog t h ⟨dst, .load 27 x, tt, pos, after, guard⟩ = some (.val (.agg l) h) := aOp_loadN ag27 sz27 hx hb hv
theorem ld30 {t : Tr AVal} {h : AH} {dst : Option Tmp} {tt : TypeId} {pos : String} {after : Array Edge} {guard : Option (Nat × Bool)} {x : Operand} {b off : Nat} {g : Kd} {cs l : List AVal} {el : TypeId} (hx : ev t x = some (.ptr b off)) (hb : Has h b (.cells g cs el)) (hv : slice? cs off 2 = some l) : aOp Try.prog t h ⟨dst, .load 30 x, tt, pos, after, guard⟩ = some (.val (.agg l) h) := aOp_loadN ag30 sz30 hx hb hv
theorem ld59 {t : Tr AVal} {h : AH} {dst : Option Tmp} {tt : TypeId} {pos : String} {after : Array Edge} {guard : Option (Nat × Bool)} {x : Operand} {b off : Nat} {g : Kd} {cs l : List AVal} {el : TypeId} (hx : ev t x = some (.ptr b off)) (hb : Has h b (.cells g cs el)) (hv : slice? cs off 4 = some l) : aOp Try.prog t h ⟨dst, .load 59 x, tt, pos, after, guard⟩ = some (.val (.agg l) h) := aOp_loadN ag59 sz59 hx hb hv
theorem ld63 {t : Tr AVal} {h : AH} {dst : Option Tmp} {tt : TypeId} {pos : String} {after : Array Edge} {guard : Option (Nat × Bool)} {x : Operand} {b off : Nat} {g : Kd} {cs l : List AVal} {el : TypeId} (hx : ev t x = some (.ptr b off)) (hb : Has h b (.cells g cs el)) (hv : slice? cs off 3 = some l) : aOp Try.prog t h ⟨dst, .load 63 x, tt, pos, after, guard⟩ = some (.val (.agg l) h) := aOp_loadN ag63 sz63 hx hb hv
theorem ld74 {t : Tr AVal} {h : AH} {dst : Option Tmp} {tt : TypeId} {pos : String} {after : Array Edge} {guard : Option (Nat × Bool)} {x : Operand} {b off : Nat} {g : Kd} {cs l : List AVal} {el : TypeId} (hx : ev t x = some (.ptr b off)) (hb : Has h b (.cells g cs el)) (hv : slice? cs off 7 = some l) : aOp Try.prog t h ⟨dst, .load 74 x, tt, pos, after, guard⟩ = some (.val (.agg l) h) := aOp_loadN ag74 sz74 hx hb hv
theorem ld77 {t : Tr AVal} {h : AH} {dst : Option Tmp} {tt : TypeId} {pos : String} {after : Array Edge} {guard : Option (Nat × Bool)} {x : Operand} {b off : Nat} {g : Kd} {cs : List AVal} {el : TypeId} {v : AVal} (hx : ev t x = some (.ptr b off)) (hb : Has h b (.cells g cs el)) (hv : cs[off]? = some v) : aOp Try.prog t h ⟨dst, .load 77 x, tt, pos, after, guard⟩ = some (.val v h) := aOp_load1 ag77 hx hb hv
theorem ld96 {t : Tr AVal} {h : AH} {dst : Option Tmp} {tt : TypeId} {pos : String} {after : Array Edge} {guard : Option (Nat × Bool)} {x : Operand} {b off : Nat} {g : Kd} {cs : List AVal} {el : TypeId} {v : AVal} (hx : ev t x = some (.ptr b off)) (hb : Has h b (.cells g cs el)) (hv : cs[off]? = some v) : aOp Try.prog t h ⟨dst, .load 96 x, tt, pos, after, guard⟩ = some (.val v h) := aOp_load1 ag96 hx hb hv
theorem ld102 {t : Tr AVal} {h : AH} {dst : Option Tmp} {tt : TypeId} {pos : String} {after : Array Edge} {guard : Option (Nat × Bool)} {x : Operand} {b off : Nat} {g : Kd} {cs l : List AVal} {el : TypeId} (hx : ev t x = some (.ptr b off)) (hb : Has h b (.cells g cs el)) (hv : slice? cs off 6 = some l) : aOp Try.prog t h ⟨dst, .load 102 x, tt, pos, after, guard⟩ = some (.val (.agg l) h) := aOp_loadN ag102 sz102 hx hb hv
theorem ld103 {t : Tr AVal} {h : AH} {dst : Option Tmp} {tt : TypeId} {pos : String} {after : Array Edge} {guard : Option (Nat × Bool)} {x : Operand} {b off : Nat} {g : Kd} {cs : List AVal} {el : TypeId} {v : AVal} (hx : ev t x = some (.ptr b off)) (hb : Has h b (.cells g cs el)) (hv : cs[off]? = some v) : aOp Try.prog t h ⟨dst, .load 103 x, tt, pos, after, guard⟩ = some (.val v h) := aOp_load1 ag103 hx hb hv
theorem ld106 {t : Tr AVal} {h : AH} {dst : Option Tmp} {tt : TypeId} {pos : String} {after : Array Edge} {guard : Option (Nat × Bool)} {x : Operand} {b off : Nat} {g : Kd} {cs l : List AVal} {el : TypeId} (hx : ev t x = some (.ptr b off)) (hb : Has h b (.cells g cs el)) (hv : slice? cs off 4 = some l) : aOp Try.prog t h ⟨dst, .load 106 x, tt, pos, after, guard⟩ = some (.val (.agg l) h) := aOp_loadN ag106 sz106 hx hb hv
theorem ld111 {t : Tr AVal} {h : AH} {dst : Option Tmp} {tt : TypeId} {pos : String} {after : Array Edge} {guard : Option (Nat × Bool)} {x : Operand} {b off : Nat} {g : Kd} {cs l : List AVal} {el : TypeId} (hx : ev t x = some (.ptr b off)) (hb : Has h b (.cells g cs el)) (hv : slice? cs off 12 = some l) : aOp Try.prog t h ⟨dst, .load 111 x, tt, pos, after, guard⟩ = some (.val (.agg l) h) := aOp_loadN ag111 sz111 hx hb hv
theorem ld114 {t : Tr AVal} {h : AH} {dst : Option Tmp} {tt : TypeId} {pos : String} {after : Array Edge} {guard : Option (Nat × Bool)} {x : Operand} {b off : Nat} {g : Kd} {cs l : List AVal} {el : TypeId} (hx : ev t x = some (.ptr b off)) (hb : Has h b (.cells g cs el)) (hv : slice? cs off 7 = some l) : aOp Try.prog t h ⟨dst, .load 114 x, tt, pos, after, guard⟩ = some (.val (.agg l) h) := aOp_loadN ag114 sz114 hx hb hv
theorem ld117 {t : Tr AVal} {h : AH} {dst : Option Tmp} {tt : TypeId} {pos : String} {after : Array Edge} {guard : Option (Nat × Bool)} {x : Operand} {b off : Nat} {g : Kd} {cs : List AVal} {el : TypeId} {v : AVal} (hx : ev t x = some (.ptr b off)) (hb : Has h b (.cells g cs el)) (hv : cs[off]? = some v) : aOp Try.prog t h ⟨dst, .load 117 x, tt, pos, after, guard⟩ = some (.val v h) := aOp_load1 ag117 hx hb hv
theorem ld131 {t : Tr AVal} {h : AH} {dst : Option Tmp} {tt : TypeId} {pos : String} {after : Array Edge} {guard : Option (Nat × Bool)} {x : Operand} {b off : Nat} {g : Kd} {cs : List AVal} {el : TypeId} {v : AVal} (hx : ev t x = some (.ptr b off)) (hb : Has h b (.cells g cs el)) (hv : cs[off]? = some v) : aOp Try.prog t h ⟨dst, .load 131 x, tt, pos, after, guard⟩ = some (.val v h) := aOp_load1 ag131 hx hb hv
theorem ld132 {t : Tr AVal} {h : AH} {dst : Option Tmp} {tt : TypeId} {pos : String} {after : Array Edge} {guard : Option (Nat × Bool)} {x : Operand} {b off : Nat} {g : Kd} {cs : List AVal} {el : TypeId} {v : AVal} (hx : ev t x = some (.ptr b off)) (hb : Has h b (.cells g cs el)) (hv : cs[off]? = some v) : aOp Try.prog t h ⟨dst, .load 132 x, tt, pos, after, guard⟩ = some (.val v h) := aOp_load1 ag132 hx hb hv
theorem ld134 {t : Tr AVal} {h : AH} {dst : Option Tmp} {tt : TypeId} {pos : String} {after : Array Edge} {guard : Option (Nat × Bool)} {x : Operand} {b off : Nat} {g : Kd} {cs : List AVal} {el : TypeId} {v : AVal} (hx : ev t x = some (.ptr b off)) (hb : Has h b (.cells g cs el)) (hv : cs[off]? = some v) : aOp Try.prog t h ⟨dst, .load 134 x, tt, pos, after, guard⟩ = some (.val v h) := aOp_load1 ag134 hx hb hv
theorem ld137 {t : Tr AVal} {h : AH} {dst : Option Tmp} {tt : TypeId} {pos : String} {after : Array Edge} {guard : Option (Nat × Bool)} {x : Operand} {b off : Nat} {g : Kd} {cs : List AVal} {el : TypeId} {v : AVal} (hx : ev t x = some (.ptr b off)) (hb : Has h b (.cells g cs el)) (hv : cs[off]? = some v) : aOp Try.prog t h ⟨dst, .load 137 x, tt, pos, after, guard⟩ = some (.val v h) := aOp_load1 ag137 hx hb hv
theorem ld140 {t : Tr AVal} {h : AH} {dst : Option Tmp} {tt : TypeId} {pos : String} {after : Array Edge} {guard : Option (Nat × Bool)} {x : Operand} {b off : Nat} {g : Kd} {cs l : List AVal} {el : TypeId} (hx : ev t x = some (.ptr b off)) (hb : Has h b (.cells g cs el)) (hv : slice? cs off 6 = some l) : aOp Try.prog t h ⟨dst, .load 140 x, tt, pos, after, guard⟩ = some (.val (.agg l) h) := aOp_loadN ag140 sz140 hx hb hv
theorem ld146 {t : Tr AVal} {h : AH} {dst : Option Tmp} {tt : TypeId} {pos : String} {after : Array Edge} {guard : Option (Nat × Bool)} {x : Operand} {b off : Nat} {g : Kd} {cs l : List AVal} {el : TypeId} (hx : ev t x = some (.ptr b off)) (hb : Has h b (.cells g cs el)) (hv : slice? cs off 1 = some l) : aOp Try.prog t h ⟨dst, .load 146 x, tt, pos, after, guard⟩ = some (.val (.agg l) h) := aOp_loadN ag146 sz146 hx hb hv
theorem ld150 {t : Tr AVal} {h : AH} {dst : Option Tmp} {tt : TypeId} {pos : String} {after : Array Edge} {guard : Option (Nat × Bool)} {x : Operand} {b off : Nat} {g : Kd} {cs : List AVal} {el : TypeId} {v : AVal} (hx : ev t x = some (.ptr b off)) (hb : Has h b (.cells g cs el)) (hv : cs[off]? = some v) : aOp Try.prog t h ⟨dst, .load 150 x, tt, pos, after, guard⟩ = some (.val v h) := aOp_load1 ag150 hx hb hv
theorem aFunc7 : aFunc Try.prog 7 = some Try.f7 := by kernel_rfl
theorem aFunc11 : aFunc Try.prog 11 = some Try.f11 := by kernel_rfl
theorem aFunc13 : aFunc Try.prog 13 = some Try.f13 := by kernel_rfl
theorem aFunc15 : aFunc Try.prog 15 = some Try.f15 := by kernel_rfl
theorem aFunc16 : aFunc Try.prog 16 = some Try.f16 := by kernel_rfl
theorem aFunc17 : aFunc Try.prog 17 = some Try.f17 := by kernel_rfl
theorem aFunc21 : aFunc Try.prog 21 = some Try.f21 := by kernel_rfl
theorem aFunc22 : aFunc Try.prog 22 = some Try.f22 := by kernel_rfl
theorem aFunc23 : aFunc Try.prog 23 = some Try.f23 := by kernel_rfl
theorem aFunc26 : aFunc Try.prog 26 = some Try.f26 := by kernel_rfl
theorem aFunc30 : aFunc Try.prog 30 = some Try.f30 := by kernel_rfl
theorem aFunc34 : aFunc Try.prog 34 = some Try.f34 := by kernel_rfl
theorem aFunc35 : aFunc Try.prog 35 = some Try.f35 := by kernel_rfl
theorem aFunc36 : aFunc Try.prog 36 = some Try.f36 := by kernel_rfl
theorem aFunc37 : aFunc Try.prog 37 = some Try.f37 := by kernel_rfl
theorem aFunc38 : aFunc Try.prog 38 = some Try.f38 := by kernel_rfl
theorem aFunc39 : aFunc Try.prog 39 = some Try.f39 := by kernel_rfl
theorem aFunc41 : aFunc Try.prog 41 = some Try.f41 := by kernel_rfl
theorem aFunc42 : aFunc Try.prog 42 = some Try.f42 := by kernel_rfl
theorem aFunc43 : aFunc Try.prog 43 = some Try.f43 := by kernel_rfl
theorem aFunc44 : aFunc Try.prog 44 = some Try.f44 := by kernel_rfl
theorem aFunc45 : aFunc Try.prog 45 = some Try.f45 := by kernel_rfl
theorem aFunc46 : aFunc Try.prog 46 = some Try.f46 := by kernel_rfl
theorem aFunc47 : aFunc Try.prog 47 = some Try.f47 := by kernel_rfl
theorem aFunc55 : aFunc Try.prog 55 = some Try.f55 := by kernel_rfl
theorem aFunc57 : aFunc Try.prog 57 = some Try.f57 := by kernel_rfl
theorem aFunc58 : aFunc Try.prog 58 = some Try.f58 := by kernel_rfl
theorem aFunc59 : aFunc Try.prog 59 = some Try.f59 := by kernel_rfl
theorem aFunc60 : aFunc Try.prog 60 = some Try.f60 := by kernel_rfl
theorem aFunc62 : aFunc Try.prog 62 = some Try.f62 := by kernel_rfl
theorem aFunc63 : aFunc Try.prog 63 = some Try.f63 := by kernel_rfl
theorem aFunc64 : aFunc Try.prog 64 = some Try.f64 := by kernel_rfl
theorem aFunc65 : aFunc Try.prog 65 = some Try.f65 := by kernel_rfl
theorem aFunc66 : aFunc Try.prog 66 = some Try.f66 := by kernel_rfl
theorem aFunc67 : aFunc Try.prog 67 = some Try.f67 := by kernel_rfl
theorem aFunc68 : aFunc Try.prog 68 = some Try.f68 := by kernel_rfl
theorem aFunc69 : aFunc Try.prog 69 = some Try.f69 := by kernel_rfl
theorem aFunc70 : aFunc Try.prog 70 = some Try.f70 := by kernel_rfl
theorem aFunc71 : aFunc Try.prog 71 = some Try.f71 := by kernel_rfl
theorem aFunc72 : aFunc Try.prog 72 = some Try.f72 := by kernel_rfl
theorem aFunc73 : aFunc Try.prog 73 = some Try.f73 := by kernel_rfl
theorem aFunc74 : aFunc Try.prog 74 = some Try.f74 := by kernel_rfl
theorem aFunc75 : aFunc Try.prog 75 = some Try.f75 := by kernel_rfl
theorem aFunc76 : aFunc Try.prog 76 = some Try.f76 := by kernel_rfl
theorem aFunc77 : aFunc Try.prog 77 = some Try.f77 := by kernel_rfl
theorem aFunc78 : aFunc Try.prog 78 = some Try.f78 := by kernel_rfl
theorem aFunc79 : aFunc Try.prog 79 = some Try.f79 := by kernel_rfl
theorem aFunc80 : aFunc Try.prog 80 = some Try.f80 := by kernel_rfl
theorem aFunc84 : aFunc Try.prog 84 = some Try.f84 := by kernel_rfl
theorem aFunc85 : aFunc Try.prog 85 = some Try.f85 := by kernel_rfl
theorem aFunc86 : aFunc Try.prog 86 = some Try.f86 := by kernel_rfl
theorem aFunc87 : aFunc Try.prog 87 = some Try.f87 := by kernel_rfl
theorem aFunc88 : aFunc Try.prog 88 = some Try.f88 := by kernel_rfl
theorem aFunc89 : aFunc Try.prog 89 = some Try.f89 := by kernel_rfl
theorem aFunc90 : aFunc Try.prog 90 = some Try.f90 := by kernel_rfl
theorem aFunc91 : aFunc Try.prog 91 = some Try.f91 := by kernel_rfl
theorem aFunc92 : aFunc Try.prog 92 = some Try.f92 := by kernel_rfl
theorem aFunc93 : aFunc Try.prog 93 = some Try.f93 := by kernel_rfl
theorem aFunc94 : aFunc Try.prog 94 = some Try.f94 := by kernel_rfl
theorem aFunc95 : aFunc Try.prog 95 = some Try.f95 := by kernel_rfl
theorem aFunc96 : aFunc Try.prog 96 = some Try.f96 := by kernel_rfl
theorem aFunc97 : aFunc Try.prog 97 = some Try.f97 := by kernel_rfl
theorem aFunc98 : aFunc Try.prog 98 = some Try.f98 := by kernel_rfl
theorem aFunc99 : aFunc Try.prog 99 = some Try.f99 := by kernel_rfl
theorem aFunc100 : aFunc Try.prog 100 = some Try.f100 := by kernel_rfl
theorem aFunc101 : aFunc Try.prog 101 = some Try.f101 := by kernel_rfl
theorem aFunc102 : aFunc Try.prog 102 = some Try.f102 := by kernel_rfl
theorem aFunc103 : aFunc Try.prog 103 = some Try.f103 := by kernel_rfl
theorem aFunc104 : aFunc Try.prog 104 = some Try.f104 := by kernel_rfl
theorem aFunc105 : aFunc Try.prog 105 = some Try.f105 := by kernel_rfl
theorem aFunc106 : aFunc Try.prog 106 = some Try.f106 := by kernel_rfl
theorem aFunc122 : aFunc Try.prog 122 = some Try.f122 := by kernel_rfl
theorem aFunc123 : aFunc Try.prog 123 = some Try.f123 := by kernel_rfl
theorem aFunc124 : aFunc Try.prog 124 = some Try.f124 := by kernel_rfl
end Go.Proofs.Ytmdheijpnlonoaa

namespace Go.Proofs.Ytmdheijpnlonoaa
open Go Go.AbsE
set_option linter.unusedSimpArgs false
theorem zt3 : zeroT Try.prog 3 = some (.int .i64 0) := by kernel_rfl
theorem zt4 : zeroT Try.prog 4 = some (.bool false) := by kernel_rfl
theorem zt24 : zeroT Try.prog 24 = some (.agg [.int .i64 0, .int .i64 0, .int .i64 0]) := by kernel_rfl
theorem zt27 : zeroT Try.prog 27 = some (.agg [.nilslice, .nilslice, .int .i64 0, .int .i64 0, .int .i64 0, .int .i64 0, .nilslice]) := by kernel_rfl
theorem zt30 : zeroT Try.prog 30 = some (.agg [.int .i64 0, .int .i64 0]) := by kernel_rfl
theorem zt32 : zeroT Try.prog 32 = some (.agg [.nilslice, .nilslice, .int .i64 0, .int .i64 0, .int .i64 0, .int .i64 0, .nilslice, .int .i64 0, .int .i64 0, .int .i64 0, .int .i64 0]) := by kernel_rfl
theorem zt35 : zeroT Try.prog 35 = some (.int .i64 0) := by kernel_rfl
theorem zt59 : zeroT Try.prog 59 = some (.agg [.int .i64 0, .int .i64 0, .int .i64 0, .int .i64 0]) := by kernel_rfl
theorem zt63 : zeroT Try.prog 63 = some (.agg [.int .i64 0, .int .i64 0, .int .i64 0]) := by kernel_rfl
theorem zt77 : zeroT Try.prog 77 = some .nilmap := by kernel_rfl
theorem zt96 : zeroT Try.prog 96 = some .nilslice := by kernel_rfl
theorem zt102 : zeroT Try.prog 102 = some (.agg [.int .i64 0, .int .i64 0, .int .i64 0, .int .i64 0, .int .i64 0, .int .i64 0]) := by kernel_rfl
theorem zt103 : zeroT Try.prog 103 = some .nilslice := by kernel_rfl
theorem zt106 : zeroT Try.prog 106 = some (.agg [.int .i64 0, .int .i64 0, .int .i64 0, .nilslice]) := by kernel_rfl
theorem zt111 : zeroT Try.prog 111 = some (.agg [.int .i64 0, .int .i64 0, .int .i64 0, .int .i64 0, .int .i64 0, .int .i64 0, .int .i64 0, .int .i64 0, .int .i64 0, .int .i64 0, .int .i64 0, .int .i64 0]) := by kernel_rfl
theorem zt114 : zeroT Try.prog 114 = some (.agg [.int .i64 0, .int .i64 0, .int .i64 0, .int .i64 0, .int .i64 0, .int .i64 0, .int .i64 0]) := by kernel_rfl
theorem zt119 : zeroT Try.prog 119 = some (.agg [.nilfunc]) := by kernel_rfl
theorem zt132 : zeroT Try.prog 132 = some .nilfunc := by kernel_rfl
theorem zt140 : zeroT Try.prog 140 = some (.agg [.int .i64 0, .int .i64 0, .int .i64 0, .int .i64 0, .int .i64 0, .int .i64 0]) := by kernel_rfl
theorem zt146 : zeroT Try.prog 146 = some (.agg [.int .i64 0]) := by kernel_rfl
theorem zt148 : zeroT Try.prog 148 = some (.agg [.int .i64 0, .int .i64 0, .int .i64 0, .int .i64 0]) := by kernel_rfl
end Go.Proofs.Ytmdheijpnlonoaa

set_option linter.unusedSimpArgs false
namespace Go.AbsE
open Go

/-! Panics, deferred calls, recover. -/
section
variable {P : Program}

/-- A frame that is left so: with what is deferred still to come. -/
def FLeft (P : Program) (c : FC) (mode : AMode) (t : Tr AVal) (h : AH) (Q : AM → Prop) : Prop := ∀ todo, Reach P ⟨⟨c.fn, c.n, t, todo, c.ds, mode, c.dk, c.rd⟩ :: c.rest, h⟩ Q

theorem GoR.callP {c : FC} {k : List AItem} {Q : AM → Prop} {all : Array Oper} {l : List Oper} {o : Oper} {rest : List Oper} {i : Nat} {t : Tr AVal} {h : AH} {f : FuncId} {args : List AVal} {R : AEnd → AH → Prop} (hl : l = o :: rest)
    (hw : wantedA all t o = some true) (hx : aOp P t h o = some (.enter f args h)) (hr : Runs P f args h R)
    (hret : ∀ v h', R (.ret v) h' → ∃ t', (prepD c.n o).run t v = some t' ∧ GoR P noJ c k Q (runOps P c.n all rest (i + 1) t' h')) (hpan : ∀ chain h', R (.pan chain) h' → FLeft P c (.panicking chain) t h' Q) :
    GoR P noJ c k Q (runOps P c.n all l i t h) := by
  subst hl
  have hs : runOps P c.n all (o :: rest) i t h = .susp [.inRegion all i (o :: rest)] t (.enter f args h) := by
    rw [runOps_cons, hw]
    show (afterP c.n i all o rest (runOpsP P c.n all rest (i + 1))).run t (aOp P t h o) = _
    rw [hx]
    rfl
  rw [hs]
  obtain ⟨fr, hfr, hrun⟩ := hr
  refine ⟨⟨fr :: c.fr ([.inRegion all i (o :: rest)] ++ k) t :: c.rest, h⟩, ?_, ?_⟩
  · show enterJ P _ c.rest f args h none = _
    show one h (_ :: c.rest) (aFrame P f args false) = _
    rw [hfr]
    rfl
  · refine Reach.call noJ_ok ⟨fr, hfr, hrun⟩ hfr (fun v h' hv => ?_) (fun chain h' hq => hpan chain h' hq _)
    obtain ⟨t', q1, q2⟩ := hret v h' hv
    refine ⟨c.fr (.inRegion all (i + 1) rest :: k) t', ?_, Go.inRegion noJ_ok q2⟩
    show AFr.finishRun c.fn c.n t (.inRegion all i (o :: rest) :: k) c.ds c.dk c.rd v = _
    unfold AFr.finishRun
    simp only [q1]
    rfl

theorem GoR.susp {c : FC} {k : List AItem} {Q : AM → Prop} {all : Array Oper} {l : List Oper} {o : Oper} {rest : List Oper} {i : Nat} {t : Tr AVal} {h : AH} {x : ANext} (hl : l = o :: rest) (hw : wantedA all t o = some true)
    (hx : aOp P t h o = some x) (hn : ∀ v h', x ≠ .val v h') {m : AM} (ha : aNext P noJ (c.fr (.inRegion all i (o :: rest) :: k) t) c.rest x = some m) (g : Reach P m Q) : GoR P noJ c k Q (runOps P c.n all l i t h) := by
  subst hl
  have hs : runOps P c.n all (o :: rest) i t h = .susp [.inRegion all i (o :: rest)] t x := by
    rw [runOps_cons, hw]
    show (afterP c.n i all o rest (runOpsP P c.n all rest (i + 1))).run t (aOp P t h o) = _
    rw [hx]
    cases x with
    | val v h' => exact absurd rfl (hn v h')
    | _ => rfl
  rw [hs]
  exact ⟨m, ha, g⟩

theorem GoR.panic {c : FC} {k : List AItem} {Q : AM → Prop} {all : Array Oper} {l : List Oper} {o : Oper} {rest : List Oper} {i : Nat} {t : Tr AVal} {h : AH} {v : AVal} (hl : l = o :: rest) (hw : wantedA all t o = some true)
    (hx : aOp P t h o = some (.panic v h)) (g : FLeft P c (.panicking [⟨v, false⟩]) t h Q) : GoR P noJ c k Q (runOps P c.n all l i t h) :=
  GoR.susp hl hw hx (fun _ _ q => by cases q) rfl (g _)

theorem finishRun_region {fn n : Nat} {t t' : Tr AVal} {all : Array Oper} {i : Nat} {o : Oper} {rest : List Oper} {k : List AItem} {ds : List ADef} {dk : Bool} {rd : Option Nat} {v : AVal} (hd : (prepD n o).run t v = some t') :
    AFr.finish ⟨fn, n, t, .inRegion all i (o :: rest) :: k, ds, .run, dk, rd⟩ v = some ⟨fn, n, t', .inRegion all (i + 1) rest :: k, ds, .run, dk, rd⟩ := by
  show AFr.finishRun fn n t (.inRegion all i (o :: rest) :: k) ds dk rd v = _
  unfold AFr.finishRun
  simp only [hd]

theorem GoR.defer {fn n : Nat} {ds : List ADef} {dk : Bool} {rst : List AFr} {k : List AItem} {Q : AM → Prop} {all : Array Oper} {l : List Oper} {o : Oper} {rest : List Oper} {i : Nat} {t t' : Tr AVal} {h : AH} {d : ADef} (hl : l = o :: rest) (hw : wantedA all t o = some true)
    (hx : aOp P t h o = some (.defer d h)) (hd : (prepD n o).run t undefA = some t') (g : GoR P noJ ⟨fn, n, d :: ds, dk, none, rst⟩ k Q (runOps P n all rest (i + 1) t' h)) : GoR P noJ ⟨fn, n, ds, dk, none, rst⟩ k Q (runOps P n all l i t h) := by
  refine GoR.susp (m := ⟨⟨fn, n, t', .inRegion all (i + 1) rest :: k, d :: ds, .run, dk, none⟩ :: rst, h⟩) hl hw hx (fun _ _ q => by cases q) ?_ (Go.inRegion (c := ⟨fn, n, d :: ds, dk, none, rst⟩) noJ_ok g)
  show one h rst (AFr.finish ⟨fn, n, t, .inRegion all i (o :: rest) :: k, d :: ds, .run, dk, none⟩ undefA) = _
  rw [finishRun_region hd]
  rfl

/-- Nothing to recover. -/
theorem GoR.recover0 {fn n : Nat} {ds : List ADef} {fr : AFr} {rst : List AFr} {k : List AItem} {Q : AM → Prop} {all : Array Oper} {l : List Oper} {o : Oper} {rest : List Oper} {i : Nat} {t t' : Tr AVal} {h : AH} (hl : l = o :: rest) (hw : wantedA all t o = some true)
    (hx : aOp P t h o = some (.recover h)) (hr : aRecover (fr :: rst) = none) (hd : (prepD n o).run t .nilIface = some t') (g : GoR P noJ ⟨fn, n, ds, true, none, fr :: rst⟩ k Q (runOps P n all rest (i + 1) t' h)) : GoR P noJ ⟨fn, n, ds, true, none, fr :: rst⟩ k Q (runOps P n all l i t h) := by
  refine GoR.susp (m := ⟨⟨fn, n, t', .inRegion all (i + 1) rest :: k, ds, .run, true, none⟩ :: fr :: rst, h⟩) hl hw hx (fun _ _ q => by cases q) ?_ (Go.inRegion (c := ⟨fn, n, ds, true, none, fr :: rst⟩) noJ_ok g)
  show nextRecover ⟨fn, n, t, .inRegion all i (o :: rest) :: k, ds, .run, true, none⟩ (fr :: rst) h = _
  unfold nextRecover
  simp only [hr, cond_true, finishRun_region hd]
  rfl

theorem GoR.recover1 {fn n : Nat} {ds : List ADef} {fr : AFr} {rst rst' : List AFr} {k : List AItem} {Q : AM → Prop} {all : Array Oper} {l : List Oper} {o : Oper} {rest : List Oper} {i : Nat} {t t' : Tr AVal} {h : AH} {v : AVal} (hl : l = o :: rest) (hw : wantedA all t o = some true)
    (hx : aOp P t h o = some (.recover h)) (hr : aRecover (fr :: rst) = some (v, rst')) (hd : (prepD n o).run t v = some t') (g : GoR P noJ ⟨fn, n, ds, true, none, rst'⟩ k Q (runOps P n all rest (i + 1) t' h)) : GoR P noJ ⟨fn, n, ds, true, none, fr :: rst⟩ k Q (runOps P n all l i t h) := by
  refine GoR.susp (m := ⟨⟨fn, n, t', .inRegion all (i + 1) rest :: k, ds, .run, true, none⟩ :: rst', h⟩) hl hw hx (fun _ _ q => by cases q) ?_ (Go.inRegion (c := ⟨fn, n, ds, true, none, rst'⟩) noJ_ok g)
  show nextRecover ⟨fn, n, t, .inRegion all i (o :: rest) :: k, ds, .run, true, none⟩ (fr :: rst) h = _
  unfold nextRecover
  simp only [hr, cond_true, finishRun_region hd]
  rfl

theorem Go.retL {fn n : Nat} {ds : List ADef} {dk : Bool} {rst : List AFr} {k : List AItem} {Q : AM → Prop} {t : Tr AVal} {h : AH} (g : FLeft P ⟨fn, n, ds, dk, none, rst⟩ .returning t h Q) : Go P ⟨fn, n, ds, dk, none, rst⟩ (.code .ret :: k) t h Q :=
  Go.ret noJ_ok ⟨_, rfl, g []⟩

theorem Go.endL {fn n : Nat} {ds : List ADef} {dk : Bool} {rst : List AFr} {Q : AM → Prop} {t : Tr AVal} {h : AH} (g : FLeft P ⟨fn, n, ds, dk, none, rst⟩ .returning t h Q) : Go P ⟨fn, n, ds, dk, none, rst⟩ [] t h Q :=
  Go.leave noJ_ok (m := ⟨⟨fn, n, t, [], ds, .returning, dk, none⟩ :: rst, h⟩) rfl (g [])

theorem FLeft.ret {f n : Nat} {rest : List AFr} {t : Tr AVal} {h : AH} {R : AEnd → AH → Prop} {v : AVal} (hv : aResult P h f t = some v) (hR : R (.ret v) h) : FLeft P ⟨f, n, [], false, none, rest⟩ .returning t h (Post P f rest R) :=
  fun _ => .done ⟨.ret v, h, _, hR, ⟨rfl, rfl, rfl, rfl, hv⟩, rfl⟩

theorem FLeft.pan {f n : Nat} {rest : List AFr} {t : Tr AVal} {h : AH} {R : AEnd → AH → Prop} {chain : List AEntry} (hR : R (.pan chain) h) : FLeft P ⟨f, n, [], false, none, rest⟩ (.panicking chain) t h (Post P f rest R) :=
  fun _ => .done ⟨.pan chain, h, _, hR, ⟨rfl, rfl, rfl, rfl⟩, rfl⟩

/-- A deferred call comes to its end. -/
theorem FLeft.settle {f n : Nat} {fr : AFr} {rest : List AFr} {t : Tr AVal} {h : AH} {Q : AM → Prop} {v : AVal} (hv : aResult P h f t = some v) (g : Reach P ⟨settleA fr :: rest, h⟩ Q) : FLeft P ⟨f, n, [], true, none, fr :: rest⟩ .returning t h Q := by
  intro todo
  refine Reach.step noJ_ok (m' := ⟨settleA fr :: rest, h⟩) ?_ g
  show aUnwind P ⟨f, n, t, todo, [], .returning, true, none⟩ (fr :: rest) h = _
  unfold aUnwind
  simp only [hv, aReturn, cond_true]

/-- The next deferred call. -/
theorem FLeft.defer {f n : Nat} {ds : List ADef} {dk : Bool} {rd : Option Nat} {rest : List AFr} {t : Tr AVal} {h : AH} {Q : AM → Prop} {mode : AMode} {g : FuncId} {cap args : List AVal} {gf : Func} {b : Code} {gn : Nat} (hm : mode ≠ .run) (hf : aFunc P g = some gf) (hb : gf.body = some b) (hn : gf.ntmps = gn)
    (h1 : Nat.ble (args ++ cap).length gn = true) (h2 : Nat.ble gn 1000000 = true)
    (H : ∀ todo, Go P ⟨g, gn, [], true, none, ⟨f, n, t, todo, ds, mode, dk, rd⟩ :: rest⟩ [.code b] (fromArgs .leaf 0 (args ++ cap)) h Q) : FLeft P ⟨f, n, .call (.func g) cap args :: ds, dk, rd, rest⟩ mode t h Q := by
  intro todo
  have he : aUnwind P ⟨f, n, t, todo, .call (.func g) cap args :: ds, mode, dk, rd⟩ rest h = some ⟨⟨g, gn, fromArgs .leaf 0 (args ++ cap), [.code b], [], .run, true, none⟩ :: ⟨f, n, t, todo, ds, mode, dk, rd⟩ :: rest, h⟩ := by
    unfold aUnwind
    simp only [aInvoke, aEnter, hf]
    unfold aFrame
    rw [hf]
    simp only [hb, hn, h1, h2, cond_true]
    rfl
  refine Reach.step noJ_ok (m' := ⟨⟨g, gn, fromArgs .leaf 0 (args ++ cap), [.code b], [], .run, true, none⟩ :: ⟨f, n, t, todo, ds, mode, dk, rd⟩ :: rest, h⟩) ?_ (H todo)
  cases mode with
  | run => exact absurd rfl hm
  | _ => exact he
theorem aOp_min2 {t : Tr AVal} {h : AH} {dst : Option Tmp} {tt : TypeId} {pos : String} {after : Array Edge} {guard : Option (Nat × Bool)} {x y : Operand} {tys : Array TypeId} {a b r : Int} (hx : ev t x = some (.int .i64 a)) (hy : ev t y = some (.int .i64 b)) (hr : (if b < a then b else a) = r) :
    aOp P t h ⟨dst, .call ⟨.builtin .min, #[x, y], tys⟩, tt, pos, after, guard⟩ = some (.val (.int .i64 r) h) := by
  show opCall P t h ⟨.builtin .min, #[x, y], tys⟩ tt = _
  have he : evs t [x, y] = some [.int .i64 a, .int .i64 b] := by simp only [evs, mapO, hx, hy]
  simp only [opCall, he, callWith, aBuiltin, grounds, AVal.ground]
  subst hr
  rfl

theorem aOp_max2 {t : Tr AVal} {h : AH} {dst : Option Tmp} {tt : TypeId} {pos : String} {after : Array Edge} {guard : Option (Nat × Bool)} {x y : Operand} {tys : Array TypeId} {a b r : Int} (hx : ev t x = some (.int .i64 a)) (hy : ev t y = some (.int .i64 b)) (hr : (if a < b then b else a) = r) :
    aOp P t h ⟨dst, .call ⟨.builtin .max, #[x, y], tys⟩, tt, pos, after, guard⟩ = some (.val (.int .i64 r) h) := by
  show opCall P t h ⟨.builtin .max, #[x, y], tys⟩ tt = _
  have he : evs t [x, y] = some [.int .i64 a, .int .i64 b] := by simp only [evs, mapO, hx, hy]
  simp only [opCall, he, callWith, aBuiltin, grounds, AVal.ground]
  subst hr
  rfl
section
variable {t : Tr AVal} {h : AH} {dst : Option Tmp} {ty tt ty2 : TypeId} {pos : String} {after : Array Edge} {guard : Option (Nat × Bool)} {x y : Operand} {b off : Nat}

theorem aOp_geq {r : Bool} {a b : Int} (hx : ev t x = some (.int .i64 a)) (hy : ev t y = some (.int .i64 b)) (hr : decide (b ≤ a) = r) : aOp P t h ⟨dst, .binOp .geq ty x y ty2, tt, pos, after, guard⟩ = some (.val (.bool r) h) := by
  refine aOp_bin hx hy ?_
  simp only [binI, ltI_eq]
  rw [← hr]
  congr 2
  by_cases q : b ≤ a
  · simp [q]
  · simp [q]; omega

theorem aOp_indexAddrArr {el : TypeId} {i len n : Nat} (hu : P.underlying ty = some (.array len el)) (hz : sizeT P el = some n) (hx : ev t x = some (.ptr b off)) (hy : ev t y = some (.int .i64 i)) (hi : Nat.blt i len = true) :
    aOp P t h ⟨dst, .indexAddr ty x y, tt, pos, after, guard⟩ = some (.val (.ptr b (off + i * n)) h) := by
  show opIndexAddr P t h ty x y = _
  have hy' : ev t y = some (.int .i64 (Int.ofNat i)) := hy
  unfold opIndexAddr
  rw [hu, hx, hy']
  simp only [hz, hi, cond_true]

theorem aOp_indexArr {el : TypeId} {i len n : Nat} {cs : List AVal} {v : AVal} (hu : P.underlying ty = some (.array len el)) (hz : sizeT P el = some n) (hx : ev t x = some (.agg cs)) (hy : ev t y = some (.int .i64 i)) (hi : Nat.blt i len = true) (hv : partT P el cs (i * n) = some v) :
    aOp P t h ⟨dst, .index ty x y, tt, pos, after, guard⟩ = some (.val v h) := by
  show opIndex P t h ty x y = _
  have hy' : ev t y = some (.int .i64 (Int.ofNat i)) := hy
  unfold opIndex
  rw [hu, hx, hy']
  simp only [hz, hi, cond_true, hv, valO]
theorem aOp_nilCheck {t : Tr AVal} {h : AH} {dst : Option Tmp} {tt : TypeId} {pos : String} {after : Array Edge} {guard : Option (Nat × Bool)} {x : Operand} {v : AVal} (hx : ev t x = some v) (hv : nilCheckOk P v = true) : aOp P t h ⟨dst, .nilCheck x, tt, pos, after, guard⟩ = some (.val v h) := by
  show opNilCheck P t h x = _
  unfold opNilCheck
  rw [hx]
  simp only [hv, cond_true]

theorem aOp_invoke {t : Tr AVal} {h : AH} {dst : Option Tmp} {tt : TypeId} {pos : String} {after : Array Edge} {guard : Option (Nat × Bool)} {x : Operand} {xs : Array Operand} {tys : Array TypeId} {name : String} {recv : AVal} {args : List AVal} {y : ANext} (hx : ev t x = some recv) (ha : evs t xs.toList = some args)
    (hi : aInvokeIface P recv name args h = some y) : aOp P t h ⟨dst, .call ⟨.invoke x name, xs, tys⟩, tt, pos, after, guard⟩ = some y := by
  show opCall P t h ⟨.invoke x name, xs, tys⟩ tt = _
  unfold opCall
  rw [ha]
  simp only [callWith, hx]
  exact hi
end
end
end Go.AbsE

set_option linter.unusedSimpArgs false
namespace Go.AbsE
open Go

/-! What an action that is waited for hands back, whatever frame waits for it: a call, or a round of a loop over a function. -/
section
variable {P : Program}

/-- The action hands a value back, so, to any frame that waits for it. -/
def Does (P : Program) (x : ANext) (R : AEnd → AH → Prop) : Prop :=
  ∀ (fr : AFr) (rest : List AFr) (Q : AM → Prop), (∀ v h', R (.ret v) h' → ∃ fr', fr.finish v = some fr' ∧ Reach P ⟨fr' :: rest, h'⟩ Q) → (∀ chain h', R (.pan chain) h' → Reach P ⟨fr.raise chain :: rest, h'⟩ Q) →
    ∃ m, aNext P noJ fr rest x = some m ∧ Reach P m Q

theorem Does.enter {f : FuncId} {args : List AVal} {h : AH} {R : AEnd → AH → Prop} (k : Runs P f args h R) : Does P (.enter f args h) R := by
  intro fr rest Q hr hp
  obtain ⟨f1, e1, e2⟩ := k
  refine ⟨⟨f1 :: fr :: rest, h⟩, ?_, Reach.call noJ_ok ⟨f1, e1, e2⟩ e1 hr hp⟩
  show one h (fr :: rest) (aFrame P f args false) = _
  rw [e1]
  rfl

theorem Does.mono {x : ANext} {R R' : AEnd → AH → Prop} (k : Does P x R) (i : ∀ en h', R en h' → R' en h') : Does P x R' :=
  fun fr rest Q hr hp => k fr rest Q (fun v h' q => hr v h' (i _ _ q)) (fun c h' q => hp c h' (i _ _ q))

theorem GoR.does {c : FC} {k : List AItem} {Q : AM → Prop} {all : Array Oper} {l : List Oper} {o : Oper} {rest : List Oper} {i : Nat} {t : Tr AVal} {h : AH} {x : ANext} {R : AEnd → AH → Prop} (hl : l = o :: rest)
    (hw : wantedA all t o = some true) (hx : aOp P t h o = some x) (hn : ∀ v h', x ≠ .val v h') (hd : Does P x R)
    (hret : ∀ v h', R (.ret v) h' → ∃ t', (prepD c.n o).run t v = some t' ∧ GoR P noJ c k Q (runOps P c.n all rest (i + 1) t' h')) (hpan : ∀ chain h', R (.pan chain) h' → FLeft P c (.panicking chain) t h' Q) :
    GoR P noJ c k Q (runOps P c.n all l i t h) := by
  obtain ⟨m, h1, h2⟩ := hd (c.fr (.inRegion all i (o :: rest) :: k) t) c.rest Q (fun v h' q => by
    obtain ⟨t', q1, q2⟩ := hret v h' q
    exact ⟨c.fr (.inRegion all (i + 1) rest :: k) t', finishRun_region q1, Go.inRegion noJ_ok q2⟩) (fun chain h' q => hpan chain h' q _)
  exact GoR.susp hl hw hx hn h1 h2
theorem set_upd (h : AH) (b : Nat) (o : ABlk) : ∃ h', h.set b (some o) = some h' ∧ Upd h b o h' := by
  have : ∃ h', h.set b (some o) = some h' := by obtain ⟨t, nx⟩ := h; exact ⟨_, rfl⟩
  obtain ⟨h', q⟩ := this
  obtain ⟨q1, q2⟩ := AH.get_set q
  exact ⟨h', q, q1, by rw [q2, if_pos rfl], fun b' hb' => by rw [q2, if_neg hb']⟩

theorem getLoop {h : AH} {l : Nat} {r : ALoop} (hl : Has h l (.loop r)) : aGetLoop h l = some r := by
  unfold aGetLoop
  rw [hl.2]

/-- A round of a loop over a function. -/
theorem Does.round {l : Nat} {items : List AVal} {h : AH} {r : ALoop} {t : Tr AVal} {fn : Func} {R : AEnd → AH → Prop} (hl : Has h l (.loop r)) (hp : putArgs r.tmps r.n r.params items = some t) (hf : P.funcs[r.fn]? = some fn)
    (walk : ∀ (fr : AFr) (rest : List AFr) (Q : AM → Prop), (∀ v h', R (.ret v) h' → ∃ fr', fr.finish v = some fr' ∧ Reach P ⟨fr' :: rest, h'⟩ Q) → (∀ chain h', R (.pan chain) h' → Reach P ⟨fr.raise chain :: rest, h'⟩ Q) →
      Go P ⟨r.fn, r.n, [], false, some l, fr :: rest⟩ [.code r.assign, .beginRound, .code r.body] t h Q) : Does P (.round l items h) R := by
  intro fr rest Q hr hpn
  refine ⟨_, ?_, walk fr rest Q hr hpn⟩
  show nextRound P fr rest h l items = _
  unfold nextRound
  simp only [getLoop hl, hp, hf]
  rfl

theorem Go.beginRound {fn n : Nat} {ds : List ADef} {dk : Bool} {l : Nat} {rst : List AFr} {k : List AItem} {Q : AM → Prop} {t : Tr AVal} {h : AH} {r : ALoop} (hl : Has h l (.loop r)) (hs : r.state = .ready)
    (g : ∀ h', Upd h l (.loop { r with state := .busy }) h' → Go P ⟨fn, n, ds, dk, some l, rst⟩ k t h' Q) : Go P ⟨fn, n, ds, dk, some l, rst⟩ (.beginRound :: k) t h Q := by
  obtain ⟨h', q1, q2⟩ := set_upd h l (.loop { r with state := .busy })
  refine Go.slow noJ_ok rfl (m := ⟨⟨fn, n, t, k, ds, .run, dk, some l⟩ :: rst, h'⟩) ?_ (g h' q2)
  show doBegin ⟨fn, n, t, .beginRound :: k, ds, .run, dk, some l⟩ rst h k = _
  unfold doBegin
  simp only [getLoop hl, hs, q1]

/-- A round ends: go on. -/
theorem Go.roundEnd {fn n : Nat} {l : Nat} {fr : AFr} {rst : List AFr} {Q : AM → Prop} {t : Tr AVal} {h : AH} {r : ALoop} (hl : Has h l (.loop r))
    (g : ∀ h', Upd h l (.loop { r with state := .ready, pending := none }) h' → ∃ fr', fr.finish (.bool true) = some fr' ∧ Reach P ⟨fr' :: rst, h'⟩ Q) : Go P ⟨fn, n, [], false, some l, fr :: rst⟩ [] t h Q := by
  obtain ⟨h', q1, q2⟩ := set_upd h l (.loop { r with state := .ready, pending := none })
  obtain ⟨fr', g1, g2⟩ := g h' q2
  refine Go.leave noJ_ok (m := ⟨fr' :: rst, h'⟩) ?_ g2
  show endRoundA false (fr :: rst) h l .ready none true = _
  unfold endRoundA
  simp only [getLoop hl, q1, cond_false, aReturn, g1, one]

/-- A round ends, and the loop with it, by a return. -/
theorem Go.roundRet {fn n : Nat} {l : Nat} {fr : AFr} {rst : List AFr} {k : List AItem} {Q : AM → Prop} {t : Tr AVal} {h : AH} {r : ALoop} (hl : Has h l (.loop r))
    (g : ∀ h', Upd h l (.loop { r with state := .done, pending := some .ret }) h' → ∃ fr', fr.finish (.bool false) = some fr' ∧ Reach P ⟨fr' :: rst, h'⟩ Q) : Go P ⟨fn, n, [], false, some l, fr :: rst⟩ (.code .ret :: k) t h Q := by
  obtain ⟨h', q1, q2⟩ := set_upd h l (.loop { r with state := .done, pending := some .ret })
  obtain ⟨fr', g1, g2⟩ := g h' q2
  refine Go.ret noJ_ok ⟨⟨fr' :: rst, h'⟩, ?_, g2⟩
  show endRoundA false (fr :: rst) h l .done (some .ret) false = _
  unfold endRoundA
  simp only [getLoop hl, q1, cond_false, aReturn, g1, one]

theorem GoR.exitOut {c : FC} {k : List AItem} {Q : AM → Prop} {id : Nat} {t : Tr AVal} {h : AH} (hk : exitA id k = none) (g : ∃ m', aLeave (c.fr [] t) c.rest h (some (.exit id)) = some m' ∧ Reach P m' Q) : GoR P noJ c k Q (.exit id t h) := by
  show (match exitA id k with | some k' => Go P c k' t h Q | none => ∃ m', aLeave (c.fr [] t) c.rest h (some (.exit id)) = some m' ∧ Reach P m' Q)
  rw [hk]
  exact g

/-- A round ends, and the loop with it, by a jump out of it. -/
theorem Go.roundExit {fn n : Nat} {l id : Nat} {fr : AFr} {rst : List AFr} {k : List AItem} {Q : AM → Prop} {t : Tr AVal} {h : AH} {r : ALoop} (hl : Has h l (.loop r)) (hk : exitA id k = none)
    (g : ∀ h', Upd h l (.loop { r with state := .done, pending := some (.exit id) }) h' → ∃ fr', fr.finish (.bool false) = some fr' ∧ Reach P ⟨fr' :: rst, h'⟩ Q) : Go P ⟨fn, n, [], false, some l, fr :: rst⟩ (.code (.exit id) :: k) t h Q := by
  obtain ⟨h', q1, q2⟩ := set_upd h l (.loop { r with state := .done, pending := some (.exit id) })
  obtain ⟨fr', g1, g2⟩ := g h' q2
  refine Go.code noJ_ok (GoR.exitOut hk ⟨⟨fr' :: rst, h'⟩, ?_, g2⟩)
  show endRoundA false (fr :: rst) h l .done (some (.exit id)) false = _
  unfold endRoundA
  simp only [getLoop hl, q1, cond_false, aReturn, g1, one]

/-- A loop over a function, in a frame that isn't itself a round: the iterator runs, and then what a round left behind is done. -/
theorem Go.rangeFunc {fn n : Nat} {ds : List ADef} {dk : Bool} {rst : List AFr} {k : List AItem} {Q : AM → Prop} {t : Tr AVal} {h : AH} {x : Operand} {params : Array Tmp} {assign body : Code} {g : FuncId} {gf : Func} {first cap : List AVal}
    (hx : ev t x = some (.func (.func g) first cap)) (hg : aFunc P g = some gf)
    (run : ∀ d l h2, h.next = d → d + 1 = l → Ext h h2 → Has h2 d (.deferred (some [])) → Has h2 l (.loop ⟨.ready, none, fn, n, t, params.toList, assign, body, d⟩) →
      ∃ R : AEnd → AH → Prop, Runs P g (first ++ [.yield l] ++ cap) h2 R ∧ (∀ chain h', ¬ R (.pan chain) h') ∧
      ∀ v h', R (.ret v) h' → ∃ r, Has h' l (.loop r) ∧ r.state ≠ .busy ∧ ∀ h3, Upd h' l (.loop { r with state := .exhausted }) h3 →
        Go P ⟨fn, n, .collected d :: ds, dk, none, rst⟩ (match r.pending with | some c => .code c :: k | none => k) t h3 Q) :
    Go P ⟨fn, n, ds, dk, none, rst⟩ (.code (.rangeFunc x params assign body) :: k) t h Q := by
  obtain ⟨h1, n1⟩ := new_some h (.deferred (some []))
  obtain ⟨_, e1, d1⟩ := new_ext n1
  obtain ⟨h2, n2⟩ := new_some h1 (.loop ⟨.ready, none, fn, n, t, params.toList, assign, body, h.next⟩)
  obtain ⟨_, e2, d2⟩ := new_ext n2
  have hnx : h.next + 1 = h1.next := by
    obtain ⟨tt, nx⟩ := h
    simp only [AH.new] at n1
    cases n1
    rfl
  obtain ⟨R, ⟨fr, hfr, hrun⟩, hpan, hret⟩ := run h.next h1.next h2 rfl hnx (e1.trans e2) (d1.ext e2) d2
  refine Go.slow noJ_ok rfl (m := ⟨fr :: ⟨fn, n, t, .inRangeFunc h1.next :: k, .collected h.next :: ds, .run, dk, none⟩ :: rst, h2⟩) ?_ ?_
  · show doRangeFunc P ⟨fn, n, t, .code (.rangeFunc x params assign body) :: k, ds, .run, dk, none⟩ rst h x params assign body k = _
    unfold doRangeFunc
    simp only [n1, n2, hx, aInvoke, aEnter, hg, hfr, one]
    rfl
  · refine Reach.call noJ_ok ⟨fr, hfr, hrun⟩ hfr (fun v h' q => ?_) (fun chain h' q => absurd q (hpan chain h'))
    obtain ⟨r, k1, k2, k3⟩ := hret v h' q
    refine ⟨⟨fn, n, t, .endRangeFunc h1.next :: k, .collected h.next :: ds, .run, dk, none⟩, rfl, ?_⟩
    obtain ⟨h3, s1, s2⟩ := set_upd h' h1.next (.loop { r with state := .exhausted })
    refine Go.slow (c := ⟨fn, n, .collected h.next :: ds, dk, none, rst⟩) noJ_ok rfl (m := ⟨⟨fn, n, t, (match r.pending with | some c => .code c :: k | none => k), .collected h.next :: ds, .run, dk, none⟩ :: rst, h3⟩) ?_ (k3 h3 s2)
    show doEndLoop ⟨fn, n, t, .endRangeFunc h1.next :: k, .collected h.next :: ds, .run, dk, none⟩ rst h' h1.next k = _
    unfold doEndLoop
    simp only [getLoop k1]
    cases hs : r.state with
    | busy => exact absurd hs k2
    | _ => simp only [s1]; cases r.pending <;> rfl
/-- What a loop over a function left to be done at the end. -/
theorem FLeft.collected {f n : Nat} {ds : List ADef} {dk : Bool} {rd : Option Nat} {rest : List AFr} {t : Tr AVal} {h : AH} {Q : AM → Prop} {mode : AMode} {b : Nat} {calls : List ADef} (hm : mode ≠ .run) (hb : Has h b (.deferred (some calls)))
    (g : ∀ h', Upd h b (.deferred none) h' → FLeft P ⟨f, n, calls ++ ds, dk, rd, rest⟩ mode t h' Q) : FLeft P ⟨f, n, .collected b :: ds, dk, rd, rest⟩ mode t h Q := by
  intro todo
  obtain ⟨h', q1, q2⟩ := set_upd h b (.deferred none)
  have he : aUnwind P ⟨f, n, t, todo, .collected b :: ds, mode, dk, rd⟩ rest h = some ⟨⟨f, n, t, todo, calls ++ ds, mode, dk, rd⟩ :: rest, h'⟩ := by
    unfold aUnwind
    simp only [hb.2, q1]
  refine Reach.step noJ_ok (m' := ⟨⟨f, n, t, todo, calls ++ ds, mode, dk, rd⟩ :: rest, h'⟩) ?_ (g h' q2 todo)
  cases mode with
  | run => exact absurd rfl hm
  | _ => exact he

/-- A call of a function value, or of what a loop hands to an iterator. -/
noncomputable def callY (P : Program) (y : AVal) (args : List AVal) (h : AH) : Option ANext :=
  match y with
  | .func fn first cap => aInvoke P fn cap (first ++ args) h
  | .yield l => some (.round l args h)
  | _ => none

theorem aOp_callY {t : Tr AVal} {h : AH} {dst : Option Tmp} {tt : TypeId} {pos : String} {after : Array Edge} {guard : Option (Nat × Bool)} {f : Operand} {xs : Array Operand} {tys : Array TypeId} {y : AVal} {args : List AVal} {x : ANext} (hf : ev t f = some y) (ha : evs t xs.toList = some args) (hc : callY P y args h = some x) :
    aOp P t h ⟨dst, .call ⟨.value f, xs, tys⟩, tt, pos, after, guard⟩ = some x := by
  show opCall P t h ⟨.value f, xs, tys⟩ tt = _
  unfold opCall
  rw [ha]
  simp only [callWith, hf]
  cases y <;> first | exact hc | cases hc

/-- All but some cells of some blocks that were there are as they were. -/
def ExtS (S : List Nat) (h h' : AH) : Prop := h.next ≤ h'.next ∧ ∀ b, b < h.next → b ∉ S → h'.get b = h.get b
theorem ExtS.of {S : List Nat} {h h' : AH} (e : Ext h h') : ExtS S h h' := ⟨e.1, fun b hb _ => e.2 b hb⟩
theorem ExtS.trans {S : List Nat} {a b c : AH} (h : ExtS S a b) (k : ExtS S b c) : ExtS S a c := ⟨Nat.le_trans h.1 k.1, fun x hx hS => by rw [k.2 x (Nat.lt_of_lt_of_le hx h.1) hS, h.2 x hx hS]⟩
theorem Has.extS {S : List Nat} {h h' : AH} {b : Nat} {o : ABlk} (k : Has h b o) (e : ExtS S h h') (hb : b ∉ S) : Has h' b o := ⟨Nat.lt_of_lt_of_le k.1 e.1, by rw [e.2 b k.1 hb]; exact k.2⟩

/-- Only blocks of F, of those that were there, change. -/
def ExtF (F : Nat → Prop) (h h' : AH) : Prop := h.next ≤ h'.next ∧ ∀ b, b < h.next → ¬ F b → h'.get b = h.get b
theorem ExtF.of {F : Nat → Prop} {h h' : AH} (e : Ext h h') : ExtF F h h' := ⟨e.1, fun b hb _ => e.2 b hb⟩
theorem Has.extF {F : Nat → Prop} {h h' : AH} {b : Nat} {o : ABlk} (k : Has h b o) (e : ExtF F h h') (hb : ¬ F b) : Has h' b o := ⟨Nat.lt_of_lt_of_le k.1 e.1, by rw [e.2 b k.1 hb]; exact k.2⟩
/-- What may change later: only what may change now, or is newer. -/
theorem ExtF.trans {F F' : Nat → Prop} {a b c : AH} (h : ExtF F a b) (hF : ∀ x, F' x → F x ∨ a.next ≤ x) (k : ExtF F' b c) : ExtF F a c :=
  ⟨Nat.le_trans h.1 k.1, fun x hx hn => by rw [k.2 x (Nat.lt_of_lt_of_le hx h.1) (fun q => (hF x q).elim hn (fun q => by omega)), h.2 x hx hn]⟩

/-- What an iterator may rely on: y takes the items one by one; J holds while it wants more, E once it wants none; these speak of blocks below base, and of those of F; only those of F may change. -/
structure Takes (P : Program) (base : Nat) (y : AVal) (items : List (List AVal)) (J E : Nat → AH → (Nat → Prop) → Prop) : Prop where
  ltJ : ∀ {k h F b}, J k h F → F b → b < h.next
  keepJ : ∀ {k h F h'}, J k h F → h.next ≤ h'.next → (∀ b, b < h.next → (b < base ∨ F b) → h'.get b = h.get b) → J k h' F
  ltE : ∀ {k h F b}, E k h F → F b → b < h.next
  keepE : ∀ {k h F h'}, E k h F → h.next ≤ h'.next → (∀ b, b < h.next → (b < base ∨ F b) → h'.get b = h.get b) → E k h' F
  take : ∀ {k item h F}, items[k]? = some item → J k h F → ∃ x, callY P y [.agg item] h = some x ∧ (∀ v h', x ≠ .val v h') ∧
    Does P x (fun en h' => ExtF F h h' ∧ ∃ F', (∀ b, F' b → F b ∨ h.next ≤ b) ∧ ((en = .ret (.bool true) ∧ J (k + 1) h' F') ∨ (en = .ret (.bool false) ∧ E k h' F')))

theorem Takes.ext {base : Nat} {y : AVal} {items : List (List AVal)} {J E : Nat → AH → (Nat → Prop) → Prop} (T : Takes P base y items J E) {k : Nat} {h h' : AH} {F : Nat → Prop} (j : J k h F) (e : Ext h h') : J k h' F := T.keepJ j e.1 fun b hb _ => e.2 b hb

/-- A slice that stays as it is as long as blocks from a number on do. -/
def FreshS (lo : Nat) (h : AH) (sz : Nat) (v : AVal) (L : List (List AVal)) : Prop := ∀ h', h.next ≤ h'.next → (∀ b, lo ≤ b → b < h.next → h'.get b = h.get b) → SliceOf h' sz v L
theorem FreshS.self {lo : Nat} {h : AH} {sz : Nat} {v : AVal} {L : List (List AVal)} (k : FreshS lo h sz v L) : SliceOf h sz v L := k h (Nat.le_refl _) fun _ _ _ => rfl
theorem FreshS.on {lo : Nat} {h h' : AH} {sz : Nat} {v : AVal} {L : List (List AVal)} (k : FreshS lo h sz v L) (n : h.next ≤ h'.next) (e : ∀ b, lo ≤ b → b < h.next → h'.get b = h.get b) : FreshS lo h' sz v L :=
  fun h2 n2 e2 => k h2 (Nat.le_trans n n2) fun b hb hb2 => by rw [e2 b hb (Nat.lt_of_lt_of_le hb2 n), e b hb hb2]
theorem Has.fresh {lo : Nat} {h h' : AH} {b : Nat} {o : ABlk} (k : Has h b o) (hb : lo ≤ b) (n : h.next ≤ h'.next) (e : ∀ b, lo ≤ b → b < h.next → h'.get b = h.get b) : Has h' b o := ⟨Nat.lt_of_lt_of_le k.1 n, by rw [e b hb k.1]; exact k.2⟩
theorem Grow.fresh {lo lo' : Nat} {h h' : AH} {el : TypeId} {sz : Nat} {s : AVal} {n : Nat} {cs : List AVal} (k : Grow h el sz lo' s n cs) (hl : lo ≤ lo') (hn : h.next ≤ h'.next) (e : ∀ b, lo ≤ b → b < h.next → h'.get b = h.get b) : Grow h' el sz lo' s n cs := by
  obtain ⟨k1, k2⟩ := k
  refine ⟨k1, ?_⟩
  rcases k2 with k2 | ⟨h0, b, h1, h2, h3⟩
  · exact .inl k2
  · exact .inr ⟨h0, b, h1, h2, h3.fresh (Nat.le_trans hl h1) hn e⟩
end
end Go.AbsE

set_option linter.unusedSimpArgs false
namespace Go.AbsE
open Go

/-! Maps whose keys are a number and four numbers. -/
section
variable {P : Program}
theorem pureRun_bind {α β : Type} (s : Sem α) (f : α → Sem β) : pureRun P (s >>= f) = (pureRun P s).bind fun a => pureRun P (f a) := by
  show pureRun P (s.bind f) = _
  induction s with
  | pure a => rfl
  | program k ih => exact ih P
  | _ => rfl
theorem pureRun_pure {α : Type} (a : α) : pureRun P (pure a : Sem α) = some a := rfl
theorem pr_underlying {t : TypeId} {d : TypeDesc} (h : P.underlying t = some d) : pureRun P (underlying t) = some d := by
  show pureRun P (program >>= fun p => match p.underlying t with | some d => pure d | none => stuck "no such type") = _
  rw [pureRun_bind]
  show pureRun P (match P.underlying t with | some d => pure d | none => stuck "no such type") = _
  rw [h]
  rfl
theorem pr_info {t : TypeId} {i : TypeInfo} (h : P.info? t = some i) : pureRun P (typeInfo t) = some i := by
  show pureRun P (program >>= fun p => match p.info? t with | some d => pure d | none => stuck "no such type") = _
  rw [pureRun_bind]
  show pureRun P (match P.info? t with | some d => pure d | none => stuck "no such type") = _
  rw [h]
  rfl
theorem pr_program : pureRun P program = some P := rfl
theorem pr_sizeOf {t : TypeId} {n : Nat} (h : sizeT P t = some n) : pureRun P (sizeOf t) = some n := by
  unfold sizeT at h
  cases hi : P.info? t with
  | none => rw [hi] at h; cases h
  | some i =>
    rw [hi] at h
    cases h
    show pureRun P (typeInfo t >>= fun i => pure i.size) = _
    rw [pureRun_bind, pr_info hi]
    rfl
theorem pr_isAgg_int {t : TypeId} {k : IntKind} (h : P.underlying t = some (.int k)) : pureRun P (isAgg t) = some false := by
  unfold isAgg
  rw [pureRun_bind, pr_underlying h]
  rfl
theorem pr_isAgg_array {t e : TypeId} {n : Nat} (h : P.underlying t = some (.array n e)) : pureRun P (isAgg t) = some true := by
  unfold isAgg
  rw [pureRun_bind, pr_underlying h]
  rfl
theorem pr_part_one {t : TypeId} {k : IntKind} (h : P.underlying t = some (.int k)) {cs : Array Value} {off : Nat} {v : Value} (hv : cs[off]? = some v) : pureRun P (part t cs off) = some v := by
  unfold part
  rw [pureRun_bind, pr_isAgg_int h]
  simp [hv, pureRun_pure]
theorem pr_part_array {t e : TypeId} {n m : Nat} (h : P.underlying t = some (.array n e)) (hs : sizeT P t = some m) {cs : Array Value} {off : Nat} : pureRun P (part t cs off) = some (.agg (cs.extract off (off + m))) := by
  unfold part
  rw [pureRun_bind, pr_isAgg_array h]
  show pureRun P (sizeOf t >>= fun a => pure (Value.agg (cs.extract off (off + a)))) = _
  rw [pureRun_bind, pr_sizeOf hs]
  rfl
theorem pr_eq_int {t : TypeId} {k q : IntKind} (h : P.underlying t = some (.int k)) {d : Nat} {a b : Int} : pureRun P (Op.equalIn (d + 1) t (.int q a) (.int q b)) = some (a == b) := by
  unfold Op.equalIn
  rw [pureRun_bind, pr_underlying h]
  simp [pureRun_pure]
theorem pr_eq_array4 {t e : TypeId} {k q : IntKind} (h : P.underlying t = some (.array 4 e)) (he : P.underlying e = some (.int k)) (hs : sizeT P e = some 1) {d : Nat} {a0 a1 a2 a3 b0 b1 b2 b3 : Int} :
    pureRun P (Op.equalIn (d + 2) t (.agg #[.int q a0, .int q a1, .int q a2, .int q a3]) (.agg #[.int q b0, .int q b1, .int q b2, .int q b3])) = some (a0 == b0 && a1 == b1 && a2 == b2 && a3 == b3) := by
  unfold Op.equalIn
  rw [pureRun_bind, pr_underlying h]
  simp only [Option.bind_some, pureRun_bind, pr_sizeOf hs, Std.Legacy.Range.forIn_eq_forIn_range', Std.Legacy.Range.size, Nat.sub_zero, Nat.add_one_sub_one, Nat.div_one]
  simp only [show List.range' 0 4 = [0, 1, 2, 3] from rfl, List.forIn_cons, List.forIn_nil, pureRun_bind, pureRun_pure, Option.bind_some, Nat.zero_mul, Nat.one_mul, Nat.mul_one,
    pr_part_one he (v := .int q a0) (cs := #[.int q a0, .int q a1, .int q a2, .int q a3]) (off := 0) rfl, pr_part_one he (v := .int q a1) (cs := #[.int q a0, .int q a1, .int q a2, .int q a3]) (off := 1) rfl,
    pr_part_one he (v := .int q a2) (cs := #[.int q a0, .int q a1, .int q a2, .int q a3]) (off := 2) rfl, pr_part_one he (v := .int q a3) (cs := #[.int q a0, .int q a1, .int q a2, .int q a3]) (off := 3) rfl,
    pr_part_one he (v := .int q b0) (cs := #[.int q b0, .int q b1, .int q b2, .int q b3]) (off := 0) rfl, pr_part_one he (v := .int q b1) (cs := #[.int q b0, .int q b1, .int q b2, .int q b3]) (off := 1) rfl,
    pr_part_one he (v := .int q b2) (cs := #[.int q b0, .int q b1, .int q b2, .int q b3]) (off := 2) rfl, pr_part_one he (v := .int q b3) (cs := #[.int q b0, .int q b1, .int q b2, .int q b3]) (off := 3) rfl, pr_eq_int he]
  cases a0 == b0
  · rfl
  simp only [Bool.not_true, Bool.false_eq_true, if_false, pureRun_bind, pureRun_pure, Option.bind_some, pr_part_one he (v := .int q a0) (cs := #[.int q a0, .int q a1, .int q a2, .int q a3]) (off := 0) rfl, pr_part_one he (v := .int q a1) (cs := #[.int q a0, .int q a1, .int q a2, .int q a3]) (off := 1) rfl,
    pr_part_one he (v := .int q a2) (cs := #[.int q a0, .int q a1, .int q a2, .int q a3]) (off := 2) rfl, pr_part_one he (v := .int q a3) (cs := #[.int q a0, .int q a1, .int q a2, .int q a3]) (off := 3) rfl,
    pr_part_one he (v := .int q b0) (cs := #[.int q b0, .int q b1, .int q b2, .int q b3]) (off := 0) rfl, pr_part_one he (v := .int q b1) (cs := #[.int q b0, .int q b1, .int q b2, .int q b3]) (off := 1) rfl,
    pr_part_one he (v := .int q b2) (cs := #[.int q b0, .int q b1, .int q b2, .int q b3]) (off := 2) rfl, pr_part_one he (v := .int q b3) (cs := #[.int q b0, .int q b1, .int q b2, .int q b3]) (off := 3) rfl, pr_eq_int he]
  cases a1 == b1
  · rfl
  simp only [Bool.not_true, Bool.false_eq_true, if_false, pureRun_bind, pureRun_pure, Option.bind_some, pr_part_one he (v := .int q a0) (cs := #[.int q a0, .int q a1, .int q a2, .int q a3]) (off := 0) rfl, pr_part_one he (v := .int q a1) (cs := #[.int q a0, .int q a1, .int q a2, .int q a3]) (off := 1) rfl,
    pr_part_one he (v := .int q a2) (cs := #[.int q a0, .int q a1, .int q a2, .int q a3]) (off := 2) rfl, pr_part_one he (v := .int q a3) (cs := #[.int q a0, .int q a1, .int q a2, .int q a3]) (off := 3) rfl,
    pr_part_one he (v := .int q b0) (cs := #[.int q b0, .int q b1, .int q b2, .int q b3]) (off := 0) rfl, pr_part_one he (v := .int q b1) (cs := #[.int q b0, .int q b1, .int q b2, .int q b3]) (off := 1) rfl,
    pr_part_one he (v := .int q b2) (cs := #[.int q b0, .int q b1, .int q b2, .int q b3]) (off := 2) rfl, pr_part_one he (v := .int q b3) (cs := #[.int q b0, .int q b1, .int q b2, .int q b3]) (off := 3) rfl, pr_eq_int he]
  cases a2 == b2
  · rfl
  simp only [Bool.not_true, Bool.false_eq_true, if_false, pureRun_bind, pureRun_pure, Option.bind_some, pr_part_one he (v := .int q a0) (cs := #[.int q a0, .int q a1, .int q a2, .int q a3]) (off := 0) rfl, pr_part_one he (v := .int q a1) (cs := #[.int q a0, .int q a1, .int q a2, .int q a3]) (off := 1) rfl,
    pr_part_one he (v := .int q a2) (cs := #[.int q a0, .int q a1, .int q a2, .int q a3]) (off := 2) rfl, pr_part_one he (v := .int q a3) (cs := #[.int q a0, .int q a1, .int q a2, .int q a3]) (off := 3) rfl,
    pr_part_one he (v := .int q b0) (cs := #[.int q b0, .int q b1, .int q b2, .int q b3]) (off := 0) rfl, pr_part_one he (v := .int q b1) (cs := #[.int q b0, .int q b1, .int q b2, .int q b3]) (off := 1) rfl,
    pr_part_one he (v := .int q b2) (cs := #[.int q b0, .int q b1, .int q b2, .int q b3]) (off := 2) rfl, pr_part_one he (v := .int q b3) (cs := #[.int q b0, .int q b1, .int q b2, .int q b3]) (off := 3) rfl, pr_eq_int he]
  cases a3 == b3 <;> rfl

/-- Structs of a number and four numbers. -/
structure KeyT (P : Program) (kt ft at_ et : TypeId) : Prop where
  fs : ∃ f0 f1 : Field, P.underlying kt = some (.struct #[f0, f1]) ∧ f0.name ≠ "_" ∧ f1.name ≠ "_" ∧ f0.type = ft ∧ f1.type = at_ ∧ f0.offset = 0 ∧ f1.offset = 1
  std : P.stoodInHeld kt = false
  f0 : ∃ k, P.underlying ft = some (.int k)
  f1 : P.underlying at_ = some (.array 4 et)
  s1 : sizeT P at_ = some 4
  e : ∃ k, P.underlying et = some (.int k)
  se : sizeT P et = some 1
def keyV (a : Int) (l : List Int) : Value := .agg ((.int .i64 a :: l.map fun x => Value.int .i64 x).toArray)
theorem pr_eq_key {kt ft at_ et : TypeId} (K : KeyT P kt ft at_ et) {a a0 a1 a2 a3 b b0 b1 b2 b3 : Int} :
    pureRun P (Op.equal kt (keyV a [a0, a1, a2, a3]) (keyV b [b0, b1, b2, b3])) = some (decide ((a, [a0, a1, a2, a3]) = (b, [b0, b1, b2, b3]))) := by
  obtain ⟨⟨f0, f1, hu, n0, n1, t0, t1, o0, o1⟩, hst, ⟨k0, hf0⟩, hf1, hs1, ⟨k1, he⟩, hse⟩ := K
  subst t0 t1
  show pureRun P (Op.equalIn (9999 + 1) kt (.agg #[.int .i64 a, .int .i64 a0, .int .i64 a1, .int .i64 a2, .int .i64 a3]) (.agg #[.int .i64 b, .int .i64 b0, .int .i64 b1, .int .i64 b2, .int .i64 b3])) = _
  unfold Op.equalIn
  rw [pureRun_bind, pr_underlying hu]
  simp only [Option.bind_some, pureRun_bind, pr_program, hst, Bool.false_eq_true, if_false, ← Array.forIn_toList, List.forIn_cons, List.forIn_nil, n0, n1, ne_eq, not_false_eq_true, if_true, pureRun_pure, o0, o1,
    pr_part_one hf0 (v := .int .i64 a) (cs := #[.int .i64 a, .int .i64 a0, .int .i64 a1, .int .i64 a2, .int .i64 a3]) (off := 0) rfl, pr_part_one hf0 (v := .int .i64 b) (cs := #[.int .i64 b, .int .i64 b0, .int .i64 b1, .int .i64 b2, .int .i64 b3]) (off := 0) rfl, pr_eq_int hf0]
  cases h0 : a == b
  · have : a ≠ b := by simpa using h0
    simp [this]
    rfl
  · have : a = b := by simpa using h0
    subst this
    simp only [Bool.not_true, Bool.false_eq_true, if_false, pureRun_bind, pureRun_pure, Option.bind_some, n1, ne_eq, not_false_eq_true, if_true, o1, pr_part_array hf1 hs1]
    have e1 : (#[Value.int .i64 a, .int .i64 a0, .int .i64 a1, .int .i64 a2, .int .i64 a3] : Array Value).extract 1 (1 + 4) = #[.int .i64 a0, .int .i64 a1, .int .i64 a2, .int .i64 a3] := rfl
    have e2 : (#[Value.int .i64 a, .int .i64 b0, .int .i64 b1, .int .i64 b2, .int .i64 b3] : Array Value).extract 1 (1 + 4) = #[.int .i64 b0, .int .i64 b1, .int .i64 b2, .int .i64 b3] := rfl
    rw [e1, e2, pr_eq_array4 (d := 9997) hf1 he hse]
    have : decide ((a, [a0, a1, a2, a3]) = (a, [b0, b1, b2, b3])) = (a0 == b0 && a1 == b1 && a2 == b2 && a3 == b3) := by
      simp [Bool.and_assoc]
      rfl
    rw [this]
    cases (a0 == b0 && a1 == b1 && a2 == b2 && a3 == b3) <;> rfl

theorem pr_check_int {t : TypeId} {k q : IntKind} {b : Bool} {n : Nat} {a : Int} (h : P.underlying t = some (.int k)) : pureRun P (Instr.checkKey b (n + 1) t (.int q a)) = some () := by
  unfold Instr.checkKey
  rw [pureRun_bind, pr_underlying h]
  rfl
theorem pr_check_array4 {t e : TypeId} {k q : IntKind} (h : P.underlying t = some (.array 4 e)) (he : P.underlying e = some (.int k)) (hs : sizeT P e = some 1) {d : Nat} {b : Bool} {a0 a1 a2 a3 : Int} :
    pureRun P (Instr.checkKey b (d + 2) t (.agg #[.int q a0, .int q a1, .int q a2, .int q a3])) = some () := by
  unfold Instr.checkKey
  rw [pureRun_bind, pr_underlying h]
  simp only [Option.bind_some, pureRun_bind, pr_sizeOf hs, Std.Legacy.Range.forIn_eq_forIn_range', Std.Legacy.Range.size, Nat.sub_zero, Nat.add_one_sub_one, Nat.div_one]
  simp only [show List.range' 0 4 = [0, 1, 2, 3] from rfl, List.forIn_cons, List.forIn_nil, pureRun_bind, pureRun_pure, Option.bind_some, Nat.zero_mul, Nat.one_mul, Nat.mul_one, pr_sizeOf hs,
    pr_part_one he (v := .int q a0) (cs := #[.int q a0, .int q a1, .int q a2, .int q a3]) (off := 0) rfl, pr_part_one he (v := .int q a1) (cs := #[.int q a0, .int q a1, .int q a2, .int q a3]) (off := 1) rfl,
    pr_part_one he (v := .int q a2) (cs := #[.int q a0, .int q a1, .int q a2, .int q a3]) (off := 2) rfl, pr_part_one he (v := .int q a3) (cs := #[.int q a0, .int q a1, .int q a2, .int q a3]) (off := 3) rfl, pr_check_int he]
theorem pr_check_key {kt ft at_ et : TypeId} (K : KeyT P kt ft at_ et) {c : Bool} {a a0 a1 a2 a3 : Int} : pureRun P (Instr.checkKey c 10000 kt (keyV a [a0, a1, a2, a3])) = some () := by
  obtain ⟨⟨f0, f1, hu, n0, n1, t0, t1, o0, o1⟩, hst, ⟨k0, hf0⟩, hf1, hs1, ⟨k1, he⟩, hse⟩ := K
  subst t0 t1
  show pureRun P (Instr.checkKey c (9999 + 1) kt (.agg #[.int .i64 a, .int .i64 a0, .int .i64 a1, .int .i64 a2, .int .i64 a3])) = _
  unfold Instr.checkKey
  rw [pureRun_bind, pr_underlying hu]
  have e1 : (#[Value.int .i64 a, .int .i64 a0, .int .i64 a1, .int .i64 a2, .int .i64 a3] : Array Value).extract 1 (1 + 4) = #[.int .i64 a0, .int .i64 a1, .int .i64 a2, .int .i64 a3] := rfl
  simp only [Option.bind_some, pureRun_bind, ← Array.forIn_toList, List.forIn_cons, List.forIn_nil, n0, n1, ne_eq, not_false_eq_true, if_true, pureRun_pure, o0, o1, pr_part_array hf1 hs1, e1, pr_check_array4 (d := 9997) hf1 he hse,
    pr_part_one hf0 (v := .int .i64 a) (cs := #[.int .i64 a, .int .i64 a0, .int .i64 a1, .int .i64 a2, .int .i64 a3]) (off := 0) rfl, pr_check_int hf0]
theorem sameBits_key (a : Int) (l : List Int) : Instr.sameBits 10000 (keyV a l) (keyV a l) = true := by
  show Instr.sameBits (9999 + 1) (.agg _) (.agg _) = true
  unfold Instr.sameBits
  have : ∀ l : List Int, ((l.map fun x => Value.int .i64 x).zip (l.map fun x => Value.int .i64 x)).all (fun (x, y) => Instr.sameBits 9999 x y) = true := by
    intro l
    induction l with
    | nil => rfl
    | cons x l ih => simp only [List.map_cons, List.zip_cons_cons, List.all_cons, ih, Bool.and_true]; simp [Instr.sameBits]
  exact Bool.and_eq_true_iff.2 ⟨by simp, this (a :: l)⟩

/-- What a map holds: keys and values, in its order. -/
def MapOf (es : List AMapE) (f : List ((Int × List Int) × AVal)) : Prop := es.map (fun e => (e.key, e.val)) = f.map fun x => (keyV x.1.1 x.1.2, x.2)
def Four (f : List ((Int × List Int) × AVal)) : Prop := ∀ x, x ∈ f → x.1.2.length = 4
noncomputable def findK (k : Int × List Int) : List ((Int × List Int) × AVal) → Option AVal
  | [] => none
  | x :: f => if k = x.1 then some x.2 else findK k f
noncomputable def setK (k : Int × List Int) (v : AVal) : List ((Int × List Int) × AVal) → List ((Int × List Int) × AVal)
  | [] => [(k, v)]
  | x :: f => if k = x.1 then (k, v) :: f else x :: setK k v f
theorem four4 {l : List Int} (h : l.length = 4) : ∃ a b c d, l = [a, b, c, d] := by
  match l, h with
  | [a, b, c, d], _ => exact ⟨a, b, c, d, rfl⟩
theorem findK_ok {kt ft at_ et : TypeId} (K : KeyT P kt ft at_ et) {k : Int × List Int} (hk : k.2.length = 4) : ∀ {es : List AMapE} {f : List ((Int × List Int) × AVal)}, MapOf es f → Four f → aMapFind P kt (keyV k.1 k.2) es = some (findK k f) := by
  intro es
  induction es with
  | nil =>
    intro f h _
    cases f with
    | nil => rfl
    | cons x f => cases h
  | cons e es ih =>
    intro f h h4
    cases f with
    | nil => cases h
    | cons x f =>
      simp only [MapOf, List.map_cons, List.cons.injEq, Prod.mk.injEq] at h
      obtain ⟨⟨hk1, hv1⟩, h⟩ := h
      have hih := ih (f := f) h fun y hy => h4 y (by simp [hy])
      obtain ⟨k1, k2⟩ := k
      obtain ⟨⟨x1, x2⟩, v⟩ := x
      obtain ⟨a0, a1, a2, a3, rfl⟩ := four4 hk
      obtain ⟨b0, b1, b2, b3, rfl⟩ : ∃ a b c d, x2 = [a, b, c, d] := four4 (h4 ((x1, x2), v) (by simp))
      unfold aMapFind findK
      dsimp only at hk1 hv1 hih ⊢
      rw [hk1, pr_eq_key K]
      by_cases q : (k1, [a0, a1, a2, a3]) = (x1, [b0, b1, b2, b3])
      · rw [if_pos q, decide_eq_true q, hv1]
      · rw [if_neg q, decide_eq_false q]; exact hih
theorem setK_ok {kt ft at_ et : TypeId} (K : KeyT P kt ft at_ et) {k : Int × List Int} (hk : k.2.length = 4) (v : AVal) (clock : Nat) : ∀ {es : List AMapE} {f : List ((Int × List Int) × AVal)}, MapOf es f → Four f → ∃ es' c', aMapSet P kt (keyV k.1 k.2) v clock es = some (es', c') ∧ MapOf es' (setK k v f) := by
  intro es
  induction es with
  | nil =>
    intro f h _
    cases f with
    | nil => exact ⟨_, _, rfl, rfl⟩
    | cons x f => cases h
  | cons e es ih =>
    intro f h h4
    cases f with
    | nil => cases h
    | cons x f =>
      have h0 := h
      simp only [MapOf, List.map_cons, List.cons.injEq, Prod.mk.injEq] at h
      obtain ⟨⟨hk1, hv1⟩, h⟩ := h
      obtain ⟨es', c', hih1, hih2⟩ := ih (f := f) h fun y hy => h4 y (by simp [hy])
      obtain ⟨k1, k2⟩ := k
      obtain ⟨⟨x1, x2⟩, w⟩ := x
      obtain ⟨a0, a1, a2, a3, rfl⟩ := four4 hk
      obtain ⟨b0, b1, b2, b3, rfl⟩ : ∃ a b c d, x2 = [a, b, c, d] := four4 (h4 ((x1, x2), w) (by simp))
      unfold aMapSet setK
      dsimp only at hk1 hv1 hih1 hih2 ⊢
      rw [hk1, pr_eq_key K]
      by_cases q : (k1, [a0, a1, a2, a3]) = (x1, [b0, b1, b2, b3])
      · rw [if_pos q, decide_eq_true q]
        cases q
        simp only [sameBits_key, cond_true]
        exact ⟨_, _, rfl, by simp only [MapOf, List.map_cons, List.cons.injEq]; exact ⟨trivial, h⟩⟩
      · rw [if_neg q, decide_eq_false q]
        simp only [hih1]
        exact ⟨_, _, rfl, by simp only [MapOf, List.map_cons, List.cons.injEq, Prod.mk.injEq]; exact ⟨⟨hk1, hv1⟩, hih2⟩⟩
theorem setK_mem {k : Int × List Int} {v : AVal} : ∀ {f : List ((Int × List Int) × AVal)} {x}, x ∈ setK k v f → x = (k, v) ∨ x ∈ f := by
  intro f
  induction f with
  | nil => intro x h; simp [setK] at h; exact .inl h
  | cons y f ih =>
    intro x h
    unfold setK at h
    split at h
    · cases h with
      | head => exact .inl rfl
      | tail _ h => exact .inr (List.mem_cons_of_mem _ h)
    · cases h with
      | head => exact .inr (by simp)
      | tail _ h => exact (ih h).imp id fun q => by simp [q]
theorem findK_mem {k : Int × List Int} {v : AVal} : ∀ {f : List ((Int × List Int) × AVal)}, findK k f = some v → (k, v) ∈ f := by
  intro f
  induction f with
  | nil => intro h; cases h
  | cons y f ih =>
    intro h
    unfold findK at h
    split at h
    · rename_i q; cases h; rw [q]; simp
    · simp [ih h]
theorem findK_none {k : Int × List Int} : ∀ {f : List ((Int × List Int) × AVal)}, findK k f = none ↔ ∀ x, x ∈ f → x.1 ≠ k := by
  intro f
  induction f with
  | nil => simp [findK]
  | cons y f ih =>
    unfold findK
    split
    · rename_i q; simp; exact fun e => absurd q.symm e
    · rename_i q
      rw [ih]
      simp only [List.mem_cons, forall_eq_or_imp]
      exact ⟨fun h => ⟨fun e => q e.symm, h⟩, fun h => h.2⟩
theorem setK_has {k : Int × List Int} {v : AVal} : ∀ {f : List ((Int × List Int) × AVal)} (k' : Int × List Int), (∃ w, (k', w) ∈ setK k v f) ↔ k' = k ∨ ∃ w, (k', w) ∈ f := by
  intro f
  induction f with
  | nil => intro k'; simp [setK]
  | cons y f ih =>
    intro k'
    obtain ⟨y1, y2⟩ := y
    unfold setK
    split
    · rename_i q
      dsimp only at q
      subst q
      constructor
      · rintro ⟨w, hw⟩
        cases hw with
        | head => exact .inl rfl
        | tail _ hw => exact .inr ⟨w, List.mem_cons_of_mem _ hw⟩
      · rintro (rfl | ⟨w, hw⟩)
        · exact ⟨v, by simp⟩
        · cases hw with
          | head => exact ⟨v, by simp⟩
          | tail _ hw => exact ⟨w, List.mem_cons_of_mem _ hw⟩
    · have := ih k'
      constructor
      · rintro ⟨w, hw⟩
        cases hw with
        | head => exact .inr ⟨y2, by simp⟩
        | tail _ hw => exact (this.1 ⟨w, hw⟩).imp id fun ⟨w, h⟩ => ⟨w, by simp [h]⟩
      · rintro (rfl | ⟨w, hw⟩)
        · obtain ⟨w, hw⟩ := this.2 (.inl rfl); exact ⟨w, by simp [hw]⟩
        · cases hw with
          | head => exact ⟨y2, List.mem_cons_self⟩
          | tail _ hw => obtain ⟨w, hw⟩ := this.2 (.inr ⟨w, hw⟩); exact ⟨w, List.mem_cons_of_mem _ hw⟩

/-! the operations -/
theorem grounds_ints : ∀ l : List Int, grounds (l.map fun x => AVal.int .i64 x) = some (l.map fun x => Value.int .i64 x) := by
  intro l
  induction l with
  | nil => rfl
  | cons a l ih => simp only [List.map_cons, grounds, AVal.ground, ih]
theorem ground_key (a : Int) (l : List Int) : (AVal.agg (.int .i64 a :: l.map fun x => AVal.int .i64 x)).ground = some (keyV a l) := by
  have := grounds_ints (a :: l)
  simp only [List.map_cons] at this
  simp only [AVal.ground, this]
  rfl
theorem aOp_lookup {t : Tr AVal} {h : AH} {dst : Option Tmp} {tt : TypeId} {pos : String} {after : Array Edge} {guard : Option (Nat × Bool)} {ty kt vt ft at_ et : TypeId} {x k : Operand} {commaOk : Bool} {b clock : Nat} {es : List AMapE} {f : List ((Int × List Int) × AVal)} {key : Int × List Int} {z : AVal}
    (K : KeyT P kt ft at_ et) (hu : P.underlying ty = some (.map kt vt)) (hz : zeroT P vt = some z) (hx : ev t x = some (.map b)) (hk : ev t k = some (.agg (.int .i64 key.1 :: key.2.map fun x => AVal.int .i64 x))) (h4 : key.2.length = 4)
    (hb : Has h b (.map es clock)) (hm : MapOf es f) (hf : Four f) :
    aOp P t h ⟨dst, .lookup ty x k commaOk, tt, pos, after, guard⟩ = some (.val (match findK key f with | some v => cond commaOk (.tuple [v, .bool true]) v | none => cond commaOk (.tuple [z, .bool false]) z) h) := by
  show opLookup P t h ty x k commaOk = _
  unfold opLookup
  rw [hu, hx, hk]
  dsimp only
  rw [hb.2, ground_key, hz]
  dsimp only
  have hc : pureRun P (Instr.checkKey es.isEmpty 10000 kt (keyV key.1 key.2)) = some () := by
    obtain ⟨k1, k2⟩ := key
    obtain ⟨a0, a1, a2, a3, rfl⟩ := four4 h4
    exact pr_check_key K
  rw [hc, findK_ok K h4 hm hf]
  cases findK key f with
  | none => rfl
  | some v => rfl
theorem aOp_mapUpdate {t : Tr AVal} {h : AH} {dst : Option Tmp} {tt : TypeId} {pos : String} {after : Array Edge} {guard : Option (Nat × Bool)} {ty kt vt ft at_ et : TypeId} {x k y : Operand} {b clock : Nat} {es : List AMapE} {f : List ((Int × List Int) × AVal)} {key : Int × List Int} {v : AVal}
    (K : KeyT P kt ft at_ et) (hu : P.underlying ty = some (.map kt vt)) (hx : ev t x = some (.map b)) (hk : ev t k = some (.agg (.int .i64 key.1 :: key.2.map fun x => AVal.int .i64 x))) (hy : ev t y = some v) (h4 : key.2.length = 4)
    (hb : Has h b (.map es clock)) (hm : MapOf es f) (hf : Four f) :
    ∃ es' c' h', aOp P t h ⟨dst, .mapUpdate ty x k y, tt, pos, after, guard⟩ = some (.val undefA h') ∧ Upd h b (.map es' c') h' ∧ MapOf es' (setK key v f) ∧ Four (setK key v f) := by
  obtain ⟨es', c', q1, q2⟩ := setK_ok K h4 v clock hm hf
  obtain ⟨h', s1, s2⟩ := set_upd h b (.map es' c')
  refine ⟨es', c', h', ?_, s2, q2, fun x hx => (setK_mem hx).elim (fun e => by rw [e]; exact h4) (hf x)⟩
  show opMapUpdate P t h ty x k y = _
  unfold opMapUpdate
  rw [hu, hx, hk, hy]
  dsimp only
  rw [hb.2, ground_key]
  dsimp only
  have hc : pureRun P (Instr.checkKey false 10000 kt (keyV key.1 key.2)) = some () := by
    obtain ⟨k1, k2⟩ := key
    obtain ⟨a0, a1, a2, a3, rfl⟩ := four4 h4
    exact pr_check_key K
  rw [hc]
  dsimp only
  rw [q1]
  dsimp only
  rw [s1]
theorem GoR.mapUpdate {J : Jump} {c : FC} {k : List AItem} {Q : AM → Prop} {all : Array Oper} {l : List Oper} {dst : Option Tmp} {tt : TypeId} {pos : String} {after : Array Edge} {guard : Option (Nat × Bool)} {rest : List Oper} {i : Nat} {t : Tr AVal} {h : AH} {ty kt vt ft at_ et : TypeId} {x kx y : Operand} {b clock : Nat} {es : List AMapE} {f : List ((Int × List Int) × AVal)} {key : Int × List Int} {v : AVal}
    (hl : l = ⟨dst, .mapUpdate ty x kx y, tt, pos, after, guard⟩ :: rest) (hw : wantedA all t ⟨dst, .mapUpdate ty x kx y, tt, pos, after, guard⟩ = some true) (K : KeyT P kt ft at_ et) (hu : P.underlying ty = some (.map kt vt)) (hd : dst = none)
    (hx : ev t x = some (.map b)) (hk : ev t kx = some (.agg (.int .i64 key.1 :: key.2.map fun x => AVal.int .i64 x))) (hy : ev t y = some v) (h4 : key.2.length = 4) (hb : Has h b (.map es clock)) (hm : MapOf es f) (hf : Four f)
    (g : ∀ es' c' h1, Upd h b (.map es' c') h1 → MapOf es' (setK key v f) → Four (setK key v f) → GoR P J c k Q (runOps P c.n all rest (i + 1) t h1)) : GoR P J c k Q (runOps P c.n all l i t h) := by
  obtain ⟨es', c', h1, q1, q2, q3, q4⟩ := aOp_mapUpdate (dst := dst) (tt := tt) (pos := pos) (after := after) (guard := guard) K hu hx hk hy h4 hb hm hf
  refine GoR.op hl hw q1 ?_ (g es' c' h1 q2 q3 q4)
  unfold prepD
  rw [show (⟨dst, .mapUpdate ty x kx y, tt, pos, after, guard⟩ : Oper).dst = none from hd]
theorem GoR.makeMap {J : Jump} {c : FC} {k : List AItem} {Q : AM → Prop} {all : Array Oper} {l : List Oper} {o : Oper} {rest : List Oper} {i d : Nat} {t : Tr AVal} {h : AH} {ty : TypeId} (hl0 : l = o :: rest) (hw : wantedA all t o = some true)
    (ho : o.op = .makeMap ty none) (hd : o.dst = some d) (hn : Nat.blt d c.n = true)
    (g : ∀ h1, Ext h h1 → Has h1 h.next (.map [] 0) → GoR P J c k Q (runOps P c.n all rest (i + 1) (t.put (pth d) (some (.map h.next))) h1)) :
    GoR P J c k Q (runOps P c.n all l i t h) := by
  subst hl0
  obtain ⟨h1, q⟩ := new_some h (.map [] 0)
  obtain ⟨_, q2, q3⟩ := new_ext q
  refine GoR.op rfl hw (v := .map h.next) (h' := h1) ?_ ?_ (g h1 q2 q3)
  · obtain ⟨dst, op, type, pos, after, guard⟩ := o
    dsimp only at ho
    subst ho
    show opMakeMap h = _
    unfold opMakeMap
    rw [q]
  · unfold prepD
    rw [hd]
    simp only [hn, cond_true]
    rw [Tr.mkPut_eq]
end
end Go.AbsE
