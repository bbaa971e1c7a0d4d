import Derived.Test.YtmdheijpnlonoaaMAF
import Derived.Test.YtmdheijpnlonoaaChecked
import Derived.KernelRfl
import Derived.Test.YtmdheijpnlonoaaMAI
import Derived.Test.YtmdheijpnlonoaaMAG
import Derived.Test.YtmdheijpnlonoaaMAH
namespace Go.Proofs.Ytmdheijpnlonoaa
open Go Go.AbsE
theorem ag2 : isAggT Try.prog 2 = some false := by kernel_rfl
theorem ag3 : isAggT Try.prog 3 = some false := by kernel_rfl
theorem sz3 : sizeT Try.prog 3 = some 1 := by kernel_rfl
theorem ag4 : isAggT Try.prog 4 = some false := by kernel_rfl
theorem sz4 : sizeT Try.prog 4 = some 1 := by kernel_rfl
theorem ag22 : isAggT Try.prog 22 = some false := by kernel_rfl
theorem sz22 : sizeT Try.prog 22 = some 1 := by kernel_rfl
theorem ag23 : isAggT Try.prog 23 = some false := by kernel_rfl
theorem sz23 : sizeT Try.prog 23 = some 1 := by kernel_rfl
theorem ag24 : isAggT Try.prog 24 = some true := by kernel_rfl
theorem sz24 : sizeT Try.prog 24 = some 3 := by kernel_rfl
theorem ag25 : isAggT Try.prog 25 = some false := by kernel_rfl
theorem sz25 : sizeT Try.prog 25 = some 1 := by kernel_rfl
theorem ag27 : isAggT Try.prog 27 = some true := by kernel_rfl
theorem sz27 : sizeT Try.prog 27 = some 7 := by kernel_rfl
theorem ag30 : isAggT Try.prog 30 = some true := by kernel_rfl
theorem sz30 : sizeT Try.prog 30 = some 2 := by kernel_rfl
theorem ag35 : isAggT Try.prog 35 = some false := by kernel_rfl
theorem sz35 : sizeT Try.prog 35 = some 1 := by kernel_rfl
theorem ag47 : isAggT Try.prog 47 = some false := by kernel_rfl
theorem ag50 : isAggT Try.prog 50 = some false := by kernel_rfl
theorem sz50 : sizeT Try.prog 50 = some 1 := by kernel_rfl
theorem ag59 : isAggT Try.prog 59 = some true := by kernel_rfl
theorem sz59 : sizeT Try.prog 59 = some 4 := by kernel_rfl
theorem ag63 : isAggT Try.prog 63 = some true := by kernel_rfl
theorem sz63 : sizeT Try.prog 63 = some 3 := by kernel_rfl
theorem ag74 : isAggT Try.prog 74 = some true := by kernel_rfl
theorem sz74 : sizeT Try.prog 74 = some 7 := by kernel_rfl
theorem ag77 : isAggT Try.prog 77 = some false := by kernel_rfl
theorem sz77 : sizeT Try.prog 77 = some 1 := by kernel_rfl
theorem ag93 : isAggT Try.prog 93 = some false := by kernel_rfl
theorem sz93 : sizeT Try.prog 93 = some 1 := by kernel_rfl
theorem ag96 : isAggT Try.prog 96 = some false := by kernel_rfl
theorem sz96 : sizeT Try.prog 96 = some 1 := by kernel_rfl
theorem ag102 : isAggT Try.prog 102 = some true := by kernel_rfl
theorem sz102 : sizeT Try.prog 102 = some 6 := by kernel_rfl
theorem ag103 : isAggT Try.prog 103 = some false := by kernel_rfl
theorem sz103 : sizeT Try.prog 103 = some 1 := by kernel_rfl
theorem ag106 : isAggT Try.prog 106 = some true := by kernel_rfl
theorem sz106 : sizeT Try.prog 106 = some 4 := by kernel_rfl
theorem ag111 : isAggT Try.prog 111 = some true := by kernel_rfl
theorem sz111 : sizeT Try.prog 111 = some 12 := by kernel_rfl
theorem ag114 : isAggT Try.prog 114 = some true := by kernel_rfl
theorem sz114 : sizeT Try.prog 114 = some 7 := by kernel_rfl
theorem ag117 : isAggT Try.prog 117 = some false := by kernel_rfl
theorem sz117 : sizeT Try.prog 117 = some 1 := by kernel_rfl
theorem ag131 : isAggT Try.prog 131 = some false := by kernel_rfl
theorem ag132 : isAggT Try.prog 132 = some false := by kernel_rfl
theorem sz132 : sizeT Try.prog 132 = some 1 := by kernel_rfl
theorem ag134 : isAggT Try.prog 134 = some false := by kernel_rfl
theorem sz134 : sizeT Try.prog 134 = some 1 := by kernel_rfl
theorem ag137 : isAggT Try.prog 137 = some false := by kernel_rfl
theorem ag140 : isAggT Try.prog 140 = some true := by kernel_rfl
theorem sz140 : sizeT Try.prog 140 = some 6 := by kernel_rfl
theorem ag146 : isAggT Try.prog 146 = some true := by kernel_rfl
theorem sz146 : sizeT Try.prog 146 = some 1 := by kernel_rfl
theorem ag150 : isAggT Try.prog 150 = some false := by kernel_rfl
theorem fa27_0 {t : Tr AVal} {h : AH} {dst : Option Tmp} {tt : TypeId} {pos : String} {after : Array Edge} {guard : Option (Nat × Bool)} {x : Operand} {b off : Nat} (hx : ev t x = some (.ptr b off)) : aOp Try.prog t h ⟨dst, .fieldAddr 27 x 0, tt, pos, after, guard⟩ = some (.val (.ptr b (off + 0)) h) := by
  have := aOp_fieldAddr (P := Try.prog) (h := h) (dst := dst) (tt := tt) (pos := pos) (after := after) (guard := guard) (f := 0) Try.underlying27 rfl (n := 1) sz22 rfl hx
  exact this
theorem fa27_1 {t : Tr AVal} {h : AH} {dst : Option Tmp} {tt : TypeId} {pos : String} {after : Array Edge} {guard : Option (Nat × Bool)} {x : Operand} {b off : Nat} (hx : ev t x = some (.ptr b off)) : aOp Try.prog t h ⟨dst, .fieldAddr 27 x 1, tt, pos, after, guard⟩ = some (.val (.ptr b (off + 1)) h) := by
  have := aOp_fieldAddr (P := Try.prog) (h := h) (dst := dst) (tt := tt) (pos := pos) (after := after) (guard := guard) (f := 1) Try.underlying27 rfl (n := 1) sz23 rfl hx
  exact this
theorem fa27_2 {t : Tr AVal} {h : AH} {dst : Option Tmp} {tt : TypeId} {pos : String} {after : Array Edge} {guard : Option (Nat × Bool)} {x : Operand} {b off : Nat} (hx : ev t x = some (.ptr b off)) : aOp Try.prog t h ⟨dst, .fieldAddr 27 x 2, tt, pos, after, guard⟩ = some (.val (.ptr b (off + 2)) h) := by
  have := aOp_fieldAddr (P := Try.prog) (h := h) (dst := dst) (tt := tt) (pos := pos) (after := after) (guard := guard) (f := 2) Try.underlying27 rfl (n := 3) sz24 rfl hx
  exact this
theorem fa27_3 {t : Tr AVal} {h : AH} {dst : Option Tmp} {tt : TypeId} {pos : String} {after : Array Edge} {guard : Option (Nat × Bool)} {x : Operand} {b off : Nat} (hx : ev t x = some (.ptr b off)) : aOp Try.prog t h ⟨dst, .fieldAddr 27 x 3, tt, pos, after, guard⟩ = some (.val (.ptr b (off + 5)) h) := by
  have := aOp_fieldAddr (P := Try.prog) (h := h) (dst := dst) (tt := tt) (pos := pos) (after := after) (guard := guard) (f := 3) Try.underlying27 rfl (n := 1) sz3 rfl hx
  exact this
theorem fa27_4 {t : Tr AVal} {h : AH} {dst : Option Tmp} {tt : TypeId} {pos : String} {after : Array Edge} {guard : Option (Nat × Bool)} {x : Operand} {b off : Nat} (hx : ev t x = some (.ptr b off)) : aOp Try.prog t h ⟨dst, .fieldAddr 27 x 4, tt, pos, after, guard⟩ = some (.val (.ptr b (off + 6)) h) := by
  have := aOp_fieldAddr (P := Try.prog) (h := h) (dst := dst) (tt := tt) (pos := pos) (after := after) (guard := guard) (f := 4) Try.underlying27 rfl (n := 1) sz25 rfl hx
  exact this
theorem fa30_0 {t : Tr AVal} {h : AH} {dst : Option Tmp} {tt : TypeId} {pos : String} {after : Array Edge} {guard : Option (Nat × Bool)} {x : Operand} {b off : Nat} (hx : ev t x = some (.ptr b off)) : aOp Try.prog t h ⟨dst, .fieldAddr 30 x 0, tt, pos, after, guard⟩ = some (.val (.ptr b (off + 0)) h) := by
  have := aOp_fieldAddr (P := Try.prog) (h := h) (dst := dst) (tt := tt) (pos := pos) (after := after) (guard := guard) (f := 0) Try.underlying30 rfl (n := 1) sz3 rfl hx
  exact this
theorem fa30_1 {t : Tr AVal} {h : AH} {dst : Option Tmp} {tt : TypeId} {pos : String} {after : Array Edge} {guard : Option (Nat × Bool)} {x : Operand} {b off : Nat} (hx : ev t x = some (.ptr b off)) : aOp Try.prog t h ⟨dst, .fieldAddr 30 x 1, tt, pos, after, guard⟩ = some (.val (.ptr b (off + 1)) h) := by
  have := aOp_fieldAddr (P := Try.prog) (h := h) (dst := dst) (tt := tt) (pos := pos) (after := after) (guard := guard) (f := 1) Try.underlying30 rfl (n := 1) sz3 rfl hx
  exact this
theorem fa59_0 {t : Tr AVal} {h : AH} {dst : Option Tmp} {tt : TypeId} {pos : String} {after : Array Edge} {guard : Option (Nat × Bool)} {x : Operand} {b off : Nat} (hx : ev t x = some (.ptr b off)) : aOp Try.prog t h ⟨dst, .fieldAddr 59 x 0, tt, pos, after, guard⟩ = some (.val (.ptr b (off + 0)) h) := by
  have := aOp_fieldAddr (P := Try.prog) (h := h) (dst := dst) (tt := tt) (pos := pos) (after := after) (guard := guard) (f := 0) Try.underlying59 rfl (n := 1) sz3 rfl hx
  exact this
theorem fa59_1 {t : Tr AVal} {h : AH} {dst : Option Tmp} {tt : TypeId} {pos : String} {after : Array Edge} {guard : Option (Nat × Bool)} {x : Operand} {b off : Nat} (hx : ev t x = some (.ptr b off)) : aOp Try.prog t h ⟨dst, .fieldAddr 59 x 1, tt, pos, after, guard⟩ = some (.val (.ptr b (off + 1)) h) := by
  have := aOp_fieldAddr (P := Try.prog) (h := h) (dst := dst) (tt := tt) (pos := pos) (after := after) (guard := guard) (f := 1) Try.underlying59 rfl (n := 1) sz3 rfl hx
  exact this
theorem fa59_2 {t : Tr AVal} {h : AH} {dst : Option Tmp} {tt : TypeId} {pos : String} {after : Array Edge} {guard : Option (Nat × Bool)} {x : Operand} {b off : Nat} (hx : ev t x = some (.ptr b off)) : aOp Try.prog t h ⟨dst, .fieldAddr 59 x 2, tt, pos, after, guard⟩ = some (.val (.ptr b (off + 2)) h) := by
  have := aOp_fieldAddr (P := Try.prog) (h := h) (dst := dst) (tt := tt) (pos := pos) (after := after) (guard := guard) (f := 2) Try.underlying59 rfl (n := 2) sz30 rfl hx
  exact this
theorem fa63_0 {t : Tr AVal} {h : AH} {dst : Option Tmp} {tt : TypeId} {pos : String} {after : Array Edge} {guard : Option (Nat × Bool)} {x : Operand} {b off : Nat} (hx : ev t x = some (.ptr b off)) : aOp Try.prog t h ⟨dst, .fieldAddr 63 x 0, tt, pos, after, guard⟩ = some (.val (.ptr b (off + 0)) h) := by
  have := aOp_fieldAddr (P := Try.prog) (h := h) (dst := dst) (tt := tt) (pos := pos) (after := after) (guard := guard) (f := 0) Try.underlying63 rfl (n := 1) sz3 rfl hx
  exact this
theorem fa63_1 {t : Tr AVal} {h : AH} {dst : Option Tmp} {tt : TypeId} {pos : String} {after : Array Edge} {guard : Option (Nat × Bool)} {x : Operand} {b off : Nat} (hx : ev t x = some (.ptr b off)) : aOp Try.prog t h ⟨dst, .fieldAddr 63 x 1, tt, pos, after, guard⟩ = some (.val (.ptr b (off + 1)) h) := by
  have := aOp_fieldAddr (P := Try.prog) (h := h) (dst := dst) (tt := tt) (pos := pos) (after := after) (guard := guard) (f := 1) Try.underlying63 rfl (n := 2) sz30 rfl hx
  exact this
theorem fa74_0 {t : Tr AVal} {h : AH} {dst : Option Tmp} {tt : TypeId} {pos : String} {after : Array Edge} {guard : Option (Nat × Bool)} {x : Operand} {b off : Nat} (hx : ev t x = some (.ptr b off)) : aOp Try.prog t h ⟨dst, .fieldAddr 74 x 0, tt, pos, after, guard⟩ = some (.val (.ptr b (off + 0)) h) := by
  have := aOp_fieldAddr (P := Try.prog) (h := h) (dst := dst) (tt := tt) (pos := pos) (after := after) (guard := guard) (f := 0) Try.underlying74 rfl (n := 1) sz22 rfl hx
  exact this
theorem fa74_1 {t : Tr AVal} {h : AH} {dst : Option Tmp} {tt : TypeId} {pos : String} {after : Array Edge} {guard : Option (Nat × Bool)} {x : Operand} {b off : Nat} (hx : ev t x = some (.ptr b off)) : aOp Try.prog t h ⟨dst, .fieldAddr 74 x 1, tt, pos, after, guard⟩ = some (.val (.ptr b (off + 1)) h) := by
  have := aOp_fieldAddr (P := Try.prog) (h := h) (dst := dst) (tt := tt) (pos := pos) (after := after) (guard := guard) (f := 1) Try.underlying74 rfl (n := 1) sz23 rfl hx
  exact this
theorem fa74_2 {t : Tr AVal} {h : AH} {dst : Option Tmp} {tt : TypeId} {pos : String} {after : Array Edge} {guard : Option (Nat × Bool)} {x : Operand} {b off : Nat} (hx : ev t x = some (.ptr b off)) : aOp Try.prog t h ⟨dst, .fieldAddr 74 x 2, tt, pos, after, guard⟩ = some (.val (.ptr b (off + 2)) h) := by
  have := aOp_fieldAddr (P := Try.prog) (h := h) (dst := dst) (tt := tt) (pos := pos) (after := after) (guard := guard) (f := 2) Try.underlying74 rfl (n := 3) sz24 rfl hx
  exact this
theorem fa74_3 {t : Tr AVal} {h : AH} {dst : Option Tmp} {tt : TypeId} {pos : String} {after : Array Edge} {guard : Option (Nat × Bool)} {x : Operand} {b off : Nat} (hx : ev t x = some (.ptr b off)) : aOp Try.prog t h ⟨dst, .fieldAddr 74 x 3, tt, pos, after, guard⟩ = some (.val (.ptr b (off + 5)) h) := by
  have := aOp_fieldAddr (P := Try.prog) (h := h) (dst := dst) (tt := tt) (pos := pos) (after := after) (guard := guard) (f := 3) Try.underlying74 rfl (n := 1) sz3 rfl hx
  exact this
theorem fa74_4 {t : Tr AVal} {h : AH} {dst : Option Tmp} {tt : TypeId} {pos : String} {after : Array Edge} {guard : Option (Nat × Bool)} {x : Operand} {b off : Nat} (hx : ev t x = some (.ptr b off)) : aOp Try.prog t h ⟨dst, .fieldAddr 74 x 4, tt, pos, after, guard⟩ = some (.val (.ptr b (off + 6)) h) := by
  have := aOp_fieldAddr (P := Try.prog) (h := h) (dst := dst) (tt := tt) (pos := pos) (after := after) (guard := guard) (f := 4) Try.underlying74 rfl (n := 1) sz25 rfl hx
  exact this
theorem fa106_0 {t : Tr AVal} {h : AH} {dst : Option Tmp} {tt : TypeId} {pos : String} {after : Array Edge} {guard : Option (Nat × Bool)} {x : Operand} {b off : Nat} (hx : ev t x = some (.ptr b off)) : aOp Try.prog t h ⟨dst, .fieldAddr 106 x 0, tt, pos, after, guard⟩ = some (.val (.ptr b (off + 0)) h) := by
  have := aOp_fieldAddr (P := Try.prog) (h := h) (dst := dst) (tt := tt) (pos := pos) (after := after) (guard := guard) (f := 0) Try.underlying106 rfl (n := 3) sz63 rfl hx
  exact this
theorem fa106_1 {t : Tr AVal} {h : AH} {dst : Option Tmp} {tt : TypeId} {pos : String} {after : Array Edge} {guard : Option (Nat × Bool)} {x : Operand} {b off : Nat} (hx : ev t x = some (.ptr b off)) : aOp Try.prog t h ⟨dst, .fieldAddr 106 x 1, tt, pos, after, guard⟩ = some (.val (.ptr b (off + 3)) h) := by
  have := aOp_fieldAddr (P := Try.prog) (h := h) (dst := dst) (tt := tt) (pos := pos) (after := after) (guard := guard) (f := 1) Try.underlying106 rfl (n := 1) sz25 rfl hx
  exact this
theorem fa114_0 {t : Tr AVal} {h : AH} {dst : Option Tmp} {tt : TypeId} {pos : String} {after : Array Edge} {guard : Option (Nat × Bool)} {x : Operand} {b off : Nat} (hx : ev t x = some (.ptr b off)) : aOp Try.prog t h ⟨dst, .fieldAddr 114 x 0, tt, pos, after, guard⟩ = some (.val (.ptr b (off + 0)) h) := by
  have := aOp_fieldAddr (P := Try.prog) (h := h) (dst := dst) (tt := tt) (pos := pos) (after := after) (guard := guard) (f := 0) Try.underlying114 rfl (n := 1) sz3 rfl hx
  exact this
theorem fa114_1 {t : Tr AVal} {h : AH} {dst : Option Tmp} {tt : TypeId} {pos : String} {after : Array Edge} {guard : Option (Nat × Bool)} {x : Operand} {b off : Nat} (hx : ev t x = some (.ptr b off)) : aOp Try.prog t h ⟨dst, .fieldAddr 114 x 1, tt, pos, after, guard⟩ = some (.val (.ptr b (off + 1)) h) := by
  have := aOp_fieldAddr (P := Try.prog) (h := h) (dst := dst) (tt := tt) (pos := pos) (after := after) (guard := guard) (f := 1) Try.underlying114 rfl (n := 6) sz102 rfl hx
  exact this
theorem fa119_0 {t : Tr AVal} {h : AH} {dst : Option Tmp} {tt : TypeId} {pos : String} {after : Array Edge} {guard : Option (Nat × Bool)} {x : Operand} {b off : Nat} (hx : ev t x = some (.ptr b off)) : aOp Try.prog t h ⟨dst, .fieldAddr 119 x 0, tt, pos, after, guard⟩ = some (.val (.ptr b (off + 0)) h) := by
  have := aOp_fieldAddr (P := Try.prog) (h := h) (dst := dst) (tt := tt) (pos := pos) (after := after) (guard := guard) (f := 0) Try.underlying119 rfl (n := 1) sz117 rfl hx
  exact this
theorem fa146_0 {t : Tr AVal} {h : AH} {dst : Option Tmp} {tt : TypeId} {pos : String} {after : Array Edge} {guard : Option (Nat × Bool)} {x : Operand} {b off : Nat} (hx : ev t x = some (.ptr b off)) : aOp Try.prog t h ⟨dst, .fieldAddr 146 x 0, tt, pos, after, guard⟩ = some (.val (.ptr b (off + 0)) h) := by
  have := aOp_fieldAddr (P := Try.prog) (h := h) (dst := dst) (tt := tt) (pos := pos) (after := after) (guard := guard) (f := 0) Try.underlying146 rfl (n := 1) sz3 rfl hx
  exact this
theorem fa148_0 {t : Tr AVal} {h : AH} {dst : Option Tmp} {tt : TypeId} {pos : String} {after : Array Edge} {guard : Option (Nat × Bool)} {x : Operand} {b off : Nat} (hx : ev t x = some (.ptr b off)) : aOp Try.prog t h ⟨dst, .fieldAddr 148 x 0, tt, pos, after, guard⟩ = some (.val (.ptr b (off + 0)) h) := by
  have := aOp_fieldAddr (P := Try.prog) (h := h) (dst := dst) (tt := tt) (pos := pos) (after := after) (guard := guard) (f := 0) Try.underlying148 rfl (n := 1) sz146 rfl hx
  exact this
theorem fa148_1 {t : Tr AVal} {h : AH} {dst : Option Tmp} {tt : TypeId} {pos : String} {after : Array Edge} {guard : Option (Nat × Bool)} {x : Operand} {b off : Nat} (hx : ev t x = some (.ptr b off)) : aOp Try.prog t h ⟨dst, .fieldAddr 148 x 1, tt, pos, after, guard⟩ = some (.val (.ptr b (off + 1)) h) := by
  have := aOp_fieldAddr (P := Try.prog) (h := h) (dst := dst) (tt := tt) (pos := pos) (after := after) (guard := guard) (f := 1) Try.underlying148 rfl (n := 3) sz24 rfl hx
  exact this
theorem ld3 {t : Tr AVal} {h : AH} {dst : Option Tmp} {tt : TypeId} {pos : String} {after : Array Edge} {guard : Option (Nat × Bool)} {x : Operand} {b off : Nat} {g : Kd} {cs : List AVal} {el : TypeId} {v : AVal} (hx : ev t x = some (.ptr b off)) (hb : Has h b (.cells g cs el)) (hv : cs[off]? = some v) : aOp Try.prog t h ⟨dst, .load 3 x, tt, pos, after, guard⟩ = some (.val v h) := aOp_load1 ag3 hx hb hv
theorem ld4 {t : Tr AVal} {h : AH} {dst : Option Tmp} {tt : TypeId} {pos : String} {after : Array Edge} {guard : Option (Nat × Bool)} {x : Operand} {b off : Nat} {g : Kd} {cs : List AVal} {el : TypeId} {v : AVal} (hx : ev t x = some (.ptr b off)) (hb : Has h b (.cells g cs el)) (hv : cs[off]? = some v) : aOp Try.prog t h ⟨dst, .load 4 x, tt, pos, after, guard⟩ = some (.val v h) := aOp_load1 ag4 hx hb hv
theorem ld22 {t : Tr AVal} {h : AH} {dst : Option Tmp} {tt : TypeId} {pos : String} {after : Array Edge} {guard : Option (Nat × Bool)} {x : Operand} {b off : Nat} {g : Kd} {cs : List AVal} {el : TypeId} {v : AVal} (hx : ev t x = some (.ptr b off)) (hb : Has h b (.cells g cs el)) (hv : cs[off]? = some v) : aOp Try.prog t h ⟨dst, .load 22 x, tt, pos, after, guard⟩ = some (.val v h) := aOp_load1 ag22 hx hb hv
theorem ld23 {t : Tr AVal} {h : AH} {dst : Option Tmp} {tt : TypeId} {pos : String} {after : Array Edge} {guard : Option (Nat × Bool)} {x : Operand} {b off : Nat} {g : Kd} {cs : List AVal} {el : TypeId} {v : AVal} (hx : ev t x = some (.ptr b off)) (hb : Has h b (.cells g cs el)) (hv : cs[off]? = some v) : aOp Try.prog t h ⟨dst, .load 23 x, tt, pos, after, guard⟩ = some (.val v h) := aOp_load1 ag23 hx hb hv
theorem ld24 {t : Tr AVal} {h : AH} {dst : Option Tmp} {tt : TypeId} {pos : String} {after : Array Edge} {guard : Option (Nat × Bool)} {x : Operand} {b off : Nat} {g : Kd} {cs l : List AVal} {el : TypeId} (hx : ev t x = some (.ptr b off)) (hb : Has h b (.cells g cs el)) (hv : slice? cs off 3 = some l) : aOp Try.prog t h ⟨dst, .load 24 x, tt, pos, after, guard⟩ = some (.val (.agg l) h) := aOp_loadN ag24 sz24 hx hb hv
theorem ld25 {t : Tr AVal} {h : AH} {dst : Option Tmp} {tt : TypeId} {pos : String} {after : Array Edge} {guard : Option (Nat × Bool)} {x : Operand} {b off : Nat} {g : Kd} {cs : List AVal} {el : TypeId} {v : AVal} (hx : ev t x = some (.ptr b off)) (hb : Has h b (.cells g cs el)) (hv : cs[off]? = some v) : aOp Try.prog t h ⟨dst, .load 25 x, tt, pos, after, guard⟩ = some (.val v h) := aOp_load1 ag25 hx hb hv
theorem ld27 {t : Tr AVal} {h : AH} {dst : Option Tmp} {tt : TypeId} {pos : String} {after : Array Edge} {guard : Option (Nat × Bool)} {x : Operand} {b off : Nat} {g : Kd} {cs l : List AVal} {el : TypeId} (hx : ev t x = some (.ptr b off)) (hb : Has h b (.cells g cs el)) (hv : slice? cs off 7 = some l) : aOp Try.prog t h ⟨dst, .load 27 x, tt, pos, after, guard⟩ = some (.val (.agg l) h) := aOp_loadN ag27 sz27 hx hb hv
theorem ld30 {t : Tr AVal} {h : AH} {dst : Option Tmp} {tt : TypeId} {pos : String} {after : Array Edge} {guard : Option (Nat × Bool)} {x : Operand} {b off : Nat} {g : Kd} {cs l : List AVal} {el : TypeId} (hx : ev t x = some (.ptr b off)) (hb : Has h b (.cells g cs el)) (hv : slice? cs off 2 = some l) : aOp Try.prog t h ⟨dst, .load 30 x, tt, pos, after, guard⟩ = some (.val (.agg l) h) := aOp_loadN ag30 sz30 hx hb hv
theorem ld47 {t : Tr AVal} {h : AH} {dst : Option Tmp} {tt : TypeId} {pos : String} {after : Array Edge} {guard : Option (Nat × Bool)} {x : Operand} {b off : Nat} {g : Kd} {cs : List AVal} {el : TypeId} {v : AVal} (hx : ev t x = some (.ptr b off)) (hb : Has h b (.cells g cs el)) (hv : cs[off]? = some v) : aOp Try.prog t h ⟨dst, .load 47 x, tt, pos, after, guard⟩ = some (.val v h) := aOp_load1 ag47 hx hb hv
theorem ld59 {t : Tr AVal} {h : AH} {dst : Option Tmp} {tt : TypeId} {pos : String} {after : Array Edge} {guard : Option (Nat × Bool)} {x : Operand} {b off : Nat} {g : Kd} {cs l : List AVal} {el : TypeId} (hx : ev t x = some (.ptr b off)) (hb : Has h b (.cells g cs el)) (hv : slice? cs off 4 = some l) : aOp Try.prog t h ⟨dst, .load 59 x, tt, pos, after, guard⟩ = some (.val (.agg l) h) := aOp_loadN ag59 sz59 hx hb hv
theorem ld63 {t : Tr AVal} {h : AH} {dst : Option Tmp} {tt : TypeId} {pos : String} {after : Array Edge} {guard : Option (Nat × Bool)} {x : Operand} {b off : Nat} {g : Kd} {cs l : List AVal} {el : TypeId} (hx : ev t x = some (.ptr b off)) (hb : Has h b (.cells g cs el)) (hv : slice? cs off 3 = some l) : aOp Try.prog t h ⟨dst, .load 63 x, tt, pos, after, guard⟩ = some (.val (.agg l) h) := aOp_loadN ag63 sz63 hx hb hv
theorem ld74 {t : Tr AVal} {h : AH} {dst : Option Tmp} {tt : TypeId} {pos : String} {after : Array Edge} {guard : Option (Nat × Bool)} {x : Operand} {b off : Nat} {g : Kd} {cs l : List AVal} {el : TypeId} (hx : ev t x = some (.ptr b off)) (hb : Has h b (.cells g cs el)) (hv : slice? cs off 7 = some l) : aOp Try.prog t h ⟨dst, .load 74 x, tt, pos, after, guard⟩ = some (.val (.agg l) h) := aOp_loadN ag74 sz74 hx hb hv
theorem ld77 {t : Tr AVal} {h : AH} {dst : Option Tmp} {tt : TypeId} {pos : String} {after : Array Edge} {guard : Option (Nat × Bool)} {x : Operand} {b off : Nat} {g : Kd} {cs : List AVal} {el : TypeId} {v : AVal} (hx : ev t x = some (.ptr b off)) (hb : Has h b (.cells g cs el)) (hv : cs[off]? = some v) : aOp Try.prog t h ⟨dst, .load 77 x, tt, pos, after, guard⟩ = some (.val v h) := aOp_load1 ag77 hx hb hv
theorem ld96 {t : Tr AVal} {h : AH} {dst : Option Tmp} {tt : TypeId} {pos : String} {after : Array Edge} {guard : Option (Nat × Bool)} {x : Operand} {b off : Nat} {g : Kd} {cs : List AVal} {el : TypeId} {v : AVal} (hx : ev t x = some (.ptr b off)) (hb : Has h b (.cells g cs el)) (hv : cs[off]? = some v) : aOp Try.prog t h ⟨dst, .load 96 x, tt, pos, after, guard⟩ = some (.val v h) := aOp_load1 ag96 hx hb hv
theorem ld102 {t : Tr AVal} {h : AH} {dst : Option Tmp} {tt : TypeId} {pos : String} {after : Array Edge} {guard : Option (Nat × Bool)} {x : Operand} {b off : Nat} {g : Kd} {cs l : List AVal} {el : TypeId} (hx : ev t x = some (.ptr b off)) (hb : Has h b (.cells g cs el)) (hv : slice? cs off 6 = some l) : aOp Try.prog t h ⟨dst, .load 102 x, tt, pos, after, guard⟩ = some (.val (.agg l) h) := aOp_loadN ag102 sz102 hx hb hv
theorem ld103 {t : Tr AVal} {h : AH} {dst : Option Tmp} {tt : TypeId} {pos : String} {after : Array Edge} {guard : Option (Nat × Bool)} {x : Operand} {b off : Nat} {g : Kd} {cs : List AVal} {el : TypeId} {v : AVal} (hx : ev t x = some (.ptr b off)) (hb : Has h b (.cells g cs el)) (hv : cs[off]? = some v) : aOp Try.prog t h ⟨dst, .load 103 x, tt, pos, after, guard⟩ = some (.val v h) := aOp_load1 ag103 hx hb hv
theorem ld106 {t : Tr AVal} {h : AH} {dst : Option Tmp} {tt : TypeId} {pos : String} {after : Array Edge} {guard : Option (Nat × Bool)} {x : Operand} {b off : Nat} {g : Kd} {cs l : List AVal} {el : TypeId} (hx : ev t x = some (.ptr b off)) (hb : Has h b (.cells g cs el)) (hv : slice? cs off 4 = some l) : aOp Try.prog t h ⟨dst, .load 106 x, tt, pos, after, guard⟩ = some (.val (.agg l) h) := aOp_loadN ag106 sz106 hx hb hv
theorem ld111 {t : Tr AVal} {h : AH} {dst : Option Tmp} {tt : TypeId} {pos : String} {after : Array Edge} {guard : Option (Nat × Bool)} {x : Operand} {b off : Nat} {g : Kd} {cs l : List AVal} {el : TypeId} (hx : ev t x = some (.ptr b off)) (hb : Has h b (.cells g cs el)) (hv : slice? cs off 12 = some l) : aOp Try.prog t h ⟨dst, .load 111 x, tt, pos, after, guard⟩ = some (.val (.agg l) h) := aOp_loadN ag111 sz111 hx hb hv
theorem ld114 {t : Tr AVal} {h : AH} {dst : Option Tmp} {tt : TypeId} {pos : String} {after : Array Edge} {guard : Option (Nat × Bool)} {x : Operand} {b off : Nat} {g : Kd} {cs l : List AVal} {el : TypeId} (hx : ev t x = some (.ptr b off)) (hb : Has h b (.cells g cs el)) (hv : slice? cs off 7 = some l) : aOp Try.prog t h ⟨dst, .load 114 x, tt, pos, after, guard⟩ = some (.val (.agg l) h) := aOp_loadN ag114 sz114 hx hb hv
theorem ld117 {t : Tr AVal} {h : AH} {dst : Option Tmp} {tt : TypeId} {pos : String} {after : Array Edge} {guard : Option (Nat × Bool)} {x : Operand} {b off : Nat} {g : Kd} {cs : List AVal} {el : TypeId} {v : AVal} (hx : ev t x = some (.ptr b off)) (hb : Has h b (.cells g cs el)) (hv : cs[off]? = some v) : aOp Try.prog t h ⟨dst, .load 117 x, tt, pos, after, guard⟩ = some (.val v h) := aOp_load1 ag117 hx hb hv
theorem ld131 {t : Tr AVal} {h : AH} {dst : Option Tmp} {tt : TypeId} {pos : String} {after : Array Edge} {guard : Option (Nat × Bool)} {x : Operand} {b off : Nat} {g : Kd} {cs : List AVal} {el : TypeId} {v : AVal} (hx : ev t x = some (.ptr b off)) (hb : Has h b (.cells g cs el)) (hv : cs[off]? = some v) : aOp Try.prog t h ⟨dst, .load 131 x, tt, pos, after, guard⟩ = some (.val v h) := aOp_load1 ag131 hx hb hv
theorem ld132 {t : Tr AVal} {h : AH} {dst : Option Tmp} {tt : TypeId} {pos : String} {after : Array Edge} {guard : Option (Nat × Bool)} {x : Operand} {b off : Nat} {g : Kd} {cs : List AVal} {el : TypeId} {v : AVal} (hx : ev t x = some (.ptr b off)) (hb : Has h b (.cells g cs el)) (hv : cs[off]? = some v) : aOp Try.prog t h ⟨dst, .load 132 x, tt, pos, after, guard⟩ = some (.val v h) := aOp_load1 ag132 hx hb hv
theorem ld134 {t : Tr AVal} {h : AH} {dst : Option Tmp} {tt : TypeId} {pos : String} {after : Array Edge} {guard : Option (Nat × Bool)} {x : Operand} {b off : Nat} {g : Kd} {cs : List AVal} {el : TypeId} {v : AVal} (hx : ev t x = some (.ptr b off)) (hb : Has h b (.cells g cs el)) (hv : cs[off]? = some v) : aOp Try.prog t h ⟨dst, .load 134 x, tt, pos, after, guard⟩ = some (.val v h) := aOp_load1 ag134 hx hb hv
theorem ld137 {t : Tr AVal} {h : AH} {dst : Option Tmp} {tt : TypeId} {pos : String} {after : Array Edge} {guard : Option (Nat × Bool)} {x : Operand} {b off : Nat} {g : Kd} {cs : List AVal} {el : TypeId} {v : AVal} (hx : ev t x = some (.ptr b off)) (hb : Has h b (.cells g cs el)) (hv : cs[off]? = some v) : aOp Try.prog t h ⟨dst, .load 137 x, tt, pos, after, guard⟩ = some (.val v h) := aOp_load1 ag137 hx hb hv
theorem ld140 {t : Tr AVal} {h : AH} {dst : Option Tmp} {tt : TypeId} {pos : String} {after : Array Edge} {guard : Option (Nat × Bool)} {x : Operand} {b off : Nat} {g : Kd} {cs l : List AVal} {el : TypeId} (hx : ev t x = some (.ptr b off)) (hb : Has h b (.cells g cs el)) (hv : slice? cs off 6 = some l) : aOp Try.prog t h ⟨dst, .load 140 x, tt, pos, after, guard⟩ = some (.val (.agg l) h) := aOp_loadN ag140 sz140 hx hb hv
theorem ld146 {t : Tr AVal} {h : AH} {dst : Option Tmp} {tt : TypeId} {pos : String} {after : Array Edge} {guard : Option (Nat × Bool)} {x : Operand} {b off : Nat} {g : Kd} {cs l : List AVal} {el : TypeId} (hx : ev t x = some (.ptr b off)) (hb : Has h b (.cells g cs el)) (hv : slice? cs off 1 = some l) : aOp Try.prog t h ⟨dst, .load 146 x, tt, pos, after, guard⟩ = some (.val (.agg l) h) := aOp_loadN ag146 sz146 hx hb hv
theorem ld150 {t : Tr AVal} {h : AH} {dst : Option Tmp} {tt : TypeId} {pos : String} {after : Array Edge} {guard : Option (Nat × Bool)} {x : Operand} {b off : Nat} {g : Kd} {cs : List AVal} {el : TypeId} {v : AVal} (hx : ev t x = some (.ptr b off)) (hb : Has h b (.cells g cs el)) (hv : cs[off]? = some v) : aOp Try.prog t h ⟨dst, .load 150 x, tt, pos, after, guard⟩ = some (.val v h) := aOp_load1 ag150 hx hb hv
theorem aFunc4 : aFunc Try.prog 4 = some Try.f4 := by kernel_rfl
theorem aFunc11 : aFunc Try.prog 11 = some Try.f11 := by kernel_rfl
theorem aFunc13 : aFunc Try.prog 13 = some Try.f13 := by kernel_rfl
theorem aFunc14 : aFunc Try.prog 14 = some Try.f14 := by kernel_rfl
theorem aFunc15 : aFunc Try.prog 15 = some Try.f15 := by kernel_rfl
theorem aFunc16 : aFunc Try.prog 16 = some Try.f16 := by kernel_rfl
theorem aFunc18 : aFunc Try.prog 18 = some Try.f18 := by kernel_rfl
theorem aFunc19 : aFunc Try.prog 19 = some Try.f19 := by kernel_rfl
theorem aFunc21 : aFunc Try.prog 21 = some Try.f21 := by kernel_rfl
theorem aFunc22 : aFunc Try.prog 22 = some Try.f22 := by kernel_rfl
theorem aFunc23 : aFunc Try.prog 23 = some Try.f23 := by kernel_rfl
theorem aFunc24 : aFunc Try.prog 24 = some Try.f24 := by kernel_rfl
theorem aFunc25 : aFunc Try.prog 25 = some Try.f25 := by kernel_rfl
theorem aFunc26 : aFunc Try.prog 26 = some Try.f26 := by kernel_rfl
theorem aFunc27 : aFunc Try.prog 27 = some Try.f27 := by kernel_rfl
theorem aFunc29 : aFunc Try.prog 29 = some Try.f29 := by kernel_rfl
theorem aFunc30 : aFunc Try.prog 30 = some Try.f30 := by kernel_rfl
theorem aFunc34 : aFunc Try.prog 34 = some Try.f34 := by kernel_rfl
theorem aFunc35 : aFunc Try.prog 35 = some Try.f35 := by kernel_rfl
theorem aFunc36 : aFunc Try.prog 36 = some Try.f36 := by kernel_rfl
theorem aFunc37 : aFunc Try.prog 37 = some Try.f37 := by kernel_rfl
theorem aFunc38 : aFunc Try.prog 38 = some Try.f38 := by kernel_rfl
theorem aFunc39 : aFunc Try.prog 39 = some Try.f39 := by kernel_rfl
theorem aFunc40 : aFunc Try.prog 40 = some Try.f40 := by kernel_rfl
theorem aFunc41 : aFunc Try.prog 41 = some Try.f41 := by kernel_rfl
theorem aFunc42 : aFunc Try.prog 42 = some Try.f42 := by kernel_rfl
theorem aFunc43 : aFunc Try.prog 43 = some Try.f43 := by kernel_rfl
theorem aFunc44 : aFunc Try.prog 44 = some Try.f44 := by kernel_rfl
theorem aFunc45 : aFunc Try.prog 45 = some Try.f45 := by kernel_rfl
theorem aFunc48 : aFunc Try.prog 48 = some Try.f48 := by kernel_rfl
theorem aFunc49 : aFunc Try.prog 49 = some Try.f49 := by kernel_rfl
theorem aFunc50 : aFunc Try.prog 50 = some Try.f50 := by kernel_rfl
theorem aFunc51 : aFunc Try.prog 51 = some Try.f51 := by kernel_rfl
theorem aFunc52 : aFunc Try.prog 52 = some Try.f52 := by kernel_rfl
theorem aFunc53 : aFunc Try.prog 53 = some Try.f53 := by kernel_rfl
theorem aFunc54 : aFunc Try.prog 54 = some Try.f54 := by kernel_rfl
theorem aFunc55 : aFunc Try.prog 55 = some Try.f55 := by kernel_rfl
theorem aFunc57 : aFunc Try.prog 57 = some Try.f57 := by kernel_rfl
theorem aFunc58 : aFunc Try.prog 58 = some Try.f58 := by kernel_rfl
theorem aFunc59 : aFunc Try.prog 59 = some Try.f59 := by kernel_rfl
theorem aFunc60 : aFunc Try.prog 60 = some Try.f60 := by kernel_rfl
theorem aFunc61 : aFunc Try.prog 61 = some Try.f61 := by kernel_rfl
theorem aFunc62 : aFunc Try.prog 62 = some Try.f62 := by kernel_rfl
theorem aFunc63 : aFunc Try.prog 63 = some Try.f63 := by kernel_rfl
theorem aFunc64 : aFunc Try.prog 64 = some Try.f64 := by kernel_rfl
theorem aFunc65 : aFunc Try.prog 65 = some Try.f65 := by kernel_rfl
theorem aFunc66 : aFunc Try.prog 66 = some Try.f66 := by kernel_rfl
theorem aFunc67 : aFunc Try.prog 67 = some Try.f67 := by kernel_rfl
theorem aFunc68 : aFunc Try.prog 68 = some Try.f68 := by kernel_rfl
theorem aFunc69 : aFunc Try.prog 69 = some Try.f69 := by kernel_rfl
theorem aFunc70 : aFunc Try.prog 70 = some Try.f70 := by kernel_rfl
theorem aFunc71 : aFunc Try.prog 71 = some Try.f71 := by kernel_rfl
theorem aFunc72 : aFunc Try.prog 72 = some Try.f72 := by kernel_rfl
theorem aFunc73 : aFunc Try.prog 73 = some Try.f73 := by kernel_rfl
theorem aFunc74 : aFunc Try.prog 74 = some Try.f74 := by kernel_rfl
theorem aFunc75 : aFunc Try.prog 75 = some Try.f75 := by kernel_rfl
theorem aFunc76 : aFunc Try.prog 76 = some Try.f76 := by kernel_rfl
theorem aFunc77 : aFunc Try.prog 77 = some Try.f77 := by kernel_rfl
theorem aFunc78 : aFunc Try.prog 78 = some Try.f78 := by kernel_rfl
theorem aFunc79 : aFunc Try.prog 79 = some Try.f79 := by kernel_rfl
theorem aFunc80 : aFunc Try.prog 80 = some Try.f80 := by kernel_rfl
theorem aFunc81 : aFunc Try.prog 81 = some Try.f81 := by kernel_rfl
theorem aFunc83 : aFunc Try.prog 83 = some Try.f83 := by kernel_rfl
theorem aFunc84 : aFunc Try.prog 84 = some Try.f84 := by kernel_rfl
theorem aFunc85 : aFunc Try.prog 85 = some Try.f85 := by kernel_rfl
theorem aFunc86 : aFunc Try.prog 86 = some Try.f86 := by kernel_rfl
theorem aFunc87 : aFunc Try.prog 87 = some Try.f87 := by kernel_rfl
theorem aFunc88 : aFunc Try.prog 88 = some Try.f88 := by kernel_rfl
theorem aFunc89 : aFunc Try.prog 89 = some Try.f89 := by kernel_rfl
theorem aFunc90 : aFunc Try.prog 90 = some Try.f90 := by kernel_rfl
theorem aFunc91 : aFunc Try.prog 91 = some Try.f91 := by kernel_rfl
theorem aFunc92 : aFunc Try.prog 92 = some Try.f92 := by kernel_rfl
theorem aFunc93 : aFunc Try.prog 93 = some Try.f93 := by kernel_rfl
theorem aFunc94 : aFunc Try.prog 94 = some Try.f94 := by kernel_rfl
theorem aFunc95 : aFunc Try.prog 95 = some Try.f95 := by kernel_rfl
theorem aFunc96 : aFunc Try.prog 96 = some Try.f96 := by kernel_rfl
theorem aFunc97 : aFunc Try.prog 97 = some Try.f97 := by kernel_rfl
theorem aFunc98 : aFunc Try.prog 98 = some Try.f98 := by kernel_rfl
theorem aFunc99 : aFunc Try.prog 99 = some Try.f99 := by kernel_rfl
theorem aFunc100 : aFunc Try.prog 100 = some Try.f100 := by kernel_rfl
theorem aFunc101 : aFunc Try.prog 101 = some Try.f101 := by kernel_rfl
theorem aFunc102 : aFunc Try.prog 102 = some Try.f102 := by kernel_rfl
theorem aFunc103 : aFunc Try.prog 103 = some Try.f103 := by kernel_rfl
theorem aFunc104 : aFunc Try.prog 104 = some Try.f104 := by kernel_rfl
theorem aFunc105 : aFunc Try.prog 105 = some Try.f105 := by kernel_rfl
theorem aFunc106 : aFunc Try.prog 106 = some Try.f106 := by kernel_rfl
theorem aFunc122 : aFunc Try.prog 122 = some Try.f122 := by kernel_rfl
theorem aFunc123 : aFunc Try.prog 123 = some Try.f123 := by kernel_rfl
theorem aFunc124 : aFunc Try.prog 124 = some Try.f124 := by kernel_rfl
end Go.Proofs.Ytmdheijpnlonoaa

namespace Go.Proofs.Ytmdheijpnlonoaa
open Go Go.AbsE
set_option linter.unusedSimpArgs false
theorem zt3 : zeroT Try.prog 3 = some (.int .i64 0) := by kernel_rfl
theorem zt4 : zeroT Try.prog 4 = some (.bool false) := by kernel_rfl
theorem zt27 : zeroT Try.prog 27 = some (.agg [.nilslice, .nilslice, .int .i64 0, .int .i64 0, .int .i64 0, .int .i64 0, .nilslice]) := by kernel_rfl
theorem zt30 : zeroT Try.prog 30 = some (.agg [.int .i64 0, .int .i64 0]) := by kernel_rfl
theorem zt35 : zeroT Try.prog 35 = some (.int .i64 0) := by kernel_rfl
theorem zt59 : zeroT Try.prog 59 = some (.agg [.int .i64 0, .int .i64 0, .int .i64 0, .int .i64 0]) := by kernel_rfl
theorem zt63 : zeroT Try.prog 63 = some (.agg [.int .i64 0, .int .i64 0, .int .i64 0]) := by kernel_rfl
theorem zt77 : zeroT Try.prog 77 = some .nilmap := by kernel_rfl
theorem zt96 : zeroT Try.prog 96 = some .nilslice := by kernel_rfl
theorem zt102 : zeroT Try.prog 102 = some (.agg [.int .i64 0, .int .i64 0, .int .i64 0, .int .i64 0, .int .i64 0, .int .i64 0]) := by kernel_rfl
theorem zt103 : zeroT Try.prog 103 = some .nilslice := by kernel_rfl
theorem zt106 : zeroT Try.prog 106 = some (.agg [.int .i64 0, .int .i64 0, .int .i64 0, .nilslice]) := by kernel_rfl
theorem zt111 : zeroT Try.prog 111 = some (.agg [.int .i64 0, .int .i64 0, .int .i64 0, .int .i64 0, .int .i64 0, .int .i64 0, .int .i64 0, .int .i64 0, .int .i64 0, .int .i64 0, .int .i64 0, .int .i64 0]) := by kernel_rfl
theorem zt114 : zeroT Try.prog 114 = some (.agg [.int .i64 0, .int .i64 0, .int .i64 0, .int .i64 0, .int .i64 0, .int .i64 0, .int .i64 0]) := by kernel_rfl
theorem zt119 : zeroT Try.prog 119 = some (.agg [.nilfunc]) := by kernel_rfl
theorem zt132 : zeroT Try.prog 132 = some .nilfunc := by kernel_rfl
theorem zt140 : zeroT Try.prog 140 = some (.agg [.int .i64 0, .int .i64 0, .int .i64 0, .int .i64 0, .int .i64 0, .int .i64 0]) := by kernel_rfl
theorem zt146 : zeroT Try.prog 146 = some (.agg [.int .i64 0]) := by kernel_rfl
theorem zt148 : zeroT Try.prog 148 = some (.agg [.int .i64 0, .int .i64 0, .int .i64 0, .int .i64 0]) := by kernel_rfl
end Go.Proofs.Ytmdheijpnlonoaa

namespace Go.Proofs.Ytmdheijpnlonoaa
open Go Go.AbsE
set_option linter.unusedSimpArgs false
set_option maxRecDepth 100000
set_option maxHeartbeats 0
set_option linter.unusedVariables false
theorem flds30 : ∃ fs, Try.prog.underlying 30 = some (.struct fs) ∧ placesT Try.prog fs.toList = some [(0, 1), (1, 1)] := ⟨_, Try.underlying30, by kernel_rfl⟩
theorem flds119 : ∃ fs, Try.prog.underlying 119 = some (.struct fs) ∧ placesT Try.prog fs.toList = some [(0, 1)] := ⟨_, Try.underlying119, by kernel_rfl⟩
def spC (p : Int × Int) : List AVal := [.int .i64 p.1, .int .i64 p.2]
def joinP (a b : Int × Int) : Int × Int := (if b.1 < a.1 then b.1 else a.1, if a.2 < b.2 then b.2 else a.2)
def noSp : Int × Int := (9223372036854775807, -9223372036854775808)
def joinL (l : List (Int × Int)) : Int × Int := l.foldl joinP noSp
theorem inside_ok (n a b : Int) {r : Bool} (hr : decide (a ≤ n ∧ n ≤ b) = r) (h : AH) : Runs Try.prog 66 [.int .i64 n, .int .i64 a, .int .i64 b] h (fun en h' => en = .ret (.bool r) ∧ Ext h h') := by
  refine Runs.intro aFunc66 rfl rfl rfl rfl fun rest => ?_
  refine Go.seq noJ_ok (Go.region noJ_ok rfl ?_)
  refine GoR.op rfl rfl rfl rfl ?_
  refine GoR.end (Go.seq noJ_ok (Go.region noJ_ok rfl ?_))
  cases e1 : decide (a ≤ n) with
  | false =>
    refine GoR.op rfl rfl rfl rfl ?_
    refine GoR.op rfl rfl rfl rfl ?_
    refine GoR.op rfl rfl (aOp_leq rfl rfl e1) rfl ?_
    refine GoR.op rfl rfl rfl rfl ?_
    refine GoR.skip rfl rfl rfl ?_
    refine GoR.skip rfl rfl rfl ?_
    refine GoR.skip rfl rfl rfl ?_
    refine GoR.op rfl rfl rfl rfl ?_
    refine GoR.op rfl rfl rfl rfl ?_
    refine GoR.end (Go.ret noJ_ok (ret_end (aResult_of Try.func66 rfl rfl) ⟨?_, Ext.refl _⟩))
    rw [← hr]
    simp only [decide_eq_true_eq, decide_eq_false_iff_not] at e1
    simp [oneOrTuple]
    try omega
  | true =>
    cases e2 : decide (n ≤ b) with
    | false =>
      refine GoR.op rfl rfl rfl rfl ?_
      refine GoR.op rfl rfl rfl rfl ?_
      refine GoR.op rfl rfl (aOp_leq rfl rfl e1) rfl ?_
      refine GoR.op rfl rfl rfl rfl ?_
      refine GoR.op rfl rfl rfl rfl ?_
      refine GoR.op rfl rfl rfl rfl ?_
      refine GoR.op rfl rfl (aOp_leq rfl rfl e2) rfl ?_
      refine GoR.op rfl rfl rfl rfl ?_
      refine GoR.op rfl rfl rfl rfl ?_
      refine GoR.end (Go.ret noJ_ok (ret_end (aResult_of Try.func66 rfl rfl) ⟨?_, Ext.refl _⟩))
      rw [← hr]
      simp only [decide_eq_true_eq, decide_eq_false_iff_not] at e1 e2
      simp [oneOrTuple]
      try omega
    | true =>
      refine GoR.op rfl rfl rfl rfl ?_
      refine GoR.op rfl rfl rfl rfl ?_
      refine GoR.op rfl rfl (aOp_leq rfl rfl e1) rfl ?_
      refine GoR.op rfl rfl rfl rfl ?_
      refine GoR.op rfl rfl rfl rfl ?_
      refine GoR.op rfl rfl rfl rfl ?_
      refine GoR.op rfl rfl (aOp_leq rfl rfl e2) rfl ?_
      refine GoR.op rfl rfl rfl rfl ?_
      refine GoR.op rfl rfl rfl rfl ?_
      refine GoR.end (Go.ret noJ_ok (ret_end (aResult_of Try.func66 rfl rfl) ⟨?_, Ext.refl _⟩))
      rw [← hr]
      simp only [decide_eq_true_eq, decide_eq_false_iff_not] at e1 e2
      simp [oneOrTuple]
      try omega
theorem one_ok (n : Int) (h : AH) : Runs Try.prog 78 [.int .i64 n] h (fun en h' => en = .ret (.agg (spC (n, n))) ∧ Ext h h') := by
  obtain ⟨fs30, hu30, pl30⟩ := flds30
  refine Runs.intro aFunc78 rfl rfl rfl rfl fun rest => ?_
  refine Go.seq noJ_ok ?_
  refine Go.region noJ_ok rfl ?_
  refine GoR.alloc rfl rfl rfl zt30 rfl rfl fun h0 x0 f0 => ?_
  have e0 := x0
  have := f0.1
  refine GoR.end ?_
  refine Go.seq noJ_ok ?_
  refine Go.region noJ_ok rfl ?_
  iterate 2 refine GoR.op rfl rfl rfl rfl ?_
  refine GoR.op rfl rfl (aOp_build (ps := [(0, .int .i64 n), (1, .int .i64 n)]) (cs := [.int .i64 n, .int .i64 n]) zt30 hu30 pl30 rfl rfl) rfl ?_
  refine GoR.store rfl rfl rfl rfl rfl rfl f0 rfl sz30 rfl rfl rfl fun h1 u1 => ?_
  replace f0 := u1.has f0
  replace e0 := e0.upd u1 (by omega)
  refine GoR.end ?_
  exact Go.ret noJ_ok (ret_end (aResult_of Try.func78 rfl (aResults_cell rfl f0 (inCells_agg ag30 sz30 rfl))) ⟨rfl, e0⟩)
theorem join_ok (L : List (Int × Int)) (s : AVal) (h : AH) (hs : SliceOf h 2 s (L.map spC)) (hL : L.length ≤ 100) : Runs Try.prog 76 [s] h (fun en h' => en = .ret (.agg (spC (joinL L))) ∧ Ext h h') := by
  obtain ⟨fs30, hu30, pl30⟩ := flds30
  have hl := hs.len
  rw [List.length_map] at hl
  refine Runs.intro aFunc76 rfl rfl rfl rfl fun rest => ?_
  refine Go.seq noJ_ok ?_
  refine Go.region noJ_ok rfl ?_
  refine GoR.alloc rfl rfl rfl zt30 rfl rfl fun h0 x0 f0 => ?_
  have e0 := x0
  have := f0.1
  refine GoR.end ?_
  refine Go.seq noJ_ok ?_
  refine Go.region noJ_ok rfl ?_
  refine GoR.op rfl rfl (aOp_build (ps := [(0, .int .i64 9223372036854775807), (1, .int .i64 (-9223372036854775808))]) (cs := [.int .i64 9223372036854775807, .int .i64 (-9223372036854775808)]) zt30 hu30 pl30 rfl rfl) rfl ?_
  refine GoR.alloc rfl rfl rfl zt30 rfl rfl fun h1 x1 f1 => ?_
  have := e0.1
  have := f0.1
  replace f0 := f0.ext x1
  replace e0 := e0.trans x1
  have := f1.1
  refine GoR.store rfl rfl rfl rfl rfl rfl f1 rfl sz30 rfl rfl rfl fun h2 u2 => ?_
  replace f1 := u2.has f1
  replace f0 := f0.upd u2 (by omega)
  replace e0 := e0.upd u2 (by omega)
  refine GoR.end ?_
  iterate 2 refine Go.seq noJ_ok ?_
  refine Go.region noJ_ok rfl ?_
  refine GoR.op rfl rfl rfl rfl ?_
  refine GoR.op rfl rfl (aOp_lenSlice Try.underlying23 rfl hl) rfl ?_
  refine GoR.op rfl rfl rfl rfl ?_
  refine GoR.end ?_
  refine Go.block noJ_ok ?_
  refine Go.loopKeep (fun i : Nat => [(2, .ptr h.next 0), (3, .ptr h0.next 0), (7, s), (8, .int .i64 L.length), (9, .int .i64 (i : Nat))]) (fun n i h' => n + i = L.length ∧ Ext h h' ∧ Has h' h.next (.cells .plain [.int .i64 0, .int .i64 0] 30) ∧ Has h' h0.next (.cells .plain (spC (joinL (L.take i))) 30)) (n := L.length) 0 ⟨rfl, rfl, rfl, rfl, rfl, trivial⟩ ⟨rfl, e0, f0, f1⟩ ?_
  have hlt := f0.1
  clear e0 f0 f1
  rintro n i hc ⟨hn, e0, f0, f1⟩ again
  by_cases hi : i < L.length
  · obtain ⟨p, hp⟩ : ∃ p, L[i]? = some p := ⟨L[i], by simp [hi]⟩
    obtain ⟨b, off, q1, q2⟩ := (hs.ext e0).at (i := i) (l := spC p) (by rw [List.getElem?_map, hp]; rfl)
    have hj : joinL (L.take (i + 1)) = joinP (joinL (L.take i)) p := by rw [List.take_add_one, hp]; simp [joinL]
    rw [List.length_map] at q1
    generalize hw : joinL (L.take i) = w at f1 hj
    refine Go.seq noJ_ok ?_
    refine Go.region noJ_ok rfl ?_
    refine GoR.op rfl rfl (aOp_lss rfl rfl (r := true) (decide_eq_true (by omega))) rfl ?_
    refine GoR.end ?_
    refine Go.seq noJ_ok ?_
    refine Go.cond noJ_ok (b := true) rfl ?_
    refine Go.code noJ_ok ?_
    refine Go.seq noJ_ok ?_
    refine Go.block noJ_ok ?_
    refine Go.seq noJ_ok ?_
    refine Go.region noJ_ok rfl ?_
    refine GoR.op rfl rfl (aOp_indexAddr Try.underlying23 sz30 rfl q1 rfl (by simp; omega)) rfl ?_
    refine GoR.op rfl rfl (aOp_loadE ag30 sz30 rfl q2) rfl ?_
    refine GoR.alloc rfl rfl rfl zt30 rfl rfl fun h3 x3 f3 => ?_
    have := e0.1
    have := f0.1
    have := f1.1
    replace f0 := f0.ext x3
    replace f1 := f1.ext x3
    replace e0 := e0.trans x3
    have := f3.1
    refine GoR.store rfl rfl rfl rfl rfl rfl f3 rfl sz30 rfl rfl rfl fun h4 u4 => ?_
    replace f3 := u4.has f3
    replace f0 := f0.upd u4 (by omega)
    replace f1 := f1.upd u4 (by omega)
    replace e0 := e0.upd u4 (by omega)
    refine GoR.end ?_
    refine Go.region noJ_ok rfl ?_
    refine GoR.op rfl rfl (fa30_0 rfl) rfl ?_
    refine GoR.op rfl rfl (ld3 rfl f1 rfl) rfl ?_
    refine GoR.op rfl rfl (fa30_0 rfl) rfl ?_
    refine GoR.op rfl rfl (ld3 rfl f3 rfl) rfl ?_
    refine GoR.op rfl rfl (aOp_min2 rfl rfl rfl) rfl ?_
    refine GoR.op rfl rfl (fa30_1 rfl) rfl ?_
    refine GoR.op rfl rfl (ld3 rfl f1 rfl) rfl ?_
    refine GoR.op rfl rfl (fa30_1 rfl) rfl ?_
    refine GoR.op rfl rfl (ld3 rfl f3 rfl) rfl ?_
    refine GoR.op rfl rfl (aOp_max2 rfl rfl rfl) rfl ?_
    refine GoR.op rfl rfl (aOp_build (ps := [(0, .int .i64 (joinP w p).1), (1, .int .i64 (joinP w p).2)]) (cs := spC (joinP w p)) zt30 hu30 pl30 rfl rfl) rfl ?_
    refine GoR.store rfl rfl rfl rfl rfl rfl f1 rfl sz30 rfl rfl rfl fun h5 u5 => ?_
    replace f3 := f3.upd u5 (by omega)
    replace f0 := f0.upd u5 (by omega)
    replace f1 := u5.has f1
    replace e0 := e0.upd u5 (by omega)
    refine GoR.end ?_
    refine Go.inBlock noJ_ok ?_
    refine Go.region noJ_ok rfl ?_
    refine GoR.op rfl rfl (aOp_add rfl rfl (by constructor <;> omega) rfl) rfl ?_
    refine GoR.op rfl rfl rfl rfl ?_
    refine GoR.end ?_
    exact again (n - 1) (i + 1) _ _ (by omega) ⟨rfl, rfl, rfl, rfl, rfl, trivial⟩ ⟨by omega, e0, f0, by rw [hj]; exact f1⟩
  · have ht : L.take i = L := List.take_of_length_le (by omega)
    rw [ht] at f1
    refine Go.seq noJ_ok ?_
    refine Go.region noJ_ok rfl ?_
    refine GoR.op rfl rfl (aOp_lss rfl rfl (r := false) (decide_eq_false (by omega))) rfl ?_
    refine GoR.end ?_
    refine Go.seq noJ_ok ?_
    refine Go.cond noJ_ok (b := false) rfl ?_
    refine Go.code noJ_ok ?_
    refine Go.seq noJ_ok ?_
    refine Go.region noJ_ok rfl ?_
    refine GoR.op rfl rfl (ld30 rfl f1 rfl) rfl ?_
    refine GoR.store rfl rfl rfl rfl rfl rfl f0 rfl sz30 rfl rfl rfl fun h3 u3 => ?_
    replace f0 := u3.has f0
    replace f1 := f1.upd u3 (by omega)
    replace e0 := e0.upd u3 (by omega)
    refine GoR.end ?_
    exact Go.ret noJ_ok (ret_end (aResult_of Try.func76 rfl (aResults_cell rfl f0 (inCells_agg ag30 sz30 rfl))) ⟨rfl, e0⟩)
theorem slice_flatMap {f : Int × Int → List AVal} (hf : ∀ p, (f p).length = 2) : ∀ {l : List (Int × Int)} {d : Nat} {p : Int × Int}, l[d]? = some p → slice? (l.flatMap f) (d * 2) 2 = some (f p) := by
  intro l d p h
  have := slice_flatten (sz := 2) (L := l.map f) (fun x hx => by obtain ⟨q, _, rfl⟩ := List.mem_map.1 hx; exact hf q) d (f p) (by rw [List.getElem?_map, h]; rfl)
  rwa [← List.flatMap_def] at this
theorem wet1_ok (k : Int) (fs : List AVal) (hfs : fs.length = 6) (vs : List (Int × Int)) (hvs : vs.length = 6) (hp : Int) (d : Nat) {p : Int × Int} (hd : vs[d]? = some p) (h : AH) {bh bd : Nat} {g1 g2 : Kd} {t1 t2 : TypeId} (hh : Has h bh (.cells g1 [.int .i64 hp] t1)) (hdd : Has h bd (.cells g2 [.int .i64 d] t2)) :
    Runs Try.prog 75 [.agg (.int .i64 k :: fs), .agg (vs.flatMap spC), .ptr bh 0, .ptr bd 0] h (fun en h' => en = .ret (.agg (spC (if k = hp then p else noSp))) ∧ Ext h h') := by
  have := hh.1
  have := hdd.1
  have hd6 : d < 6 := by rw [← hvs]; exact (List.getElem?_eq_some_iff.1 hd).1
  have hsl := slice_flatMap (f := spC) (fun _ => rfl) hd
  by_cases hk : k = hp
  · rw [if_pos hk]
    refine Runs.intro aFunc75 rfl rfl rfl rfl fun rest => ?_
    refine Go.seq noJ_ok ?_
    refine Go.region noJ_ok rfl ?_
    refine GoR.box rfl rfl rfl rfl rfl rfl fun h0 x0 f0 => ?_
    have := hh.1
    have := hdd.1
    replace hh := hh.ext x0
    replace hdd := hdd.ext x0
    have e0 := x0
    have := f0.1
    refine GoR.box rfl rfl rfl rfl rfl rfl fun h1 x1 f1 => ?_
    have := e0.1
    have := f0.1
    have := hh.1
    have := hdd.1
    replace f0 := f0.ext x1
    replace hh := hh.ext x1
    replace hdd := hdd.ext x1
    replace e0 := e0.trans x1
    have := f1.1
    refine GoR.alloc rfl rfl rfl zt30 rfl rfl fun h2 x2 f2 => ?_
    have := e0.1
    have := f1.1
    have := f0.1
    have := hh.1
    have := hdd.1
    replace f1 := f1.ext x2
    replace f0 := f0.ext x2
    replace hh := hh.ext x2
    replace hdd := hdd.ext x2
    replace e0 := e0.trans x2
    have := f2.1
    refine GoR.end ?_
    iterate 2 refine Go.seq noJ_ok ?_
    refine Go.region noJ_ok rfl ?_
    refine GoR.op rfl rfl (fa114_0 rfl) rfl ?_
    refine GoR.op rfl rfl (ld3 rfl f0 rfl) rfl ?_
    refine GoR.op rfl rfl (ld3 rfl hh rfl) rfl ?_
    refine GoR.op rfl rfl (aOp_neq rfl rfl (r := false) (decide_eq_true hk)) rfl ?_
    refine GoR.end ?_
    refine Go.cond noJ_ok (b := false) rfl ?_
    refine Go.code noJ_ok ?_
    refine Go.seq noJ_ok ?_
    refine Go.region noJ_ok rfl ?_
    refine GoR.op rfl rfl (ld3 rfl hdd rfl) rfl ?_
    refine GoR.op rfl rfl (aOp_indexAddrArr Try.underlying111 sz30 rfl rfl (by simp; omega)) rfl ?_
    refine GoR.op rfl rfl (ld30 rfl f1 (by rw [Nat.zero_add]; exact hsl)) rfl ?_
    refine GoR.store rfl rfl rfl rfl rfl rfl f2 rfl sz30 rfl rfl rfl fun h3 u3 => ?_
    replace f2 := u3.has f2
    replace f1 := f1.upd u3 (by omega)
    replace f0 := f0.upd u3 (by omega)
    replace hh := hh.upd u3 (by omega)
    replace hdd := hdd.upd u3 (by omega)
    replace e0 := e0.upd u3 (by omega)
    refine GoR.end ?_
    exact Go.ret noJ_ok (ret_end (aResult_of Try.func75 rfl (aResults_cell rfl f2 (inCells_agg ag30 sz30 rfl))) ⟨rfl, e0⟩)
  · rw [if_neg hk]
    refine Runs.intro aFunc75 rfl rfl rfl rfl fun rest => ?_
    refine Go.seq noJ_ok ?_
    refine Go.region noJ_ok rfl ?_
    refine GoR.box rfl rfl rfl rfl rfl rfl fun h0 x0 f0 => ?_
    have := hh.1
    have := hdd.1
    replace hh := hh.ext x0
    replace hdd := hdd.ext x0
    have e0 := x0
    have := f0.1
    refine GoR.box rfl rfl rfl rfl rfl rfl fun h1 x1 f1 => ?_
    have := e0.1
    have := f0.1
    have := hh.1
    have := hdd.1
    replace f0 := f0.ext x1
    replace hh := hh.ext x1
    replace hdd := hdd.ext x1
    replace e0 := e0.trans x1
    have := f1.1
    refine GoR.alloc rfl rfl rfl zt30 rfl rfl fun h2 x2 f2 => ?_
    have := e0.1
    have := f1.1
    have := f0.1
    have := hh.1
    have := hdd.1
    replace f1 := f1.ext x2
    replace f0 := f0.ext x2
    replace hh := hh.ext x2
    replace hdd := hdd.ext x2
    replace e0 := e0.trans x2
    have := f2.1
    refine GoR.end ?_
    iterate 2 refine Go.seq noJ_ok ?_
    refine Go.region noJ_ok rfl ?_
    refine GoR.op rfl rfl (fa114_0 rfl) rfl ?_
    refine GoR.op rfl rfl (ld3 rfl f0 rfl) rfl ?_
    refine GoR.op rfl rfl (ld3 rfl hh rfl) rfl ?_
    refine GoR.op rfl rfl (aOp_neq rfl rfl (r := true) (decide_eq_false hk)) rfl ?_
    refine GoR.end ?_
    refine Go.cond noJ_ok (b := true) rfl ?_
    refine Go.seq noJ_ok ?_
    refine Go.region noJ_ok rfl ?_
    refine GoR.call rfl rfl (aOp_callFunc aFunc76 rfl) (join_ok [] .nilslice _ .nil (by decide)) ?_ (by rintro _ _ ⟨q, _⟩; cases q)
    rintro _ h3 ⟨q, x3⟩
    cases q
    refine ⟨_, rfl, ?_⟩
    replace f2 := f2.ext x3
    replace f1 := f1.ext x3
    replace f0 := f0.ext x3
    replace hh := hh.ext x3
    replace hdd := hdd.ext x3
    replace e0 := e0.trans x3
    refine GoR.store rfl rfl rfl rfl rfl rfl f2 rfl sz30 rfl rfl rfl fun h4 u4 => ?_
    replace f2 := u4.has f2
    replace f1 := f1.upd u4 (by omega)
    replace f0 := f0.upd u4 (by omega)
    replace hh := hh.upd u4 (by omega)
    replace hdd := hdd.upd u4 (by omega)
    replace e0 := e0.upd u4 (by omega)
    refine GoR.end ?_
    exact Go.ret noJ_ok (ret_end (aResult_of Try.func75 rfl (aResults_cell rfl f2 (inCells_agg ag30 sz30 rfl))) ⟨rfl, e0⟩)
theorem rain1_ok (k : Int) (fs : List AVal) (hfs : fs.length = 6) (vs : List AVal) (hvs : vs.length = 12) (d : Nat) (n : Int) (hd : fs[d]? = some (.int .i64 n)) (h : AH) {bd : Nat} {g2 : Kd} {t2 : TypeId} (hdd : Has h bd (.cells g2 [.int .i64 d] t2)) :
    Runs Try.prog 77 [.agg (.int .i64 k :: fs), .agg vs, .ptr bd 0] h (fun en h' => en = .ret (.agg (spC (n, n))) ∧ Ext h h') := by
  have := hdd.1
  have hd6 : d < 6 := by rw [← hfs]; exact (List.getElem?_eq_some_iff.1 hd).1
  have hld : ∀ x : AVal, (x :: fs)[0 + 1 + d * 1]? = some (.int .i64 n) := fun x => by rw [show 0 + 1 + d * 1 = d + 1 by omega, List.getElem?_cons_succ]; exact hd
  refine Runs.intro aFunc77 rfl rfl rfl rfl fun rest => ?_
  refine Go.seq noJ_ok ?_
  refine Go.region noJ_ok rfl ?_
  refine GoR.box rfl rfl rfl rfl rfl rfl fun h0 x0 f0 => ?_
  have := hdd.1
  replace hdd := hdd.ext x0
  have e0 := x0
  have := f0.1
  refine GoR.box rfl rfl rfl rfl rfl rfl fun h1 x1 f1 => ?_
  have := e0.1
  have := f0.1
  have := hdd.1
  replace f0 := f0.ext x1
  replace hdd := hdd.ext x1
  replace e0 := e0.trans x1
  have := f1.1
  refine GoR.alloc rfl rfl rfl zt30 rfl rfl fun h2 x2 f2 => ?_
  have := e0.1
  have := f1.1
  have := f0.1
  have := hdd.1
  replace f1 := f1.ext x2
  replace f0 := f0.ext x2
  replace hdd := hdd.ext x2
  replace e0 := e0.trans x2
  have := f2.1
  refine GoR.end ?_
  refine Go.seq noJ_ok ?_
  refine Go.region noJ_ok rfl ?_
  refine GoR.op rfl rfl (ld3 rfl hdd rfl) rfl ?_
  refine GoR.op rfl rfl (fa114_1 rfl) rfl ?_
  refine GoR.op rfl rfl (aOp_indexAddrArr Try.underlying102 sz3 rfl rfl (by simp; omega)) rfl ?_
  refine GoR.op rfl rfl (ld3 rfl f0 (hld _)) rfl ?_
  refine GoR.call rfl rfl (aOp_callFunc aFunc78 rfl) (one_ok n _) ?_ (by rintro _ _ ⟨q, _⟩; cases q)
  rintro _ h3 ⟨q, x3⟩
  cases q
  refine ⟨_, rfl, ?_⟩
  replace f2 := f2.ext x3
  replace f1 := f1.ext x3
  replace f0 := f0.ext x3
  replace hdd := hdd.ext x3
  replace e0 := e0.trans x3
  refine GoR.store rfl rfl rfl rfl rfl rfl f2 rfl sz30 rfl rfl rfl fun h4 u4 => ?_
  replace f2 := u4.has f2
  replace f1 := f1.upd u4 (by omega)
  replace f0 := f0.upd u4 (by omega)
  replace hdd := hdd.upd u4 (by omega)
  replace e0 := e0.upd u4 (by omega)
  refine GoR.end ?_
  exact Go.ret noJ_ok (ret_end (aResult_of Try.func77 rfl (aResults_cell rfl f2 (inCells_agg ag30 sz30 rfl))) ⟨rfl, e0⟩)
theorem joinP_comm (a b : Int × Int) : joinP a b = joinP b a := by
  unfold joinP; ext <;> dsimp only <;> repeat' split
  all_goals omega
theorem joinP_right (a b c : Int × Int) : joinP (joinP a b) c = joinP (joinP a c) b := by
  unfold joinP; ext <;> dsimp only <;> repeat' split
  all_goals omega
theorem foldl_perm {l m : List (Int × Int)} (h : l.Perm m) : ∀ a, l.foldl joinP a = m.foldl joinP a := by
  induction h with
  | nil => intro a; rfl
  | cons x _ ih => intro a; exact ih _
  | swap x y l => intro a; simp only [List.foldl_cons, joinP_right a y x]
  | trans _ _ i1 i2 => intro a; rw [i1, i2]
theorem joinL_perm {l m : List (Int × Int)} (h : l.Perm m) : joinL l = joinL m := foldl_perm h _
structure MapIn (h : AH) (bm : Nat) (es : List AMapE) (clock : Nat) : Prop where
  lt : bm < h.next
  m : mapB h bm = some (es, clock)
  born : ∀ en, en ∈ es → en.born < clock
  dist : es.Pairwise fun a b => a.born ≠ b.born
theorem mapB_same {h h' : AH} {b : Nat} (e : h'.get b = h.get b) : mapB h' b = mapB h b := by unfold mapB; rw [e]
theorem MapIn.ext {h h' : AH} {bm clock : Nat} {es : List AMapE} (k : MapIn h bm es clock) (e : Ext h h') : MapIn h' bm es clock := ⟨Nat.lt_of_lt_of_le k.lt e.1, by rw [mapB_same (e.2 _ k.lt)]; exact k.m, k.born, k.dist⟩
def InSp (p : Int × Int) : Prop := p.1 ≤ 9223372036854775807 ∧ -9223372036854775808 ≤ p.2
theorem joinP_in {a b : Int × Int} (ha : InSp a) (hb : InSp b) : InSp (joinP a b) := by
  unfold InSp joinP at *
  constructor <;> dsimp only <;> split <;> omega
theorem foldl_in {l : List (Int × Int)} : ∀ {a}, InSp a → (∀ p, p ∈ l → InSp p) → InSp (l.foldl joinP a) := by
  induction l with
  | nil => intro a h _; exact h
  | cons x l ih => intro a h k; exact ih (joinP_in h (k x (by simp))) fun p hp => k p (by simp [hp])
theorem noSp_in : InSp noSp := by unfold InSp noSp; omega
theorem joinL_in {l : List (Int × Int)} (k : ∀ p, p ∈ l → InSp p) : InSp (joinL l) := foldl_in noSp_in k
theorem joinP_noSp {a : Int × Int} (ha : InSp a) : joinP noSp a = a := by
  unfold InSp at ha
  unfold joinP noSp
  ext <;> dsimp only <;> split <;> omega
theorem joinL_two {a b : Int × Int} (ha : InSp a) : joinL [a, b] = joinP a b := by
  show joinP (joinP noSp a) b = _
  rw [joinP_noSp ha]
theorem sl2 {h : AH} {b : Nat} {a c : Int × Int} {el : TypeId} (f : Has h b (.cells .plain (spC a ++ spC c) el)) : SliceOf h 2 (.slice b 0 2 2) [spC a, spC c] :=
  SliceOf.mk' rfl rfl f rfl (fun i l hl => by
    match i, hl with
    | 0, hl => cases hl; rfl
    | 1, hl => cases hl; rfl)
theorem six {α : Type} {l : List α} (h : l.length = 6) : ∃ a b c d e f, l = [a, b, c, d, e, f] := by
  match l, h with
  | [a, b, c, d, e, f], _ => exact ⟨a, b, c, d, e, f, rfl⟩
def EntryIs (en : AMapE) (k : Int) (fs : List Int) (vs : List (Int × Int)) : Prop :=
  absV en.key = some (.agg (.int .i64 k :: fs.map (.int .i64))) ∧ en.val = .agg (vs.flatMap spC) ∧ fs.length = 6 ∧ vs.length = 6
theorem spread_ok (h : AH) {bm clock : Nat} {es : List AMapE} (M : MapIn h bm es clock) (m : AMapE → Int × Int) (fid : FuncId) (caps : List AVal) (fn : Func) (hfid : aFunc Try.prog fid = some fn)
    (hkv : ∀ en, en ∈ es → ∃ k fs vs, EntryIs en k fs vs) (hm64 : ∀ en, en ∈ es → InSp (m en))
    (hc : ∀ en kv h', en ∈ es → absV en.key = some kv → Ext h h' → Runs Try.prog fid ([kv, en.val] ++ caps) h' (fun e h'' => e = .ret (.agg (spC (m en))) ∧ Ext h' h'')) :
    Runs Try.prog 74 [.map bm, .agg [.func (.func fid) [] caps]] h (fun en h' => en = .ret (.agg (spC (joinL (es.map m)))) ∧ Ext h h') := by
  refine Runs.intro aFunc74 rfl rfl rfl rfl fun rest => ?_
  refine Go.seq noJ_ok ?_
  refine Go.region noJ_ok rfl ?_
  refine GoR.box rfl rfl rfl rfl rfl rfl fun h0 x0 f0 => ?_
  have e0 := x0
  have := f0.1
  refine GoR.alloc rfl rfl rfl zt30 rfl rfl fun h1 x1 f1 => ?_
  have := e0.1
  have := f0.1
  replace f0 := f0.ext x1
  replace e0 := e0.trans x1
  have := f1.1
  refine GoR.end ?_
  refine Go.seq noJ_ok ?_
  refine Go.region noJ_ok rfl ?_
  refine GoR.call rfl rfl (aOp_callFunc aFunc76 rfl) (join_ok [] .nilslice _ .nil (by decide)) ?_ (by rintro _ _ ⟨q, _⟩; cases q)
  rintro _ h2 ⟨q, x2⟩
  cases q
  refine ⟨_, rfl, ?_⟩
  replace f1 := f1.ext x2
  replace f0 := f0.ext x2
  replace e0 := e0.trans x2
  refine GoR.alloc rfl rfl rfl zt30 rfl rfl fun h3 x3 f3 => ?_
  have := e0.1
  have := f1.1
  have := f0.1
  replace f1 := f1.ext x3
  replace f0 := f0.ext x3
  replace e0 := e0.trans x3
  have := f3.1
  refine GoR.store rfl rfl rfl rfl rfl rfl f3 rfl sz30 rfl rfl rfl fun h4 u4 => ?_
  replace f3 := u4.has f3
  replace f1 := f1.upd u4 (by omega)
  replace f0 := f0.upd u4 (by omega)
  replace e0 := e0.upd u4 (by omega)
  refine GoR.end ?_
  iterate 2 refine Go.seq noJ_ok ?_
  refine Go.region noJ_ok rfl ?_
  refine GoR.op rfl rfl rfl rfl ?_
  have hblt := M.lt
  refine GoR.rangeM rfl rfl rfl Try.underlying76 rfl (M.ext e0).m rfl rfl fun h5 x5 f5 => ?_
  have hn4 := e0.1
  have hl0 := f0.1
  have hl1 := f1.1
  have hl3 := f3.1
  replace f0 := f0.ext x5
  replace f1 := f1.ext x5
  replace f3 := f3.ext x5
  replace e0 := e0.trans x5
  refine GoR.end ?_
  refine Go.block noJ_ok ?_
  refine Go.loopKeep (fun _ : List AMapE × List AMapE => [(3, .ptr h.next 0), (4, .ptr h0.next 0), (5, .ptr h2.next 0), (10, .ptr h4.next 0)])
    (fun n vr h' => vr.2.length = n ∧ (vr.1 ++ vr.2).Perm es ∧ Ext h h' ∧ Has h' h.next (.cells .plain [.func (.func fid) [] caps] 119) ∧ Has h' h0.next (.cells .plain [.int .i64 0, .int .i64 0] 30) ∧
      Has h' h2.next (.cells .plain (spC (joinL (vr.1.map m))) 30) ∧ Has h' h4.next (.iter bm clock (vr.1.map AMapE.born) clock)) (n := es.length) ([], es) ⟨rfl, rfl, rfl, rfl, trivial⟩ ⟨rfl, .refl _, e0, f0, f1, f3, f5⟩ ?_
  clear e0 f0 f1 f3 f5
  rintro n ⟨vs, rs⟩ hh ⟨hn, hperm, e0, f0, f1, f3, f5⟩ again
  dsimp only at hn hperm f3 f5
  have hdist : (vs ++ rs).Pairwise fun a b => a.born ≠ b.born := (hperm.symm.pairwise_iff (fun h => h.symm)).1 M.dist
  refine Go.seq noJ_ok ?_
  refine Go.beginR rfl (Go.nextM rfl rfl f5 (M.ext e0).m M.born M.born (fun en hen => by obtain ⟨k, fs, ws, q, _⟩ := hkv en hen; exact ⟨_, q⟩) (fun hall => Go.inRegion noJ_ok ?_) (fun en kv hen hnew hk h6 u6 => Go.inRegion noJ_ok ?_))
  · have hrs : rs = [] := by
      cases rs with
      | nil => rfl
      | cons x rs =>
        exfalso
        have hx : x ∈ es := hperm.mem_iff.1 (by simp)
        obtain ⟨y, hy, hyb⟩ := List.mem_map.1 (hall x hx)
        rw [List.pairwise_append] at hdist
        exact hdist.2.2 y hy x (by simp) hyb
    subst hrs
    rw [List.append_nil] at hperm
    have hj : joinL (vs.map m) = joinL (es.map m) := joinL_perm (hperm.map m)
    rw [hj] at f3
    refine GoR.op rfl rfl rfl rfl ?_
    refine GoR.end ?_
    refine Go.seq noJ_ok ?_
    refine Go.cond noJ_ok (b := false) rfl ?_
    refine Go.code noJ_ok ?_
    refine Go.seq noJ_ok ?_
    refine Go.region noJ_ok rfl ?_
    refine GoR.op rfl rfl (ld30 rfl f3 rfl) rfl ?_
    refine GoR.store rfl rfl rfl rfl rfl rfl f1 rfl sz30 rfl rfl rfl fun h6 u6 => ?_
    replace f0 := f0.upd u6 (by omega)
    replace f1 := u6.has f1
    replace f3 := f3.upd u6 (by omega)
    replace f5 := f5.upd u6 (by omega)
    replace e0 := e0.upd u6 (by omega)
    refine GoR.end ?_
    exact Go.ret noJ_ok (ret_end (aResult_of Try.func74 rfl (aResults_cell rfl f1 (inCells_agg ag30 sz30 rfl))) ⟨rfl, e0⟩)
  · have hmem : en ∈ rs := by
      rcases List.mem_append.1 (hperm.mem_iff.2 hen) with q | q
      · exact absurd (List.mem_map.2 ⟨en, q, rfl⟩) hnew
      · exact q
    obtain ⟨ra, rb, rfl⟩ := List.append_of_mem hmem
    have hj : joinL ((vs ++ [en]).map m) = joinP (joinL (vs.map m)) (m en) := by simp [joinL]
    have hj2 : joinL [joinL (vs.map m), m en] = joinL ((vs ++ [en]).map m) := by
      rw [hj]
      refine joinL_two (joinL_in fun p hp => ?_)
      obtain ⟨x, hx, rfl⟩ := List.mem_map.1 hp
      exact hm64 x (hperm.mem_iff.1 (by simp [hx]))
    obtain ⟨k, fs, ws, hE1, hE2, hE3, hE4⟩ := hkv en hen
    have hc' := fun h' => hc en kv h' hen hk
    replace f5 := u6.has f5
    replace f0 := f0.upd u6 (by omega)
    replace f1 := f1.upd u6 (by omega)
    replace f3 := f3.upd u6 (by omega)
    replace e0 := e0.upd u6 (by omega)
    have hMe := (M.ext e0).m
    rw [hk] at hE1
    cases hE1
    rw [hE2] at hc'
    obtain ⟨a1, a2, a3, a4, a5, a6, rfl⟩ := six hE3
    obtain ⟨b1, b2, b3, b4, b5, b6, rfl⟩ := six hE4
    refine GoR.op rfl rfl rfl rfl ?_
    refine GoR.end ?_
    refine Go.seq noJ_ok ?_
    refine Go.cond noJ_ok (b := true) rfl ?_
    refine Go.code noJ_ok ?_
    refine Go.block noJ_ok ?_
    refine Go.seq noJ_ok ?_
    refine Go.region noJ_ok rfl ?_
    refine GoR.op rfl rfl ((aOp_entry rfl f5 hMe hen M.dist hk).trans (by rw [hE2])) rfl ?_
    iterate 2 refine GoR.op rfl rfl rfl rfl ?_
    refine GoR.alloc rfl rfl rfl zt114 rfl rfl fun h7 x7 f7 => ?_
    have := e0.1
    have := f5.1
    have := f0.1
    have := f1.1
    have := f3.1
    replace f5 := f5.ext x7
    replace f0 := f0.ext x7
    replace f1 := f1.ext x7
    replace f3 := f3.ext x7
    replace e0 := e0.trans x7
    have := f7.1
    refine GoR.alloc rfl rfl rfl zt111 rfl rfl fun h8 x8 f8 => ?_
    have := e0.1
    have := f7.1
    have := f5.1
    have := f0.1
    have := f1.1
    have := f3.1
    replace f7 := f7.ext x8
    replace f5 := f5.ext x8
    replace f0 := f0.ext x8
    replace f1 := f1.ext x8
    replace f3 := f3.ext x8
    replace e0 := e0.trans x8
    have := f8.1
    refine GoR.store rfl rfl rfl rfl rfl rfl f7 rfl sz114 rfl rfl rfl fun h9 u9 => ?_
    replace f8 := f8.upd u9 (by omega)
    replace f7 := u9.has f7
    replace f5 := f5.upd u9 (by omega)
    replace f0 := f0.upd u9 (by omega)
    replace f1 := f1.upd u9 (by omega)
    replace f3 := f3.upd u9 (by omega)
    replace e0 := e0.upd u9 (by omega)
    refine GoR.store rfl rfl rfl rfl rfl rfl f8 rfl sz111 rfl rfl rfl fun h10 u10 => ?_
    replace f8 := u10.has f8
    replace f7 := f7.upd u10 (by omega)
    replace f5 := f5.upd u10 (by omega)
    replace f0 := f0.upd u10 (by omega)
    replace f1 := f1.upd u10 (by omega)
    replace f3 := f3.upd u10 (by omega)
    replace e0 := e0.upd u10 (by omega)
    refine GoR.end ?_
    refine Go.drawnE plan74_0 ?_
    refine GoE.quiet rfl rfl (ld30 rfl f3 rfl) rfl ?_
    refine GoE.quiet rfl rfl (fa119_0 rfl) rfl ?_
    refine GoE.quiet rfl rfl (ld117 rfl f0 rfl) rfl ?_
    refine GoE.quiet rfl rfl (ld114 rfl f7 rfl) rfl ?_
    refine GoE.quiet rfl rfl (ld111 rfl f8 rfl) rfl ?_
    refine GoE.call rfl rfl (aOp_callVal rfl hfid rfl) (hc' _ e0) (dropF_drop (show bit? 30 4 = true from rfl) (dropF_drop (show bit? 30 3 = true from rfl) (dropF_drop (show bit? 30 2 = true from rfl) (dropF_drop (show bit? 30 1 = true from rfl) (dropF_keep (show bit? 30 0 = false from rfl) rfl))))) ?_ (by rintro _ _ ⟨q, _⟩; cases q)
    rintro _ h11 ⟨q, x11⟩
    cases q
    replace f8 := f8.ext x11
    replace f7 := f7.ext x11
    replace f5 := f5.ext x11
    replace f0 := f0.ext x11
    replace f1 := f1.ext x11
    replace f3 := f3.ext x11
    replace e0 := e0.trans x11
    refine ⟨(recheck_cons (h2 := h11) rfl (ld30 rfl f3 rfl) (by first | rfl | exact sameA_int _ _ | exact sameA_bool _ | exact sameA_agg2 _ _ | assumption | (simp [sameA, sameAs, eqI_eq]; done)) recheck_nil), _, rfl, ?_⟩
    refine GoE.buildSl rfl rfl (ps := [(0, .agg (spC (joinL (vs.map m)))), (1, .agg (spC (m en)))]) (cs := spC (joinL (vs.map m)) ++ spC (m en)) Try.underlying23 rfl sz30 zt30 rfl rfl rfl (dropF_drop (show bit? 63 0 = true from rfl) rfl) rfl fun h12 x12 f12 => ?_
    have := e0.1
    have := f8.1
    have := f7.1
    have := f5.1
    have := f0.1
    have := f1.1
    have := f3.1
    replace f8 := f8.ext x12
    replace f7 := f7.ext x12
    replace f5 := f5.ext x12
    replace f0 := f0.ext x12
    replace f1 := f1.ext x12
    replace f3 := f3.ext x12
    replace e0 := e0.trans x12
    have := f12.1
    refine ⟨recheck_nil, ?_⟩
    refine GoE.call rfl rfl (aOp_callFunc aFunc76 rfl) (join_ok [joinL (vs.map m), m en] _ _ (sl2 (by assumption)) (by simp)) rfl ?_ (by rintro _ _ ⟨q, _⟩; cases q)
    rintro _ h13 ⟨q, x13⟩
    cases q
    replace f12 := f12.ext x13
    replace f8 := f8.ext x13
    replace f7 := f7.ext x13
    replace f5 := f5.ext x13
    replace f0 := f0.ext x13
    replace f1 := f1.ext x13
    replace f3 := f3.ext x13
    replace e0 := e0.trans x13
    refine ⟨recheck_nil, _, rfl, ?_⟩
    refine GoE.store rfl rfl rfl rfl rfl rfl rfl f3 rfl sz30 rfl rfl rfl fun h14 u14 => ?_
    replace f12 := f12.upd u14 (by omega)
    replace f8 := f8.upd u14 (by omega)
    replace f7 := f7.upd u14 (by omega)
    replace f5 := f5.upd u14 (by omega)
    replace f0 := f0.upd u14 (by omega)
    replace f1 := f1.upd u14 (by omega)
    replace f3 := u14.has f3
    replace e0 := e0.upd u14 (by omega)
    refine ⟨recheck_nil, ?_⟩
    refine GoE.end rfl ?_
    refine Go.inBlock noJ_ok ?_
    rw [hj2] at f3
    exact again (n - 1) (vs ++ [en], ra ++ rb) _ _ (by simp at hn; omega) ⟨rfl, rfl, rfl, rfl, trivial⟩ ⟨by simp at hn ⊢; omega, (by
      refine List.Perm.trans ?_ hperm
      simp only [List.append_assoc, List.singleton_append]
      exact List.Perm.append_left _ List.perm_middle.symm), e0, f0, f1, f3, by simpa using f5⟩
noncomputable def wetM (f : AMapE → Int × List Int × List (Int × Int)) (hp : Int) (d : Nat) (en : AMapE) : Int × Int := if (f en).1 = hp then ((f en).2.2[d]?).getD noSp else noSp
noncomputable def rainM (f : AMapE → Int × List Int × List (Int × Int)) (d : Nat) (en : AMapE) : Int × Int := (((f en).2.1[d]?).getD 0, ((f en).2.1[d]?).getD 0)
def I64 (n : Int) : Prop := -9223372036854775808 ≤ n ∧ n ≤ 9223372036854775807
structure Known (h : AH) (bm : Nat) (es : List AMapE) (clock : Nat) (f : AMapE → Int × List Int × List (Int × Int)) : Prop where
  M : MapIn h bm es clock
  E : ∀ en, en ∈ es → EntryIs en (f en).1 (f en).2.1 (f en).2.2
  R : ∀ en, en ∈ es → ∀ n, n ∈ (f en).2.1 → I64 n
  S : ∀ en, en ∈ es → ∀ p, p ∈ (f en).2.2 → InSp p
theorem wet_ok {h : AH} {bm clock : Nat} {es : List AMapE} {f : AMapE → Int × List Int × List (Int × Int)} (K : Known h bm es clock f) (hp : Int) (d : Nat) (hd : d < 6) :
    Runs Try.prog 39 [.map bm, .int .i64 hp, .int .i64 d] h (fun en h' => en = .ret (.agg (spC (joinL (es.map (wetM f hp d))))) ∧ Ext h h') := by
  have hb := K.M.lt
  obtain ⟨fs119, hu119, pl119⟩ := flds119
  have hin : ∀ en, en ∈ es → InSp (wetM f hp d en) := by
    intro en hen
    unfold wetM
    split
    · cases q : (f en).2.2[d]? with
      | none => exact noSp_in
      | some p => exact K.S en hen p (List.mem_of_getElem? q)
    · exact noSp_in
  refine Runs.intro aFunc39 rfl rfl rfl rfl fun rest => ?_
  refine Go.seq noJ_ok ?_
  refine Go.region noJ_ok rfl ?_
  refine GoR.box rfl rfl rfl rfl rfl rfl fun h0 x0 f0 => ?_
  have e0 := x0
  have := f0.1
  refine GoR.box rfl rfl rfl rfl rfl rfl fun h1 x1 f1 => ?_
  have := e0.1
  have := f0.1
  replace f0 := f0.ext x1
  replace e0 := e0.trans x1
  have := f1.1
  refine GoR.alloc rfl rfl rfl zt30 rfl rfl fun h2 x2 f2 => ?_
  have := e0.1
  have := f1.1
  have := f0.1
  replace f1 := f1.ext x2
  replace f0 := f0.ext x2
  replace e0 := e0.trans x2
  have := f2.1
  refine GoR.end ?_
  refine Go.seq noJ_ok ?_
  refine Go.region noJ_ok rfl ?_
  iterate 2 refine GoR.op rfl rfl rfl rfl ?_
  refine GoR.op rfl rfl (aOp_build (ps := [(0, .func (.func 75) [] [.ptr h.next 0, .ptr h0.next 0])]) (cs := [.func (.func 75) [] [.ptr h.next 0, .ptr h0.next 0]]) zt119 hu119 pl119 rfl rfl) rfl ?_
  refine GoR.call rfl rfl (aOp_callFunc aFunc74 rfl) (spread_ok _ (K.M.ext e0) (wetM f hp d) 75 [.ptr h.next 0, .ptr h0.next 0] _ aFunc75 (fun en hen => ⟨_, _, _, K.E en hen⟩) hin (fun en kv h' hen hk ex => ?_)) ?_ (by rintro _ _ ⟨q, _⟩; cases q)
  · obtain ⟨E1, E2, E3, E4⟩ := K.E en hen
    rw [hk] at E1
    cases E1
    rw [E2]
    have hget : (f en).2.2[d]? = some ((f en).2.2[d]'(by omega)) := by simp
    have := wet1_ok (f en).1 ((f en).2.1.map (.int .i64)) (by simpa using E3) (f en).2.2 E4 hp d hget h' (f0.ext ex) (f1.ext ex)
    unfold wetM
    rw [hget]
    exact this
  · rintro _ h9 ⟨q, x9⟩
    cases q
    refine ⟨_, rfl, ?_⟩
    replace f0 := f0.ext x9
    replace f1 := f1.ext x9
    replace f2 := f2.ext x9
    replace e0 := e0.trans x9
    refine GoR.store rfl rfl rfl rfl rfl rfl f2 rfl sz30 rfl rfl rfl fun h10 u10 => ?_
    replace f0 := f0.upd u10 (by omega)
    replace f1 := f1.upd u10 (by omega)
    replace f2 := u10.has f2
    replace e0 := e0.upd u10 (by omega)
    refine GoR.end ?_
    exact Go.ret noJ_ok (ret_end (aResult_of Try.func39 rfl (aResults_cell rfl f2 (inCells_agg ag30 sz30 rfl))) ⟨rfl, e0⟩)
theorem rain_ok {h : AH} {bm clock : Nat} {es : List AMapE} {f : AMapE → Int × List Int × List (Int × Int)} (K : Known h bm es clock f) (d : Nat) (hd : d < 6) :
    Runs Try.prog 41 [.map bm, .int .i64 d] h (fun en h' => en = .ret (.agg (spC (joinL (es.map (rainM f d))))) ∧ Ext h h') := by
  have hb := K.M.lt
  obtain ⟨fs119, hu119, pl119⟩ := flds119
  have hget : ∀ en, en ∈ es → (f en).2.1[d]? = some ((f en).2.1[d]?.getD 0) := fun en hen => by
    obtain ⟨E1, E2, E3, E4⟩ := K.E en hen
    have : (f en).2.1[d]? = some ((f en).2.1[d]'(by omega)) := by simp
    rw [this]
    rfl
  have hin : ∀ en, en ∈ es → InSp (rainM f d en) := by
    intro en hen
    have := K.R en hen _ (List.mem_of_getElem? (hget en hen))
    exact ⟨this.2, this.1⟩
  refine Runs.intro aFunc41 rfl rfl rfl rfl fun rest => ?_
  refine Go.seq noJ_ok ?_
  refine Go.region noJ_ok rfl ?_
  refine GoR.box rfl rfl rfl rfl rfl rfl fun h0 x0 f0 => ?_
  have e0 := x0
  have := f0.1
  refine GoR.alloc rfl rfl rfl zt30 rfl rfl fun h1 x1 f1 => ?_
  have := e0.1
  have := f0.1
  replace f0 := f0.ext x1
  replace e0 := e0.trans x1
  have := f1.1
  refine GoR.end ?_
  refine Go.seq noJ_ok ?_
  refine Go.region noJ_ok rfl ?_
  iterate 2 refine GoR.op rfl rfl rfl rfl ?_
  refine GoR.op rfl rfl (aOp_build (ps := [(0, .func (.func 77) [] [.ptr h.next 0])]) (cs := [.func (.func 77) [] [.ptr h.next 0]]) zt119 hu119 pl119 rfl rfl) rfl ?_
  refine GoR.call rfl rfl (aOp_callFunc aFunc74 rfl) (spread_ok _ (K.M.ext e0) (rainM f d) 77 [.ptr h.next 0] _ aFunc77 (fun en hen => ⟨_, _, _, K.E en hen⟩) hin (fun en kv h' hen hk ex => ?_)) ?_ (by rintro _ _ ⟨q, _⟩; cases q)
  · obtain ⟨E1, E2, E3, E4⟩ := K.E en hen
    rw [hk] at E1
    cases E1
    rw [E2]
    refine rain1_ok (f en).1 ((f en).2.1.map (.int .i64)) (by simpa using E3) ((f en).2.2.flatMap spC) ?_ d ((f en).2.1[d]?.getD 0) ?_ h' (f0.ext ex)
    · obtain ⟨b1, b2, b3, b4, b5, b6, q⟩ := six E4
      rw [q]
      rfl
    · rw [List.getElem?_map, hget en hen]
      rfl
  · rintro _ h9 ⟨q, x9⟩
    cases q
    refine ⟨_, rfl, ?_⟩
    replace f0 := f0.ext x9
    replace f1 := f1.ext x9
    replace e0 := e0.trans x9
    refine GoR.store rfl rfl rfl rfl rfl rfl f1 rfl sz30 rfl rfl rfl fun h10 u10 => ?_
    replace f0 := f0.upd u10 (by omega)
    replace f1 := u10.has f1
    replace e0 := e0.upd u10 (by omega)
    refine GoR.end ?_
    exact Go.ret noJ_ok (ret_end (aResult_of Try.func41 rfl (aResults_cell rfl f1 (inCells_agg ag30 sz30 rfl))) ⟨rfl, e0⟩)
end Go.Proofs.Ytmdheijpnlonoaa

namespace Go.Proofs.Ytmdheijpnlonoaa
open Go Go.AbsE
set_option linter.unusedSimpArgs false
set_option maxRecDepth 100000
set_option maxHeartbeats 0
set_option linter.unusedVariables false
theorem flds146 : ∃ fs, Try.prog.underlying 146 = some (.struct fs) ∧ placesT Try.prog fs.toList = some [(0, 1)] := ⟨_, Try.underlying146, by kernel_rfl⟩
theorem flds148 : ∃ fs, Try.prog.underlying 148 = some (.struct fs) ∧ placesT Try.prog fs.toList = some [(0, 1), (1, 3)] := ⟨_, Try.underlying148, by kernel_rfl⟩
def holdV (n : Int) : Int := if 100 < (if n < 0 then 0 else n) then 100 else (if n < 0 then 0 else n)
theorem holdV_in (n : Int) : 0 ≤ holdV n ∧ holdV n ≤ 100 := by
  unfold holdV
  refine ⟨?_, ?_⟩ <;> split <;> split <;> omega
theorem hold_ok (r n : Int) (h : AH) : Runs Try.prog 123 [.agg [.int .i64 r], .int .i64 n] h (fun en h' => en = .ret (.int .i64 (holdV n)) ∧ Ext h h') := by
  refine Runs.intro aFunc123 rfl rfl rfl rfl fun rest => ?_
  refine Go.seq noJ_ok ?_
  refine Go.region noJ_ok rfl ?_
  refine GoR.box rfl rfl rfl rfl rfl rfl fun h0 x0 f0 => ?_
  have e0 := x0
  have := f0.1
  refine GoR.op rfl rfl rfl rfl ?_
  refine GoR.end ?_
  refine Go.seq noJ_ok ?_
  refine Go.region noJ_ok rfl ?_
  refine GoR.op rfl rfl rfl rfl ?_
  refine GoR.op rfl rfl (aOp_max2 rfl rfl rfl) rfl ?_
  refine GoR.op rfl rfl (aOp_min2 rfl rfl rfl) rfl ?_
  refine GoR.op rfl rfl rfl rfl ?_
  refine GoR.end ?_
  exact Go.ret noJ_ok (ret_end (aResult_of Try.func123 rfl rfl) ⟨rfl, e0⟩)
theorem evR_ok (r p n : Int) (hr : 0 ≤ r ∧ r ≤ 10) (hn : 0 ≤ n ∧ n ≤ 100) (h : AH) : Runs Try.prog 122 [.agg [.int .i64 r], .int .i64 p, .int .i64 n] h (fun en h' => en = .ret (.int .i64 (holdV (n + r))) ∧ Ext h h') := by
  refine Runs.intro aFunc122 rfl rfl rfl rfl fun rest => ?_
  refine Go.seq noJ_ok ?_
  refine Go.region noJ_ok rfl ?_
  refine GoR.box rfl rfl rfl rfl rfl rfl fun h0 x0 f0 => ?_
  have e0 := x0
  have := f0.1
  refine GoR.op rfl rfl rfl rfl ?_
  refine GoR.end ?_
  refine Go.seq noJ_ok ?_
  refine Go.region noJ_ok rfl ?_
  refine GoR.op rfl rfl (ld146 rfl f0 rfl) rfl ?_
  refine GoR.op rfl rfl rfl rfl ?_
  refine GoR.op rfl rfl (fa146_0 rfl) rfl ?_
  refine GoR.op rfl rfl (ld3 rfl f0 rfl) rfl ?_
  refine GoR.op rfl rfl (aOp_add rfl rfl (by constructor <;> omega) rfl) rfl ?_
  refine GoR.call rfl rfl (aOp_callFunc aFunc123 rfl) (hold_ok r (n + r) _) ?_ (by rintro _ _ ⟨q, _⟩; cases q)
  rintro _ h1 ⟨q, x1⟩
  cases q
  refine ⟨_, rfl, ?_⟩
  replace f0 := f0.ext x1
  replace e0 := e0.trans x1
  refine GoR.op rfl rfl rfl rfl ?_
  refine GoR.end ?_
  exact Go.ret noJ_ok (ret_end (aResult_of Try.func122 rfl rfl) ⟨rfl, e0⟩)
theorem evF_ok (z a b c : Int) (p : Nat) {d : Int} (hp : p < 3) (hd : [a, b, c][p]? = some d) (n : Int) (hd0 : 0 ≤ d ∧ d ≤ 20) (hn : 0 ≤ n ∧ n ≤ 100) (h : AH) :
    Runs Try.prog 124 [.agg [.int .i64 z, .int .i64 a, .int .i64 b, .int .i64 c], .int .i64 p, .int .i64 n] h (fun en h' => en = .ret (.int .i64 (holdV (n - d))) ∧ Ext h h') := by
  have hld : [AVal.int .i64 z, .int .i64 a, .int .i64 b, .int .i64 c][0 + 1 + p * 1]? = some (.int .i64 d) := by
    match p, hp, hd with
    | 0, _, hd => cases hd; rfl
    | 1, _, hd => cases hd; rfl
    | 2, _, hd => cases hd; rfl
  refine Runs.intro aFunc124 rfl rfl rfl rfl fun rest => ?_
  refine Go.seq noJ_ok ?_
  refine Go.region noJ_ok rfl ?_
  refine GoR.box rfl rfl rfl rfl rfl rfl fun h0 x0 f0 => ?_
  have e0 := x0
  have := f0.1
  refine GoR.op rfl rfl rfl rfl ?_
  refine GoR.end ?_
  refine Go.seq noJ_ok ?_
  refine Go.drawnE plan124_0 ?_
  refine GoE.quiet rfl rfl (fa148_0 rfl) rfl ?_
  refine GoE.quiet rfl rfl (ld146 rfl f0 rfl) rfl ?_
  iterate 2 refine GoE.quiet rfl rfl rfl rfl ?_
  refine GoE.quiet rfl rfl (fa148_1 rfl) rfl ?_
  refine GoE.quiet rfl rfl (aOp_indexAddrArr Try.underlying24 sz3 rfl rfl (Nat.ble_eq_true_of_le hp)) rfl ?_
  refine GoE.quiet rfl rfl (ld3 rfl f0 hld) rfl ?_
  refine GoE.quiet rfl rfl (aOp_sub rfl rfl (by constructor <;> omega) rfl) rfl ?_
  refine GoE.call rfl rfl (aOp_callFunc aFunc123 rfl) (hold_ok z (n - d) _) (dropF_drop (show bit? 255 7 = true from rfl) (dropF_drop (show bit? 255 6 = true from rfl) (dropF_drop (show bit? 255 5 = true from rfl) (dropF_drop (show bit? 255 4 = true from rfl) (dropF_drop (show bit? 255 3 = true from rfl) (dropF_drop (show bit? 255 2 = true from rfl) (dropF_drop (show bit? 255 1 = true from rfl) (dropF_drop (show bit? 255 0 = true from rfl) rfl)))))))) ?_ (by rintro _ _ ⟨q, _⟩; cases q)
  rintro _ h1 ⟨q, x1⟩
  cases q
  replace f0 := f0.ext x1
  replace e0 := e0.trans x1
  refine ⟨recheck_nil, _, rfl, ?_⟩
  refine GoE.quiet rfl rfl rfl rfl ?_
  refine GoE.end rfl ?_
  exact Go.ret noJ_ok (ret_end (aResult_of Try.func124 rfl rfl) ⟨rfl, e0⟩)
def wV (a b c : Int) (r : Int) : AVal := if 0 < r then .iface 146 (.agg [.int .i64 r]) else .iface 148 (.agg [.int .i64 0, .int .i64 a, .int .i64 b, .int .i64 c])
theorem wV_cells (a b c r : Int) : (wV a b c r).cells = [wV a b c r] := by unfold wV; split <;> rfl
theorem weather_ok (hs rs ls : AVal) (a b c lim r : Int) (h : AH) : Runs Try.prog 94 [.agg [hs, rs, .int .i64 a, .int .i64 b, .int .i64 c, .int .i64 lim, ls], .int .i64 r] h (fun en h' => en = .ret (wV a b c r) ∧ Ext h h') := by
  obtain ⟨fs146, hu146, pl146⟩ := flds146
  obtain ⟨fs148, hu148, pl148⟩ := flds148
  by_cases hr : 0 < r
  · unfold wV
    rw [if_pos hr]
    refine Runs.intro aFunc94 rfl rfl rfl rfl fun rest => ?_
    refine Go.seq noJ_ok ?_
    refine Go.region noJ_ok rfl ?_
    refine GoR.box rfl rfl rfl rfl rfl rfl fun h0 x0 f0 => ?_
    have e0 := x0
    have := f0.1
    refine GoR.op rfl rfl rfl rfl ?_
    refine GoR.end ?_
    iterate 2 refine Go.seq noJ_ok ?_
    refine Go.region noJ_ok rfl ?_
    refine GoR.op rfl rfl rfl rfl ?_
    refine GoR.op rfl rfl (aOp_gtr rfl rfl (r := true) (decide_eq_true (by omega))) rfl ?_
    refine GoR.end ?_
    refine Go.cond noJ_ok (b := true) rfl ?_
    refine Go.seq noJ_ok ?_
    refine Go.region noJ_ok rfl ?_
    refine GoR.op rfl rfl rfl rfl ?_
    refine GoR.op rfl rfl (aOp_build (ps := [(0, .int .i64 r)]) (cs := [.int .i64 r]) zt146 hu146 pl146 rfl rfl) rfl ?_
    iterate 2 refine GoR.op rfl rfl rfl rfl ?_
    refine GoR.end ?_
    exact Go.ret noJ_ok (ret_end (aResult_of Try.func94 rfl rfl) ⟨rfl, e0⟩)
  · unfold wV
    rw [if_neg hr]
    refine Runs.intro aFunc94 rfl rfl rfl rfl fun rest => ?_
    refine Go.seq noJ_ok ?_
    refine Go.region noJ_ok rfl ?_
    refine GoR.box rfl rfl rfl rfl rfl rfl fun h0 x0 f0 => ?_
    have e0 := x0
    have := f0.1
    refine GoR.op rfl rfl rfl rfl ?_
    refine GoR.end ?_
    iterate 2 refine Go.seq noJ_ok ?_
    refine Go.region noJ_ok rfl ?_
    refine GoR.op rfl rfl rfl rfl ?_
    refine GoR.op rfl rfl (aOp_gtr rfl rfl (r := false) (decide_eq_false (by omega))) rfl ?_
    refine GoR.end ?_
    refine Go.cond noJ_ok (b := false) rfl ?_
    refine Go.code noJ_ok ?_
    refine Go.seq noJ_ok ?_
    refine Go.region noJ_ok rfl ?_
    refine GoR.op rfl rfl (fa74_2 rfl) rfl ?_
    refine GoR.op rfl rfl (ld24 rfl f0 rfl) rfl ?_
    refine GoR.op rfl rfl (aOp_build (ps := [(1, .agg [.int .i64 a, .int .i64 b, .int .i64 c])]) (cs := [.int .i64 0, .int .i64 a, .int .i64 b, .int .i64 c]) zt148 hu148 pl148 rfl rfl) rfl ?_
    iterate 2 refine GoR.op rfl rfl rfl rfl ?_
    refine GoR.end ?_
    exact Go.ret noJ_ok (ret_end (aResult_of Try.func94 rfl rfl) ⟨rfl, e0⟩)
theorem by134 : bytesT Try.prog 134 = some 16 := by kernel_rfl
theorem zt134 : zeroT Try.prog 134 = some .nilIface := by kernel_rfl
theorem repl_nil : ∀ n : Nat, repl (AVal.nilIface).cells n = List.replicate n .nilIface
  | 0 => rfl
  | n + 1 => by rw [List.replicate_succ, ← repl_nil n]; rfl
theorem days_ok (hs rs ls : AVal) (a b c lim : Int) (n : Nat) (hn : n ≤ 6) (hl : lenA rs = some n) (fell : List Int) (hf : fell.length = 6) (h : AH) :
    Runs Try.prog 69 [.agg [hs, rs, .int .i64 a, .int .i64 b, .int .i64 c, .int .i64 lim, ls], .agg (fell.map (.int .i64))] h
      (fun en h' => ∃ bb, en = .ret (.slice bb 0 n n) ∧ Ext h h' ∧ h.next ≤ bb ∧ Has h' bb (.cells .plain ((fell.take n).map (wV a b c)) 134)) := by
  obtain ⟨a1, a2, a3, a4, a5, a6, hff⟩ : ∃ a b c d e f, fell = [a, b, c, d, e, f] := six hf
  subst hff
  refine Runs.intro aFunc69 rfl rfl rfl rfl fun rest => ?_
  refine Go.seq noJ_ok ?_
  refine Go.region noJ_ok rfl ?_
  refine GoR.box rfl rfl rfl rfl rfl rfl fun h0 x0 f0 => ?_
  have e0 := x0
  have := f0.1
  refine GoR.box rfl rfl rfl rfl rfl rfl fun h1 x1 f1 => ?_
  have := e0.1
  have := f0.1
  replace f0 := f0.ext x1
  replace e0 := e0.trans x1
  have := f1.1
  refine GoR.op rfl rfl rfl rfl ?_
  refine GoR.end ?_
  refine Go.seq noJ_ok ?_
  refine Go.region noJ_ok rfl ?_
  refine GoR.op rfl rfl (fa74_1 rfl) rfl ?_
  refine GoR.op rfl rfl (ld23 rfl f0 rfl) rfl ?_
  refine GoR.op rfl rfl (aOp_lenSlice Try.underlying23 rfl hl) rfl ?_
  refine GoR.makeSl rfl rfl rfl Try.underlying103 rfl rfl sz134 by134 zt134 rfl (Nat.ble_eq_true_of_le (by omega)) rfl rfl fun h8 x8 f8 => ?_
  rw [repl_nil] at f8
  have hb1 := e0.1
  have hb2 := f0.1
  have hb3 := f1.1
  have hx := x8.1
  have hb8 := f8.1
  replace f0 := f0.ext x8
  replace f1 := f1.ext x8
  replace e0 := e0.trans x8
  refine GoR.op rfl rfl rfl rfl ?_
  refine GoR.end ?_
  iterate 2 refine Go.seq noJ_ok ?_
  refine Go.region noJ_ok rfl ?_
  iterate 3 refine GoR.op rfl rfl rfl rfl ?_
  refine GoR.end ?_
  refine Go.block noJ_ok ?_
  refine Go.loopKeep (fun i : Nat => [(2, .ptr h.next 0), (3, .ptr h0.next 0), (5, .slice h1.next 0 n n), (12, .int .i64 n), (13, .int .i64 (i : Nat))])
    (fun m i h' => m + i = n ∧ Ext h h' ∧ Has h' h.next (.cells .plain [hs, rs, .int .i64 a, .int .i64 b, .int .i64 c, .int .i64 lim, ls] 74) ∧ Has h' h0.next (.cells .plain [.int .i64 a1, .int .i64 a2, .int .i64 a3, .int .i64 a4, .int .i64 a5, .int .i64 a6] 102) ∧
      Has h' h1.next (.cells .plain (([a1, a2, a3, a4, a5, a6].take i).map (wV a b c) ++ List.replicate (n - i) AVal.nilIface) 134)) (n := n) 0 ⟨rfl, rfl, rfl, rfl, rfl, trivial⟩ ⟨rfl, e0, f0, f1, f8⟩ ?_
  clear e0 f0 f1 f8
  rintro m i hc ⟨hm, e0, f0, f1, f2⟩ again
  by_cases hi : i < n
  · obtain ⟨r, hr⟩ : ∃ r, [a1, a2, a3, a4, a5, a6][i]? = some r := ⟨[a1, a2, a3, a4, a5, a6][i]'(by simp; omega), by simp⟩
    have hld : [AVal.int .i64 a1, .int .i64 a2, .int .i64 a3, .int .i64 a4, .int .i64 a5, .int .i64 a6][0 + i * 1]? = some (.int .i64 r) := by
      have : [AVal.int .i64 a1, .int .i64 a2, .int .i64 a3, .int .i64 a4, .int .i64 a5, .int .i64 a6] = [a1, a2, a3, a4, a5, a6].map (.int .i64) := rfl
      rw [this, List.getElem?_map, Nat.zero_add, Nat.mul_one, hr]
      rfl
    have hi6 : i < 6 := by omega
    have hset : (([a1, a2, a3, a4, a5, a6].take i).map (wV a b c) ++ List.replicate (n - i) AVal.nilIface).set (0 + i * 1) (wV a b c r) = ([a1, a2, a3, a4, a5, a6].take (i + 1)).map (wV a b c) ++ List.replicate (n - (i + 1)) AVal.nilIface := by
      rw [List.take_add_one, hr, show n - i = (n - (i + 1)) + 1 by omega, List.replicate_succ, Nat.zero_add, Nat.mul_one, List.set_append_right _ _ (by simp; omega)]
      have : (List.map (wV a b c) (List.take i [a1, a2, a3, a4, a5, a6])).length = i := by simp; omega
      rw [this, Nat.sub_self]
      simp
    have hsp : splice (([a1, a2, a3, a4, a5, a6].take i).map (wV a b c) ++ List.replicate (n - i) AVal.nilIface) (0 + i * 1) (wV a b c r).cells = some (([a1, a2, a3, a4, a5, a6].take (i + 1)).map (wV a b c) ++ List.replicate (n - (i + 1)) AVal.nilIface) := by
      rw [wV_cells, splice_at (by simp; omega), hset]
    have hcl : Nat.beq (wV a b c r).cells.length 1 = true := by rw [wV_cells]; rfl
    have hsc : scalars (wV a b c r).cells = true := by rw [wV_cells]; unfold wV; split <;> rfl
    refine Go.seq noJ_ok ?_
    refine Go.region noJ_ok rfl ?_
    refine GoR.op rfl rfl (aOp_lss rfl rfl (r := true) (decide_eq_true (by omega))) rfl ?_
    refine GoR.end ?_
    refine Go.seq noJ_ok ?_
    refine Go.cond noJ_ok (b := true) rfl ?_
    refine Go.code noJ_ok ?_
    refine Go.seq noJ_ok ?_
    refine Go.block noJ_ok ?_
    refine Go.seq noJ_ok ?_
    refine Go.region noJ_ok rfl ?_
    iterate 2 refine GoR.op rfl rfl rfl rfl ?_
    refine GoR.end ?_
    refine Go.drawnE plan69_0 ?_
    iterate 2 refine GoE.quiet rfl rfl rfl rfl ?_
    refine GoE.quiet rfl rfl (ld74 rfl f0 rfl) rfl ?_
    refine GoE.quiet rfl rfl rfl rfl ?_
    refine GoE.quiet rfl rfl (aOp_indexAddrArr Try.underlying102 sz3 rfl rfl (Nat.ble_eq_true_of_le hi6)) rfl ?_
    refine GoE.quiet rfl rfl (ld3 rfl f1 hld) rfl ?_
    refine GoE.call rfl rfl (aOp_callFunc aFunc94 rfl) (weather_ok hs rs ls a b c lim r _) (dropF_drop (show bit? 60 5 = true from rfl) (dropF_drop (show bit? 60 4 = true from rfl) (dropF_drop (show bit? 60 3 = true from rfl) (dropF_drop (show bit? 60 2 = true from rfl) (dropF_keep (show bit? 60 1 = false from rfl) (dropF_keep (show bit? 60 0 = false from rfl) rfl)))))) ?_ (by rintro _ _ ⟨q, _⟩; cases q)
    rintro _ h9 ⟨q, x9⟩
    cases q
    replace f0 := f0.ext x9
    replace f1 := f1.ext x9
    replace f2 := f2.ext x9
    replace e0 := e0.trans x9
    refine ⟨(recheck_cons (h2 := h9) rfl (rfl) (by first | rfl | exact sameA_int _ _ | exact sameA_bool _ | exact sameA_agg2 _ _ | assumption | (simp [sameA, sameAs, eqI_eq]; done)) (recheck_cons (h2 := h9) rfl (rfl) (by first | rfl | exact sameA_int _ _ | exact sameA_bool _ | exact sameA_agg2 _ _ | assumption | (simp [sameA, sameAs, eqI_eq]; done)) recheck_nil)), _, rfl, ?_⟩
    refine GoE.quiet rfl rfl (aOp_indexAddr Try.underlying103 sz134 rfl rfl rfl (Nat.ble_eq_true_of_le hi)) rfl ?_
    refine GoE.store rfl rfl rfl rfl (dropF_drop (show bit? 255 7 = true from rfl) (dropF_drop (show bit? 255 1 = true from rfl) (dropF_drop (show bit? 255 0 = true from rfl) rfl))) rfl rfl f2 rfl sz134 hcl hsc hsp fun h10 u10 => ?_
    replace f0 := f0.upd u10 (by omega)
    replace f1 := f1.upd u10 (by omega)
    replace f2 := u10.has f2
    replace e0 := e0.upd u10 (by omega)
    refine ⟨recheck_nil, ?_⟩
    refine GoE.end rfl ?_
    refine Go.inBlock noJ_ok ?_
    refine Go.region noJ_ok rfl ?_
    refine GoR.op rfl rfl (aOp_add rfl rfl (by constructor <;> omega) rfl) rfl ?_
    refine GoR.op rfl rfl rfl rfl ?_
    refine GoR.end ?_
    exact again (m - 1) (i + 1) _ _ (by omega) ⟨rfl, rfl, rfl, rfl, rfl, trivial⟩ ⟨by omega, e0, f0, f1, f2⟩
  · have hin : i = n := by omega
    subst hin
    rw [Nat.sub_self, List.replicate_zero, List.append_nil] at f2
    refine Go.seq noJ_ok ?_
    refine Go.region noJ_ok rfl ?_
    refine GoR.op rfl rfl (aOp_lss rfl rfl (r := false) (decide_eq_false (by omega))) rfl ?_
    refine GoR.end ?_
    refine Go.seq noJ_ok ?_
    refine Go.cond noJ_ok (b := false) rfl ?_
    refine Go.code noJ_ok ?_
    refine Go.seq noJ_ok ?_
    refine Go.region noJ_ok rfl ?_
    iterate 2 refine GoR.op rfl rfl rfl rfl ?_
    refine GoR.end ?_
    exact Go.ret noJ_ok (ret_end (aResult_of Try.func69 rfl rfl) ⟨_, rfl, e0, by omega, f2⟩)
end Go.Proofs.Ytmdheijpnlonoaa
