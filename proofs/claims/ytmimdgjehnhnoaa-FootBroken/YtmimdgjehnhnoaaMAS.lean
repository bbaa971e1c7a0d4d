import Derived.Test.YtmimdgjehnhnoaaMAR
import Derived.Test.YtmimdgjehnhnoaaMAG
import Derived.Deep.Slices
import Derived.Lib.SmallJoins
import Derived.Carry
import Derived.Test.YtmimdgjehnhnoaaMAQ
import Derived.Laws.IdiomArrays
import Derived.Test.YtmimdgjehnhnoaaRows
import Derived.WalkKit
import Derived.ProofKit
import Derived.OpenShut
namespace Go.Proofs.Ytmimdgjehnhnoaa
open Go Go.AbsE
set_option linter.unusedSimpArgs false
set_option maxRecDepth 100000
set_option maxHeartbeats 0
set_option linter.unusedVariables false
def i8v (l : List Int) : List (List AVal) := l.map fun x => [AVal.int .i8 x]
theorem aOp_convI8 {P : Program} {t : Tr AVal} {h : AH} {dst : Option Tmp} {tt : TypeId} {pos : String} {after : Array Edge} {guard : Option (Nat × Bool)} {x : Operand} {src dt : TypeId} {sd : TypeDesc} {w : Int} (hx : ev t x = some (.int .i8 w)) (hs : P.underlying src = some sd) (hu : P.underlying dt = some (.int .i64)) (hw : -128 ≤ w ∧ w ≤ 127) : aOp P t h ⟨dst, .convert src dt x, tt, pos, after, guard⟩ = some (.val (.int .i64 w) h) := by
 show opConvert P t h src dt x = _
 unfold opConvert
 rw [hx]
 have : pureRun P (convert src dt (.int .i8 w)) = some (.int .i64 w) := by
  unfold convert
  rw [pureRun_bind, pr_underlying hs]
  simp only [Option.bind_some, pureRun_bind, pr_underlying hu]
  have : IntKind.i64.wrap w = w := by
   rw [← wrap64_eq]
   exact wrap64_in (by constructor <;> omega)
  cases sd <;> (show pureRun P (Conv.intToInt .i64 w) = _; unfold Conv.intToInt; rw [this]; rfl)
 simp only [this]
 rfl
theorem setPl_num {n : Int} {p : Pl} {i : Nat} (hi : i < 3) {v : Int} (hp : p.Num n) (hv : -1 ≤ v ∧ v ≤ n - 1) : (setPl p i v).Num n := by
 obtain ⟨a, b, c⟩ := p
 obtain ⟨h1, h2, h3⟩ := hp
 match i, hi with
 | 0, _ => exact ⟨show v = -1 ∨ (0 ≤ v ∧ v ≤ n - 1) by omega, h2, h3⟩
 | 1, _ => exact ⟨h1, show v = -1 ∨ (0 ≤ v ∧ v ≤ n - 1) by omega, h3⟩
 | 2, _ => exact ⟨h1, h2, show v = -1 ∨ (0 ≤ v ∧ v ≤ n - 1) by omega⟩
theorem setPl_splice {p : Pl} {i : Nat} (hi : i < 3) (v : Int) : splice ([.int .i64 p.a, .int .i64 p.b, .int .i64 p.c] : List AVal) (0 + i * 1) (AVal.int .i64 v).cells = some [.int .i64 (setPl p i v).a, .int .i64 (setPl p i v).b, .int .i64 (setPl p i v).c] := by
 match i, hi with
 | 0, _ => rfl
 | 1, _ => rfl
 | 2, _ => rfl
def ownV (p : Pl) (i : Nat) : Pl := match i with | 0 => none3 | 1 => ⟨p.a, -1, -1⟩ | 2 => ⟨p.a, p.b, -1⟩ | _ => p
theorem own_set {p : Pl} {i : Nat} (hi : i < 3) : setPl (ownV p i) i (p.at i) = p.upTo i ∧ ownV p (i + 1) = p.upTo i := by
 match i, hi with
 | 0, _ => exact ⟨rfl, rfl⟩
 | 1, _ => exact ⟨rfl, rfl⟩
 | 2, _ => exact ⟨rfl, rfl⟩
theorem own_skip {p : Pl} {i : Nat} (hi : i < 3) (h : p.at i = -1) : ownV p (i + 1) = ownV p i := by
 obtain ⟨a, b, c⟩ := p
 match i, hi with
 | 0, _ =>
  have : a = -1 := h
  subst this
  rfl
 | 1, _ =>
  have : b = -1 := h
  subst this
  rfl
 | 2, _ =>
  have : c = -1 := h
  subst this
  rfl
theorem bad_from {F : FootV} {M : List Pl} : ∀ k, k ≤ M.length → (∀ j p, j < k → M[j]? = some p → ∀ i, i < 3 → F.rule (stA M j) j p i = 0) → F.bad zero8 0 M = F.bad (stA M k) k (M.drop k)
 | 0, _, _ => rfl
 | k + 1, hk, h => by
  rw [bad_from k (by omega) fun j p hj => h j p (by omega)]
  have hp : M[k]? = some (M[k]'(by omega)) := List.getElem?_eq_getElem _
  rw [List.drop_eq_getElem_cons (show k < M.length by omega)]
  have e : F.bad (stA M k) k (M[k]'(by omega) :: M.drop (k + 1)) = if F.rule (stA M k) k (M[k]'(by omega)) 0 ≠ 0 then some ((k : Int), 0, F.rule (stA M k) k (M[k]'(by omega)) 0) else if F.rule (stA M k) k (M[k]'(by omega)) 1 ≠ 0 then some ((k : Int), 1, F.rule (stA M k) k (M[k]'(by omega)) 1) else if F.rule (stA M k) k (M[k]'(by omega)) 2 ≠ 0 then some ((k : Int), 2, F.rule (stA M k) k (M[k]'(by omega)) 2) else F.bad (withV (stA M k) (M[k]'(by omega))) (k + 1) (M.drop (k + 1)) := rfl
  have hr := h k _ (by omega) hp
  rw [e, if_neg (not_not_intro (hr 0 (by omega))), if_neg (not_not_intro (hr 1 (by omega))), if_neg (not_not_intro (hr 2 (by omega)))]
  have e2 : stA M (k + 1) = withV (stA M k) (M[k]'(by omega)) := by
   show (match M[k]? with | some p => withV (stA M k) p | none => stA M k) = _
   rw [hp]
  rw [e2]
theorem bad_here {F : FootV} {M : List Pl} {k i : Nat} {p : Pl} (hk : k < M.length) (hp : M[k]? = some p) (hi : i < 3) (h : ∀ j p, j < k → M[j]? = some p → ∀ i, i < 3 → F.rule (stA M j) j p i = 0) (h2 : ∀ j, j < i → F.rule (stA M k) k p j = 0) (h3 : F.rule (stA M k) k p i ≠ 0) :
  F.bad zero8 0 M = some ((k : Int), (i : Int), F.rule (stA M k) k p i) := by
 rw [bad_from k (by omega) h, List.drop_eq_getElem_cons hk]
 have e0 : M[k] = p := by
  rw [List.getElem?_eq_getElem hk] at hp;exact Option.some.inj hp
 rw [e0]
 have e : F.bad (stA M k) k (p :: M.drop (k + 1)) = if F.rule (stA M k) k p 0 ≠ 0 then some ((k : Int), 0, F.rule (stA M k) k p 0) else if F.rule (stA M k) k p 1 ≠ 0 then some ((k : Int), 1, F.rule (stA M k) k p 1) else if F.rule (stA M k) k p 2 ≠ 0 then some ((k : Int), 2, F.rule (stA M k) k p 2) else F.bad (withV (stA M k) p) (k + 1) (M.drop (k + 1)) := rfl
 rw [e]
 match i, hi, h2, h3 with
 | 0, _, _, h3 => rw [if_pos h3]; rfl
 | 1, _, h2, h3 => rw [if_neg (not_not_intro (h2 0 (by omega))), if_pos h3]; rfl
 | 2, _, h2, h3 => rw [if_neg (not_not_intro (h2 0 (by omega))), if_neg (not_not_intro (h2 1 (by omega))), if_pos h3]; rfl
theorem law8_no {F : FootV} {rsl hsl s : AVal} {h : AH} (hf : ∀ h', Ext h h' → Runs Try.prog 24 [.agg (F.cells rsl hsl)] h' (fun en h2 => en = .ret (.bool false) ∧ Ext h' h2)) :
  Runs Try.prog 8 [.agg (F.cells rsl hsl), s] h (fun en h' => en = .ret (.bool true) ∧ Ext h h') := by
 unfold FootV.cells at hf ⊢
 have e0 : Ext h h := Ext.refl _
 refine Runs.intro aFunc8 rfl rfl rfl rfl fun rest => ?_;apply gS;refine gR rfl ?_;refine GoR.box rfl rfl rfl rfl rfl rfl fun h0 x0 f0 => ?_;replace e0 := e0.trans x0;refine gP ?_;apply gE;iterate 2 apply gS
 refine gR rfl ?_;refine gO rfl rfl (ld26 rfl f0 rfl) rfl ?_;refine GoR.call rfl rfl (aCF aFunc24 rfl) (hf _ e0) ?_ np;rintro v1 h1 ⟨q, x1⟩;cases q;refine ⟨_, rfl, ?_⟩;replace e0 := e0.trans x1;refine gP ?_;apply gE;refine gC (b := true) rfl ?_;apply gS;refine gR rfl ?_;refine GoR.call rfl rfl (aCF aFunc13 rfl) (awake_ok) ?_ np;rintro v2 h2 ⟨q, x2⟩;cases q;refine ⟨_, rfl, ?_⟩;replace e0 := e0.trans x2;refine gP ?_;apply gE;exact gW Try.func8 rfl rfl ⟨rfl, e0⟩
theorem stK_next {st : List Int} {p : Pl} {i : Nat} (hi : i < 3) : stK st p (i + 1) = addDay (stK st p i) (p.at i) := by
 match i, hi with
 | 0, _ => rfl
 | 1, _ => rfl
 | 2, _ => rfl
theorem getD_in {l : List Int} {m : Int} (h : ∀ y, y ∈ l → 0 ≤ y ∧ y ≤ m) (hm : 0 ≤ m) (d : Nat) : 0 ≤ (l[d]?).getD 0 ∧ (l[d]?).getD 0 ≤ m := by
 cases q : l[d]? with
 | none => exact ⟨Int.le_refl _, hm⟩
 | some y => exact h y (List.mem_of_getElem? q)
theorem addDay_at {st : List Int} {x d : Nat} (hx : x < st.length) : ((addDay st (x : Int))[d]?).getD 0 = if d = x then (st[x]?).getD 0 + 1 else (st[d]?).getD 0 := by
 unfold addDay
 rw [if_neg (by omega), show ((x : Int)).toNat = x from rfl, List.getElem?_set]
 by_cases q : d = x
 ·subst q;rw [if_pos rfl, if_pos hx, if_pos rfl]
  rfl
 ·rw [if_neg (fun z => q z.symm), if_neg q]
theorem stK_in8 {st : List Int} {p : Pl} {m : Int} (h : ∀ y, y ∈ st → 0 ≤ y ∧ y ≤ m) (hm : 0 ≤ m) {i : Nat} (hi : i ≤ 3) : ∀ y, y ∈ stK st p i → 0 ≤ y ∧ y ≤ m + 3 := by
 have h1 := addDay_in (x := p.a) h hm
 have h2 := addDay_in (x := p.b) h1 (by omega)
 have h3 := addDay_in (x := p.c) h2 (by omega)
 intro y hy
 match i, hi with
 | 0, _ => have := h y hy; omega
 | 1, _ => have := h1 y hy; omega
 | 2, _ => have := h2 y hy; omega
 | 3, _ => have := h3 y hy; omega
theorem stK_len8 {st : List Int} {p : Pl} {i : Nat} : (stK st p i).length = st.length := by
 match i with
 | 0 => rfl
 | 1 => exact addDay_len _ _
 | 2 => show (addDay (addDay st p.a) p.b).length = _; rw [addDay_len, addDay_len]
 | i + 3 => exact withV_len _ _
theorem aOp_lookupV {P : Program} {t : Tr AVal} {h : AH} {dst : Option Tmp} {tt : TypeId} {pos : String} {after : Array Edge} {guard : Option (Nat × Bool)} {ty kt vt : TypeId} {K : IntKind} {x k : Operand} {b clock : Nat} {es : List AMapE} {f : List (Int × AVal)} {key : Int} {z v : AVal}
  (hu : P.underlying ty = some (.map kt vt)) (hi : P.underlying kt = some (.int K)) (hz : zeroT P vt = some z) (hx : ev t x = some (.map b)) (hk : ev t k = some (.int .i64 key))
  (hb : Has h b (.map es clock)) (hm : MapI es f) (hv : (findI key f).getD z = v) :
  aOp P t h ⟨dst, .lookup ty x k false, tt, pos, after, guard⟩ = some (.val v h) := by
 rw [← hv]
 exact aOp_lookupI hu hi hz hx hk hb hm
theorem law8_ok {F : FootV} (O : F.Ok) {bs : List Int} (hbs : ∀ x, x ∈ bs → -128 ≤ x ∧ x ≤ 127) (hlen : bs.length < 9223372036854775808) {s rsl hsl : AVal} {h : AH} (A : FootAt h F rsl hsl) (hs : SliceOf h 1 s (i8v bs)) :
  Runs Try.prog 8 [.agg (F.cells rsl hsl), s] h (fun en h' => en = .ret (.bool true) ∧ Ext h h') := by
 have hnr := O.nr
 have hnh := O.nh
 have hl1 := A.rs.len
 have hl2 := A.hs.len
 have hl3 := hs.len
 unfold i8v at hl3
 rw [List.length_map] at hl1 hl2 hl3
 have hls := hs.same
 have hsr := A.rs.same
 have hfi := fun h A => fine_ok (F := F) (h := h) (rsl := rsl) (hsl := hsl) A (by omega) (by omega)
 rw [(okB_iff F).2 O] at hfi
 unfold FootV.cells at hfi ⊢
 have e0 : Ext h h := Ext.refl _
 refine Runs.intro aFunc8 rfl rfl rfl rfl fun rest => ?_;apply gS;refine gR rfl ?_;refine GoR.box rfl rfl rfl rfl rfl rfl fun h0 x0 f0 => ?_;have := e0.1;replace e0 := e0.trans x0;have := f0.1;refine gP ?_;apply gE;iterate 2 apply gS
 refine gR rfl ?_;refine gO rfl rfl (ld26 rfl f0 rfl) rfl ?_;refine GoR.call rfl rfl (aCF aFunc24 rfl) (hfi _ (A.ext e0)) ?_ np;rintro v1 h1 ⟨q, x1⟩;cases q;refine ⟨_, rfl, ?_⟩;replace f0 := f0.ext x1;replace e0 := e0.trans x1;refine gP ?_;apply gE;refine gC (b := false) rfl ?_;refine gD ?_;apply gS;refine gR rfl ?_;refine gP ?_;apply gE;iterate 2 apply gS
 refine gR rfl ?_;refine gO rfl rfl (fa26_4 rfl) rfl ?_;refine gO rfl rfl (ld24 rfl f0 rfl) rfl ?_;refine gO rfl rfl (aOp_lenSlice Try.underlying24 rfl hl2) rfl ?_;refine gP ?_;apply gE;refine Go.block noJ_ok ?_
 have hnone : Pl.Num F.rs.length none3 := ⟨.inl rfl, .inl rfl, .inl rfl⟩
 have x1 := e0.1
 refine Go.loopKeep (fun a : Nat × AVal × List Pl => [(1, s), (2, .ptr h.next 0), (5, a.2.1), (30, .int .i64 F.hs.length), (31, .int .i64 (a.1 : Nat))])
  (fun m a h' => m + a.1 = F.hs.length ∧ Ext h h' ∧ h1.next ≤ h'.next ∧ Has h' h.next (.cells .plain [rsl, .int .i64 F.men, .int .i64 F.l0, .int .i64 F.l1, .int .i64 F.l2, .int .i64 F.d0, .int .i64 F.d1, .int .i64 F.d2, hsl] 26) ∧ a.2.2.length = a.1 ∧ (∀ p, p ∈ a.2.2 → p.Num F.rs.length) ∧ Grow h' 27 3 h1.next a.2.1 a.1 (a.2.2.flatMap Pl.cells))
  (n := F.hs.length) (0, .nilslice, []) ⟨rfl, rfl, rfl, rfl, rfl, trivial⟩ ⟨rfl, e0, Nat.le_refl _, f0, rfl, (fun p q => by cases q), Grow.nil _ _ _ _⟩ ?_
 have m1 := f0.1
 clear e0 f0;rintro m ⟨k, sa, M⟩ h20 ⟨hm, e0, hle, f0, hMl, hMo, G⟩ again
 dsimp only at hm hMl hMo G ⊢
 have n0 := f0.1
 by_cases hk : k < F.hs.length
 ·have e5 : Ext h20 h20 := Ext.refl _
  apply gS;refine gR rfl ?_;refine gO rfl rfl (kLT rfl rfl) rfl ?_;apply gE;apply gS;refine gC (b := true) rfl ?_;refine gD ?_;apply gS;refine Go.block noJ_ok ?_;apply gS;refine gR rfl ?_;iterate 2 refine gP ?_
  apply gE;apply gS;refine gR rfl ?_;refine GoR.call rfl rfl (aCF aFunc33 rfl) (None_ok) ?_ np;rintro v21 h21 ⟨q, x21⟩;cases q;refine ⟨_, rfl, ?_⟩;replace f0 := f0.ext x21;replace e0 := e0.trans x21;replace e5 := e5.trans x21;refine GoR.alloc rfl rfl rfl zt27 rfl rfl fun h22 x22 f22 => ?_;have := e0.1;have := e5.1;have := f0.1;replace f0 := f0.ext x22;replace e0 := e0.trans x22;replace e5 := e5.trans x22;have := f22.1;refine GoR.store rfl rfl rfl rfl rfl rfl f22 rfl sz27 rfl rfl rfl fun h23 u23 => ?_;replace f22 := u23.has f22;replace f0 := f0.upd u23 (by omega);replace e0 := e0.upd u23 (by omega);replace e5 := e5.upd u23 (by omega);apply gE;iterate 2 apply gS
  refine gR rfl ?_;refine gP ?_;apply gE;refine Go.block noJ_ok ?_
  refine Go.loopKeep (fun a : Nat × Pl => [(1, s), (2, .ptr h.next 0), (5, sa), (6, .int .i64 (k : Nat)), (7, .ptr h21.next 0), (30, .int .i64 F.hs.length), (31, .int .i64 (k : Nat)), (35, .int .i64 (a.1 : Nat))])
   (fun m a h' => m + a.1 = 3 ∧ Ext h h' ∧ Ext h20 h' ∧ Has h' h.next (.cells .plain [rsl, .int .i64 F.men, .int .i64 F.l0, .int .i64 F.l1, .int .i64 F.l2, .int .i64 F.d0, .int .i64 F.d1, .int .i64 F.d2, hsl] 26) ∧ Has h' h21.next (.cells .plain [.int .i64 a.2.a, .int .i64 a.2.b, .int .i64 a.2.c] 27) ∧ a.2.Num F.rs.length)
   (n := 3) (0, none3) ⟨rfl, rfl, rfl, rfl, rfl, rfl, rfl, rfl, trivial⟩ ⟨rfl, e0, e5, f0, f22, hnone⟩ ?_
  have m2 : h.next < h21.next := by omega
  have m3 := x21.1
  clear e0 e5 f0 f22;rintro mi ⟨i, p⟩ h30 ⟨hmi, e0, e5, f0, f2, hpn⟩ again3
  dsimp only at hmi f2 hpn ⊢
  have n3 := f0.1
  have n4 := f2.1
  by_cases hi : i < 3
  ·by_cases c1 : 3 * k + i < bs.length
   ·have hz : decide ((3 * (k : Int) + i) < (bs.length : Nat)) = true := decide_eq_true (by omega)
    obtain ⟨j, hj⟩ : ∃ j, 3 * k + i = j := ⟨_, rfl⟩
    have hj2 : j < bs.length := by omega
    obtain ⟨y, hy⟩ : ∃ y, bs[j]? = some y := ⟨bs[j], by simp [hj2]⟩
    have hyb := hbs y (List.mem_of_getElem? hy)
    obtain ⟨b3, o3, r5, r6⟩ := hs.at (i := j) (l := [AVal.int .i8 y]) (by unfold i8v; rw [List.getElem?_map, hy]; rfl)
    unfold i8v at r5
    rw [List.length_map] at r5
    obtain ⟨r1, hr1⟩ : ∃ r1, Int.tmod y ((F.rs.length : Nat) + 1) = r1 := ⟨_, rfl⟩
    have hr1a : r1 < (F.rs.length : Nat) + 1 := by rw [← hr1]; exact Int.tmod_lt_of_pos _ (by omega)
    have hr1b : -((F.rs.length : Nat) + 1 : Int) < r1 := by rw [← hr1]; exact Int.lt_tmod_of_pos _ (by omega)
    obtain ⟨r2, hr2⟩ : ∃ r2, Int.tmod (r1 + (F.rs.length : Nat) + 1) ((F.rs.length : Nat) + 1) = r2 := ⟨_, rfl⟩
    have hr2a : r2 < (F.rs.length : Nat) + 1 := by rw [← hr2]; exact Int.tmod_lt_of_pos _ (by omega)
    have hr2b : 0 ≤ r2 := by rw [← hr2]; exact Int.tmod_nonneg _ (by omega)
    have hsp := setPl_splice (p := p) hi (r2 - 1)
    have hnx := setPl_num (v := r2 - 1) hi hpn (by omega)
    have hmul : (3 : Int) * (k : Nat) + (i : Nat) = (j : Nat) := by omega
    apply gS;refine gR rfl ?_;refine gO rfl rfl (kLT rfl rfl) rfl ?_;apply gE;apply gS;refine gC (b := true) rfl ?_;refine gD ?_;apply gS;refine Go.block noJ_ok ?_;apply gS;refine gR rfl ?_;iterate 2 refine gP ?_
    apply gE;apply gS;refine gR rfl ?_;refine gP ?_;refine gO rfl rfl (aOp_mul rfl rfl rfl (by constructor <;> omega)) rfl ?_;refine gP ?_;refine gO rfl rfl (aOp_add rfl rfl (by constructor <;> omega) hmul) rfl ?_;refine gP ?_;apply gE;apply gS;refine gR rfl ?_;iterate 2 refine gP ?_
    refine gO rfl rfl (aOp_lenSlice Try.underlying66 rfl hl3) rfl ?_;refine gO rfl rfl (kLT rfl rfl) rfl ?_;apply gE;refine gC (b := true) rfl ?_;refine Go.drawnE plan8_0 ?_;iterate 3 refine gQ rfl rfl rfl rfl ?_
    refine gQ rfl rfl (aOp_indexAddr (i := j) Try.underlying66 sz67 rfl r5 rfl (Nat.ble_eq_true_of_le hj2)) rfl ?_;refine gQ rfl rfl (aOp_loadE1 (k := 0) ag67 rfl (r6.ext e0) rfl) rfl ?_;refine gQ rfl rfl (aOp_convI8 rfl Try.underlying67 Try.underlying3 hyb) rfl ?_;refine gQ rfl rfl (fa26_0 rfl) rfl ?_;refine gQ rfl rfl (ld22 rfl f0 rfl) rfl ?_;refine gQ rfl rfl (aOp_lenSlice Try.underlying22 rfl hl1) rfl ?_;refine gQ rfl rfl (aA rfl rfl) rfl ?_;refine gQ rfl rfl (aOp_rem (r := r1) rfl rfl (by omega) hr1) rfl ?_;refine gQ rfl rfl (fa26_0 rfl) rfl ?_;refine gQ rfl rfl (ld22 rfl f0 rfl) rfl ?_;refine gQ rfl rfl (aOp_lenSlice Try.underlying22 rfl hl1) rfl ?_;iterate 2 refine gQ rfl rfl (aA rfl rfl) rfl ?_
    refine gQ rfl rfl (fa26_0 rfl) rfl ?_;refine gQ rfl rfl (ld22 rfl f0 rfl) rfl ?_;refine gQ rfl rfl (aOp_lenSlice Try.underlying22 rfl hl1) rfl ?_;refine gQ rfl rfl (aA rfl rfl) rfl ?_;refine gQ rfl rfl (aOp_rem (r := r2) rfl rfl (by omega) hr2) rfl ?_;refine gQ rfl rfl (aS rfl rfl) rfl ?_;refine gQ rfl rfl (aOp_indexAddrArr (i := i) Try.underlying27 sz3 rfl rfl (Nat.ble_eq_true_of_le (by omega))) rfl ?_;refine GoE.store rfl rfl rfl rfl (dD 8388607 22 (dD 8388607 21 (dD 8388607 20 (dD 8388607 19 (dD 8388607 18 (dD 8388607 17 (dD 8388607 16 (dD 8388607 15 (dD 8388607 14 (dD 8388607 13 (dD 8388607 12 (dD 8388607 11 (dD 8388607 10 (dD 8388607 9 (dD 8388607 8 (dD 8388607 7 (dD 8388607 6 (dD 8388607 5 (dD 8388607 4 (dD 8388607 3 (dD 8388607 2 (dD 8388607 1 (dD 8388607 0 rfl))))))))))))))))))))))) rfl rfl f2 rfl sz3 rfl rfl hsp fun h31 u31 => ?_;replace f0 := f0.upd u31 (by omega);replace f2 := u31.has f2;replace e0 := e0.upd u31 (by omega);replace e5 := e5.upd u31 (by omega);refine ⟨recheck_nil, ?_⟩;refine GoE.end rfl ?_;refine Go.inBlock noJ_ok ?_;refine gR rfl ?_;refine gO rfl rfl (aA rfl rfl) rfl ?_;refine gP ?_;apply gE;exact again3 (mi - 1) (i + 1, setPl p i (r2 - 1)) _ _ (by omega) ⟨rfl, rfl, rfl, rfl, rfl, rfl, rfl, rfl, trivial⟩ ⟨by dsimp only; omega, e0, e5, f0, f2, hnx⟩
   ·apply gS;refine gR rfl ?_;refine gO rfl rfl (kLT rfl rfl) rfl ?_;apply gE;apply gS;refine gC (b := true) rfl ?_;refine gD ?_;apply gS;refine Go.block noJ_ok ?_;apply gS;refine gR rfl ?_;iterate 2 refine gP ?_
    apply gE;apply gS;refine gR rfl ?_;refine gP ?_;refine gO rfl rfl (aOp_mul rfl rfl rfl (by constructor <;> omega)) rfl ?_;refine gP ?_;refine gO rfl rfl (aA rfl rfl) rfl ?_;refine gP ?_;apply gE;apply gS;refine gR rfl ?_;iterate 2 refine gP ?_
    refine gO rfl rfl (aOp_lenSlice Try.underlying66 rfl hl3) rfl ?_;refine gO rfl rfl (kLF rfl rfl) rfl ?_;apply gE;refine gC (b := false) rfl ?_;refine gD ?_;refine Go.inBlock noJ_ok ?_;refine gR rfl ?_;refine gO rfl rfl (aA rfl rfl) rfl ?_;refine gP ?_;apply gE;exact again3 (mi - 1) (i + 1, p) _ _ (by omega) ⟨rfl, rfl, rfl, rfl, rfl, rfl, rfl, rfl, trivial⟩ ⟨by dsimp only; omega, e0, e5, f0, f2, hpn⟩
  ·clear again3;apply gS;refine gR rfl ?_;refine gO rfl rfl (kLF rfl rfl) rfl ?_;apply gE;apply gS;refine gC (b := false) rfl ?_;refine gD ?_;refine gR rfl ?_;refine gP ?_;refine gO rfl rfl (ld27 rfl f2 rfl) rfl ?_;refine GoR.buildSl rfl rfl (ps := [(0, .agg [.int .i64 p.a, .int .i64 p.b, .int .i64 p.c])]) (cs := [.int .i64 p.a, .int .i64 p.b, .int .i64 p.c]) Try.underlying40 rfl sz27 zt27 rfl rfl rfl rfl fun h31 x31 f31 => ?_;have := e0.1;have := e5.1;have := f0.1;have := f2.1;replace f0 := f0.ext x31;replace e0 := e0.trans x31;replace e5 := e5.trans x31;have := f31.1
   have G' := G.ext e5
   refine GoR.append1F (lo := h1.next) (s := sa) rfl rfl rfl Try.underlying40 Try.underlying40 sz27 by27 zt27 rfl rfl rfl rfl f31 rfl rfl G' (by omega) rfl rfl fun s6 h59 y59 g59 => ?_
   have z0 : Ext h h59 := y59.low e0 (fun b q => by have := (grow_own G' q).1; omega)
   have z2 := f0.extF y59 (fun q => by have := (grow_own G' q).1; omega)
   have m6 := e5.1
   have m7 := y59.1
   have m8 := x31.1
   have g61 := g59.low (lo' := h1.next) (by omega)
   clear e0 e5 f0 f2 f31
   have e0 := z0
   have again2 := again (m - 1) (k + 1, s6, M ++ [p])
   dsimp only at again2
   refine gP ?_;apply gE;refine Go.inBlock noJ_ok ?_;refine gR rfl ?_;refine gO rfl rfl (aA rfl rfl) rfl ?_;refine gP ?_;apply gE;refine again2 _ _ (by omega) ⟨rfl, rfl, rfl, rfl, rfl, trivial⟩ ⟨by omega, z0, by omega, z2, by rw [List.length_append, hMl]; rfl, fun p2 hp => ?_, ?_⟩
   ·rcases List.mem_append.1 hp with q | q
    ·exact hMo p2 q
    ·rw [show p2 = p by simpa using q];exact hpn
   ·rw [List.flatMap_append];exact g61
 ·have hkn : k = F.hs.length := by omega
  subst hkn;clear again
  have SM : SliceOf h20 3 sa (M.map Pl.cells) := Grow.sliceOf (L := M.map Pl.cells) (cs := M.flatMap Pl.cells) (by rw [List.length_map, hMl]; exact G) (pls_len3 M)
  have hFit : F.Fit M := ⟨hMl, hMo⟩
  have hbr := fun h A S => Broken_ok (F := F) (h := h) (rsl := rsl) (hsl := hsl) (s := sa) (L := M) A (by omega) (by omega) (by omega) S
  have hlM := SM.len
  rw [List.length_map, hMl] at hlM
  obtain ⟨b0, hb0⟩ : ∃ x, (F.badR M).1.1 = x := ⟨_, rfl⟩
  obtain ⟨b1, hb1⟩ : ∃ x, (F.badR M).1.2.1 = x := ⟨_, rfl⟩
  obtain ⟨b2, hb2⟩ : ∃ x, (F.badR M).1.2.2 = x := ⟨_, rfl⟩
  obtain ⟨b4, hb4⟩ : ∃ x, (F.badR M).2 = x := ⟨_, rfl⟩
  rw [hb0, hb1, hb2, hb4] at hbr
  have eM0 : stA M 0 = zero8 := rfl
  have hbN : F.bad zero8 0 M = none → b0 = 0 ∧ b1 = 0 ∧ b2 = 0 ∧ b4 = 4 := fun q => by
   have : F.badR M = ((0, 0, 0), 4) := by unfold FootV.badR; rw [if_pos O, if_pos hFit, eM0, q]
   rw [this] at hb0 hb1 hb2 hb4;exact ⟨hb0.symm, hb1.symm, hb2.symm, hb4.symm⟩
  have hbS : ∀ x y z, F.bad zero8 0 M = some (x, y, z) → b0 = x ∧ b1 = y ∧ b2 = z ∧ b4 = 0 := fun x y z q => by
   have : F.badR M = ((x, y, z), 0) := by unfold FootV.badR; rw [if_pos O, if_pos hFit, eM0, q]
   rw [this] at hb0 hb1 hb2 hb4;exact ⟨hb0.symm, hb1.symm, hb2.symm, hb4.symm⟩
  clear hb0 hb1 hb2 hb4
  have hfl : ∀ T, (F.first T).length = F.hs.length := fun T => by unfold FootV.first; rw [List.length_map]
  have hen : ∀ h2, FootAt h2 F rsl hsl → Runs Try.prog 35 [.agg (F.cells rsl hsl), .bool true] h2 (fun en h' => ∃ rs fs, en = .ret (.agg [rs, fs]) ∧ Ext h2 h' ∧ SliceOf h' 1 rs (ints (F.rain true)) ∧ SliceOf h' 1 fs (ints (F.first true)) ∧ scalars [rs, fs] = true ∧ Ext h' h') := fun h2 A2 =>
   (ends35_ok O (T := true) A2).mono fun en h' ⟨rs, fs, q, x, G1, G2, s1, _⟩ => ⟨rs, fs, q, x, nums_sl rain_len G1, nums_sl (hfl _) G2, s1, Ext.refl _⟩
  have e20 : Ext h20 h20 := Ext.refl _
  unfold FootV.cells at hbr hen
  apply gS;refine gR rfl ?_;refine gO rfl rfl (kLF rfl rfl) rfl ?_;apply gE;apply gS;refine gC (b := false) rfl ?_;refine gD ?_;apply gS;refine gR rfl ?_;refine gO rfl rfl (ld26 rfl f0 rfl) rfl ?_;refine gP ?_;refine GoR.call rfl rfl (aCF aFunc22 rfl) (hbr _ (A.ext e0) (SM.ext e20)) ?_ np;rintro v21 h21 ⟨q, x21⟩;cases q;refine ⟨_, rfl, ?_⟩;replace f0 := f0.ext x21;replace e0 := e0.trans x21;replace e20 := e20.trans x21;iterate 9 refine gP ?_
  apply gE;apply gS;refine gR rfl ?_;refine gO rfl rfl (ld26 rfl f0 rfl) rfl ?_;refine GoR.call rfl rfl (aCF aFunc35 rfl) (hen _ (A.ext e0)) ?_ (by rintro _ _ ⟨rs, fs, q, _, sR, sF, hsc, e35⟩; cases q);rintro v22 h22 ⟨rs, fs, q, x22, sR, sF, hsc, e35⟩;cases q;refine ⟨_, rfl, ?_⟩;have := e0.1;have := e20.1;replace f0 := f0.ext x22;replace e0 := e0.trans x22;replace e20 := e20.trans x22;refine GoR.alloc rfl rfl rfl zt51 rfl rfl fun h23 x23 f23 => ?_;have := e35.1;have := e0.1;have := e20.1;have := f0.1;replace f0 := f0.ext x23;replace e35 := e35.trans x23;replace e0 := e0.trans x23;replace e20 := e20.trans x23;have := f23.1;refine GoR.store rfl rfl rfl rfl rfl rfl f23 rfl sz51 rfl hsc rfl fun h24 u24 => ?_;replace f23 := u24.has f23;replace f0 := f0.upd u24 (by omega);replace e35 := e35.upd u24 (by omega);replace e0 := e0.upd u24 (by omega);replace e20 := e20.upd u24 (by omega);apply gE;apply gS;refine gR rfl ?_;refine GoR.makeMap rfl rfl rfl rfl rfl fun h25 x25 f25 => ?_;have := e35.1;have := e0.1;have := e20.1;have := f23.1;have := f0.1;replace f23 := f23.ext x25;replace f0 := f0.ext x25;replace e35 := e35.trans x25;replace e0 := e0.trans x25;replace e20 := e20.trans x25;have := f25.1;refine gP ?_;apply gE;iterate 2 apply gS
  refine gR rfl ?_;refine gP ?_;refine gO rfl rfl (aOp_lenSlice Try.underlying40 rfl (by assumption)) rfl ?_;refine gP ?_;apply gE;refine Go.block noJ_ok ?_
  have m5 : h22.next < h24.next := by omega
  have m6 : h20.next ≤ h22.next := by omega
  refine Go.loopKeep (fun a : Nat × List AMapE × Nat × List (Int × AVal) => [(2, .ptr h.next 0), (10, .int .i64 b0), (11, .int .i64 b1), (12, .int .i64 b2), (13, .int .i64 b4), (14, .ptr h22.next 0), (15, .map h24.next), (86, sa), (87, .int .i64 F.hs.length), (88, .int .i64 (a.1 : Nat))])
   (fun m a h' => m + a.1 = F.hs.length ∧ Ext h h' ∧ Ext h20 h' ∧ Ext h22 h' ∧ Has h' h.next (.cells .plain [rsl, .int .i64 F.men, .int .i64 F.l0, .int .i64 F.l1, .int .i64 F.l2, .int .i64 F.d0, .int .i64 F.d1, .int .i64 F.d2, hsl] 26) ∧ Has h' h22.next (.cells .plain [rs, fs] 51) ∧ Has h' h24.next (.map a.2.1 a.2.2.1) ∧ MapI a.2.1 a.2.2.2 ∧ (∀ d : Nat, (findI d a.2.2.2).getD (.int .i64 0) = .int .i64 (((stA M a.1)[d]?).getD 0)) ∧ (∀ j p, j < a.1 → M[j]? = some p → ∀ i, i < 3 → F.rule (stA M j) j p i = 0))
   (n := F.hs.length) (0, [], 0, []) ⟨rfl, rfl, rfl, rfl, rfl, rfl, rfl, rfl, rfl, rfl, trivial⟩ ⟨rfl, e0, e20, e35, f0, f23, f25, rfl, (fun d => by
    rw [eM0]
    show AVal.int .i64 0 = AVal.int .i64 ((zero8[d]?).getD 0)
    rw [show (zero8[d]?).getD 0 = 0 by
     match d with
     | 0 => rfl
     | 1 => rfl
     | 2 => rfl
     | 3 => rfl
     | 4 => rfl
     | 5 => rfl
     | 6 => rfl
     | 7 => rfl
     | d + 8 => rfl]), (fun j p q => by cases q)⟩ ?_
  clear e0 e20 e35 f0 f23 f25;rintro m ⟨k, es, cl, f⟩ h40 ⟨hm, e0, e20, e35, f0, f1, f2, hMI, hval, hdone⟩ again
  dsimp only at hm f2 hMI hval hdone ⊢
  have n1 := f0.1
  have n2 := f1.1
  have n3 := f2.1
  by_cases hk : k < F.hs.length
  ·obtain ⟨p, hp⟩ : ∃ p, M[k]? = some p := ⟨M[k]'(by omega), by simp⟩
   have hpn := hMo p (List.mem_of_getElem? hp)
   obtain ⟨b5, o5, r1, r2⟩ := SM.at (i := k) (l := Pl.cells p) (by rw [List.getElem?_map, hp]; rfl)
   rw [List.length_map, hMl] at r1
   unfold Pl.cells at r2
   apply gS;refine gR rfl ?_;refine gO rfl rfl (kLT rfl rfl) rfl ?_;apply gE;apply gS;refine gC (b := true) rfl ?_;refine gD ?_;apply gS;refine Go.block noJ_ok ?_;apply gS;refine gR rfl ?_;refine gP ?_;refine gO rfl rfl (aOp_indexAddr (i := k) Try.underlying40 sz27 rfl r1 rfl (Nat.ble_eq_true_of_le hk)) rfl ?_;refine gO rfl rfl (aOp_loadE ag27 sz27 rfl (r2.ext e20)) rfl ?_;refine GoR.alloc rfl rfl rfl zt27 rfl rfl fun h41 x41 f41 => ?_;have := e0.1;have := e20.1;have := e35.1;have := f0.1;have := f1.1;have := f2.1;replace f0 := f0.ext x41;replace f1 := f1.ext x41;replace f2 := f2.ext x41;replace e0 := e0.trans x41;replace e20 := e20.trans x41;replace e35 := e35.trans x41;have := f41.1;refine gP ?_;refine GoR.store rfl rfl rfl rfl rfl rfl f41 rfl sz27 rfl rfl rfl fun h42 u42 => ?_;replace f41 := u42.has f41;replace f0 := f0.upd u42 (by omega);replace f1 := f1.upd u42 (by omega);replace f2 := f2.upd u42 (by omega);replace e0 := e0.upd u42 (by omega);replace e20 := e20.upd u42 (by omega);replace e35 := e35.upd u42 (by omega);apply gE;apply gS;refine gR rfl ?_;refine GoR.call rfl rfl (aCF aFunc33 rfl) (None_ok) ?_ np;rintro v43 h43 ⟨q, x43⟩;cases q;refine ⟨_, rfl, ?_⟩;replace f41 := f41.ext x43;replace f0 := f0.ext x43;replace f1 := f1.ext x43;replace f2 := f2.ext x43;replace e0 := e0.trans x43;replace e20 := e20.trans x43;replace e35 := e35.trans x43;refine GoR.alloc rfl rfl rfl zt27 rfl rfl fun h44 x44 f44 => ?_;have := e0.1;have := e20.1;have := e35.1;have := f41.1;have := f0.1;have := f1.1;have := f2.1;replace f41 := f41.ext x44;replace f0 := f0.ext x44;replace f1 := f1.ext x44;replace f2 := f2.ext x44;replace e0 := e0.trans x44;replace e20 := e20.trans x44;replace e35 := e35.trans x44;have := f44.1;refine GoR.store rfl rfl rfl rfl rfl rfl f44 rfl sz27 rfl rfl rfl fun h45 u45 => ?_;replace f44 := u45.has f44;replace f41 := f41.upd u45 (by omega);replace f0 := f0.upd u45 (by omega);replace f1 := f1.upd u45 (by omega);replace f2 := f2.upd u45 (by omega);replace e0 := e0.upd u45 (by omega);replace e20 := e20.upd u45 (by omega);replace e35 := e35.upd u45 (by omega);apply gE;iterate 2 apply gS
   refine gR rfl ?_;refine gO rfl rfl (ld27 rfl f41 rfl) rfl ?_;refine gP ?_;apply gE;refine Go.block noJ_ok ?_
   have hkl : k < F.hs.length := hk
   refine Go.loopKeep (fun i : Nat => [(2, .ptr h.next 0), (10, .int .i64 b0), (11, .int .i64 b1), (12, .int .i64 b2), (13, .int .i64 b4), (14, .ptr h22.next 0), (15, .map h24.next), (16, .int .i64 (k : Nat)), (17, .ptr h40.next 0), (18, .ptr h43.next 0), (86, sa), (87, .int .i64 F.hs.length), (88, .int .i64 (k : Nat)), (94, .agg [.int .i64 p.a, .int .i64 p.b, .int .i64 p.c]), (95, .int .i64 (i : Nat))])
    (fun m i h' => m + i = 3 ∧ Ext h h' ∧ Ext h20 h' ∧ Ext h22 h' ∧ Has h' h.next (.cells .plain [rsl, .int .i64 F.men, .int .i64 F.l0, .int .i64 F.l1, .int .i64 F.l2, .int .i64 F.d0, .int .i64 F.d1, .int .i64 F.d2, hsl] 26) ∧ Has h' h22.next (.cells .plain [rs, fs] 51) ∧ Has h' h24.next (.map es cl) ∧ Has h' h40.next (.cells .plain [.int .i64 p.a, .int .i64 p.b, .int .i64 p.c] 27) ∧ Has h' h43.next (.cells .plain [.int .i64 (ownV p i).a, .int .i64 (ownV p i).b, .int .i64 (ownV p i).c] 27) ∧ (∀ j, j < i → F.rule (stA M k) k p j = 0))
    (n := 3) 0 ⟨rfl, rfl, rfl, rfl, rfl, rfl, rfl, rfl, rfl, rfl, rfl, rfl, rfl, rfl, rfl, trivial⟩ ⟨rfl, e0, e20, e35, f0, f1, f2, f41, f44, fun j q => by omega⟩ ?_
   have m9 : h40.next < h43.next := by omega
   clear e0 e20 e35 f0 f1 f2 f41 f44;rintro mi i h50 ⟨hmi, e0, e20, e35, f0, f1, f2, f3, f4, hrules⟩ again3
   have n4 := f0.1
   have n5 := f1.1
   have n6 := f2.1
   have n7 := f3.1
   have n8 := f4.1
   by_cases hi : i < 3
   ·have hget := at_get (p := p) hi
    rw [Nat.zero_add] at hget
    have hn := at_num hpn i
    have hlm := lm_in O i
    by_cases c1 : p.at i = -1
    ·rw [c1] at hget;apply gS;refine gR rfl ?_;refine gO rfl rfl (kLT rfl rfl) rfl ?_;apply gE;apply gS;refine gC (b := true) rfl ?_;refine gD ?_;apply gS;refine Go.block noJ_ok ?_;apply gS;refine gR rfl ?_;refine gP ?_;refine gO rfl rfl (aOp_indexArr (i := i) Try.underlying27 sz3 rfl rfl (Nat.ble_eq_true_of_le hi) (partT_one ag3 hget)) rfl ?_;iterate 2 refine gP ?_
     apply gE;iterate 2 apply gS
     refine gR rfl ?_;refine gP ?_;refine gO rfl rfl (kLT rfl rfl) rfl ?_;apply gE;refine gC (b := true) rfl ?_;refine gD ?_;refine gR rfl ?_;refine gO rfl rfl (aA rfl rfl) rfl ?_;refine gP ?_;apply gE;refine again3 (mi - 1) (i + 1) _ _ (by omega) ⟨rfl, rfl, rfl, rfl, rfl, rfl, rfl, rfl, rfl, rfl, rfl, rfl, rfl, rfl, rfl, trivial⟩ ⟨by omega, e0, e20, e35, f0, f1, f2, f3, by rw [own_skip hi c1]; exact f4, fun j q => ?_⟩
     rcases Nat.lt_or_ge j i with q' | q'
     ·exact hrules j q'
     ·rw [show j = i by omega];exact rule_zero.2 (.inl c1)
    ·obtain ⟨d, hd⟩ : ∃ d : Nat, p.at i = d := Int.eq_ofNat_of_zero_le (by omega)
     have hdn : d < F.rs.length := by omega
     obtain ⟨u, hu⟩ : ∃ u, p.upTo i = u := ⟨_, rfl⟩
     have hsp := setPl_splice (p := ownV p i) hi (p.at i)
     rw [(own_set hi).1, hu, hd] at hsp
     rw [hd] at hget
     have hown : ownV p (i + 1) = u := by rw [(own_set hi).2, hu]
     have hPl := fun h A => Plan_ok (F := F) (rsl := rsl) (hsl := hsl) (p := u) (h := h) A (by omega)
     obtain ⟨r, hr⟩ : ∃ r, F.rule (stA M k) k p i = r := ⟨_, rfl⟩
     obtain ⟨w, hw⟩ : ∃ w, F.w true k u d = w := ⟨_, rfl⟩
     obtain ⟨v, hv⟩ : ∃ v, ((stA M k)[d]?).getD 0 = v := ⟨_, rfl⟩
     have hr' := hr
     unfold FootV.rule at hr'
     rw [if_neg c1, hu, hd, show ((d : Nat) : Int).toNat = d from rfl, hw, hv] at hr'
     have hbad : r ≠ 0 → F.bad zero8 0 M = some ((k : Int), (i : Int), r) := fun z => by
      rw [bad_here (by omega) hp hi (fun j p q => hdone j p q) hrules (by rw [hr]; exact z), hr]
     by_cases c2 : u.Ord F.rs.length
     ·rw [if_neg (not_not_intro c2)] at hr';rw [decide_eq_true c2] at hPl
      have htw : ∀ h2, FootAt h2 F rsl hsl → SliceOf h2 1 rs (ints (F.rain true)) → SliceOf h2 1 fs (ints (F.first true)) → Runs Try.prog 27 [.agg [rs, fs], .agg (F.cells rsl hsl), .int .i64 (k : Nat), .agg u.cells] h2 (fun en h' => ∃ v b o, en = .ret v ∧ Ext h2 h' ∧ aSlElems v = some (b, o, F.rs.length + 1) ∧ CellsAt h' b (o + d * 1) 1 [.int .i64 w] ∧ sameA v v = true ∧ Ext h' h') := fun h2 A2 z1 z2 =>
       (twet_ok O rain_len (rains_in O true) (first_get hkl) (st_in O true k) c2 A2 z1 z2).mono fun en h' ⟨v, q, x, S, hs⟩ => by
        obtain ⟨b, o, r1, r2⟩ := S.at (ints_at (i := d) (x := w) (by rw [List.getElem?_map, List.getElem?_range (by omega), ← hw, w_tw]; rfl))
        rw [ints_len, List.length_map, List.length_range] at r1;exact ⟨v, b, o, q, x, r1, r2, hs, Ext.refl _⟩
      unfold FootV.cells Pl.cells at hPl htw
      by_cases c3 : w ≤ F.lm i
      ·rw [if_neg (not_not_intro c3)] at hr'
       have hvd := hval d
       rw [hv] at hvd
       by_cases c4 : F.men ≤ v
       ·rw [if_pos c4] at hr';subst hr'
        obtain ⟨rfl, rfl, rfl, rfl⟩ := hbS _ _ _ (hbad (by decide))
        apply gS;refine gR rfl ?_;refine gO rfl rfl (kLT rfl rfl) rfl ?_;apply gE;apply gS;refine gC (b := true) rfl ?_;refine gD ?_;apply gS;refine Go.block noJ_ok ?_;apply gS;refine gR rfl ?_;refine gP ?_;refine gO rfl rfl (aOp_indexArr (i := i) Try.underlying27 sz3 rfl rfl (Nat.ble_eq_true_of_le hi) (partT_one ag3 hget)) rfl ?_;iterate 2 refine gP ?_
        apply gE;iterate 2 apply gS
        refine gR rfl ?_;refine gP ?_;refine gO rfl rfl (kLF rfl rfl) rfl ?_;apply gE;refine gC (b := false) rfl ?_;refine gD ?_;apply gS;refine gR rfl ?_;iterate 2 refine gP ?_
        refine gO rfl rfl (aOp_indexAddrArr (i := i) Try.underlying27 sz3 rfl rfl (Nat.ble_eq_true_of_le hi)) rfl ?_;refine GoR.store rfl rfl rfl rfl rfl rfl f4 rfl sz3 rfl rfl hsp fun h51 u51 => ?_;replace f0 := f0.upd u51 (by omega);replace f1 := f1.upd u51 (by omega);replace f2 := f2.upd u51 (by omega);replace f4 := u51.has f4;replace e0 := e0.upd u51 (by omega);replace e35 := e35.upd u51 (by omega);apply gE;apply gS;refine gR rfl ?_;refine gP ?_;apply gE;apply gS;refine Go.block noJ_ok ?_;apply gS;refine gR rfl ?_;refine gO rfl rfl (ld26 rfl f0 rfl) rfl ?_;refine gO rfl rfl (ld27 rfl f4 rfl) rfl ?_;refine GoR.call rfl rfl (aCF aFunc31 rfl) (hPl _ (A.ext e0)) ?_ np;rintro v52 h52 ⟨q, x52⟩;cases q;refine ⟨_, rfl, ?_⟩;replace f0 := f0.ext x52;replace f1 := f1.ext x52;replace f2 := f2.ext x52;replace f4 := f4.ext x52;replace e0 := e0.trans x52;replace e35 := e35.trans x52;iterate 2 refine gP ?_
        apply gE;refine gC (b := false) rfl ?_;apply gS;refine Go.drawnE plan8_1 ?_;refine gQ rfl rfl (ld51 rfl f1 rfl) rfl ?_;refine gQ rfl rfl (ld26 rfl f0 rfl) rfl ?_;refine gQ rfl rfl rfl rfl ?_;refine gQ rfl rfl (ld27 rfl f4 rfl) rfl ?_;iterate 2 refine gQ rfl rfl rfl rfl ?_
        refine gQ rfl rfl (fa26_2 rfl) rfl ?_;refine gQ rfl rfl (aOp_indexAddrArr (i := i) Try.underlying27 sz3 rfl rfl (Nat.ble_eq_true_of_le hi)) rfl ?_;refine gQ rfl rfl (ld3 rfl f0 (lm_get hi)) rfl ?_;refine GoE.call rfl rfl (aCF aFunc27 rfl) (htw _ (A.ext e0) (sR.ext e35) (sF.ext e35)) (dK 15 11 (dK 15 10 (dK 15 9 (dK 15 8 (dK 15 5 (dD 15 3 (dD 15 2 (dD 15 1 (dD 15 0 rfl))))))))) ?_ (by rintro _ _ ⟨v8, b8, o8, q, _, r7, r8, hv1, e81⟩; cases q);rintro v53 h53 ⟨v8, b8, o8, q, x53, r7, r8, hv1, e81⟩;cases q;replace f0 := f0.ext x53;replace f2 := f2.ext x53;replace e0 := e0.trans x53;refine ⟨(rck (h2 := h53) rfl (ld3 rfl f0 (lm_get hi)) (rck (h2 := h53) rfl (aOp_indexAddrArr (i := i) Try.underlying27 sz3 rfl rfl (Nat.ble_eq_true_of_le hi)) (rck (h2 := h53) rfl (fa26_2 rfl) (rck (h2 := h53) rfl (rfl) (rck (h2 := h53) rfl (rfl) recheck_nil))))), _, rfl, ?_⟩;refine gQ rfl rfl (aOp_indexAddr (i := d) Try.underlying49 sz3 rfl r7 rfl (Nat.ble_eq_true_of_le (by omega))) rfl ?_;refine gQ rfl rfl (aOp_loadE1 (k := 0) ag3 rfl (r8.ext e81) rfl) rfl ?_;refine gQ rfl rfl (kGF rfl rfl) rfl ?_;refine gQ rfl rfl rfl rfl ?_;refine GoE.end rfl ?_;refine gC (b := false) rfl ?_;apply gS;refine gR rfl ?_;iterate 2 refine gP ?_
        refine gO rfl rfl (aOp_lookupV Try.underlying68 Try.underlying3 zt3 rfl rfl f2 hMI hvd) rfl ?_;refine gO rfl rfl (fa26_1 rfl) rfl ?_;refine gO rfl rfl (ld3 rfl f0 rfl) rfl ?_;refine gO rfl rfl (kNT rfl rfl) rfl ?_;refine gP ?_;apply gE;refine gC (b := true) rfl ?_;refine gR rfl ?_;refine gP ?_;apply gE;refine Go.inBlock noJ_ok ?_;apply gS;refine gR rfl ?_;refine gP ?_;refine gO rfl rfl (kXT rfl rfl) rfl ?_;apply gE;refine gC (b := true) rfl ?_;apply gS;refine gR rfl ?_;refine gP ?_;refine gO rfl rfl (kET rfl rfl) rfl ?_;iterate 3 refine gP ?_
        refine gO rfl rfl (kET rfl rfl) rfl ?_;iterate 4 refine gP ?_
        refine gO rfl rfl (kET rfl rfl) rfl ?_;iterate 4 refine gP ?_
        refine gO rfl rfl (kET rfl rfl) rfl ?_;iterate 2 refine gP ?_
        refine GoR.call rfl rfl (aCF aFunc13 rfl) (awake_ok) ?_ np;rintro v54 h54 ⟨q, x54⟩;cases q;refine ⟨_, rfl, ?_⟩;replace e0 := e0.trans x54;iterate 2 refine gP ?_
        apply gE;exact gW Try.func8 rfl rfl ⟨rfl, e0⟩
       ·rw [if_neg c4] at hr';subst hr';apply gS;refine gR rfl ?_;refine gO rfl rfl (kLT rfl rfl) rfl ?_;apply gE;apply gS;refine gC (b := true) rfl ?_;refine gD ?_;apply gS;refine Go.block noJ_ok ?_;apply gS;refine gR rfl ?_;refine gP ?_;refine gO rfl rfl (aOp_indexArr (i := i) Try.underlying27 sz3 rfl rfl (Nat.ble_eq_true_of_le hi) (partT_one ag3 hget)) rfl ?_;iterate 2 refine gP ?_
        apply gE;iterate 2 apply gS
        refine gR rfl ?_;refine gP ?_;refine gO rfl rfl (kLF rfl rfl) rfl ?_;apply gE;refine gC (b := false) rfl ?_;refine gD ?_;apply gS;refine gR rfl ?_;iterate 2 refine gP ?_
        refine gO rfl rfl (aOp_indexAddrArr (i := i) Try.underlying27 sz3 rfl rfl (Nat.ble_eq_true_of_le hi)) rfl ?_;refine GoR.store rfl rfl rfl rfl rfl rfl f4 rfl sz3 rfl rfl hsp fun h51 u51 => ?_;replace f0 := f0.upd u51 (by omega);replace f1 := f1.upd u51 (by omega);replace f2 := f2.upd u51 (by omega);replace f3 := f3.upd u51 (by omega);replace f4 := u51.has f4;replace e0 := e0.upd u51 (by omega);replace e20 := e20.upd u51 (by omega);replace e35 := e35.upd u51 (by omega);apply gE;apply gS;refine gR rfl ?_;refine gP ?_;apply gE;apply gS;refine Go.block noJ_ok ?_;apply gS;refine gR rfl ?_;refine gO rfl rfl (ld26 rfl f0 rfl) rfl ?_;refine gO rfl rfl (ld27 rfl f4 rfl) rfl ?_;refine GoR.call rfl rfl (aCF aFunc31 rfl) (hPl _ (A.ext e0)) ?_ np;rintro v52 h52 ⟨q, x52⟩;cases q;refine ⟨_, rfl, ?_⟩;replace f0 := f0.ext x52;replace f1 := f1.ext x52;replace f2 := f2.ext x52;replace f3 := f3.ext x52;replace f4 := f4.ext x52;replace e0 := e0.trans x52;replace e20 := e20.trans x52;replace e35 := e35.trans x52;iterate 2 refine gP ?_
        apply gE;refine gC (b := false) rfl ?_;apply gS;refine Go.drawnE plan8_1 ?_;refine gQ rfl rfl (ld51 rfl f1 rfl) rfl ?_;refine gQ rfl rfl (ld26 rfl f0 rfl) rfl ?_;refine gQ rfl rfl rfl rfl ?_;refine gQ rfl rfl (ld27 rfl f4 rfl) rfl ?_;iterate 2 refine gQ rfl rfl rfl rfl ?_
        refine gQ rfl rfl (fa26_2 rfl) rfl ?_;refine gQ rfl rfl (aOp_indexAddrArr (i := i) Try.underlying27 sz3 rfl rfl (Nat.ble_eq_true_of_le hi)) rfl ?_;refine gQ rfl rfl (ld3 rfl f0 (lm_get hi)) rfl ?_;refine GoE.call rfl rfl (aCF aFunc27 rfl) (htw _ (A.ext e0) (sR.ext e35) (sF.ext e35)) (dK 15 11 (dK 15 10 (dK 15 9 (dK 15 8 (dK 15 5 (dD 15 3 (dD 15 2 (dD 15 1 (dD 15 0 rfl))))))))) ?_ (by rintro _ _ ⟨v8, b8, o8, q, _, r7, r8, hv1, e81⟩; cases q);rintro v53 h53 ⟨v8, b8, o8, q, x53, r7, r8, hv1, e81⟩;cases q;replace f0 := f0.ext x53;replace f1 := f1.ext x53;replace f2 := f2.ext x53;replace f3 := f3.ext x53;replace f4 := f4.ext x53;replace e0 := e0.trans x53;replace e20 := e20.trans x53;replace e35 := e35.trans x53;refine ⟨(rck (h2 := h53) rfl (ld3 rfl f0 (lm_get hi)) (rck (h2 := h53) rfl (aOp_indexAddrArr (i := i) Try.underlying27 sz3 rfl rfl (Nat.ble_eq_true_of_le hi)) (rck (h2 := h53) rfl (fa26_2 rfl) (rck (h2 := h53) rfl (rfl) (rck (h2 := h53) rfl (rfl) recheck_nil))))), _, rfl, ?_⟩;refine gQ rfl rfl (aOp_indexAddr (i := d) Try.underlying49 sz3 rfl r7 rfl (Nat.ble_eq_true_of_le (by omega))) rfl ?_;refine gQ rfl rfl (aOp_loadE1 (k := 0) ag3 rfl (r8.ext e81) rfl) rfl ?_;refine gQ rfl rfl (kGF rfl rfl) rfl ?_;refine gQ rfl rfl rfl rfl ?_;refine GoE.end rfl ?_;refine gC (b := false) rfl ?_;apply gS;refine gR rfl ?_;iterate 2 refine gP ?_
        refine gO rfl rfl (aOp_lookupV Try.underlying68 Try.underlying3 zt3 rfl rfl f2 hMI hvd) rfl ?_;refine gO rfl rfl (fa26_1 rfl) rfl ?_;refine gO rfl rfl (ld3 rfl f0 rfl) rfl ?_;refine gO rfl rfl (kNF rfl rfl) rfl ?_;refine gP ?_;apply gE;refine gC (b := false) rfl ?_;refine gD ?_;refine Go.inBlock noJ_ok ?_;apply gS;refine gR rfl ?_;refine gP ?_;refine gO rfl rfl (kXF rfl rfl) rfl ?_;apply gE;refine gC (b := false) rfl ?_;refine gD ?_;refine Go.inBlock noJ_ok ?_;refine gR rfl ?_;refine gO rfl rfl (aA rfl rfl) rfl ?_;refine gP ?_;apply gE;refine again3 (mi - 1) (i + 1) _ _ (by omega) ⟨rfl, rfl, rfl, rfl, rfl, rfl, rfl, rfl, rfl, rfl, rfl, rfl, rfl, rfl, rfl, trivial⟩ ⟨by omega, e0, e20, e35, f0, f1, f2, f3, by rw [hown]; exact f4, fun j q => ?_⟩
        rcases Nat.lt_or_ge j i with q' | q'
        ·exact hrules j q'
        ·rw [show j = i by omega];exact hr
      ·rw [if_pos c3] at hr';subst hr'
       obtain ⟨rfl, rfl, rfl, rfl⟩ := hbS _ _ _ (hbad (by decide))
       apply gS;refine gR rfl ?_;refine gO rfl rfl (kLT rfl rfl) rfl ?_;apply gE;apply gS;refine gC (b := true) rfl ?_;refine gD ?_;apply gS;refine Go.block noJ_ok ?_;apply gS;refine gR rfl ?_;refine gP ?_;refine gO rfl rfl (aOp_indexArr (i := i) Try.underlying27 sz3 rfl rfl (Nat.ble_eq_true_of_le hi) (partT_one ag3 hget)) rfl ?_;iterate 2 refine gP ?_
       apply gE;iterate 2 apply gS
       refine gR rfl ?_;refine gP ?_;refine gO rfl rfl (kLF rfl rfl) rfl ?_;apply gE;refine gC (b := false) rfl ?_;refine gD ?_;apply gS;refine gR rfl ?_;iterate 2 refine gP ?_
       refine gO rfl rfl (aOp_indexAddrArr (i := i) Try.underlying27 sz3 rfl rfl (Nat.ble_eq_true_of_le hi)) rfl ?_;refine GoR.store rfl rfl rfl rfl rfl rfl f4 rfl sz3 rfl rfl hsp fun h51 u51 => ?_;replace f0 := f0.upd u51 (by omega);replace f1 := f1.upd u51 (by omega);replace f4 := u51.has f4;replace e0 := e0.upd u51 (by omega);replace e35 := e35.upd u51 (by omega);apply gE;apply gS;refine gR rfl ?_;refine gP ?_;apply gE;apply gS;refine Go.block noJ_ok ?_;apply gS;refine gR rfl ?_;refine gO rfl rfl (ld26 rfl f0 rfl) rfl ?_;refine gO rfl rfl (ld27 rfl f4 rfl) rfl ?_;refine GoR.call rfl rfl (aCF aFunc31 rfl) (hPl _ (A.ext e0)) ?_ np;rintro v52 h52 ⟨q, x52⟩;cases q;refine ⟨_, rfl, ?_⟩;replace f0 := f0.ext x52;replace f1 := f1.ext x52;replace f4 := f4.ext x52;replace e0 := e0.trans x52;replace e35 := e35.trans x52;iterate 2 refine gP ?_
       apply gE;refine gC (b := false) rfl ?_;apply gS;refine Go.drawnE plan8_1 ?_;refine gQ rfl rfl (ld51 rfl f1 rfl) rfl ?_;refine gQ rfl rfl (ld26 rfl f0 rfl) rfl ?_;refine gQ rfl rfl rfl rfl ?_;refine gQ rfl rfl (ld27 rfl f4 rfl) rfl ?_;iterate 2 refine gQ rfl rfl rfl rfl ?_
       refine gQ rfl rfl (fa26_2 rfl) rfl ?_;refine gQ rfl rfl (aOp_indexAddrArr (i := i) Try.underlying27 sz3 rfl rfl (Nat.ble_eq_true_of_le hi)) rfl ?_;refine gQ rfl rfl (ld3 rfl f0 (lm_get hi)) rfl ?_;refine GoE.call rfl rfl (aCF aFunc27 rfl) (htw _ (A.ext e0) (sR.ext e35) (sF.ext e35)) (dK 15 11 (dK 15 10 (dK 15 9 (dK 15 8 (dK 15 5 (dD 15 3 (dD 15 2 (dD 15 1 (dD 15 0 rfl))))))))) ?_ (by rintro _ _ ⟨v8, b8, o8, q, _, r7, r8, hv1, e81⟩; cases q);rintro v53 h53 ⟨v8, b8, o8, q, x53, r7, r8, hv1, e81⟩;cases q;replace f0 := f0.ext x53;replace e0 := e0.trans x53;refine ⟨(rck (h2 := h53) rfl (ld3 rfl f0 (lm_get hi)) (rck (h2 := h53) rfl (aOp_indexAddrArr (i := i) Try.underlying27 sz3 rfl rfl (Nat.ble_eq_true_of_le hi)) (rck (h2 := h53) rfl (fa26_2 rfl) (rck (h2 := h53) rfl (rfl) (rck (h2 := h53) rfl (rfl) recheck_nil))))), _, rfl, ?_⟩;refine gQ rfl rfl (aOp_indexAddr (i := d) Try.underlying49 sz3 rfl r7 rfl (Nat.ble_eq_true_of_le (by omega))) rfl ?_;refine gQ rfl rfl (aOp_loadE1 (k := 0) ag3 rfl (r8.ext e81) rfl) rfl ?_;refine gQ rfl rfl (kGT rfl rfl) rfl ?_;refine gQ rfl rfl rfl rfl ?_;refine GoE.end rfl ?_;refine gC (b := true) rfl ?_;refine gR rfl ?_;refine gP ?_;apply gE;refine Go.inBlock noJ_ok ?_;apply gS;refine gR rfl ?_;refine gP ?_;refine gO rfl rfl (kXT rfl rfl) rfl ?_;apply gE;refine gC (b := true) rfl ?_;apply gS;refine gR rfl ?_;refine gP ?_;refine gO rfl rfl (kET rfl rfl) rfl ?_;iterate 3 refine gP ?_
       refine gO rfl rfl (kET rfl rfl) rfl ?_;iterate 4 refine gP ?_
       refine gO rfl rfl (kET rfl rfl) rfl ?_;iterate 4 refine gP ?_
       refine gO rfl rfl (kET rfl rfl) rfl ?_;iterate 2 refine gP ?_
       refine GoR.call rfl rfl (aCF aFunc13 rfl) (awake_ok) ?_ np;rintro v54 h54 ⟨q, x54⟩;cases q;refine ⟨_, rfl, ?_⟩;replace e0 := e0.trans x54;iterate 2 refine gP ?_
       apply gE;exact gW Try.func8 rfl rfl ⟨rfl, e0⟩
     ·rw [if_pos c2] at hr';rw [decide_eq_false c2] at hPl
      unfold FootV.cells Pl.cells at hPl
      subst hr'
      obtain ⟨rfl, rfl, rfl, rfl⟩ := hbS _ _ _ (hbad (by decide))
      apply gS;refine gR rfl ?_;refine gO rfl rfl (kLT rfl rfl) rfl ?_;apply gE;apply gS;refine gC (b := true) rfl ?_;refine gD ?_;apply gS;refine Go.block noJ_ok ?_;apply gS;refine gR rfl ?_;refine gP ?_;refine gO rfl rfl (aOp_indexArr (i := i) Try.underlying27 sz3 rfl rfl (Nat.ble_eq_true_of_le hi) (partT_one ag3 hget)) rfl ?_;iterate 2 refine gP ?_
      apply gE;iterate 2 apply gS
      refine gR rfl ?_;refine gP ?_;refine gO rfl rfl (kLF rfl rfl) rfl ?_;apply gE;refine gC (b := false) rfl ?_;refine gD ?_;apply gS;refine gR rfl ?_;iterate 2 refine gP ?_
      refine gO rfl rfl (aOp_indexAddrArr (i := i) Try.underlying27 sz3 rfl rfl (Nat.ble_eq_true_of_le hi)) rfl ?_;refine GoR.store rfl rfl rfl rfl rfl rfl f4 rfl sz3 rfl rfl hsp fun h51 u51 => ?_;replace f0 := f0.upd u51 (by omega);replace f4 := u51.has f4;replace e0 := e0.upd u51 (by omega);apply gE;apply gS;refine gR rfl ?_;refine gP ?_;apply gE;apply gS;refine Go.block noJ_ok ?_;apply gS;refine gR rfl ?_;refine gO rfl rfl (ld26 rfl f0 rfl) rfl ?_;refine gO rfl rfl (ld27 rfl f4 rfl) rfl ?_;refine GoR.call rfl rfl (aCF aFunc31 rfl) (hPl _ (A.ext e0)) ?_ np;rintro v52 h52 ⟨q, x52⟩;cases q;refine ⟨_, rfl, ?_⟩;replace e0 := e0.trans x52;iterate 2 refine gP ?_
      apply gE;refine gC (b := true) rfl ?_;refine gR rfl ?_;refine gP ?_;apply gE;refine Go.inBlock noJ_ok ?_;apply gS;refine gR rfl ?_;refine gP ?_;refine gO rfl rfl (kXT rfl rfl) rfl ?_;apply gE;refine gC (b := true) rfl ?_;apply gS;refine gR rfl ?_;refine gP ?_;refine gO rfl rfl (kET rfl rfl) rfl ?_;iterate 3 refine gP ?_
      refine gO rfl rfl (kET rfl rfl) rfl ?_;iterate 4 refine gP ?_
      refine gO rfl rfl (kET rfl rfl) rfl ?_;iterate 4 refine gP ?_
      refine gO rfl rfl (kET rfl rfl) rfl ?_;iterate 2 refine gP ?_
      refine GoR.call rfl rfl (aCF aFunc13 rfl) (awake_ok) ?_ np;rintro v53 h53 ⟨q, x53⟩;cases q;refine ⟨_, rfl, ?_⟩;replace e0 := e0.trans x53;iterate 2 refine gP ?_
      apply gE;exact gW Try.func8 rfl rfl ⟨rfl, e0⟩
   ·have hi3 : i = 3 := by omega
    subst hi3;clear again3;apply gS;refine gR rfl ?_;refine gO rfl rfl (kLF rfl rfl) rfl ?_;apply gE;apply gS;refine gC (b := false) rfl ?_;refine gD ?_;apply gS;refine gR rfl ?_;refine gO rfl rfl (ld27 rfl f3 rfl) rfl ?_;refine gP ?_;apply gE;refine Go.block noJ_ok ?_
    have hsti := stA_in M k
    refine Go.loopKeep (fun a : Nat × List AMapE × Nat × List (Int × AVal) => [(2, .ptr h.next 0), (10, .int .i64 b0), (11, .int .i64 b1), (12, .int .i64 b2), (13, .int .i64 b4), (14, .ptr h22.next 0), (15, .map h24.next), (86, sa), (87, .int .i64 F.hs.length), (88, .int .i64 (k : Nat)), (153, .agg [.int .i64 p.a, .int .i64 p.b, .int .i64 p.c]), (154, .int .i64 (a.1 : Nat))])
     (fun m a h' => m + a.1 = 3 ∧ Ext h h' ∧ Ext h20 h' ∧ Ext h22 h' ∧ Has h' h.next (.cells .plain [rsl, .int .i64 F.men, .int .i64 F.l0, .int .i64 F.l1, .int .i64 F.l2, .int .i64 F.d0, .int .i64 F.d1, .int .i64 F.d2, hsl] 26) ∧ Has h' h22.next (.cells .plain [rs, fs] 51) ∧ Has h' h24.next (.map a.2.1 a.2.2.1) ∧ MapI a.2.1 a.2.2.2 ∧ (∀ d : Nat, (findI d a.2.2.2).getD (.int .i64 0) = .int .i64 (((stK (stA M k) p a.1)[d]?).getD 0)))
     (n := 3) (0, es, cl, f) ⟨rfl, rfl, rfl, rfl, rfl, rfl, rfl, rfl, rfl, rfl, rfl, rfl, trivial⟩ ⟨rfl, e0, e20, e35, f0, f1, f2, hMI, hval⟩ ?_
    clear e0 e20 e35 f0 f1 f2 f3 f4 hMI hval;rintro mi ⟨i, es, cl, f⟩ h60 ⟨hmi, e0, e20, e35, f0, f1, f2, hMI, hval⟩ again3
    dsimp only at hmi f2 hMI hval ⊢
    have n4 := f0.1
    have n5 := f1.1
    have n6 := f2.1
    by_cases hi : i < 3
    ·have hget := at_get (p := p) hi
     rw [Nat.zero_add] at hget
     have hn := at_num hpn i
     by_cases c1 : p.at i = -1
     ·rw [c1] at hget;apply gS;refine gR rfl ?_;refine gO rfl rfl (kLT rfl rfl) rfl ?_;apply gE;apply gS;refine gC (b := true) rfl ?_;refine gD ?_;apply gS;refine Go.block noJ_ok ?_;apply gS;refine gR rfl ?_;refine gO rfl rfl (aOp_indexArr (i := i) Try.underlying27 sz3 rfl rfl (Nat.ble_eq_true_of_le hi) (partT_one ag3 hget)) rfl ?_;refine gP ?_;apply gE;apply gS;refine gR rfl ?_;refine gP ?_;refine gO rfl rfl (kNF rfl rfl) rfl ?_;apply gE;refine gC (b := false) rfl ?_;refine gD ?_;refine Go.inBlock noJ_ok ?_;refine gR rfl ?_;refine gO rfl rfl (aA rfl rfl) rfl ?_;refine gP ?_;apply gE;exact again3 (mi - 1) (i + 1, es, cl, f) _ _ (by omega) ⟨rfl, rfl, rfl, rfl, rfl, rfl, rfl, rfl, rfl, rfl, rfl, rfl, trivial⟩ ⟨by dsimp only; omega, e0, e20, e35, f0, f1, f2, hMI, by rw [stK_next hi, c1, addDay_none]; exact hval⟩
     ·obtain ⟨d, hd⟩ : ∃ d : Nat, p.at i = d := Int.eq_ofNat_of_zero_le (by omega)
      have hdn : d < F.rs.length := by omega
      rw [hd] at hget
      obtain ⟨v, hv⟩ : ∃ v, ((stK (stA M k) p i)[d]?).getD 0 = v := ⟨_, rfl⟩
      have hvb := getD_in (stK_in8 (p := p) (i := i) hsti (by omega) (by omega)) (by omega) d
      rw [hv] at hvb
      have hvd := hval d
      rw [hv] at hvd;apply gS;refine gR rfl ?_;refine gO rfl rfl (kLT rfl rfl) rfl ?_;apply gE;apply gS;refine gC (b := true) rfl ?_;refine gD ?_;apply gS;refine Go.block noJ_ok ?_;apply gS;refine gR rfl ?_;refine gO rfl rfl (aOp_indexArr (i := i) Try.underlying27 sz3 rfl rfl (Nat.ble_eq_true_of_le hi) (partT_one ag3 hget)) rfl ?_;refine gP ?_;apply gE;apply gS;refine gR rfl ?_;refine gP ?_;refine gO rfl rfl (kNT rfl rfl) rfl ?_;apply gE;refine gC (b := true) rfl ?_;refine gR rfl ?_;iterate 2 refine gP ?_
      refine gO rfl rfl (aOp_lookupV Try.underlying68 Try.underlying3 zt3 rfl rfl f2 hMI hvd) rfl ?_;refine gO rfl rfl (aA rfl rfl) rfl ?_;refine GoR.mapUpdateI rfl rfl Try.underlying68 Try.underlying3 rfl rfl rfl rfl f2 hMI fun es' c' h61 u61 hMI2 => ?_;replace f2 := u61.has f2;replace f0 := f0.upd u61 (by omega);replace f1 := f1.upd u61 (by omega);replace e0 := e0.upd u61 (by omega);replace e20 := e20.upd u61 (by omega);replace e35 := e35.upd u61 (by omega);apply gE;refine Go.inBlock noJ_ok ?_;refine gR rfl ?_;refine gO rfl rfl (aA rfl rfl) rfl ?_;refine gP ?_;apply gE;refine again3 (mi - 1) (i + 1, es', c', setI d (.int .i64 (v + 1)) f) _ _ (by omega) ⟨rfl, rfl, rfl, rfl, rfl, rfl, rfl, rfl, rfl, rfl, rfl, rfl, trivial⟩ ⟨by dsimp only; omega, e0, e20, e35, f0, f1, f2, hMI2, fun d' => ?_⟩
      dsimp only
      rw [findI_set, stK_next hi, hd, addDay_at (by rw [stK_len8, stA_len]; omega)]
      by_cases q : d' = d
      ·subst q;rw [if_pos rfl, if_pos rfl, hv]
       rfl
      ·rw [if_neg q, if_neg (by omega)];exact hval d'
    ·have hi3 : i = 3 := by omega
     subst hi3;clear again3;apply gS;refine gR rfl ?_;refine gO rfl rfl (kLF rfl rfl) rfl ?_;apply gE;apply gS;refine gC (b := false) rfl ?_;refine gD ?_;refine Go.inBlock noJ_ok ?_;refine gR rfl ?_;refine gO rfl rfl (aA rfl rfl) rfl ?_;refine gP ?_;apply gE
     have hst : stA M (k + 1) = withV (stA M k) p := by
      show (match M[k]? with | some p => withV (stA M k) p | none => stA M k) = _
      rw [hp]
     refine again (m - 1) (k + 1, es, cl, f) _ _ (by omega) ⟨rfl, rfl, rfl, rfl, rfl, rfl, rfl, rfl, rfl, rfl, trivial⟩ ⟨by dsimp only; omega, e0, e20, e35, f0, f1, f2, hMI, by rw [hst]; exact hval, fun j p2 q hp2 => ?_⟩
     rcases Nat.lt_or_ge j k with q' | q'
     ·exact hdone j p2 q' hp2
     ·have q'' : j < k + 1 := q
      have ejk : j = k := by omega
      subst ejk;rw [hp] at hp2;cases hp2;exact hrules
  ·have hkn : k = F.hs.length := by omega
   subst hkn
   have hnone2 : F.bad zero8 0 M = none := by
    rw [bad_from M.length (Nat.le_refl _) (fun j p q => hdone j p (by omega)), List.drop_length]
    rfl
   obtain ⟨rfl, rfl, rfl, rfl⟩ := hbN hnone2
   apply gS;refine gR rfl ?_;refine gO rfl rfl (kLF rfl rfl) rfl ?_;apply gE;apply gS;refine gC (b := false) rfl ?_;refine gD ?_;apply gS;refine gR rfl ?_;refine gP ?_;refine gO rfl rfl (kET rfl rfl) rfl ?_;iterate 2 refine gP ?_
   refine gO rfl rfl (kET rfl rfl) rfl ?_;iterate 3 refine gP ?_
   refine gO rfl rfl (kET rfl rfl) rfl ?_;iterate 3 refine gP ?_
   refine gO rfl rfl (kET rfl rfl) rfl ?_;iterate 2 refine gP ?_
   refine GoR.call rfl rfl (aCF aFunc13 rfl) (awake_ok) ?_ np;rintro v41 h41 ⟨q, x41⟩;cases q;refine ⟨_, rfl, ?_⟩;replace e0 := e0.trans x41;iterate 2 refine gP ?_
   apply gE;exact gW Try.func8 rfl rfl ⟨rfl, e0⟩
theorem law8 {F : FootV} {rsl hsl s : AVal} {h : AH} (A : FootAt h F rsl hsl) {bs : List Int} (hbs : ∀ x, x ∈ bs → -128 ≤ x ∧ x ≤ 127) (hlen : bs.length < 9223372036854775808) (hs : SliceOf h 1 s (i8v bs)) :
  Runs Try.prog 8 [.agg (F.cells rsl hsl), s] h (fun en h' => en = .ret (.bool true) ∧ Ext h h') := by
 by_cases O : F.Ok
 ·exact law8_ok O hbs hlen A hs
 ·exact law8_no (not_fine O A)
end Go.Proofs.Ytmimdgjehnhnoaa

namespace Go.AbsE
open Go Go.RowKit
section
variable {P : Program}
theorem VRs.ints {e : Env} : ∀ l : List Int, VRs e (l.map fun x => AVal.int .i64 x) (l.map fun x => Value.int .i64 x) := by
 intro l
 induction l with
 | nil => exact .nil
 | cons a l ih => exact .cons (.int _ _) ih
theorem HR.openWin {e : Env} {h : AH} {W : World} (r : HR P (Base.all W) e h W) {B lo : Nat} {PRE CS junk : List Value} {el : TypeId} {fr : Nat × Nat} {cs : List AVal} (hB : W.heap[B]? = some (.cells (PRE ++ (CS ++ junk)).toArray el fr)) (hp : PRE.length = lo) (hv : ∀ e, VRs e cs CS) :
  ∃ e' h', Env.le e e' ∧ HR P (Base.all W) e' h' W ∧ Ext h h' ∧ e' h.next = some (B, 0) ∧ Has h' h.next (.win lo cs) := by
 obtain ⟨h', k⟩ := new_some h (.win lo cs)
 obtain ⟨_, x1, x2⟩ := new_ext k
 obtain ⟨n1, n2, n3⟩ := AH.get_new k
 have hle := Env.le_ext (x := (B, 0)) r.fresh
 have hlt := (Array.getElem?_eq_some_iff.1 hB).1
 refine ⟨e.ext h.next (B, 0), h', hle, ?_, x1, Env.ext_same _ _ _, x2⟩
 refine { dom := ?_, blk := ?_, inj := ?_, imm := ?_, os := r.os, tape := r.tape, output := r.output, size := r.size, old := r.old, young := r.young }
 ·intro b' x kx
  rw [Env.ext_at] at kx
  by_cases hb' : b' = h.next
  ·omega
  ·rw [if_neg hb'] at kx; have := r.dom _ _ kx; omega
 ·intro b' o' kx
  rw [n3] at kx
  by_cases hb' : b' = h.next
  ·rw [if_pos hb'] at kx
   cases kx
   subst hb'
   exact ⟨B, 0, _, Env.ext_same _ _ _, (fun q => by cases q), hB, .win (hv _) hp⟩
  ·rw [if_neg hb'] at kx
   obtain ⟨B', c', O', k1, k2, k3, k4⟩ := r.blk _ _ kx
   exact ⟨B', c', O', hle.1 _ _ k1, k2, k3, k4.mono hle⟩
 ·intro b1 b2 B1 c1 c2 o1 o2 k1 k2 hro e1 e2
  rw [n3] at k1 k2
  rw [Env.ext_at] at e1 e2
  by_cases q1 : b1 = h.next
  ·rw [if_pos q1] at k1; cases k1; cases hro
  ·rw [if_neg q1] at k1 e1
   by_cases q2 : b2 = h.next
   ·rw [if_pos q2] at e2
    cases e2
    obtain ⟨B', c', O', j1, j2, _, _⟩ := r.blk _ _ k1
    rw [e1] at j1
    cases j1
    exact absurd hlt (j2 hro)
   ·rw [if_neg q2] at k2 e2
    exact r.inj _ _ _ _ _ _ _ k1 k2 hro e1 e2
 ·intro B1 CS' hi
  obtain ⟨i1, i2⟩ := r.imm B1 CS' hi
  refine ⟨i1, fun b' o' c' kx hro ke => ?_⟩
  rw [n3] at kx
  rw [Env.ext_at] at ke
  by_cases q : b' = h.next
  ·rw [if_pos q] at kx; cases kx; cases hro
  ·rw [if_neg q] at kx ke; exact i2 b' o' c' kx hro ke
end
end Go.AbsE

namespace Go.AbsE
open Go Go.RowKit
section
variable {P : Program}
theorem VRs.kinds {K : Type} {va : K → AVal} {vv : K → Value} (hvr : ∀ e x, VR e (va x) (vv x)) {e : Env} : ∀ l : List K, VRs e (l.map fun x => va x) (l.map fun x => vv x) := by
 intro l
 induction l with
 | nil => exact .nil
 | cons a l ih => exact .cons (hvr _ _) ih
theorem rowsG_eq {K : Type} {vv : K → Value} {C : List Value} {off sz : Nat} : ∀ (len : Nat) (f : Nat → List K), (∀ i, i < len → (f i).length = sz ∧ ∀ k n, (f i)[k]? = some n → C[off + i * sz + k]? = some (vv n)) →
  (C.drop off).take (len * sz) = (((List.range len).map f).flatten).map fun x => vv x := by
 intro len
 induction len with
 | zero => intro f _; simp
 | succ len ih =>
  intro f hf
  have h1 := ih f fun i hi => hf i (by omega)
  obtain ⟨l1, l2⟩ := hf len (by omega)
  rw [Nat.add_mul, Nat.one_mul, List.take_add, h1, List.range_succ, List.map_append, List.flatten_append, List.map_append]
  congr 1
  simp only [List.map_cons, List.map_nil, List.flatten_cons, List.flatten_nil, List.append_nil]
  rw [List.drop_drop]
  refine List.ext_getElem? fun k => ?_
  rw [List.getElem?_take, List.getElem?_drop, List.getElem?_map]
  by_cases hk : k < sz
  ·rw [if_pos hk]
   obtain ⟨n, hn⟩ : ∃ n, (f len)[k]? = some n := ⟨(f len)[k]'(by omega), by simp⟩
   rw [hn]
   exact l2 k n hn
  ·rw [if_neg hk]
   have : (f len)[k]? = none := by simp; omega
   rw [this]
   rfl
theorem HR.openRowsG {K : Type} (va : K → AVal) (vv : K → Value) (hvr : ∀ e x, VR e (va x) (vv x)) {e : Env} {h : AH} {W : World} (r : HR P (Base.all W) e h W) {a : Addr} {len cap sz : Nat} {C : Array Value} {el : TypeId} {fr : Nat × Nat} (hB : W.heap[a.block]? = some (.cells C el fr)) (hspot : a.spot = none) (f : Nat → List K)
  (hf : ∀ i, i < len → (f i).length = sz ∧ ∀ k n, (f i)[k]? = some n → W.cell? (a.add (i * sz + k)) = some (vv n)) :
  ∃ e' h' s, Env.le e e' ∧ HR P (Base.all W) e' h' W ∧ Ext h h' ∧ VR e' s (.slice (some a) len cap) ∧ SliceOf h' sz s (((List.range len).map f).map fun l => l.map fun x => va x) ∧ sameA s s = true := by
 obtain ⟨B, off, spot⟩ := a
 dsimp only at hB hspot
 subst hspot
 have hcell : ∀ i, i < len → (f i).length = sz ∧ ∀ k n, (f i)[k]? = some n → C.toList[off + i * sz + k]? = some (vv n) := fun i hi => by
  obtain ⟨h1, h2⟩ := hf i hi
  refine ⟨h1, fun k n hn => ?_⟩
  have := h2 k n hn
  have e1 := addr_add B off (i * sz + k)
  rw [e1] at this
  unfold World.cell? at this
  rw [hB] at this
  simp only [Option.isSome_none, Bool.false_eq_true, if_false] at this
  rw [Array.getElem?_toList, Nat.add_assoc]
  exact this
 have hrows := rowsG_eq len f hcell
 let R := (List.range len).map f
 have hRl : ∀ l, l ∈ R → l.length = sz := fun l hl => by
  obtain ⟨i, hi, rfl⟩ := List.mem_map.1 hl
  exact (hf i (List.mem_range.1 hi)).1
 have hRlen : R.length = len := by simp [R]
 have hlen : (C.toList.drop off).take (len * sz) = (R.flatten).map fun x => vv x := hrows
 have hfl : R.flatten.length = len * sz := by
  have : ∀ {L : List (List K)}, (∀ l, l ∈ L → l.length = sz) → L.flatten.length = L.length * sz := by
   intro L
   induction L with
   | nil => intro _; simp
   | cons a L ih => intro h; simp only [List.flatten_cons, List.length_append, h a (by simp), ih fun l q => h l (by simp [q]), List.length_cons, Nat.add_mul]; omega
  rw [this hRl, hRlen]
 by_cases h0 : len * sz = 0
 ·-- nothing of it is read
  obtain ⟨e', h', k1, k2, k3, k4, k5⟩ := r.openWin (B := B) (lo := 0) (PRE := []) (CS := []) (junk := C.toList) (el := el) (fr := fr) (cs := []) (by simpa using hB) rfl (fun _ => .nil)
  refine ⟨e', h', .slice h.next off len cap, k1, k2, k3, .slice k4, .mk rfl rfl k5.1 (by simp) (fun l hl => ?_) ?_, by simp [sameA]⟩
  ·obtain ⟨x, hx, rfl⟩ := List.mem_map.1 hl
   rw [List.length_map]
   exact hRl x hx
  ·have hnil : R.flatten = [] := List.eq_nil_of_length_eq_zero (by omega)
   unfold loadCells
   rw [k5.2]
   have e1 : ((R.map fun l => l.map fun x => va x).length * sz) = 0 := by rw [List.length_map, hRlen]; exact h0
   have e2 : (R.map fun l => l.map fun x => va x).flatten = [] := by rw [← List.map_flatten, hnil]; rfl
   show cond (Nat.ble 0 off) (slice? [] (off - 0) ((R.map fun l => l.map fun x => va x).length * sz)) none = some _
   rw [e1, e2, show Nat.ble 0 off = true from Nat.ble_eq_true_of_le (Nat.zero_le _)]
   simp [slice?]
 ·have hle : off + len * sz ≤ C.toList.length := by
   have : ((C.toList.drop off).take (len * sz)).length = len * sz := by rw [hlen, List.length_map, hfl]
   rw [List.length_take, List.length_drop] at this
   omega
  have hC : C = (C.toList.take off ++ ((R.flatten.map fun x => vv x) ++ C.toList.drop (off + len * sz))).toArray := by
   rw [← hlen]
   have : C.toList.take off ++ ((C.toList.drop off).take (len * sz) ++ C.toList.drop (off + len * sz)) = C.toList := by
    rw [← List.drop_drop, List.take_append_drop, List.take_append_drop]
   rw [this]
  obtain ⟨e', h', k1, k2, k3, k4, k5⟩ := r.openWin (B := B) (lo := off) (PRE := C.toList.take off) (CS := R.flatten.map fun x => vv x) (junk := C.toList.drop (off + len * sz)) (el := el) (fr := fr) (cs := R.flatten.map fun x => va x) (by rw [← hC]; exact hB) (by rw [List.length_take]; omega) (fun _ => VRs.kinds hvr _)
  refine ⟨e', h', .slice h.next off len cap, k1, k2, k3, .slice k4, .mk rfl rfl k5.1 (by simp) (fun l hl => ?_) ?_, by simp [sameA]⟩
  ·obtain ⟨x, hx, rfl⟩ := List.mem_map.1 hl
   rw [List.length_map]
   exact hRl x hx
  ·unfold loadCells
   rw [k5.2]
   have e1 : ((R.map fun l => l.map fun x => va x).length * sz) = len * sz := by rw [List.length_map, hRlen]
   have e2 : (R.map fun l => l.map fun x => va x).flatten = R.flatten.map fun x => va x := by rw [← List.map_flatten]
   show cond (Nat.ble off off) (slice? (R.flatten.map fun x => va x) (off - off) ((R.map fun l => l.map fun x => va x).length * sz)) none = some _
   rw [e1, e2, show Nat.ble off off = true from Nat.ble_eq_true_of_le (Nat.le_refl _), Nat.sub_self]
   exact slice_all (by rw [List.length_map, hfl])
end
end Go.AbsE

namespace Go.AbsE
open Go Go.RowKit
section
variable {P : Program}
theorem HR.openRowsC {K : Type} (va : K → AVal) (vv : K → Value) (hvr : ∀ e x, VR e (va x) (vv x)) {e : Env} {h : AH} {W : World} (r : HR P (Base.all W) e h W) {a : Addr} {len cap sz : Nat} {C : Array Value} {el : TypeId} {fr : Nat × Nat} (hB : W.heap[a.block]? = some (.cells C el fr)) (hspot : a.spot = none) (f : Nat → List K)
  (hf : ∀ i, i < len → (f i).length = sz ∧ ∀ k n, (f i)[k]? = some n → W.cell? (a.add (i * sz + k)) = some (vv n)) :
  ∃ e' h' s, Env.le e e' ∧ HR P (Base.all W) e' h' W ∧ Ext h h' ∧ VR e' s (.slice (some a) len cap) ∧ SliceOf h' sz s (((List.range len).map f).map fun l => l.map fun x => va x) ∧ sameA s s = true ∧ ∃ b o, s = .slice b o len cap := by
 obtain ⟨B, off, spot⟩ := a
 dsimp only at hB hspot
 subst hspot
 have hcell : ∀ i, i < len → (f i).length = sz ∧ ∀ k n, (f i)[k]? = some n → C.toList[off + i * sz + k]? = some (vv n) := fun i hi => by
  obtain ⟨h1, h2⟩ := hf i hi
  refine ⟨h1, fun k n hn => ?_⟩
  have := h2 k n hn
  have e1 := addr_add B off (i * sz + k)
  rw [e1] at this
  unfold World.cell? at this
  rw [hB] at this
  simp only [Option.isSome_none, Bool.false_eq_true, if_false] at this
  rw [Array.getElem?_toList, Nat.add_assoc]
  exact this
 have hrows := rowsG_eq len f hcell
 let R := (List.range len).map f
 have hRl : ∀ l, l ∈ R → l.length = sz := fun l hl => by
  obtain ⟨i, hi, rfl⟩ := List.mem_map.1 hl
  exact (hf i (List.mem_range.1 hi)).1
 have hRlen : R.length = len := by simp [R]
 have hlen : (C.toList.drop off).take (len * sz) = (R.flatten).map fun x => vv x := hrows
 have hfl : R.flatten.length = len * sz := by
  have : ∀ {L : List (List K)}, (∀ l, l ∈ L → l.length = sz) → L.flatten.length = L.length * sz := by
   intro L
   induction L with
   | nil => intro _; simp
   | cons a L ih => intro h; simp only [List.flatten_cons, List.length_append, h a (by simp), ih fun l q => h l (by simp [q]), List.length_cons, Nat.add_mul]; omega
  rw [this hRl, hRlen]
 by_cases h0 : len * sz = 0
 ·-- nothing of it is read
  obtain ⟨e', h', k1, k2, k3, k4, k5⟩ := r.openWin (B := B) (lo := 0) (PRE := []) (CS := []) (junk := C.toList) (el := el) (fr := fr) (cs := []) (by simpa using hB) rfl (fun _ => .nil)
  refine ⟨e', h', .slice h.next off len cap, k1, k2, k3, .slice k4, .mk rfl rfl k5.1 (by simp) (fun l hl => ?_) ?_, by simp [sameA], _, _, rfl⟩
  ·obtain ⟨x, hx, rfl⟩ := List.mem_map.1 hl
   rw [List.length_map]
   exact hRl x hx
  ·have hnil : R.flatten = [] := List.eq_nil_of_length_eq_zero (by omega)
   unfold loadCells
   rw [k5.2]
   have e1 : ((R.map fun l => l.map fun x => va x).length * sz) = 0 := by rw [List.length_map, hRlen]; exact h0
   have e2 : (R.map fun l => l.map fun x => va x).flatten = [] := by rw [← List.map_flatten, hnil]; rfl
   show cond (Nat.ble 0 off) (slice? [] (off - 0) ((R.map fun l => l.map fun x => va x).length * sz)) none = some _
   rw [e1, e2, show Nat.ble 0 off = true from Nat.ble_eq_true_of_le (Nat.zero_le _)]
   simp [slice?]
 ·have hle : off + len * sz ≤ C.toList.length := by
   have : ((C.toList.drop off).take (len * sz)).length = len * sz := by rw [hlen, List.length_map, hfl]
   rw [List.length_take, List.length_drop] at this
   omega
  have hC : C = (C.toList.take off ++ ((R.flatten.map fun x => vv x) ++ C.toList.drop (off + len * sz))).toArray := by
   rw [← hlen]
   have : C.toList.take off ++ ((C.toList.drop off).take (len * sz) ++ C.toList.drop (off + len * sz)) = C.toList := by
    rw [← List.drop_drop, List.take_append_drop, List.take_append_drop]
   rw [this]
  obtain ⟨e', h', k1, k2, k3, k4, k5⟩ := r.openWin (B := B) (lo := off) (PRE := C.toList.take off) (CS := R.flatten.map fun x => vv x) (junk := C.toList.drop (off + len * sz)) (el := el) (fr := fr) (cs := R.flatten.map fun x => va x) (by rw [← hC]; exact hB) (by rw [List.length_take]; omega) (fun _ => VRs.kinds hvr _)
  refine ⟨e', h', .slice h.next off len cap, k1, k2, k3, .slice k4, .mk rfl rfl k5.1 (by simp) (fun l hl => ?_) ?_, by simp [sameA], _, _, rfl⟩
  ·obtain ⟨x, hx, rfl⟩ := List.mem_map.1 hl
   rw [List.length_map]
   exact hRl x hx
  ·unfold loadCells
   rw [k5.2]
   have e1 : ((R.map fun l => l.map fun x => va x).length * sz) = len * sz := by rw [List.length_map, hRlen]
   have e2 : (R.map fun l => l.map fun x => va x).flatten = R.flatten.map fun x => va x := by rw [← List.map_flatten]
   show cond (Nat.ble off off) (slice? (R.flatten.map fun x => va x) (off - off) ((R.map fun l => l.map fun x => va x).length * sz)) none = some _
   rw [e1, e2, show Nat.ble off off = true from Nat.ble_eq_true_of_le (Nat.le_refl _), Nat.sub_self]
   exact slice_all (by rw [List.length_map, hfl])
end
end Go.AbsE

namespace Go.Proofs.Ytmimdgjehnhnoaa
open Go Go.AbsE Go.ChangeShapes Go.WideShapes Go.ChangeAt Go.RowKit
set_option linter.unusedSimpArgs false
set_option maxRecDepth 100000
set_option linter.unusedVariables false
theorem cells26 : Try.prog.cellsOf 26 = 9 := by kernel_rfl
theorem cells3 : Try.prog.cellsOf 3 = 1 := by kernel_rfl
theorem cells72 : Try.prog.cellsOf 72 = 3 := by kernel_rfl
theorem cells31 : Try.prog.cellsOf 31 = 2 := by kernel_rfl
theorem cells22 : Try.prog.cellsOf 22 = 1 := by kernel_rfl
theorem cells23 : Try.prog.cellsOf 23 = 3 := by kernel_rfl
theorem cells24 : Try.prog.cellsOf 24 = 1 := by kernel_rfl
theorem ctypes26 : Try.prog.cellTypes Try.prog.depth 26 = some [22, 3, 3, 3, 3, 3, 3, 3, 24] := by kernel_rfl
theorem laidOut : laidOutB Try.prog = true := by kernel_rfl
def inI64 (n : Int) : Prop := -9223372036854775808 ≤ n ∧ n ≤ 9223372036854775807
theorem wf_in {n : Int} (h : (Lit.int .i64 n).wf = true) : inI64 n := by
 simp only [Lit.wf, Bool.and_eq_true, decide_eq_true_eq] at h
 have h1 : IntKind.i64.min = -9223372036854775808 := by decide
 have h2 : IntKind.i64.max = 9223372036854775807 := by decide
 rw [h1, h2] at h
 constructor <;> omega
variable {H : Type} {enc : TypeId × Value → H} {W : World} {base : Nat} {spare : Nat → Bool} {held : Bool}
theorem int_row {n : Nat} {cs : List Value} {x : DataW H × List MemPlace} (h : DataW.trod enc Try.prog W base spare held n 3 cs = some x) : ∃ a : Int, cs = [.int .i64 a] ∧ inI64 a := by
 obtain ⟨a, h1, _, h3⟩ := DataW.trod_int Try.underlying3 h
 exact ⟨a, h1, wf_in h3⟩
theorem span_row {n : Nat} {cs : List Value} {x : DataW H × List MemPlace} (h : DataW.trod enc Try.prog W base spare held n 31 cs = some x) : ∃ a b : Int, cs = [.int .i64 a, .int .i64 b] := by
 obtain ⟨y0, y1, k, _, hl, h0, h1⟩ := ChangeShapes.trod_struct2 Try.underlying31 h
 rw [cells31] at hl
 dsimp only at h0 h1
 rw [cells3] at h0 h1
 obtain ⟨a, ha, _⟩ := int_row h0
 obtain ⟨b, hb, _⟩ := int_row h1
 match cs, hl with
 | [c0, c1], _ =>
  simp at ha hb
  exact ⟨a, b, by rw [ha, hb]⟩
theorem rain_row {n : Nat} {cs : List Value} {x : DataW H × List MemPlace} (h : DataW.trod enc Try.prog W base spare held n 31 cs = some x) : ∃ r : List Int, r.length = 2 ∧ cs = r.map fun x => Value.int .i64 x := by
 obtain ⟨a, b, q⟩ := span_row h
 exact ⟨[a, b], rfl, q⟩
theorem heap_row {n : Nat} {cs : List Value} {x : DataW H × List MemPlace} (h : DataW.trod enc Try.prog W base spare held n 72 cs = some x) : ∃ r : List Int, r.length = 3 ∧ cs = r.map fun x => Value.int .i64 x := by
 obtain ⟨y0, y1, k, _, hl, h0, h1⟩ := ChangeShapes.trod_struct2 Try.underlying72 h
 rw [cells72] at hl
 dsimp only at h0 h1
 rw [cells31] at h0
 rw [cells3] at h1
 obtain ⟨a, b, ha⟩ := span_row h0
 obtain ⟨c, hc, _⟩ := int_row h1
 match cs, hl with
 | [c0, c1, c2], _ =>
  simp at ha hc
  exact ⟨[a, b, c], rfl, by rw [ha.1, ha.2, hc]; rfl⟩
theorem slice_okw {t el : TypeId} {a : Addr} {len cap : Nat} {bs : Nat} (ht : Try.prog.underlying t = some (.slice el)) (h : Cell.okWide Try.prog W .any bs t (.slice (some a) len cap)) : a.spot = none ∧ ∃ C e fr, W.heap[a.block]? = some (.cells C e fr) := by
 unfold Cell.okWide at h
 rw [ht] at h
 dsimp only at h
 unfold Cell.ok at h
 rw [ht] at h
 dsimp only at h
 obtain ⟨_, _, _, h2, row, n, h3, _⟩ := h
 refine ⟨h2, ?_⟩
 unfold World.shape? at h3
 split at h3
 ·rename_i c e fr hq
  exact ⟨c, e, fr, hq⟩
 ·cases h3
theorem rows_of {t el : TypeId} {sz fuel : Nat} {c : Value} {y : DataW H × List MemPlace} {bs : Nat} (ht : Try.prog.underlying t = some (.slice el)) (hsz : Try.prog.cellsOf el = sz)
  (hrow : ∀ {n : Nat} {cs : List Value} {x : DataW H × List MemPlace}, DataW.trod enc Try.prog W 0 (fun _ => true) true n el cs = some x → ∃ r : List Int, r.length = sz ∧ cs = r.map fun x => Value.int .i64 x)
  (h : DataW.trod enc Try.prog W 0 (fun _ => true) true fuel t [c] = some y) (hok : Cell.okWide Try.prog W .any bs t c) {e : Env} {hh : AH} (r : HR Try.prog (Base.all W) e hh W) :
  ∃ e' h' s, ∃ R : List (List Int), Env.le e e' ∧ HR Try.prog (Base.all W) e' h' W ∧ Ext hh h' ∧ VR e' s c ∧ (∀ l, l ∈ R → l.length = sz) ∧ SliceOf h' sz s (R.map fun l => l.map fun x => AVal.int .i64 x) ∧ Cut Try.prog h' sz s R.length := by
 rcases Deep.open_slice ht h with ⟨hcs, _⟩ | ⟨a, len, cap, m, n, D, Pl, hcs, _, hl, _, hmm, _, hx⟩
 ·simp at hcs
  subst hcs
  exact ⟨e, hh, .nilslice, [], Env.le_refl e, r, Ext.refl _, .nilslice, (fun _ q => by cases q), .nil, .nil⟩
 ·simp at hcs
  subst hcs
  obtain ⟨hs, C, el', fr, hB⟩ := slice_okw ht hok
  have hm : m = cap := by simpa using hmm
  have each : ∀ i, ∃ rr : List Int, i < len → rr.length = sz ∧ ∀ k n, rr[k]? = some n → W.cell? (a.add (i * sz + k)) = some (.int .i64 n) := by
   intro i
   by_cases hi : i < len
   ·obtain ⟨cs', h1, h2⟩ := hx i (by omega)
    obtain ⟨rr, hr1, hr2⟩ := hrow h2
    rw [hsz] at h1
    obtain ⟨_, hlen, hc⟩ := World.cells?_some h1
    refine ⟨rr, fun _ => ⟨hr1, fun k n hk => ?_⟩⟩
    have hkl := (List.getElem?_eq_some_iff.1 hk).1
    have := hc k (by omega)
    obtain ⟨B, off, spot⟩ := a
    dsimp only at hs
    subst hs
    rw [addr_add, addr_add] at this
    rw [addr_add, ← Nat.add_assoc, this, hr2, List.getElem?_map, hk]
    rfl
   ·exact ⟨[], fun q => absurd q hi⟩
  obtain ⟨f, hf⟩ := Classical.axiomOfChoice each
  obtain ⟨e', h', s, k1, k2, k3, k4, k5, _, b, o, rfl⟩ := r.openRowsC (fun x => AVal.int .i64 x) (fun x => Value.int .i64 x) (fun _ _ => .int _ _) (cap := cap) (len := len) (sz := sz) hB hs f hf
  exact ⟨e', h', _, (List.range len).map f, k1, k2, k3, k4, fun l hl => by
   obtain ⟨i, hi, rfl⟩ := List.mem_map.1 hl
   exact (hf i (List.mem_range.1 hi)).1, k5, by rw [List.length_map, List.length_range]; exact .sl hl⟩
def toH : List Int → HF
 | [a, b, c] => ⟨a, b, c⟩
 | _ => ⟨0, 0, 0⟩
def toR : List Int → Int × Int
 | [a, b] => (a, b)
 | _ => (0, 0)
theorem hs_eq {R : List (List Int)} (h : ∀ l, l ∈ R → l.length = 3) : (R.map fun l => l.map fun x => AVal.int .i64 x) = (R.map toH).map HF.cells := by
 rw [List.map_map]
 refine List.map_congr_left fun l hl => ?_
 match l, h l hl with
 | [a, b, c], _ => rfl
theorem rs_eq {R : List (List Int)} (h : ∀ l, l ∈ R → l.length = 2) : (R.map fun l => l.map fun x => AVal.int .i64 x) = (R.map toR).map spC := by
 rw [List.map_map]
 refine List.map_congr_left fun l hl => ?_
 match l, h l hl with
 | [a, b], _ => rfl
theorem array9 {α : Type} {cs : Array α} (h : cs.size = 9) : ∃ c0 c1 c2 c3 c4 c5 c6 c7 c8, cs = #[c0, c1, c2, c3, c4, c5, c6, c7, c8] := by
 obtain ⟨l⟩ := cs
 match l, h with
 | [c0, c1, c2, c3, c4, c5, c6, c7, c8], _ => exact ⟨c0, c1, c2, c3, c4, c5, c6, c7, c8, rfl⟩
theorem list5 {α : Type} {l : List α} (h : l.length = 5) : ∃ c0 c1 c2 c3 c4, l = [c0, c1, c2, c3, c4] := by
 match l, h with
 | [c0, c1, c2, c3, c4], _ => exact ⟨c0, c1, c2, c3, c4, rfl⟩
theorem foot_of {bs : Nat} {v : Value} {d : DataW H} {p : List MemPlace} (hv : Value.okWide Try.prog W .any bs 26 v) (h : DataW.Trod enc Try.prog W 0 (fun _ => true) true 26 v d p) {e : Env} {hh : AH} (r : HR Try.prog (Base.all W) e hh W) :
  ∃ e' h' F rsl hsl, Env.le e e' ∧ HR Try.prog (Base.all W) e' h' W ∧ Ext hh h' ∧ VR e' (.agg (FootV.cells F rsl hsl)) v ∧ FootAt h' F rsl hsl := by
 have hv2 := hv
 obtain ⟨cs, rfl, hsz⟩ := okWide_struct Try.underlying26 hv
 obtain ⟨c0, c1, c2, c3, c4, c5, c6, c7, c8, rfl⟩ := array9 (hsz.trans cells26)
 obtain ⟨fuel, hf⟩ := h
 obtain ⟨xs, n, _, _, hl, hlen, hfl⟩ := DataW.trod_struct Try.underlying26 hf
 obtain ⟨y0, y1, y2, y3, y4, rfl⟩ := list5 hlen
 have t0 : DataW.trod enc Try.prog W 0 (fun _ => true) true n 22 [c0] = some y0 := by
  have this : DataW.trod enc Try.prog W 0 (fun _ => true) true n 22 (([c0, c1, c2, c3, c4, c5, c6, c7, c8].drop 0).take (Try.prog.cellsOf 22)) = [y0, y1, y2, y3, y4][0]? := hfl 0 _ rfl
  rw [cells22] at this
  exact this
 have t1 : DataW.trod enc Try.prog W 0 (fun _ => true) true n 3 [c1] = some y1 := by
  have this : DataW.trod enc Try.prog W 0 (fun _ => true) true n 3 (([c0, c1, c2, c3, c4, c5, c6, c7, c8].drop 1).take (Try.prog.cellsOf 3)) = [y0, y1, y2, y3, y4][1]? := hfl 1 _ rfl
  rw [cells3] at this
  exact this
 have t2 : DataW.trod enc Try.prog W 0 (fun _ => true) true n 23 [c2, c3, c4] = some y2 := by
  have this : DataW.trod enc Try.prog W 0 (fun _ => true) true n 23 (([c0, c1, c2, c3, c4, c5, c6, c7, c8].drop 2).take (Try.prog.cellsOf 23)) = [y0, y1, y2, y3, y4][2]? := hfl 2 _ rfl
  rw [cells23] at this
  exact this
 have t3 : DataW.trod enc Try.prog W 0 (fun _ => true) true n 23 [c5, c6, c7] = some y3 := by
  have this : DataW.trod enc Try.prog W 0 (fun _ => true) true n 23 (([c0, c1, c2, c3, c4, c5, c6, c7, c8].drop 5).take (Try.prog.cellsOf 23)) = [y0, y1, y2, y3, y4][3]? := hfl 3 _ rfl
  rw [cells23] at this
  exact this
 have t4 : DataW.trod enc Try.prog W 0 (fun _ => true) true n 24 [c8] = some y4 := by
  have this : DataW.trod enc Try.prog W 0 (fun _ => true) true n 24 (([c0, c1, c2, c3, c4, c5, c6, c7, c8].drop 8).take (Try.prog.cellsOf 24)) = [y0, y1, y2, y3, y4][4]? := hfl 4 _ rfl
  rw [cells24] at this
  exact this
 obtain ⟨z0, z1, z2, n2, _, g0, g1, g2⟩ := trod_array3 Try.underlying23 cells3 t2
 obtain ⟨da, e2, _⟩ := int_row g0
 obtain ⟨db, e3, _⟩ := int_row g1
 obtain ⟨dc, e4, _⟩ := int_row g2
 obtain ⟨z3, z4, z5, n3, _, g3, g4, g5⟩ := trod_array3 Try.underlying23 cells3 t3
 obtain ⟨dd, e5, _⟩ := int_row g3
 obtain ⟨de, e6, _⟩ := int_row g4
 obtain ⟨df, e7, _⟩ := int_row g5
 obtain ⟨men, e1, _⟩ := int_row t1
 simp at e1 e2 e3 e4 e5 e6 e7
 subst e1 e2 e3 e4 e5 e6 e7
 unfold Value.okWide at hv2
 rw [Try.underlying26] at hv2
 obtain ⟨cs, hcs, _, ts, hts, _, hrow⟩ := hv2
 injection hcs with hcs
 subst hcs
 rw [ctypes26] at hts
 cases hts
 obtain ⟨u0, hu0, ok0⟩ := hrow 0 c0 rfl
 obtain ⟨u8, hu8, ok8⟩ := hrow 8 c8 rfl
 cases hu0
 cases hu8
 obtain ⟨ea, ha, s0, R0, a1, a2, a3, a4, a5, a6, a7⟩ := rows_of Try.underlying22 cells31 rain_row t0 ok0 r
 obtain ⟨eb, hb, s1, R1, b1, b2, b3, b4, b5, b6, b7⟩ := rows_of Try.underlying24 cells72 heap_row t4 ok8 a2
 rw [rs_eq a5] at a6
 rw [hs_eq b5] at b6
 refine ⟨eb, hb, ⟨R0.map toR, men, da, db, dc, dd, de, df, R1.map toH⟩, s0, s1, Env.le_trans a1 b1, b2, a3.trans b3, ?_, ⟨a6.ext b3, b6, by show Cut _ _ _ _ (R1.map toH).length; rw [List.length_map]; exact b7⟩⟩
 exact .agg (CS := [_, _, _, _, _, _, _, _, _]) (.cons (a4.mono b1) (.cons (.int _ _) (.cons (.int _ _) (.cons (.int _ _) (.cons (.int _ _) (.cons (.int _ _) (.cons (.int _ _) (.cons (.int _ _) (.cons b4 .nil)))))))))
end Go.Proofs.Ytmimdgjehnhnoaa

namespace Go.Proofs.Ytmimdgjehnhnoaa
open Go Go.AbsE Go.ChangeShapes Go.WideShapes Go.ChangeAt Go.RowKit
set_option linter.unusedSimpArgs false
set_option maxRecDepth 100000
set_option linter.unusedVariables false
section
variable {H : Type} {enc : TypeId × Value → H} {W : World} {base : Nat} {spare : Nat → Bool} {held : Bool}
theorem slice_cap {t el : TypeId} {a : Addr} {len cap : Nat} {bs : Nat} (ht : Try.prog.underlying t = some (.slice el)) (h : Cell.okWide Try.prog W .any bs t (.slice (some a) len cap)) : len < 9223372036854775808 := by
 unfold Cell.okWide at h
 rw [ht] at h
 dsimp only at h
 unfold Cell.ok at h
 rw [ht] at h
 dsimp only at h
 obtain ⟨h1, h2, _⟩ := h
 have : IntKind.i64.max = 9223372036854775807 := by decide
 rw [this] at h2
 omega
theorem cells67 : Try.prog.cellsOf 67 = 1 := by kernel_rfl
theorem wf_i8 {n : Int} (h : (Lit.int .i8 n).wf = true) : -128 ≤ n ∧ n ≤ 127 := by
 simp only [Lit.wf, Bool.and_eq_true, decide_eq_true_eq] at h
 have h1 : IntKind.i8.min = -128 := by decide
 have h2 : IntKind.i8.max = 127 := by decide
 omega
def i8s (l : List Int) : List (List AVal) := l.map fun x => [AVal.int .i8 x]
theorem i8s_of {c : Value} {fuel : Nat} {y : DataW H × List MemPlace} {bs : Nat} (h : DataW.trod enc Try.prog W 0 (fun _ => true) true fuel 66 [c] = some y) (hok : Cell.okWide Try.prog W .any bs 66 c) {e : Env} {hh : AH} (r : HR Try.prog (Base.all W) e hh W) :
  ∃ e' h' s, ∃ R : List Int, Env.le e e' ∧ HR Try.prog (Base.all W) e' h' W ∧ Ext hh h' ∧ VR e' s c ∧ (∀ x, x ∈ R → -128 ≤ x ∧ x ≤ 127) ∧ R.length < 9223372036854775808 ∧ SliceOf h' 1 s (i8s R) := by
 rcases Deep.open_slice Try.underlying66 h with ⟨hcs, _⟩ | ⟨a, len, cap, m, n, D, Pl, hcs, _, hl, _, hmm, _, hx⟩
 ·simp at hcs
  subst hcs
  exact ⟨e, hh, .nilslice, [], Env.le_refl e, r, Ext.refl _, .nilslice, (fun _ q => by cases q), (by decide), .nil⟩
 ·simp at hcs
  subst hcs
  obtain ⟨hs, C, el', fr, hB⟩ := slice_okw Try.underlying66 hok
  have hcap := slice_cap Try.underlying66 hok
  have hm : m = cap := by simpa using hmm
  have each : ∀ i, ∃ rr : Int, i < len → (-128 ≤ rr ∧ rr ≤ 127) ∧ W.cell? (a.add (i * 1)) = some (.int .i8 rr) := by
   intro i
   by_cases hi : i < len
   ·obtain ⟨cs', h1, h2⟩ := hx i (by omega)
    obtain ⟨v, hv, _, hwf⟩ := DataW.trod_int Try.underlying67 h2
    rw [cells67] at h1
    obtain ⟨_, hlen, hc⟩ := World.cells?_some h1
    refine ⟨v, fun _ => ⟨wf_i8 hwf, ?_⟩⟩
    have := hc 0 (by omega)
    obtain ⟨B, off, spot⟩ := a
    dsimp only at hs
    subst hs
    rw [addr_add, addr_add] at this
    rw [addr_add, ← Nat.add_zero (off + i * 1), this, hv]
    rfl
   ·exact ⟨0, fun q => absurd q hi⟩
  obtain ⟨f, hf⟩ := Classical.axiomOfChoice each
  obtain ⟨e', h', s, k1, k2, k3, k4, k5, k6⟩ := r.openRowsG (fun x => AVal.int .i8 x) (fun x => Value.int .i8 x) (fun _ _ => .int _ _) (cap := cap) (len := len) (sz := 1) hB hs (fun i => [f i]) (fun i hi => ⟨rfl, fun k n hk => by
   match k, hk with
   | 0, hk =>
    cases hk
    exact (hf i hi).2⟩)
  refine ⟨e', h', s, (List.range len).map f, k1, k2, k3, k4, fun l hl => ?_, by simpa using hcap, ?_⟩
  ·obtain ⟨i, hi, rfl⟩ := List.mem_map.1 hl
   exact (hf i (List.mem_range.1 hi)).1
  ·rw [List.map_map] at k5
   unfold i8s
   rw [List.map_map]
   exact k5
end
end Go.Proofs.Ytmimdgjehnhnoaa
