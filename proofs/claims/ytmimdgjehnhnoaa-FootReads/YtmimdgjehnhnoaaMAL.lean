import Derived.Test.YtmimdgjehnhnoaaMAK
import Derived.Test.YtmimdgjehnhnoaaMAH
import Derived.Test.YtmimdgjehnhnoaaMAG
namespace Go.Proofs.Ytmimdgjehnhnoaa
open Go Go.AbsE
set_option linter.unusedSimpArgs false
set_option maxRecDepth 100000
set_option maxHeartbeats 0
set_option linter.unusedVariables false
def FootV.crs (F : FootV) (T : Bool) (i : Nat) (p : Pl) (n : Nat) : List Int := (List.range 9).map fun d => if d ≤ n then F.w T i p d else 0
theorem crs_at {F : FootV} {T : Bool} {i : Nat} {p : Pl} {n d : Nat} (hd : d < 9) : (F.crs T i p n)[d]? = some (if d ≤ n then F.w T i p d else 0) := by
 unfold FootV.crs
 rw [List.getElem?_map, List.getElem?_range hd]
 rfl
theorem crs_set {F : FootV} {T : Bool} {i : Nat} {p : Pl} {n : Nat} (hn : n + 1 < 9) : (i64s (F.crs T i p n)).set (n + 1) (.int .i64 (F.w T i p (n + 1))) = i64s (F.crs T i p (n + 1)) := by
 refine List.ext_getElem? fun k => ?_
 unfold i64s
 rw [List.getElem?_set, List.getElem?_map, List.getElem?_map]
 by_cases hk : n + 1 = k
 ·subst hk;rw [if_pos rfl, if_pos (by rw [List.length_map]; unfold FootV.crs; simpa using hn), crs_at hn, if_pos (Nat.le_refl _)]
  rfl
 ·rw [if_neg hk]
  by_cases h9 : k < 9
  ·rw [crs_at h9, crs_at h9]
   by_cases h1 : k ≤ n
   ·rw [if_pos h1, if_pos (by omega)]
   ·rw [if_neg h1, if_neg (by omega)]
  ·have h1 : ∀ m, (F.crs T i p m)[k]? = none := fun m => by
    unfold FootV.crs
    rw [List.getElem?_eq_none]
    simpa using h9
   rw [h1, h1]
theorem need_ok {F : FootV} {rsl hsl : AVal} {h : AH} (k : Nat) (hk : k < 3) : Runs Try.prog 118 [.agg (F.cells rsl hsl), .int .i64 k] h (fun en h' => en = .ret (.func (.func 125) [.int .i64 (F.lm k)] []) ∧ Ext h h') := by
 unfold FootV.cells FootV.lm
 match k, hk with
 | 0, _ =>
  have e0 : Ext h h := Ext.refl _
  refine Runs.intro aFunc118 rfl rfl rfl rfl fun rest => ?_;apply gS;refine gR rfl ?_;refine GoR.box rfl rfl rfl rfl rfl rfl fun h0 x0 f0 => ?_;replace e0 := e0.trans x0;refine gP ?_;apply gE;apply gS;refine gR rfl ?_;refine gP ?_;refine gO rfl rfl (fa80_2 rfl) rfl ?_;refine gO rfl rfl (aOp_indexAddrArr (i := 0) Try.underlying23 sz3 rfl rfl rfl) rfl ?_;refine gO rfl rfl (ld3 rfl f0 rfl) rfl ?_;iterate 2 refine gP ?_
  apply gE;exact gW Try.func118 rfl rfl ⟨rfl, e0⟩
 | 1, _ =>
  have e0 : Ext h h := Ext.refl _
  refine Runs.intro aFunc118 rfl rfl rfl rfl fun rest => ?_;apply gS;refine gR rfl ?_;refine GoR.box rfl rfl rfl rfl rfl rfl fun h0 x0 f0 => ?_;replace e0 := e0.trans x0;refine gP ?_;apply gE;apply gS;refine gR rfl ?_;refine gP ?_;refine gO rfl rfl (fa80_2 rfl) rfl ?_;refine gO rfl rfl (aOp_indexAddrArr (i := 1) Try.underlying23 sz3 rfl rfl rfl) rfl ?_;refine gO rfl rfl (ld3 rfl f0 rfl) rfl ?_;iterate 2 refine gP ?_
  apply gE;exact gW Try.func118 rfl rfl ⟨rfl, e0⟩
 | 2, _ =>
  have e0 : Ext h h := Ext.refl _
  refine Runs.intro aFunc118 rfl rfl rfl rfl fun rest => ?_;apply gS;refine gR rfl ?_;refine GoR.box rfl rfl rfl rfl rfl rfl fun h0 x0 f0 => ?_;replace e0 := e0.trans x0;refine gP ?_;apply gE;apply gS;refine gR rfl ?_;refine gP ?_;refine gO rfl rfl (fa80_2 rfl) rfl ?_;refine gO rfl rfl (aOp_indexAddrArr (i := 2) Try.underlying23 sz3 rfl rfl rfl) rfl ?_;refine gO rfl rfl (ld3 rfl f0 rfl) rfl ?_;iterate 2 refine gP ?_
  apply gE;exact gW Try.func118 rfl rfl ⟨rfl, e0⟩
theorem suits_ok {L : List Int} {d l x : Int} {h : AH} (hl : L.length = 9) (hd : d = -1 ∨ (0 ≤ d ∧ d < 9)) (hx : d ≠ -1 → L[d.toNat]? = some x) :
  Runs Try.prog 117 [.agg (i64s L), .int .i64 d, .func (.func 125) [.int .i64 l] []] h (fun en h' => en = .ret (.bool (decide (d = -1 ∨ x ≤ l))) ∧ Ext h h') := by
 have hld : d ≠ -1 → (i64s L)[0 + d.toNat * 1]? = some (.int .i64 x) := fun q => by
  unfold i64s
  rw [Nat.zero_add, Nat.mul_one, List.getElem?_map, hx q]
  rfl
 have e0 : Ext h h := Ext.refl _
 refine Runs.intro aFunc117 rfl rfl rfl rfl fun rest => ?_;apply gS;refine gR rfl ?_;refine GoR.box rfl rfl rfl rfl rfl rfl fun h0 x0 f0 => ?_;replace e0 := e0.trans x0;refine gP ?_;apply gE;apply gS;refine gR rfl ?_;refine gP ?_
 by_cases hs0 : (d : Int) = (-1 : Int)
 ·refine gO rfl rfl (kET rfl rfl) rfl ?_;refine gP ?_;iterate 5 refine GoR.skip rfl rfl rfl ?_
  iterate 2 refine gP ?_
  apply gE;exact gV (ret_end (aResult_of Try.func117 rfl rfl) ⟨ret_true (by omega), e0⟩)
 ·refine gO rfl rfl (kEF rfl rfl) rfl ?_;iterate 3 refine gP ?_
  refine gO rfl rfl (aOp_indexAddrArrI Try.underlying119 sz117 rfl rfl (by omega)) rfl ?_;refine gO rfl rfl (ld117 rfl f0 (hld (by omega))) rfl ?_;refine GoR.call rfl rfl (aOp_callVal rfl aFunc125 rfl) (bears_ok) ?_ np;rintro v1 h1 ⟨q, x1⟩;cases q;refine ⟨_, rfl, ?_⟩;replace e0 := e0.trans x1;iterate 2 refine gP ?_
  apply gE;exact gV (ret_end (aResult_of Try.func117 rfl rfl) ⟨ret_dec (by omega), e0⟩)
theorem course_ok {F : FootV} (O : F.Ok) {rsl hsl : AVal} {h : AH} (A : FootAt h F rsl hsl) (T : Bool) {i : Nat} (hi : i < F.hs.length) (p : Pl) :
  Runs Try.prog 85 [.agg (F.cells rsl hsl), truthV T F rsl hsl, .int .i64 i, .agg p.cells] h (fun en h' => en = .ret (.agg (i64s (F.crs T i p F.rs.length))) ∧ Ext h h') := by
 have hl1 := A.rs.len
 rw [List.length_map] at hl1
 have hnr := O.nr
 obtain ⟨ff, fargs, hst⟩ := start_in F rsl hsl T hi
 have hrn := fun d hd => rain_in F rsl hsl T (i := d) hd
 obtain ⟨tv, htv⟩ : ∃ tv, truthV T F rsl hsl = tv := ⟨_, rfl⟩
 rw [htv] at hst hrn ⊢
 have hdone : ∀ (d : Int) h, Runs Try.prog 115 [.agg [.int .i64 p.a, .int .i64 p.b, .int .i64 p.c], .int .i64 d] h (fun en h' => en = .ret (.int .i64 (doneV p d)) ∧ Ext h h') := fun d h => done_ok
 unfold Pl.cells FootV.cells
 have e0 : Ext h h := Ext.refl _
 refine Runs.intro aFunc85 rfl rfl rfl rfl fun rest => ?_;apply gS;refine gR rfl ?_;refine GoR.box rfl rfl rfl rfl rfl rfl fun h0 x0 f0 => ?_;have := e0.1;replace e0 := e0.trans x0;have := f0.1;refine GoR.box rfl rfl rfl rfl rfl rfl fun h1 x1 f1 => ?_;have := e0.1;have := f0.1;replace f0 := f0.ext x1;replace e0 := e0.trans x1;have := f1.1;refine GoR.alloc rfl rfl rfl zt119 rfl rfl fun h2 x2 f2 => ?_;have := e0.1;have := f1.1;have := f0.1;replace f1 := f1.ext x2;replace f0 := f0.ext x2;replace e0 := e0.trans x2;have := f2.1;apply gE;apply gS;refine gR rfl ?_;iterate 2 refine gP ?_
 refine GoR.call rfl rfl (aOp_invoke rfl rfl ((hst _ (A.ext e0)).1)) ((hst _ (A.ext e0)).2) ?_ np;rintro _ h3 ⟨q, x3⟩;cases q;refine ⟨_, rfl, ?_⟩;replace f2 := f2.ext x3;replace f1 := f1.ext x3;replace f0 := f0.ext x3;replace e0 := e0.trans x3;refine gO rfl rfl (aOp_indexAddrArr (i := 0) Try.underlying119 sz117 rfl rfl rfl) rfl ?_;refine GoR.store rfl rfl rfl rfl rfl rfl f2 rfl sz117 rfl rfl rfl fun h4 u4 => ?_;replace f2 := u4.has f2;replace f1 := f1.upd u4 (by omega);replace f0 := f0.upd u4 (by omega)
 first | replace e0 := e0.upd u4 (by omega) | clear e0
 apply gE;iterate 2 apply gS
 refine gR rfl ?_;refine gO rfl rfl (fa80_0 rfl) rfl ?_;refine gO rfl rfl (ld22 rfl f0 rfl) rfl ?_;refine gO rfl rfl (aOp_lenSlice Try.underlying22 rfl (by assumption)) rfl ?_;refine gP ?_;apply gE;refine Go.block noJ_ok ?_
 refine Go.loopKeep (fun d : Nat => [(1, tv), (4, .ptr h.next 0), (7, .ptr h0.next 0), (8, .ptr h1.next 0), (19, .int .i64 F.rs.length), (20, .int .i64 (d : Nat))])
  (fun m d h' => m + d = F.rs.length ∧ Ext h h' ∧ Has h' h.next (.cells .plain [rsl, .int .i64 F.men, .int .i64 F.l0, .int .i64 F.l1, .int .i64 F.l2, .int .i64 F.d0, .int .i64 F.d1, .int .i64 F.d2, hsl] 80) ∧ Has h' h0.next (.cells .plain [.int .i64 p.a, .int .i64 p.b, .int .i64 p.c] 83) ∧ Has h' h1.next (.cells .plain (i64s (F.crs T i p d)) 119))
  (n := F.rs.length) 0 ⟨rfl, rfl, rfl, rfl, rfl, rfl, trivial⟩ ⟨rfl, e0, f0, f1, f2⟩ ?_
 clear e0 f0 f1 f2;rintro m d h20 ⟨hm, e0, f0, f1, f2⟩ again
 have hcl : (i64s (F.crs T i p d)).length = 9 := by unfold i64s FootV.crs; simp
 by_cases hd : d < F.rs.length
 ·obtain ⟨fr, frargs, hrd⟩ := hrn d hd
  have hdv := doneV_in p d
  have hw := w_in O T i p d
  have hr := rn_in O T d
  have hdd := dr_in O (doneV p d)
  have hld : (i64s (F.crs T i p d))[0 + d * 1]? = some (.int .i64 (F.w T i p d)) := by
   unfold i64s
   rw [Nat.zero_add, Nat.mul_one, List.getElem?_map, crs_at (by omega), if_pos (Nat.le_refl _)]
   rfl
  have hset : splice (i64s (F.crs T i p d)) (0 + (d + 1) * 1) (AVal.int .i64 (F.w T i p (d + 1))).cells = some (i64s (F.crs T i p (d + 1))) := by
   rw [Nat.zero_add, Nat.mul_one]
   show splice _ _ [_] = _
   rw [splice_at (by omega), crs_set (by omega)]
  have hstep : F.w T i p (d + 1) = if doneV p d ≤ 2 then max 0 (F.w T i p d + (F.rn T d - F.dr (doneV p d))) else F.w T i p d := rfl
  by_cases hk : doneV p d ≤ 2
  ·rw [if_pos hk] at hstep;rw [hstep] at hset
   have hdr : [rsl, .int .i64 F.men, .int .i64 F.l0, .int .i64 F.l1, .int .i64 F.l2, .int .i64 F.d0, .int .i64 F.d1, .int .i64 F.d2, hsl][0 + 5 + (doneV p d).toNat * 1]? = some (.int .i64 (F.dr (doneV p d))) := by
    have : doneV p d = 0 ∨ doneV p d = 1 ∨ doneV p d = 2 := by omega
    rcases this with q | q | q <;> rw [q] <;> rfl
   apply gS;refine gR rfl ?_;refine gO rfl rfl (kLT rfl rfl) rfl ?_;apply gE;apply gS;refine gC (b := true) rfl ?_;refine gD ?_;apply gS;refine Go.block noJ_ok ?_;apply gS;refine gR rfl ?_;iterate 2 refine gP ?_
   apply gE;apply gS;refine gR rfl ?_;iterate 2 refine gP ?_
   apply gE;iterate 2 apply gS
   refine gR rfl ?_;refine gO rfl rfl (ld83 rfl f1 rfl) rfl ?_;refine gP ?_;refine GoR.call rfl rfl (aCF aFunc115 rfl) (hdone _ _) ?_ np;rintro v21 h21 ⟨q, x21⟩;cases q;refine ⟨_, rfl, ?_⟩;replace f0 := f0.ext x21;replace f1 := f1.ext x21;replace f2 := f2.ext x21;replace e0 := e0.trans x21;refine gP ?_;apply gE;apply gS;refine gR rfl ?_;refine gP ?_;refine gO rfl rfl (kMT rfl rfl) rfl ?_;apply gE;refine gC (b := true) rfl ?_;refine Go.drawnE plan85_0 ?_;refine gQ rfl rfl rfl rfl ?_;refine gQ rfl rfl (fa80_3 rfl) rfl ?_;refine gQ rfl rfl (aOp_indexAddrArrI Try.underlying23 sz3 rfl rfl (by omega)) rfl ?_;refine gQ rfl rfl (ld3 rfl f0 hdr) rfl ?_;iterate 2 refine gQ rfl rfl rfl rfl ?_
   refine GoE.end rfl ?_;refine Go.drawnE plan85_1 ?_;refine gQ rfl rfl rfl rfl ?_;refine gQ rfl rfl (aA rfl rfl) rfl ?_;iterate 2 refine gQ rfl rfl rfl rfl ?_
   refine gQ rfl rfl (aOp_indexAddrArrI Try.underlying119 sz117 rfl rfl (by omega)) rfl ?_;refine gQ rfl rfl (ld117 rfl f2 hld) rfl ?_;iterate 3 refine gQ rfl rfl rfl rfl ?_
   refine GoE.call rfl rfl (aOp_invoke rfl rfl ((hrd _ (A.ext e0)).1)) ((hrd _ (A.ext e0)).2) (dK 192 9 (dD 192 7 (dD 192 6 (dK 192 5 (dK 192 4 (dK 192 3 (dK 192 2 (dK 192 1 (dK 192 0 rfl))))))))) ?_ np;rintro v22 h22 ⟨q, x22⟩;cases q;replace f0 := f0.ext x22;replace f1 := f1.ext x22;replace f2 := f2.ext x22;replace e0 := e0.trans x22;refine ⟨(rck (h2 := h22) rfl (rfl) (rck (h2 := h22) rfl (ld117 rfl f2 hld) (rck (h2 := h22) rfl (aOp_indexAddrArrI Try.underlying119 sz117 rfl rfl (by omega)) (rck (h2 := h22) rfl (rfl) (rck (h2 := h22) rfl (rfl) (rck (h2 := h22) rfl (aA rfl rfl) (rck (h2 := h22) rfl (rfl) recheck_nil))))))), _, rfl, ?_⟩;refine GoE.call rfl rfl (aOp_callVal rfl aFunc116 rfl) (spread_ok (by omega) (by omega) (by omega)) (dD 1020 9 (dD 1020 5 (dD 1020 4 (dD 1020 3 (dD 1020 2 (dK 1020 1 (dK 1020 0 rfl))))))) ?_ np;rintro v23 h23 ⟨q, x23⟩;cases q;replace f0 := f0.ext x23;replace f1 := f1.ext x23;replace f2 := f2.ext x23;replace e0 := e0.trans x23;refine ⟨(rck (h2 := h23) rfl (aA rfl rfl) (rck (h2 := h23) rfl (rfl) recheck_nil)), _, rfl, ?_⟩;refine gQ rfl rfl (aOp_indexAddrArrI Try.underlying119 sz117 rfl rfl (by omega)) rfl ?_;refine GoE.store rfl rfl rfl rfl (dD 4095 11 (dD 4095 1 (dD 4095 0 rfl))) rfl rfl f2 rfl sz117 rfl rfl hset fun h24 u24 => ?_;replace f0 := f0.upd u24 (by omega);replace f1 := f1.upd u24 (by omega);replace f2 := u24.has f2
   first | replace e0 := e0.upd u24 (by omega) | clear e0
   refine ⟨recheck_nil, ?_⟩;refine GoE.end rfl ?_;refine Go.inBlock noJ_ok ?_;refine gR rfl ?_;refine gO rfl rfl (aA rfl rfl) rfl ?_;refine gP ?_;apply gE;exact again (m - 1) (d + 1) _ _ (by omega) ⟨rfl, rfl, rfl, rfl, rfl, rfl, trivial⟩ ⟨by omega, e0, f0, f1, f2⟩
  ·rw [if_neg hk] at hstep;rw [hstep] at hset;apply gS;refine gR rfl ?_;refine gO rfl rfl (kLT rfl rfl) rfl ?_;apply gE;apply gS;refine gC (b := true) rfl ?_;refine gD ?_;apply gS;refine Go.block noJ_ok ?_;apply gS;refine gR rfl ?_;iterate 2 refine gP ?_
   apply gE;apply gS;refine gR rfl ?_;iterate 2 refine gP ?_
   apply gE;iterate 2 apply gS
   refine gR rfl ?_;refine gO rfl rfl (ld83 rfl f1 rfl) rfl ?_;refine gP ?_;refine GoR.call rfl rfl (aCF aFunc115 rfl) (hdone _ _) ?_ np;rintro v21 h21 ⟨q, x21⟩;cases q;refine ⟨_, rfl, ?_⟩;replace f0 := f0.ext x21;replace f1 := f1.ext x21;replace f2 := f2.ext x21;replace e0 := e0.trans x21;refine gP ?_;apply gE;apply gS;refine gR rfl ?_;refine gP ?_;refine gO rfl rfl (kMF rfl rfl) rfl ?_;apply gE;refine gC (b := false) rfl ?_;refine gD ?_;refine Go.drawnE plan85_1 ?_;refine gQ rfl rfl rfl rfl ?_;refine gQ rfl rfl (aA rfl rfl) rfl ?_;iterate 2 refine gQ rfl rfl rfl rfl ?_
   refine gQ rfl rfl (aOp_indexAddrArrI Try.underlying119 sz117 rfl rfl (by omega)) rfl ?_;refine gQ rfl rfl (ld117 rfl f2 hld) rfl ?_;iterate 3 refine gQ rfl rfl rfl rfl ?_
   refine GoE.call rfl rfl (aOp_invoke rfl rfl ((hrd _ (A.ext e0)).1)) ((hrd _ (A.ext e0)).2) (dK 192 9 (dD 192 7 (dD 192 6 (dK 192 5 (dK 192 4 (dK 192 3 (dK 192 2 (dK 192 1 (dK 192 0 rfl))))))))) ?_ np;rintro v22 h22 ⟨q, x22⟩;cases q;replace f0 := f0.ext x22;replace f1 := f1.ext x22;replace f2 := f2.ext x22;replace e0 := e0.trans x22;refine ⟨(rck (h2 := h22) rfl (rfl) (rck (h2 := h22) rfl (ld117 rfl f2 hld) (rck (h2 := h22) rfl (aOp_indexAddrArrI Try.underlying119 sz117 rfl rfl (by omega)) (rck (h2 := h22) rfl (rfl) (rck (h2 := h22) rfl (rfl) (rck (h2 := h22) rfl (aA rfl rfl) (rck (h2 := h22) rfl (rfl) recheck_nil))))))), _, rfl, ?_⟩;refine GoE.call rfl rfl (aOp_callVal rfl aFunc114 rfl) (covered_ok) (dD 1020 9 (dD 1020 5 (dD 1020 4 (dD 1020 3 (dD 1020 2 (dK 1020 1 (dK 1020 0 rfl))))))) ?_ np;rintro v23 h23 ⟨q, x23⟩;cases q;replace f0 := f0.ext x23;replace f1 := f1.ext x23;replace f2 := f2.ext x23;replace e0 := e0.trans x23;refine ⟨(rck (h2 := h23) rfl (aA rfl rfl) (rck (h2 := h23) rfl (rfl) recheck_nil)), _, rfl, ?_⟩;refine gQ rfl rfl (aOp_indexAddrArrI Try.underlying119 sz117 rfl rfl (by omega)) rfl ?_;refine GoE.store rfl rfl rfl rfl (dD 4095 11 (dD 4095 1 (dD 4095 0 rfl))) rfl rfl f2 rfl sz117 rfl rfl hset fun h24 u24 => ?_;replace f0 := f0.upd u24 (by omega);replace f1 := f1.upd u24 (by omega);replace f2 := u24.has f2
   first | replace e0 := e0.upd u24 (by omega) | clear e0
   refine ⟨recheck_nil, ?_⟩;refine GoE.end rfl ?_;refine Go.inBlock noJ_ok ?_;refine gR rfl ?_;refine gO rfl rfl (aA rfl rfl) rfl ?_;refine gP ?_;apply gE;exact again (m - 1) (d + 1) _ _ (by omega) ⟨rfl, rfl, rfl, rfl, rfl, rfl, trivial⟩ ⟨by omega, e0, f0, f1, f2⟩
 ·have hdn : d = F.rs.length := by omega
  subst hdn;apply gS;refine gR rfl ?_;refine gO rfl rfl (kLF rfl rfl) rfl ?_;apply gE;apply gS;refine gC (b := false) rfl ?_;refine gD ?_;apply gS;refine gR rfl ?_;refine gO rfl rfl (ld119 rfl f2 (slice_all hcl)) rfl ?_;refine GoR.store rfl rfl rfl rfl rfl rfl f2 rfl sz119 rfl rfl rfl fun h21 u21 => ?_;replace f2 := u21.has f2
  first | replace e0 := e0.upd u21 (by omega) | clear e0
  apply gE;exact gV (ret_end (aResult_of Try.func85 rfl (aResults_cell rfl f2 (inCells_agg ag119 sz119 rfl))) ⟨rfl, e0⟩)
def FootV.Kept (F : FootV) (T : Bool) (i : Nat) (p : Pl) : Prop := (p.a = -1 ∨ F.w T i p p.a.toNat ≤ F.l0) ∧ (p.b = -1 ∨ F.w T i p p.b.toNat ≤ F.l1) ∧ (p.c = -1 ∨ F.w T i p p.c.toNat ≤ F.l2)
instance (F : FootV) (T : Bool) (i : Nat) (p : Pl) : Decidable (F.Kept T i p) := by unfold FootV.Kept; infer_instance
theorem crs_day {F : FootV} {T : Bool} {i : Nat} {p : Pl} {n : Nat} {d : Int} (hd : 0 ≤ d ∧ d ≤ n) (h9 : n < 9) : (F.crs T i p n)[d.toNat]? = some (F.w T i p d.toNat) := by
 rw [crs_at (by omega), if_pos (by omega)]
theorem kept_ok {F : FootV} (O : F.Ok) {rsl hsl : AVal} {h : AH} (A : FootAt h F rsl hsl) (T : Bool) {i : Nat} (hi : i < F.hs.length) (p : Pl) (hp : p.Ord F.rs.length) :
  Runs Try.prog 87 [.agg (F.cells rsl hsl), truthV T F rsl hsl, .int .i64 i, .agg p.cells] h (fun en h' => en = .ret (.bool (decide (F.Kept T i p))) ∧ Ext h h') := by
 have hnr := O.nr
 obtain ⟨ha, hb, hc⟩ := hp
 have hco := fun h A => course_ok O (h := h) (rsl := rsl) (hsl := hsl) A T hi p
 have hne := fun h k hk => need_ok (F := F) (rsl := rsl) (hsl := hsl) (h := h) k hk
 have hl9 : (F.crs T i p F.rs.length).length = 9 := by unfold FootV.crs; simp
 have hci : (i64s (F.crs T i p F.rs.length)).length = 9 := by unfold i64s; rw [List.length_map, hl9]
 obtain ⟨tv, htv⟩ : ∃ tv, truthV T F rsl hsl = tv := ⟨_, rfl⟩
 rw [htv] at hco ⊢
 unfold FootV.Kept
 have sa := fun h => suits_ok (L := F.crs T i p F.rs.length) (d := p.a) (l := F.l0) (x := F.w T i p p.a.toNat) (h := h) hl9 (by omega) (fun q => crs_day (by omega) (by omega))
 have sb := fun h => suits_ok (L := F.crs T i p F.rs.length) (d := p.b) (l := F.l1) (x := F.w T i p p.b.toNat) (h := h) hl9 (by omega) (fun q => crs_day (by omega) (by omega))
 have sc := fun h => suits_ok (L := F.crs T i p F.rs.length) (d := p.c) (l := F.l2) (x := F.w T i p p.c.toNat) (h := h) hl9 (by omega) (fun q => crs_day (by omega) (by omega))
 unfold Pl.cells FootV.cells at hco ⊢
 unfold FootV.cells at hne
 have n0 := fun h => hne h 0 (by omega)
 have n1 := fun h => hne h 1 (by omega)
 have n2 := fun h => hne h 2 (by omega)
 have e0 : Ext h h := Ext.refl _
 refine Runs.intro aFunc87 rfl rfl rfl rfl fun rest => ?_;apply gS;refine gR rfl ?_;refine GoR.box rfl rfl rfl rfl rfl rfl fun h0 x0 f0 => ?_;have := e0.1;replace e0 := e0.trans x0;have := f0.1;refine GoR.box rfl rfl rfl rfl rfl rfl fun h1 x1 f1 => ?_;have := e0.1;have := f0.1;replace f0 := f0.ext x1;replace e0 := e0.trans x1;have := f1.1;refine gP ?_;apply gE;apply gS;refine gR rfl ?_;refine gO rfl rfl (ld80 rfl f0 rfl) rfl ?_;iterate 2 refine gP ?_
 refine gO rfl rfl (ld83 rfl f1 rfl) rfl ?_;refine GoR.call rfl rfl (aCF aFunc85 rfl) (hco _ (A.ext e0)) ?_ np;rintro v2 h2 ⟨q, x2⟩;cases q;refine ⟨_, rfl, ?_⟩;replace f1 := f1.ext x2;replace f0 := f0.ext x2;replace e0 := e0.trans x2;refine GoR.alloc rfl rfl rfl zt119 rfl rfl fun h3 x3 f3 => ?_;have := e0.1;have := f1.1;have := f0.1;replace f1 := f1.ext x3;replace f0 := f0.ext x3;replace e0 := e0.trans x3;have := f3.1;refine GoR.store rfl rfl rfl rfl rfl rfl f3 rfl sz119 rfl rfl rfl fun h4 u4 => ?_;replace f3 := u4.has f3;replace f1 := f1.upd u4 (by omega);replace f0 := f0.upd u4 (by omega)
 first | replace e0 := e0.upd u4 (by omega) | clear e0
 apply gE;iterate 2 apply gS
 refine gR rfl ?_;refine gO rfl rfl (ld83 rfl f1 rfl) rfl ?_;refine gP ?_;apply gE;refine Go.block noJ_ok ?_;refine Go.loop noJ_ok ?_;apply gS;refine gR rfl ?_;refine gO rfl rfl (kLT rfl rfl) rfl ?_;apply gE;apply gS;refine gC (b := true) rfl ?_;refine gD ?_;apply gS;refine Go.block noJ_ok ?_;apply gS;refine gR rfl ?_;refine gP ?_;refine gO rfl rfl (aOp_indexArr (i := 0) Try.underlying83 sz3 rfl rfl rfl (partT_one ag3 rfl)) rfl ?_;iterate 2 refine gP ?_
 apply gE;apply gS;refine Go.drawnE plan87_0 ?_;refine gQ rfl rfl (ld119 rfl (by assumption) (slice_all hci)) rfl ?_;refine gQ rfl rfl rfl rfl ?_;refine gQ rfl rfl (ld80 rfl f0 rfl) rfl ?_;refine gQ rfl rfl rfl rfl ?_;refine GoE.call rfl rfl (aCF aFunc118 rfl) (n0 _) (dD 12 3 (dD 12 2 (dK 12 1 (dK 12 0 rfl)))) ?_ np;rintro v5 h5 ⟨q, x5⟩;cases q;replace f3 := f3.ext x5;replace f1 := f1.ext x5;replace f0 := f0.ext x5;replace e0 := e0.trans x5;refine ⟨(rck (h2 := h5) rfl (rfl) (rck (h2 := h5) rfl (ld119 rfl (by assumption) (slice_all hci)) recheck_nil)), _, rfl, ?_⟩;refine GoE.call rfl rfl (aCF aFunc117 rfl) (sa _) (dD 31 1 (dD 31 0 rfl)) ?_ np;rintro v6 h6 ⟨q, x6⟩;cases q;replace f3 := f3.ext x6;replace f1 := f1.ext x6;replace f0 := f0.ext x6;replace e0 := e0.trans x6;refine ⟨recheck_nil, _, rfl, ?_⟩;refine gQ rfl rfl rfl rfl ?_;refine GoE.end rfl ?_
 by_cases hs0 : p.a = (-1 : Int) ∨ F.w T i p p.a.toNat ≤ F.l0
 ·rw [decide_eq_true hs0];refine gC (b := false) rfl ?_;refine gD ?_;refine Go.inBlock noJ_ok ?_;refine gR rfl ?_;refine gO rfl rfl (aA rfl rfl) rfl ?_;refine gP ?_;apply gE;refine Go.inLoop noJ_ok ?_;apply gS;refine gR rfl ?_;refine gO rfl rfl (kLT rfl rfl) rfl ?_;apply gE;apply gS;refine gC (b := true) rfl ?_;refine gD ?_;apply gS;refine Go.block noJ_ok ?_;apply gS;refine gR rfl ?_;refine gP ?_;refine gO rfl rfl (aOp_indexArr (i := 1) Try.underlying83 sz3 rfl rfl rfl (partT_one ag3 rfl)) rfl ?_;iterate 2 refine gP ?_
  apply gE;apply gS;refine Go.drawnE plan87_0 ?_;refine gQ rfl rfl (ld119 rfl (by assumption) (slice_all hci)) rfl ?_;refine gQ rfl rfl rfl rfl ?_;refine gQ rfl rfl (ld80 rfl f0 rfl) rfl ?_;refine gQ rfl rfl rfl rfl ?_;refine GoE.call rfl rfl (aCF aFunc118 rfl) (n1 _) (dD 12 3 (dD 12 2 (dK 12 1 (dK 12 0 rfl)))) ?_ np;rintro v7 h7 ⟨q, x7⟩;cases q;replace f3 := f3.ext x7;replace f1 := f1.ext x7;replace f0 := f0.ext x7;replace e0 := e0.trans x7;refine ⟨(rck (h2 := h7) rfl (rfl) (rck (h2 := h7) rfl (ld119 rfl (by assumption) (slice_all hci)) recheck_nil)), _, rfl, ?_⟩;refine GoE.call rfl rfl (aCF aFunc117 rfl) (sb _) (dD 31 1 (dD 31 0 rfl)) ?_ np;rintro v8 h8 ⟨q, x8⟩;cases q;replace f3 := f3.ext x8;replace f1 := f1.ext x8;replace f0 := f0.ext x8;replace e0 := e0.trans x8;refine ⟨recheck_nil, _, rfl, ?_⟩;refine gQ rfl rfl rfl rfl ?_;refine GoE.end rfl ?_
  by_cases hs1 : p.b = (-1 : Int) ∨ F.w T i p p.b.toNat ≤ F.l1
  ·rw [decide_eq_true hs1];refine gC (b := false) rfl ?_;refine gD ?_;refine Go.inBlock noJ_ok ?_;refine gR rfl ?_;refine gO rfl rfl (aA rfl rfl) rfl ?_;refine gP ?_;apply gE;refine Go.inLoop noJ_ok ?_;apply gS;refine gR rfl ?_;refine gO rfl rfl (kLT rfl rfl) rfl ?_;apply gE;apply gS;refine gC (b := true) rfl ?_;refine gD ?_;apply gS;refine Go.block noJ_ok ?_;apply gS;refine gR rfl ?_;refine gP ?_;refine gO rfl rfl (aOp_indexArr (i := 2) Try.underlying83 sz3 rfl rfl rfl (partT_one ag3 rfl)) rfl ?_;iterate 2 refine gP ?_
   apply gE;apply gS;refine Go.drawnE plan87_0 ?_;refine gQ rfl rfl (ld119 rfl (by assumption) (slice_all hci)) rfl ?_;refine gQ rfl rfl rfl rfl ?_;refine gQ rfl rfl (ld80 rfl f0 rfl) rfl ?_;refine gQ rfl rfl rfl rfl ?_;refine GoE.call rfl rfl (aCF aFunc118 rfl) (n2 _) (dD 12 3 (dD 12 2 (dK 12 1 (dK 12 0 rfl)))) ?_ np;rintro v9 h9 ⟨q, x9⟩;cases q;replace f3 := f3.ext x9;replace f1 := f1.ext x9;replace f0 := f0.ext x9;replace e0 := e0.trans x9;refine ⟨(rck (h2 := h9) rfl (rfl) (rck (h2 := h9) rfl (ld119 rfl (by assumption) (slice_all hci)) recheck_nil)), _, rfl, ?_⟩;refine GoE.call rfl rfl (aCF aFunc117 rfl) (sc _) (dD 31 1 (dD 31 0 rfl)) ?_ np;rintro v10 h10 ⟨q, x10⟩;cases q;replace e0 := e0.trans x10;refine ⟨recheck_nil, _, rfl, ?_⟩;refine gQ rfl rfl rfl rfl ?_;refine GoE.end rfl ?_
   by_cases hs2 : p.c = (-1 : Int) ∨ F.w T i p p.c.toNat ≤ F.l2
   ·rw [decide_eq_true hs2];refine gC (b := false) rfl ?_;refine gD ?_;refine Go.inBlock noJ_ok ?_;refine gR rfl ?_;refine gO rfl rfl (aA rfl rfl) rfl ?_;refine gP ?_;apply gE;refine Go.inLoop noJ_ok ?_;apply gS;refine gR rfl ?_;refine gO rfl rfl (kLF rfl rfl) rfl ?_;apply gE;apply gS;refine gC (b := false) rfl ?_;refine gD ?_;apply gS;refine gR rfl ?_;refine gP ?_;apply gE;exact gV (ret_end (aResult_of Try.func87 rfl rfl) ⟨ret_true (by omega), e0⟩)
   ·rw [decide_eq_false hs2];refine gC (b := true) rfl ?_;apply gS;refine gR rfl ?_;refine gP ?_;apply gE;exact gV (ret_end (aResult_of Try.func87 rfl rfl) ⟨ret_false (by omega), e0⟩)
  ·rw [decide_eq_false hs1];refine gC (b := true) rfl ?_;apply gS;refine gR rfl ?_;refine gP ?_;apply gE;exact gV (ret_end (aResult_of Try.func87 rfl rfl) ⟨ret_false (by omega), e0⟩)
 ·rw [decide_eq_false hs0];refine gC (b := true) rfl ?_;apply gS;refine gR rfl ?_;refine gP ?_;apply gE;exact gV (ret_end (aResult_of Try.func87 rfl rfl) ⟨ret_false (by omega), e0⟩)
end Go.Proofs.Ytmimdgjehnhnoaa

namespace Go.Proofs.Ytmimdgjehnhnoaa
open Go Go.AbsE
set_option linter.unusedSimpArgs false
set_option maxRecDepth 100000
set_option maxHeartbeats 0
set_option linter.unusedVariables false
theorem same_cells (F : FootV) {rsl hsl : AVal} {h : AH} (A : FootAt h F rsl hsl) : sameA (.agg [rsl, .int .i64 F.men, .int .i64 F.l0, .int .i64 F.l1, .int .i64 F.l2, .int .i64 F.d0, .int .i64 F.d1, .int .i64 F.d2, hsl]) (.agg [rsl, .int .i64 F.men, .int .i64 F.l0, .int .i64 F.l1, .int .i64 F.l2, .int .i64 F.d0, .int .i64 F.d1, .int .i64 F.d2, hsl]) = true := by
 simp [sameA, sameAs, eqI_eq, A.hs.same, A.rs.same]
theorem same_truth (F : FootV) {rsl hsl : AVal} {h : AH} (A : FootAt h F rsl hsl) (T : Bool) : sameA (truthV T F rsl hsl) (truthV T F rsl hsl) = true := by
 have := same_cells F A
 unfold truthV FootV.cells
 split <;> (simp only [sameA, Nat.beq_refl, cond_true] at this ⊢; exact this)
theorem same_plan (p : Pl) : sameA (.agg [.int .i64 p.a, .int .i64 p.b, .int .i64 p.c]) (.agg [.int .i64 p.a, .int .i64 p.b, .int .i64 p.c]) = true := by
 simp [sameA, sameAs, eqI_eq]
theorem course_day {F : FootV} {T : Bool} {i : Nat} {p : Pl} {d : Nat} {el : TypeId} (ha : isAggT Try.prog el = some false) (hd : d ≤ F.rs.length) (h9 : F.rs.length < 9) : partT Try.prog el (i64s (F.crs T i p F.rs.length)) (d * 1) = some (.int .i64 (F.w T i p d)) := by
 refine partT_one ha ?_
 have := i64s_at (crs_at (F := F) (T := T) (i := i) (p := p) (n := F.rs.length) (d := d) (by omega))
 rw [Nat.zero_add, if_pos hd] at this;exact this
theorem wet_ok {F : FootV} (O : F.Ok) {rsl hsl : AVal} {h : AH} (A : FootAt h F rsl hsl) {i : Nat} (hi : i < F.hs.length) (p : Pl) (d : Nat) (hd : d ≤ F.rs.length) :
  Runs Try.prog 47 [.agg (F.cells rsl hsl), .int .i64 i, .agg p.cells, .int .i64 d] h (fun en h' => en = .ret (.agg (spC (F.w false i p d, F.w true i p d))) ∧ Ext h h') := by
 have hnr := O.nr
 have hcb := fun h A => course_ok O (h := h) (rsl := rsl) (hsl := hsl) A false hi p
 have hcw := fun h A => course_ok O (h := h) (rsl := rsl) (hsl := hsl) A true hi p
 have hb := fun h => best_ok (F := F) (rsl := rsl) (hsl := hsl) (h := h)
 have hw := fun h => worst_ok (F := F) (rsl := rsl) (hsl := hsl) (h := h)
 have s1 := same_cells F A
 have s2 := same_truth F A true
 have s3 := same_truth F A false
 have s4 := same_plan p
 obtain ⟨tb, htb⟩ : ∃ tv, truthV false F rsl hsl = tv := ⟨_, rfl⟩
 obtain ⟨tw, htw⟩ : ∃ tv, truthV true F rsl hsl = tv := ⟨_, rfl⟩
 rw [htb] at hcb hb s3;rw [htw] at hcw hw s2
 unfold FootV.cells at hcb hcw hb hw ⊢
 unfold Pl.cells at hcb hcw ⊢
 unfold spC
 have e0 : Ext h h := Ext.refl _
 refine Runs.intro aFunc47 rfl rfl rfl rfl fun rest => ?_;apply gS;refine gR rfl ?_;refine GoR.box rfl rfl rfl rfl rfl rfl fun h0 x0 f0 => ?_;have := e0.1;replace e0 := e0.trans x0;have := f0.1;refine GoR.box rfl rfl rfl rfl rfl rfl fun h1 x1 f1 => ?_;have := e0.1;have := f0.1;replace f0 := f0.ext x1;replace e0 := e0.trans x1;have := f1.1;refine GoR.alloc rfl rfl rfl zt31 rfl rfl fun h2 x2 f2 => ?_;have := e0.1;have := f1.1;have := f0.1;replace f1 := f1.ext x2;replace f0 := f0.ext x2;replace e0 := e0.trans x2;have := f2.1;apply gE;apply gS;refine Go.drawnE plan47_0 ?_;iterate 2 refine gQ rfl rfl (ld80 rfl f0 rfl) rfl ?_
 refine gQ rfl rfl rfl rfl ?_;refine gQ rfl rfl (ld83 rfl f1 rfl) rfl ?_;refine gQ rfl rfl rfl rfl ?_;iterate 2 refine gQ rfl rfl (ld80 rfl f0 rfl) rfl ?_
 refine gQ rfl rfl rfl rfl ?_;refine gQ rfl rfl (ld83 rfl f1 rfl) rfl ?_;refine gQ rfl rfl rfl rfl ?_;refine GoE.call rfl rfl (aCF aFunc63 rfl) (hb _) (dK 2 14 (dK 2 12 (dK 2 11 (dK 2 9 (dK 2 8 (dK 2 6 (dK 2 4 (dK 2 3 (dD 2 1 (dK 2 0 rfl)))))))))) ?_ np;rintro v3 h3 ⟨q, x3⟩;cases q;replace f2 := f2.ext x3;replace f1 := f1.ext x3;replace f0 := f0.ext x3;replace e0 := e0.trans x3;refine ⟨(rck (h2 := h3) rfl (rfl) (rck (h2 := h3) rfl (ld83 rfl f1 rfl) (rck (h2 := h3) rfl (rfl) (rck (h2 := h3) rfl (ld80 rfl f0 rfl) (rck (h2 := h3) rfl (ld80 rfl f0 rfl) (rck (h2 := h3) rfl (rfl) (rck (h2 := h3) rfl (ld83 rfl f1 rfl) (rck (h2 := h3) rfl (rfl) (rck (h2 := h3) rfl (ld80 rfl f0 rfl) recheck_nil))))))))), _, rfl, ?_⟩;refine GoE.call rfl rfl (aCF aFunc85 rfl) (hcb _ (A.ext e0)) (dK 31 14 (dK 31 12 (dK 31 11 (dK 31 9 (dK 31 8 (dK 31 6 (dD 31 4 (dD 31 3 (dD 31 0 rfl))))))))) ?_ np;rintro v4 h4 ⟨q, x4⟩;cases q;replace f2 := f2.ext x4;replace f1 := f1.ext x4;replace f0 := f0.ext x4;replace e0 := e0.trans x4;refine ⟨(rck (h2 := h4) rfl (rfl) (rck (h2 := h4) rfl (ld83 rfl f1 rfl) (rck (h2 := h4) rfl (rfl) (rck (h2 := h4) rfl (ld80 rfl f0 rfl) (rck (h2 := h4) rfl (ld80 rfl f0 rfl) (rck (h2 := h4) rfl (rfl) recheck_nil)))))), _, rfl, ?_⟩;refine gQ rfl rfl (aOp_indexArr (i := d) Try.underlying119 sz117 rfl rfl (Nat.ble_eq_true_of_le (by omega)) (course_day ag117 hd (by omega))) rfl ?_;refine GoE.call rfl rfl (aCF aFunc58 rfl) (hw _) (dK 575 7 (dK 575 14 (dK 575 12 (dK 575 11 (dD 575 9 (dK 575 8 (dK 575 6 rfl))))))) ?_ np;rintro v5 h5 ⟨q, x5⟩;cases q;replace f2 := f2.ext x5;replace f1 := f1.ext x5;replace f0 := f0.ext x5;replace e0 := e0.trans x5;refine ⟨(rck (h2 := h5) rfl (aOp_indexArr (i := d) Try.underlying119 sz117 rfl rfl (Nat.ble_eq_true_of_le (by omega)) (course_day ag117 hd (by omega))) (rck (h2 := h5) rfl (rfl) (rck (h2 := h5) rfl (ld83 rfl f1 rfl) (rck (h2 := h5) rfl (rfl) (rck (h2 := h5) rfl (ld80 rfl f0 rfl) (rck (h2 := h5) rfl (rfl) recheck_nil)))))), _, rfl, ?_⟩;refine GoE.call rfl rfl (aCF aFunc85 rfl) (hcw _ (A.ext e0)) (dK 7999 7 (dK 7999 14 (dD 7999 12 (dD 7999 11 (dD 7999 8 (dK 7999 6 rfl)))))) ?_ np;rintro v6 h6 ⟨q, x6⟩;cases q;replace f2 := f2.ext x6;replace e0 := e0.trans x6;refine ⟨(rck (h2 := h6) rfl (aOp_indexArr (i := d) Try.underlying119 sz117 rfl rfl (Nat.ble_eq_true_of_le (by omega)) (course_day ag117 hd (by omega))) (rck (h2 := h6) rfl (rfl) (rck (h2 := h6) rfl (rfl) recheck_nil))), _, rfl, ?_⟩;refine gQ rfl rfl (aOp_indexArr (i := d) Try.underlying119 sz117 rfl rfl (Nat.ble_eq_true_of_le (by omega)) (course_day ag117 hd (by omega))) rfl ?_;refine gQ rfl rfl (aOp_build zt31 hu31 pl31 rfl rfl) rfl ?_;refine GoE.store rfl rfl rfl rfl (dD 131071 16 (dD 131071 15 (dD 131071 7 (dD 131071 14 (dD 131071 6 rfl))))) rfl rfl f2 rfl sz31 rfl rfl rfl fun h7 u7 => ?_;replace f2 := u7.has f2
 first | replace e0 := e0.upd u7 (by omega) | clear e0
 refine ⟨recheck_nil, ?_⟩;refine GoE.end rfl ?_;exact gV (ret_end (aResult_of Try.func47 rfl (aResults_cell rfl f2 (inCells_agg ag31 sz31 rfl))) ⟨rfl, e0⟩)
def FootV.can (F : FootV) (i : Nat) (p : Pl) : Int := if F.Kept true i p then 2 else if F.Kept false i p then 1 else 0
theorem can_ok {F : FootV} (O : F.Ok) {rsl hsl : AVal} {h : AH} (A : FootAt h F rsl hsl) {i : Nat} (hi : i < F.hs.length) (p : Pl) (hp : p.Ord F.rs.length) :
  Runs Try.prog 54 [.agg (F.cells rsl hsl), .int .i64 i, .agg p.cells] h (fun en h' => en = .ret (.int .i64 (F.can i p)) ∧ Ext h h') := by
 have hcb := fun h A => kept_ok O (h := h) (rsl := rsl) (hsl := hsl) A false hi p hp
 have hcw := fun h A => kept_ok O (h := h) (rsl := rsl) (hsl := hsl) A true hi p hp
 have hb := fun h => best_ok (F := F) (rsl := rsl) (hsl := hsl) (h := h)
 have hw := fun h => worst_ok (F := F) (rsl := rsl) (hsl := hsl) (h := h)
 have s1 := same_cells F A
 have s2 := same_truth F A true
 have s3 := same_truth F A false
 have s4 := same_plan p
 obtain ⟨tb, htb⟩ : ∃ tv, truthV false F rsl hsl = tv := ⟨_, rfl⟩
 obtain ⟨tw, htw⟩ : ∃ tv, truthV true F rsl hsl = tv := ⟨_, rfl⟩
 rw [htb] at hcb hb s3;rw [htw] at hcw hw s2
 unfold FootV.cells at hcb hcw hb hw ⊢
 unfold Pl.cells at hcb hcw ⊢
 unfold FootV.can
 have e0 : Ext h h := Ext.refl _
 refine Runs.intro aFunc54 rfl rfl rfl rfl fun rest => ?_;apply gS;refine gR rfl ?_;refine GoR.box rfl rfl rfl rfl rfl rfl fun h0 x0 f0 => ?_;have := e0.1;replace e0 := e0.trans x0;have := f0.1;refine GoR.box rfl rfl rfl rfl rfl rfl fun h1 x1 f1 => ?_;have := e0.1;have := f0.1;replace f0 := f0.ext x1;replace e0 := e0.trans x1;have := f1.1;refine gP ?_;apply gE;apply gS;refine Go.block noJ_ok ?_;apply gS;refine Go.drawnE plan54_0 ?_;iterate 2 refine gQ rfl rfl (ld80 rfl f0 rfl) rfl ?_
 refine gQ rfl rfl rfl rfl ?_;refine gQ rfl rfl (ld83 rfl f1 rfl) rfl ?_;refine GoE.call rfl rfl (aCF aFunc58 rfl) (hw _) (dK 2 4 (dK 2 3 (dD 2 1 (dK 2 0 rfl)))) ?_ np;rintro v2 h2 ⟨q, x2⟩;cases q;replace f1 := f1.ext x2;replace f0 := f0.ext x2;replace e0 := e0.trans x2;refine ⟨(rck (h2 := h2) rfl (ld83 rfl f1 rfl) (rck (h2 := h2) rfl (rfl) (rck (h2 := h2) rfl (ld80 rfl f0 rfl) recheck_nil))), _, rfl, ?_⟩;refine GoE.call rfl rfl (aCF aFunc87 rfl) (hcw _ (A.ext e0)) (dD 31 4 (dD 31 3 (dD 31 0 rfl))) ?_ np;rintro v3 h3 ⟨q, x3⟩;cases q;replace f1 := f1.ext x3;replace f0 := f0.ext x3;replace e0 := e0.trans x3;refine ⟨recheck_nil, _, rfl, ?_⟩;refine gQ rfl rfl rfl rfl ?_;refine GoE.end rfl ?_
 by_cases hs0 : F.Kept true i p
 ·rw [decide_eq_true hs0];refine gC (b := true) rfl ?_;apply gS;refine gR rfl ?_;refine gP ?_;apply gE;exact gV (ret_end (aResult_of Try.func54 rfl rfl) ⟨ret_int (by simp only [*, if_true, if_false, not_false_eq_true]), e0⟩)
 ·rw [decide_eq_false hs0];refine gC (b := false) rfl ?_;apply gS;refine Go.drawnE plan54_1 ?_;iterate 2 refine gQ rfl rfl (ld80 rfl f0 rfl) rfl ?_
  refine gQ rfl rfl rfl rfl ?_;refine gQ rfl rfl (ld83 rfl f1 rfl) rfl ?_;refine GoE.call rfl rfl (aCF aFunc63 rfl) (hb _) (dK 2 4 (dK 2 3 (dD 2 1 (dK 2 0 rfl)))) ?_ np;rintro v4 h4 ⟨q, x4⟩;cases q;replace f1 := f1.ext x4;replace f0 := f0.ext x4;replace e0 := e0.trans x4;refine ⟨(rck (h2 := h4) rfl (ld83 rfl f1 rfl) (rck (h2 := h4) rfl (rfl) (rck (h2 := h4) rfl (ld80 rfl f0 rfl) recheck_nil))), _, rfl, ?_⟩;refine GoE.call rfl rfl (aCF aFunc87 rfl) (hcb _ (A.ext e0)) (dD 31 4 (dD 31 3 (dD 31 0 rfl))) ?_ np;rintro v5 h5 ⟨q, x5⟩;cases q;replace f1 := f1.ext x5;replace f0 := f0.ext x5;replace e0 := e0.trans x5;refine ⟨recheck_nil, _, rfl, ?_⟩;refine gQ rfl rfl rfl rfl ?_;refine GoE.end rfl ?_
  by_cases hs1 : F.Kept false i p
  ·rw [decide_eq_true hs1];refine gC (b := true) rfl ?_;apply gS;refine gR rfl ?_;refine gP ?_;apply gE;exact gV (ret_end (aResult_of Try.func54 rfl rfl) ⟨ret_int (by simp only [*, if_true, if_false, not_false_eq_true]), e0⟩)
  ·rw [decide_eq_false hs1];refine gC (b := false) rfl ?_;refine gD ?_;refine Go.inBlock noJ_ok ?_;apply gS;refine gR rfl ?_;refine gP ?_;apply gE;exact gV (ret_end (aResult_of Try.func54 rfl rfl) ⟨ret_int (by simp only [*, if_true, if_false, not_false_eq_true]), e0⟩)
end Go.Proofs.Ytmimdgjehnhnoaa

namespace Go.Proofs.Ytmimdgjehnhnoaa
open Go Go.AbsE
set_option linter.unusedSimpArgs false
set_option maxRecDepth 100000
set_option maxHeartbeats 0
set_option linter.unusedVariables false
instance (F : FootV) : Decidable F.Ok := decidable_of_iff (F.okB = true) (okB_iff F)
theorem needHeap_yes {F : FootV} {rsl hsl : AVal} {n : Int} {h : AH} (A : FootAt h F rsl hsl) (hl : F.hs.length ≤ 40) (hn : 0 ≤ n ∧ n ≤ (F.hs.length : Int) - 1) : Runs Try.prog 44 [.agg (F.cells rsl hsl), .int .i64 n] h (fun en h' => en = .ret (.tuple []) ∧ Ext h h') := by
 have := needHeap_ok (n := n) A hl
 rwa [if_pos hn] at this
theorem needHeap_no {F : FootV} {rsl hsl : AVal} {n : Int} {h : AH} (A : FootAt h F rsl hsl) (hl : F.hs.length ≤ 40) (hn : ¬ (0 ≤ n ∧ n ≤ (F.hs.length : Int) - 1)) : Runs Try.prog 44 [.agg (F.cells rsl hsl), .int .i64 n] h (fun en h' => en = .pan (refusal 2) ∧ Ext h h') := by
 have := needHeap_ok (n := n) A hl
 rwa [if_neg hn] at this
theorem needOrder_yes {F : FootV} {rsl hsl : AVal} {p : Pl} {h : AH} (A : FootAt h F rsl hsl) (hl : F.rs.length ≤ 40) (hp : p.Ord F.rs.length) : Runs Try.prog 45 [.agg (F.cells rsl hsl), .agg p.cells] h (fun en h' => en = .ret (.tuple []) ∧ Ext h h') := by
 have := needOrder_ok (a := p.a) (b := p.b) (c := p.c) A hl
 rwa [if_pos hp] at this
theorem needOrder_no {F : FootV} {rsl hsl : AVal} {p : Pl} {h : AH} (A : FootAt h F rsl hsl) (hl : F.rs.length ≤ 40) (hp : ¬ p.Ord F.rs.length) : Runs Try.prog 45 [.agg (F.cells rsl hsl), .agg p.cells] h (fun en h' => en = .pan (refusal 2) ∧ Ext h h') := by
 have := needOrder_ok (a := p.a) (b := p.b) (c := p.c) A hl
 rwa [if_neg hp] at this
theorem needDay_yes {F : FootV} {rsl hsl : AVal} {n : Int} {h : AH} (A : FootAt h F rsl hsl) (hl : F.rs.length ≤ 40) (hn : 0 ≤ n ∧ n ≤ (F.rs.length : Int)) : Runs Try.prog 46 [.agg (F.cells rsl hsl), .int .i64 n] h (fun en h' => en = .ret (.tuple []) ∧ Ext h h') := by
 have := needDay_ok (n := n) A hl
 rwa [if_pos hn] at this
theorem needDay_no {F : FootV} {rsl hsl : AVal} {n : Int} {h : AH} (A : FootAt h F rsl hsl) (hl : F.rs.length ≤ 40) (hn : ¬ (0 ≤ n ∧ n ≤ (F.rs.length : Int))) : Runs Try.prog 46 [.agg (F.cells rsl hsl), .int .i64 n] h (fun en h' => en = .pan (refusal 2) ∧ Ext h h') := by
 have := needDay_ok (n := n) A hl
 rwa [if_neg hn] at this
theorem attempt_puts {F : FootV} (O : F.Ok) (rsl hsl : AVal) (h : AH) (A : FootAt h F rsl hsl) (W : FuncId) (fW : Func) (hfid : aFunc Try.prog W = some fW) (caps : List AVal) (b : Nat) (hb : b < h.next) (o : ABlk)
  (hbody : ∀ h', Ext h h' → Runs Try.prog W ([.agg (F.cells rsl hsl)] ++ caps) h' (fun en h'' => en = .ret (.tuple []) ∧ ExtF (fun x => x = b) h' h'' ∧ Has h'' b o)) :
  Runs Try.prog 42 [.agg (F.cells rsl hsl), .func (.func W) [] caps] h (fun en h' => en = .ret (.int .i64 0) ∧ ExtF (fun x => x = b) h h' ∧ Has h' b o) :=
 attempt_does O rsl hsl h A W fW hfid caps (fun x => x = b) (fun x q => by subst q; exact hb) (fun h' => Has h' b o) (fun h4 h' le same t => t.keep le (same _ hb)) hbody
theorem wetB_no {F : FootV} (O : F.Ok) {rsl hsl : AVal} {i d : Int} {p : Pl} {bi bp bd br : Nat} {h : AH} (A : FootAt h F rsl hsl) (hno : ¬ ((0 ≤ i ∧ i ≤ (F.hs.length : Int) - 1) ∧ p.Ord F.rs.length ∧ 0 ≤ d ∧ d ≤ (F.rs.length : Int)))
  (f0 : Has h bi (.cells .plain [.int .i64 i] 3)) (f1 : Has h bp (.cells .plain [.int .i64 p.a, .int .i64 p.b, .int .i64 p.c] 27)) (f2 : Has h bd (.cells .plain [.int .i64 d] 3)) :
  Runs Try.prog 43 [.agg (F.cells rsl hsl), .ptr bi 0, .ptr bp 0, .ptr bd 0, .ptr br 0] h (fun en h' => en = .pan (refusal 2) ∧ Ext h h') := by
 have hnr := O.nr
 have hnh := O.nh
 have k1 := fun h A => needHeap_yes (F := F) (rsl := rsl) (hsl := hsl) (n := i) (h := h) A (by omega)
 have k2 := fun h A => needHeap_no (F := F) (rsl := rsl) (hsl := hsl) (n := i) (h := h) A (by omega)
 have k3 := fun h A => needOrder_yes (F := F) (rsl := rsl) (hsl := hsl) (p := p) (h := h) A (by omega)
 have k4 := fun h A => needOrder_no (F := F) (rsl := rsl) (hsl := hsl) (p := p) (h := h) A (by omega)
 have k5 := fun h A => needDay_no (F := F) (rsl := rsl) (hsl := hsl) (n := d) (h := h) A (by omega)
 unfold FootV.cells at k1 k2 k3 k4 k5 ⊢
 unfold Pl.cells at k3 k4
 by_cases c1 : 0 ≤ i ∧ i ≤ (F.hs.length : Int) - 1
 ·by_cases c2 : p.Ord F.rs.length
  ·have c3 : ¬ (0 ≤ d ∧ d ≤ (F.rs.length : Int)) := fun q => hno ⟨c1, c2, q⟩
   have e0 : Ext h h := Ext.refl _
   refine Runs.intro aFunc43 rfl rfl rfl rfl fun rest => ?_;apply gS;refine gR rfl ?_;refine GoR.box rfl rfl rfl rfl rfl rfl fun h3 x3 f3 => ?_;replace f0 := f0.ext x3;replace f1 := f1.ext x3;replace f2 := f2.ext x3;replace e0 := e0.trans x3;apply gE;apply gS;refine gR rfl ?_;refine gO rfl rfl (ld80 rfl f3 rfl) rfl ?_;refine gO rfl rfl (ld3 rfl f0 rfl) rfl ?_;refine GoR.call rfl rfl (aCF aFunc44 rfl) (k1 _ (A.ext e0) c1) ?_ np;rintro v4 h4 ⟨q, x4⟩;cases q;refine ⟨_, rfl, ?_⟩;replace f3 := f3.ext x4;replace f1 := f1.ext x4;replace f2 := f2.ext x4;replace e0 := e0.trans x4;apply gE;apply gS;refine gR rfl ?_;refine gO rfl rfl (ld80 rfl f3 rfl) rfl ?_;refine gO rfl rfl (ld27 rfl f1 rfl) rfl ?_;refine GoR.call rfl rfl (aCF aFunc45 rfl) (k3 _ (A.ext e0) c2) ?_ np;rintro v5 h5 ⟨q, x5⟩;cases q;refine ⟨_, rfl, ?_⟩;replace f3 := f3.ext x5;replace f2 := f2.ext x5;replace e0 := e0.trans x5;apply gE;apply gS;refine gR rfl ?_;refine gO rfl rfl (ld80 rfl f3 rfl) rfl ?_;refine gO rfl rfl (ld3 rfl f2 rfl) rfl ?_;refine GoR.callP rfl rfl (aCF aFunc46 rfl) (k5 _ (A.ext e0) c3) (by rintro _ _ ⟨q, _⟩; cases q) ?_;rintro chain h6 ⟨q, x6⟩
   have q := AEnd.pan.inj q
   subst q;replace e0 := e0.trans x6;exact FLeft.pan (⟨rfl, e0⟩)
  ·have e0 : Ext h h := Ext.refl _
   refine Runs.intro aFunc43 rfl rfl rfl rfl fun rest => ?_;apply gS;refine gR rfl ?_;refine GoR.box rfl rfl rfl rfl rfl rfl fun h3 x3 f3 => ?_;replace f0 := f0.ext x3;replace f1 := f1.ext x3;replace e0 := e0.trans x3;apply gE;apply gS;refine gR rfl ?_;refine gO rfl rfl (ld80 rfl f3 rfl) rfl ?_;refine gO rfl rfl (ld3 rfl f0 rfl) rfl ?_;refine GoR.call rfl rfl (aCF aFunc44 rfl) (k1 _ (A.ext e0) c1) ?_ np;rintro v4 h4 ⟨q, x4⟩;cases q;refine ⟨_, rfl, ?_⟩;replace f3 := f3.ext x4;replace f1 := f1.ext x4;replace e0 := e0.trans x4;apply gE;apply gS;refine gR rfl ?_;refine gO rfl rfl (ld80 rfl f3 rfl) rfl ?_;refine gO rfl rfl (ld27 rfl f1 rfl) rfl ?_;refine GoR.callP rfl rfl (aCF aFunc45 rfl) (k4 _ (A.ext e0) c2) (by rintro _ _ ⟨q, _⟩; cases q) ?_;rintro chain h5 ⟨q, x5⟩
   have q := AEnd.pan.inj q
   subst q;replace e0 := e0.trans x5;exact FLeft.pan (⟨rfl, e0⟩)
 ·have e0 : Ext h h := Ext.refl _
  refine Runs.intro aFunc43 rfl rfl rfl rfl fun rest => ?_;apply gS;refine gR rfl ?_;refine GoR.box rfl rfl rfl rfl rfl rfl fun h3 x3 f3 => ?_;replace f0 := f0.ext x3;replace e0 := e0.trans x3;apply gE;apply gS;refine gR rfl ?_;refine gO rfl rfl (ld80 rfl f3 rfl) rfl ?_;refine gO rfl rfl (ld3 rfl f0 rfl) rfl ?_;refine GoR.callP rfl rfl (aCF aFunc44 rfl) (k2 _ (A.ext e0) c1) (by rintro _ _ ⟨q, _⟩; cases q) ?_;rintro chain h4 ⟨q, x4⟩
  have q := AEnd.pan.inj q
  subst q;replace e0 := e0.trans x4;exact FLeft.pan (⟨rfl, e0⟩)
theorem wetB_ok {F : FootV} (O : F.Ok) {rsl hsl : AVal} {i d : Nat} {p : Pl} {bi bp bd br : Nat} {h : AH} (A : FootAt h F rsl hsl) (hi : i < F.hs.length) (hp : p.Ord F.rs.length) (hd : d ≤ F.rs.length)
  (f0 : Has h bi (.cells .plain [.int .i64 i] 3)) (f1 : Has h bp (.cells .plain [.int .i64 p.a, .int .i64 p.b, .int .i64 p.c] 27)) (f2 : Has h bd (.cells .plain [.int .i64 d] 3)) (f3 : Has h br (.cells .plain [.int .i64 0, .int .i64 0] 31)) (hb1 : bi ≠ br) (hb2 : bp ≠ br) (hb3 : bd ≠ br) :
  Runs Try.prog 43 [.agg (F.cells rsl hsl), .ptr bi 0, .ptr bp 0, .ptr bd 0, .ptr br 0] h (fun en h' => en = .ret (.tuple []) ∧ ExtF (fun x => x = br) h h' ∧ Has h' br (.cells .plain (spC (F.w false i p d, F.w true i p d)) 31)) := by
 have hnr := O.nr
 have hnh := O.nh
 have k1 := fun h A => needHeap_yes (F := F) (rsl := rsl) (hsl := hsl) (n := i) (h := h) A (by omega) (by omega)
 have k3 := fun h A => needOrder_yes (F := F) (rsl := rsl) (hsl := hsl) (p := p) (h := h) A (by omega) hp
 have k5 := fun h A => needDay_yes (F := F) (rsl := rsl) (hsl := hsl) (n := d) (h := h) A (by omega) (by omega)
 have k6 := fun h A => wet_ok O (rsl := rsl) (hsl := hsl) (h := h) A hi p d hd
 unfold FootV.cells at k1 k3 k5 k6 ⊢
 unfold Pl.cells at k3 k6
 have y0 : ExtF (fun b => b = br) h h := ExtF.of (Ext.refl _)
 have hbr := f3.1
 have e0 : Ext h h := Ext.refl _
 refine Runs.intro aFunc43 rfl rfl rfl rfl fun rest => ?_;apply gS;refine gR rfl ?_;refine GoR.box rfl rfl rfl rfl rfl rfl fun h4 x4 f4 => ?_;have := e0.1;have := f0.1;have := f1.1;have := f2.1;have := f3.1;replace f0 := f0.ext x4;replace f1 := f1.ext x4;replace f2 := f2.ext x4;replace f3 := f3.ext x4;replace e0 := e0.trans x4;replace y0 := y0.ext x4;have := f4.1;apply gE;apply gS;refine gR rfl ?_;refine gO rfl rfl (ld80 rfl f4 rfl) rfl ?_;refine gO rfl rfl (ld3 rfl f0 rfl) rfl ?_;refine GoR.call rfl rfl (aCF aFunc44 rfl) (k1 _ (A.ext e0)) ?_ np;rintro v5 h5 ⟨q, x5⟩;cases q;refine ⟨_, rfl, ?_⟩;replace f4 := f4.ext x5;replace f0 := f0.ext x5;replace f1 := f1.ext x5;replace f2 := f2.ext x5;replace f3 := f3.ext x5;replace e0 := e0.trans x5;replace y0 := y0.ext x5;apply gE;apply gS;refine gR rfl ?_;refine gO rfl rfl (ld80 rfl f4 rfl) rfl ?_;refine gO rfl rfl (ld27 rfl f1 rfl) rfl ?_;refine GoR.call rfl rfl (aCF aFunc45 rfl) (k3 _ (A.ext e0)) ?_ np;rintro v6 h6 ⟨q, x6⟩;cases q;refine ⟨_, rfl, ?_⟩;replace f4 := f4.ext x6;replace f0 := f0.ext x6;replace f1 := f1.ext x6;replace f2 := f2.ext x6;replace f3 := f3.ext x6;replace e0 := e0.trans x6;replace y0 := y0.ext x6;apply gE;apply gS;refine gR rfl ?_;refine gO rfl rfl (ld80 rfl f4 rfl) rfl ?_;refine gO rfl rfl (ld3 rfl f2 rfl) rfl ?_;refine GoR.call rfl rfl (aCF aFunc46 rfl) (k5 _ (A.ext e0)) ?_ np;rintro v7 h7 ⟨q, x7⟩;cases q;refine ⟨_, rfl, ?_⟩;replace f4 := f4.ext x7;replace f0 := f0.ext x7;replace f1 := f1.ext x7;replace f2 := f2.ext x7;replace f3 := f3.ext x7;replace e0 := e0.trans x7;replace y0 := y0.ext x7;apply gE;refine gR rfl ?_;refine gO rfl rfl (ld80 rfl f4 rfl) rfl ?_;refine gO rfl rfl (ld3 rfl f0 rfl) rfl ?_;refine gO rfl rfl (ld27 rfl f1 rfl) rfl ?_;refine gO rfl rfl (ld3 rfl f2 rfl) rfl ?_;refine GoR.call rfl rfl (aCF aFunc47 rfl) (k6 _ (A.ext e0)) ?_ np;rintro v8 h8 ⟨q, x8⟩;cases q;refine ⟨_, rfl, ?_⟩;replace f4 := f4.ext x8;replace f0 := f0.ext x8;replace f1 := f1.ext x8;replace f2 := f2.ext x8;replace f3 := f3.ext x8;replace e0 := e0.trans x8;replace y0 := y0.ext x8;refine GoR.store rfl rfl rfl rfl rfl rfl f3 rfl sz31 rfl rfl rfl fun h9 u9 => ?_;replace f4 := f4.upd u9 (by omega);replace f0 := f0.upd u9 (by omega);replace f1 := f1.upd u9 (by omega);replace f2 := f2.upd u9 (by omega);replace f3 := u9.has f3
 first | replace e0 := e0.upd u9 (by omega) | clear e0
 first | replace y0 := y0.upd u9 (by first | exact .inl rfl | exact .inl (.inl rfl) | exact .inl (.inr rfl) | exact .inl (by assumption) | exact .inr (by omega)) | skip
 apply gE;exact Go.endL (FLeft.ret (v := .tuple []) (aResult_of Try.func43 rfl rfl) ⟨rfl, y0, f3⟩)
def FootV.wetR (F : FootV) (i : Int) (p : Pl) (d : Int) : (Int × Int) × Int :=
 if F.Ok then (if (0 ≤ i ∧ i ≤ (F.hs.length : Int) - 1) ∧ p.Ord F.rs.length ∧ 0 ≤ d ∧ d ≤ (F.rs.length : Int) then ((F.w false i.toNat p d.toNat, F.w true i.toNat p d.toNat), 0) else ((0, 0), 2)) else ((0, 0), 1)
theorem Wet_ok {F : FootV} {rsl hsl : AVal} {h : AH} (A : FootAt h F rsl hsl) (hb1 : F.rs.length ≤ 40) (hb2 : F.hs.length ≤ 40) (i : Int) (p : Pl) (d : Int) :
  Runs Try.prog 14 [.agg (F.cells rsl hsl), .int .i64 i, .agg p.cells, .int .i64 d] h (fun en h' => en = .ret (.tuple [.agg (spC (F.wetR i p d).1), .int .i64 (F.wetR i p d).2]) ∧ Ext h h') := by
 unfold FootV.wetR
 by_cases O : F.Ok
 ·rw [if_pos O]
  by_cases hr : (0 ≤ i ∧ i ≤ (F.hs.length : Int) - 1) ∧ p.Ord F.rs.length ∧ 0 ≤ d ∧ d ≤ (F.rs.length : Int)
  ·rw [if_pos hr]
   obtain ⟨h1', h2', h3'⟩ := hr
   obtain ⟨i', rfl⟩ := Int.eq_ofNat_of_zero_le h1'.1
   obtain ⟨d', rfl⟩ := Int.eq_ofNat_of_zero_le h3'.1
   rw [Int.toNat_natCast, Int.toNat_natCast]
   have hat := attempt_puts O rsl hsl
   have hB := fun bi bp bd br h A => wetB_ok O (rsl := rsl) (hsl := hsl) (i := i') (d := d') (p := p) (bi := bi) (bp := bp) (bd := bd) (br := br) (h := h) A (by omega) h2' (by omega)
   unfold FootV.cells at hat hB ⊢
   unfold Pl.cells
   have e0 : Ext h h := Ext.refl _
   refine Runs.intro aFunc14 rfl rfl rfl rfl fun rest => ?_;apply gS;refine gR rfl ?_;refine GoR.box rfl rfl rfl rfl rfl rfl fun h0 x0 f0 => ?_;have := e0.1;replace e0 := e0.trans x0;have := f0.1;refine GoR.box rfl rfl rfl rfl rfl rfl fun h1 x1 f1 => ?_;have := e0.1;have := f0.1;replace f0 := f0.ext x1;replace e0 := e0.trans x1;have := f1.1;refine GoR.box rfl rfl rfl rfl rfl rfl fun h2 x2 f2 => ?_;have := e0.1;have := f1.1;have := f0.1;replace f1 := f1.ext x2;replace f0 := f0.ext x2;replace e0 := e0.trans x2;have := f2.1;refine GoR.box rfl rfl rfl rfl rfl rfl fun h3 x3 f3 => ?_;have := e0.1;have := f2.1;have := f1.1;have := f0.1;replace f2 := f2.ext x3;replace f1 := f1.ext x3;replace f0 := f0.ext x3;replace e0 := e0.trans x3;have := f3.1;refine GoR.alloc rfl rfl rfl zt31 rfl rfl fun h4 x4 f4 => ?_;have := e0.1;have := f3.1;have := f2.1;have := f1.1;have := f0.1;replace f3 := f3.ext x4;replace f2 := f2.ext x4;replace f1 := f1.ext x4;replace f0 := f0.ext x4;replace e0 := e0.trans x4;have := f4.1;refine gP ?_;apply gE;apply gS;refine gR rfl ?_;refine gO rfl rfl (ld26 rfl f0 rfl) rfl ?_;refine gP ?_;refine GoR.call rfl rfl (aCF aFunc42 rfl) (hat _ (A.ext e0) 43 _ aFunc43 _ h3.next (by omega) _ (fun h' e => hB _ _ _ _ h' ((A.ext e0).ext e) (f1.ext e) (f2.ext e) (f3.ext e) (f4.ext e) (by omega) (by omega) (by omega))) ?_ (by rintro _ _ ⟨q, _, _⟩; cases q);rintro v5 h5 ⟨q, y5, f5⟩;cases q;refine ⟨_, rfl, ?_⟩;have := e0.1;have := f4.1;have := f3.1;have := f2.1;have := f1.1;have := f0.1
   first | replace f4 := f4.extF y5 (fun q => by omega) | clear f4
   first | replace f3 := f3.extF y5 (fun q => by omega) | clear f3
   first | replace f2 := f2.extF y5 (fun q => by omega) | clear f2
   first | replace f1 := f1.extF y5 (fun q => by omega) | clear f1
   first | replace f0 := f0.extF y5 (fun q => by omega) | clear f0
   first | replace e0 := y5.low e0 (fun b q => by omega) | clear e0
   have := y5.1;refine gP ?_;apply gE;apply gS;refine gR rfl ?_;refine gO rfl rfl (ld31 rfl f5 rfl) rfl ?_;refine gP ?_;refine GoR.store rfl rfl rfl rfl rfl rfl f5 rfl sz31 rfl rfl rfl fun h6 u6 => ?_;replace f5 := u6.has f5;replace f3 := f3.upd u6 (by omega);replace f2 := f2.upd u6 (by omega);replace f1 := f1.upd u6 (by omega);replace f0 := f0.upd u6 (by omega)
   first | replace e0 := e0.upd u6 (by omega) | clear e0
   first | replace y5 := y5.upd u6 (by first | exact .inl rfl | exact .inl (.inl rfl) | exact .inl (.inr rfl) | exact .inl (by assumption) | exact .inr (by omega)) | skip
   refine gP ?_;apply gE;exact gV (ret_end (aResult_of Try.func14 rfl (aResults_c rfl f5 (inCells_agg ag31 sz31 rfl) rfl)) ⟨rfl, e0⟩)
  ·rw [if_neg hr]
   have hat := attempt_gives O rsl hsl
   have hB := fun bi bp bd br h A => wetB_no O (rsl := rsl) (hsl := hsl) (i := i) (d := d) (p := p) (bi := bi) (bp := bp) (bd := bd) (br := br) (h := h) A hr
   unfold FootV.cells at hat hB ⊢
   unfold Pl.cells
   have e0 : Ext h h := Ext.refl _
   refine Runs.intro aFunc14 rfl rfl rfl rfl fun rest => ?_;apply gS;refine gR rfl ?_;refine GoR.box rfl rfl rfl rfl rfl rfl fun h0 x0 f0 => ?_;have := e0.1;replace e0 := e0.trans x0;have := f0.1;refine GoR.box rfl rfl rfl rfl rfl rfl fun h1 x1 f1 => ?_;have := e0.1;have := f0.1;replace f0 := f0.ext x1;replace e0 := e0.trans x1;have := f1.1;refine GoR.box rfl rfl rfl rfl rfl rfl fun h2 x2 f2 => ?_;have := e0.1;have := f1.1;have := f0.1;replace f1 := f1.ext x2;replace f0 := f0.ext x2;replace e0 := e0.trans x2;have := f2.1;refine GoR.box rfl rfl rfl rfl rfl rfl fun h3 x3 f3 => ?_;have := e0.1;have := f2.1;have := f1.1;have := f0.1;replace f2 := f2.ext x3;replace f1 := f1.ext x3;replace f0 := f0.ext x3;replace e0 := e0.trans x3;have := f3.1;refine GoR.alloc rfl rfl rfl zt31 rfl rfl fun h4 x4 f4 => ?_;have := e0.1;have := f3.1;have := f2.1;have := f1.1;have := f0.1;replace f3 := f3.ext x4;replace f2 := f2.ext x4;replace f1 := f1.ext x4;replace f0 := f0.ext x4;replace e0 := e0.trans x4;have := f4.1;refine gP ?_;apply gE;apply gS;refine gR rfl ?_;refine gO rfl rfl (ld26 rfl f0 rfl) rfl ?_;refine gP ?_;refine GoR.call rfl rfl (aCF aFunc42 rfl) (hat _ (A.ext e0) 43 _ aFunc43 _ 2 (fun h' e => hB _ _ _ _ h' ((A.ext e0).ext e) (f1.ext e) (f2.ext e) (f3.ext e))) ?_ np;rintro v5 h5 ⟨q, x5⟩;cases q;refine ⟨_, rfl, ?_⟩;replace f4 := f4.ext x5;replace e0 := e0.trans x5;refine gP ?_;apply gE;apply gS;refine gR rfl ?_;refine gO rfl rfl (ld31 rfl f4 rfl) rfl ?_;refine gP ?_;refine GoR.store rfl rfl rfl rfl rfl rfl f4 rfl sz31 rfl rfl rfl fun h6 u6 => ?_;replace f4 := u6.has f4
   first | replace e0 := e0.upd u6 (by omega) | clear e0
   refine gP ?_;apply gE;exact gV (ret_end (aResult_of Try.func14 rfl (aResults_c rfl f4 (inCells_agg ag31 sz31 rfl) rfl)) ⟨rfl, e0⟩)
 ·rw [if_neg O]
  have hat := attempt_bad O hb1 hb2 rsl hsl
  unfold FootV.cells at hat ⊢
  unfold Pl.cells
  have e0 : Ext h h := Ext.refl _
  refine Runs.intro aFunc14 rfl rfl rfl rfl fun rest => ?_;apply gS;refine gR rfl ?_;refine GoR.box rfl rfl rfl rfl rfl rfl fun h0 x0 f0 => ?_;have := e0.1;replace e0 := e0.trans x0;have := f0.1;refine GoR.box rfl rfl rfl rfl rfl rfl fun h1 x1 f1 => ?_;have := e0.1;have := f0.1;replace f0 := f0.ext x1;replace e0 := e0.trans x1;have := f1.1;refine GoR.box rfl rfl rfl rfl rfl rfl fun h2 x2 f2 => ?_;have := e0.1;have := f1.1;have := f0.1;replace f1 := f1.ext x2;replace f0 := f0.ext x2;replace e0 := e0.trans x2;have := f2.1;refine GoR.box rfl rfl rfl rfl rfl rfl fun h3 x3 f3 => ?_;have := e0.1;have := f2.1;have := f1.1;have := f0.1;replace f2 := f2.ext x3;replace f1 := f1.ext x3;replace f0 := f0.ext x3;replace e0 := e0.trans x3;have := f3.1;refine GoR.alloc rfl rfl rfl zt31 rfl rfl fun h4 x4 f4 => ?_;have := e0.1;have := f3.1;have := f2.1;have := f1.1;have := f0.1;replace f0 := f0.ext x4;replace e0 := e0.trans x4;have := f4.1;refine gP ?_;apply gE;apply gS;refine gR rfl ?_;refine gO rfl rfl (ld26 rfl f0 rfl) rfl ?_;refine gP ?_;refine GoR.call rfl rfl (aCF aFunc42 rfl) (hat _ (A.ext e0) 43 _) ?_ np;rintro v5 h5 ⟨q, x5⟩;cases q;refine ⟨_, rfl, ?_⟩;replace f4 := f4.ext x5;replace e0 := e0.trans x5;refine gP ?_;apply gE;apply gS;refine gR rfl ?_;refine gO rfl rfl (ld31 rfl f4 rfl) rfl ?_;refine gP ?_;refine GoR.store rfl rfl rfl rfl rfl rfl f4 rfl sz31 rfl rfl rfl fun h6 u6 => ?_;replace f4 := u6.has f4
  first | replace e0 := e0.upd u6 (by omega) | clear e0
  refine gP ?_;apply gE;exact gV (ret_end (aResult_of Try.func14 rfl (aResults_c rfl f4 (inCells_agg ag31 sz31 rfl) rfl)) ⟨rfl, e0⟩)
end Go.Proofs.Ytmimdgjehnhnoaa

set_option linter.unusedSimpArgs false
namespace Go.AbsE
open Go
section
variable {P : Program}
def IterP (P : Program) (g : FuncId) (first cap : List AVal) (items : List (List AVal)) (A : AH → Prop) : Prop :=
 ∀ (y : AVal) (J E : Nat → AH → Prop) (h : AH), y.cells = [y] → scalars [y] = true → (∀ k h, J k h → A h) →
  (∀ (k : Nat) item h, items[k]? = some item → J k h → ∃ x, callY P y [.agg item] h = some x ∧ (∀ v h', x ≠ .val v h') ∧ Does P x (fun en h' => (en = .ret (.bool true) ∧ J (k + 1) h') ∨ (en = .ret (.bool false) ∧ E k h'))) →
  J 0 h → Runs P g (first ++ [y] ++ cap) h (fun en h' => en = .ret (.tuple []) ∧ (J items.length h' ∨ ∃ k, k < items.length ∧ E k h'))
theorem IterP.iter {g : FuncId} {first cap : List AVal} {items : List (List AVal)} {A : AH → Prop} (k : IterP P g first cap items A) : Iter P g first cap items A := by
 intro y base S J E h hyc hys hA hb T j0
 obtain ⟨fr, hfr, hr⟩ := k y (fun n h' => ExtF S h h' ∧ J n h') (fun n h' => ExtF S h h' ∧ E n h') h hyc hys (fun _ h' q => hA h' q.1) (fun n item h' hit q => by
  obtain ⟨x, c1, c2, c3⟩ := T.take hit q.2
  refine ⟨x, c1, c2, c3.mono fun en h'' r => ?_⟩
  have x2 : ExtF S h h'' := q.1.trans (fun _ w => .inl w) r.1
  exact r.2.elim (fun r => .inl ⟨r.1, x2, r.2⟩) (fun r => .inr ⟨r.1, x2, r.2⟩)) ⟨ExtF.of (Ext.refl _), j0⟩
 exact Runs.mono ⟨fr, hfr, hr⟩ fun en h' q => ⟨q.1, q.2.elim (fun r => r.1) (fun ⟨_, _, r⟩ => r.1), q.2.elim (fun r => .inl r.2) (fun ⟨m, hm, r⟩ => .inr ⟨m, hm, r.2⟩)⟩
theorem Go.rangeP {fn n : Nat} {ds : List ADef} {dk : Bool} {rst : List AFr} {k : List AItem} {Q : AM → Prop} {t : Tr AVal} {h : AH} {x : Operand} {params : Array Tmp} {assign body : Code} {g : FuncId} {gf fnr : Func} {first cap : List AVal}
  {items : List (List AVal)} {A : AH → Prop} (Inv : Nat → Nat → AH → Prop) (Fin : Nat → Code → AH → Prop)
  (hx : ev t x = some (.func (.func g) first cap)) (hg : aFunc P g = some gf) (hfn : P.funcs[fn]? = some fnr) (it : IterP P g first cap items A)
  (hA : ∀ lb j hh, Inv lb j hh → A hh) (hI : ∀ lb h2, h.next ≤ lb → Ext h h2 → Inv lb 0 h2)
  (kI : ∀ lb j h1 h2, Inv lb j h1 → h2.next = h1.next → (∀ b, b ≠ lb → h2.get b = h1.get b) → Inv lb j h2)
  (kF : ∀ lb c h1 h2, Fin lb c h1 → h2.next = h1.next → (∀ b, b ≠ lb → h2.get b = h1.get b) → Fin lb c h2)
  (bd : ∀ (j : Nat) item, items[j]? = some item → ∃ t1, putArgs t n params.toList [.agg item] = some t1 ∧ ∀ (hh : AH) (d lb : Nat) (r0 : ALoop) (fr : AFr) (rest : List AFr) (Q' : AM → Prop), Inv lb j hh → h.next ≤ d → d < lb → Has hh lb (.loop r0) → Has hh d (.deferred (some [])) → r0.state = .ready →
   (∀ tt h', Inv lb (j + 1) h' → Has h' lb (.loop { r0 with state := .busy }) → Has h' d (.deferred (some [])) → Go P ⟨fn, n, [], false, some lb, fr :: rest⟩ [] tt h' Q') →
   (∀ c tt h' kk, (c = .ret ∨ ∃ id, c = .exit id ∧ exitA id kk = none) → Fin lb c h' → Has h' lb (.loop { r0 with state := .busy }) → Has h' d (.deferred (some [])) → Go P ⟨fn, n, [], false, some lb, fr :: rest⟩ (.code c :: kk) tt h' Q') →
   Go P ⟨fn, n, [], false, some lb, fr :: rest⟩ [.code assign, .beginRound, .code body] t1 hh Q')
  (nx : ∀ d lb h3, h.next ≤ d → d < lb → Has h3 d (.deferred (some [])) → Inv lb items.length h3 → Go P ⟨fn, n, .collected d :: ds, dk, none, rst⟩ k t h3 Q)
  (fx : ∀ c d lb h3, h.next ≤ d → d < lb → Has h3 d (.deferred (some [])) → Fin lb c h3 → Go P ⟨fn, n, .collected d :: ds, dk, none, rst⟩ (.code c :: k) t h3 Q) :
  Go P ⟨fn, n, ds, dk, none, rst⟩ (.code (.rangeFunc x params assign body) :: k) t h Q := by
 refine Go.rangeFunc hx hg fun d lb h2 hd hlb e2 fd fl => ?_
 obtain ⟨r0, hr0, fl⟩ : ∃ r0 : ALoop, r0 = _ ∧ Has h2 lb (.loop r0) := ⟨_, rfl, fl⟩
 have n2 := e2.1
 let J : Nat → AH → Prop := fun j hh => Inv lb j hh ∧ Has hh lb (.loop r0) ∧ Has hh d (.deferred (some []))
 let E : Nat → AH → Prop := fun j hh => ∃ c, Fin lb c hh ∧ Has hh lb (.loop { r0 with state := .done, pending := some c }) ∧ Has hh d (.deferred (some []))
 have keepD : ∀ {h1 h3 : AH} {o : ABlk}, Has h1 d (.deferred (some [])) → Upd h1 lb o h3 → Has h3 d (.deferred (some [])) := fun a u => a.upd u (by omega)
 have tk : ∀ (k : Nat) item h, items[k]? = some item → J k h → ∃ x, callY P (.yield lb) [.agg item] h = some x ∧ (∀ v h', x ≠ .val v h') ∧ Does P x (fun en h' => (en = .ret (.bool true) ∧ J (k + 1) h') ∨ (en = .ret (.bool false) ∧ E k h')) := by
  rintro j item hh hit ⟨i, f, fd'⟩
  obtain ⟨t1, p1, p2⟩ := bd j item hit
  refine ⟨_, rfl, (fun _ _ q => by cases q), ?_⟩
  subst hr0
  refine Does.round f p1 hfn fun fr rest Q' hr hpn => ?_
  refine p2 hh d lb _ fr rest Q' i (by omega) (by omega) f fd' rfl ?_ ?_
  ·intro tt h' i' f' fd2
   refine Go.roundEnd f' fun h'' u => ?_
   exact hr (.bool true) h'' (.inl ⟨rfl, kI _ _ _ _ i' u.1 u.2.2, u.has f', keepD fd2 u⟩)
  ·intro c tt h' kk hc i' f' fd2
   have fin : ∀ h'', Upd h' lb (.loop { state := .done, pending := some c, fn := fn, n := n, tmps := t, params := params.toList, assign := assign, body := body, defers := d }) h'' → ∃ fr', fr.finish (.bool false) = some fr' ∧ Reach P ⟨fr' :: rest, h''⟩ Q' := by
    intro h'' u
    exact hr (.bool false) h'' (.inr ⟨rfl, c, kF _ _ _ _ i' u.1 u.2.2, u.has f', keepD fd2 u⟩)
   rcases hc with rfl | ⟨id, rfl, hk⟩
   ·exact Go.roundRet f' fin
   ·exact Go.roundExit f' hk fin
 refine ⟨_, it (.yield lb) J E h2 rfl rfl (fun k h j => hA _ _ _ j.1) tk ⟨hI _ _ (by omega) e2, fl, fd⟩, (fun chain h' q => by cases q.1), ?_⟩
 rintro v h' ⟨q, j | ⟨kk, hk, c, j, f, fd'⟩⟩
 ·obtain ⟨i, f, fd'⟩ := j
  refine ⟨r0, f, by rw [hr0]; exact (fun q => by cases q), fun h3 u => ?_⟩
  have hp : r0.pending = none := by rw [hr0]
  rw [hp]
  exact nx d lb h3 (by omega) (by omega) (keepD fd' u) (kI _ _ _ _ i u.1 u.2.2)
 ·refine ⟨_, f, (fun q => by cases q), fun h3 u => ?_⟩
  exact fx c d lb h3 (by omega) (by omega) (keepD fd' u) (kF _ _ _ _ j u.1 u.2.2)
end
end Go.AbsE

namespace Go.Proofs.Ytmimdgjehnhnoaa
open Go Go.AbsE
set_option linter.unusedSimpArgs false
set_option maxRecDepth 100000
set_option maxHeartbeats 0
set_option linter.unusedVariables false
def itC (a b m : Nat) : List Pl := (List.range m).map fun k => ⟨(a : Nat), (b : Nat), ((b + 1 + k : Nat) : Int)⟩
def itB (n a m : Nat) : List Pl := (List.range m).flatMap fun k => itC a (a + 1 + k) (n - (a + 1 + k + 1))
def itA (n m : Nat) : List Pl := (List.range m).flatMap fun a => itB n a (n - (a + 1))
def wholeL (n : Nat) : List Pl := itA n n
theorem fm_at {α : Type} {f : Nat → List α} {N m i : Nat} {x : α} (hm : m < N) (hx : (f m)[i]? = some x) : ((List.range N).flatMap f)[((List.range m).flatMap f).length + i]? = some x := by
 have h1 : List.range N = List.range m ++ (m :: (List.range (N - (m + 1))).map (· + (m + 1))) := by
  have : N = m + (1 + (N - (m + 1))) := by omega
  conv => lhs; rw [this, List.range_add, List.range_add]
  simp only [List.map_append, List.map_map]
  congr 1
  simp only [List.range_one, List.map_cons, List.map_nil, List.cons_append, List.nil_append, Nat.add_zero]
  congr 1
  refine List.map_congr_left fun k _ => ?_
  simp only [Function.comp_apply]
  omega
 have hi := (List.getElem?_eq_some_iff.1 hx).1
 rw [h1, List.flatMap_append, List.flatMap_cons, List.getElem?_append_right (by omega), Nat.add_sub_cancel_left, List.getElem?_append_left hi];exact hx
theorem fm_succ {α : Type} (f : Nat → List α) (m : Nat) : ((List.range (m + 1)).flatMap f).length = ((List.range m).flatMap f).length + (f m).length := by
 rw [List.range_succ, List.flatMap_append, List.length_append]
 simp
theorem itC_len (a b m : Nat) : (itC a b m).length = m := by simp [itC]
theorem itB_succ (n a j : Nat) : (itB n a (j + 1)).length = (itB n a j).length + (n - (a + 1 + j + 1)) := by
 unfold itB
 rw [fm_succ, itC_len]
theorem itA_succ (n a : Nat) : (itA n (a + 1)).length = (itA n a).length + (itB n a (n - (a + 1))).length := fm_succ _ _
theorem whole_at {n a j k : Nat} (ha : a < n) (hj : a + 1 + j < n) (hk : a + 1 + j + 1 + k < n) : (wholeL n)[(itA n a).length + ((itB n a j).length + k)]? = some ⟨(a : Nat), ((a + 1 + j : Nat) : Int), ((a + 1 + j + 1 + k : Nat) : Int)⟩ := by
 refine fm_at ha ?_;refine fm_at (by omega) ?_
 unfold itC
 rw [List.getElem?_map, List.getElem?_range (by omega)]
 rfl
def WholeA (F : FootV) (rsl hsl : AVal) (bw : Nat) (h : AH) : Prop := Has h bw (.cells .plain (F.cells rsl hsl) 80)
theorem whole_itP {F : FootV} (O : F.Ok) {rsl hsl : AVal} (hl : lenA rsl = some F.rs.length) (bw : Nat) : IterP Try.prog 119 [] [.ptr bw 0] ((wholeL F.rs.length).map Pl.cells) (WholeA F rsl hsl bw) := by
 intro y J E h hyc hys hA T j0
 show Runs Try.prog 119 [y, .ptr bw 0] h _
 have hnr := O.nr
 rw [List.length_map]
 unfold WholeA FootV.cells at hA
 obtain ⟨n, hn⟩ : ∃ n, F.rs.length = n := ⟨_, rfl⟩
 rw [hn] at T hl hnr ⊢
 have e0 : Ext h h := Ext.refl _
 have f0 := hA _ h j0
 refine Runs.intro aFunc119 rfl rfl rfl rfl fun rest => ?_;apply gS;refine gR rfl ?_;refine gO rfl rfl (fa80_0 rfl) rfl ?_;refine gO rfl rfl (ld22 rfl f0 rfl) rfl ?_;refine gO rfl rfl (aOp_lenSlice Try.underlying22 rfl (by assumption)) rfl ?_;refine gP ?_;apply gE;apply gS;refine gR rfl ?_;iterate 2 refine gP ?_
 apply gE;refine Go.block noJ_ok ?_;refine Go.loopKeep (fun a : Nat => [(0, y), (3, .int .i64 (n : Nat)), (10, .int .i64 (n : Nat)), (11, .int .i64 (a : Nat))]) (fun m a h' => m + a = n ∧ J (itA n a).length h') (n := n) 0 ⟨rfl, rfl, rfl, rfl, trivial⟩ ⟨rfl, j0⟩ ?_;clear e0 f0;rintro m a h1 ⟨hm, j1⟩ again
 have e0 : Ext h1 h1 := Ext.refl _
 by_cases ha : a < n
 ·apply gS;refine gR rfl ?_;refine gO rfl rfl (kLT rfl rfl) rfl ?_;apply gE;apply gS;refine gC (b := true) rfl ?_;refine gD ?_;apply gS;refine Go.block noJ_ok ?_;apply gS;refine gR rfl ?_;iterate 2 refine gP ?_
  apply gE;apply gS;refine gR rfl ?_;refine gP ?_;refine gO rfl rfl (aA rfl rfl) rfl ?_;refine gP ?_;apply gE;refine Go.block noJ_ok ?_;refine Go.loopKeep (fun j : Nat => [(0, y), (3, .int .i64 (n : Nat)), (4, .int .i64 (a : Nat)), (5, .int .i64 ((a + 1 + j : Nat) : Int)), (10, .int .i64 (n : Nat)), (11, .int .i64 (a : Nat))]) (fun m j h' => m + (a + 1 + j) = n ∧ J ((itA n a).length + (itB n a j).length) h') (n := n - (a + 1)) 0 ⟨rfl, rfl, rfl, rfl, rfl, rfl, trivial⟩ ⟨by omega, j1⟩ ?_;clear e0 j1;rintro m2 j h2 ⟨hm2, j1⟩ again2
  have e0 : Ext h2 h2 := Ext.refl _
  by_cases hj : a + 1 + j < n
  ·iterate 2 apply gS
   refine gR rfl ?_;iterate 2 refine gP ?_
   refine gO rfl rfl (kLT rfl rfl) rfl ?_;apply gE;refine gC (b := true) rfl ?_;refine gD ?_;apply gS;refine Go.block noJ_ok ?_;apply gS;refine gR rfl ?_;refine gP ?_;refine gO rfl rfl (aA rfl rfl) rfl ?_;refine gP ?_;apply gE;refine Go.block noJ_ok ?_;refine Go.loopKeep (fun k : Nat => [(0, y), (3, .int .i64 (n : Nat)), (4, .int .i64 (a : Nat)), (5, .int .i64 ((a + 1 + j : Nat) : Int)), (6, .int .i64 ((a + 1 + j + 1 + k : Nat) : Int)), (10, .int .i64 (n : Nat)), (11, .int .i64 (a : Nat))]) (fun m k h' => m + (a + 1 + j + 1 + k) = n ∧ J ((itA n a).length + ((itB n a j).length + k)) h') (n := n - (a + 1 + j + 1)) 0 ⟨rfl, rfl, rfl, rfl, rfl, rfl, rfl, trivial⟩ ⟨by omega, j1⟩ ?_;clear e0 j1;rintro m3 k h3 ⟨hm3, j1⟩ again3
   have e0 : Ext h3 h3 := Ext.refl _
   by_cases hk : a + 1 + j + 1 + k < n
   ·have hit : ((wholeL n).map Pl.cells)[(itA n a).length + ((itB n a j).length + k)]? = some [.int .i64 (a : Nat), .int .i64 ((a + 1 + j : Nat) : Int), .int .i64 ((a + 1 + j + 1 + k : Nat) : Int)] := by
     rw [List.getElem?_map, whole_at ha hj hk]
     rfl
    have hlt : (itA n a).length + ((itB n a j).length + k) < (wholeL n).length := (List.getElem?_eq_some_iff.1 (whole_at ha hj hk)).1
    iterate 2 apply gS
    refine gR rfl ?_;iterate 2 refine gP ?_
    refine gO rfl rfl (kLT rfl rfl) rfl ?_;apply gE;refine gC (b := true) rfl ?_;refine gD ?_;apply gS;refine Go.block noJ_ok ?_;apply gS;refine gR rfl ?_;iterate 4 refine gP ?_
    refine gO rfl rfl (aOp_buildArr zt83 Try.underlying83 sz3 rfl rfl) rfl ?_
    obtain ⟨ax, a1, a2, a3⟩ := T _ _ _ hit j1
    refine GoR.does rfl rfl (aOp_callY rfl rfl a1) a2 a3 ?_ (by rintro _ _ (⟨q, _⟩ | ⟨q, _⟩) <;> cases q);rintro v h6 (⟨q, j6⟩ | ⟨q, e6⟩)
    ·cases q;refine ⟨_, rfl, ?_⟩;refine gP ?_;apply gE;refine gC (b := false) rfl ?_;refine gD ?_;refine Go.inBlock noJ_ok ?_;refine gR rfl ?_;refine gP ?_;refine gO rfl rfl (aA rfl rfl) rfl ?_;refine gP ?_;apply gE;exact again3 (m3 - 1) (k + 1) _ _ (by omega) ⟨rfl, rfl, rfl, rfl, rfl, rfl, rfl, trivial⟩ ⟨by omega, j6⟩
    ·cases q;refine ⟨_, rfl, ?_⟩;refine gP ?_;apply gE;refine gC (b := true) rfl ?_;exact gV (ret_end (aResult_of Try.func119 rfl rfl) ⟨rfl, .inr ⟨_, hlt, e6⟩⟩)
   ·iterate 2 apply gS
    refine gR rfl ?_;iterate 2 refine gP ?_
    refine gO rfl rfl (kLF rfl rfl) rfl ?_;apply gE;refine gC (b := false) rfl ?_;refine gD ?_;refine Go.inBlock noJ_ok ?_;refine gR rfl ?_;refine gP ?_;refine gO rfl rfl (aA rfl rfl) rfl ?_;refine gP ?_;apply gE
    have hk' : n - (a + 1 + j + 1) = k := by omega
    exact again2 (m2 - 1) (j + 1) _ _ (by omega) ⟨rfl, rfl, rfl, rfl, rfl, rfl, trivial⟩ ⟨by omega, by rw [itB_succ, hk']; exact j1⟩
  ·iterate 2 apply gS
   refine gR rfl ?_;iterate 2 refine gP ?_
   refine gO rfl rfl (kLF rfl rfl) rfl ?_;apply gE;refine gC (b := false) rfl ?_;refine gD ?_;refine Go.inBlock noJ_ok ?_;refine gR rfl ?_;refine gO rfl rfl (aA rfl rfl) rfl ?_;refine gP ?_;apply gE
   have hj' : n - (a + 1) = j := by omega
   exact again (m - 1) (a + 1) _ _ (by omega) ⟨rfl, rfl, rfl, rfl, trivial⟩ ⟨by omega, by rw [itA_succ, hj']; exact j1⟩
 ·have ha' : a = n := by omega
  rw [ha'] at j1;apply gS;refine gR rfl ?_;refine gO rfl rfl (kLF rfl rfl) rfl ?_;apply gE;apply gS;refine gC (b := false) rfl ?_;refine gD ?_;exact Go.endL (FLeft.ret (v := .tuple []) (aResult_of Try.func119 rfl rfl) ⟨rfl, .inl j1⟩)
theorem whole_it {F : FootV} (O : F.Ok) {rsl hsl : AVal} (hl : lenA rsl = some F.rs.length) (bw : Nat) : Iter Try.prog 119 [] [.ptr bw 0] ((wholeL F.rs.length).map Pl.cells) (WholeA F rsl hsl bw) := (whole_itP O hl bw).iter
end Go.Proofs.Ytmimdgjehnhnoaa

namespace Go.Proofs.Ytmimdgjehnhnoaa
open Go Go.AbsE
set_option linter.unusedSimpArgs false
set_option maxRecDepth 100000
set_option maxHeartbeats 0
set_option linter.unusedVariables false
def stepV (p : Pl → Bool) (st : Option Pl) (x : Pl) : Option Pl := if p x then (match st with | none => some x | some q => if x.c < q.c then some x else some q) else st
def firstV (p : Pl → Bool) (L : List Pl) : Option Pl := L.foldl (stepV p) none
def zeroPl : Pl := ⟨0, 0, 0⟩
theorem better_ok (p q : Pl) (h : AH) : Runs Try.prog 93 [.agg p.cells, .agg q.cells] h (fun en h' => en = .ret (.bool (decide (p.c < q.c))) ∧ Ext h h') := by
 unfold Pl.cells
 have e0 : Ext h h := Ext.refl _
 refine Runs.intro aFunc93 rfl rfl rfl rfl fun rest => ?_;apply gS;refine gR rfl ?_;refine GoR.box rfl rfl rfl rfl rfl rfl fun h0 x0 f0 => ?_;replace e0 := e0.trans x0;refine GoR.box rfl rfl rfl rfl rfl rfl fun h1 x1 f1 => ?_;replace f0 := f0.ext x1;replace e0 := e0.trans x1;refine gP ?_;apply gE;apply gS;refine gR rfl ?_;refine gO rfl rfl (aOp_indexAddrArr (i := 2) Try.underlying83 sz3 rfl rfl rfl) rfl ?_;refine gO rfl rfl (ld3 rfl f0 rfl) rfl ?_;refine gO rfl rfl (aOp_indexAddrArr (i := 2) Try.underlying83 sz3 rfl rfl rfl) rfl ?_;refine gO rfl rfl (ld3 rfl f1 rfl) rfl ?_
 by_cases hs0 : (p.c : Int) < q.c
 ·refine gO rfl rfl (kLT rfl rfl) rfl ?_;refine gP ?_;apply gE;exact gV (ret_end (aResult_of Try.func93 rfl rfl) ⟨ret_true (by omega), e0⟩)
 ·refine gO rfl rfl (kLF rfl rfl) rfl ?_;refine gP ?_;apply gE;exact gV (ret_end (aResult_of Try.func93 rfl rfl) ⟨ret_false (by omega), e0⟩)
theorem first_ok {F : FootV} (O : F.Ok) {rsl hsl : AVal} {h : AH} (hl : lenA rsl = some F.rs.length) {bw : Nat} (hw : WholeA F rsl hsl bw h) {fid : FuncId} {caps : List AVal} {fn : Func} (hfid : aFunc Try.prog fid = some fn) (p : Pl → Bool)
  (hc : ∀ x h', x ∈ wholeL F.rs.length → Ext h h' → Runs Try.prog fid ([.agg (Pl.cells x)] ++ caps) h' (fun en h'' => en = .ret (.bool (p x)) ∧ Ext h' h'')) :
  Runs Try.prog 90 [.func (.func 119) [] [.ptr bw 0], .agg [.func (.func fid) [] caps, .func (.func 93) [] []]] h (fun en h' => en = .ret (.tuple [.agg ((firstV p (wholeL F.rs.length)).getD zeroPl).cells, .bool (firstV p (wholeL F.rs.length)).isSome]) ∧ Ext h h') := by
 have hit := whole_it O (hsl := hsl) hl bw
 have hw1 := hw.1
 obtain ⟨L, hL⟩ : ∃ L, wholeL F.rs.length = L := ⟨_, rfl⟩
 rw [hL] at hit hc ⊢
 have e0 : Ext h h := Ext.refl _
 refine Runs.intro aFunc90 rfl rfl rfl rfl fun rest => ?_;apply gS;refine gR rfl ?_;refine GoR.box rfl rfl rfl rfl rfl rfl fun h0 x0 f0 => ?_;have := e0.1;replace e0 := e0.trans x0;have := f0.1;refine GoR.alloc rfl rfl rfl zt83 rfl rfl fun h1 x1 f1 => ?_;have := e0.1;have := f0.1;replace f0 := f0.ext x1;replace e0 := e0.trans x1;have := f1.1;refine GoR.alloc rfl rfl rfl zt4 rfl rfl fun h2 x2 f2 => ?_;have := e0.1;have := f1.1;have := f0.1;replace f1 := f1.ext x2;replace f0 := f0.ext x2;replace e0 := e0.trans x2;have := f2.1;apply gE;iterate 2 apply gS
 refine gR rfl ?_;refine gP ?_;apply gE;refine Go.block noJ_ok ?_
 have hx0 := f0.1
 have hx1 := f1.1
 have hx2 := f2.1
 have he0 := e0.1
 have g0 := f0
 refine Go.rangeTk (items := L.map Pl.cells) (A := WholeA F rsl hsl bw) (fun b => b = h0.next ∨ b = h1.next)
  (fun j hh => Has hh h0.next (.cells .plain (((firstV p (L.take j)).getD zeroPl).cells) 83) ∧ Has hh h1.next (.cells .plain [.bool (firstV p (L.take j)).isSome] 4)) (fun _ _ => False)
  rfl aFunc119 Try.func90 hit (fun b q => by omega) (fun h' x => by
   have := (show Has h _ _ from hw).ext e0
   exact this.extF x (by omega)) ⟨f1, f2⟩ ?_ ?_ ?_ ?_ ?_
 ·rintro k p1 p2 ⟨fa, fb⟩ hn' hk;exact ⟨fa.keep hn' (hk _ (by omega)), fb.keep hn' (hk _ (by omega))⟩
 ·rintro _ _ _ q _ _;exact q.elim
 ·rintro j item hj;refine ⟨_, rfl, ?_⟩;rintro hh lb r0 fr rest' Q' ⟨fa, fb⟩ x7 hlb fl hready contT contF
  obtain ⟨x, hx, rfl⟩ : ∃ x, L[j]? = some x ∧ Pl.cells x = item := by
   rw [List.getElem?_map] at hj
   cases q : L[j]? with
   | none => rw [q] at hj; cases hj
   | some x => rw [q] at hj; exact ⟨x, rfl, Option.some.inj hj⟩
  obtain ⟨st, hst⟩ : ∃ st, firstV p (L.take j) = st := ⟨_, rfl⟩
  have hnext : firstV p (L.take (j + 1)) = stepV p st x := by
   unfold firstV at hst ⊢
   rw [List.take_add_one, hx, Option.toList_some, List.foldl_append, hst]
   rfl
  rw [hst] at fa fb;rw [hnext] at contT
  have hx7 := x7.1
  have hfl := fl.1
  replace f0 := f0.extF x7 (by omega)
  have e9 : Ext h hh := x7.low e0 (fun b q => by omega)
  have he9 := e9.1
  have y0 : ExtF (fun b => (b = h0.next ∨ b = h1.next) ∨ b = lb) hh hh := ExtF.of (Ext.refl _)
  clear e0 f1 f2
  unfold Pl.cells
  refine gR rfl ?_;refine GoR.alloc rfl rfl rfl zt83 rfl rfl fun h8 x8 f8 => ?_;have := e9.1;have := fl.1;have := fb.1;have := fa.1;have := f0.1;replace fl := fl.ext x8;replace fb := fb.ext x8;replace fa := fa.ext x8;replace f0 := f0.ext x8;replace e9 := e9.trans x8;replace y0 := y0.ext x8;have := f8.1;refine GoR.store rfl rfl rfl rfl rfl rfl f8 rfl sz83 rfl rfl rfl fun h9 u9 => ?_;replace f8 := u9.has f8;replace fl := fl.upd u9 (by omega);replace fb := fb.upd u9 (by omega);replace fa := fa.upd u9 (by omega);replace f0 := f0.upd u9 (by omega)
  first | replace e9 := e9.upd u9 (by omega) | clear e9
  first | replace y0 := y0.upd u9 (by first | exact .inl rfl | ((try dsimp only) <;> omega) | exact .inl (by assumption) | exact .inr (by omega)) | skip
  apply gE;refine Go.beginRound fl hready fun h30 u30 => ?_;replace f8 := f8.upd u30 (by omega);replace fb := fb.upd u30 (by omega);replace fa := fa.upd u30 (by omega);replace f0 := f0.upd u30 (by omega);replace fl := u30.has fl;replace e9 := e9.upd u30 (by omega);replace y0 := y0.upd u30 (.inl (.inr rfl))
  have hx30 := u30.1
  have hcx := hc x h30 (List.mem_of_getElem? hx) e9
  unfold Pl.cells at hcx
  cases hp : p x with
  | false =>
   rw [hp] at hcx
   have hs : stepV p st x = st := by unfold stepV; rw [hp]; rfl
   rw [hs] at contT;refine Go.block noJ_ok ?_;apply gS;refine gR rfl ?_;refine gO rfl rfl (fa130_0 rfl) rfl ?_;refine gO rfl rfl (ld127 rfl f0 rfl) rfl ?_;refine gO rfl rfl (ld83 rfl f8 rfl) rfl ?_;refine GoR.call rfl rfl (aOp_callVal rfl hfid rfl) (hcx) ?_ np;rintro v31 h31 ⟨q, x31⟩;cases q;refine ⟨_, rfl, ?_⟩;replace f8 := f8.ext x31;replace fb := fb.ext x31;replace fa := fa.ext x31;replace f0 := f0.ext x31;replace fl := fl.ext x31;replace e9 := e9.trans x31;replace y0 := y0.ext x31;refine gP ?_;iterate 9 refine GoR.skip rfl rfl rfl ?_
   refine gP ?_;apply gE;refine gC (b := false) rfl ?_;refine gD ?_;refine Go.inBlock noJ_ok ?_;exact contT _ _ ⟨fa, fb⟩ y0 fl
  | true =>
   rw [hp] at hcx
   cases st with
   | none =>
    have hs : stepV p none x = some x := by unfold stepV; rw [hp]; rfl
    rw [hs] at contT;refine Go.block noJ_ok ?_;apply gS;refine gR rfl ?_;refine gO rfl rfl (fa130_0 rfl) rfl ?_;refine gO rfl rfl (ld127 rfl f0 rfl) rfl ?_;refine gO rfl rfl (ld83 rfl f8 rfl) rfl ?_;refine GoR.call rfl rfl (aOp_callVal rfl hfid rfl) (hcx) ?_ np;rintro v31 h31 ⟨q, x31⟩;cases q;refine ⟨_, rfl, ?_⟩;replace f8 := f8.ext x31;replace f0 := f0.ext x31;replace fl := fl.ext x31;replace fb := fb.ext x31;replace fa := fa.ext x31;replace e9 := e9.trans x31;replace y0 := y0.ext x31;refine gP ?_;refine gO rfl rfl (ld4 rfl fb rfl) rfl ?_;iterate 2 refine gP ?_
    iterate 5 refine GoR.skip rfl rfl rfl ?_
    iterate 2 refine gP ?_
    apply gE;refine gC (b := true) rfl ?_;refine gR rfl ?_;refine gO rfl rfl (ld83 rfl f8 rfl) rfl ?_;refine GoR.store rfl rfl rfl rfl rfl rfl fa rfl sz83 rfl rfl rfl fun h32 u32 => ?_;replace f8 := f8.upd u32 (by omega);replace f0 := f0.upd u32 (by omega);replace fl := fl.upd u32 (by omega);replace fb := fb.upd u32 (by omega);replace fa := u32.has fa
    first | replace e9 := e9.upd u32 (by omega) | clear e9
    first | replace y0 := y0.upd u32 (by first | exact .inl rfl | ((try dsimp only) <;> omega) | exact .inl (by assumption) | exact .inr (by omega)) | skip
    refine GoR.store rfl rfl rfl rfl rfl rfl fb rfl sz4 rfl rfl rfl fun h33 u33 => ?_;replace f8 := f8.upd u33 (by omega);replace f0 := f0.upd u33 (by omega);replace fl := fl.upd u33 (by omega);replace fb := u33.has fb;replace fa := fa.upd u33 (by omega)
    first | replace e9 := e9.upd u33 (by omega) | clear e9
    first | replace y0 := y0.upd u33 (by first | exact .inl rfl | ((try dsimp only) <;> omega) | exact .inl (by assumption) | exact .inr (by omega)) | skip
    apply gE;refine Go.inBlock noJ_ok ?_;exact contT _ _ ⟨fa, fb⟩ y0 fl
   | some q =>
    by_cases hq : x.c < q.c
    ·have hs : stepV p (some q) x = some x := by unfold stepV; rw [hp]; simp [hq]
     rw [hs] at contT
     have hb := fun h => better_ok x q h
     rw [decide_eq_true hq] at hb
     unfold Pl.cells at hb
     unfold Pl.cells at fa
     refine Go.block noJ_ok ?_;apply gS;refine gR rfl ?_;refine gO rfl rfl (fa130_0 rfl) rfl ?_;refine gO rfl rfl (ld127 rfl f0 rfl) rfl ?_;refine gO rfl rfl (ld83 rfl f8 rfl) rfl ?_;refine GoR.call rfl rfl (aOp_callVal rfl hfid rfl) (hcx) ?_ np;rintro v31 h31 ⟨q, x31⟩;cases q;refine ⟨_, rfl, ?_⟩;replace f8 := f8.ext x31;replace f0 := f0.ext x31;replace fl := fl.ext x31;replace fb := fb.ext x31;replace fa := fa.ext x31;replace e9 := e9.trans x31;replace y0 := y0.ext x31;refine gP ?_;refine gO rfl rfl (ld4 rfl fb rfl) rfl ?_;iterate 2 refine gP ?_
     refine gO rfl rfl (fa130_1 rfl) rfl ?_;refine gO rfl rfl (ld128 rfl f0 rfl) rfl ?_;refine gO rfl rfl (ld83 rfl f8 rfl) rfl ?_;refine gO rfl rfl (ld83 rfl fa rfl) rfl ?_;refine GoR.call rfl rfl (aOp_callVal rfl aFunc93 rfl) (hb _) ?_ np;rintro v32 h32 ⟨q, x32⟩;cases q;refine ⟨_, rfl, ?_⟩;replace f8 := f8.ext x32;replace f0 := f0.ext x32;replace fl := fl.ext x32;replace fb := fb.ext x32;replace fa := fa.ext x32;replace e9 := e9.trans x32;replace y0 := y0.ext x32;iterate 2 refine gP ?_
     apply gE;refine gC (b := true) rfl ?_;refine gR rfl ?_;refine gO rfl rfl (ld83 rfl f8 rfl) rfl ?_;refine GoR.store rfl rfl rfl rfl rfl rfl fa rfl sz83 rfl rfl rfl fun h33 u33 => ?_;replace f8 := f8.upd u33 (by omega);replace f0 := f0.upd u33 (by omega);replace fl := fl.upd u33 (by omega);replace fb := fb.upd u33 (by omega);replace fa := u33.has fa
     first | replace e9 := e9.upd u33 (by omega) | clear e9
     first | replace y0 := y0.upd u33 (by first | exact .inl rfl | ((try dsimp only) <;> omega) | exact .inl (by assumption) | exact .inr (by omega)) | skip
     refine GoR.store rfl rfl rfl rfl rfl rfl fb rfl sz4 rfl rfl rfl fun h34 u34 => ?_;replace f8 := f8.upd u34 (by omega);replace f0 := f0.upd u34 (by omega);replace fl := fl.upd u34 (by omega);replace fb := u34.has fb;replace fa := fa.upd u34 (by omega)
     first | replace e9 := e9.upd u34 (by omega) | clear e9
     first | replace y0 := y0.upd u34 (by first | exact .inl rfl | ((try dsimp only) <;> omega) | exact .inl (by assumption) | exact .inr (by omega)) | skip
     apply gE;refine Go.inBlock noJ_ok ?_;exact contT _ _ ⟨fa, fb⟩ y0 fl
    ·have hs : stepV p (some q) x = some q := by unfold stepV; rw [hp]; simp [hq]
     rw [hs] at contT
     have hb := fun h => better_ok x q h
     rw [decide_eq_false hq] at hb
     unfold Pl.cells at hb
     unfold Pl.cells at fa
     refine Go.block noJ_ok ?_;apply gS;refine gR rfl ?_;refine gO rfl rfl (fa130_0 rfl) rfl ?_;refine gO rfl rfl (ld127 rfl f0 rfl) rfl ?_;refine gO rfl rfl (ld83 rfl f8 rfl) rfl ?_;refine GoR.call rfl rfl (aOp_callVal rfl hfid rfl) (hcx) ?_ np;rintro v31 h31 ⟨q, x31⟩;cases q;refine ⟨_, rfl, ?_⟩;replace f8 := f8.ext x31;replace f0 := f0.ext x31;replace fl := fl.ext x31;replace fb := fb.ext x31;replace fa := fa.ext x31;replace y0 := y0.ext x31;refine gP ?_;refine gO rfl rfl (ld4 rfl fb rfl) rfl ?_;iterate 2 refine gP ?_
     refine gO rfl rfl (fa130_1 rfl) rfl ?_;refine gO rfl rfl (ld128 rfl f0 rfl) rfl ?_;refine gO rfl rfl (ld83 rfl f8 rfl) rfl ?_;refine gO rfl rfl (ld83 rfl fa rfl) rfl ?_;refine GoR.call rfl rfl (aOp_callVal rfl aFunc93 rfl) (hb _) ?_ np;rintro v32 h32 ⟨q, x32⟩;cases q;refine ⟨_, rfl, ?_⟩;replace fl := fl.ext x32;replace fb := fb.ext x32;replace fa := fa.ext x32;replace y0 := y0.ext x32;iterate 2 refine gP ?_
     apply gE;refine gC (b := false) rfl ?_;refine gD ?_;refine Go.inBlock noJ_ok ?_;exact contT _ _ ⟨fa, fb⟩ y0 fl
 ·rintro d h3 x3 hd hdd ⟨fa, fb⟩
  have e7 : Ext h h3 := x3.low e0 (fun b q => by omega)
  have hx3 := x3.1
  rw [List.length_map, List.take_length] at fa fb;clear e0 f0 f1 f2;refine Go.inBlock noJ_ok ?_;apply gS;refine Go.drawnE plan90_0 ?_;refine gQ rfl rfl (ld83 rfl fa rfl) rfl ?_;refine gQ rfl rfl (ld4 rfl fb rfl) rfl ?_;refine GoE.store rfl rfl rfl rfl (dK 1 1 (dD 1 0 rfl)) rfl rfl fa rfl sz83 rfl rfl rfl fun h4 u4 => ?_;replace hdd := hdd.upd u4 (by omega);replace fa := u4.has fa;replace fb := fb.upd u4 (by omega)
  first | replace e7 := e7.upd u4 (by omega) | clear e7
  refine ⟨(rck (h2 := h4) rfl (ld4 rfl fb rfl) recheck_nil), ?_⟩;refine GoE.store rfl rfl rfl rfl (dD 7 1 rfl) rfl rfl fb rfl sz4 rfl rfl rfl fun h5 u5 => ?_;replace hdd := hdd.upd u5 (by omega);replace fa := fa.upd u5 (by omega);replace fb := u5.has fb
  first | replace e7 := e7.upd u5 (by omega) | clear e7
  refine ⟨recheck_nil, ?_⟩;refine GoE.end rfl ?_;exact Go.retC hdd fun h9 u9 => ⟨aResult_of Try.func90 rfl (aResults_c rfl (fa.upd u9 (by omega)) (inCells_agg ag83 sz83 rfl) (aResults_c rfl (fb.upd u9 (by omega)) (inCells_one ag4 rfl) rfl)), rfl, e7.upd u9 (by omega)⟩
 ·rintro _ _ _ _ _ _ q;exact q.elim
end Go.Proofs.Ytmimdgjehnhnoaa
