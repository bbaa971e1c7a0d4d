import Derived.Test.YtmdheijpnlonoaaMAK
import Derived.Test.YtmdheijpnlonoaaMAH
namespace Go.Proofs.Ytmdheijpnlonoaa
open Go Go.AbsE
set_option linter.unusedSimpArgs false
set_option maxRecDepth 100000
set_option maxHeartbeats 0
set_option linter.unusedVariables false
theorem flds106 : ∃ fs, Try.prog.underlying 106 = some (.struct fs) ∧ placesT Try.prog fs.toList = some [(0, 3), (3, 1)] := ⟨_, Try.underlying106, by kernel_rfl⟩
theorem by59 : bytesT Try.prog 59 = some 32 := by kernel_rfl
theorem by106 : bytesT Try.prog 106 = some 48 := by kernel_rfl
theorem grow_own {h : AH} {el : TypeId} {sz lo : Nat} {s : AVal} {n : Nat} {cs : List AVal} (k : Grow h el sz lo s n cs) {b : Nat} (hs : s = .gsl b 0 0 n) : lo ≤ b ∧ b < h.next := by
  rcases k.2 with ⟨rfl, _⟩ | ⟨_, b', h1, rfl, h3⟩
  · cases hs
  · cases hs; exact ⟨h1, h3.1⟩
theorem grow_other {h : AH} {el el' : TypeId} {sz sz' lo lo' : Nat} {s s' : AVal} {n n' : Nat} {cs cs' : List AVal} (k : Grow h el sz lo s n cs) (k' : Grow h el' sz' lo' s' n' cs') (hne : el ≠ el') {b : Nat} (hs : s = .gsl b 0 0 n) (hs' : s' = .gsl b 0 0 n') : False := by
  rcases k.2 with ⟨rfl, _⟩ | ⟨_, b1, h1, rfl, h3⟩
  · cases hs
  · rcases k'.2 with ⟨rfl, _⟩ | ⟨_, b2, h1', rfl, h3'⟩
    · cases hs'
    · cases hs
      cases hs'
      have := h3.2.symm.trans h3'.2
      cases this
      exact hne rfl
theorem grow_scal {h : AH} {el : TypeId} {sz lo : Nat} {s : AVal} {n : Nat} {cs : List AVal} (k : Grow h el sz lo s n cs) : scalars [s] = true ∧ s.cells = [s] := by
  rcases k.2 with ⟨rfl, _⟩ | ⟨_, b', h1, rfl, h3⟩ <;> exact ⟨rfl, rfl⟩
structure HTurf where
  p : Int
  lo : Int
  hi : Int
def HTurf.cells (x : HTurf) : List AVal := [.int .i64 x.p, .int .i64 x.lo, .int .i64 x.hi]
def isAt (i : Nat) (l : LookV) : Bool := decide (l.heap = (i : Int))
def turfAt (looks : List LookV) (i : Nat) (x : HTurf) : TurfV := ⟨x.p.toNat, x.lo, x.hi, looks.filter (isAt i)⟩
def turfsOf (hs : List HTurf) (looks : List LookV) : List TurfV := hs.mapIdx (turfAt looks)
theorem turfsOf_succ (looks : List LookV) {hs : List HTurf} {i : Nat} {x : HTurf} (h : hs[i]? = some x) : turfsOf (hs.take (i + 1)) looks = turfsOf (hs.take i) looks ++ [turfAt looks i x] := by
  unfold turfsOf
  have hi := (List.getElem?_eq_some_iff.1 h).1
  rw [List.take_add_one, h, Option.toList_some, List.mapIdx_concat, List.length_take, Nat.min_eq_left (by omega)]
theorem turfsOf_len (hs : List HTurf) (looks : List LookV) : (turfsOf hs looks).length = hs.length := by simp [turfsOf]
def tCells (x : TurfV × AVal) : List AVal := x.1.cells x.2
def LooksG (h : AH) (lo : Nat) (Ts : List TurfV) (sls : List AVal) : Prop := ∀ (k : Nat) T sl, Ts[k]? = some T → sls[k]? = some sl → Grow h 59 4 lo sl T.looks.length (T.looks.flatMap LookV.cells)
theorem turfs_ok (s1 s2 : AVal) (hs : List HTurf) (looks : List LookV) (h : AH) (h1 : SliceOf h 3 s1 (hs.map HTurf.cells)) (h2 : SliceOf h 4 s2 (looks.map LookV.cells)) (hp : ∀ x, x ∈ hs → 0 ≤ x.p) (hl1 : hs.length ≤ 100) (hl2 : looks.length ≤ 100) :
    Runs Try.prog 67 [s1, s2] h (fun en h' => ∃ s sls, en = .ret s ∧ Ext h h' ∧ sls.length = hs.length ∧ Grow h' 106 4 h.next s hs.length (((turfsOf hs looks).zip sls).flatMap tCells) ∧ LooksG h' h.next (turfsOf hs looks) sls) := by
  have hn1 := h1.len
  have hn2 := h2.len
  rw [List.length_map] at hn1 hn2
  obtain ⟨fs106, hu106, pl106⟩ := flds106
  have e0 : Ext h h := Ext.refl _
  refine Runs.intro aFunc67 rfl rfl rfl rfl fun rest => ?_
  refine Go.seq noJ_ok ?_
  refine Go.region noJ_ok rfl ?_
  refine GoR.op rfl rfl rfl rfl ?_
  refine GoR.end ?_
  refine Go.seq noJ_ok ?_
  refine Go.region noJ_ok rfl ?_
  refine GoR.op rfl rfl rfl rfl ?_
  refine GoR.end ?_
  iterate 2 refine Go.seq noJ_ok ?_
  refine Go.region noJ_ok rfl ?_
  refine GoR.op rfl rfl rfl rfl ?_
  refine GoR.op rfl rfl (aOp_lenSlice Try.underlying22 rfl hn1) rfl ?_
  refine GoR.op rfl rfl rfl rfl ?_
  refine GoR.end ?_
  refine Go.block noJ_ok ?_
  refine Go.loopKeep (fun a : Nat × AVal × List AVal => [(1, s2), (5, a.2.1), (11, s1), (12, .int .i64 hs.length), (13, .int .i64 (a.1 : Nat))])
    (fun m a h' => m + a.1 = hs.length ∧ Ext h h' ∧ a.2.2.length = a.1 ∧ Grow h' 106 4 h.next a.2.1 a.1 (((turfsOf (hs.take a.1) looks).zip a.2.2).flatMap tCells) ∧ LooksG h' h.next (turfsOf (hs.take a.1) looks) a.2.2)
    (n := hs.length) (0, .nilslice, []) ⟨rfl, rfl, rfl, rfl, rfl, trivial⟩ ⟨rfl, e0, rfl, (by rw [List.zip_nil_right]; exact Grow.nil _ _ _ _), (by intro k T sl q q2; simp at q2)⟩ ?_
  clear e0
  rintro m ⟨i, s, sls⟩ h5 ⟨hm, e5, hsl, G, LG⟩ again
  dsimp only at hm hsl G LG ⊢
  have e0 : Ext h5 h5 := Ext.refl _
  have he5 := e5.1
  have hE5 := e5
  by_cases hi' : i < hs.length
  · obtain ⟨x, hx⟩ : ∃ x, hs[i]? = some x := ⟨hs[i], by simp [hi']⟩
    obtain ⟨bq, off, q1, q2⟩ := (h1.ext e5).at (i := i) (l := HTurf.cells x) (by rw [List.getElem?_map, hx]; rfl)
    rw [List.length_map] at q1
    have hxp := hp x (List.mem_of_getElem? hx)
    have hsucc := turfsOf_succ looks hx
    obtain ⟨T, hT⟩ : ∃ T, turfAt looks i x = T := ⟨_, rfl⟩
    have hTp : (T.p : Int) = x.p := by rw [← hT]; exact Int.toNat_of_nonneg hxp
    obtain ⟨xp, xlo, xhi⟩ := x
    unfold HTurf.cells at q2
    dsimp only at q2 hTp
    refine Go.seq noJ_ok ?_
    refine Go.region noJ_ok rfl ?_
    refine GoR.op rfl rfl (aOp_lss rfl rfl (r := true) (decide_eq_true (by omega))) rfl ?_
    refine GoR.end ?_
    refine Go.seq noJ_ok ?_
    refine Go.cond noJ_ok (b := true) rfl ?_
    refine Go.code noJ_ok ?_
    refine Go.seq noJ_ok ?_
    refine Go.block noJ_ok ?_
    refine Go.seq noJ_ok ?_
    refine Go.region noJ_ok rfl ?_
    refine GoR.op rfl rfl rfl rfl ?_
    refine GoR.op rfl rfl (aOp_indexAddr Try.underlying22 sz63 rfl q1 rfl (Nat.ble_eq_true_of_le hi')) rfl ?_
    refine GoR.op rfl rfl (aOp_loadE ag63 sz63 rfl (q2.ext e0)) rfl ?_
    refine GoR.alloc rfl rfl rfl zt63 rfl rfl fun h6 x6 f6 => ?_
    have := e5.1
    have := e0.1
    replace e5 := e5.trans x6
    replace e0 := e0.trans x6
    have := f6.1
    refine GoR.op rfl rfl rfl rfl ?_
    refine GoR.store rfl rfl rfl rfl rfl rfl f6 rfl sz63 rfl rfl rfl fun h7 u7 => ?_
    replace f6 := u7.has f6
    replace e5 := e5.upd u7 (by omega)
    replace e0 := e0.upd u7 (by omega)
    refine GoR.end ?_
    refine Go.seq noJ_ok ?_
    refine Go.region noJ_ok rfl ?_
    refine GoR.op rfl rfl (ld63 rfl f6 rfl) rfl ?_
    refine GoR.op rfl rfl (aOp_build (ps := [(0, .agg [.int .i64 xp, .int .i64 xlo, .int .i64 xhi])]) (cs := [.int .i64 xp, .int .i64 xlo, .int .i64 xhi, .nilslice]) zt106 hu106 pl106 rfl rfl) rfl ?_
    refine GoR.alloc rfl rfl rfl zt106 rfl rfl fun h8 x8 f8 => ?_
    have := e5.1
    have := e0.1
    have := f6.1
    replace f6 := f6.ext x8
    replace e5 := e5.trans x8
    replace e0 := e0.trans x8
    have := f8.1
    refine GoR.store rfl rfl rfl rfl rfl rfl f8 rfl sz106 rfl rfl rfl fun h9 u9 => ?_
    replace f8 := u9.has f8
    replace f6 := f6.upd u9 (by omega)
    replace e5 := e5.upd u9 (by omega)
    replace e0 := e0.upd u9 (by omega)
    refine GoR.end ?_
    iterate 2 refine Go.seq noJ_ok ?_
    refine Go.region noJ_ok rfl ?_
    refine GoR.op rfl rfl rfl rfl ?_
    refine GoR.op rfl rfl (aOp_lenSlice Try.underlying25 rfl hn2) rfl ?_
    refine GoR.op rfl rfl rfl rfl ?_
    refine GoR.end ?_
    refine Go.block noJ_ok ?_
    have hb8 := f8.1
    have hb87 : h5.next ≤ h7.next := by rw [u7.1]; omega
    obtain ⟨h57, hh57⟩ : ∃ h57 : AH, h57 = h7 := ⟨h7, rfl⟩
    have hTl : T.looks = looks.filter (isAt i) := by rw [← hT]; rfl
    refine Go.loopKeep (fun a : Nat × AVal => [(1, s2), (5, s), (6, .int .i64 (i : Nat)), (8, .ptr h7.next 0), (11, s1), (12, .int .i64 hs.length), (13, .int .i64 (i : Nat)), (20, s2), (21, .int .i64 looks.length), (22, .int .i64 (a.1 : Nat))])
      (fun m a h' => m + a.1 = looks.length ∧ Ext h5 h' ∧ h9.next ≤ h'.next ∧ Has h' h7.next (.cells .plain [.int .i64 xp, .int .i64 xlo, .int .i64 xhi, a.2] 106) ∧ Grow h' 59 4 h9.next a.2 ((looks.take a.1).filter (isAt i)).length (((looks.take a.1).filter (isAt i)).flatMap LookV.cells))
      (n := looks.length) (0, .nilslice) ⟨rfl, rfl, rfl, rfl, rfl, rfl, rfl, rfl, rfl, rfl, trivial⟩ ⟨rfl, e0, Nat.le_refl _, f8, (by rw [List.take_zero]; exact Grow.nil _ _ _ _)⟩ ?_
    have hh9 := e0.1
    clear e0 e5 f8 f6
    rintro m2 ⟨q, sl⟩ h10 ⟨hm2, e0, hn10, f8, g⟩ again2
    dsimp only at hm2 f8 g
    have e5' : Ext h h10 := hE5.trans e0
    by_cases hq : q < looks.length
    · obtain ⟨l, hl⟩ : ∃ l, looks[q]? = some l := ⟨looks[q], by simp [hq]⟩
      obtain ⟨bl, offl, p1, p2⟩ := (h2.ext e5').at (i := q) (l := LookV.cells l) (by rw [List.getElem?_map, hl]; rfl)
      rw [List.length_map] at p1
      have hft : (looks.take (q + 1)).filter (isAt i) = (looks.take q).filter (isAt i) ++ (if isAt i l then [l] else []) := by
        rw [List.take_add_one, hl, Option.toList_some, List.filter_append]
        cases hb : isAt i l <;> simp [hb]
      obtain ⟨lh, ld, ll, lu⟩ := l
      unfold LookV.cells at p2
      dsimp only at p2
      have e10 : Ext h10 h10 := Ext.refl _
      have hfl : ((looks.take q).filter (isAt i)).length ≤ 100 := by
        have := List.length_filter_le (isAt i) (looks.take q)
        rw [List.length_take] at this
        omega
      cases hb : isAt i ⟨lh, ld, ll, lu⟩ with
      | false =>
        have hb' : decide (lh = (i : Int)) = false := hb
        rw [hb] at hft
        rw [if_neg (by decide), List.append_nil] at hft
        refine Go.seq noJ_ok ?_
        refine Go.region noJ_ok rfl ?_
        refine GoR.op rfl rfl (aOp_lss rfl rfl (r := true) (decide_eq_true (by omega))) rfl ?_
        refine GoR.end ?_
        refine Go.seq noJ_ok ?_
        refine Go.cond noJ_ok (b := true) rfl ?_
        refine Go.code noJ_ok ?_
        refine Go.seq noJ_ok ?_
        refine Go.block noJ_ok ?_
        refine Go.seq noJ_ok ?_
        refine Go.region noJ_ok rfl ?_
        refine GoR.op rfl rfl (aOp_indexAddr Try.underlying25 sz59 rfl p1 rfl (Nat.ble_eq_true_of_le hq)) rfl ?_
        refine GoR.op rfl rfl (aOp_loadE ag59 sz59 rfl p2) rfl ?_
        refine GoR.alloc rfl rfl rfl zt59 rfl rfl fun h58 x58 f58 => ?_
        have := e0.1
        have := e5'.1
        have := e10.1
        have := f8.1
        replace f8 := f8.ext x58
        replace e0 := e0.trans x58
        replace e5' := e5'.trans x58
        replace e10 := e10.trans x58
        have := f58.1
        refine GoR.store rfl rfl rfl rfl rfl rfl f58 rfl sz59 rfl rfl rfl fun h59 u59 => ?_
        replace f58 := u59.has f58
        replace f8 := f8.upd u59 (by omega)
        replace e0 := e0.upd u59 (by omega)
        replace e5' := e5'.upd u59 (by omega)
        replace e10 := e10.upd u59 (by omega)
        refine GoR.end ?_
        refine Go.seq noJ_ok ?_
        refine Go.region noJ_ok rfl ?_
        refine GoR.op rfl rfl (fa59_0 rfl) rfl ?_
        refine GoR.op rfl rfl (ld3 rfl f58 rfl) rfl ?_
        refine GoR.op rfl rfl rfl rfl ?_
        refine GoR.op rfl rfl (aOp_eql rfl rfl hb') rfl ?_
        refine GoR.end ?_
        refine Go.cond noJ_ok (b := false) rfl ?_
        refine Go.code noJ_ok ?_
        refine Go.inBlock noJ_ok ?_
        refine Go.region noJ_ok rfl ?_
        refine GoR.op rfl rfl (aOp_add rfl rfl (by constructor <;> omega) rfl) rfl ?_
        refine GoR.op rfl rfl rfl rfl ?_
        refine GoR.end ?_
        have hn10' := e10.1
        exact again2 (m2 - 1) (q + 1, sl) _ _ (by omega) ⟨rfl, rfl, rfl, rfl, rfl, rfl, rfl, rfl, rfl, rfl, trivial⟩ ⟨by omega, e0, by omega, f8, by rw [hft]; exact g.ext e10⟩
      | true =>
        have hb' : decide (lh = (i : Int)) = true := hb
        rw [hb] at hft
        rw [if_pos rfl] at hft
        refine Go.seq noJ_ok ?_
        refine Go.region noJ_ok rfl ?_
        refine GoR.op rfl rfl (aOp_lss rfl rfl (r := true) (decide_eq_true (by omega))) rfl ?_
        refine GoR.end ?_
        refine Go.seq noJ_ok ?_
        refine Go.cond noJ_ok (b := true) rfl ?_
        refine Go.code noJ_ok ?_
        refine Go.seq noJ_ok ?_
        refine Go.block noJ_ok ?_
        refine Go.seq noJ_ok ?_
        refine Go.region noJ_ok rfl ?_
        refine GoR.op rfl rfl (aOp_indexAddr Try.underlying25 sz59 rfl p1 rfl (Nat.ble_eq_true_of_le hq)) rfl ?_
        refine GoR.op rfl rfl (aOp_loadE ag59 sz59 rfl p2) rfl ?_
        refine GoR.alloc rfl rfl rfl zt59 rfl rfl fun h58 x58 f58 => ?_
        have := e0.1
        have := e5'.1
        have := e10.1
        have := f8.1
        replace f8 := f8.ext x58
        replace e0 := e0.trans x58
        replace e5' := e5'.trans x58
        replace e10 := e10.trans x58
        have := f58.1
        refine GoR.store rfl rfl rfl rfl rfl rfl f58 rfl sz59 rfl rfl rfl fun h59 u59 => ?_
        replace f58 := u59.has f58
        replace f8 := f8.upd u59 (by omega)
        replace e0 := e0.upd u59 (by omega)
        replace e5' := e5'.upd u59 (by omega)
        replace e10 := e10.upd u59 (by omega)
        refine GoR.end ?_
        refine Go.seq noJ_ok ?_
        refine Go.region noJ_ok rfl ?_
        refine GoR.op rfl rfl (fa59_0 rfl) rfl ?_
        refine GoR.op rfl rfl (ld3 rfl f58 rfl) rfl ?_
        refine GoR.op rfl rfl rfl rfl ?_
        refine GoR.op rfl rfl (aOp_eql rfl rfl hb') rfl ?_
        refine GoR.end ?_
        refine Go.cond noJ_ok (b := true) rfl ?_
        refine Go.region noJ_ok rfl ?_
        refine GoR.op rfl rfl (fa106_1 rfl) rfl ?_
        refine GoR.op rfl rfl (ld25 rfl f8 rfl) rfl ?_
        refine GoR.op rfl rfl (ld59 rfl f58 rfl) rfl ?_
        refine GoR.buildSl rfl rfl (ps := [(0, .agg [.int .i64 lh, .int .i64 ld, .int .i64 ll, .int .i64 lu])]) (cs := [.int .i64 lh, .int .i64 ld, .int .i64 ll, .int .i64 lu]) Try.underlying25 rfl sz59 zt59 rfl rfl rfl rfl fun h60 x60 f60 => ?_
        have := e0.1
        have := e5'.1
        have := e10.1
        have := f58.1
        have := f8.1
        replace f58 := f58.ext x60
        replace f8 := f8.ext x60
        replace e0 := e0.trans x60
        replace e5' := e5'.trans x60
        replace e10 := e10.trans x60
        have := f60.1
        have hn10' := e10.1
        have g' := g.ext e10
        refine GoR.append1F (lo := h9.next) (s := sl) rfl rfl rfl Try.underlying25 Try.underlying25 sz59 by59 zt59 rfl rfl rfl rfl f60 rfl rfl g' (by omega) rfl rfl fun s6 h61 y61 g61 => ?_
        replace f8 := f8.extF y61 (fun q => by have := (grow_own g' q).1; omega)
        replace e0 := y61.low e0 (fun b q => by have := (grow_own g' q).1; omega)
        replace e5' := y61.low e5' (fun b q => by have := (grow_own g' q).1; omega)
        have hy61 := y61.1
        obtain ⟨hsc1, hsc2⟩ := grow_scal g61
        have hs1 : Nat.beq s6.cells.length 1 = true := by rw [hsc2]; rfl
        have hs2 : scalars s6.cells = true := by rw [hsc2]; exact hsc1
        have hs3 : splice [AVal.int .i64 xp, .int .i64 xlo, .int .i64 xhi, sl] (0 + 3) s6.cells = some [AVal.int .i64 xp, .int .i64 xlo, .int .i64 xhi, s6] := by rw [hsc2]; rfl
        clear e10 f58 f60 y61
        refine GoR.op rfl rfl (fa106_1 rfl) rfl ?_
        refine GoR.store rfl rfl rfl rfl rfl rfl f8 rfl sz25 hs1 hs2 hs3 fun h62 u62 => ?_
        replace f8 := u62.has f8
        replace e0 := e0.upd u62 (by omega)
        replace e5' := e5'.upd u62 (by omega)
        refine GoR.end ?_
        refine Go.inBlock noJ_ok ?_
        refine Go.region noJ_ok rfl ?_
        refine GoR.op rfl rfl (aOp_add rfl rfl (by constructor <;> omega) rfl) rfl ?_
        refine GoR.op rfl rfl rfl rfl ?_
        refine GoR.end ?_
        exact again2 (m2 - 1) (q + 1, s6) _ _ (by omega) ⟨rfl, rfl, rfl, rfl, rfl, rfl, rfl, rfl, rfl, rfl, trivial⟩ ⟨by omega, e0, by rw [u62.1]; omega, f8, by
          rw [hft, List.length_append, List.flatMap_append]
          exact (g61.low (by omega)).keep (by rw [u62.1]; exact Nat.le_refl _) fun b hb1 hb2 hb3 => u62.2.2 b (by have := (grow_own g61 hb3).1; omega)⟩
    · have hqq : q = looks.length := by omega
      subst hqq
      rw [List.take_length, ← hTl] at g
      refine Go.seq noJ_ok ?_
      refine Go.region noJ_ok rfl ?_
      refine GoR.op rfl rfl (aOp_lss rfl rfl (r := false) (decide_eq_false (by omega))) rfl ?_
      refine GoR.end ?_
      refine Go.seq noJ_ok ?_
      refine Go.cond noJ_ok (b := false) rfl ?_
      refine Go.code noJ_ok ?_
      refine Go.region noJ_ok rfl ?_
      refine GoR.op rfl rfl rfl rfl ?_
      refine GoR.op rfl rfl (ld106 rfl f8 rfl) rfl ?_
      refine GoR.buildSl rfl rfl (ps := [(0, .agg [.int .i64 xp, .int .i64 xlo, .int .i64 xhi, sl])]) (cs := [.int .i64 xp, .int .i64 xlo, .int .i64 xhi, sl]) Try.underlying96 rfl sz106 zt106 rfl rfl rfl rfl fun h58 x58 f58 => ?_
      have := e0.1
      have := e5'.1
      have := f8.1
      replace f8 := f8.ext x58
      replace e0 := e0.trans x58
      replace e5' := e5'.trans x58
      have := f58.1
      have hns : scalars [AVal.int .i64 xp, .int .i64 xlo, .int .i64 xhi, sl] = true := by
        have := (grow_scal g).1
        simp only [scalars, Bool.and_true] at this ⊢
        simp only [this, Bool.and_true]
        rfl
      have G' := G.ext e0
      refine GoR.append1F (lo := h.next) (s := s) rfl rfl rfl Try.underlying96 Try.underlying96 sz106 by106 zt106 rfl rfl rfl rfl f58 rfl hns G' (by omega) rfl rfl fun s6 h59 y59 g59 => ?_
      have hy59 := y59.1
      have hx58 := x58.1
      have e5'' : Ext h h59 := y59.low e5' (fun b q => (grow_own G' q).1)
      have gl : Grow h59 59 4 h9.next sl T.looks.length (T.looks.flatMap LookV.cells) := (g.ext x58).keep hy59 fun b hb1 hb2 hb3 => y59.2 b hb2 fun q => grow_other (g.ext x58) G' (by decide) hb3 q
      have LG5 : LooksG h59 h.next (turfsOf (hs.take i) looks) sls := fun k T' sl' k1 k2 => by
        have := (LG k T' sl' k1 k2).ext e0
        exact this.keep hy59 fun b hb1 hb2 hb3 => y59.2 b hb2 fun q => grow_other this G' (by decide) hb3 q
      clear e0 e5' f8 f58
      have e0 : Ext h59 h59 := Ext.refl _
      refine GoR.op rfl rfl rfl rfl ?_
      refine GoR.end ?_
      refine Go.inBlock noJ_ok ?_
      refine Go.region noJ_ok rfl ?_
      refine GoR.op rfl rfl (aOp_add rfl rfl (by constructor <;> omega) rfl) rfl ?_
      refine GoR.op rfl rfl rfl rfl ?_
      refine GoR.end ?_
      have hlen1 : (turfsOf (hs.take i) looks).length = i := by rw [turfsOf_len, List.length_take]; omega
      refine again (m - 1) (i + 1, s6, sls ++ [sl]) _ _ (by omega) ⟨rfl, rfl, rfl, rfl, rfl, trivial⟩ ⟨by dsimp only; omega, e5'', by simp [hsl], ?_, ?_⟩
      · dsimp only
        rw [hsucc, hT, List.zip_append (by omega), List.flatMap_append]
        have : (List.zip [T] [sl]).flatMap tCells = [AVal.int .i64 xp, .int .i64 xlo, .int .i64 xhi, sl] := by
          show [AVal.int .i64 T.p, .int .i64 T.lo, .int .i64 T.hi, sl] = _
          rw [hTp, ← hT]
          rfl
        rw [this]
        exact g59.low (by omega)
      · dsimp only
        rw [hsucc, hT]
        intro k T' sl' k1 k2
        by_cases hk : k < i
        · rw [List.getElem?_append_left (by omega)] at k1 k2
          exact LG5 k T' sl' k1 k2
        · rw [List.getElem?_append_right (by omega)] at k1 k2
          rw [hlen1] at k1
          rw [hsl] at k2
          have hk0 : k - i = 0 := by
            have := (List.getElem?_eq_some_iff.1 k1).1
            simp at this
            omega
          rw [hk0] at k1 k2
          cases k1
          cases k2
          exact gl.low (by omega)
  · have hin : i = hs.length := by omega
    subst hin
    rw [List.take_length] at G LG
    refine Go.seq noJ_ok ?_
    refine Go.region noJ_ok rfl ?_
    refine GoR.op rfl rfl (aOp_lss rfl rfl (r := false) (decide_eq_false (by omega))) rfl ?_
    refine GoR.end ?_
    refine Go.seq noJ_ok ?_
    refine Go.cond noJ_ok (b := false) rfl ?_
    refine Go.code noJ_ok ?_
    refine Go.seq noJ_ok ?_
    refine Go.region noJ_ok rfl ?_
    iterate 2 refine GoR.op rfl rfl rfl rfl ?_
    refine GoR.end ?_
    exact Go.ret noJ_ok (ret_end (aResult_of Try.func67 rfl rfl) ⟨s, sls, rfl, e5, hsl, G, LG⟩)
end Go.Proofs.Ytmdheijpnlonoaa

namespace Go.Proofs.Ytmdheijpnlonoaa
open Go Go.AbsE
set_option linter.unusedSimpArgs false
set_option maxRecDepth 100000
set_option maxHeartbeats 0
set_option linter.unusedVariables false
theorem flat_at {α : Type} {f : Nat → List α} {c : Nat} (hc : ∀ k, (f k).length = c) : ∀ (W : Nat), ((List.range W).flatMap f).length = W * c ∧ ∀ {k n : Nat} {v : α}, k < W → (f k)[n]? = some v → ((List.range W).flatMap f)[k * c + n]? = some v
  | 0 => ⟨by simp, fun h => by omega⟩
  | W + 1 => by
    obtain ⟨h1, h2⟩ := flat_at hc W
    rw [List.range_succ, List.flatMap_append]
    refine ⟨by rw [List.length_append, h1]; simp [hc, Nat.succ_mul], fun {k n v} hk hv => ?_⟩
    have hn : n < c := by
      have := (List.getElem?_eq_some_iff.1 hv).1
      rw [hc] at this
      exact this
    by_cases hkW : k < W
    · have hlt : k * c + n < W * c := by
        have := Nat.mul_le_mul_right c (show k + 1 ≤ W by omega)
        rw [Nat.succ_mul] at this
        omega
      rw [List.getElem?_append_left (by omega)]
      exact h2 hkW hv
    · have : k = W := by omega
      subst this
      rw [List.getElem?_append_right (by omega), h1, Nat.add_sub_cancel_left]
      simpa using hv
def falls : List (Int × Int) → List (List Int)
  | [] => [[]]
  | r :: rs => (List.range (r.2 - r.1 + 1).toNat).flatMap fun k : Nat => (falls rs).map fun l => (r.1 + k) :: l
def padF (l : List Int) : List Int := l ++ List.replicate (6 - l.length) 0
def fallI (pre : List Int) (rs : List (Int × Int)) : List (List AVal) := (falls rs).map fun l => i64s (padF (pre ++ l))
theorem fallI_cons (pre : List Int) (r : Int × Int) (rs : List (Int × Int)) : fallI pre (r :: rs) = (List.range (r.2 - r.1 + 1).toNat).flatMap fun k : Nat => fallI (pre ++ [r.1 + k]) rs := by
  unfold fallI
  rw [falls, List.map_flatMap]
  congr 1
  funext k
  rw [List.map_map]
  apply List.map_congr_left
  intro l _
  simp
theorem falls_len : ∀ {rs : List (Int × Int)} {l : List Int}, l ∈ falls rs → l.length = rs.length
  | [], l, h => by simp [falls] at h; simp [h]
  | r :: rs, l, h => by
    simp only [falls, List.mem_flatMap, List.mem_map] at h
    obtain ⟨k, _, l', hl, rfl⟩ := h
    simp [falls_len hl]
theorem padF_len {l : List Int} (h : l.length ≤ 6) : (padF l).length = 6 := by unfold padF; rw [List.length_append, List.length_replicate]; omega
theorem padF_zero {pre : List Int} (h : pre.length < 6) : padF pre = padF (pre ++ [0]) := by
  unfold padF
  rw [List.length_append, List.length_singleton, show 6 - pre.length = (6 - (pre.length + 1)) + 1 by omega, List.replicate_succ]
  simp
theorem padF_set {pre : List Int} (h : pre.length < 6) (x v : Int) : splice (i64s (padF (pre ++ [x]))) (0 + pre.length * 1) (AVal.int .i64 v).cells = some (i64s (padF (pre ++ [v]))) := by
  rw [Nat.zero_add, Nat.mul_one]
  show splice _ _ [_] = _
  rw [splice_at (by unfold i64s; rw [List.length_map, padF_len (by simp; omega)]; exact h)]
  unfold i64s padF
  rw [← List.map_set, List.append_assoc, List.append_assoc, List.set_append_right _ _ (Nat.le_refl _), Nat.sub_self]
  simp
theorem fallI_one (pre : List Int) : (fallI pre []).length = 1 := by simp [fallI, falls]
def fieldC (hsl rsl lsl : AVal) (a b c lim : Int) : List AVal := [hsl, rsl, .int .i64 a, .int .i64 b, .int .i64 c, .int .i64 lim, lsl]
structure FallA (bf bk bu : Nat) (hsl rsl lsl : AVal) (a b c lim : Int) (y : AVal) (rs : List (Int × Int)) (h : AH) : Prop where
  f : Has h bf (.cells .plain (fieldC hsl rsl lsl a b c lim) 74)
  y : Has h bk (.cells .plain [y] 131)
  u : Has h bu (.cells .plain [.func (.func 93) [] [.ptr bf 0, .ptr bk 0, .ptr bu 0]] 132)
  s : SliceOf h 2 rsl (rs.map spC)
def Rains (rs : List (Int × Int)) : Prop := rs.length ≤ 6 ∧ ∀ r, r ∈ rs → 0 ≤ r.1 ∧ r.1 ≤ r.2 ∧ r.2 ≤ 10
theorem fall_ok (bf bk bu : Nat) (hsl rsl lsl : AVal) (a b c lim : Int) (y : AVal) (rs0 : List (Int × Int)) (hR : Rains rs0) (base : Nat) (S : Nat → Prop) : ∀ (rs : List (Int × Int)) (pre : List Int) (J E : Nat → AH → Prop) (h : AH),
    rs0.drop pre.length = rs → pre.length ≤ rs0.length → (∀ h', ExtF S h h' → FallA bf bk bu hsl rsl lsl a b c lim y rs0 h') → base ≤ h.next → Tk Try.prog base S y (fallI pre rs) J E → J 0 h →
    Runs Try.prog 93 [.int .i64 pre.length, .agg (i64s (padF pre)), .ptr bf 0, .ptr bk 0, .ptr bu 0] h (fun en h' => ExtF S h h' ∧ ((en = .ret (.bool true) ∧ J (fallI pre rs).length h') ∨ (en = .ret (.bool false) ∧ ∃ k, k < (fallI pre rs).length ∧ E k h')))
  | [], pre, J, E, h, hd, hle, hA, hb, T, j0 => by
    have hpl : pre.length = rs0.length := by
      have := congrArg List.length hd
      simp at this
      omega
    have h6 := hR.1
    obtain ⟨f0, f1, f2, hs⟩ := hA h (ExtF.of (Ext.refl _))
    have hlen := hs.len
    rw [List.length_map] at hlen
    have e0 : Ext h h := Ext.refl _
    have hp6 : (padF pre).length = 6 := padF_len (by omega)
    obtain ⟨w1, w2, w3, w4, w5, w6, hw⟩ := six hp6
    rw [hw]
    unfold fieldC at f0
    have hit : (fallI pre [])[0]? = some (i64s [w1, w2, w3, w4, w5, w6]) := by
      simp [fallI, falls, hw]
    refine Runs.intro aFunc93 rfl rfl rfl rfl fun rest => ?_
    refine Go.seq noJ_ok ?_
    refine Go.region noJ_ok rfl ?_
    refine GoR.box rfl rfl rfl rfl rfl rfl fun h7 x7 f7 => ?_
    have := e0.1
    have := f0.1
    have := f1.1
    have := f2.1
    replace f0 := f0.ext x7
    replace f1 := f1.ext x7
    replace f2 := f2.ext x7
    replace e0 := e0.trans x7
    have := f7.1
    refine GoR.op rfl rfl rfl rfl ?_
    refine GoR.end ?_
    iterate 2 refine Go.seq noJ_ok ?_
    refine Go.region noJ_ok rfl ?_
    refine GoR.op rfl rfl rfl rfl ?_
    refine GoR.op rfl rfl (fa74_1 rfl) rfl ?_
    refine GoR.op rfl rfl (ld23 rfl f0 rfl) rfl ?_
    refine GoR.op rfl rfl (aOp_lenSlice Try.underlying23 rfl hlen) rfl ?_
    refine GoR.op rfl rfl (aOp_eql rfl rfl (r := true) (decide_eq_true (by omega))) rfl ?_
    refine GoR.end ?_
    refine Go.cond noJ_ok (b := true) rfl ?_
    refine Go.seq noJ_ok ?_
    refine Go.region noJ_ok rfl ?_
    refine GoR.op rfl rfl (ld131 rfl f1 rfl) rfl ?_
    refine GoR.op rfl rfl (ld102 rfl f7 rfl) rfl ?_
    obtain ⟨ax, a1, a2, a3⟩ := T.take hit (T.ext j0 e0)
    refine GoR.does rfl rfl (aOp_callY rfl rfl a1) a2 a3 ?_ (by rintro _ _ ⟨_, ⟨q, _⟩ | ⟨q, _⟩⟩ <;> cases q)
    rintro v h8 ⟨x8, ⟨q, j8⟩ | ⟨q, e8⟩⟩
    · cases q
      refine ⟨_, rfl, ?_⟩
      refine GoR.op rfl rfl rfl rfl ?_
      refine GoR.end ?_
      exact Go.ret noJ_ok (ret_end (aResult_of Try.func93 rfl rfl) ⟨(ExtF.of e0).trans (fun _ q => .inl q) x8, .inl ⟨rfl, by rw [fallI_one]; exact j8⟩⟩)
    · cases q
      refine ⟨_, rfl, ?_⟩
      refine GoR.op rfl rfl rfl rfl ?_
      refine GoR.end ?_
      exact Go.ret noJ_ok (ret_end (aResult_of Try.func93 rfl rfl) ⟨(ExtF.of e0).trans (fun _ q => .inl q) x8, .inr ⟨rfl, 0, by rw [fallI_one]; omega, e8⟩⟩)
  | r :: rs, pre, J, E, h, hd, hle, hA, hb, T, j0 => by
    have hget : rs0[pre.length]? = some r := by
      have := congrArg (fun l => l[0]?) hd
      simpa [List.getElem?_drop] using this
    have hlt := (List.getElem?_eq_some_iff.1 hget).1
    have h6 := hR.1
    have hrr := hR.2 r (List.mem_of_getElem? hget)
    have hdrop : rs0.drop (pre.length + 1) = rs := by
      have := congrArg (List.drop 1) hd
      simpa [List.drop_drop] using this
    obtain ⟨f0, f1, f2, hs⟩ := hA h (ExtF.of (Ext.refl _))
    have hlen := hs.len
    rw [List.length_map] at hlen
    have e0 : Ext h h := Ext.refl _
    have hSl : ∀ b, S b → b < h.next := fun b q => T.lt j0 q
    have hi6 : pre.length < 6 := by omega
    obtain ⟨W, hW⟩ : ∃ W, (r.2 - r.1 + 1).toNat = W := ⟨_, rfl⟩
    obtain ⟨c0, hc0⟩ : ∃ c0, (falls rs).length = c0 := ⟨_, rfl⟩
    have hc : ∀ k : Nat, (fallI (pre ++ [r.1 + k]) rs).length = c0 := fun k => by unfold fallI; rw [List.length_map]; exact hc0
    have hfl := flat_at hc W
    have hit : fallI pre (r :: rs) = (List.range W).flatMap fun k : Nat => fallI (pre ++ [r.1 + k]) rs := by rw [fallI_cons, hW]
    rw [hit] at T ⊢
    rw [hfl.1]
    unfold fieldC at f0
    have hbf := f0.1
    have hbk := f1.1
    have hbu := f2.1
    obtain ⟨bq, off, q1, q2⟩ := hs.at (i := pre.length) (l := spC r) (by rw [List.getElem?_map, hget]; rfl)
    rw [List.length_map] at q1
    rw [padF_zero hi6]
    refine Runs.intro aFunc93 rfl rfl rfl rfl fun rest => ?_
    refine Go.seq noJ_ok ?_
    refine Go.region noJ_ok rfl ?_
    refine GoR.box rfl rfl rfl rfl rfl rfl fun h7 x7 f7 => ?_
    have := e0.1
    have := f0.1
    have := f1.1
    have := f2.1
    replace f0 := f0.ext x7
    replace f1 := f1.ext x7
    replace f2 := f2.ext x7
    replace e0 := e0.trans x7
    have := f7.1
    refine GoR.op rfl rfl rfl rfl ?_
    refine GoR.end ?_
    iterate 2 refine Go.seq noJ_ok ?_
    refine Go.region noJ_ok rfl ?_
    refine GoR.op rfl rfl rfl rfl ?_
    refine GoR.op rfl rfl (fa74_1 rfl) rfl ?_
    refine GoR.op rfl rfl (ld23 rfl f0 rfl) rfl ?_
    refine GoR.op rfl rfl (aOp_lenSlice Try.underlying23 rfl hlen) rfl ?_
    refine GoR.op rfl rfl (aOp_eql rfl rfl (r := false) (decide_eq_false (by omega))) rfl ?_
    refine GoR.end ?_
    refine Go.cond noJ_ok (b := false) rfl ?_
    refine Go.code noJ_ok ?_
    iterate 2 refine Go.seq noJ_ok ?_
    refine Go.region noJ_ok rfl ?_
    refine GoR.op rfl rfl (fa74_1 rfl) rfl ?_
    refine GoR.op rfl rfl (ld23 rfl f0 rfl) rfl ?_
    refine GoR.op rfl rfl rfl rfl ?_
    refine GoR.op rfl rfl (aOp_indexAddr Try.underlying23 sz30 rfl q1 rfl (Nat.ble_eq_true_of_le hlt)) rfl ?_
    refine GoR.op rfl rfl (fa30_0 rfl) rfl ?_
    refine GoR.op rfl rfl (aOp_loadE1 (k := 0) ag3 rfl (q2.ext e0) rfl) rfl ?_
    refine GoR.op rfl rfl rfl rfl ?_
    refine GoR.end ?_
    refine Go.block noJ_ok ?_
    have hblt : h.next < h7.next := f7.1
    refine Go.loopKeep (fun a : Nat × Int => [(0, .int .i64 pre.length), (2, .ptr bf 0), (3, .ptr bk 0), (4, .ptr bu 0), (6, .ptr h.next 0), (8, .int .i64 (r.1 + (a.1 : Nat)))])
      (fun m a h' => m + a.1 = W ∧ ExtF S h h' ∧ h.next < h'.next ∧ Has h' h.next (.cells .plain (i64s (padF (pre ++ [a.2]))) 102) ∧ J (a.1 * c0) h') (n := W) (0, 0) ⟨rfl, rfl, rfl, rfl, rfl, (by simp; rfl), trivial⟩ ⟨rfl, ExtF.of e0, hblt, f7, (by rw [Nat.zero_mul]; exact T.ext j0 e0)⟩ ?_
    clear e0 f0 f1 f2 f7 q2
    rintro m ⟨k, x⟩ h8 ⟨hm, y1, hb8, f7, j8⟩ again
    dsimp only at hm f7 j8 ⊢
    have x8 := y1
    obtain ⟨f0, f1, f2, hs8⟩ := hA h8 y1
    unfold fieldC at f0
    have e0 : Ext h8 h8 := Ext.refl _
    have y2 : ExtF (fun b => b = h.next) h8 h8 := ExtF.of e0
    have hy1 := y1.1
    obtain ⟨bq', off', q1', q2⟩ := hs8.at (i := pre.length) (l := spC r) (by rw [List.getElem?_map, hget]; rfl)
    rw [List.length_map] at q1'
    have hnS : ¬ S h.next := fun q => Nat.lt_irrefl _ (hSl _ q)
    by_cases hk : k < W
    · have hk2 : r.1 + k ≤ r.2 := by omega
      have hnf := fun (n : Nat) (v : List AVal) (hv : (fallI (pre ++ [r.1 + (k : Int)]) rs)[n]? = some v) => hfl.2 hk hv
      have hset := padF_set hi6 x (r.1 + k)
      have hl6 : (i64s (padF (pre ++ [r.1 + (k : Int)]))).length = 6 := by unfold i64s; rw [List.length_map]; exact padF_len (by simp; omega)
      clear e0
      iterate 2 refine Go.seq noJ_ok ?_
      refine Go.region noJ_ok rfl ?_
      refine GoR.op rfl rfl rfl rfl ?_
      refine GoR.op rfl rfl (fa74_1 rfl) rfl ?_
      refine GoR.op rfl rfl (ld23 rfl f0 rfl) rfl ?_
      refine GoR.op rfl rfl rfl rfl ?_
      refine GoR.op rfl rfl (aOp_indexAddr Try.underlying23 sz30 rfl q1' rfl (Nat.ble_eq_true_of_le hlt)) rfl ?_
      refine GoR.op rfl rfl (fa30_1 rfl) rfl ?_
      refine GoR.op rfl rfl (aOp_loadE1 (k := 1) ag3 rfl q2 rfl) rfl ?_
      refine GoR.op rfl rfl (aOp_leq rfl rfl (r := true) (decide_eq_true (by omega))) rfl ?_
      refine GoR.end ?_
      refine Go.cond noJ_ok (b := true) rfl ?_
      refine Go.code noJ_ok ?_
      refine Go.seq noJ_ok ?_
      refine Go.block noJ_ok ?_
      refine Go.seq noJ_ok ?_
      refine Go.region noJ_ok rfl ?_
      iterate 2 refine GoR.op rfl rfl rfl rfl ?_
      refine GoR.op rfl rfl (aOp_indexAddrArr Try.underlying102 sz3 rfl rfl (Nat.ble_eq_true_of_le hi6)) rfl ?_
      refine GoR.store rfl rfl rfl rfl rfl rfl f7 rfl sz3 rfl rfl hset fun h9 u9 => ?_
      replace f7 := u9.has f7
      replace f0 := f0.upd u9 (by omega)
      replace f1 := f1.upd u9 (by omega)
      replace f2 := f2.upd u9 (by omega)
      replace y1 := y1.upd u9 (by first | exact .inl rfl | exact .inl (.inl rfl) | exact .inl (.inr rfl) | exact .inl (by assumption) | exact .inr (by omega))
      replace y2 := y2.upd u9 (by first | exact .inl rfl | exact .inl (.inl rfl) | exact .inl (.inr rfl) | exact .inl (by assumption) | exact .inr (by omega))
      refine GoR.end ?_
      refine Go.seq noJ_ok ?_
      refine Go.region noJ_ok rfl ?_
      refine GoR.op rfl rfl (ld132 rfl f2 rfl) rfl ?_
      refine GoR.op rfl rfl rfl rfl ?_
      refine GoR.op rfl rfl (aOp_add rfl rfl (by constructor <;> omega) rfl) rfl ?_
      refine GoR.op rfl rfl (ld102 rfl f7 (slice_all hl6)) rfl ?_
      have hy2 := y2.1
      have hshift := T.shift (sub := fallI (pre ++ [r.1 + (k : Int)]) rs) (k * c0) hnf
      have ih := fall_ok bf bk bu hsl rsl lsl a b c lim y rs0 hR base S rs (pre ++ [r.1 + (k : Int)]) (fun n => J (k * c0 + n)) (fun n => E (k * c0 + n)) h9 (by rw [List.length_append, List.length_singleton]; exact hdrop) (by simp; omega)
        (fun h' x => hA h' (y1.trans (fun _ q => .inl q) x)) (by omega) hshift (T.keepJ j8 hy2 fun b hb' hq => y2.2 b hb' (fun q => by subst q; rcases hq with q | q; omega; exact hnS q))
      rw [show (((pre ++ [r.1 + (k : Int)]).length : Nat) : Int) = (pre.length : Int) + 1 from by simp, hc k] at ih
      refine GoR.call rfl rfl (aOp_callVal rfl aFunc93 rfl) ih ?_ (by rintro _ _ ⟨_, ⟨q, _⟩ | ⟨q, _⟩⟩ <;> cases q)
      rintro v h11 ⟨x11, ⟨q, j11⟩ | ⟨q, n, hn, e11⟩⟩
      · cases q
        refine ⟨_, rfl, ?_⟩
        clear y2
        have hx11 := x11.1
        replace f7 := f7.extF x11 hnS
        clear f0 f1 f2
        refine GoR.op rfl rfl rfl rfl ?_
        refine GoR.end ?_
        refine Go.cond noJ_ok (b := false) rfl ?_
        refine Go.code noJ_ok ?_
        refine Go.inBlock noJ_ok ?_
        refine Go.region noJ_ok rfl ?_
        refine GoR.op rfl rfl rfl rfl ?_
        refine GoR.op rfl rfl (aOp_add rfl rfl (by constructor <;> omega) rfl) rfl ?_
        refine GoR.op rfl rfl rfl rfl ?_
        refine GoR.end ?_
        exact again (m - 1) (k + 1, r.1 + (k : Int)) _ _ (by omega) ⟨rfl, rfl, rfl, rfl, rfl, (by simp [Int.add_assoc]; rfl), trivial⟩ ⟨by dsimp only; omega, y1.trans (fun _ q => .inl q) x11, by omega, f7, by dsimp only; rw [Nat.succ_mul]; exact j11⟩
      · cases q
        refine ⟨_, rfl, ?_⟩
        have hlt2 : k * c0 + n < W * c0 := by
          have := Nat.mul_le_mul_right c0 (show k + 1 ≤ W by omega)
          rw [Nat.succ_mul] at this
          omega
        refine GoR.op rfl rfl rfl rfl ?_
        refine GoR.end ?_
        refine Go.cond noJ_ok (b := true) rfl ?_
        refine Go.seq noJ_ok ?_
        refine Go.region noJ_ok rfl ?_
        refine GoR.op rfl rfl rfl rfl ?_
        refine GoR.end ?_
        exact Go.ret noJ_ok (ret_end (aResult_of Try.func93 rfl rfl) ⟨y1.trans (fun _ q => .inl q) x11, .inr ⟨rfl, _, hlt2, e11⟩⟩)
    · have hk2 : ¬ (r.1 + k ≤ r.2) := by omega
      have hkW : k = W := by omega
      subst hkW
      iterate 2 refine Go.seq noJ_ok ?_
      refine Go.region noJ_ok rfl ?_
      refine GoR.op rfl rfl rfl rfl ?_
      refine GoR.op rfl rfl (fa74_1 rfl) rfl ?_
      refine GoR.op rfl rfl (ld23 rfl f0 rfl) rfl ?_
      refine GoR.op rfl rfl rfl rfl ?_
      refine GoR.op rfl rfl (aOp_indexAddr Try.underlying23 sz30 rfl q1' rfl (Nat.ble_eq_true_of_le hlt)) rfl ?_
      refine GoR.op rfl rfl (fa30_1 rfl) rfl ?_
      refine GoR.op rfl rfl (aOp_loadE1 (k := 1) ag3 rfl q2 rfl) rfl ?_
      refine GoR.op rfl rfl (aOp_leq rfl rfl (r := false) (decide_eq_false (by omega))) rfl ?_
      refine GoR.end ?_
      refine Go.cond noJ_ok (b := false) rfl ?_
      refine Go.code noJ_ok ?_
      refine Go.seq noJ_ok ?_
      refine Go.region noJ_ok rfl ?_
      refine GoR.op rfl rfl rfl rfl ?_
      refine GoR.end ?_
      exact Go.ret noJ_ok (ret_end (aResult_of Try.func93 rfl rfl) ⟨x8, .inl ⟨rfl, j8⟩⟩)
structure RainsA (bf : Nat) (hsl rsl lsl : AVal) (a b c lim : Int) (rs : List (Int × Int)) (h : AH) : Prop where
  f : Has h bf (.cells .plain (fieldC hsl rsl lsl a b c lim) 74)
  s : SliceOf h 2 rsl (rs.map spC)
theorem rains1_it (bf : Nat) (hsl rsl lsl : AVal) (a b c lim : Int) (rs : List (Int × Int)) (hR : Rains rs) : Iter Try.prog 92 [] [.ptr bf 0] (fallI [] rs) (RainsA bf hsl rsl lsl a b c lim rs) := by
  intro y base S J E h hyc hys hA hb T j0
  show Runs Try.prog 92 [y, .ptr bf 0] h _
  have e0 : Ext h h := Ext.refl _
  have hSl : ∀ b, S b → b < h.next := fun b q => T.lt j0 q
  obtain ⟨f0, hs⟩ := hA h (ExtF.of e0)
  have hbf := f0.1
  refine Runs.intro aFunc92 rfl rfl rfl rfl fun rest => ?_
  refine Go.seq noJ_ok ?_
  refine Go.region noJ_ok rfl ?_
  refine GoR.box rfl rfl rfl rfl rfl rfl fun h1 x1 f1 => ?_
  have := e0.1
  have := f0.1
  replace f0 := f0.ext x1
  replace e0 := e0.trans x1
  have := f1.1
  refine GoR.end ?_
  refine Go.seq noJ_ok ?_
  refine Go.region noJ_ok rfl ?_
  refine GoR.alloc rfl rfl rfl zt132 rfl rfl fun h2 x2 f2 => ?_
  have := e0.1
  have := f1.1
  have := f0.1
  replace f1 := f1.ext x2
  replace f0 := f0.ext x2
  replace e0 := e0.trans x2
  have := f2.1
  refine GoR.end ?_
  refine Go.seq noJ_ok ?_
  refine Go.region noJ_ok rfl ?_
  refine GoR.op rfl rfl rfl rfl ?_
  refine GoR.store rfl rfl rfl rfl rfl rfl f2 rfl sz132 rfl rfl rfl fun h3 u3 => ?_
  replace f2 := u3.has f2
  replace f1 := f1.upd u3 (by omega)
  replace f0 := f0.upd u3 (by omega)
  replace e0 := e0.upd u3 (by omega)
  refine GoR.end ?_
  refine Go.region noJ_ok rfl ?_
  refine GoR.op rfl rfl (ld132 rfl f2 rfl) rfl ?_
  refine GoR.op rfl rfl rfl rfl ?_
  rw [hyc] at f1
  have hx1 := x1.1
  have hh3 := e0.1
  have hA3 : ∀ h', ExtF S h3 h' → RainsA bf hsl rsl lsl a b c lim rs h' := fun h' x => hA h' ((ExtF.of e0).trans (fun _ q => .inl q) x)
  have ih := fall_ok bf h.next h1.next hsl rsl lsl a b c lim y rs hR base S rs [] J E h3 rfl (Nat.zero_le _) (fun h' x => ⟨(hA3 h' x).f, f1.extF x (fun q => Nat.lt_irrefl _ (hSl _ q)), f2.extF x (fun q => by have := hSl _ q; omega), (hA3 h' x).s⟩) (by omega) T (T.ext j0 e0)
  refine GoR.call rfl rfl (aOp_callVal rfl aFunc93 rfl) ih ?_ (by rintro _ _ ⟨_, ⟨q, _⟩ | ⟨q, _⟩⟩ <;> cases q)
  rintro v h4 ⟨x4, ⟨q, j4⟩ | ⟨q, n, hn, e4⟩⟩
  · cases q
    refine ⟨_, rfl, ?_⟩
    refine GoR.end ?_
    exact Go.endL (FLeft.ret (v := .tuple []) (aResult_of Try.func92 rfl rfl) ⟨rfl, (ExtF.of e0).trans (fun _ q => .inl q) x4, .inl j4⟩)
  · cases q
    refine ⟨_, rfl, ?_⟩
    refine GoR.end ?_
    exact Go.endL (FLeft.ret (v := .tuple []) (aResult_of Try.func92 rfl rfl) ⟨rfl, (ExtF.of e0).trans (fun _ q => .inl q) x4, .inr ⟨n, hn, e4⟩⟩)
theorem rains_ok (hsl rsl lsl : AVal) (a b c lim : Int) (h : AH) :
    Runs Try.prog 68 [.agg (fieldC hsl rsl lsl a b c lim)] h (fun en h' => ∃ bf, en = .ret (.func (.func 92) [] [.ptr bf 0]) ∧ Ext h h' ∧ h.next ≤ bf ∧ Has h' bf (.cells .plain (fieldC hsl rsl lsl a b c lim) 74)) := by
  refine Runs.intro aFunc68 rfl rfl rfl rfl fun rest => ?_
  refine Go.seq noJ_ok ?_
  refine Go.region noJ_ok rfl ?_
  refine GoR.box rfl rfl rfl rfl rfl rfl fun h0 x0 f0 => ?_
  have e0 := x0
  have := f0.1
  refine GoR.op rfl rfl rfl rfl ?_
  refine GoR.end ?_
  refine Go.seq noJ_ok ?_
  refine Go.region noJ_ok rfl ?_
  iterate 2 refine GoR.op rfl rfl rfl rfl ?_
  refine GoR.end ?_
  exact Go.ret noJ_ok (ret_end (aResult_of Try.func68 rfl rfl) ⟨_, rfl, e0, Nat.le_refl _, f0⟩)
end Go.Proofs.Ytmdheijpnlonoaa

namespace Go.Proofs.Ytmdheijpnlonoaa
open Go Go.AbsE
set_option linter.unusedSimpArgs false
set_option maxRecDepth 100000
set_option maxHeartbeats 0
set_option linter.unusedVariables false
theorem idx96_ok {X : Type} (cf : X → List AVal) {fid : FuncId} {caps : List AVal} {fn : Func} (hfid : aFunc Try.prog fid = some fn) (s : AVal) (L : List X) (p : X → Bool) (h : AH) (hs : SliceOf h 4 s (L.map cf)) (hn : L.length ≤ 100)
    (hc : ∀ x h', x ∈ L → Ext h h' → Runs Try.prog fid ([.agg (cf x)] ++ caps) h' (fun en h'' => en = .ret (.bool (p x)) ∧ Ext h' h'')) :
    Runs Try.prog 96 [s, .func (.func fid) [] caps] h (fun en h' => ∃ r : Int, en = .ret (.int .i64 r) ∧ decide (0 ≤ r) = L.any p ∧ Ext h h') := by
  have hlen := hs.len
  rw [List.length_map] at hlen
  have e0 : Ext h h := Ext.refl _
  refine Runs.intro aFunc96 rfl rfl rfl rfl fun rest => ?_
  refine Go.seq noJ_ok ?_
  refine Go.region noJ_ok rfl ?_
  refine GoR.op rfl rfl rfl rfl ?_
  refine GoR.end ?_
  iterate 2 refine Go.seq noJ_ok ?_
  refine Go.region noJ_ok rfl ?_
  refine GoR.op rfl rfl rfl rfl ?_
  refine GoR.op rfl rfl (aOp_lenSlice Try.underlying96 rfl hlen) rfl ?_
  refine GoR.op rfl rfl rfl rfl ?_
  refine GoR.end ?_
  refine Go.block noJ_ok ?_
  refine Go.loopKeep (fun i : Nat => [(0, s), (1, .func (.func fid) [] caps), (7, .int .i64 L.length), (8, .int .i64 (i : Nat))])
    (fun m i h' => m + i = L.length ∧ Ext h h' ∧ (L.take i).any p = false) (n := L.length) 0 ⟨rfl, rfl, rfl, rfl, trivial⟩ ⟨rfl, e0, (by rw [List.take_zero]; rfl)⟩ ?_
  clear e0
  rintro m i h4 ⟨hm, e0, hp⟩ again
  by_cases hi' : i < L.length
  · obtain ⟨x, hx⟩ : ∃ x, L[i]? = some x := ⟨L[i], by simp [hi']⟩
    have hmem := List.mem_of_getElem? hx
    obtain ⟨bq, off, q1, q2⟩ := (hs.ext e0).at (i := i) (l := cf x) (by rw [List.getElem?_map, hx]; rfl)
    rw [List.length_map] at q1
    have hcx := hc x h4 hmem e0
    have hL : L.any p = true ∨ p x = false := by
      cases q : p x with
      | false => exact .inr rfl
      | true => exact .inl (List.any_eq_true.2 ⟨x, hmem, q⟩)
    cases hpx : p x with
    | true =>
      rw [hpx] at hcx hL
      have hany : decide ((0 : Int) ≤ (i : Nat)) = L.any p := by
        rw [hL.resolve_right (by simp)]
        exact decide_eq_true (by omega)
      refine Go.seq noJ_ok ?_
      refine Go.region noJ_ok rfl ?_
      refine GoR.op rfl rfl (aOp_lss rfl rfl (r := true) (decide_eq_true (by omega))) rfl ?_
      refine GoR.end ?_
      refine Go.seq noJ_ok ?_
      refine Go.cond noJ_ok (b := true) rfl ?_
      refine Go.code noJ_ok ?_
      refine Go.seq noJ_ok ?_
      refine Go.block noJ_ok ?_
      refine Go.seq noJ_ok ?_
      refine Go.region noJ_ok rfl ?_
      iterate 2 refine GoR.op rfl rfl rfl rfl ?_
      refine GoR.end ?_
      refine Go.seq noJ_ok ?_
      refine Go.region noJ_ok rfl ?_
      iterate 3 refine GoR.op rfl rfl rfl rfl ?_
      refine GoR.op rfl rfl (aOp_indexAddr Try.underlying96 sz106 rfl q1 rfl (Nat.ble_eq_true_of_le hi')) rfl ?_
      refine GoR.op rfl rfl (aOp_loadE ag106 sz106 rfl q2) rfl ?_
      refine GoR.call rfl rfl (aOp_callVal rfl hfid rfl) (hcx) ?_ (by rintro _ _ ⟨q, _⟩; cases q)
      rintro _ h5 ⟨q, x5⟩
      cases q
      refine ⟨_, rfl, ?_⟩
      replace e0 := e0.trans x5
      refine GoR.end ?_
      refine Go.cond noJ_ok (b := true) rfl ?_
      refine Go.seq noJ_ok ?_
      refine Go.region noJ_ok rfl ?_
      iterate 2 refine GoR.op rfl rfl rfl rfl ?_
      refine GoR.end ?_
      exact Go.ret noJ_ok (ret_end (aResult_of Try.func96 rfl rfl) ⟨_, rfl, hany, e0⟩)
    | false =>
      rw [hpx] at hcx
      refine Go.seq noJ_ok ?_
      refine Go.region noJ_ok rfl ?_
      refine GoR.op rfl rfl (aOp_lss rfl rfl (r := true) (decide_eq_true (by omega))) rfl ?_
      refine GoR.end ?_
      refine Go.seq noJ_ok ?_
      refine Go.cond noJ_ok (b := true) rfl ?_
      refine Go.code noJ_ok ?_
      refine Go.seq noJ_ok ?_
      refine Go.block noJ_ok ?_
      refine Go.seq noJ_ok ?_
      refine Go.region noJ_ok rfl ?_
      iterate 2 refine GoR.op rfl rfl rfl rfl ?_
      refine GoR.end ?_
      refine Go.seq noJ_ok ?_
      refine Go.region noJ_ok rfl ?_
      iterate 3 refine GoR.op rfl rfl rfl rfl ?_
      refine GoR.op rfl rfl (aOp_indexAddr Try.underlying96 sz106 rfl q1 rfl (Nat.ble_eq_true_of_le hi')) rfl ?_
      refine GoR.op rfl rfl (aOp_loadE ag106 sz106 rfl q2) rfl ?_
      refine GoR.call rfl rfl (aOp_callVal rfl hfid rfl) (hcx) ?_ (by rintro _ _ ⟨q, _⟩; cases q)
      rintro _ h5 ⟨q, x5⟩
      cases q
      refine ⟨_, rfl, ?_⟩
      replace e0 := e0.trans x5
      refine GoR.end ?_
      refine Go.cond noJ_ok (b := false) rfl ?_
      refine Go.code noJ_ok ?_
      refine Go.inBlock noJ_ok ?_
      refine Go.region noJ_ok rfl ?_
      refine GoR.op rfl rfl (aOp_add rfl rfl (by constructor <;> omega) rfl) rfl ?_
      refine GoR.op rfl rfl rfl rfl ?_
      refine GoR.end ?_
      exact again (m - 1) (i + 1) _ _ (by omega) ⟨rfl, rfl, rfl, rfl, trivial⟩ ⟨by omega, e0, by rw [List.take_add_one, hx, Option.toList_some, List.any_append, hp]; simp [hpx]⟩
  · rw [List.take_of_length_le (by omega)] at hp
    have hany : decide ((0 : Int) ≤ -1) = L.any p := by rw [hp]; rfl
    refine Go.seq noJ_ok ?_
    refine Go.region noJ_ok rfl ?_
    refine GoR.op rfl rfl (aOp_lss rfl rfl (r := false) (decide_eq_false (by omega))) rfl ?_
    refine GoR.end ?_
    refine Go.seq noJ_ok ?_
    refine Go.cond noJ_ok (b := false) rfl ?_
    refine Go.code noJ_ok ?_
    refine Go.seq noJ_ok ?_
    refine Go.region noJ_ok rfl ?_
    refine GoR.op rfl rfl rfl rfl ?_
    refine GoR.end ?_
    exact Go.ret noJ_ok (ret_end (aResult_of Try.func96 rfl rfl) ⟨_, rfl, hany, e0⟩)
theorem cont72_ok {X : Type} (cf : X → List AVal) {fid : FuncId} {caps : List AVal} {fn : Func} (hfid : aFunc Try.prog fid = some fn) (s : AVal) (L : List X) (p : X → Bool) (h : AH) (hs : SliceOf h 4 s (L.map cf)) (hn : L.length ≤ 100)
    (hc : ∀ x h', x ∈ L → Ext h h' → Runs Try.prog fid ([.agg (cf x)] ++ caps) h' (fun en h'' => en = .ret (.bool (p x)) ∧ Ext h' h'')) :
    Runs Try.prog 72 [s, .func (.func fid) [] caps] h (fun en h' => en = .ret (.bool (L.any p)) ∧ Ext h h') := by
  refine Runs.intro aFunc72 rfl rfl rfl rfl fun rest => ?_
  refine Go.seq noJ_ok ?_
  refine Go.region noJ_ok rfl ?_
  refine GoR.op rfl rfl rfl rfl ?_
  refine GoR.end ?_
  refine Go.seq noJ_ok ?_
  refine Go.region noJ_ok rfl ?_
  iterate 2 refine GoR.op rfl rfl rfl rfl ?_
  refine GoR.call rfl rfl (aOp_callFunc aFunc96 rfl) (idx96_ok cf hfid s L p _ hs hn hc) ?_ (by rintro _ _ ⟨r, q, hr, _⟩; cases q)
  rintro _ h0 ⟨r, q, hr, x0⟩
  cases q
  refine ⟨_, rfl, ?_⟩
  have e0 := x0
  refine GoR.op rfl rfl (aOp_geq rfl rfl hr) rfl ?_
  refine GoR.op rfl rfl rfl rfl ?_
  refine GoR.end ?_
  exact Go.ret noJ_ok (ret_end (aResult_of Try.func72 rfl rfl) ⟨rfl, e0⟩)
theorem idx97_ok {fid : FuncId} {caps : List AVal} {fn : Func} (hfid : aFunc Try.prog fid = some fn) (s : AVal) (L : List Int) (p : Int → Bool) (h : AH) (hs : SliceOf h 1 s (L.map fun x => [AVal.int .i64 x])) (hn : L.length ≤ 100)
    (hc : ∀ x h', x ∈ L → Ext h h' → Runs Try.prog fid ([.int .i64 x] ++ caps) h' (fun en h'' => en = .ret (.bool (p x)) ∧ Ext h' h'')) :
    Runs Try.prog 97 [s, .func (.func fid) [] caps] h (fun en h' => ∃ r : Int, en = .ret (.int .i64 r) ∧ decide (0 ≤ r) = L.any p ∧ Ext h h') := by
  have hlen := hs.len
  rw [List.length_map] at hlen
  have e0 : Ext h h := Ext.refl _
  refine Runs.intro aFunc97 rfl rfl rfl rfl fun rest => ?_
  refine Go.seq noJ_ok ?_
  refine Go.region noJ_ok rfl ?_
  refine GoR.op rfl rfl rfl rfl ?_
  refine GoR.end ?_
  iterate 2 refine Go.seq noJ_ok ?_
  refine Go.region noJ_ok rfl ?_
  refine GoR.op rfl rfl rfl rfl ?_
  refine GoR.op rfl rfl (aOp_lenSlice Try.underlying50 rfl hlen) rfl ?_
  refine GoR.op rfl rfl rfl rfl ?_
  refine GoR.end ?_
  refine Go.block noJ_ok ?_
  refine Go.loopKeep (fun i : Nat => [(0, s), (1, .func (.func fid) [] caps), (7, .int .i64 L.length), (8, .int .i64 (i : Nat))])
    (fun m i h' => m + i = L.length ∧ Ext h h' ∧ (L.take i).any p = false) (n := L.length) 0 ⟨rfl, rfl, rfl, rfl, trivial⟩ ⟨rfl, e0, (by rw [List.take_zero]; rfl)⟩ ?_
  clear e0
  rintro m i h4 ⟨hm, e0, hp⟩ again
  by_cases hi' : i < L.length
  · obtain ⟨x, hx⟩ : ∃ x, L[i]? = some x := ⟨L[i], by simp [hi']⟩
    have hmem := List.mem_of_getElem? hx
    obtain ⟨bq, off, q1, q2⟩ := (hs.ext e0).at (i := i) (l := [AVal.int .i64 x]) (by rw [List.getElem?_map, hx]; rfl)
    rw [List.length_map] at q1
    have hcx := hc x h4 hmem e0
    have hL : L.any p = true ∨ p x = false := by
      cases q : p x with
      | false => exact .inr rfl
      | true => exact .inl (List.any_eq_true.2 ⟨x, hmem, q⟩)
    cases hpx : p x with
    | true =>
      rw [hpx] at hcx hL
      have hany : decide ((0 : Int) ≤ (i : Nat)) = L.any p := by
        rw [hL.resolve_right (by simp)]
        exact decide_eq_true (by omega)
      refine Go.seq noJ_ok ?_
      refine Go.region noJ_ok rfl ?_
      refine GoR.op rfl rfl (aOp_lss rfl rfl (r := true) (decide_eq_true (by omega))) rfl ?_
      refine GoR.end ?_
      refine Go.seq noJ_ok ?_
      refine Go.cond noJ_ok (b := true) rfl ?_
      refine Go.code noJ_ok ?_
      refine Go.seq noJ_ok ?_
      refine Go.block noJ_ok ?_
      refine Go.seq noJ_ok ?_
      refine Go.region noJ_ok rfl ?_
      iterate 2 refine GoR.op rfl rfl rfl rfl ?_
      refine GoR.end ?_
      refine Go.seq noJ_ok ?_
      refine Go.region noJ_ok rfl ?_
      iterate 3 refine GoR.op rfl rfl rfl rfl ?_
      refine GoR.op rfl rfl (aOp_indexAddr Try.underlying50 sz3 rfl q1 rfl (Nat.ble_eq_true_of_le hi')) rfl ?_
      refine GoR.op rfl rfl (aOp_loadE1 (k := 0) ag3 rfl q2 rfl) rfl ?_
      refine GoR.call rfl rfl (aOp_callVal rfl hfid rfl) (hcx) ?_ (by rintro _ _ ⟨q, _⟩; cases q)
      rintro _ h5 ⟨q, x5⟩
      cases q
      refine ⟨_, rfl, ?_⟩
      replace e0 := e0.trans x5
      refine GoR.end ?_
      refine Go.cond noJ_ok (b := true) rfl ?_
      refine Go.seq noJ_ok ?_
      refine Go.region noJ_ok rfl ?_
      iterate 2 refine GoR.op rfl rfl rfl rfl ?_
      refine GoR.end ?_
      exact Go.ret noJ_ok (ret_end (aResult_of Try.func97 rfl rfl) ⟨_, rfl, hany, e0⟩)
    | false =>
      rw [hpx] at hcx
      refine Go.seq noJ_ok ?_
      refine Go.region noJ_ok rfl ?_
      refine GoR.op rfl rfl (aOp_lss rfl rfl (r := true) (decide_eq_true (by omega))) rfl ?_
      refine GoR.end ?_
      refine Go.seq noJ_ok ?_
      refine Go.cond noJ_ok (b := true) rfl ?_
      refine Go.code noJ_ok ?_
      refine Go.seq noJ_ok ?_
      refine Go.block noJ_ok ?_
      refine Go.seq noJ_ok ?_
      refine Go.region noJ_ok rfl ?_
      iterate 2 refine GoR.op rfl rfl rfl rfl ?_
      refine GoR.end ?_
      refine Go.seq noJ_ok ?_
      refine Go.region noJ_ok rfl ?_
      iterate 3 refine GoR.op rfl rfl rfl rfl ?_
      refine GoR.op rfl rfl (aOp_indexAddr Try.underlying50 sz3 rfl q1 rfl (Nat.ble_eq_true_of_le hi')) rfl ?_
      refine GoR.op rfl rfl (aOp_loadE1 (k := 0) ag3 rfl q2 rfl) rfl ?_
      refine GoR.call rfl rfl (aOp_callVal rfl hfid rfl) (hcx) ?_ (by rintro _ _ ⟨q, _⟩; cases q)
      rintro _ h5 ⟨q, x5⟩
      cases q
      refine ⟨_, rfl, ?_⟩
      replace e0 := e0.trans x5
      refine GoR.end ?_
      refine Go.cond noJ_ok (b := false) rfl ?_
      refine Go.code noJ_ok ?_
      refine Go.inBlock noJ_ok ?_
      refine Go.region noJ_ok rfl ?_
      refine GoR.op rfl rfl (aOp_add rfl rfl (by constructor <;> omega) rfl) rfl ?_
      refine GoR.op rfl rfl rfl rfl ?_
      refine GoR.end ?_
      exact again (m - 1) (i + 1) _ _ (by omega) ⟨rfl, rfl, rfl, rfl, trivial⟩ ⟨by omega, e0, by rw [List.take_add_one, hx, Option.toList_some, List.any_append, hp]; simp [hpx]⟩
  · rw [List.take_of_length_le (by omega)] at hp
    have hany : decide ((0 : Int) ≤ -1) = L.any p := by rw [hp]; rfl
    refine Go.seq noJ_ok ?_
    refine Go.region noJ_ok rfl ?_
    refine GoR.op rfl rfl (aOp_lss rfl rfl (r := false) (decide_eq_false (by omega))) rfl ?_
    refine GoR.end ?_
    refine Go.seq noJ_ok ?_
    refine Go.cond noJ_ok (b := false) rfl ?_
    refine Go.code noJ_ok ?_
    refine Go.seq noJ_ok ?_
    refine Go.region noJ_ok rfl ?_
    refine GoR.op rfl rfl rfl rfl ?_
    refine GoR.end ?_
    exact Go.ret noJ_ok (ret_end (aResult_of Try.func97 rfl rfl) ⟨_, rfl, hany, e0⟩)
theorem cont80_ok {fid : FuncId} {caps : List AVal} {fn : Func} (hfid : aFunc Try.prog fid = some fn) (s : AVal) (L : List Int) (p : Int → Bool) (h : AH) (hs : SliceOf h 1 s (L.map fun x => [AVal.int .i64 x])) (hn : L.length ≤ 100)
    (hc : ∀ x h', x ∈ L → Ext h h' → Runs Try.prog fid ([.int .i64 x] ++ caps) h' (fun en h'' => en = .ret (.bool (p x)) ∧ Ext h' h'')) :
    Runs Try.prog 80 [s, .func (.func fid) [] caps] h (fun en h' => en = .ret (.bool (L.any p)) ∧ Ext h h') := by
  refine Runs.intro aFunc80 rfl rfl rfl rfl fun rest => ?_
  refine Go.seq noJ_ok ?_
  refine Go.region noJ_ok rfl ?_
  refine GoR.op rfl rfl rfl rfl ?_
  refine GoR.end ?_
  refine Go.seq noJ_ok ?_
  refine Go.region noJ_ok rfl ?_
  iterate 2 refine GoR.op rfl rfl rfl rfl ?_
  refine GoR.call rfl rfl (aOp_callFunc aFunc97 rfl) (idx97_ok hfid s L p _ hs hn hc) ?_ (by rintro _ _ ⟨r, q, hr, _⟩; cases q)
  rintro _ h0 ⟨r, q, hr, x0⟩
  cases q
  refine ⟨_, rfl, ?_⟩
  have e0 := x0
  refine GoR.op rfl rfl (aOp_geq rfl rfl hr) rfl ?_
  refine GoR.op rfl rfl rfl rfl ?_
  refine GoR.end ?_
  exact Go.ret noJ_ok (ret_end (aResult_of Try.func80 rfl rfl) ⟨rfl, e0⟩)
theorem idx98_ok {X : Type} (cf : X → List AVal) {fid : FuncId} {caps : List AVal} {fn : Func} (hfid : aFunc Try.prog fid = some fn) (s : AVal) (L : List X) (p : X → Bool) (h : AH) (hs : SliceOf h 2 s (L.map cf)) (hn : L.length ≤ 100)
    (hc : ∀ x h', x ∈ L → Ext h h' → Runs Try.prog fid ([.agg (cf x)] ++ caps) h' (fun en h'' => en = .ret (.bool (p x)) ∧ Ext h' h'')) :
    Runs Try.prog 98 [s, .func (.func fid) [] caps] h (fun en h' => ∃ r : Int, en = .ret (.int .i64 r) ∧ decide (0 ≤ r) = L.any p ∧ Ext h h') := by
  have hlen := hs.len
  rw [List.length_map] at hlen
  have e0 : Ext h h := Ext.refl _
  refine Runs.intro aFunc98 rfl rfl rfl rfl fun rest => ?_
  refine Go.seq noJ_ok ?_
  refine Go.region noJ_ok rfl ?_
  refine GoR.op rfl rfl rfl rfl ?_
  refine GoR.end ?_
  iterate 2 refine Go.seq noJ_ok ?_
  refine Go.region noJ_ok rfl ?_
  refine GoR.op rfl rfl rfl rfl ?_
  refine GoR.op rfl rfl (aOp_lenSlice Try.underlying23 rfl hlen) rfl ?_
  refine GoR.op rfl rfl rfl rfl ?_
  refine GoR.end ?_
  refine Go.block noJ_ok ?_
  refine Go.loopKeep (fun i : Nat => [(0, s), (1, .func (.func fid) [] caps), (7, .int .i64 L.length), (8, .int .i64 (i : Nat))])
    (fun m i h' => m + i = L.length ∧ Ext h h' ∧ (L.take i).any p = false) (n := L.length) 0 ⟨rfl, rfl, rfl, rfl, trivial⟩ ⟨rfl, e0, (by rw [List.take_zero]; rfl)⟩ ?_
  clear e0
  rintro m i h4 ⟨hm, e0, hp⟩ again
  by_cases hi' : i < L.length
  · obtain ⟨x, hx⟩ : ∃ x, L[i]? = some x := ⟨L[i], by simp [hi']⟩
    have hmem := List.mem_of_getElem? hx
    obtain ⟨bq, off, q1, q2⟩ := (hs.ext e0).at (i := i) (l := cf x) (by rw [List.getElem?_map, hx]; rfl)
    rw [List.length_map] at q1
    have hcx := hc x h4 hmem e0
    have hL : L.any p = true ∨ p x = false := by
      cases q : p x with
      | false => exact .inr rfl
      | true => exact .inl (List.any_eq_true.2 ⟨x, hmem, q⟩)
    cases hpx : p x with
    | true =>
      rw [hpx] at hcx hL
      have hany : decide ((0 : Int) ≤ (i : Nat)) = L.any p := by
        rw [hL.resolve_right (by simp)]
        exact decide_eq_true (by omega)
      refine Go.seq noJ_ok ?_
      refine Go.region noJ_ok rfl ?_
      refine GoR.op rfl rfl (aOp_lss rfl rfl (r := true) (decide_eq_true (by omega))) rfl ?_
      refine GoR.end ?_
      refine Go.seq noJ_ok ?_
      refine Go.cond noJ_ok (b := true) rfl ?_
      refine Go.code noJ_ok ?_
      refine Go.seq noJ_ok ?_
      refine Go.block noJ_ok ?_
      refine Go.seq noJ_ok ?_
      refine Go.region noJ_ok rfl ?_
      iterate 2 refine GoR.op rfl rfl rfl rfl ?_
      refine GoR.end ?_
      refine Go.seq noJ_ok ?_
      refine Go.region noJ_ok rfl ?_
      iterate 3 refine GoR.op rfl rfl rfl rfl ?_
      refine GoR.op rfl rfl (aOp_indexAddr Try.underlying23 sz30 rfl q1 rfl (Nat.ble_eq_true_of_le hi')) rfl ?_
      refine GoR.op rfl rfl (aOp_loadE ag30 sz30 rfl q2) rfl ?_
      refine GoR.call rfl rfl (aOp_callVal rfl hfid rfl) (hcx) ?_ (by rintro _ _ ⟨q, _⟩; cases q)
      rintro _ h5 ⟨q, x5⟩
      cases q
      refine ⟨_, rfl, ?_⟩
      replace e0 := e0.trans x5
      refine GoR.end ?_
      refine Go.cond noJ_ok (b := true) rfl ?_
      refine Go.seq noJ_ok ?_
      refine Go.region noJ_ok rfl ?_
      iterate 2 refine GoR.op rfl rfl rfl rfl ?_
      refine GoR.end ?_
      exact Go.ret noJ_ok (ret_end (aResult_of Try.func98 rfl rfl) ⟨_, rfl, hany, e0⟩)
    | false =>
      rw [hpx] at hcx
      refine Go.seq noJ_ok ?_
      refine Go.region noJ_ok rfl ?_
      refine GoR.op rfl rfl (aOp_lss rfl rfl (r := true) (decide_eq_true (by omega))) rfl ?_
      refine GoR.end ?_
      refine Go.seq noJ_ok ?_
      refine Go.cond noJ_ok (b := true) rfl ?_
      refine Go.code noJ_ok ?_
      refine Go.seq noJ_ok ?_
      refine Go.block noJ_ok ?_
      refine Go.seq noJ_ok ?_
      refine Go.region noJ_ok rfl ?_
      iterate 2 refine GoR.op rfl rfl rfl rfl ?_
      refine GoR.end ?_
      refine Go.seq noJ_ok ?_
      refine Go.region noJ_ok rfl ?_
      iterate 3 refine GoR.op rfl rfl rfl rfl ?_
      refine GoR.op rfl rfl (aOp_indexAddr Try.underlying23 sz30 rfl q1 rfl (Nat.ble_eq_true_of_le hi')) rfl ?_
      refine GoR.op rfl rfl (aOp_loadE ag30 sz30 rfl q2) rfl ?_
      refine GoR.call rfl rfl (aOp_callVal rfl hfid rfl) (hcx) ?_ (by rintro _ _ ⟨q, _⟩; cases q)
      rintro _ h5 ⟨q, x5⟩
      cases q
      refine ⟨_, rfl, ?_⟩
      replace e0 := e0.trans x5
      refine GoR.end ?_
      refine Go.cond noJ_ok (b := false) rfl ?_
      refine Go.code noJ_ok ?_
      refine Go.inBlock noJ_ok ?_
      refine Go.region noJ_ok rfl ?_
      refine GoR.op rfl rfl (aOp_add rfl rfl (by constructor <;> omega) rfl) rfl ?_
      refine GoR.op rfl rfl rfl rfl ?_
      refine GoR.end ?_
      exact again (m - 1) (i + 1) _ _ (by omega) ⟨rfl, rfl, rfl, rfl, trivial⟩ ⟨by omega, e0, by rw [List.take_add_one, hx, Option.toList_some, List.any_append, hp]; simp [hpx]⟩
  · rw [List.take_of_length_le (by omega)] at hp
    have hany : decide ((0 : Int) ≤ -1) = L.any p := by rw [hp]; rfl
    refine Go.seq noJ_ok ?_
    refine Go.region noJ_ok rfl ?_
    refine GoR.op rfl rfl (aOp_lss rfl rfl (r := false) (decide_eq_false (by omega))) rfl ?_
    refine GoR.end ?_
    refine Go.seq noJ_ok ?_
    refine Go.cond noJ_ok (b := false) rfl ?_
    refine Go.code noJ_ok ?_
    refine Go.seq noJ_ok ?_
    refine Go.region noJ_ok rfl ?_
    refine GoR.op rfl rfl rfl rfl ?_
    refine GoR.end ?_
    exact Go.ret noJ_ok (ret_end (aResult_of Try.func98 rfl rfl) ⟨_, rfl, hany, e0⟩)
theorem cont88_ok {X : Type} (cf : X → List AVal) {fid : FuncId} {caps : List AVal} {fn : Func} (hfid : aFunc Try.prog fid = some fn) (s : AVal) (L : List X) (p : X → Bool) (h : AH) (hs : SliceOf h 2 s (L.map cf)) (hn : L.length ≤ 100)
    (hc : ∀ x h', x ∈ L → Ext h h' → Runs Try.prog fid ([.agg (cf x)] ++ caps) h' (fun en h'' => en = .ret (.bool (p x)) ∧ Ext h' h'')) :
    Runs Try.prog 88 [s, .func (.func fid) [] caps] h (fun en h' => en = .ret (.bool (L.any p)) ∧ Ext h h') := by
  refine Runs.intro aFunc88 rfl rfl rfl rfl fun rest => ?_
  refine Go.seq noJ_ok ?_
  refine Go.region noJ_ok rfl ?_
  refine GoR.op rfl rfl rfl rfl ?_
  refine GoR.end ?_
  refine Go.seq noJ_ok ?_
  refine Go.region noJ_ok rfl ?_
  iterate 2 refine GoR.op rfl rfl rfl rfl ?_
  refine GoR.call rfl rfl (aOp_callFunc aFunc98 rfl) (idx98_ok cf hfid s L p _ hs hn hc) ?_ (by rintro _ _ ⟨r, q, hr, _⟩; cases q)
  rintro _ h0 ⟨r, q, hr, x0⟩
  cases q
  refine ⟨_, rfl, ?_⟩
  have e0 := x0
  refine GoR.op rfl rfl (aOp_geq rfl rfl hr) rfl ?_
  refine GoR.op rfl rfl rfl rfl ?_
  refine GoR.end ?_
  exact Go.ret noJ_ok (ret_end (aResult_of Try.func88 rfl rfl) ⟨rfl, e0⟩)
theorem idx100_ok {X : Type} (cf : X → List AVal) {fid : FuncId} {caps : List AVal} {fn : Func} (hfid : aFunc Try.prog fid = some fn) (s : AVal) (L : List X) (p : X → Bool) (h : AH) (hs : SliceOf h 4 s (L.map cf)) (hn : L.length ≤ 100)
    (hc : ∀ x h', x ∈ L → Ext h h' → Runs Try.prog fid ([.agg (cf x)] ++ caps) h' (fun en h'' => en = .ret (.bool (p x)) ∧ Ext h' h'')) :
    Runs Try.prog 100 [s, .func (.func fid) [] caps] h (fun en h' => ∃ r : Int, en = .ret (.int .i64 r) ∧ decide (0 ≤ r) = L.any p ∧ Ext h h') := by
  have hlen := hs.len
  rw [List.length_map] at hlen
  have e0 : Ext h h := Ext.refl _
  refine Runs.intro aFunc100 rfl rfl rfl rfl fun rest => ?_
  refine Go.seq noJ_ok ?_
  refine Go.region noJ_ok rfl ?_
  refine GoR.op rfl rfl rfl rfl ?_
  refine GoR.end ?_
  iterate 2 refine Go.seq noJ_ok ?_
  refine Go.region noJ_ok rfl ?_
  refine GoR.op rfl rfl rfl rfl ?_
  refine GoR.op rfl rfl (aOp_lenSlice Try.underlying25 rfl hlen) rfl ?_
  refine GoR.op rfl rfl rfl rfl ?_
  refine GoR.end ?_
  refine Go.block noJ_ok ?_
  refine Go.loopKeep (fun i : Nat => [(0, s), (1, .func (.func fid) [] caps), (7, .int .i64 L.length), (8, .int .i64 (i : Nat))])
    (fun m i h' => m + i = L.length ∧ Ext h h' ∧ (L.take i).any p = false) (n := L.length) 0 ⟨rfl, rfl, rfl, rfl, trivial⟩ ⟨rfl, e0, (by rw [List.take_zero]; rfl)⟩ ?_
  clear e0
  rintro m i h4 ⟨hm, e0, hp⟩ again
  by_cases hi' : i < L.length
  · obtain ⟨x, hx⟩ : ∃ x, L[i]? = some x := ⟨L[i], by simp [hi']⟩
    have hmem := List.mem_of_getElem? hx
    obtain ⟨bq, off, q1, q2⟩ := (hs.ext e0).at (i := i) (l := cf x) (by rw [List.getElem?_map, hx]; rfl)
    rw [List.length_map] at q1
    have hcx := hc x h4 hmem e0
    have hL : L.any p = true ∨ p x = false := by
      cases q : p x with
      | false => exact .inr rfl
      | true => exact .inl (List.any_eq_true.2 ⟨x, hmem, q⟩)
    cases hpx : p x with
    | true =>
      rw [hpx] at hcx hL
      have hany : decide ((0 : Int) ≤ (i : Nat)) = L.any p := by
        rw [hL.resolve_right (by simp)]
        exact decide_eq_true (by omega)
      refine Go.seq noJ_ok ?_
      refine Go.region noJ_ok rfl ?_
      refine GoR.op rfl rfl (aOp_lss rfl rfl (r := true) (decide_eq_true (by omega))) rfl ?_
      refine GoR.end ?_
      refine Go.seq noJ_ok ?_
      refine Go.cond noJ_ok (b := true) rfl ?_
      refine Go.code noJ_ok ?_
      refine Go.seq noJ_ok ?_
      refine Go.block noJ_ok ?_
      refine Go.seq noJ_ok ?_
      refine Go.region noJ_ok rfl ?_
      iterate 2 refine GoR.op rfl rfl rfl rfl ?_
      refine GoR.end ?_
      refine Go.seq noJ_ok ?_
      refine Go.region noJ_ok rfl ?_
      iterate 3 refine GoR.op rfl rfl rfl rfl ?_
      refine GoR.op rfl rfl (aOp_indexAddr Try.underlying25 sz59 rfl q1 rfl (Nat.ble_eq_true_of_le hi')) rfl ?_
      refine GoR.op rfl rfl (aOp_loadE ag59 sz59 rfl q2) rfl ?_
      refine GoR.call rfl rfl (aOp_callVal rfl hfid rfl) (hcx) ?_ (by rintro _ _ ⟨q, _⟩; cases q)
      rintro _ h5 ⟨q, x5⟩
      cases q
      refine ⟨_, rfl, ?_⟩
      replace e0 := e0.trans x5
      refine GoR.end ?_
      refine Go.cond noJ_ok (b := true) rfl ?_
      refine Go.seq noJ_ok ?_
      refine Go.region noJ_ok rfl ?_
      iterate 2 refine GoR.op rfl rfl rfl rfl ?_
      refine GoR.end ?_
      exact Go.ret noJ_ok (ret_end (aResult_of Try.func100 rfl rfl) ⟨_, rfl, hany, e0⟩)
    | false =>
      rw [hpx] at hcx
      refine Go.seq noJ_ok ?_
      refine Go.region noJ_ok rfl ?_
      refine GoR.op rfl rfl (aOp_lss rfl rfl (r := true) (decide_eq_true (by omega))) rfl ?_
      refine GoR.end ?_
      refine Go.seq noJ_ok ?_
      refine Go.cond noJ_ok (b := true) rfl ?_
      refine Go.code noJ_ok ?_
      refine Go.seq noJ_ok ?_
      refine Go.block noJ_ok ?_
      refine Go.seq noJ_ok ?_
      refine Go.region noJ_ok rfl ?_
      iterate 2 refine GoR.op rfl rfl rfl rfl ?_
      refine GoR.end ?_
      refine Go.seq noJ_ok ?_
      refine Go.region noJ_ok rfl ?_
      iterate 3 refine GoR.op rfl rfl rfl rfl ?_
      refine GoR.op rfl rfl (aOp_indexAddr Try.underlying25 sz59 rfl q1 rfl (Nat.ble_eq_true_of_le hi')) rfl ?_
      refine GoR.op rfl rfl (aOp_loadE ag59 sz59 rfl q2) rfl ?_
      refine GoR.call rfl rfl (aOp_callVal rfl hfid rfl) (hcx) ?_ (by rintro _ _ ⟨q, _⟩; cases q)
      rintro _ h5 ⟨q, x5⟩
      cases q
      refine ⟨_, rfl, ?_⟩
      replace e0 := e0.trans x5
      refine GoR.end ?_
      refine Go.cond noJ_ok (b := false) rfl ?_
      refine Go.code noJ_ok ?_
      refine Go.inBlock noJ_ok ?_
      refine Go.region noJ_ok rfl ?_
      refine GoR.op rfl rfl (aOp_add rfl rfl (by constructor <;> omega) rfl) rfl ?_
      refine GoR.op rfl rfl rfl rfl ?_
      refine GoR.end ?_
      exact again (m - 1) (i + 1) _ _ (by omega) ⟨rfl, rfl, rfl, rfl, trivial⟩ ⟨by omega, e0, by rw [List.take_add_one, hx, Option.toList_some, List.any_append, hp]; simp [hpx]⟩
  · rw [List.take_of_length_le (by omega)] at hp
    have hany : decide ((0 : Int) ≤ -1) = L.any p := by rw [hp]; rfl
    refine Go.seq noJ_ok ?_
    refine Go.region noJ_ok rfl ?_
    refine GoR.op rfl rfl (aOp_lss rfl rfl (r := false) (decide_eq_false (by omega))) rfl ?_
    refine GoR.end ?_
    refine Go.seq noJ_ok ?_
    refine Go.cond noJ_ok (b := false) rfl ?_
    refine Go.code noJ_ok ?_
    refine Go.seq noJ_ok ?_
    refine Go.region noJ_ok rfl ?_
    refine GoR.op rfl rfl rfl rfl ?_
    refine GoR.end ?_
    exact Go.ret noJ_ok (ret_end (aResult_of Try.func100 rfl rfl) ⟨_, rfl, hany, e0⟩)
theorem cont91_ok {X : Type} (cf : X → List AVal) {fid : FuncId} {caps : List AVal} {fn : Func} (hfid : aFunc Try.prog fid = some fn) (s : AVal) (L : List X) (p : X → Bool) (h : AH) (hs : SliceOf h 4 s (L.map cf)) (hn : L.length ≤ 100)
    (hc : ∀ x h', x ∈ L → Ext h h' → Runs Try.prog fid ([.agg (cf x)] ++ caps) h' (fun en h'' => en = .ret (.bool (p x)) ∧ Ext h' h'')) :
    Runs Try.prog 91 [s, .func (.func fid) [] caps] h (fun en h' => en = .ret (.bool (L.any p)) ∧ Ext h h') := by
  refine Runs.intro aFunc91 rfl rfl rfl rfl fun rest => ?_
  refine Go.seq noJ_ok ?_
  refine Go.region noJ_ok rfl ?_
  refine GoR.op rfl rfl rfl rfl ?_
  refine GoR.end ?_
  refine Go.seq noJ_ok ?_
  refine Go.region noJ_ok rfl ?_
  iterate 2 refine GoR.op rfl rfl rfl rfl ?_
  refine GoR.call rfl rfl (aOp_callFunc aFunc100 rfl) (idx100_ok cf hfid s L p _ hs hn hc) ?_ (by rintro _ _ ⟨r, q, hr, _⟩; cases q)
  rintro _ h0 ⟨r, q, hr, x0⟩
  cases q
  refine ⟨_, rfl, ?_⟩
  have e0 := x0
  refine GoR.op rfl rfl (aOp_geq rfl rfl hr) rfl ?_
  refine GoR.op rfl rfl rfl rfl ?_
  refine GoR.end ?_
  exact Go.ret noJ_ok (ret_end (aResult_of Try.func91 rfl rfl) ⟨rfl, e0⟩)
end Go.Proofs.Ytmdheijpnlonoaa

namespace Go.Proofs.Ytmdheijpnlonoaa
open Go Go.AbsE
set_option linter.unusedSimpArgs false
set_option maxRecDepth 100000
set_option maxHeartbeats 0
set_option linter.unusedVariables false
structure FieldV where
  hs : List HTurf
  rs : List (Int × Int)
  a : Int
  b : Int
  c : Int
  lim : Int
  looks : List LookV
structure FieldV.Ok (F : FieldV) : Prop where
  nh : 1 ≤ F.hs.length ∧ F.hs.length ≤ 3
  h : ∀ x, x ∈ F.hs → 0 ≤ x.p ∧ x.p ≤ 2 ∧ 0 ≤ x.lo ∧ x.lo ≤ x.hi ∧ x.hi ≤ 100 ∧ x.hi - x.lo ≤ 5
  nr : 1 ≤ F.rs.length ∧ F.rs.length ≤ 6
  r : ∀ r, r ∈ F.rs → 0 ≤ r.1 ∧ r.1 ≤ r.2 ∧ r.2 ≤ 10 ∧ r.2 - r.1 ≤ 3
  d : 0 ≤ F.a ∧ F.a ≤ F.b ∧ F.b ≤ F.c ∧ F.c ≤ 20
  lim : 0 ≤ F.lim ∧ F.lim ≤ 100
  nl : F.looks.length ≤ 5
  l : ∀ l, l ∈ F.looks → 0 ≤ l.heap ∧ l.heap < F.hs.length ∧ 0 ≤ l.day ∧ l.day < F.rs.length ∧ 0 ≤ l.lo ∧ l.lo ≤ l.hi ∧ l.hi ≤ 100
structure FieldAt (h : AH) (F : FieldV) (hsl rsl lsl : AVal) : Prop where
  hs : SliceOf h 3 hsl (F.hs.map HTurf.cells)
  rs : SliceOf h 2 rsl (F.rs.map spC)
  ls : SliceOf h 4 lsl (F.looks.map LookV.cells)
theorem FieldAt.ext {h h' : AH} {F : FieldV} {hsl rsl lsl : AVal} (k : FieldAt h F hsl rsl lsl) (e : Ext h h') : FieldAt h' F hsl rsl lsl := ⟨k.hs.ext e, k.rs.ext e, k.ls.ext e⟩
def FieldV.cells (F : FieldV) (hsl rsl lsl : AVal) : List AVal := fieldC hsl rsl lsl F.a F.b F.c F.lim
def FieldV.ts (F : FieldV) : List TurfV := turfsOf F.hs F.looks
theorem FieldV.Ok.ts {F : FieldV} (O : F.Ok) : ∀ t, t ∈ F.ts → t.Ok := by
  intro t ht
  unfold FieldV.ts turfsOf at ht
  obtain ⟨i, hi, rfl⟩ := List.mem_mapIdx.1 ht
  have := O.h _ (List.getElem_mem hi)
  have hnr := O.nr
  refine ⟨?_, ?_, ?_, ?_⟩
  · show (F.hs[i].p).toNat < 3
    omega
  · show 0 ≤ F.hs[i].lo ∧ F.hs[i].lo ≤ F.hs[i].hi ∧ F.hs[i].hi ≤ 100
    omega
  · intro l hl
    have := O.l l (List.mem_filter.1 hl).1
    omega
  · have := List.length_filter_le (isAt i) F.looks
    have := O.nl
    show (F.looks.filter (isAt i)).length ≤ 100
    omega
theorem FieldV.Ok.rains {F : FieldV} (O : F.Ok) : Rains F.rs := ⟨O.nr.2, fun r hr => by have := O.r r hr; omega⟩
theorem FieldV.Ok.dries {F : FieldV} (O : F.Ok) : Dries F.a F.b F.c := by have := O.d; unfold Dries; omega
theorem falls_in : ∀ {rs : List (Int × Int)} (hr : ∀ r, r ∈ rs → 0 ≤ r.1 ∧ r.1 ≤ r.2 ∧ r.2 ≤ 10) {l : List Int}, l ∈ falls rs → ∀ x, x ∈ l → 0 ≤ x ∧ x ≤ 10
  | [], _, l, h, x, hx => by simp [falls] at h; subst h; cases hx
  | r :: rs, hr, l, h, x, hx => by
    simp only [falls, List.mem_flatMap, List.mem_map, List.mem_range] at h
    obtain ⟨k, hk, l', hl, rfl⟩ := h
    have h1 := hr r (by simp)
    rcases List.mem_cons.1 hx with rfl | hx
    · omega
    · exact falls_in (fun r hr' => hr r (by simp [hr'])) hl x hx
theorem falls_nodup : ∀ (rs : List (Int × Int)), (falls rs).Pairwise (· ≠ ·)
  | [] => by simp [falls]
  | r :: rs => by
    have ih := falls_nodup rs
    rw [falls, List.pairwise_flatMap]
    refine ⟨fun k _ => ?_, ?_⟩
    · rw [List.pairwise_map]
      exact ih.imp fun hne q => hne (by injection q)
    · refine List.Pairwise.imp ?_ List.nodup_range
      intro k k' hne x hx y hy q
      obtain ⟨_, _, rfl⟩ := List.mem_map.1 hx
      obtain ⟨_, _, rfl⟩ := List.mem_map.1 hy
      injection q with q1 q2
      omega
abbrev Ent := Int × List Int × List (Int × Int)
def entsF (F : FieldV) (l : List Int) : List Ent := F.ts.mapIdx fun i t => ((i : Int), padF l, evL F.a F.b F.c t l)
def entsOf (F : FieldV) (l : List Int) : List Ent := if F.ts.any (fun t => !possB F.a F.b F.c t l) then [] else entsF F l
def FieldV.ents (F : FieldV) : List Ent := (falls F.rs).flatMap (entsOf F)
def esOf (l : List Ent) : List AMapE := l.mapIdx fun i x => ⟨keyV x.1 x.2.1, .agg (x.2.2.flatMap spC), i⟩
theorem esOf_app (l : List Ent) (x : Ent) : esOf (l ++ [x]) = esOf l ++ [⟨keyV x.1 x.2.1, .agg (x.2.2.flatMap spC), l.length⟩] := by unfold esOf; rw [List.mapIdx_concat]
theorem esOf_mem {l : List Ent} {e : AMapE} (h : e ∈ esOf l) : ∃ x, l[e.born]? = some x ∧ e.key = keyV x.1 x.2.1 ∧ e.val = .agg (x.2.2.flatMap spC) := by
  obtain ⟨i, hi, rfl⟩ := List.mem_mapIdx.1 h
  exact ⟨l[i], by simp, rfl, rfl⟩
theorem padF_inj {l m : List Int} (h : l.length = m.length) (q : padF l = padF m) : l = m := by
  unfold padF at q
  exact (List.append_inj q h).1
theorem entsF_mem {F : FieldV} {l : List Int} {x : Ent} (h : x ∈ entsF F l) : x.2.1 = padF l := by
  obtain ⟨i, hi, rfl⟩ := List.mem_mapIdx.1 h
  rfl
theorem entsOf_mem {F : FieldV} {l : List Int} {x : Ent} (h : x ∈ entsOf F l) : x ∈ entsF F l := by
  unfold entsOf at h
  split at h
  · cases h
  · exact h
def refusal (code : Int) : List AEntry := [⟨.iface 95 (.int .i64 code), false⟩]
theorem refuse_ok (b : Bool) (code : Int) (h : AH) : Runs Try.prog 55 [.bool b, .int .i64 code] h (fun en h' => h' = h ∧ ((b = false ∧ en = .ret (.tuple [])) ∨ (b = true ∧ en = .pan (refusal code)))) := by
  refine Runs.intro aFunc55 rfl rfl rfl rfl fun rest => ?_
  refine Go.seq noJ_ok (Go.region noJ_ok rfl ?_)
  refine GoR.op rfl rfl rfl rfl ?_
  cases b with
  | false =>
    refine GoR.end (Go.cond noJ_ok (b := false) rfl (Go.code noJ_ok (Go.endL (FLeft.ret (v := .tuple []) ?_ ⟨rfl, .inl ⟨rfl, rfl⟩⟩))))
    exact aResult_of Try.func55 rfl rfl
  | true =>
    refine GoR.end (Go.cond noJ_ok (b := true) rfl (Go.region noJ_ok rfl ?_))
    refine GoR.op rfl rfl rfl rfl ?_
    refine GoR.op rfl rfl rfl rfl ?_
    refine GoR.panic rfl rfl rfl (FLeft.pan ⟨rfl, .inr ⟨rfl, rfl⟩⟩)
theorem imp_ok {a b c : Int} (D : Dries a b c) {t : TurfV} (O : t.Ok) (sl : AVal) (bb n bd : Nat) (rs : List Int) (hn : rs.length = n) (hn6 : n ≤ 6) (hr : ∀ r, r ∈ rs → r ≤ 10) (h : AH)
    (hd : Has h bd (.cells .plain [.slice bb 0 n n] 103)) (hw : Has h bb (.cells .plain (rs.map (wV a b c)) 134)) (hL : SliceOf h 4 sl (t.looks.map LookV.cells)) :
    Runs Try.prog 70 [.agg (t.cells sl), .ptr bd 0] h (fun en h' => en = .ret (.bool (!possB a b c t rs)) ∧ Ext h h') := by
  unfold TurfV.cells
  refine Runs.intro aFunc70 rfl rfl rfl rfl fun rest => ?_
  refine Go.seq noJ_ok ?_
  refine Go.region noJ_ok rfl ?_
  refine GoR.box rfl rfl rfl rfl rfl rfl fun h0 x0 f0 => ?_
  have := hd.1
  have := hw.1
  replace hd := hd.ext x0
  replace hw := hw.ext x0
  have e0 := x0
  have := f0.1
  refine GoR.op rfl rfl rfl rfl ?_
  refine GoR.end ?_
  refine Go.seq noJ_ok ?_
  refine Go.region noJ_ok rfl ?_
  refine GoR.op rfl rfl (ld106 rfl f0 rfl) rfl ?_
  refine GoR.op rfl rfl (ld103 rfl hd rfl) rfl ?_
  refine GoR.call rfl rfl (aOp_callFunc aFunc71 rfl) (possible_ok D O sl bb n rs hn hn6 hr _ hw (hL.ext e0)) ?_ (by rintro _ _ ⟨q, _⟩; cases q)
  rintro _ h1 ⟨q, x1⟩
  cases q
  refine ⟨_, rfl, ?_⟩
  replace f0 := f0.ext x1
  replace hd := hd.ext x1
  replace hw := hw.ext x1
  replace e0 := e0.trans x1
  iterate 2 refine GoR.op rfl rfl rfl rfl ?_
  refine GoR.end ?_
  exact Go.ret noJ_ok (ret_end (aResult_of Try.func70 rfl rfl) ⟨rfl, e0⟩)
end Go.Proofs.Ytmdheijpnlonoaa
