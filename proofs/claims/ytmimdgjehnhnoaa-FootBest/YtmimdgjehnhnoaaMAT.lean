import Derived.Test.YtmimdgjehnhnoaaMAS
import Derived.Test.YtmimdgjehnhnoaaMAO
import Derived.Test.YtmimdgjehnhnoaaMAG
import Derived.Deep.Slices
import Derived.Lib.SmallJoins
import Derived.Carry
namespace Go.Proofs.Ytmimdgjehnhnoaa
open Go Go.AbsE
set_option linter.unusedSimpArgs false
set_option maxRecDepth 100000
set_option maxHeartbeats 0
set_option linter.unusedVariables false
theorem truly26_ok {F : FootV} (O : F.Ok) {bs : List Int} (hbs : ∀ x, x ∈ bs → 0 ≤ x ∧ x < 65536) (hlen : bs.length < 9223372036854775808) {s rsl hsl : AVal} {h : AH} (A : FootAt h F rsl hsl) (hs : SliceOf h 1 s (u16s bs)) :
  Runs Try.prog 26 [.agg (F.cells rsl hsl), s] h (fun en h' => ∃ (rs fs : AVal) (R fl : List Int), en = .ret (.agg [rs, fs]) ∧ Ext h h' ∧ R.length = F.rs.length ∧ (∀ (k : Nat) r x, F.rs[k]? = some r → R[k]? = some x → r.1 ≤ x ∧ x ≤ r.2) ∧ fl.length = F.hs.length ∧ (∀ (k : Nat) x w, F.hs[k]? = some x → fl[k]? = some w → x.lo ≤ w ∧ w ≤ x.hi)
   ∧ SliceOf h' 1 rs (ints R) ∧ SliceOf h' 1 fs (ints fl) ∧ scalars [rs, fs] = true ∧ sameA rs rs = true ∧ sameA fs fs = true) := by
 have hl1 := A.rs.len
 have hl2 := A.hs.len
 rw [List.length_map] at hl1 hl2
 have hnh := O.nh
 have hnr := O.nr
 have hsc1 := hs.scal.1
 have hsc2 := hs.scal.2
 unfold FootV.cells
 have e0 : Ext h h := Ext.refl _
 refine Runs.intro aFunc26 rfl rfl rfl rfl fun rest => ?_
 apply gS
 refine gR rfl ?_
 refine GoR.box rfl rfl rfl rfl rfl rfl fun h0 x0 f0 => ?_
 have := e0.1
 replace e0 := e0.trans x0
 have := f0.1
 refine GoR.alloc rfl rfl rfl zt51 rfl rfl fun h1 x1 f1 => ?_
 have := e0.1
 have := f0.1
 replace f0 := f0.ext x1
 replace e0 := e0.trans x1
 have := f1.1
 apply gE
 apply gS
 refine gR rfl ?_
 refine gP ?_
 refine GoR.call rfl rfl (aCF aFunc71 rfl) (draws71_ok s _ hsc1 hsc2) ?_ (by rintro _ _ ⟨ba, bb, q, _, hba, hbb, hab, _, fb⟩; cases q)
 rintro v2 h2 ⟨ba, bb, q, x2, hba, hbb, hab, f2, fb⟩
 cases q
 refine ⟨_, rfl, ?_⟩
 have := e0.1
 replace f1 := f1.ext x2
 replace f0 := f0.ext x2
 replace e0 := e0.trans x2
 refine gP ?_
 apply gE
 iterate 2 apply gS
 refine gR rfl ?_
 refine gO rfl rfl (fa26_0 rfl) rfl ?_
 refine gO rfl rfl (ld22 rfl f0 rfl) rfl ?_
 refine gO rfl rfl (aOp_lenSlice Try.underlying22 rfl hl1) rfl ?_
 refine gP ?_
 apply gE
 refine Go.block noJ_ok ?_
 have m0 := f2.1
 have m1 := fb.1
 refine Go.loopKeep (fun a : Nat × AVal × List Int => [(2, .ptr h.next 0), (4, .ptr h0.next 0), (5, .func (.func 99) [] [.ptr ba 0, .ptr bb 0]), (13, rsl), (14, .int .i64 F.rs.length), (15, .int .i64 (a.1 : Nat))])
  (fun m a h' => m + a.1 = F.rs.length ∧ Ext h h' ∧ h2.next ≤ h'.next ∧ Has h' h.next (.cells .plain [rsl, .int .i64 F.men, .int .i64 F.l0, .int .i64 F.l1, .int .i64 F.l2, .int .i64 F.d0, .int .i64 F.d1, .int .i64 F.d2, hsl] 26) ∧ Has h' h0.next (.cells .plain [a.2.1, .nilslice] 51) ∧ Has h' ba (.cells .plain [.int .i64 (a.1 : Nat)] 3) ∧ Has h' bb (.cells .plain [s] 46) ∧ a.2.2.length = a.1 ∧ (∀ (k : Nat) r x, F.rs[k]? = some r → a.2.2[k]? = some x → r.1 ≤ x ∧ x ≤ r.2) ∧ Grow h' 3 1 h2.next a.2.1 a.1 (i64s a.2.2))
  (n := F.rs.length) (0, .nilslice, []) ⟨rfl, rfl, rfl, rfl, rfl, rfl, trivial⟩ ⟨rfl, e0, Nat.le_refl _, f0, f1, f2, fb, rfl, (by intro k r x _ q; simp at q), Grow.nil _ _ _ _⟩ ?_
 clear e0 f0 f1 f2 fb
 rintro m ⟨i, sa, R⟩ h20 ⟨hm, e0, hle, f0, f1, fa, fb, hRl, hRb, G⟩ again
 dsimp only at hm f1 fa hRl hRb G ⊢
 have hn9 := f0.1
 have hn8 := f1.1
 have hn7 := fa.1
 have hn6 := fb.1
 by_cases hi : i < F.rs.length
 ·obtain ⟨r, hr⟩ : ∃ r, F.rs[i]? = some r := ⟨F.rs[i], by simp [hi]⟩
  have hrO := O.r r (List.mem_of_getElem? hr)
  obtain ⟨bq, off, q1, q2⟩ := A.rs.at (i := i) (l := spC r) (by rw [List.getElem?_map, hr]; rfl)
  rw [List.length_map] at q1
  obtain ⟨r1, r2⟩ := r
  unfold spC at q2
  dsimp only at q2 hrO
  have y5 : ExtF (fun b => b = ba) h20 h20 := .of (Ext.refl _)
  have hsame := grow_same G
  have hst1 : ∀ {h : AH} {lo m : Nat} {z : AVal} {cs : List AVal}, Grow h 3 1 lo z m cs → Nat.beq z.cells.length 1 = true := fun k => by rw [(grow_scal k).2]; rfl
  have hst2 : ∀ {h : AH} {lo m : Nat} {z : AVal} {cs : List AVal}, Grow h 3 1 lo z m cs → scalars z.cells = true := fun k => by rw [(grow_scal k).2]; exact (grow_scal k).1
  have hst3 : ∀ {h : AH} {lo m : Nat} {z : AVal} {cs : List AVal}, Grow h 3 1 lo z m cs → splice [sa, .nilslice] (0 + 0) z.cells = some [z, .nilslice] := fun k => by rw [(grow_scal k).2]; rfl
  apply gS
  refine gR rfl ?_
  refine gO rfl rfl (kLT rfl rfl) rfl ?_
  apply gE
  apply gS
  refine gC (b := true) rfl ?_
  refine gD ?_
  apply gS
  refine Go.block noJ_ok ?_
  apply gS
  refine gR rfl ?_
  refine gO rfl rfl (aOp_indexAddr (i := i) Try.underlying22 sz31 rfl q1 rfl (Nat.ble_eq_true_of_le hi)) rfl ?_
  refine gO rfl rfl (aOp_loadE ag31 sz31 rfl (q2.ext e0)) rfl ?_
  refine GoR.alloc rfl rfl rfl zt31 rfl rfl fun h21 x21 f21 => ?_
  have := e0.1
  have := f0.1
  have := f1.1
  have := fa.1
  have := fb.1
  replace f0 := f0.ext x21
  replace f1 := f1.ext x21
  replace fa := fa.ext x21
  replace fb := fb.ext x21
  replace e0 := e0.trans x21
  replace y5 := y5.ext x21
  have := f21.1
  refine GoR.store rfl rfl rfl rfl rfl rfl f21 rfl sz31 rfl rfl rfl fun h22 u22 => ?_
  replace f21 := u22.has f21
  replace f0 := f0.upd u22 (by omega)
  replace f1 := f1.upd u22 (by omega)
  replace fa := fa.upd u22 (by omega)
  replace fb := fb.upd u22 (by omega)
  replace e0 := e0.upd u22 (by omega)
  replace y5 := y5.upd u22 (.inr (by omega))
  apply gE
  refine Go.drawnE plan26_0 ?_
  refine gQ rfl rfl (fa51_0 rfl) rfl ?_
  refine gQ rfl rfl (ld49 rfl f1 rfl) rfl ?_
  refine gQ rfl rfl rfl rfl ?_
  refine gQ rfl rfl (ld31 rfl f21 rfl) rfl ?_
  refine GoE.call rfl rfl (aOp_callVal rfl aFunc99 rfl) (draw99_ok hbs (by assumption) (by assumption) e0 hab hs (by omega) hlen (by constructor <;> omega) (by omega)) (dD 12 3 (dD 12 2 (dK 12 1 (dK 12 0 rfl)))) ?_ (by rintro _ _ ⟨w, q, wl, wh, _, _⟩; cases q)
  rintro v23 h23 ⟨w, q, wl, wh, y23, f23⟩
  cases q
  have := e0.1
  have := f21.1
  have := f0.1
  have := f1.1
  have := fa.1
  have := fb.1
  have := e0.1
  have := f21.1
  have := f0.1
  have := f1.1
  have := fa.1
  have := fb.1
  replace f21 := f21.extF y23 (fun q => by omega)
  replace f0 := f0.extF y23 (fun q => by omega)
  replace f1 := f1.extF y23 (fun q => by omega)
  clear fa
  replace fb := fb.extF y23 (fun q => by omega)
  replace e0 := y23.low e0 (fun b q => by omega)
  replace y5 := y5.trans (fun b q => .inl q) y23
  have := y23.1
  refine ⟨(rck (h2 := h23) rfl (ld49 rfl f1 rfl) (rck (h2 := h23) rfl (fa51_0 rfl) recheck_nil)), _, rfl, ?_⟩
  refine GoE.quietX rfl rfl (aOpX_lit (ps := [(0, .int .i64 w)]) (cs := [.int .i64 w]) Try.underlying49 rfl sz3 zt3 rfl rfl rfl) rfl ?_
  refine GoE.append1L rfl rfl Try.underlying49 Try.underlying49 sz3 by3 zt3 rfl rfl rfl rfl rfl rfl (grow_extF G y5 (fun b q => by have : b = ba := q; omega)) (by omega) (dD 63 5 (dD 63 1 (dD 63 0 rfl))) rfl rfl fun s24 h24 y24 g24 => ?_
  replace f23 := f23.extF y24 (fun q => by have := grow_own G q; omega)
  replace f21 := f21.extF y24 (fun q => by have := grow_own G q; omega)
  replace f0 := f0.extF y24 (fun q => by have := grow_own G q; omega)
  replace f1 := f1.extF y24 (fun q => by have := grow_own G q; omega)
  replace fb := fb.extF y24 (fun q => by have := grow_own G q; omega)
  replace e0 := y24.low e0 (fun b q => by have := grow_own G q; omega)
  clear y23
  clear y5
  have := y24.1
  refine ⟨recheck_nil, ?_⟩
  refine gQ rfl rfl (fa51_0 rfl) rfl ?_
  refine GoE.store rfl rfl rfl rfl (dD 255 7 rfl) rfl rfl f1 rfl sz49 (hst1 (by assumption)) (hst2 (by assumption)) (hst3 (by assumption)) fun h25 u25 => ?_
  replace f23 := f23.upd u25 (by omega)
  replace f0 := f0.upd u25 (by omega)
  replace f1 := u25.has f1
  replace fb := fb.upd u25 (by omega)
  replace e0 := e0.upd u25 (by omega)
  refine ⟨recheck_nil, ?_⟩
  refine GoE.end rfl ?_
  refine Go.inBlock noJ_ok ?_
  refine gR rfl ?_
  refine gO rfl rfl (aA rfl rfl) rfl ?_
  refine gP ?_
  apply gE
  have m2 := x21.1
  have m3 := u22.1
  have m4 := u25.1
  have g26 := grow_extF (S := fun b => b = h0.next) g24 ((ExtF.of (Ext.refl h24)).upd u25 (.inl rfl)) (fun b q => by have : b = h0.next := q; omega)
  have g27 := g26.low (lo' := h2.next) (by omega)
  refine again (m - 1) (i + 1, s24, R ++ [w]) _ _ (by omega) ⟨rfl, rfl, rfl, rfl, rfl, rfl, trivial⟩ ⟨by dsimp only; omega, e0, by omega, f0, f1, (by rw [show (((i + 1 : Nat)) : Int) = (i : Int) + 1 from by omega]; exact f23), fb, by rw [List.length_append, hRl]; rfl, fs_more (lo := fun r : Int × Int => r.1) (hi := fun r => r.2) hRb hRl hr ⟨wl, wh⟩, ?_⟩
  dsimp only
  unfold i64s at g27 ⊢
  rw [List.map_append]
  exact g27
 ·apply gS
  refine gR rfl ?_
  refine gO rfl rfl (kLF rfl rfl) rfl ?_
  apply gE
  apply gS
  refine gC (b := false) rfl ?_
  refine gD ?_
  iterate 2 apply gS
  refine gR rfl ?_
  refine gO rfl rfl (fa26_4 rfl) rfl ?_
  refine gO rfl rfl (ld24 rfl f0 rfl) rfl ?_
  refine gO rfl rfl (aOp_lenSlice Try.underlying24 rfl hl2) rfl ?_
  refine gP ?_
  apply gE
  refine Go.block noJ_ok ?_
  have hii : i = F.rs.length := by omega
  subst hii
  clear again
  have yy : ExtF (fun b => b = ba ∨ b = h0.next) h20 h20 := .of (Ext.refl _)
  refine Go.loopKeep (fun a : Nat × AVal × List Int => [(2, .ptr h.next 0), (4, .ptr h0.next 0), (5, .func (.func 99) [] [.ptr ba 0, .ptr bb 0]), (29, hsl), (30, .int .i64 F.hs.length), (31, .int .i64 (a.1 : Nat))])
   (fun m a h' => m + a.1 = F.hs.length ∧ Ext h h' ∧ h20.next ≤ h'.next ∧ ExtF (fun b => b = ba ∨ b = h0.next) h20 h' ∧ Has h' h.next (.cells .plain [rsl, .int .i64 F.men, .int .i64 F.l0, .int .i64 F.l1, .int .i64 F.l2, .int .i64 F.d0, .int .i64 F.d1, .int .i64 F.d2, hsl] 26) ∧ Has h' h0.next (.cells .plain [sa, a.2.1] 51) ∧ Has h' ba (.cells .plain [.int .i64 (F.rs.length + a.1 : Nat)] 3) ∧ Has h' bb (.cells .plain [s] 46) ∧ a.2.2.length = a.1 ∧ (∀ (k : Nat) x w, F.hs[k]? = some x → a.2.2[k]? = some w → x.lo ≤ w ∧ w ≤ x.hi) ∧ Grow h' 3 1 h20.next a.2.1 a.1 (i64s a.2.2))
   (n := F.hs.length) (0, .nilslice, []) ⟨rfl, rfl, rfl, rfl, rfl, rfl, trivial⟩ ⟨rfl, e0, Nat.le_refl _, yy, f0, f1, fa, fb, rfl, (by intro k r x _ q; simp at q), Grow.nil _ _ _ _⟩ ?_
  have hsame := grow_same G
  have hsca := grow_scal G
  have G0 := G
  clear e0 f0 f1 fa fb hm G yy
  rintro m ⟨i, sb, fl⟩ h40 ⟨hm, e0, hle2, y6, f0, f1, fa, fb, hfl, hfb, G⟩ again
  dsimp only at hm f1 fa hfl hfb G ⊢
  have hn9 := f0.1
  have hn8 := f1.1
  have hn7 := fa.1
  have hn6 := fb.1
  by_cases hi : i < F.hs.length
  ·obtain ⟨x, hx⟩ : ∃ x, F.hs[i]? = some x := ⟨F.hs[i], by simp [hi]⟩
   have hxO := O.h x (List.mem_of_getElem? hx)
   obtain ⟨bq, off, q1, q2⟩ := A.hs.at (i := i) (l := HF.cells x) (by rw [List.getElem?_map, hx]; rfl)
   rw [List.length_map] at q1
   unfold HF.cells at q2
   have y5 : ExtF (fun b => b = ba) h40 h40 := .of (Ext.refl _)
   have hsame2 := grow_same G
   have hst1 : ∀ {h : AH} {lo m : Nat} {z : AVal} {cs : List AVal}, Grow h 3 1 lo z m cs → Nat.beq z.cells.length 1 = true := fun k => by rw [(grow_scal k).2]; rfl
   have hst2 : ∀ {h : AH} {lo m : Nat} {z : AVal} {cs : List AVal}, Grow h 3 1 lo z m cs → scalars z.cells = true := fun k => by rw [(grow_scal k).2]; exact (grow_scal k).1
   have hst3 : ∀ {h : AH} {lo m : Nat} {z : AVal} {cs : List AVal}, Grow h 3 1 lo z m cs → splice [sa, sb] (0 + 1) z.cells = some [sa, z] := fun k => by rw [(grow_scal k).2]; rfl
   apply gS
   refine gR rfl ?_
   refine gO rfl rfl (kLT rfl rfl) rfl ?_
   apply gE
   apply gS
   refine gC (b := true) rfl ?_
   refine gD ?_
   apply gS
   refine Go.block noJ_ok ?_
   apply gS
   refine gR rfl ?_
   refine gO rfl rfl (aOp_indexAddr (i := i) Try.underlying24 sz72 rfl q1 rfl (Nat.ble_eq_true_of_le hi)) rfl ?_
   refine gO rfl rfl (aOp_loadE ag72 sz72 rfl (q2.ext e0)) rfl ?_
   refine GoR.alloc rfl rfl rfl zt72 rfl rfl fun h41 x41 f41 => ?_
   have := e0.1
   have := f0.1
   have := f1.1
   have := fa.1
   have := fb.1
   replace f0 := f0.ext x41
   replace f1 := f1.ext x41
   replace fa := fa.ext x41
   replace fb := fb.ext x41
   replace e0 := e0.trans x41
   replace y6 := y6.ext x41
   replace y5 := y5.ext x41
   have := f41.1
   refine GoR.store rfl rfl rfl rfl rfl rfl f41 rfl sz72 rfl rfl rfl fun h42 u42 => ?_
   replace f41 := u42.has f41
   replace f0 := f0.upd u42 (by omega)
   replace f1 := f1.upd u42 (by omega)
   replace fa := fa.upd u42 (by omega)
   replace fb := fb.upd u42 (by omega)
   replace e0 := e0.upd u42 (by omega)
   replace y6 := y6.upd u42 (.inr (by omega))
   replace y5 := y5.upd u42 (.inr (by omega))
   apply gE
   refine Go.drawnE plan26_1 ?_
   refine gQ rfl rfl (fa51_1 rfl) rfl ?_
   refine gQ rfl rfl (ld49 rfl f1 rfl) rfl ?_
   refine gQ rfl rfl rfl rfl ?_
   refine gQ rfl rfl (fa72_0 rfl) rfl ?_
   refine gQ rfl rfl (ld31 rfl f41 rfl) rfl ?_
   refine GoE.call rfl rfl (aOp_callVal rfl aFunc99 rfl) (draw99_ok hbs (by assumption) (by assumption) e0 hab hs (by omega) hlen (by constructor <;> omega) (by omega)) (dD 28 4 (dD 28 3 (dD 28 2 (dK 28 1 (dK 28 0 rfl))))) ?_ (by rintro _ _ ⟨w, q, wl, wh, _, _⟩; cases q)
   rintro v43 h43 ⟨w, q, wl, wh, y43, f43⟩
   cases q
   have := e0.1
   have := f41.1
   have := f0.1
   have := f1.1
   have := fa.1
   have := fb.1
   have := e0.1
   have := f41.1
   have := f0.1
   have := f1.1
   have := fa.1
   have := fb.1
   replace f41 := f41.extF y43 (fun q => by omega)
   replace f0 := f0.extF y43 (fun q => by omega)
   replace f1 := f1.extF y43 (fun q => by omega)
   clear fa
   replace fb := fb.extF y43 (fun q => by omega)
   replace e0 := y43.low e0 (fun b q => by omega)
   replace y6 := y6.trans (fun b q => .inl (.inl q)) y43
   replace y5 := y5.trans (fun b q => .inl q) y43
   have := y43.1
   refine ⟨(rck (h2 := h43) rfl (ld49 rfl f1 rfl) (rck (h2 := h43) rfl (fa51_1 rfl) recheck_nil)), _, rfl, ?_⟩
   refine GoE.quietX rfl rfl (aOpX_lit (ps := [(0, .int .i64 w)]) (cs := [.int .i64 w]) Try.underlying49 rfl sz3 zt3 rfl rfl rfl) rfl ?_
   refine GoE.append1L rfl rfl Try.underlying49 Try.underlying49 sz3 by3 zt3 rfl rfl rfl rfl rfl rfl (grow_extF G y5 (fun b q => by have : b = ba := q; omega)) (by omega) (dD 127 6 (dD 127 1 (dD 127 0 rfl))) rfl rfl fun s44 h44 y44 g44 => ?_
   replace f43 := f43.extF y44 (fun q => by have := grow_own G q; omega)
   replace f41 := f41.extF y44 (fun q => by have := grow_own G q; omega)
   replace f0 := f0.extF y44 (fun q => by have := grow_own G q; omega)
   replace f1 := f1.extF y44 (fun q => by have := grow_own G q; omega)
   replace fb := fb.extF y44 (fun q => by have := grow_own G q; omega)
   replace e0 := y44.low e0 (fun b q => by have := grow_own G q; omega)
   clear y43
   replace y6 := y6.trans (fun b q => .inr (by have := grow_own G q; omega)) y44
   clear y5
   have := y44.1
   refine ⟨recheck_nil, ?_⟩
   refine gQ rfl rfl (fa51_1 rfl) rfl ?_
   refine GoE.store rfl rfl rfl rfl (dD 511 8 rfl) rfl rfl f1 rfl sz49 (hst1 (by assumption)) (hst2 (by assumption)) (hst3 (by assumption)) fun h45 u45 => ?_
   replace f43 := f43.upd u45 (by omega)
   replace f0 := f0.upd u45 (by omega)
   replace f1 := u45.has f1
   replace fb := fb.upd u45 (by omega)
   replace e0 := e0.upd u45 (by omega)
   replace y6 := y6.upd u45 (by omega)
   refine ⟨recheck_nil, ?_⟩
   refine GoE.end rfl ?_
   refine Go.inBlock noJ_ok ?_
   refine gR rfl ?_
   refine gO rfl rfl (aA rfl rfl) rfl ?_
   refine gP ?_
   apply gE
   have m2 := x41.1
   have m3 := u42.1
   have m4 := u45.1
   have g46 := grow_extF (S := fun b => b = h0.next) g44 ((ExtF.of (Ext.refl h44)).upd u45 (.inl rfl)) (fun b q => by have : b = h0.next := q; omega)
   have g47 := g46.low (lo' := h20.next) (by omega)
   refine again (m - 1) (i + 1, s44, fl ++ [w]) _ _ (by omega) ⟨rfl, rfl, rfl, rfl, rfl, rfl, trivial⟩ ⟨by dsimp only; omega, e0, by omega, y6, f0, f1, (by rw [show (((F.rs.length + (i + 1) : Nat)) : Int) = ((F.rs.length + i : Nat) : Int) + 1 from by omega]; exact f43), fb, by rw [List.length_append, hfl]; rfl, fs_more (lo := fun x : HF => x.lo) (hi := fun x => x.hi) hfb hfl hx ⟨wl, wh⟩, ?_⟩
   dsimp only
   unfold i64s at g47 ⊢
   rw [List.map_append]
   exact g47
  ·have hii : i = F.hs.length := by omega
   subst hii
   have hsc2 : scalars [sa, sb] = true := by
    unfold scalars
    rw [scal_one' (grow_scal G0).1]
    simp only [scalars, scal_one' (grow_scal G).1, cond_true]
   have hrs : ∀ h', ExtF (fun b => b = ba ∨ b = h0.next) h20 h' → SliceOf h' 1 sa (ints R) := fun h' y => nums_sl hRl (grow_extF G0 y (fun b q => by have : b = ba ∨ b = h0.next := q; omega))
   have hfs : ∀ h', ExtF (fun b => b = h0.next) h40 h' → SliceOf h' 1 sb (ints fl) := fun h' y => nums_sl hfl (grow_extF G y (fun b q => by have : b = h0.next := q; omega))
   have y7 : ExtF (fun b => b = h0.next) h40 h40 := .of (Ext.refl _)
   have hss1 := grow_same G0
   have hss2 := grow_same G
   apply gS
   refine gR rfl ?_
   refine gO rfl rfl (kLF rfl rfl) rfl ?_
   apply gE
   apply gS
   refine gC (b := false) rfl ?_
   refine gD ?_
   apply gS
   refine gR rfl ?_
   refine gO rfl rfl (ld51 rfl f1 rfl) rfl ?_
   refine GoR.store rfl rfl rfl rfl rfl rfl f1 rfl sz51 rfl hsc2 rfl fun h41 u41 => ?_
   replace f1 := u41.has f1
   replace fb := fb.upd u41 (by omega)
   replace fa := fa.upd u41 (by omega)
   replace e0 := e0.upd u41 (by omega)
   replace y6 := y6.upd u41 (by omega)
   replace y7 := y7.upd u41 (.inl rfl)
   apply gE
   exact gV (ret_end (aResult_of Try.func26 rfl (aResults_c rfl f1 (inCells_agg ag51 sz51 rfl) rfl)) (⟨sa, sb, R, fl, rfl, e0, hRl, hRb, hfl, hfb, hrs _ y6, hfs _ y7, hsc2, hss1, hss2⟩))
end Go.Proofs.Ytmimdgjehnhnoaa

namespace Go.Proofs.Ytmimdgjehnhnoaa
open Go Go.AbsE
set_option linter.unusedSimpArgs false
set_option maxRecDepth 100000
set_option maxHeartbeats 0
set_option linter.unusedVariables false
theorem done_upTo {n : Int} {p : Pl} (hp : p.Ord n) {k : Nat} (hk : k < 3) (h0 : 0 ≤ p.at k) {e : Int} (he : e < p.at k) : doneV (p.upTo k) e = doneV p e := by
 unfold Pl.Ord at hp
 have z : ∀ x : Int, (x = -1 ∨ e < x) → (if 0 ≤ x ∧ x ≤ e then (1 : Int) else 0) = 0 := fun x q => if_neg (by omega)
 have zm : (if (0 : Int) ≤ -1 ∧ (-1 : Int) ≤ e then (1 : Int) else 0) = 0 := z _ (.inl rfl)
 match k, hk with
 | 0, _ =>
  show (if 0 ≤ p.a ∧ p.a ≤ e then (1 : Int) else 0) + (if (0 : Int) ≤ -1 ∧ (-1 : Int) ≤ e then 1 else 0) + (if (0 : Int) ≤ -1 ∧ (-1 : Int) ≤ e then 1 else 0) = _
  have h0' : 0 ≤ p.a := h0
  have he' : e < p.a := he
  unfold doneV
  rw [zm, z p.b (by omega), z p.c (by omega)]
 | 1, _ =>
  show (if 0 ≤ p.a ∧ p.a ≤ e then (1 : Int) else 0) + (if 0 ≤ p.b ∧ p.b ≤ e then 1 else 0) + (if (0 : Int) ≤ -1 ∧ (-1 : Int) ≤ e then 1 else 0) = _
  have h0' : 0 ≤ p.b := h0
  have he' : e < p.b := he
  unfold doneV
  rw [zm, z p.c (by omega)]
 | 2, _ => rfl
theorem w_upTo {F : FootV} {T : Bool} {i : Nat} {n : Int} {p : Pl} (hp : p.Ord n) {k : Nat} (hk : k < 3) (h0 : 0 ≤ p.at k) : ∀ d : Nat, (d : Int) ≤ p.at k → F.w T i (p.upTo k) d = F.w T i p d
 | 0, _ => rfl
 | d + 1, hd => by
  have ih := w_upTo (F := F) (T := T) (i := i) hp hk h0 d (by omega)
  unfold FootV.w
  rw [done_upTo hp hk h0 (by omega), ih]
theorem upTo_ord {n : Int} {p : Pl} (hp : p.Ord n) (k : Nat) : (p.upTo k).Ord n := by
 unfold Pl.Ord at hp ⊢
 unfold Pl.upTo
 dsimp only
 split <;> split <;> omega
theorem rule_zero {F : FootV} {st : List Int} {i : Nat} {p : Pl} {k : Nat} : F.rule st i p k = 0 ↔ p.at k = -1 ∨ ((p.upTo k).Ord F.rs.length ∧ F.w true i (p.upTo k) (p.at k).toNat ≤ F.lm k ∧ ¬ F.men ≤ (st[(p.at k).toNat]?).getD 0) := by
 unfold FootV.rule
 by_cases c1 : p.at k = -1
 ·rw [if_pos c1]; exact ⟨fun _ => .inl c1, fun _ => rfl⟩
 ·rw [if_neg c1]
  by_cases c2 : (p.upTo k).Ord F.rs.length
  ·rw [if_neg (not_not_intro c2)]
   by_cases c3 : F.w true i (p.upTo k) (p.at k).toNat ≤ F.lm k
   ·rw [if_neg (not_not_intro c3)]
    by_cases c4 : F.men ≤ (st[(p.at k).toNat]?).getD 0
    ·rw [if_pos c4]
     exact ⟨fun q => by omega, fun q => q.elim (fun q => absurd q c1) fun q => absurd c4 q.2.2⟩
    ·rw [if_neg c4]
     exact ⟨fun _ => .inr ⟨c2, c3, c4⟩, fun _ => rfl⟩
   ·rw [if_pos c3]
    exact ⟨fun q => by omega, fun q => q.elim (fun q => absurd q c1) fun q => absurd q.2.1 c3⟩
  ·rw [if_pos c2]
   exact ⟨fun q => by omega, fun q => q.elim (fun q => absurd q c1) fun q => absurd q.1 c2⟩
theorem kept_at {F : FootV} {T : Bool} {i : Nat} {p : Pl} : F.Kept T i p ↔ ∀ k, k < 3 → p.at k = -1 ∨ F.w T i p (p.at k).toNat ≤ F.lm k := by
 constructor
 ·intro h k hk
  match k, hk with
  | 0, _ => exact h.1
  | 1, _ => exact h.2.1
  | 2, _ => exact h.2.2
 ·intro h
  exact ⟨h 0 (by omega), h 1 (by omega), h 2 (by omega)⟩
theorem bad_cons {F : FootV} {st : List Int} {i : Nat} {p : Pl} {L : List Pl} : F.bad st i (p :: L) = none ↔ (∀ k, k < 3 → F.rule st i p k = 0) ∧ F.bad (withV st p) (i + 1) L = none := by
 have e : F.bad st i (p :: L) = if F.rule st i p 0 ≠ 0 then some ((i : Int), 0, F.rule st i p 0) else if F.rule st i p 1 ≠ 0 then some ((i : Int), 1, F.rule st i p 1) else if F.rule st i p 2 ≠ 0 then some ((i : Int), 2, F.rule st i p 2) else F.bad (withV st p) (i + 1) L := rfl
 rw [e]
 constructor
 ·intro h
  split at h
  ·cases h
  ·split at h
   ·cases h
   ·split at h
    ·cases h
    ·rename_i h0 h1 h2
     refine ⟨fun k hk => ?_, h⟩
     match k, hk with
     | 0, _ => exact Classical.not_not.1 h0
     | 1, _ => exact Classical.not_not.1 h1
     | 2, _ => exact Classical.not_not.1 h2
 ·rintro ⟨h, h'⟩
  rw [if_neg (not_not_intro (h 0 (by omega))), if_neg (not_not_intro (h 1 (by omega))), if_neg (not_not_intro (h 2 (by omega)))]
  exact h'
theorem none_at (k : Nat) : none3.at k = -1 := by
 unfold Pl.at none3
 split <;> rfl
theorem full_false {st : List Int} {men : Int} {p : Pl} : fullB st men p = false ↔ ∀ k, k < 3 → ¬ men ≤ (st[(p.at k).toNat]?).getD 0 := by
 unfold fullB
 rw [decide_eq_false_iff_not]
 constructor
 ·intro h k hk
  match k, hk with
  | 0, _ => exact fun q => h (.inl q)
  | 1, _ => exact fun q => h (.inr (.inl q))
  | 2, _ => exact fun q => h (.inr (.inr q))
 ·rintro h (q | q | q)
  ·exact h 0 (by omega) q
  ·exact h 1 (by omega) q
  ·exact h 2 (by omega) q
theorem right_bad {F : FootV} : ∀ (L : List Pl) (st : List Int) (i : Nat), F.Right st i L → F.bad st i L = none
 | [], _, _, _ => rfl
 | p :: L, st, i, ⟨h, hr⟩ => by
  refine bad_cons.2 ⟨fun k hk => rule_zero.2 ?_, right_bad L _ _ hr⟩
  rcases h with rfl | ⟨h1, h2, h3⟩
  ·exact .inl (none_at k)
  ·have ho := whole_ord h1
   by_cases c : p.at k = -1
   ·exact .inl c
   ·have h0 : 0 ≤ p.at k := by
     have := at_num (show p.Num F.rs.length by unfold Pl.Ord at ho; unfold Pl.Num; omega) k
     omega
    refine .inr ⟨upTo_ord ho k, ?_, full_false.1 h2 k hk⟩
    rw [w_upTo ho hk h0 _ (by omega)]
    exact (kept_at.1 h3 k hk).resolve_left c
def red (p : Pl) : Pl := if wholeP p then p else none3
theorem addDay_get {st : List Int} (hl : st.length = 8) {x : Int} (hx : x = -1 ∨ (0 ≤ x ∧ x < 8)) (d : Nat) : ((addDay st x)[d]?).getD 0 = (st[d]?).getD 0 + (if x = d then 1 else 0) := by
 unfold addDay
 by_cases c : x = -1
 ·rw [if_pos c, if_neg (by omega)]; omega
 ·rw [if_neg c, List.getElem?_set]
  by_cases c2 : x = d
  ·have e : x.toNat = d := by omega
   rw [if_pos c2, e, if_pos rfl, if_pos (by omega)]
   rfl
  ·rw [if_neg c2, if_neg (by omega)]
   omega
theorem withV_get {st : List Int} (hl : st.length = 8) {p : Pl} (hp : p.Num 8) (d : Nat) : ((withV st p)[d]?).getD 0 = (st[d]?).getD 0 + (if p.a = d then 1 else 0) + (if p.b = d then 1 else 0) + (if p.c = d then 1 else 0) := by
 unfold Pl.Num at hp
 unfold withV
 rw [addDay_get (by rw [addDay_len, addDay_len, hl]) (by omega), addDay_get (by rw [addDay_len, hl]) (by omega), addDay_get hl (by omega)]
theorem bad_right {F : FootV} (O : F.Ok) : ∀ (L : List Pl) (st st' : List Int) (i : Nat), st.length = 8 → st'.length = 8 → (∀ d : Nat, (st'[d]?).getD 0 ≤ (st[d]?).getD 0) → (∀ p, p ∈ L → p.Ord F.rs.length) → F.bad st i L = none → F.Right st' i (L.map red)
 | [], _, _, _, _, _, _, _, _ => trivial
 | p :: L, st, st', i, hl, hl', hle, ho, hb => by
  obtain ⟨h1, h2⟩ := bad_cons.1 hb
  have hp := ho p (by simp)
  have hnr := O.nr
  have hpn : p.Num 8 := by unfold Pl.Ord at hp; unfold Pl.Num; omega
  have hnn : none3.Num 8 := ⟨.inl rfl, .inl rfl, .inl rfl⟩
  show F.Right st' i (red p :: L.map red)
  refine ⟨?_, bad_right O L (withV st p) (withV st' (red p)) (i + 1) (by rw [withV_len, hl]) (by rw [withV_len, hl']) (fun d => ?_) (fun q hq => ho q (by simp [hq])) h2⟩
  ·unfold red
   by_cases c : wholeP p
   ·rw [if_pos c]
    have hw := ord_whole hp c
    have h0 : ∀ k, k < 3 → 0 ≤ p.at k := fun k hk => by
     match k, hk with
     | 0, _ => exact c.1
     | 1, _ => exact c.2.1
     | 2, _ => exact c.2.2
    have hr : ∀ k, k < 3 → F.w true i (p.upTo k) (p.at k).toNat ≤ F.lm k ∧ ¬ F.men ≤ (st[(p.at k).toNat]?).getD 0 := fun k hk => by
     rcases rule_zero.1 (h1 k hk) with q | q
     ·have := h0 k hk
      omega
     ·exact q.2
    refine .inr ⟨hw, full_false.2 fun k hk => ?_, kept_at.2 fun k hk => .inr ?_⟩
    ·have := (hr k hk).2
     have := hle (p.at k).toNat
     omega
    ·have := (hr k hk).1
     rw [w_upTo hp hk (h0 k hk) _ (by have := h0 k hk; omega)] at this
     exact this
   ·rw [if_neg c]
    exact .inl rfl
  ·have := hle d
   rw [withV_get hl hpn]
   unfold red
   by_cases c : wholeP p
   ·rw [if_pos c, withV_get hl' hpn]
    omega
   ·rw [if_neg c, withV_none]
    split <;> split <;> split <;> omega
theorem red_sods {F : FootV} : ∀ (L : List Pl) (i : Nat), F.sodsV i (L.map red) = F.sodsV i L
 | [], _ => rfl
 | p :: L, i => by
  show (if wholeP (red p) then F.sodsAt i else 0) + F.sodsV (i + 1) (L.map red) = (if wholeP p then F.sodsAt i else 0) + F.sodsV (i + 1) L
  rw [red_sods L (i + 1)]
  unfold red
  by_cases c : wholeP p
  ·rw [if_pos c]
  ·rw [if_neg c, if_neg none_not, if_neg c]
theorem red_le {n : Int} {p : Pl} (h : p.Ord n) : red p = p ∨ (red p).lt p := by
 unfold red
 by_cases c : wholeP p
 ·rw [if_pos c]; exact .inl rfl
 ·rw [if_neg c]
  unfold Pl.Ord at h
  by_cases c2 : p.a = -1
  ·left
   obtain ⟨a, b, d⟩ := p
   dsimp only at h c2
   unfold none3
   rw [c2, show b = -1 by omega, show d = -1 by omega]
  ·right
   unfold Pl.lt none3
   dsimp only
   omega
theorem lt_trans3 {p q r : Pl} (h : p.lt q) (k : q.lt r) : p.lt r := by
 unfold Pl.lt at *
 omega
theorem plsLe_red {n : Int} : ∀ (L M : List Pl), (∀ p, p ∈ M → p.Ord n) → PlsLe L (M.map red) → PlsLe L M
 | [], [], _, _ => trivial
 | [], _ :: _, _, h => h.elim
 | _ :: _, [], _, h => h.elim
 | q :: L, p :: M, ho, h => by
  have hr := red_le (ho p (by simp))
  rcases (h : q.lt (red p) ∨ (q = red p ∧ PlsLe L (M.map red))) with h | ⟨h1, h2⟩
  ·rcases hr with e | e
   ·rw [e] at h; exact .inl h
   ·exact .inl (lt_trans3 h e)
  ·rcases hr with e | e
   ·exact .inr ⟨h1.trans e, plsLe_red L M (fun p hp => ho p (by simp [hp])) h2⟩
   ·exact .inl (h1 ▸ e)
def FootV.canS (F : FootV) : Nat → Int
 | 0 => 0
 | i + 1 => F.canS i + (if (F.soon true i).isSome then F.sodsAt i else 0)
theorem canS_in {F : FootV} (O : F.Ok) : ∀ i : Nat, 0 ≤ F.canS i ∧ F.canS i ≤ 500 * i
 | 0 => by unfold FootV.canS; omega
 | i + 1 => by
  have ih := canS_in O i
  have := sodsAt_in O i
  unfold FootV.canS
  split <;> omega
theorem sods_can {F : FootV} (O : F.Ok) : ∀ (L : List Pl) (st : List Int) (i : Nat), F.Right st i L → F.sodsV i L ≤ F.canS (i + L.length) - F.canS i
 | [], _, i, _ => by
  show (0 : Int) ≤ F.canS (i + 0) - F.canS i
  rw [Nat.add_zero]
  omega
 | p :: L, st, i, ⟨h, hr⟩ => by
  have ih := sods_can O L _ _ hr
  have e : i + (p :: L).length = i + 1 + L.length := by rw [List.length_cons]; omega
  have hs := sodsAt_in O i
  rw [e]
  show (if wholeP p then F.sodsAt i else 0) + F.sodsV (i + 1) L ≤ _
  have hc : F.canS (i + 1) = F.canS i + (if (F.soon true i).isSome then F.sodsAt i else 0) := rfl
  rcases h with rfl | ⟨h1, h2, h3⟩
  ·rw [if_neg none_not]
   split at hc <;> omega
  ·obtain ⟨s, hs'⟩ := soon_of h1 h3
   rw [hs'] at hc
   rw [if_pos (whole_is h1)]
   rw [Option.isSome_some, if_pos rfl] at hc
   omega
theorem right_mem {F : FootV} : ∀ (L : List Pl) (st : List Int) (i : Nat), F.Right st i L → ∀ k p, L[k]? = some p → p = none3 ∨ (p ∈ wholeL F.rs.length ∧ F.Kept true (i + k) p)
 | [], _, _, _, k, p, hk => by simp at hk
 | q :: L, st, i, ⟨h, hr⟩, k, p, hk => by
  cases k with
  | zero =>
   rw [List.getElem?_cons_zero] at hk
   cases hk
   exact h.elim .inl fun z => .inr ⟨z.1, z.2.2⟩
  | succ k =>
   rw [List.getElem?_cons_succ] at hk
   have := right_mem L _ _ hr k p hk
   rw [show i + 1 + k = i + (k + 1) by omega] at this
   exact this
end Go.Proofs.Ytmimdgjehnhnoaa

namespace Go.Proofs.Ytmimdgjehnhnoaa
open Go Go.AbsE
set_option linter.unusedSimpArgs false
set_option maxRecDepth 100000
set_option maxHeartbeats 0
set_option linter.unusedVariables false
def FootV.rain (F : FootV) (T : Bool) : List Int := F.rs.map fun r => if T then r.2 else r.1
def FootV.first (F : FootV) (T : Bool) : List Int := F.hs.map fun x => if T then x.hi else x.lo
theorem rain_get {F : FootV} {T : Bool} (d : Nat) : ((F.rain T)[d]?).getD 0 = F.rn T d := by
 unfold FootV.rain FootV.rn
 rw [List.getElem?_map]
 cases F.rs[d]? <;> rfl
theorem w_tw {F : FootV} {T : Bool} {i : Nat} {p : Pl} : ∀ d : Nat, F.w T i p d = F.tw (F.rain T) (F.st T i) p d
 | 0 => rfl
 | d + 1 => by
  have ih := w_tw (F := F) (T := T) (i := i) (p := p) d
  unfold FootV.w FootV.tw
  rw [ih, rain_get]
theorem tw_mono {F : FootV} {R R' : List Int} {x x' : Int} {p : Pl} (hx : x ≤ x') (hR : ∀ d : Nat, (R[d]?).getD 0 ≤ (R'[d]?).getD 0) : ∀ d : Nat, F.tw R x p d ≤ F.tw R' x' p d
 | 0 => hx
 | d + 1 => by
  have ih := tw_mono (F := F) (p := p) hx hR d
  have := hR d
  unfold FootV.tw
  split <;> omega
structure Truth (F : FootV) (R fl : List Int) : Prop where
 lr : R.length = F.rs.length
 r : ∀ (k : Nat) r x, F.rs[k]? = some r → R[k]? = some x → r.1 ≤ x ∧ x ≤ r.2
 lf : fl.length = F.hs.length
 f : ∀ (k : Nat) x w, F.hs[k]? = some x → fl[k]? = some w → x.lo ≤ w ∧ w ≤ x.hi
theorem Truth.rin {F : FootV} (O : F.Ok) {R fl : List Int} (t : Truth F R fl) : ∀ x, x ∈ R → 0 ≤ x ∧ x ≤ 10 := by
 intro x hx
 obtain ⟨k, hk⟩ := List.mem_iff_getElem?.1 hx
 have hl := (List.getElem?_eq_some_iff.1 hk).1
 have hr : F.rs[k]? = some (F.rs[k]'(by rw [← t.lr]; exact hl)) := List.getElem?_eq_getElem _
 have h1 := t.r k _ x hr hk
 have h2 := O.r _ (List.mem_of_getElem? hr)
 omega
theorem Truth.get {F : FootV} {R fl : List Int} (t : Truth F R fl) (d : Nat) : F.rn false d ≤ (R[d]?).getD 0 ∧ (R[d]?).getD 0 ≤ F.rn true d := by
 unfold FootV.rn
 have hl := t.lr
 cases e : F.rs[d]? with
 | none =>
  have : R[d]? = none := by
   rw [List.getElem?_eq_none_iff] at e ⊢
   omega
  rw [this]
  exact ⟨Int.le_refl _, Int.le_refl _⟩
 | some r =>
  have hd := (List.getElem?_eq_some_iff.1 e).1
  have hx : R[d]? = some (R[d]'(by omega)) := List.getElem?_eq_getElem _
  rw [hx]
  exact t.r d r _ e hx
theorem Truth.first {F : FootV} (O : F.Ok) {R fl : List Int} (t : Truth F R fl) {i : Nat} (hi : i < F.hs.length) : ∃ x, fl[i]? = some x ∧ F.st false i ≤ x ∧ x ≤ F.st true i ∧ 0 ≤ x ∧ x ≤ 60 := by
 have hl := t.lf
 have hx : fl[i]? = some (fl[i]'(by omega)) := List.getElem?_eq_getElem _
 have hh : F.hs[i]? = some F.hs[i] := List.getElem?_eq_getElem hi
 have h1 := t.f i _ _ hh hx
 have h2 := O.h _ (List.getElem_mem hi)
 refine ⟨_, hx, ?_⟩
 unfold FootV.st
 rw [hh]
 dsimp only
 rw [if_neg (by simp), if_pos rfl]
 omega
theorem Truth.wet {F : FootV} {R fl : List Int} (t : Truth F R fl) {i : Nat} {x : Int} (h1 : F.st false i ≤ x) (h2 : x ≤ F.st true i) {p : Pl} (d : Nat) : F.w false i p d ≤ F.tw R x p d ∧ F.tw R x p d ≤ F.w true i p d := by
 rw [w_tw, w_tw]
 exact ⟨tw_mono h1 (fun d => by rw [rain_get]; exact (t.get d).1) d, tw_mono h2 (fun d => by rw [rain_get]; exact (t.get d).2) d⟩
theorem Truth.keeps {F : FootV} {R fl : List Int} (t : Truth F R fl) {i : Nat} {x : Int} (h1 : F.st false i ≤ x) (h2 : x ≤ F.st true i) {p : Pl} : (F.Kept true i p → F.TK R x p) ∧ (F.TK R x p → F.Kept false i p) := by
 constructor
 ·intro h k hk
  rcases kept_at.1 h k hk with q | q
  ·exact .inl q
  ·have := (t.wet h1 h2 (p := p) (p.at k).toNat).2
   exact .inr (by omega)
 ·intro h
  refine kept_at.2 fun k hk => ?_
  rcases h k hk with q | q
  ·exact .inl q
  ·have := (t.wet h1 h2 (p := p) (p.at k).toNat).1
   exact .inr (by omega)
theorem none_keeps {F : FootV} {R : List Int} {x : Int} : F.TK R x none3 := fun k _ => .inl (none_at k)
theorem none_ord (n : Int) : none3.Ord n := ⟨.inl rfl, .inl rfl, .inl rfl⟩
end Go.Proofs.Ytmimdgjehnhnoaa

namespace Go.Proofs.Ytmimdgjehnhnoaa
open Go Go.AbsE
set_option linter.unusedSimpArgs false
set_option maxRecDepth 100000
set_option maxHeartbeats 0
set_option linter.unusedVariables false
theorem sodsV_take {F : FootV} : ∀ (L : List Pl) (k i : Nat), F.sodsV i (L.take k) + (match L[k]? with | some p => (if wholeP p then F.sodsAt (i + k) else 0) | none => 0) = F.sodsV i (L.take (k + 1))
 | [], k, i => by simp [FootV.sodsV]
 | p :: L, 0, i => by
  show F.sodsV i [] + (if wholeP p then F.sodsAt (i + 0) else 0) = (if wholeP p then F.sodsAt i else 0) + F.sodsV (i + 1) []
  show 0 + (if wholeP p then F.sodsAt (i + 0) else 0) = (if wholeP p then F.sodsAt i else 0) + 0
  rw [Nat.add_zero]
  omega
 | p :: L, k + 1, i => by
  have ih := sodsV_take (F := F) L k (i + 1)
  show (if wholeP p then F.sodsAt i else 0) + F.sodsV (i + 1) (L.take k) + _ = (if wholeP p then F.sodsAt i else 0) + F.sodsV (i + 1) (L.take (k + 1))
  rw [← ih, List.getElem?_cons_succ, show i + 1 + k = i + (k + 1) by omega]
  omega
theorem sodsV_in {F : FootV} (O : F.Ok) : ∀ (L : List Pl) (i : Nat), 0 ≤ F.sodsV i L ∧ F.sodsV i L ≤ 500 * L.length
 | [], _ => by show (0 : Int) ≤ 0 ∧ (0 : Int) ≤ _; simp
 | p :: L, i => by
  have ih := sodsV_in O L (i + 1)
  have := sodsAt_in O i
  rw [List.length_cons]
  show 0 ≤ (if wholeP p then F.sodsAt i else 0) + F.sodsV (i + 1) L ∧ (if wholeP p then F.sodsAt i else 0) + F.sodsV (i + 1) L ≤ _
  split <;> omega
theorem Sods_ok {F : FootV} (O : F.Ok) {rsl hsl s : AVal} {L : List Pl} {h g : AH} (xg : Ext g h) (A : FootAt g F rsl hsl) (S : SliceOf h 3 s (L.map Pl.cells)) (hL : L.length = F.hs.length) :
  Runs Try.prog 37 [.agg (F.cells rsl hsl), s] h (fun en h' => en = .ret (.int .i64 (F.sodsV 0 L)) ∧ Ext h h') := by
 have hl1 := S.len
 have hl2 := A.hs.len
 rw [List.length_map] at hl1 hl2
 have hnh := O.nh
 unfold FootV.cells
 have e0 : Ext h h := Ext.refl _
 refine Runs.intro aFunc37 rfl rfl rfl rfl fun rest => ?_
 apply gS
 refine gR rfl ?_
 refine GoR.box rfl rfl rfl rfl rfl rfl fun h0 x0 f0 => ?_
 have := e0.1
 replace e0 := e0.trans x0
 have := f0.1
 refine gP ?_
 apply gE
 apply gS
 refine gR rfl ?_
 refine gP ?_
 apply gE
 iterate 2 apply gS
 refine gR rfl ?_
 refine gP ?_
 apply gE
 refine Go.block noJ_ok ?_
 refine Go.loopKeep (fun k : Nat => [(1, s), (2, .ptr h.next 0), (5, .int .i64 (F.sodsV 0 (L.take k))), (6, .int .i64 (k : Nat))])
  (fun m k h' => m + k = L.length ∧ Ext h h' ∧ Has h' h.next (.cells .plain [rsl, .int .i64 F.men, .int .i64 F.l0, .int .i64 F.l1, .int .i64 F.l2, .int .i64 F.d0, .int .i64 F.d1, .int .i64 F.d2, hsl] 26))
  (n := L.length) 0 ⟨rfl, rfl, rfl, rfl, trivial⟩ ⟨rfl, e0, f0⟩ ?_
 clear e0 f0
 rintro m k h20 ⟨hm, e0, f0⟩ again
 by_cases hk : k < L.length
 ·obtain ⟨p, hp⟩ : ∃ p, L[k]? = some p := ⟨L[k], by simp [hk]⟩
  obtain ⟨x, hx⟩ : ∃ x, F.hs[k]? = some x := ⟨F.hs[k]'(by omega), by simp⟩
  have hxO := O.h x (List.mem_of_getElem? hx)
  obtain ⟨b1, o1, r1, r2⟩ := S.at (i := k) (l := Pl.cells p) (by rw [List.getElem?_map, hp]; rfl)
  obtain ⟨b2, o2, r3, r4⟩ := A.hs.at (i := k) (l := HF.cells x) (by rw [List.getElem?_map, hx]; rfl)
  rw [List.length_map] at r1 r3
  unfold Pl.cells at r2
  unfold HF.cells at r4
  have hst := sodsV_take (F := F) L k 0
  rw [hp, Nat.zero_add] at hst
  have hsa : F.sodsAt k = x.sods := by unfold FootV.sodsAt; rw [hx]
  rw [hsa] at hst
  have hin := sodsV_in O (L.take k) 0
  have htl : (L.take k).length ≤ 3 := by rw [List.length_take]; omega
  obtain ⟨v, hv⟩ : ∃ v, F.sodsV 0 (L.take k) = v := ⟨_, rfl⟩
  obtain ⟨v2, hv2⟩ : ∃ v, F.sodsV 0 (L.take (k + 1)) = v := ⟨_, rfl⟩
  rw [hv] at hst hin
  rw [hv2] at hst
  have again2 := again (m - 1) (k + 1)
  rw [hv2] at again2
  rw [hv]
  dsimp only at hst
  by_cases c1 : wholeP p
  ·rw [if_pos c1] at hst
   subst hst
   unfold wholeP at c1
   iterate 2 apply gS
   refine gR rfl ?_
   iterate 2 refine gP ?_
   refine gO rfl rfl (aOp_lenSlice Try.underlying40 rfl hl1) rfl ?_
   refine gO rfl rfl (kLT rfl rfl) rfl ?_
   apply gE
   refine gC (b := true) rfl ?_
   refine gD ?_
   apply gS
   refine Go.block noJ_ok ?_
   apply gS
   refine gR rfl ?_
   iterate 2 refine gP ?_
   refine gO rfl rfl (aOp_indexAddr (i := k) Try.underlying40 sz27 rfl r1 rfl (Nat.ble_eq_true_of_le hk)) rfl ?_
   refine gO rfl rfl (aOp_loadE ag27 sz27 rfl (r2.ext e0)) rfl ?_
   refine GoR.call rfl rfl (aCF aFunc30 rfl) (Whole_is (r := true) (decide_eq_true c1)) ?_ np
   rintro v21 h21 ⟨q, x21⟩
   cases q
   refine ⟨_, rfl, ?_⟩
   replace f0 := f0.ext x21
   replace e0 := e0.trans x21
   apply gE
   refine gC (b := true) rfl ?_
   refine gR rfl ?_
   refine gP ?_
   refine gO rfl rfl (fa26_4 rfl) rfl ?_
   refine gO rfl rfl (ld24 rfl f0 rfl) rfl ?_
   refine gP ?_
   refine gO rfl rfl (aOp_indexAddr (i := k) Try.underlying24 sz72 rfl r3 rfl (Nat.ble_eq_true_of_le (by omega))) rfl ?_
   refine gO rfl rfl (fa72_1 rfl) rfl ?_
   refine gO rfl rfl (aOp_loadE1 (k := 2) ag3 rfl (r4.ext (xg.trans e0)) rfl) rfl ?_
   refine gO rfl rfl (aA rfl rfl) rfl ?_
   refine gP ?_
   apply gE
   refine Go.inBlock noJ_ok ?_
   refine gR rfl ?_
   refine gP ?_
   refine gO rfl rfl (aA rfl rfl) rfl ?_
   refine gP ?_
   apply gE
   exact again2 _ _ (by omega) ⟨rfl, rfl, rfl, rfl, trivial⟩ ⟨by omega, e0, f0⟩
  ·rw [if_neg c1] at hst
   rw [Int.add_zero] at hst
   subst hst
   unfold wholeP at c1
   iterate 2 apply gS
   refine gR rfl ?_
   iterate 2 refine gP ?_
   refine gO rfl rfl (aOp_lenSlice Try.underlying40 rfl hl1) rfl ?_
   refine gO rfl rfl (kLT rfl rfl) rfl ?_
   apply gE
   refine gC (b := true) rfl ?_
   refine gD ?_
   apply gS
   refine Go.block noJ_ok ?_
   apply gS
   refine gR rfl ?_
   iterate 2 refine gP ?_
   refine gO rfl rfl (aOp_indexAddr (i := k) Try.underlying40 sz27 rfl r1 rfl (Nat.ble_eq_true_of_le hk)) rfl ?_
   refine gO rfl rfl (aOp_loadE ag27 sz27 rfl (r2.ext e0)) rfl ?_
   refine GoR.call rfl rfl (aCF aFunc30 rfl) (Whole_is (r := false) (decide_eq_false c1)) ?_ np
   rintro v21 h21 ⟨q, x21⟩
   cases q
   refine ⟨_, rfl, ?_⟩
   replace f0 := f0.ext x21
   replace e0 := e0.trans x21
   apply gE
   refine gC (b := false) rfl ?_
   refine gD ?_
   refine Go.inBlock noJ_ok ?_
   refine gR rfl ?_
   refine gP ?_
   refine gO rfl rfl (aA rfl rfl) rfl ?_
   refine gP ?_
   apply gE
   exact again2 _ _ (by omega) ⟨rfl, rfl, rfl, rfl, trivial⟩ ⟨by omega, e0, f0⟩
 ·have hkL : L.take k = L := List.take_of_length_le (by omega)
  rw [hkL]
  iterate 2 apply gS
  refine gR rfl ?_
  iterate 2 refine gP ?_
  refine gO rfl rfl (aOp_lenSlice Try.underlying40 rfl hl1) rfl ?_
  refine gO rfl rfl (kLF rfl rfl) rfl ?_
  apply gE
  refine gC (b := false) rfl ?_
  refine gD ?_
  apply gS
  refine gR rfl ?_
  iterate 2 refine gP ?_
  apply gE
  exact gW Try.func37 rfl rfl ⟨rfl, e0⟩
end Go.Proofs.Ytmimdgjehnhnoaa

namespace Go.Proofs.Ytmimdgjehnhnoaa
open Go Go.AbsE
set_option linter.unusedSimpArgs false
set_option maxRecDepth 100000
set_option maxHeartbeats 0
set_option linter.unusedVariables false
theorem law9_no {F : FootV} {rsl hsl s : AVal} {h : AH} (hf : ∀ h', Ext h h' → Runs Try.prog 24 [.agg (F.cells rsl hsl)] h' (fun en h2 => en = .ret (.bool false) ∧ Ext h' h2)) :
  Runs Try.prog 9 [.agg (F.cells rsl hsl), s] h (fun en h' => en = .ret (.bool true) ∧ Ext h h') := by
 unfold FootV.cells at hf ⊢
 have e0 : Ext h h := Ext.refl _
 refine Runs.intro aFunc9 rfl rfl rfl rfl fun rest => ?_
 apply gS
 refine gR rfl ?_
 refine GoR.box rfl rfl rfl rfl rfl rfl fun h0 x0 f0 => ?_
 replace e0 := e0.trans x0
 refine gP ?_
 apply gE
 iterate 2 apply gS
 refine gR rfl ?_
 refine gO rfl rfl (ld26 rfl f0 rfl) rfl ?_
 refine GoR.call rfl rfl (aCF aFunc24 rfl) (hf _ e0) ?_ np
 rintro v1 h1 ⟨q, x1⟩
 cases q
 refine ⟨_, rfl, ?_⟩
 replace e0 := e0.trans x1
 refine gP ?_
 apply gE
 refine gC (b := true) rfl ?_
 apply gS
 refine gR rfl ?_
 refine GoR.call rfl rfl (aCF aFunc13 rfl) (awake_ok) ?_ np
 rintro v2 h2 ⟨q, x2⟩
 cases q
 refine ⟨_, rfl, ?_⟩
 replace e0 := e0.trans x2
 refine gP ?_
 apply gE
 exact gW Try.func9 rfl rfl ⟨rfl, e0⟩
theorem broken_none {F : FootV} (O : F.Ok) {rsl hsl s : AVal} {L : List Pl} {h : AH} (A : FootAt h F rsl hsl) (S : SliceOf h 3 s (L.map Pl.cells)) (hL : L.length = F.hs.length) (ho : ∀ p, p ∈ L → p.Ord F.rs.length) :
  Runs Try.prog 22 [.agg (F.cells rsl hsl), s] h (fun en h' => ∃ a b c e : Int, en = .ret (.tuple [.int .i64 a, .int .i64 b, .int .i64 c, .int .i64 e]) ∧ Ext h h' ∧ ((e = 4 ∧ F.bad zero8 0 L = none) ∨ (e = 0 ∧ F.bad zero8 0 L ≠ none))) := by
 have h1 := O.nr
 have h2 := O.nh
 refine (Broken_ok A (by omega) (by omega) (by omega) S).mono fun en h' ⟨q, x⟩ => ⟨_, _, _, _, q, x, ?_⟩
 have hF : F.Fit L := ⟨hL, fun p hp => ord_num (ho p hp)⟩
 unfold FootV.badR
 rw [if_pos O, if_pos hF]
 show _ ∨ _
 have e : stA L 0 = zero8 := rfl
 rw [e]
 cases F.bad zero8 0 L with
 | none => exact .inl ⟨rfl, rfl⟩
 | some x => exact .inr ⟨rfl, by simp⟩
theorem Plan_yes {F : FootV} {rsl hsl : AVal} {p : Pl} {h : AH} (A : FootAt h F rsl hsl) (hl : F.rs.length ≤ 40) (hp : p.Ord F.rs.length) :
  Runs Try.prog 31 [.agg (F.cells rsl hsl), .agg p.cells] h (fun en h' => en = .ret (.bool true) ∧ Ext h h') := by
 have := Plan_ok A hl (p := p)
 rw [decide_eq_true hp] at this
 exact this
theorem law9_ok {F : FootV} (O : F.Ok) {bs : List Int} (hbs : ∀ x, x ∈ bs → 0 ≤ x ∧ x < 65536) (hlen : bs.length < 9223372036854775808) {s rsl hsl : AVal} {h : AH} (A : FootAt h F rsl hsl) (hs : SliceOf h 1 s (u16s bs)) :
  Runs Try.prog 9 [.agg (F.cells rsl hsl), s] h (fun en h' => en = .ret (.bool true) ∧ Ext h h') := by
 have hnr := O.nr
 have hnh := O.nh
 have hl1 := A.rs.len
 have hl2 := A.hs.len
 have hl3 := hs.len
 unfold u16s at hl3
 rw [List.length_map] at hl1 hl2 hl3
 have hfi := fun h A => fine_ok (F := F) (h := h) (rsl := rsl) (hsl := hsl) A (by omega) (by omega)
 rw [(okB_iff F).2 O] at hfi
 obtain ⟨hTR, hTS, hTL, hTM⟩ := top_best O
 have hTi := top_in O
 have hTO : ∀ p, p ∈ F.top.plans → p.Ord F.rs.length := fun p hp => by
  obtain ⟨k, hk⟩ := List.mem_iff_getElem?.1 hp
  rcases right_mem _ _ _ hTR k p hk with rfl | q
  ·exact none_ord _
  ·exact whole_ord q.1
 have hTB := right_bad _ _ _ hTR
 have hB : ∀ h2, FootAt h2 F rsl hsl → Runs Try.prog 34 [.agg (F.cells rsl hsl)] h2 (fun en h' => ∃ l, en = .ret (.tuple [.int .i64 F.top.sods, l, .int .i64 0]) ∧ Ext h2 h' ∧ SliceOf h' 3 l (F.top.plans.map Pl.cells) ∧ Ext h' h' ∧ lenA l = some F.hs.length ∧ sameA l l = true) := fun h2 A2 => by
  refine (Best_ok A2 (by omega) (by omega)).mono fun en h' ⟨l, c1, c2, c3⟩ => ?_
  have hb : F.bestR = (F.top, 0) := by unfold FootV.bestR; exact if_pos O
  rw [hb] at c1 c3
  exact ⟨l, c1, c2, c3.sl, Ext.refl _, by have := c3.sl.len; rw [List.length_map, hTL] at this; exact this, c3.sl.same⟩
 have hK := fun h A => Clamped_ok (F := F) (h := h) (rsl := rsl) (hsl := hsl) A (by omega) (by omega)
 have hcr : F.clampR = (F.set true F.hs.length, F.set false F.hs.length, 0) := by unfold FootV.clampR; exact if_pos O
 rw [hcr] at hK
 dsimp only at hK
 have hbr : ∀ h2 l, FootAt h2 F rsl hsl → SliceOf h2 3 l (F.top.plans.map Pl.cells) → Runs Try.prog 22 [.agg (F.cells rsl hsl), l] h2 (fun en h' => ∃ a b c : Int, en = .ret (.tuple [.int .i64 a, .int .i64 b, .int .i64 c, .int .i64 4]) ∧ Ext h2 h') := fun h2 l A S =>
  (broken_none O A S hTL hTO).mono fun en h' ⟨a, b, c, e, q, x, z⟩ => by
   rcases z with ⟨rfl, _⟩ | ⟨_, z⟩
   ·exact ⟨a, b, c, q, x⟩
   ·exact absurd hTB z
 have hso := fun h l (e : Ext h h) A S => Sods_ok O (h := h) (g := h) (rsl := rsl) (hsl := hsl) (s := l) (L := F.top.plans) (Ext.refl _) A S hTL
 have htr := fun h A hs => truly26_ok O hbs hlen (h := h) (rsl := rsl) (hsl := hsl) (s := s) A hs
 rw [hTS] at hso
 unfold FootV.cells at hfi hB hK hbr hso htr ⊢
 have e0 : Ext h h := Ext.refl _
 refine Runs.intro aFunc9 rfl rfl rfl rfl fun rest => ?_
 apply gS
 refine gR rfl ?_
 refine GoR.box rfl rfl rfl rfl rfl rfl fun h0 x0 f0 => ?_
 have := e0.1
 replace e0 := e0.trans x0
 have := f0.1
 refine gP ?_
 apply gE
 iterate 2 apply gS
 refine gR rfl ?_
 refine gO rfl rfl (ld26 rfl f0 rfl) rfl ?_
 refine GoR.call rfl rfl (aCF aFunc24 rfl) (hfi _ (A.ext e0)) ?_ np
 rintro v1 h1 ⟨q, x1⟩
 cases q
 refine ⟨_, rfl, ?_⟩
 replace f0 := f0.ext x1
 replace e0 := e0.trans x1
 refine gP ?_
 apply gE
 refine gC (b := false) rfl ?_
 refine gD ?_
 apply gS
 refine gR rfl ?_
 refine gO rfl rfl (ld26 rfl f0 rfl) rfl ?_
 refine GoR.call rfl rfl (aCF aFunc34 rfl) (hB _ (A.ext e0)) ?_ (by rintro _ _ ⟨l, q, _, S, e1, hll, hls⟩; cases q)
 rintro v2 h2 ⟨l, q, x2, S, e1, hll, hls⟩
 cases q
 refine ⟨_, rfl, ?_⟩
 have := e0.1
 replace f0 := f0.ext x2
 replace e0 := e0.trans x2
 iterate 7 refine gP ?_
 apply gE
 apply gS
 refine gR rfl ?_
 refine gO rfl rfl (ld26 rfl f0 rfl) rfl ?_
 refine GoR.call rfl rfl (aCF aFunc20 rfl) (hK _ (A.ext e0)) ?_ np
 rintro v3 h3 ⟨q, x3⟩
 cases q
 refine ⟨_, rfl, ?_⟩
 replace f0 := f0.ext x3
 replace e1 := e1.trans x3
 replace e0 := e0.trans x3
 iterate 7 refine gP ?_
 apply gE
 iterate 2 apply gS
 refine gR rfl ?_
 refine gP ?_
 refine gO rfl rfl (kXF rfl rfl) rfl ?_
 iterate 2 refine gP ?_
 refine gO rfl rfl (kXF rfl rfl) rfl ?_
 iterate 3 refine gP ?_
 refine gO rfl rfl (aOp_lenSlice Try.underlying40 rfl hll) rfl ?_
 refine gO rfl rfl (fa26_4 rfl) rfl ?_
 refine gO rfl rfl (ld24 rfl f0 rfl) rfl ?_
 refine gO rfl rfl (aOp_lenSlice Try.underlying24 rfl hl2) rfl ?_
 refine gO rfl rfl (kXF rfl rfl) rfl ?_
 refine gP ?_
 apply gE
 refine gC (b := false) rfl ?_
 refine gD ?_
 iterate 2 apply gS
 refine gR rfl ?_
 refine gO rfl rfl (ld26 rfl f0 rfl) rfl ?_
 refine gP ?_
 refine GoR.call rfl rfl (aCF aFunc22 rfl) (hbr _ _ (A.ext e0) (S.ext e1)) ?_ (by rintro _ _ ⟨na, nb, nc, q, _⟩; cases q)
 rintro v4 h4 ⟨na, nb, nc, q, x4⟩
 cases q
 refine ⟨_, rfl, ?_⟩
 have := e1.1
 have := e0.1
 replace f0 := f0.ext x4
 replace e1 := e1.trans x4
 replace e0 := e0.trans x4
 iterate 9 refine gP ?_
 apply gE
 apply gS
 refine gR rfl ?_
 refine gP ?_
 refine gO rfl rfl (kXF rfl rfl) rfl ?_
 refine gP ?_
 refine gO rfl rfl (ld26 rfl f0 rfl) rfl ?_
 refine gP ?_
 refine GoR.call rfl rfl (aCF aFunc37 rfl) (hso _ _ (Ext.refl _) (A.ext e0) (S.ext e1)) ?_ np
 rintro v5 h5 ⟨q, x5⟩
 cases q
 refine ⟨_, rfl, ?_⟩
 replace f0 := f0.ext x5
 replace e1 := e1.trans x5
 replace e0 := e0.trans x5
 refine gP ?_
 refine gO rfl rfl (kXF rfl rfl) rfl ?_
 refine gP ?_
 apply gE
 refine gC (b := false) rfl ?_
 refine gD ?_
 apply gS
 refine gR rfl ?_
 refine gO rfl rfl (ld26 rfl f0 rfl) rfl ?_
 refine gP ?_
 refine GoR.call rfl rfl (aCF aFunc26 rfl) (htr _ (A.ext e0) (hs.ext e0)) ?_ (by rintro _ _ ⟨rs, fs, R, fl, q, _, tR1, tR2, tF1, tF2, tS1, tS2, hsc, hsr, hsf⟩; cases q)
 rintro v6 h6 ⟨rs, fs, R, fl, q, x6, tR1, tR2, tF1, tF2, tS1, tS2, hsc, hsr, hsf⟩
 cases q
 refine ⟨_, rfl, ?_⟩
 have := e1.1
 have := e0.1
 replace f0 := f0.ext x6
 replace e1 := e1.trans x6
 replace e0 := e0.trans x6
 refine GoR.alloc rfl rfl rfl zt51 rfl rfl fun h7 x7 f7 => ?_
 have := e1.1
 have := e0.1
 have := f0.1
 replace f0 := f0.ext x7
 replace e1 := e1.trans x7
 replace e0 := e0.trans x7
 have := f7.1
 refine GoR.store rfl rfl rfl rfl rfl rfl f7 rfl sz51 rfl hsc rfl fun h8 u8 => ?_
 replace f7 := u8.has f7
 replace f0 := f0.upd u8 (by omega)
 replace e1 := e1.upd u8 (by omega)
 replace e0 := e0.upd u8 (by omega)
 refine gP ?_
 apply gE
 apply gS
 refine gR rfl ?_
 refine gP ?_
 apply gE
 iterate 2 apply gS
 refine gR rfl ?_
 refine gP ?_
 refine gO rfl rfl (aOp_lenSlice Try.underlying40 rfl hll) rfl ?_
 refine gP ?_
 apply gE
 refine Go.block noJ_ok ?_
 have e6 : Ext h6 h8 := x7.upd u8 (Nat.le_refl _)
 have m3 := e0.1
 have m4 := e1.1
 have m5 := e6.1
 have t : Truth F R fl := ⟨tR1, tR2, tF1, tF2⟩
 have tri := t.rin O
 have m0 := f0.1
 have m1 := f7.1
 have m2 : h.next < h6.next := by omega
 obtain ⟨sv, hsv⟩ : ∃ sv, F.set true F.hs.length = sv := ⟨_, rfl⟩
 rw [hsv]
 have hlt1 := set_lt F true F.hs.length
 rw [hsv] at hlt1
 have h8' : 2 ^ F.hs.length ≤ 2 ^ 3 := Nat.pow_le_pow_right (by omega) hnh
 have hPl := fun (p : Pl) (hp : p.Ord F.rs.length) h A => Plan_yes (F := F) (rsl := rsl) (hsl := hsl) (p := p) (h := h) A (by omega) hp
 have hke := fun i x (hx : fl[i]? = some x) (hb : 0 ≤ x ∧ x ≤ 60) (p : Pl) (hp : p.Ord F.rs.length) h (A : FootAt h F rsl hsl) a b => keeps_ok O tR1 tri hx hb hp (h := h) A (rs := rs) (fs := fs) a b
 have hma := fun n (hn : n < 65536) h A => made_ok O hn (h := h) (rsl := rsl) (hsl := hsl) A
 unfold FootV.cells at hPl hke hma
 refine Go.loopKeep (fun a : Nat × AVal × List Pl => [(1, s), (2, .ptr h.next 0), (5, .int .i64 F.top.sods), (6, l), (8, .int .i64 (sv : Nat)), (15, .ptr h6.next 0), (16, .int .i64 (F.canS a.1)), (17, a.2.1), (78, l), (79, .int .i64 F.hs.length), (80, .int .i64 (a.1 : Nat))])
  (fun m a h' => m + a.1 = F.hs.length ∧ Ext h h' ∧ Ext h2 h' ∧ Ext h6 h' ∧ h8.next ≤ h'.next ∧ Has h' h.next (.cells .plain [rsl, .int .i64 F.men, .int .i64 F.l0, .int .i64 F.l1, .int .i64 F.l2, .int .i64 F.d0, .int .i64 F.d1, .int .i64 F.d2, hsl] 26) ∧ Has h' h6.next (.cells .plain [rs, fs] 51) ∧ a.2.2.length = a.1 ∧ (∀ p, p ∈ a.2.2 → p.Ord F.rs.length) ∧ Grow h' 27 3 h8.next a.2.1 a.1 (a.2.2.flatMap Pl.cells))
  (n := F.hs.length) (0, .nilslice, []) ⟨rfl, rfl, rfl, rfl, rfl, rfl, rfl, rfl, rfl, rfl, rfl, trivial⟩ ⟨rfl, e0, e1, e6, Nat.le_refl _, f0, f7, rfl, (fun p q => by cases q), Grow.nil _ _ _ _⟩ ?_
 clear e0 e1 e6 f0 f7
 rintro m ⟨k, sa, M⟩ h20 ⟨hm, e0, e1, e6, hle, f0, f1, hMl, hMo, G⟩ again
 dsimp only at hm hMl hMo G ⊢
 have n0 := f0.1
 have n1 := f1.1
 by_cases hk : k < F.hs.length
 ·obtain ⟨p, hp⟩ : ∃ p, F.top.plans[k]? = some p := ⟨F.top.plans[k]'(by omega), by simp⟩
  obtain ⟨x, hx⟩ : ∃ x, F.hs[k]? = some x := ⟨F.hs[k], by simp [hk]⟩
  have hxO := O.h x (List.mem_of_getElem? hx)
  obtain ⟨b1, o1, r1, r2⟩ := S.at (i := k) (l := Pl.cells p) (by rw [List.getElem?_map, hp]; rfl)
  obtain ⟨b2, o2, r3, r4⟩ := A.hs.at (i := k) (l := HF.cells x) (by rw [List.getElem?_map, hx]; rfl)
  rw [List.length_map, hTL] at r1
  rw [List.length_map] at r3
  unfold Pl.cells at r2
  unfold HF.cells at r4
  have hpo := hTO p (List.mem_of_getElem? hp)
  obtain ⟨w, hw1, hw2, hw3, hw4⟩ := t.first O hk
  have hTK : F.TK R w p := by
   rcases right_mem _ _ _ hTR k p hp with rfl | q
   ·exact none_keeps
   ·rw [Nat.zero_add] at q
    exact (t.keeps hw2 hw3).1 q.2
  have hPl2 := hPl p hpo
  have hke2 := hke k w hw1 hw4 p hpo
  rw [decide_eq_true hTK] at hke2
  unfold Pl.cells at hPl2 hke2
  have e5 : Ext h20 h20 := Ext.refl _
  apply gS
  refine gR rfl ?_
  refine gO rfl rfl (kLT rfl rfl) rfl ?_
  apply gE
  apply gS
  refine gC (b := true) rfl ?_
  refine gD ?_
  apply gS
  refine Go.block noJ_ok ?_
  apply gS
  refine gR rfl ?_
  refine gP ?_
  refine gO rfl rfl (aOp_indexAddr (i := k) Try.underlying40 sz27 rfl r1 rfl (Nat.ble_eq_true_of_le hk)) rfl ?_
  refine gO rfl rfl (aOp_loadE ag27 sz27 rfl (r2.ext e1)) rfl ?_
  refine GoR.alloc rfl rfl rfl zt27 rfl rfl fun h21 x21 f21 => ?_
  have := e0.1
  have := e1.1
  have := e6.1
  have := e5.1
  have := f0.1
  have := f1.1
  replace f0 := f0.ext x21
  replace f1 := f1.ext x21
  replace e0 := e0.trans x21
  replace e1 := e1.trans x21
  replace e6 := e6.trans x21
  replace e5 := e5.trans x21
  have := f21.1
  refine gP ?_
  refine GoR.store rfl rfl rfl rfl rfl rfl f21 rfl sz27 rfl rfl rfl fun h22 u22 => ?_
  replace f21 := u22.has f21
  replace f0 := f0.upd u22 (by omega)
  replace f1 := f1.upd u22 (by omega)
  replace e0 := e0.upd u22 (by omega)
  replace e1 := e1.upd u22 (by omega)
  replace e6 := e6.upd u22 (by omega)
  replace e5 := e5.upd u22 (by omega)
  apply gE
  iterate 2 apply gS
  refine gR rfl ?_
  refine gO rfl rfl (ld26 rfl f0 rfl) rfl ?_
  refine gO rfl rfl (ld27 rfl f21 rfl) rfl ?_
  refine GoR.call rfl rfl (aCF aFunc31 rfl) (hPl2 _ (A.ext e0)) ?_ np
  rintro v23 h23 ⟨q, x23⟩
  cases q
  refine ⟨_, rfl, ?_⟩
  replace f21 := f21.ext x23
  replace f0 := f0.ext x23
  replace f1 := f1.ext x23
  replace e0 := e0.trans x23
  replace e1 := e1.trans x23
  replace e6 := e6.trans x23
  replace e5 := e5.trans x23
  iterate 2 refine gP ?_
  refine gO rfl rfl (ld51 rfl f1 rfl) rfl ?_
  refine gO rfl rfl (ld26 rfl f0 rfl) rfl ?_
  refine gP ?_
  refine gO rfl rfl (ld27 rfl f21 rfl) rfl ?_
  refine GoR.call rfl rfl (aCF aFunc29 rfl) (hke2 _ (A.ext e0) (tS1.ext e6) (tS2.ext e6)) ?_ np
  rintro v24 h24 ⟨q, x24⟩
  cases q
  refine ⟨_, rfl, ?_⟩
  replace f0 := f0.ext x24
  replace f1 := f1.ext x24
  replace e0 := e0.trans x24
  replace e1 := e1.trans x24
  replace e6 := e6.trans x24
  replace e5 := e5.trans x24
  iterate 2 refine gP ?_
  apply gE
  refine gC (b := false) rfl ?_
  refine gD ?_
  have hcs : F.canS (k + 1) = F.canS k + (if (F.soon true k).isSome then x.sods else 0) := by
   show F.canS k + (if (F.soon true k).isSome then F.sodsAt k else 0) = _
   rw [show F.sodsAt k = x.sods by unfold FootV.sodsAt; rw [hx]]
  have hci := canS_in O k
  have hb1 := set_bit (F := F) (T := true) hk
  rw [hsv] at hb1
  refine Go.seq noJ_ok (Go.join (fun _ : Unit => [(1, s), (2, .ptr h.next 0), (5, .int .i64 F.top.sods), (6, l), (8, .int .i64 (sv : Nat)), (15, .ptr h6.next 0), (16, .int .i64 (F.canS (k + 1))), (17, sa), (18, .int .i64 (k : Nat)), (78, l), (79, .int .i64 F.hs.length), (80, .int .i64 (k : Nat))])
   (fun _ h' => Ext h h' ∧ Ext h2 h' ∧ Ext h6 h' ∧ Ext h20 h' ∧ Has h' h.next (.cells .plain [rsl, .int .i64 F.men, .int .i64 F.l0, .int .i64 F.l1, .int .i64 F.l2, .int .i64 F.d0, .int .i64 F.d1, .int .i64 F.d2, hsl] 26) ∧ Has h' h6.next (.cells .plain [rs, fs] 51)) ?_ ?_)
  ·intro k' done
   cases c1 : (F.soon true k).isSome with
   | true =>
    rw [c1, if_pos rfl] at hb1 hcs
    rw [hcs] at done
    apply gS
    refine gR rfl ?_
    iterate 2 refine gP ?_
    refine gO rfl rfl (aOp_shr (i := k) (r := ((sv / 2 ^ k : Nat) : Int)) rfl rfl (by omega) (bit_fdiv _ _)) rfl ?_
    refine gO rfl rfl (aOp_and1 rfl rfl (by rw [bit_mod, hb1])) rfl ?_
    refine gO rfl rfl (kET rfl rfl) rfl ?_
    apply gE
    refine gC (b := true) rfl ?_
    refine gR rfl ?_
    refine gP ?_
    refine gO rfl rfl (fa26_4 rfl) rfl ?_
    refine gO rfl rfl (ld24 rfl f0 rfl) rfl ?_
    refine gP ?_
    refine gO rfl rfl (aOp_indexAddr (i := k) Try.underlying24 sz72 rfl r3 rfl (Nat.ble_eq_true_of_le hk)) rfl ?_
    refine gO rfl rfl (fa72_1 rfl) rfl ?_
    refine gO rfl rfl (aOp_loadE1 (k := 2) ag3 rfl (r4.ext e0) rfl) rfl ?_
    refine gO rfl rfl (aA rfl rfl) rfl ?_
    refine gP ?_
    apply gE
    exact done () _ _ ⟨rfl, rfl, rfl, rfl, rfl, rfl, rfl, rfl, rfl, rfl, rfl, rfl, trivial⟩ ⟨e0, e1, e6, e5, f0, f1⟩
   | false =>
    rw [c1, if_neg (by simp)] at hb1 hcs
    rw [hcs, Int.add_zero] at done
    apply gS
    refine gR rfl ?_
    iterate 2 refine gP ?_
    refine gO rfl rfl (aOp_shr (i := k) (r := ((sv / 2 ^ k : Nat) : Int)) rfl rfl (by omega) (bit_fdiv _ _)) rfl ?_
    refine gO rfl rfl (aOp_and1 rfl rfl (by rw [bit_mod, hb1])) rfl ?_
    refine gO rfl rfl (kEF rfl rfl) rfl ?_
    apply gE
    refine gC (b := false) rfl ?_
    refine gD ?_
    exact done () _ _ ⟨rfl, rfl, rfl, rfl, rfl, rfl, rfl, rfl, rfl, rfl, rfl, rfl, trivial⟩ ⟨e0, e1, e6, e5, f0, f1⟩
  clear e0 e1 e6 e5 f0 f1
  rintro _ h30 ⟨e0, e1, e6, e5, f0, f1⟩
  apply gS
  refine gR rfl ?_
  refine gP ?_
  apply gE
  refine Go.seq noJ_ok (Go.join (fun n : Nat => [(1, s), (2, .ptr h.next 0), (5, .int .i64 F.top.sods), (6, l), (8, .int .i64 (sv : Nat)), (15, .ptr h6.next 0), (16, .int .i64 (F.canS (k + 1))), (17, sa), (18, .int .i64 (k : Nat)), (20, .int .i64 (n : Nat)), (78, l), (79, .int .i64 F.hs.length), (80, .int .i64 (k : Nat))])
   (fun n h' => n < 65536 ∧ Ext h h' ∧ Ext h2 h' ∧ Ext h6 h' ∧ Ext h20 h' ∧ Has h' h.next (.cells .plain [rsl, .int .i64 F.men, .int .i64 F.l0, .int .i64 F.l1, .int .i64 F.l2, .int .i64 F.d0, .int .i64 F.d1, .int .i64 F.d2, hsl] 26) ∧ Has h' h6.next (.cells .plain [rs, fs] 51)) ?_ ?_)
  ·intro k' done
   by_cases c1 : bs.length = 0
   ·have hz : decide ((0 : Int) < ((bs.length : Nat) : Int)) = false := decide_eq_false (by omega)
    apply gS
    refine gR rfl ?_
    refine gP ?_
    refine gO rfl rfl (aOp_lenSlice Try.underlying46 rfl hl3) rfl ?_
    refine gO rfl rfl (aOp_gtr rfl rfl hz) rfl ?_
    apply gE
    refine gC (b := false) rfl ?_
    refine gD ?_
    exact done 0 _ _ ⟨rfl, rfl, rfl, rfl, rfl, rfl, rfl, rfl, rfl, rfl, rfl, rfl, rfl, trivial⟩ ⟨by omega, e0, e1, e6, e5, f0, f1⟩
   ·have hz : decide ((0 : Int) < ((bs.length : Nat) : Int)) = true := decide_eq_true (by omega)
    obtain ⟨j, hj⟩ : ∃ j, k % bs.length = j := ⟨_, rfl⟩
    have hj2 : j < bs.length := by rw [← hj]; exact Nat.mod_lt _ (by omega)
    obtain ⟨y, hy⟩ : ∃ y, bs[j]? = some y := ⟨bs[j], by simp [hj2]⟩
    have hyb := hbs y (List.mem_of_getElem? hy)
    obtain ⟨b3, o3, r5, r6⟩ := hs.at (i := j) (l := [AVal.int .u16 y]) (by unfold u16s; rw [List.getElem?_map, hy]; rfl)
    unfold u16s at r5
    rw [List.length_map] at r5
    obtain ⟨ny, hny⟩ := Int.eq_ofNat_of_zero_le hyb.1
    subst hny
    apply gS
    refine gR rfl ?_
    refine gP ?_
    refine gO rfl rfl (aOp_lenSlice Try.underlying46 rfl hl3) rfl ?_
    refine gO rfl rfl (aOp_gtr rfl rfl hz) rfl ?_
    apply gE
    refine gC (b := true) rfl ?_
    refine gR rfl ?_
    iterate 3 refine gP ?_
    refine gO rfl rfl (aOp_lenSlice Try.underlying46 rfl hl3) rfl ?_
    refine gO rfl rfl (aOp_rem (r := ((j : Nat) : Int)) rfl rfl (by omega) (by rw [← hj]; rfl)) rfl ?_
    refine gO rfl rfl (aOp_indexAddr (i := j) Try.underlying46 sz45 rfl r5 rfl (Nat.ble_eq_true_of_le hj2)) rfl ?_
    refine gO rfl rfl (aOp_loadE1 (k := 0) ag45 rfl (r6.ext e0) rfl) rfl ?_
    refine gO rfl rfl (aOp_convU16 rfl Try.underlying45 Try.underlying3 hyb) rfl ?_
    refine gP ?_
    apply gE
    exact done ny _ _ ⟨rfl, rfl, rfl, rfl, rfl, rfl, rfl, rfl, rfl, rfl, rfl, rfl, rfl, trivial⟩ ⟨by omega, e0, e1, e6, e5, f0, f1⟩
  clear e0 e1 e6 e5 f0 f1
  rintro n h40 ⟨hn, e0, e1, e6, e5, f0, f1⟩
  have hma2 := hma n hn
  unfold Pl.cells at hma2
  refine gR rfl ?_
  refine gP ?_
  refine gO rfl rfl (ld26 rfl f0 rfl) rfl ?_
  refine gP ?_
  refine GoR.call rfl rfl (aCF aFunc25 rfl) (hma2 _ (A.ext e0)) ?_ (by rintro _ _ ⟨pn, q, _, hpn⟩; cases q)
  rintro v41 h41 ⟨pn, q, x41, hpn⟩
  cases q
  refine ⟨_, rfl, ?_⟩
  have := e0.1
  have := e1.1
  have := e6.1
  have := e5.1
  replace f0 := f0.ext x41
  replace f1 := f1.ext x41
  replace e0 := e0.trans x41
  replace e1 := e1.trans x41
  replace e6 := e6.trans x41
  replace e5 := e5.trans x41
  refine GoR.buildSl rfl rfl (ps := [(0, .agg [.int .i64 pn.a, .int .i64 pn.b, .int .i64 pn.c])]) (cs := [.int .i64 pn.a, .int .i64 pn.b, .int .i64 pn.c]) Try.underlying40 rfl sz27 zt27 rfl rfl rfl rfl fun h42 x42 f42 => ?_
  have := e0.1
  have := e1.1
  have := e6.1
  have := e5.1
  have := f0.1
  have := f1.1
  replace f0 := f0.ext x42
  replace f1 := f1.ext x42
  replace e0 := e0.trans x42
  replace e1 := e1.trans x42
  replace e6 := e6.trans x42
  replace e5 := e5.trans x42
  have := f42.1
  have G' := G.ext e5
  refine GoR.append1F (lo := h8.next) (s := sa) rfl rfl rfl Try.underlying40 Try.underlying40 sz27 by27 zt27 rfl rfl rfl rfl f42 rfl rfl G' (by omega) rfl rfl fun s6 h59 y59 g59 => ?_
  have z0 : Ext h h59 := y59.low e0 (fun b q => by have := (grow_own G' q).1; omega)
  have z1 : Ext h2 h59 := y59.low e1 (fun b q => by have := (grow_own G' q).1; omega)
  have z6 : Ext h6 h59 := y59.low e6 (fun b q => by have := (grow_own G' q).1; omega)
  have z2 := f0.extF y59 (fun q => by have := (grow_own G' q).1; omega)
  have z3 := f1.extF y59 (fun q => by have := (grow_own G' q).1; omega)
  have m6 := e5.1
  have m7 := y59.1
  have m8 := x42.1
  have g61 := g59.low (lo' := h8.next) (by omega)
  clear e0 e1 e6 e5 f0 f1 f42
  have e0 := z0
  have again2 := again (m - 1) (k + 1, s6, M ++ [pn])
  dsimp only at again2
  refine gP ?_
  apply gE
  refine Go.inBlock noJ_ok ?_
  refine gR rfl ?_
  refine gO rfl rfl (aA rfl rfl) rfl ?_
  refine gP ?_
  apply gE
  refine again2 _ _ (by omega) ⟨rfl, rfl, rfl, rfl, rfl, rfl, rfl, rfl, rfl, rfl, rfl, trivial⟩ ⟨by omega, z0, z1, z6, by omega, z2, z3, by rw [List.length_append, hMl]; rfl, fun p hp => ?_, ?_⟩
  ·rcases List.mem_append.1 hp with q | q
   ·exact hMo p q
   ·rw [show p = pn by simpa using q]
    exact hpn
  ·rw [List.flatMap_append]
   exact g61
 ·have hkn : k = F.hs.length := by omega
  subst hkn
  clear again
  have hle2 : F.top.sods ≤ F.canS F.hs.length := by
   have := sods_can O _ _ _ hTR
   rw [hTS, hTL, Nat.zero_add] at this
   have e : F.canS 0 = 0 := rfl
   omega
  have SM : SliceOf h20 3 sa (M.map Pl.cells) := Grow.sliceOf (L := M.map Pl.cells) (cs := M.flatMap Pl.cells) (by rw [List.length_map, hMl]; exact G) (pls_len3 M)
  have hbM := fun h (e : Ext h h) A S => broken_none O (h := h) (rsl := rsl) (hsl := hsl) (s := sa) (L := M) A S hMl hMo
  have hsM := fun h (e : Ext h h) A S => Sods_ok O (h := h) (g := h) (rsl := rsl) (hsl := hsl) (s := sa) (L := M) (Ext.refl _) A S hMl
  have hlM := SM.len
  rw [List.length_map, hMl] at hlM
  have e20 : Ext h20 h20 := Ext.refl _
  unfold FootV.cells at hbM hsM
  apply gS
  refine gR rfl ?_
  refine gO rfl rfl (kLF rfl rfl) rfl ?_
  apply gE
  apply gS
  refine gC (b := false) rfl ?_
  refine gD ?_
  iterate 2 apply gS
  refine gR rfl ?_
  iterate 2 refine gP ?_
  refine gO rfl rfl (kGF rfl rfl) rfl ?_
  apply gE
  refine gC (b := false) rfl ?_
  refine gD ?_
  iterate 2 apply gS
  refine gR rfl ?_
  refine gO rfl rfl (ld26 rfl f0 rfl) rfl ?_
  refine gP ?_
  refine GoR.call rfl rfl (aCF aFunc22 rfl) (hbM _ (Ext.refl _) (A.ext e0) (SM.ext e20)) ?_ (by rintro _ _ ⟨na, nb, nc, ne, q, _, hbe⟩; cases q)
  rintro v21 h21 ⟨na, nb, nc, ne, q, x21, hbe⟩
  cases q
  refine ⟨_, rfl, ?_⟩
  replace f0 := f0.ext x21
  replace e0 := e0.trans x21
  replace e1 := e1.trans x21
  replace e20 := e20.trans x21
  iterate 9 refine gP ?_
  apply gE
  rcases hbe with ⟨rfl, hbn⟩ | ⟨rfl, _⟩
  ·have hRM := bad_right O M zero8 zero8 0 rfl rfl (fun d => Int.le_refl _) hMo hbn
   have hcmp := hTM (M.map red) (by rw [List.length_map, hMl]) hRM
   rw [red_sods] at hcmp
   by_cases ceq : F.sodsV 0 M = F.top.sods
   ·have hPL := plsLe_red _ _ hMo (hcmp.2 ceq)
    rw [ceq] at hsM
    apply gS
    refine gR rfl ?_
    refine gP ?_
    refine gO rfl rfl (kXF rfl rfl) rfl ?_
    apply gE
    refine gC (b := false) rfl ?_
    refine gD ?_
    apply gS
    refine gR rfl ?_
    refine gO rfl rfl (ld26 rfl f0 rfl) rfl ?_
    refine gP ?_
    refine GoR.call rfl rfl (aCF aFunc37 rfl) (hsM _ (Ext.refl _) (A.ext e0) (SM.ext e20)) ?_ np
    rintro v22 h22 ⟨q, x22⟩
    cases q
    refine ⟨_, rfl, ?_⟩
    replace e0 := e0.trans x22
    replace e1 := e1.trans x22
    replace e20 := e20.trans x22
    refine gP ?_
    apply gE
    iterate 2 apply gS
    refine gR rfl ?_
    iterate 2 refine gP ?_
    refine gO rfl rfl (kXF rfl rfl) rfl ?_
    apply gE
    refine gC (b := false) rfl ?_
    refine gD ?_
    iterate 2 apply gS
    refine gR rfl ?_
    refine gP ?_
    refine gO rfl rfl (aOp_lenSlice Try.underlying40 rfl hlM) rfl ?_
    refine gP ?_
    apply gE
    refine Go.block noJ_ok ?_
    refine Go.loopKeep (fun k : Nat => [(6, l), (17, sa), (155, .int .i64 F.hs.length), (156, .int .i64 (k : Nat))])
     (fun m k h' => m + k = F.hs.length ∧ Ext h h' ∧ Ext h2 h' ∧ Ext h20 h' ∧ PlsLe (F.top.plans.drop k) (M.drop k))
     (n := F.hs.length) 0 ⟨rfl, rfl, rfl, rfl, trivial⟩ ⟨rfl, e0, e1, e20, hPL⟩ ?_
    clear e0 e1 e20 e6 f0 f1 hPL hm
    rintro m k h50 ⟨hm, e0, e1, e20, hPL⟩ again
    by_cases hk : k < F.hs.length
    ·obtain ⟨p, hp⟩ : ∃ p, F.top.plans[k]? = some p := ⟨F.top.plans[k]'(by omega), by simp⟩
     obtain ⟨pm, hpm⟩ : ∃ p, M[k]? = some p := ⟨M[k]'(by omega), by simp⟩
     obtain ⟨b1, o1, r1, r2⟩ := S.at (i := k) (l := Pl.cells p) (by rw [List.getElem?_map, hp]; rfl)
     obtain ⟨b2, o2, r3, r4⟩ := SM.at (i := k) (l := Pl.cells pm) (by rw [List.getElem?_map, hpm]; rfl)
     rw [List.length_map, hTL] at r1
     rw [List.length_map, hMl] at r3
     unfold Pl.cells at r2 r4
     have hd1 : F.top.plans.drop k = p :: F.top.plans.drop (k + 1) := by
      rw [List.drop_eq_getElem_cons (show k < F.top.plans.length by omega)]
      congr 1
      rw [List.getElem?_eq_getElem (show k < F.top.plans.length by omega)] at hp
      exact Option.some.inj hp
     have hd2 : M.drop k = pm :: M.drop (k + 1) := by
      rw [List.drop_eq_getElem_cons (show k < M.length by omega)]
      congr 1
      rw [List.getElem?_eq_getElem (show k < M.length by omega)] at hpm
      exact Option.some.inj hpm
     rw [hd1, hd2] at hPL
     rcases (hPL : p.lt pm ∨ (p = pm ∧ PlsLe (F.top.plans.drop (k + 1)) (M.drop (k + 1)))) with hlt | ⟨rfl, hnx⟩
     ·unfold Pl.lt at hlt
      apply gS
      refine gR rfl ?_
      refine gO rfl rfl (kLT rfl rfl) rfl ?_
      apply gE
      apply gS
      refine gC (b := true) rfl ?_
      refine gD ?_
      apply gS
      refine Go.block noJ_ok ?_
      apply gS
      refine gR rfl ?_
      iterate 2 refine gP ?_
      apply gE
      apply gS
      refine gR rfl ?_
      refine gP ?_
      apply gE
      refine Go.block noJ_ok ?_
      refine Go.loop noJ_ok ?_
      apply gS
      refine gR rfl ?_
      refine gO rfl rfl (kLT rfl rfl) rfl ?_
      apply gE
      apply gS
      refine gC (b := true) rfl ?_
      refine gD ?_
      apply gS
      refine Go.block noJ_ok ?_
      apply gS
      refine gR rfl ?_
      iterate 2 refine gP ?_
      apply gE
      apply gS
      refine Go.drawnE plan9_0 ?_
      iterate 3 refine gQ rfl rfl rfl rfl ?_
      refine gQ rfl rfl (aOp_indexAddr (i := k) Try.underlying40 sz27 rfl r3 rfl (Nat.ble_eq_true_of_le hk)) rfl ?_
      refine gQ rfl rfl (aOp_indexAddrArr (i := 0) Try.underlying27 sz3 rfl rfl rfl) rfl ?_
      refine gQ rfl rfl (aOp_loadE1 (k := 0) ag3 rfl (r4.ext e20) rfl) rfl ?_
      iterate 3 refine gQ rfl rfl rfl rfl ?_
      refine gQ rfl rfl (aOp_indexAddr (i := k) Try.underlying40 sz27 rfl r1 rfl (Nat.ble_eq_true_of_le hk)) rfl ?_
      refine gQ rfl rfl (aOp_indexAddrArr (i := 0) Try.underlying27 sz3 rfl rfl rfl) rfl ?_
      refine gQ rfl rfl (aOp_loadE1 (k := 0) ag3 rfl (r2.ext e1) rfl) rfl ?_
      by_cases hs0 : (pm.a : Int) = p.a
      ·refine gQ rfl rfl (kXF rfl rfl) rfl ?_
       refine GoE.end rfl ?_
       refine gC (b := false) rfl ?_
       refine gD ?_
       refine Go.inBlock noJ_ok ?_
       refine gR rfl ?_
       refine gO rfl rfl (aA rfl rfl) rfl ?_
       refine gP ?_
       apply gE
       refine Go.inLoop noJ_ok ?_
       apply gS
       refine gR rfl ?_
       refine gO rfl rfl (kLT rfl rfl) rfl ?_
       apply gE
       apply gS
       refine gC (b := true) rfl ?_
       refine gD ?_
       apply gS
       refine Go.block noJ_ok ?_
       apply gS
       refine gR rfl ?_
       iterate 2 refine gP ?_
       apply gE
       apply gS
       refine Go.drawnE plan9_0 ?_
       iterate 3 refine gQ rfl rfl rfl rfl ?_
       refine gQ rfl rfl (aOp_indexAddr (i := k) Try.underlying40 sz27 rfl r3 rfl (Nat.ble_eq_true_of_le hk)) rfl ?_
       refine gQ rfl rfl (aOp_indexAddrArr (i := 1) Try.underlying27 sz3 rfl rfl rfl) rfl ?_
       refine gQ rfl rfl (aOp_loadE1 (k := 1) ag3 rfl (r4.ext e20) rfl) rfl ?_
       iterate 3 refine gQ rfl rfl rfl rfl ?_
       refine gQ rfl rfl (aOp_indexAddr (i := k) Try.underlying40 sz27 rfl r1 rfl (Nat.ble_eq_true_of_le hk)) rfl ?_
       refine gQ rfl rfl (aOp_indexAddrArr (i := 1) Try.underlying27 sz3 rfl rfl rfl) rfl ?_
       refine gQ rfl rfl (aOp_loadE1 (k := 1) ag3 rfl (r2.ext e1) rfl) rfl ?_
       by_cases hs1 : (pm.b : Int) = p.b
       ·refine gQ rfl rfl (kXF rfl rfl) rfl ?_
        refine GoE.end rfl ?_
        refine gC (b := false) rfl ?_
        refine gD ?_
        refine Go.inBlock noJ_ok ?_
        refine gR rfl ?_
        refine gO rfl rfl (aA rfl rfl) rfl ?_
        refine gP ?_
        apply gE
        refine Go.inLoop noJ_ok ?_
        apply gS
        refine gR rfl ?_
        refine gO rfl rfl (kLT rfl rfl) rfl ?_
        apply gE
        apply gS
        refine gC (b := true) rfl ?_
        refine gD ?_
        apply gS
        refine Go.block noJ_ok ?_
        apply gS
        refine gR rfl ?_
        iterate 2 refine gP ?_
        apply gE
        apply gS
        refine Go.drawnE plan9_0 ?_
        iterate 3 refine gQ rfl rfl rfl rfl ?_
        refine gQ rfl rfl (aOp_indexAddr (i := k) Try.underlying40 sz27 rfl r3 rfl (Nat.ble_eq_true_of_le hk)) rfl ?_
        refine gQ rfl rfl (aOp_indexAddrArr (i := 2) Try.underlying27 sz3 rfl rfl rfl) rfl ?_
        refine gQ rfl rfl (aOp_loadE1 (k := 2) ag3 rfl (r4.ext e20) rfl) rfl ?_
        iterate 3 refine gQ rfl rfl rfl rfl ?_
        refine gQ rfl rfl (aOp_indexAddr (i := k) Try.underlying40 sz27 rfl r1 rfl (Nat.ble_eq_true_of_le hk)) rfl ?_
        refine gQ rfl rfl (aOp_indexAddrArr (i := 2) Try.underlying27 sz3 rfl rfl rfl) rfl ?_
        refine gQ rfl rfl (aOp_loadE1 (k := 2) ag3 rfl (r2.ext e1) rfl) rfl ?_
        refine gQ rfl rfl (kXT rfl rfl) rfl ?_
        refine GoE.end rfl ?_
        refine gC (b := true) rfl ?_
        apply gS
        refine Go.drawnE plan9_1 ?_
        iterate 3 refine gQ rfl rfl rfl rfl ?_
        refine gQ rfl rfl (aOp_indexAddr (i := k) Try.underlying40 sz27 rfl r3 rfl (Nat.ble_eq_true_of_le hk)) rfl ?_
        refine gQ rfl rfl (aOp_indexAddrArr (i := 2) Try.underlying27 sz3 rfl rfl rfl) rfl ?_
        refine gQ rfl rfl (aOp_loadE1 (k := 2) ag3 rfl (r4.ext e20) rfl) rfl ?_
        iterate 3 refine gQ rfl rfl rfl rfl ?_
        refine gQ rfl rfl (aOp_indexAddr (i := k) Try.underlying40 sz27 rfl r1 rfl (Nat.ble_eq_true_of_le hk)) rfl ?_
        refine gQ rfl rfl (aOp_indexAddrArr (i := 2) Try.underlying27 sz3 rfl rfl rfl) rfl ?_
        refine gQ rfl rfl (aOp_loadE1 (k := 2) ag3 rfl (r2.ext e1) rfl) rfl ?_
        refine gQ rfl rfl (kGT rfl rfl) rfl ?_
        refine gQ rfl rfl rfl rfl ?_
        refine GoE.call rfl rfl (aCF aFunc13 rfl) (awake_ok) (dD 16383 13 (dD 16383 12 (dD 16383 11 (dD 16383 10 (dD 16383 9 (dD 16383 8 (dD 16383 7 (dD 16383 6 (dD 16383 5 (dD 16383 4 (dD 16383 3 (dD 16383 2 (dD 16383 1 (dD 16383 0 rfl)))))))))))))) ?_ np
        rintro v51 h51 ⟨q, x51⟩
        cases q
        replace e0 := e0.trans x51
        refine ⟨recheck_nil, _, rfl, ?_⟩
        iterate 2 refine gQ rfl rfl rfl rfl ?_
        refine GoE.end rfl ?_
        exact gW Try.func9 rfl rfl ⟨rfl, e0⟩
       ·refine gQ rfl rfl (kXT rfl rfl) rfl ?_
        refine GoE.end rfl ?_
        refine gC (b := true) rfl ?_
        apply gS
        refine Go.drawnE plan9_1 ?_
        iterate 3 refine gQ rfl rfl rfl rfl ?_
        refine gQ rfl rfl (aOp_indexAddr (i := k) Try.underlying40 sz27 rfl r3 rfl (Nat.ble_eq_true_of_le hk)) rfl ?_
        refine gQ rfl rfl (aOp_indexAddrArr (i := 1) Try.underlying27 sz3 rfl rfl rfl) rfl ?_
        refine gQ rfl rfl (aOp_loadE1 (k := 1) ag3 rfl (r4.ext e20) rfl) rfl ?_
        iterate 3 refine gQ rfl rfl rfl rfl ?_
        refine gQ rfl rfl (aOp_indexAddr (i := k) Try.underlying40 sz27 rfl r1 rfl (Nat.ble_eq_true_of_le hk)) rfl ?_
        refine gQ rfl rfl (aOp_indexAddrArr (i := 1) Try.underlying27 sz3 rfl rfl rfl) rfl ?_
        refine gQ rfl rfl (aOp_loadE1 (k := 1) ag3 rfl (r2.ext e1) rfl) rfl ?_
        refine gQ rfl rfl (kGT rfl rfl) rfl ?_
        refine gQ rfl rfl rfl rfl ?_
        refine GoE.call rfl rfl (aCF aFunc13 rfl) (awake_ok) (dD 16383 13 (dD 16383 12 (dD 16383 11 (dD 16383 10 (dD 16383 9 (dD 16383 8 (dD 16383 7 (dD 16383 6 (dD 16383 5 (dD 16383 4 (dD 16383 3 (dD 16383 2 (dD 16383 1 (dD 16383 0 rfl)))))))))))))) ?_ np
        rintro v51 h51 ⟨q, x51⟩
        cases q
        replace e0 := e0.trans x51
        refine ⟨recheck_nil, _, rfl, ?_⟩
        iterate 2 refine gQ rfl rfl rfl rfl ?_
        refine GoE.end rfl ?_
        exact gW Try.func9 rfl rfl ⟨rfl, e0⟩
      ·refine gQ rfl rfl (kXT rfl rfl) rfl ?_
       refine GoE.end rfl ?_
       refine gC (b := true) rfl ?_
       apply gS
       refine Go.drawnE plan9_1 ?_
       iterate 3 refine gQ rfl rfl rfl rfl ?_
       refine gQ rfl rfl (aOp_indexAddr (i := k) Try.underlying40 sz27 rfl r3 rfl (Nat.ble_eq_true_of_le hk)) rfl ?_
       refine gQ rfl rfl (aOp_indexAddrArr (i := 0) Try.underlying27 sz3 rfl rfl rfl) rfl ?_
       refine gQ rfl rfl (aOp_loadE1 (k := 0) ag3 rfl (r4.ext e20) rfl) rfl ?_
       iterate 3 refine gQ rfl rfl rfl rfl ?_
       refine gQ rfl rfl (aOp_indexAddr (i := k) Try.underlying40 sz27 rfl r1 rfl (Nat.ble_eq_true_of_le hk)) rfl ?_
       refine gQ rfl rfl (aOp_indexAddrArr (i := 0) Try.underlying27 sz3 rfl rfl rfl) rfl ?_
       refine gQ rfl rfl (aOp_loadE1 (k := 0) ag3 rfl (r2.ext e1) rfl) rfl ?_
       refine gQ rfl rfl (kGT rfl rfl) rfl ?_
       refine gQ rfl rfl rfl rfl ?_
       refine GoE.call rfl rfl (aCF aFunc13 rfl) (awake_ok) (dD 16383 13 (dD 16383 12 (dD 16383 11 (dD 16383 10 (dD 16383 9 (dD 16383 8 (dD 16383 7 (dD 16383 6 (dD 16383 5 (dD 16383 4 (dD 16383 3 (dD 16383 2 (dD 16383 1 (dD 16383 0 rfl)))))))))))))) ?_ np
       rintro v51 h51 ⟨q, x51⟩
       cases q
       replace e0 := e0.trans x51
       refine ⟨recheck_nil, _, rfl, ?_⟩
       iterate 2 refine gQ rfl rfl rfl rfl ?_
       refine GoE.end rfl ?_
       exact gW Try.func9 rfl rfl ⟨rfl, e0⟩
     ·apply gS
      refine gR rfl ?_
      refine gO rfl rfl (kLT rfl rfl) rfl ?_
      apply gE
      apply gS
      refine gC (b := true) rfl ?_
      refine gD ?_
      apply gS
      refine Go.block noJ_ok ?_
      apply gS
      refine gR rfl ?_
      iterate 2 refine gP ?_
      apply gE
      apply gS
      refine gR rfl ?_
      refine gP ?_
      apply gE
      refine Go.block noJ_ok ?_
      refine Go.loop noJ_ok ?_
      apply gS
      refine gR rfl ?_
      refine gO rfl rfl (kLT rfl rfl) rfl ?_
      apply gE
      apply gS
      refine gC (b := true) rfl ?_
      refine gD ?_
      apply gS
      refine Go.block noJ_ok ?_
      apply gS
      refine gR rfl ?_
      iterate 2 refine gP ?_
      apply gE
      apply gS
      refine Go.drawnE plan9_0 ?_
      iterate 3 refine gQ rfl rfl rfl rfl ?_
      refine gQ rfl rfl (aOp_indexAddr (i := k) Try.underlying40 sz27 rfl r3 rfl (Nat.ble_eq_true_of_le hk)) rfl ?_
      refine gQ rfl rfl (aOp_indexAddrArr (i := 0) Try.underlying27 sz3 rfl rfl rfl) rfl ?_
      refine gQ rfl rfl (aOp_loadE1 (k := 0) ag3 rfl (r4.ext e20) rfl) rfl ?_
      iterate 3 refine gQ rfl rfl rfl rfl ?_
      refine gQ rfl rfl (aOp_indexAddr (i := k) Try.underlying40 sz27 rfl r1 rfl (Nat.ble_eq_true_of_le hk)) rfl ?_
      refine gQ rfl rfl (aOp_indexAddrArr (i := 0) Try.underlying27 sz3 rfl rfl rfl) rfl ?_
      refine gQ rfl rfl (aOp_loadE1 (k := 0) ag3 rfl (r2.ext e1) rfl) rfl ?_
      refine gQ rfl rfl (kXF rfl rfl) rfl ?_
      refine GoE.end rfl ?_
      refine gC (b := false) rfl ?_
      refine gD ?_
      refine Go.inBlock noJ_ok ?_
      refine gR rfl ?_
      refine gO rfl rfl (aA rfl rfl) rfl ?_
      refine gP ?_
      apply gE
      refine Go.inLoop noJ_ok ?_
      apply gS
      refine gR rfl ?_
      refine gO rfl rfl (kLT rfl rfl) rfl ?_
      apply gE
      apply gS
      refine gC (b := true) rfl ?_
      refine gD ?_
      apply gS
      refine Go.block noJ_ok ?_
      apply gS
      refine gR rfl ?_
      iterate 2 refine gP ?_
      apply gE
      apply gS
      refine Go.drawnE plan9_0 ?_
      iterate 3 refine gQ rfl rfl rfl rfl ?_
      refine gQ rfl rfl (aOp_indexAddr (i := k) Try.underlying40 sz27 rfl r3 rfl (Nat.ble_eq_true_of_le hk)) rfl ?_
      refine gQ rfl rfl (aOp_indexAddrArr (i := 1) Try.underlying27 sz3 rfl rfl rfl) rfl ?_
      refine gQ rfl rfl (aOp_loadE1 (k := 1) ag3 rfl (r4.ext e20) rfl) rfl ?_
      iterate 3 refine gQ rfl rfl rfl rfl ?_
      refine gQ rfl rfl (aOp_indexAddr (i := k) Try.underlying40 sz27 rfl r1 rfl (Nat.ble_eq_true_of_le hk)) rfl ?_
      refine gQ rfl rfl (aOp_indexAddrArr (i := 1) Try.underlying27 sz3 rfl rfl rfl) rfl ?_
      refine gQ rfl rfl (aOp_loadE1 (k := 1) ag3 rfl (r2.ext e1) rfl) rfl ?_
      refine gQ rfl rfl (kXF rfl rfl) rfl ?_
      refine GoE.end rfl ?_
      refine gC (b := false) rfl ?_
      refine gD ?_
      refine Go.inBlock noJ_ok ?_
      refine gR rfl ?_
      refine gO rfl rfl (aA rfl rfl) rfl ?_
      refine gP ?_
      apply gE
      refine Go.inLoop noJ_ok ?_
      apply gS
      refine gR rfl ?_
      refine gO rfl rfl (kLT rfl rfl) rfl ?_
      apply gE
      apply gS
      refine gC (b := true) rfl ?_
      refine gD ?_
      apply gS
      refine Go.block noJ_ok ?_
      apply gS
      refine gR rfl ?_
      iterate 2 refine gP ?_
      apply gE
      apply gS
      refine Go.drawnE plan9_0 ?_
      iterate 3 refine gQ rfl rfl rfl rfl ?_
      refine gQ rfl rfl (aOp_indexAddr (i := k) Try.underlying40 sz27 rfl r3 rfl (Nat.ble_eq_true_of_le hk)) rfl ?_
      refine gQ rfl rfl (aOp_indexAddrArr (i := 2) Try.underlying27 sz3 rfl rfl rfl) rfl ?_
      refine gQ rfl rfl (aOp_loadE1 (k := 2) ag3 rfl (r4.ext e20) rfl) rfl ?_
      iterate 3 refine gQ rfl rfl rfl rfl ?_
      refine gQ rfl rfl (aOp_indexAddr (i := k) Try.underlying40 sz27 rfl r1 rfl (Nat.ble_eq_true_of_le hk)) rfl ?_
      refine gQ rfl rfl (aOp_indexAddrArr (i := 2) Try.underlying27 sz3 rfl rfl rfl) rfl ?_
      refine gQ rfl rfl (aOp_loadE1 (k := 2) ag3 rfl (r2.ext e1) rfl) rfl ?_
      refine gQ rfl rfl (kXF rfl rfl) rfl ?_
      refine GoE.end rfl ?_
      refine gC (b := false) rfl ?_
      refine gD ?_
      refine Go.inBlock noJ_ok ?_
      refine gR rfl ?_
      refine gO rfl rfl (aA rfl rfl) rfl ?_
      refine gP ?_
      apply gE
      refine Go.inLoop noJ_ok ?_
      apply gS
      refine gR rfl ?_
      refine gO rfl rfl (kLF rfl rfl) rfl ?_
      apply gE
      apply gS
      refine gC (b := false) rfl ?_
      refine gD ?_
      refine Go.inBlock noJ_ok ?_
      refine gR rfl ?_
      refine gO rfl rfl (aA rfl rfl) rfl ?_
      refine gP ?_
      apply gE
      exact again (m - 1) (k + 1) _ _ (by omega) ⟨rfl, rfl, rfl, rfl, trivial⟩ ⟨by omega, e0, e1, e20, hnx⟩
    ·apply gS
     refine gR rfl ?_
     refine gO rfl rfl (kLF rfl rfl) rfl ?_
     apply gE
     apply gS
     refine gC (b := false) rfl ?_
     refine gD ?_
     apply gS
     refine gR rfl ?_
     refine GoR.call rfl rfl (aCF aFunc13 rfl) (awake_ok) ?_ np
     rintro v51 h51 ⟨q, x51⟩
     cases q
     refine ⟨_, rfl, ?_⟩
     replace e0 := e0.trans x51
     refine gP ?_
     apply gE
     exact gW Try.func9 rfl rfl ⟨rfl, e0⟩
   ·have hlt := hcmp.1
    obtain ⟨v, hv⟩ : ∃ v, F.sodsV 0 M = v := ⟨_, rfl⟩
    rw [hv] at hsM hlt ceq
    apply gS
    refine gR rfl ?_
    refine gP ?_
    refine gO rfl rfl (kXF rfl rfl) rfl ?_
    apply gE
    refine gC (b := false) rfl ?_
    refine gD ?_
    apply gS
    refine gR rfl ?_
    refine gO rfl rfl (ld26 rfl f0 rfl) rfl ?_
    refine gP ?_
    refine GoR.call rfl rfl (aCF aFunc37 rfl) (hsM _ (Ext.refl _) (A.ext e0) (SM.ext e20)) ?_ np
    rintro v22 h22 ⟨q, x22⟩
    cases q
    refine ⟨_, rfl, ?_⟩
    replace e0 := e0.trans x22
    refine gP ?_
    apply gE
    iterate 2 apply gS
    refine gR rfl ?_
    iterate 2 refine gP ?_
    refine gO rfl rfl (kXT rfl rfl) rfl ?_
    apply gE
    refine gC (b := true) rfl ?_
    apply gS
    refine gR rfl ?_
    iterate 2 refine gP ?_
    refine gO rfl rfl (kLT rfl rfl) rfl ?_
    refine gP ?_
    refine GoR.call rfl rfl (aCF aFunc13 rfl) (awake_ok) ?_ np
    rintro v23 h23 ⟨q, x23⟩
    cases q
    refine ⟨_, rfl, ?_⟩
    replace e0 := e0.trans x23
    iterate 2 refine gP ?_
    apply gE
    exact gW Try.func9 rfl rfl ⟨rfl, e0⟩
  ·apply gS
   refine gR rfl ?_
   refine gP ?_
   refine gO rfl rfl (kXT rfl rfl) rfl ?_
   apply gE
   refine gC (b := true) rfl ?_
   apply gS
   refine gR rfl ?_
   refine GoR.call rfl rfl (aCF aFunc13 rfl) (awake_ok) ?_ np
   rintro v22 h22 ⟨q, x22⟩
   cases q
   refine ⟨_, rfl, ?_⟩
   replace e0 := e0.trans x22
   refine gP ?_
   apply gE
   exact gW Try.func9 rfl rfl ⟨rfl, e0⟩
theorem law9 {F : FootV} {rsl hsl s : AVal} {h : AH} (A : FootAt h F rsl hsl) {bs : List Int} (hbs : ∀ x, x ∈ bs → 0 ≤ x ∧ x < 65536) (hlen : bs.length < 9223372036854775808) (hs : SliceOf h 1 s (u16s bs)) :
  Runs Try.prog 9 [.agg (F.cells rsl hsl), s] h (fun en h' => en = .ret (.bool true) ∧ Ext h h') := by
 by_cases O : F.Ok
 ·exact law9_ok O hbs hlen A hs
 ·exact law9_no (not_fine O A)
end Go.Proofs.Ytmimdgjehnhnoaa

namespace Go.AbsE
open Go Go.RowKit
section
variable {P : Program}
theorem VRs.ints {e : Env} : ∀ l : List Int, VRs e (l.map fun x => AVal.int .i64 x) (l.map fun x => Value.int .i64 x) := by
 intro l
 induction l with
 | nil => exact .nil
 | cons a l ih => exact .cons (.int _ _) ih
theorem HR.openWin {e : Env} {h : AH} {W : World} (r : HR P (Base.all W) e h W) {B lo : Nat} {PRE CS junk : List Value} {el : TypeId} {fr : Nat × Nat} {cs : List AVal} (hB : W.heap[B]? = some (.cells (PRE ++ (CS ++ junk)).toArray el fr)) (hp : PRE.length = lo) (hv : ∀ e, VRs e cs CS) :
  ∃ e' h', Env.le e e' ∧ HR P (Base.all W) e' h' W ∧ Ext h h' ∧ e' h.next = some (B, 0) ∧ Has h' h.next (.win lo cs) := by
 obtain ⟨h', k⟩ := new_some h (.win lo cs)
 obtain ⟨_, x1, x2⟩ := new_ext k
 obtain ⟨n1, n2, n3⟩ := AH.get_new k
 have hle := Env.le_ext (x := (B, 0)) r.fresh
 have hlt := (Array.getElem?_eq_some_iff.1 hB).1
 refine ⟨e.ext h.next (B, 0), h', hle, ?_, x1, Env.ext_same _ _ _, x2⟩
 refine { dom := ?_, blk := ?_, inj := ?_, imm := ?_, os := r.os, tape := r.tape, output := r.output, size := r.size, old := r.old, young := r.young }
 ·intro b' x kx
  rw [Env.ext_at] at kx
  by_cases hb' : b' = h.next
  ·omega
  ·rw [if_neg hb'] at kx; have := r.dom _ _ kx; omega
 ·intro b' o' kx
  rw [n3] at kx
  by_cases hb' : b' = h.next
  ·rw [if_pos hb'] at kx
   cases kx
   subst hb'
   exact ⟨B, 0, _, Env.ext_same _ _ _, (fun q => by cases q), hB, .win (hv _) hp⟩
  ·rw [if_neg hb'] at kx
   obtain ⟨B', c', O', k1, k2, k3, k4⟩ := r.blk _ _ kx
   exact ⟨B', c', O', hle.1 _ _ k1, k2, k3, k4.mono hle⟩
 ·intro b1 b2 B1 c1 c2 o1 o2 k1 k2 hro e1 e2
  rw [n3] at k1 k2
  rw [Env.ext_at] at e1 e2
  by_cases q1 : b1 = h.next
  ·rw [if_pos q1] at k1; cases k1; cases hro
  ·rw [if_neg q1] at k1 e1
   by_cases q2 : b2 = h.next
   ·rw [if_pos q2] at e2
    cases e2
    obtain ⟨B', c', O', j1, j2, _, _⟩ := r.blk _ _ k1
    rw [e1] at j1
    cases j1
    exact absurd hlt (j2 hro)
   ·rw [if_neg q2] at k2 e2
    exact r.inj _ _ _ _ _ _ _ k1 k2 hro e1 e2
 ·intro B1 CS' hi
  obtain ⟨i1, i2⟩ := r.imm B1 CS' hi
  refine ⟨i1, fun b' o' c' kx hro ke => ?_⟩
  rw [n3] at kx
  rw [Env.ext_at] at ke
  by_cases q : b' = h.next
  ·rw [if_pos q] at kx; cases kx; cases hro
  ·rw [if_neg q] at kx ke; exact i2 b' o' c' kx hro ke
end
end Go.AbsE
