import Derived.Test.YtkcimfopboelaaaGreatMAM
import Derived.Test.YtkcimfopboelaaaGreatMAH
namespace Go.Proofs.YtkcimfopboelaaaGreat
open Go Go.AbsE
set_option linter.unusedSimpArgs false
set_option maxRecDepth 100000
set_option maxHeartbeats 0
set_option linter.unusedVariables false
theorem never144_ok {fid : FuncId} {caps : List AVal} {fn : Func} (hfid : aFunc Tryz.prog fid = some fn) {sl : AVal} {l : List Ft} {s : Ft → Bool} {bs : Nat} {h : AH} (f0 : Has h bs (.cells .plain [.func (.func fid) [] caps] 135)) (hs : SliceOf h 14 sl (l.map Ft.cells)) (hn : l.length ≤ 27)
  (hc : ∀ f h', f ∈ l → Ext h h' → Runs Tryz.prog fid ([.agg f.cells] ++ caps) h' (fun en h'' => en = .ret (.bool (s f)) ∧ Ext h' h'')) :
  Runs Tryz.prog 144 [sl, .ptr bs 0] h (fun en h' => en = .ret (.bool (!l.any s)) ∧ Ext h h') := by
 have hb := f0.1
 have hco : ∀ (h9 : AH), Ext h h9 → Runs Tryz.prog 143 [sl, .func (.func fid) [] caps] h9 (fun en h' => en = .ret (.bool (l.any s)) ∧ Ext h9 h') := fun h9 e => cont143_ok hfid s (hs.ext e) (by omega) fun x h' hx e' => hc x h' hx (e.trans e')
 have e0 : Ext h h := Ext.refl _
 refine Runs.intro aFunc144 rfl rfl rfl rfl fun rest => ?_;apply gS;refine gR rfl ?_;refine gP ?_;apply gE;apply gS;refine gR rfl ?_;refine gP ?_;refine gO rfl rfl (ld135 rfl f0 rfl) rfl ?_;refine GoR.call rfl rfl (aCF aFunc143 rfl) (hco _ e0) ?_ np;rintro v1 h1 ⟨q, x1⟩;cases q;refine ⟨_, rfl, ?_⟩;replace e0 := e0.trans x1;iterate 2 refine gP ?_
 apply gE;exact gW Tryz.func144 rfl rfl ⟨rfl, e0⟩
def anyE (R : RoadV) (s : Ft → Bool) (en : AMapE) : Bool := ((R.known[en.born]?).getD []).all fun fs => fs.any s
theorem anyE_is {R : RoadV} {L : List (List Int × AVal)} (hl : L.length = R.known.length) (s : Ft → Bool) : perhapsV R.known s = (esN L).any (anyE R s) := by
 have := esN_map hl (fun parts : List (List Ft) => parts.all fun fs => fs.any s)
 have h2 := congrArg (fun l => l.any id) this
 simp only [any_map, id] at h2
 exact h2.symm
theorem perhaps_ok {R : RoadV} (O : R.Ok) {h : AH} {lo bm : Nat} {L : List (List Int × AVal)} (K : KnownAt R h lo bm L) {fid : FuncId} {caps : List AVal} {fn : Func} (hfid : aFunc Tryz.prog fid = some fn) (s : Ft → Bool)
  (hc : ∀ f i h', f ∈ atPart R.known i → Ext h h' → Runs Tryz.prog fid ([.agg f.cells] ++ caps) h' (fun en h'' => en = .ret (.bool (s f)) ∧ Ext h' h'')) :
  Runs Tryz.prog 106 [.map bm, .func (.func fid) [] caps] h (fun en h' => en = .ret (.bool (perhapsV R.known s)) ∧ Ext h h') := by
 have hal := anyE_is (R := R) K.len s
 have hborn := esN_born (L := L)
 have hdist := esN_dist L
 have hKm := K.m
 have hblt := hKm.1
 have hnp := O.np
 rw [hal]
 have e0 : Ext h h := Ext.refl _
 refine Runs.intro aFunc106 rfl rfl rfl rfl fun rest => ?_;apply gS;refine gR rfl ?_;refine GoR.box rfl rfl rfl rfl rfl rfl fun h0 x0 f0 => ?_;have := e0.1
 have := hKm.1
 replace hKm := hKm.ext x0;replace e0 := e0.trans x0;have := f0.1;refine gP ?_;apply gE;apply gS;refine gR rfl ?_;iterate 2 refine gP ?_
 apply gE;iterate 2 apply gS
 refine gR rfl ?_;refine gP ?_;refine GoR.rangeM rfl rfl rfl Tryz.underlying80 rfl (mapB_has hKm) rfl rfl fun h5 x5 f5 => ?_
 have hl0 := f0.1
 replace f0 := f0.ext x5;replace e0 := e0.trans x5;clear hKm
 have hKm := K.m
 have hl5 := f5.1
 apply gE;refine Go.block noJ_ok ?_
 refine Go.loopKeep (fun _ : List AMapE × List AMapE => [(3, .ptr h.next 0), (5, .func (.func 144) [] [.ptr h.next 0]), (10, .ptr h0.next 0)])
  (fun n vr h' => vr.2.length = n ∧ (vr.1 ++ vr.2).Perm (esN L) ∧ Ext h h' ∧ Has h' h.next (.cells .plain [.func (.func fid) [] caps] 135) ∧ Has h' h0.next (.iter bm L.length (vr.1.map AMapE.born) L.length) ∧ vr.1.any (anyE R s) = false) (n := (esN L).length) ([], esN L) ⟨rfl, rfl, rfl, trivial⟩ ⟨rfl, .refl _, e0, f0, f5, rfl⟩ ?_
 clear e0 f0 f5;rintro n ⟨vs, rs⟩ hh ⟨hn, hperm, e0, f0, f5, hvs⟩ again
 dsimp only at hn hperm f5 hvs
 apply gS;refine Go.beginR rfl (Go.nextM rfl rfl f5 (mapB_has (hKm.ext e0)) hborn hborn K.kv (fun hall => Go.inRegion noJ_ok ?_) (fun en kv hen hnew hk h6 u6 => Go.inRegion noJ_ok ?_))
 ·have hrs := perm_over hperm hdist hall
  subst hrs;rw [List.append_nil] at hperm
  have hfin : (esN L).any (anyE R s) = false := by
   rw [List.any_eq_false] at hvs ⊢;exact fun x hx => hvs x (hperm.mem_iff.2 hx)
  rw [hfin];clear hKm;refine gP ?_;apply gE;apply gS;refine gC (b := false) rfl ?_;refine gD ?_;apply gS;refine gR rfl ?_;refine gP ?_;apply gE;exact gW Tryz.func106 rfl rfl ⟨rfl, e0⟩
 ·obtain ⟨ra, rb, rfl, hperm2⟩ := perm_pick hperm hen hnew
  obtain ⟨x, fs, q1, q2, q3, q4, q5⟩ := K.entry hen
  replace f5 := u6.has f5;replace f0 := f0.upd u6 (by omega);replace e0 := e0.upd u6 (by omega)
  obtain ⟨sls, p1, p2, p3⟩ := K.parts en.born x fs q1 q2
  rw [← q4] at p2
  have hfsl : fs.length = R.ps.length := (known_parts q5).1
  have hEn : anyE R s en = fs.all fun fs => fs.any s := by unfold anyE; rw [q2]; rfl
  have hMe := mapB_has (hKm.ext e0)
  have hent : ∀ {t : Tr AVal} {dst : Option Tmp} {tt : TypeId} {pos : String} {after : Array Edge} {guard : Option (Nat × Bool)} {x : Operand}, ev t x = some (.ptr h0.next 0) → aOp Tryz.prog t h6 ⟨dst, .entry x, tt, pos, after, guard⟩ = some (.val (.tuple [kv, en.val]) h6) := fun hx => aOp_entry hx f5 hMe hen hdist hk
  have hl0 := f0.1
  have hl5 := f5.1
  clear hKm
  have hsz : SliceOf h 1 en.val ((sls.zip fs).map fun x => [x.1]) := by
   have e : (sls.zip fs).map (fun x => [x.1]) = sls.map fun s => [s] := by
    conv => rhs; rw [← zip_fst p1, List.map_map]
    rfl
   rw [e];exact p2
  have hzl : (sls.zip fs).length ≤ 200 := by rw [List.length_zip, p1, Nat.min_self]; omega
  have hco : ∀ (h9 : AH), Ext h h9 → Has h9 h.next (.cells .plain [.func (.func fid) [] caps] 135) → Runs Tryz.prog 100 [en.val, .func (.func 144) [] [.ptr h.next 0]] h9 (fun en h' => en = .ret (.bool ((sls.zip fs).any fun x => !x.2.any s)) ∧ Ext h9 h') := fun h9 e f => cont100_ok (fun x : AVal × List Ft => x.1) (caps := [.ptr h.next 0]) aFunc144 (fun x => !x.2.any s) (hsz.ext e) hzl (fun x h' hx e' => by
   obtain ⟨k, hk⟩ := List.mem_iff_getElem?.1 hx
   obtain ⟨k1, k2⟩ := List.getElem?_zip_eq_some.1 hk
   exact never144_ok hfid (f.ext e') ((p3 k _ _ k1 k2).ext (e.trans e')) (known_few O q5 k2) fun f' h'' hf' e'' => hc f' k h'' (mem_atPart.2 ⟨fs, _, q5, k2, hf'⟩) ((e.trans e').trans e''))
  rw [zip_any (p := fun l : List Ft => !l.any s) p1] at hco
  cases hb : fs.all (fun l => l.any s) with
  | true =>
   have hany : (fs.any fun l => !l.any s) = false := by rw [← any_not] at hb; simpa using hb
   rw [hany] at hco
   have htrue : (esN L).any (anyE R s) = true := List.any_eq_true.2 ⟨en, hen, by rw [hEn]; exact hb⟩
   rw [htrue];refine gP ?_;apply gE;apply gS;refine gC (b := true) rfl ?_;refine gD ?_;refine Go.block noJ_ok ?_;apply gS;refine gR rfl ?_;refine gO rfl rfl (hent rfl) rfl ?_;iterate 2 refine gP ?_
   apply gE;apply gS;refine gR rfl ?_;iterate 2 refine gP ?_
   refine GoR.call rfl rfl (aCF aFunc100 rfl) (hco _ e0 f0) ?_ np;rintro v7 h7 ⟨q, x7⟩;cases q;refine ⟨_, rfl, ?_⟩;replace f5 := f5.ext x7;replace f0 := f0.ext x7;replace e0 := e0.trans x7;refine gP ?_;apply gE;refine gC (b := true) rfl ?_;apply gS;refine gR rfl ?_;refine gP ?_;apply gE;exact gW Tryz.func106 rfl rfl ⟨rfl, e0⟩
  | false =>
   have hany : (fs.any fun l => !l.any s) = true := by rw [← any_not] at hb; simpa using hb
   rw [hany] at hco;refine gP ?_;apply gE;apply gS;refine gC (b := true) rfl ?_;refine gD ?_;refine Go.block noJ_ok ?_;apply gS;refine gR rfl ?_;refine gO rfl rfl (hent rfl) rfl ?_;iterate 2 refine gP ?_
   apply gE;apply gS;refine gR rfl ?_;iterate 2 refine gP ?_
   refine GoR.call rfl rfl (aCF aFunc100 rfl) (hco _ e0 f0) ?_ np;rintro v7 h7 ⟨q, x7⟩;cases q;refine ⟨_, rfl, ?_⟩;replace f5 := f5.ext x7;replace f0 := f0.ext x7;replace e0 := e0.trans x7;refine gP ?_;apply gE;refine gC (b := false) rfl ?_;refine gD ?_;refine Go.inBlock noJ_ok ?_;exact again (n - 1) (vs ++ [en], ra ++ rb) _ _ (by simp at hn; omega) ⟨rfl, rfl, rfl, trivial⟩ ⟨by simp at hn ⊢; omega, hperm2, e0, f0, by simpa using f5, by dsimp only; rw [List.any_append, hvs]; simp [hEn, hb]⟩
theorem go_in {n : Int} {part : Int} : ∀ {zs : List (EV × Int)} {x : Pc} {hs : List Int} {f : Ft} {lo : Int}, (∀ z, z ∈ zs → z.1.Ok n ∧ z.1.lo ≤ z.2 ∧ z.2 ≤ z.1.hi) → x.In lo → fateGo part zs x hs = some f →
  f.x.In (lo + 60 * zs.length) ∧ ∀ v, v ∈ f.hs → v ∈ hs ∨ (-(lo + 60 * zs.length) ≤ v ∧ v ≤ 60)
 | [], x, hs, f, lo, _, hx, h => by
  unfold fateGo at h
  cases h;exact ⟨by simpa using hx, fun v hv => .inl hv⟩
 | z :: r, x, hs, f, lo, hz, hx, h => by
  unfold fateGo at h
  split at h
  ·obtain ⟨z1, z2, z3⟩ := hz z List.mem_cons_self
   have hy := after_in z1 hx z2 z3
   obtain ⟨q1, q2⟩ := go_in (fun z' h' => hz z' (List.mem_cons_of_mem _ h')) hy h
   have e : lo + 60 + 60 * (r.length : Int) = lo + 60 * ((z :: r).length : Int) := by rw [List.length_cons]; omega
   rw [e] at q1 q2;refine ⟨q1, fun v hv => ?_⟩
   rcases q2 v hv with q | q
   ·rcases List.mem_append.1 q with q | q
    ·exact .inl q
    ·rw [List.mem_singleton] at q
     have a := hy.h
     have b := hy.f
     rw [List.length_cons];exact .inr (by omega)
   ·exact .inr q
  ·cases h
theorem zip_ok {R : RoadV} (O : R.Ok) {ls : List Int} (hl : ls ∈ haulsV R.es) : ∀ z, z ∈ R.es.zip ls → z.1.Ok R.ps.length ∧ z.1.lo ≤ z.2 ∧ z.2 ≤ z.1.hi := by
 intro z hz
 obtain ⟨k, hk⟩ := List.mem_iff_getElem?.1 hz
 obtain ⟨k1, k2⟩ := List.getElem?_zip_eq_some.1 hk
 exact ⟨O.e _ (List.mem_of_getElem? k1), (mem_hauls.1 hl).2 k _ _ k1 k2⟩
theorem known_at {R : RoadV} {f : Ft} {i : Nat} (h : f ∈ atPart R.known i) : ∃ ls p x, ls ∈ haulsV R.es ∧ R.can ls = true ∧ R.ps[i]? = some p ∧ x ∈ p.pcs ∧ fateV R.es i x ls = some f := by
 obtain ⟨fs, l, h1, h2, h3⟩ := mem_atPart.1 h
 obtain ⟨ls, p, q1, q2, q3, rfl⟩ := known_fates h1 h2
 obtain ⟨x, q4, q5⟩ := mem_fates.1 h3
 exact ⟨ls, p, x, q1, q2, q3, q4, q5⟩
theorem fate_small {R : RoadV} (O : R.Ok) {ls : List Int} (hl : ls ∈ haulsV R.es) {i : Nat} {p : PV} (hp : R.ps[i]? = some p) {x : Pc} (hx : x ∈ p.pcs) {part : Int} {f : Ft} (hf : fateV R.es part x ls = some f) : f.x.In 600 ∧ f.hs.length = R.es.length ∧ ∀ v, v ∈ f.hs → -600 ≤ v ∧ v ≤ 60 := by
 obtain ⟨q1, q2⟩ := go_in (zip_ok O hl) (pcs_in (O.p p (List.mem_of_getElem? hp)) hx) hf
 have hlen := go_len hf
 rw [List.length_zip, hauls_len hl, Nat.min_self] at hlen;rw [List.length_zip, hauls_len hl, Nat.min_self] at q1 q2
 have hne := O.ne
 refine ⟨⟨by have := q1.h; omega, q1.s, q1.r, q1.f⟩, by simpa using hlen, fun v hv => ?_⟩
 rcases q2 v hv with q | q
 ·simp at q
 ·omega
theorem known_small {R : RoadV} (O : R.Ok) {f : Ft} {i : Nat} (h : f ∈ atPart R.known i) : f.x.In 600 ∧ f.hs.length = R.es.length ∧ ∀ v, v ∈ f.hs → -600 ≤ v ∧ v ≤ 60 := by
 obtain ⟨ls, p, x, q1, q2, q3, q4, q5⟩ := known_at h
 exact fate_small O q1 q3 q4 q5
theorem known_in {R : RoadV} (O : R.Ok) {f : Ft} {i : Nat} (h : f ∈ atPart R.known i) : f.x.In 600 ∧ f.hs.length ≤ 10 := by
 obtain ⟨q1, q2, _⟩ := known_small O h
 exact ⟨q1, by rw [q2]; exact O.ne⟩
theorem bears103_ok {f : Ft} (h1 : f.x.In 600) (h2 : f.hs.length ≤ 10) {load : Int} (hl : 0 ≤ load ∧ load ≤ 60) {b : Nat} {h : AH} (f0 : Has h b (.cells .plain [.int .i64 load] 3)) : Runs Tryz.prog 103 [.agg f.cells, .ptr b 0] h (fun en h' => en = .ret (.bool (f.x.bears load)) ∧ Ext h h') := by
 have hbl := f0.1
 have := h1.h
 have := h1.f
 have hb := fun h => bears_ok (x := f.x) (load := load) (by omega) h1.s (by omega) (h := h)
 have hfc : f.cells = .int .i64 f.x.height :: .int .i64 f.x.stiff :: .int .i64 f.x.rise :: .int .i64 f.x.full :: i64s (padZ f.hs) := rfl
 unfold Pc.cells at hb
 rw [hfc]
 have e0 : Ext h h := Ext.refl _
 refine Runs.intro aFunc103 rfl rfl rfl rfl fun rest => ?_;apply gS;refine gR rfl ?_;refine GoR.box rfl rfl rfl rfl rfl rfl fun h3 x3 f3 => ?_;replace f0 := f0.ext x3;replace e0 := e0.trans x3;refine gP ?_;apply gE;apply gS;refine gR rfl ?_;refine gO rfl rfl (fa87_0 rfl) rfl ?_;refine gO rfl rfl (ld84 rfl f3 rfl) rfl ?_;refine gO rfl rfl (ld3 rfl f0 rfl) rfl ?_;refine GoR.call rfl rfl (aCF aFunc104 rfl) (hb _) ?_ np;rintro v4 h4 ⟨q, x4⟩;cases q;refine ⟨_, rfl, ?_⟩;replace e0 := e0.trans x4;refine gP ?_;apply gE;exact gW Tryz.func103 rfl rfl ⟨rfl, e0⟩
theorem bears113_ok {f : Ft} (h1 : f.x.In 600) (h2 : f.hs.length ≤ 10) {load : Int} (hl : 0 ≤ load ∧ load ≤ 60) {b : Nat} {h : AH} (f0 : Has h b (.cells .plain [.int .i64 load] 3)) : Runs Tryz.prog 113 [.agg f.cells, .ptr b 0] h (fun en h' => en = .ret (.bool (f.x.bears load)) ∧ Ext h h') := by
 have hbl := f0.1
 have := h1.h
 have := h1.f
 have hb := fun h => bears_ok (x := f.x) (load := load) (by omega) h1.s (by omega) (h := h)
 have hfc : f.cells = .int .i64 f.x.height :: .int .i64 f.x.stiff :: .int .i64 f.x.rise :: .int .i64 f.x.full :: i64s (padZ f.hs) := rfl
 unfold Pc.cells at hb
 rw [hfc]
 have e0 : Ext h h := Ext.refl _
 refine Runs.intro aFunc113 rfl rfl rfl rfl fun rest => ?_;apply gS;refine gR rfl ?_;refine GoR.box rfl rfl rfl rfl rfl rfl fun h3 x3 f3 => ?_;replace f0 := f0.ext x3;replace e0 := e0.trans x3;refine gP ?_;apply gE;apply gS;refine gR rfl ?_;refine gO rfl rfl (fa87_0 rfl) rfl ?_;refine gO rfl rfl (ld84 rfl f3 rfl) rfl ?_;refine gO rfl rfl (ld3 rfl f0 rfl) rfl ?_;refine GoR.call rfl rfl (aCF aFunc104 rfl) (hb _) ?_ np;rintro v4 h4 ⟨q, x4⟩;cases q;refine ⟨_, rfl, ?_⟩;replace e0 := e0.trans x4;refine gP ?_;apply gE;exact gW Tryz.func113 rfl rfl ⟨rfl, e0⟩
theorem bears67_ok {R : RoadV} (O : R.Ok) {h : AH} {lo bm : Nat} {L : List (List Int × AVal)} (K : KnownAt R h lo bm L) {load : Int} (hl : 0 ≤ load ∧ load ≤ 60) : Runs Tryz.prog 67 [.map bm, .int .i64 load] h (fun en h' => en = .ret (.int .i64 (bearsV R.known load)) ∧ Ext h h') := by
 have ha : ∀ {h9 : AH} {b : Nat}, Ext h h9 → Has h9 b (.cells .plain [.int .i64 load] 3) → Runs Tryz.prog 105 [.map bm, .func (.func 103) [] [.ptr b 0]] h9 (fun en h' => en = .ret (.bool (alwaysV R.known fun f => f.x.bears load)) ∧ Ext h9 h') := fun e f => always_ok O (K.ext e) aFunc103 _ fun f' i h' hf e' => bears103_ok (known_in O hf).1 (known_in O hf).2 hl (f.ext e')
 have hp : ∀ {h9 : AH} {b : Nat}, Ext h h9 → Has h9 b (.cells .plain [.int .i64 load] 3) → Runs Tryz.prog 106 [.map bm, .func (.func 103) [] [.ptr b 0]] h9 (fun en h' => en = .ret (.bool (perhapsV R.known fun f => f.x.bears load)) ∧ Ext h9 h') := fun e f => perhaps_ok O (K.ext e) aFunc103 _ fun f' i h' hf e' => bears103_ok (known_in O hf).1 (known_in O hf).2 hl (f.ext e')
 unfold bearsV
 cases c1 : alwaysV R.known fun f => f.x.bears load with
 | true =>
  rw [c1] at ha
  have e0 : Ext h h := Ext.refl _
  refine Runs.intro aFunc67 rfl rfl rfl rfl fun rest => ?_;apply gS;refine gR rfl ?_;refine GoR.box rfl rfl rfl rfl rfl rfl fun h0 x0 f0 => ?_;replace e0 := e0.trans x0;refine gP ?_;apply gE;apply gS;refine gR rfl ?_;iterate 2 refine gP ?_
  apply gE;apply gS;refine Go.block noJ_ok ?_;apply gS;refine gR rfl ?_;iterate 2 refine gP ?_
  refine GoR.call rfl rfl (aCF aFunc105 rfl) (ha e0 f0) ?_ np;rintro v1 h1 ⟨q, x1⟩;cases q;refine ⟨_, rfl, ?_⟩;replace f0 := f0.ext x1;replace e0 := e0.trans x1;refine gP ?_;apply gE;refine gC (b := true) rfl ?_;apply gS;refine gR rfl ?_;refine gP ?_;apply gE;exact gW Tryz.func67 rfl rfl ⟨rfl, e0⟩
 | false =>
  rw [c1] at ha
  cases c2 : perhapsV R.known fun f => f.x.bears load with
  | true =>
   rw [c2] at hp
   have e0 : Ext h h := Ext.refl _
   refine Runs.intro aFunc67 rfl rfl rfl rfl fun rest => ?_;apply gS;refine gR rfl ?_;refine GoR.box rfl rfl rfl rfl rfl rfl fun h0 x0 f0 => ?_;replace e0 := e0.trans x0;refine gP ?_;apply gE;apply gS;refine gR rfl ?_;iterate 2 refine gP ?_
   apply gE;apply gS;refine Go.block noJ_ok ?_;apply gS;refine gR rfl ?_;iterate 2 refine gP ?_
   refine GoR.call rfl rfl (aCF aFunc105 rfl) (ha e0 f0) ?_ np;rintro v1 h1 ⟨q, x1⟩;cases q;refine ⟨_, rfl, ?_⟩;replace f0 := f0.ext x1;replace e0 := e0.trans x1;refine gP ?_;apply gE;refine gC (b := false) rfl ?_;apply gS;refine gR rfl ?_;iterate 2 refine gP ?_
   refine GoR.call rfl rfl (aCF aFunc106 rfl) (hp e0 f0) ?_ np;rintro v2 h2 ⟨q, x2⟩;cases q;refine ⟨_, rfl, ?_⟩;replace f0 := f0.ext x2;replace e0 := e0.trans x2;refine gP ?_;apply gE;refine gC (b := true) rfl ?_;apply gS;refine gR rfl ?_;refine gP ?_;apply gE;exact gW Tryz.func67 rfl rfl ⟨rfl, e0⟩
  | false =>
   rw [c2] at hp
   have e0 : Ext h h := Ext.refl _
   refine Runs.intro aFunc67 rfl rfl rfl rfl fun rest => ?_;apply gS;refine gR rfl ?_;refine GoR.box rfl rfl rfl rfl rfl rfl fun h0 x0 f0 => ?_;replace e0 := e0.trans x0;refine gP ?_;apply gE;apply gS;refine gR rfl ?_;iterate 2 refine gP ?_
   apply gE;apply gS;refine Go.block noJ_ok ?_;apply gS;refine gR rfl ?_;iterate 2 refine gP ?_
   refine GoR.call rfl rfl (aCF aFunc105 rfl) (ha e0 f0) ?_ np;rintro v1 h1 ⟨q, x1⟩;cases q;refine ⟨_, rfl, ?_⟩;replace f0 := f0.ext x1;replace e0 := e0.trans x1;refine gP ?_;apply gE;refine gC (b := false) rfl ?_;apply gS;refine gR rfl ?_;iterate 2 refine gP ?_
   refine GoR.call rfl rfl (aCF aFunc106 rfl) (hp e0 f0) ?_ np;rintro v2 h2 ⟨q, x2⟩;cases q;refine ⟨_, rfl, ?_⟩;replace e0 := e0.trans x2;refine gP ?_;apply gE;refine gC (b := false) rfl ?_;refine gD ?_;refine Go.inBlock noJ_ok ?_;apply gS;refine gR rfl ?_;refine gP ?_;apply gE;exact gW Tryz.func67 rfl rfl ⟨rfl, e0⟩
end Go.Proofs.YtkcimfopboelaaaGreat

namespace Go.Proofs.YtkcimfopboelaaaGreat
open Go Go.AbsE
set_option linter.unusedSimpArgs false
set_option maxRecDepth 100000
set_option maxHeartbeats 0
set_option linter.unusedVariables false
def numsV (from_ step : Int) (n : Nat) : List Int := (List.range n).map fun k : Nat => from_ + k * step
structure NumsA (a b s : Int) (bf bt bs : Nat) (h : AH) : Prop where
 f : Has h bf (.cells .plain [.int .i64 a] 3)
 t : Has h bt (.cells .plain [.int .i64 b] 3)
 s : Has h bs (.cells .plain [.int .i64 s] 3)
theorem nums1_it {a b s : Int} (hs : s = 1 ∨ s = -1) (ha : -1000 ≤ a ∧ a ≤ 1000) (hb : -1000 ≤ b ∧ b ≤ 1000) {n : Nat} (hn : b + s = a + n * s) (bf bt bs : Nat) : IterV Tryz.prog 145 [] [.ptr bf 0, .ptr bt 0, .ptr bs 0] ((numsV a s n).map (.int .i64)) (NumsA a b s bf bt bs) := by
 intro y base J E h F hyc hys hA hbase T j0
 show Runs Tryz.prog 145 [y, .ptr bf 0, .ptr bt 0, .ptr bs 0] h _
 have hlen : ((numsV a s n).map (AVal.int .i64)).length = n := by simp [numsV]
 rw [hlen]
 have hat : ∀ {k : Nat}, k < n → ((numsV a s n).map (AVal.int .i64))[k]? = some (.int .i64 (a + k * s)) := fun hk => by
  unfold numsV
  rw [List.map_map, List.getElem?_map, List.getElem?_range hk]
  rfl
 have e0 : Ext h h := Ext.refl _
 obtain ⟨f0, f1, f2⟩ := hA h (ExtF.of e0)
 rcases hs with rfl | rfl
 ·refine Runs.intro aFunc145 rfl rfl rfl rfl fun rest => ?_;apply gS;refine gR rfl ?_;refine gO rfl rfl (ld3 rfl f0 rfl) rfl ?_;refine gP ?_;apply gE;refine Go.block noJ_ok ?_;refine Go.loopKeep (fun a' : Nat × (Nat → Prop) => [(0, y), (1, .ptr bf 0), (2, .ptr bt 0), (3, .ptr bs 0), (5, .int .i64 (a + (a'.1 : Nat) * 1))]) (fun m a' h' => m + a'.1 = n ∧ ExtF F h h' ∧ (∀ b, a'.2 b → F b ∨ h.next ≤ b) ∧ J a'.1 h' a'.2) (n := n) (0, F) ⟨rfl, rfl, rfl, rfl, (by simp; rfl), trivial⟩ ⟨rfl, ExtF.of e0, fun b q => .inl q, j0⟩ ?_;clear e0 f0 f1 f2;rintro m ⟨k, G⟩ h1 ⟨hm, x1, hG, j1⟩ again
  dsimp only at hm hG j1 ⊢
  have e0 : Ext h1 h1 := Ext.refl _
  obtain ⟨f0, f1, f2⟩ := hA h1 x1
  have hx1 := x1.1
  by_cases hk : k < n
  ·obtain ⟨ax, a1, a2, a3⟩ := T.take (hat hk) j1
   iterate 2 apply gS
   refine gR rfl ?_;refine gP ?_;refine gO rfl rfl (ld3 rfl f1 rfl) rfl ?_;refine gO rfl rfl (ld3 rfl f2 rfl) rfl ?_;refine gO rfl rfl (aA rfl rfl) rfl ?_;refine gO rfl rfl (kXT rfl rfl) rfl ?_;apply gE;refine gC (b := true) rfl ?_;refine gD ?_;apply gS;refine Go.block noJ_ok ?_;apply gS;refine gR rfl ?_;iterate 2 refine gP ?_
   refine GoR.does rfl rfl (aOp_callY rfl rfl a1) a2 a3 ?_ (by rintro _ _ ⟨_, _, _, ⟨q, _⟩ | ⟨q, _⟩⟩ <;> cases q);rintro v h6 ⟨x6, G', hG', ⟨q, j6⟩ | ⟨q, e6⟩⟩
   ·cases q;refine ⟨_, rfl, ?_⟩
    have y6 := x1.trans hG x6
    clear f0 f1 f2 e0
    obtain ⟨f0, f1, f2⟩ := hA h6 y6
    refine gP ?_;apply gE;refine gC (b := false) rfl ?_;refine gD ?_;refine Go.inBlock noJ_ok ?_;refine gR rfl ?_;refine gP ?_;refine gO rfl rfl (ld3 rfl f2 rfl) rfl ?_;refine gO rfl rfl (aA rfl rfl) rfl ?_;refine gP ?_;apply gE;exact again (m - 1) (k + 1, G') _ _ (by omega) ⟨rfl, rfl, rfl, rfl, (by show _ = some (AVal.int .i64 (a + ((k + 1 : Nat) : Int) * 1)); rw [show a + ((k + 1 : Nat) : Int) * 1 = a + (k : Nat) * 1 + 1 by omega]; rfl), trivial⟩ ⟨by dsimp only; omega, y6, own_next hG' hG hx1, j6⟩
   ·cases q;refine ⟨_, rfl, ?_⟩;clear f0 f1 f2 e0;refine gP ?_;apply gE;refine gC (b := true) rfl ?_;exact gV (ret_end (aResult_of Tryz.func145 rfl rfl) ⟨rfl, x1.trans hG x6, G', own_next hG' hG hx1, .inr ⟨k, hk, e6⟩⟩)
  ·have hkn : k = n := by omega
   subst hkn;iterate 2 apply gS
   refine gR rfl ?_;refine gP ?_;refine gO rfl rfl (ld3 rfl f1 rfl) rfl ?_;refine gO rfl rfl (ld3 rfl f2 rfl) rfl ?_;refine gO rfl rfl (aA rfl rfl) rfl ?_;refine gO rfl rfl (kXF rfl rfl) rfl ?_;apply gE;refine gC (b := false) rfl ?_;refine gD ?_;exact Go.endL (FLeft.ret (v := .tuple []) (aResult_of Tryz.func145 rfl rfl) ⟨rfl, x1, G, hG, .inl j1⟩)
 ·refine Runs.intro aFunc145 rfl rfl rfl rfl fun rest => ?_;apply gS;refine gR rfl ?_;refine gO rfl rfl (ld3 rfl f0 rfl) rfl ?_;refine gP ?_;apply gE;refine Go.block noJ_ok ?_;refine Go.loopKeep (fun a' : Nat × (Nat → Prop) => [(0, y), (1, .ptr bf 0), (2, .ptr bt 0), (3, .ptr bs 0), (5, .int .i64 (a + (a'.1 : Nat) * -1))]) (fun m a' h' => m + a'.1 = n ∧ ExtF F h h' ∧ (∀ b, a'.2 b → F b ∨ h.next ≤ b) ∧ J a'.1 h' a'.2) (n := n) (0, F) ⟨rfl, rfl, rfl, rfl, (by simp; rfl), trivial⟩ ⟨rfl, ExtF.of e0, fun b q => .inl q, j0⟩ ?_;clear e0 f0 f1 f2;rintro m ⟨k, G⟩ h1 ⟨hm, x1, hG, j1⟩ again
  dsimp only at hm hG j1 ⊢
  have e0 : Ext h1 h1 := Ext.refl _
  obtain ⟨f0, f1, f2⟩ := hA h1 x1
  have hx1 := x1.1
  by_cases hk : k < n
  ·obtain ⟨ax, a1, a2, a3⟩ := T.take (hat hk) j1
   iterate 2 apply gS
   refine gR rfl ?_;refine gP ?_;refine gO rfl rfl (ld3 rfl f1 rfl) rfl ?_;refine gO rfl rfl (ld3 rfl f2 rfl) rfl ?_;refine gO rfl rfl (aA rfl rfl) rfl ?_;refine gO rfl rfl (kXT rfl rfl) rfl ?_;apply gE;refine gC (b := true) rfl ?_;refine gD ?_;apply gS;refine Go.block noJ_ok ?_;apply gS;refine gR rfl ?_;iterate 2 refine gP ?_
   refine GoR.does rfl rfl (aOp_callY rfl rfl a1) a2 a3 ?_ (by rintro _ _ ⟨_, _, _, ⟨q, _⟩ | ⟨q, _⟩⟩ <;> cases q);rintro v h6 ⟨x6, G', hG', ⟨q, j6⟩ | ⟨q, e6⟩⟩
   ·cases q;refine ⟨_, rfl, ?_⟩
    have y6 := x1.trans hG x6
    clear f0 f1 f2 e0
    obtain ⟨f0, f1, f2⟩ := hA h6 y6
    refine gP ?_;apply gE;refine gC (b := false) rfl ?_;refine gD ?_;refine Go.inBlock noJ_ok ?_;refine gR rfl ?_;refine gP ?_;refine gO rfl rfl (ld3 rfl f2 rfl) rfl ?_;refine gO rfl rfl (aA rfl rfl) rfl ?_;refine gP ?_;apply gE;exact again (m - 1) (k + 1, G') _ _ (by omega) ⟨rfl, rfl, rfl, rfl, (by show _ = some (AVal.int .i64 (a + ((k + 1 : Nat) : Int) * -1)); rw [show a + ((k + 1 : Nat) : Int) * -1 = a + (k : Nat) * -1 + -1 by omega]; rfl), trivial⟩ ⟨by dsimp only; omega, y6, own_next hG' hG hx1, j6⟩
   ·cases q;refine ⟨_, rfl, ?_⟩;clear f0 f1 f2 e0;refine gP ?_;apply gE;refine gC (b := true) rfl ?_;exact gV (ret_end (aResult_of Tryz.func145 rfl rfl) ⟨rfl, x1.trans hG x6, G', own_next hG' hG hx1, .inr ⟨k, hk, e6⟩⟩)
  ·have hkn : k = n := by omega
   subst hkn;iterate 2 apply gS
   refine gR rfl ?_;refine gP ?_;refine gO rfl rfl (ld3 rfl f1 rfl) rfl ?_;refine gO rfl rfl (ld3 rfl f2 rfl) rfl ?_;refine gO rfl rfl (aA rfl rfl) rfl ?_;refine gO rfl rfl (kXF rfl rfl) rfl ?_;apply gE;refine gC (b := false) rfl ?_;refine gD ?_;exact Go.endL (FLeft.ret (v := .tuple []) (aResult_of Tryz.func145 rfl rfl) ⟨rfl, x1, G, hG, .inl j1⟩)
theorem numbers_ok {a b : Int} {h : AH} : Runs Tryz.prog 111 [.int .i64 a, .int .i64 b] h (fun en h' => ∃ bf bt bs, en = .ret (.func (.func 145) [] [.ptr bf 0, .ptr bt 0, .ptr bs 0]) ∧ Ext h h' ∧ NumsA a b (if b < a then -1 else 1) bf bt bs h' ∧ h.next ≤ bf ∧ h.next ≤ bt ∧ h.next ≤ bs) := by
 by_cases q : b < a
 ·rw [if_pos q]
  have e0 : Ext h h := Ext.refl _
  refine Runs.intro aFunc111 rfl rfl rfl rfl fun rest => ?_;apply gS;refine gR rfl ?_;refine GoR.box rfl rfl rfl rfl rfl rfl fun h0 x0 f0 => ?_;have := e0.1;replace e0 := e0.trans x0;have := f0.1;refine GoR.box rfl rfl rfl rfl rfl rfl fun h1 x1 f1 => ?_;have := e0.1;have := f0.1;replace f0 := f0.ext x1;replace e0 := e0.trans x1;have := f1.1;refine gP ?_;apply gE;apply gS;refine gR rfl ?_;refine GoR.alloc rfl rfl rfl zt3 rfl rfl fun h2 x2 f2 => ?_;have := e0.1;have := f1.1;have := f0.1;replace f1 := f1.ext x2;replace f0 := f0.ext x2;replace e0 := e0.trans x2;have := f2.1;refine GoR.store rfl rfl rfl rfl rfl rfl f2 rfl sz3 rfl rfl rfl fun h3 u3 => ?_;replace f2 := u3.has f2;replace f1 := f1.upd u3 (by omega);replace f0 := f0.upd u3 (by omega);replace e0 := e0.upd u3 (by omega);apply gE;iterate 2 apply gS
  refine gR rfl ?_;refine gO rfl rfl (ld3 rfl f1 rfl) rfl ?_;refine gO rfl rfl (ld3 rfl f0 rfl) rfl ?_;refine gO rfl rfl (kLT rfl rfl) rfl ?_;apply gE;refine gC (b := true) rfl ?_;refine gR rfl ?_;refine GoR.store rfl rfl rfl rfl rfl rfl f2 rfl sz3 rfl rfl rfl fun h4 u4 => ?_;replace f2 := u4.has f2;replace f1 := f1.upd u4 (by omega);replace f0 := f0.upd u4 (by omega);replace e0 := e0.upd u4 (by omega);apply gE;apply gS;refine gR rfl ?_;iterate 2 refine gP ?_
  apply gE;exact gV (ret_end (aResult_of Tryz.func111 rfl rfl) ⟨_, _, _, rfl, e0, ⟨f0, f1, f2⟩, by omega, by omega, by omega⟩)
 ·rw [if_neg q]
  have e0 : Ext h h := Ext.refl _
  refine Runs.intro aFunc111 rfl rfl rfl rfl fun rest => ?_;apply gS;refine gR rfl ?_;refine GoR.box rfl rfl rfl rfl rfl rfl fun h0 x0 f0 => ?_;have := e0.1;replace e0 := e0.trans x0;have := f0.1;refine GoR.box rfl rfl rfl rfl rfl rfl fun h1 x1 f1 => ?_;have := e0.1;have := f0.1;replace f0 := f0.ext x1;replace e0 := e0.trans x1;have := f1.1;refine gP ?_;apply gE;apply gS;refine gR rfl ?_;refine GoR.alloc rfl rfl rfl zt3 rfl rfl fun h2 x2 f2 => ?_;have := e0.1;have := f1.1;have := f0.1;replace f1 := f1.ext x2;replace f0 := f0.ext x2;replace e0 := e0.trans x2;have := f2.1;refine GoR.store rfl rfl rfl rfl rfl rfl f2 rfl sz3 rfl rfl rfl fun h3 u3 => ?_;replace f2 := u3.has f2;replace f1 := f1.upd u3 (by omega);replace f0 := f0.upd u3 (by omega);replace e0 := e0.upd u3 (by omega);apply gE;iterate 2 apply gS
  refine gR rfl ?_;refine gO rfl rfl (ld3 rfl f1 rfl) rfl ?_;refine gO rfl rfl (ld3 rfl f0 rfl) rfl ?_;refine gO rfl rfl (kLF rfl rfl) rfl ?_;apply gE;refine gC (b := false) rfl ?_;refine gD ?_;apply gS;refine gR rfl ?_;iterate 2 refine gP ?_
  apply gE;exact gV (ret_end (aResult_of Tryz.func111 rfl rfl) ⟨_, _, _, rfl, e0, ⟨f0, f1, f2⟩, by omega, by omega, by omega⟩)
theorem first_ok {g : FuncId} {gf : Func} {first cap : List AVal} {L : List Int} {A : AH → Prop} (hg : aFunc Tryz.prog g = some gf) (it : IterV Tryz.prog g first cap (L.map (.int .i64)) A) {fid : FuncId} {caps : List AVal} {fn : Func} (hfid : aFunc Tryz.prog fid = some fn) (p : Int → Bool) {h : AH} (hA : ∀ h', Ext h h' → A h')
  (hc : ∀ x h', x ∈ L → Ext h h' → Runs Tryz.prog fid ([.int .i64 x] ++ caps) h' (fun en h'' => en = .ret (.bool (p x)) ∧ Ext h' h'')) :
  Runs Tryz.prog 110 [.func (.func g) first cap, .agg [.func (.func fid) [] caps]] h (fun en h' => en = .ret (.tuple [.int .i64 ((L.find? p).getD 0), .bool (L.find? p).isSome]) ∧ Ext h h') := by
 have e0 : Ext h h := Ext.refl _
 refine Runs.intro aFunc110 rfl rfl rfl rfl fun rest => ?_;apply gS;refine gR rfl ?_;refine GoR.box rfl rfl rfl rfl rfl rfl fun h0 x0 f0 => ?_;have := e0.1;replace e0 := e0.trans x0;have := f0.1;refine GoR.alloc rfl rfl rfl zt3 rfl rfl fun h1 x1 f1 => ?_;have := e0.1;have := f0.1;replace f0 := f0.ext x1;replace e0 := e0.trans x1;have := f1.1;refine GoR.alloc rfl rfl rfl zt4 rfl rfl fun h2 x2 f2 => ?_;have := e0.1;have := f1.1;have := f0.1;replace f1 := f1.ext x2;replace f0 := f0.ext x2;replace e0 := e0.trans x2;have := f2.1;apply gE;iterate 2 apply gS
 refine gR rfl ?_;refine gP ?_;apply gE;refine Go.block noJ_ok ?_
 have hb0 := f0.1
 have hb1 := f1.1
 have hb2 := f2.1
 have hx0 := e0.1
 have hn0 : h.next < h0.next := by omega
 have hn1 : h0.next < h1.next := by omega
 have eF : ∀ {hh}, ExtF (fun b => b = h0.next ∨ b = h1.next) h2 hh → Ext h hh := fun x => x.low e0 fun b q => by omega
 refine Go.rangeV (items := L.map (.int .i64)) (A := A) (fun b => b = h0.next ∨ b = h1.next) (fun j hh G => (∀ x, x ∈ L.take j → p x = false) ∧ Has hh h0.next (.cells .plain [.int .i64 0] 3) ∧ Has hh h1.next (.cells .plain [.bool false] 4) ∧ ∀ b, G b ↔ (b = h0.next ∨ b = h1.next))
  (fun c hh G => c = .ret ∧ ∃ x, L.find? p = some x ∧ Has hh h0.next (.cells .plain [.int .i64 x] 3) ∧ Has hh h1.next (.cells .plain [.bool true] 4) ∧ ∀ b, G b ↔ (b = h0.next ∨ b = h1.next))
  rfl hg Tryz.func110 it (fun h' x => hA h' (eF x)) ⟨fun x q => by simp at q, f1, f2, fun b => Iff.rfl⟩ ?_ ?_ ?_ ?_ ?_ ?_ ?_
 ·rintro k hh G b ⟨_, g1, g2, hG⟩ q
  rcases (hG b).1 q with rfl | rfl
  ·exact g1.1
  ·exact g2.1
 ·rintro c hh G b ⟨_, x, _, g1, g2, hG⟩ q
  rcases (hG b).1 q with rfl | rfl
  ·exact g1.1
  ·exact g2.1
 ·rintro k h4 h5 G ⟨q, g1, g2, hG⟩ hn hk;exact ⟨q, g1.keep hn (hk _ g1.1 (.inr ((hG _).2 (.inl rfl)))), g2.keep hn (hk _ g2.1 (.inr ((hG _).2 (.inr rfl)))), hG⟩
 ·rintro c h4 h5 G ⟨q, x, hx, g1, g2, hG⟩ hn hk;exact ⟨q, x, hx, g1.keep hn (hk _ g1.1 (.inr ((hG _).2 (.inl rfl)))), g2.keep hn (hk _ g2.1 (.inr ((hG _).2 (.inr rfl)))), hG⟩
 ·rintro j item hj;refine ⟨_, rfl, ?_⟩;rintro hh G lb r0 fr rest' Q' ⟨hno, g1, g2, hG⟩ x1 hsub hnl hlb fl hready contT contF
  obtain ⟨x, hx, rfl⟩ : ∃ x, L[j]? = some x ∧ AVal.int .i64 x = item := by
   rw [List.getElem?_map] at hj
   cases q : L[j]? with
   | none => rw [q] at hj; cases hj
   | some x => rw [q] at hj; exact ⟨x, rfl, Option.some.inj hj⟩
  have hxm := List.mem_of_getElem? hx
  have hx1 := x1.1
  have hfl := fl.1
  replace f0 := f0.extF x1 (by omega)
  have e8 := eF x1
  have hl0 : h0.next ≠ lb := by omega
  have hl1 : h1.next ≠ lb := by omega
  have y9 : ExtF (fun b => G b ∨ b = lb) hh hh := ExtF.of (Ext.refl _)
  clear e0 f1 f2;refine gR rfl ?_;refine gP ?_;apply gE;refine Go.beginRound fl hready fun h15 u15 => ?_;replace f0 := f0.upd u15 (by omega);replace g1 := g1.upd u15 hl0;replace g2 := g2.upd u15 hl1;replace fl := u15.has fl;replace y9 := y9.upd u15 (.inl (.inr rfl));replace e8 := e8.upd u15 (by omega)
  have hcx := hc x h15 hxm e8
  have hb0' := f0.1
  have hb1' := g1.1
  have hb2' := g2.1
  have hbl' := fl.1
  cases hp : p x with
  | false =>
   rw [hp] at hcx;clear e8
   have e0 : Ext h15 h15 := Ext.refl _
   obtain ⟨f1, hf1⟩ : ∃ f1, f1 = g1 := ⟨_, rfl⟩
   obtain ⟨f2, hf2⟩ : ∃ f2, f2 = g2 := ⟨_, rfl⟩
   clear hf1 hf2 g1 g2;refine Go.block noJ_ok ?_;apply gS;refine gR rfl ?_;refine gO rfl rfl (fa145_0 rfl) rfl ?_;refine gO rfl rfl (ld68 rfl f0 rfl) rfl ?_;refine gP ?_;refine GoR.call rfl rfl (aOp_callVal rfl hfid rfl) (hcx) ?_ np;rintro v16 h16 ⟨q, x16⟩;cases q;refine ⟨_, rfl, ?_⟩;replace f0 := f0.ext x16;replace fl := fl.ext x16;replace f1 := f1.ext x16;replace f2 := f2.ext x16;replace e0 := e0.trans x16;replace y9 := y9.ext x16;apply gE;refine gC (b := false) rfl ?_;refine gD ?_;refine Go.inBlock noJ_ok ?_;exact contT _ _ G ⟨take_no hx hp hno, f1, f2, hG⟩ (fun b q => .inl q) (y9) fl
  | true =>
   rw [hp] at hcx;clear e8
   have e0 : Ext h15 h15 := Ext.refl _
   have hfind : L.find? p = some x := by
    rw [List.find?_eq_some_iff_getElem]
    have hlt := (List.getElem?_eq_some_iff.1 hx).1
    have hv := (List.getElem?_eq_some_iff.1 hx).2
    exact ⟨hp, j, hlt, hv, fun k hk => by rw [hno _ (List.mem_take_iff_getElem.2 ⟨k, by omega, rfl⟩)]; rfl⟩
   obtain ⟨f1, hf1⟩ : ∃ f1, f1 = g1 := ⟨_, rfl⟩
   obtain ⟨f2, hf2⟩ : ∃ f2, f2 = g2 := ⟨_, rfl⟩
   clear hf1 hf2 g1 g2;refine Go.block noJ_ok ?_;apply gS;refine gR rfl ?_;refine gO rfl rfl (fa145_0 rfl) rfl ?_;refine gO rfl rfl (ld68 rfl f0 rfl) rfl ?_;refine gP ?_;refine GoR.call rfl rfl (aOp_callVal rfl hfid rfl) (hcx) ?_ np;rintro v16 h16 ⟨q, x16⟩;cases q;refine ⟨_, rfl, ?_⟩;replace fl := fl.ext x16;replace f1 := f1.ext x16;replace f2 := f2.ext x16;replace y9 := y9.ext x16;apply gE;refine gC (b := true) rfl ?_;apply gS;refine gR rfl ?_;refine gP ?_;refine GoR.store rfl rfl rfl rfl rfl rfl f1 rfl sz3 rfl rfl rfl fun h17 u17 => ?_;replace fl := fl.upd u17 (by omega);replace f1 := u17.has f1;replace f2 := f2.upd u17 (by omega);clear e0;refine GoR.store rfl rfl rfl rfl rfl rfl f2 rfl sz4 rfl rfl rfl fun h18 u18 => ?_;replace fl := fl.upd u18 (by omega);replace f1 := f1.upd u18 (by omega);replace f2 := u18.has f2;apply gE;exact contF _ _ _ _ G (.inl rfl) ⟨rfl, x, hfind, f1, f2, hG⟩ (fun b q => .inl q) ((y9.upd u17 (.inl (.inl ((hG _).2 (.inl rfl))))).upd u18 (.inl (.inl ((hG _).2 (.inr rfl))))) fl
 ·rintro d h30 G x30 hGs hnd hd hdd ⟨hno, g1, g2, hG⟩;rw [List.length_map, List.take_length] at hno
  have hnone : L.find? p = none := List.find?_eq_none.2 fun x hx => by rw [hno x hx]; simp
  rw [hnone]
  have e9 := eF x30
  have hx30 := x30.1
  clear e0 f0 f1 f2
  have d0 : h0.next ≠ d := fun z => hnd ((hG _).2 (.inl z.symm))
  have d1 : h1.next ≠ d := fun z => hnd ((hG _).2 (.inr z.symm))
  refine Go.inBlock noJ_ok ?_;apply gS;refine gR rfl ?_;refine gO rfl rfl (ld3 rfl g1 rfl) rfl ?_;refine GoR.store rfl rfl rfl rfl rfl rfl g1 rfl sz3 rfl rfl rfl fun h31 u31 => ?_;replace hdd := hdd.upd u31 (by omega);replace g1 := u31.has g1;replace g2 := g2.upd u31 (by omega);replace e9 := e9.upd u31 (by omega);refine GoR.store rfl rfl rfl rfl rfl rfl g2 rfl sz4 rfl rfl rfl fun h32 u32 => ?_;replace hdd := hdd.upd u32 (by omega);replace g1 := g1.upd u32 (by omega);replace g2 := u32.has g2;replace e9 := e9.upd u32 (by omega);apply gE;exact Go.retC hdd fun h9 u9 => ⟨aResult_of Tryz.func110 rfl (aResults_c rfl (g1.upd u9 d0) (inCells_one ag3 rfl) (aResults_c rfl (g2.upd u9 d1) (inCells_one ag4 rfl) rfl)), rfl, e9.upd u9 (by omega)⟩
 ·rintro c d h30 G x30 hGs hnd hd hdd ⟨rfl, x, hfind, g1, g2, hG⟩;rw [hfind]
  have e9 := eF x30
  have hx30 := x30.1
  have d0 : h0.next ≠ d := fun z => hnd ((hG _).2 (.inl z.symm))
  have d1 : h1.next ≠ d := fun z => hnd ((hG _).2 (.inr z.symm))
  exact Go.retC hdd fun h9 u9 => ⟨aResult_of Tryz.func110 rfl (aResults_c rfl (g1.upd u9 d0) (inCells_one ag3 rfl) (aResults_c rfl (g2.upd u9 d1) (inCells_one ag4 rfl) rfl)), rfl, e9.upd u9 (by omega)⟩
end Go.Proofs.YtkcimfopboelaaaGreat

namespace Go.Proofs.YtkcimfopboelaaaGreat
open Go Go.AbsE
set_option linter.unusedSimpArgs false
set_option maxRecDepth 100000
set_option maxHeartbeats 0
set_option linter.unusedVariables false
theorem truths_yes {R : RoadV} (O : R.Ok) (hp : R.possible = true) {lo : Nat} {gp ge : AVal} {h : AH} (A : GroundAt h R lo gp ge) : Runs Tryz.prog 52 [.agg [gp, ge]] h (fun en h' => ∃ bm L, en = .ret (.map bm) ∧ Ext h h' ∧ KnownAt R h' h.next bm L ∧ Ext h' h') :=
 (truths_ok O A).mono fun en h' ⟨x, k⟩ => by
  rcases k with ⟨_, bm, q, _, K⟩ | ⟨q, _⟩
  ·obtain ⟨L, K⟩ := K.at O
   exact ⟨bm, L, q, x, K, Ext.refl _⟩
  ·rw [hp] at q; cases q
theorem truths_no {R : RoadV} (O : R.Ok) (hp : R.possible = false) {lo : Nat} {gp ge : AVal} {h : AH} (A : GroundAt h R lo gp ge) : Runs Tryz.prog 52 [.agg [gp, ge]] h (fun en h' => en = .pan (refusal 10) ∧ Ext h h') :=
 (truths_ok O A).mono fun en h' ⟨x, k⟩ => by
  rcases k with ⟨q, _⟩ | ⟨_, q⟩
  ·rw [hp] at q; cases q
  ·exact ⟨q, x⟩
theorem nums_down (n : Nat) : numsV n (-1) (n + 1) = down n := by
 unfold numsV down
 refine List.map_congr_left fun k _ => ?_
 omega
theorem nums_up : numsV 0 1 11 = upto 0 10 := by
 unfold numsV upto
 refine List.map_congr_left fun k _ => ?_
 omega
theorem mem_down {n : Nat} {x : Int} (h : x ∈ down n) : 0 ≤ x ∧ x ≤ n := by
 unfold down at h
 obtain ⟨k, hk, rfl⟩ := List.mem_map.1 h
 rw [List.mem_range] at hk
 omega
theorem most112_ok {R : RoadV} (O : R.Ok) {h : AH} {lo bm : Nat} {L : List (List Int × AVal)} (K : KnownAt R h lo bm L) {load : Int} (hl : 0 ≤ load ∧ load ≤ 60) {bk : Nat} (f0 : Has h bk (.cells .plain [.map bm] 80)) : Runs Tryz.prog 112 [.int .i64 load, .ptr bk 0] h (fun en h' => en = .ret (.bool (alwaysV R.known fun f => f.x.bears load)) ∧ Ext h h') := by
 have ha : ∀ {h9 : AH} {b : Nat}, Ext h h9 → Has h9 b (.cells .plain [.int .i64 load] 3) → Runs Tryz.prog 105 [.map bm, .func (.func 113) [] [.ptr b 0]] h9 (fun en h' => en = .ret (.bool (alwaysV R.known fun f => f.x.bears load)) ∧ Ext h9 h') := fun e f => always_ok O (K.ext e) aFunc113 _ fun f' i h' hf e' => bears113_ok (known_in O hf).1 (known_in O hf).2 hl (f.ext e')
 have hb := f0.1
 have e0 : Ext h h := Ext.refl _
 refine Runs.intro aFunc112 rfl rfl rfl rfl fun rest => ?_;apply gS;refine gR rfl ?_;refine GoR.box rfl rfl rfl rfl rfl rfl fun h1 x1 f1 => ?_;replace f0 := f0.ext x1;replace e0 := e0.trans x1;refine gP ?_;apply gE;apply gS;refine gR rfl ?_;refine gO rfl rfl (ld80 rfl f0 rfl) rfl ?_;refine gP ?_;refine GoR.call rfl rfl (aCF aFunc105 rfl) (ha e0 f1) ?_ np;rintro v2 h2 ⟨q, x2⟩;cases q;refine ⟨_, rfl, ?_⟩;replace e0 := e0.trans x2;refine gP ?_;apply gE;exact gW Tryz.func112 rfl rfl ⟨rfl, e0⟩
theorem most_ok {R : RoadV} (O : R.Ok) {h : AH} {lo bm : Nat} {L : List (List Int × AVal)} (K : KnownAt R h lo bm L) : Runs Tryz.prog 74 [.map bm] h (fun en h' => en = (match mostV R.known with | some l => .ret (.int .i64 l) | none => .pan (refusal 4)) ∧ Ext h h') := by
 have hfi : ∀ {h9 : AH} {bf bt bs b : Nat}, Ext h h9 → NumsA 60 0 (-1) bf bt bs h9 → Has h9 b (.cells .plain [.map bm] 80) → Runs Tryz.prog 110 [.func (.func 145) [] [.ptr bf 0, .ptr bt 0, .ptr bs 0], .agg [.func (.func 112) [] [.ptr b 0]]] h9 (fun en h' => en = .ret (.tuple [.int .i64 ((mostV R.known).getD 0), .bool (mostV R.known).isSome]) ∧ Ext h9 h') := fun {h9 bf bt bs b} e na f => by
  have it := nums1_it (a := 60) (b := 0) (s := -1) (.inr rfl) (by omega) (by omega) (n := 61) (by omega) bf bt bs
  rw [show numsV 60 (-1) 61 = down 60 from nums_down 60] at it;exact first_ok aFunc145 it aFunc112 (fun l => alwaysV R.known fun f => f.x.bears l) (fun h' x => ⟨na.f.ext x, na.t.ext x, na.s.ext x⟩) fun x h' hx e' => most112_ok O (K.ext (e.trans e')) (mem_down hx) (f.ext e')
 have hna : ∀ {h9 : AH}, Runs Tryz.prog 111 [.int .i64 60, .int .i64 0] h9 (fun en h' => ∃ bf bt bs, en = .ret (.func (.func 145) [] [.ptr bf 0, .ptr bt 0, .ptr bs 0]) ∧ Ext h9 h' ∧ NumsA 60 0 (-1) bf bt bs h' ∧ h9.next ≤ bf ∧ h9.next ≤ bt ∧ h9.next ≤ bs) := numbers_ok
 cases hm : mostV R.known with
 | none =>
  rw [hm] at hfi
  have e0 : Ext h h := Ext.refl _
  refine Runs.intro aFunc74 rfl rfl rfl rfl fun rest => ?_;apply gS;refine gR rfl ?_;refine GoR.box rfl rfl rfl rfl rfl rfl fun h0 x0 f0 => ?_;replace e0 := e0.trans x0;refine gP ?_;apply gE;apply gS;refine gR rfl ?_;refine GoR.call rfl rfl (aCF aFunc111 rfl) (hna) ?_ (by rintro _ _ ⟨bf, bt, bs, q, _, NA, l1, l2, l3⟩; cases q);rintro v1 h1 ⟨bf, bt, bs, q, x1, NA, l1, l2, l3⟩;cases q;refine ⟨_, rfl, ?_⟩;replace f0 := f0.ext x1;replace e0 := e0.trans x1;refine gP ?_;refine gO rfl rfl (aOp_build zt145 hu145 pl145 rfl rfl) rfl ?_;refine GoR.call rfl rfl (aCF aFunc110 rfl) (hfi e0 NA f0) ?_ np;rintro v2 h2 ⟨q, x2⟩;cases q;refine ⟨_, rfl, ?_⟩;replace f0 := f0.ext x2;replace e0 := e0.trans x2;iterate 5 refine gP ?_
  apply gE;apply gS;refine gR rfl ?_;iterate 2 refine gP ?_
  refine GoR.callP rfl rfl (aCF aFunc91 rfl) (refuse_yes _ _) (by rintro _ _ ⟨q, _⟩; cases q) ?_;rintro chain h3 ⟨q, x3⟩
  have q := AEnd.pan.inj q
  subst q;replace f0 := f0.ext x3;replace e0 := e0.trans x3;exact FLeft.pan (⟨rfl, e0⟩)
 | some l =>
  rw [hm] at hfi
  have e0 : Ext h h := Ext.refl _
  refine Runs.intro aFunc74 rfl rfl rfl rfl fun rest => ?_;apply gS;refine gR rfl ?_;refine GoR.box rfl rfl rfl rfl rfl rfl fun h0 x0 f0 => ?_;replace e0 := e0.trans x0;refine gP ?_;apply gE;apply gS;refine gR rfl ?_;refine GoR.call rfl rfl (aCF aFunc111 rfl) (hna) ?_ (by rintro _ _ ⟨bf, bt, bs, q, _, NA, l1, l2, l3⟩; cases q);rintro v1 h1 ⟨bf, bt, bs, q, x1, NA, l1, l2, l3⟩;cases q;refine ⟨_, rfl, ?_⟩;replace f0 := f0.ext x1;replace e0 := e0.trans x1;refine gP ?_;refine gO rfl rfl (aOp_build zt145 hu145 pl145 rfl rfl) rfl ?_;refine GoR.call rfl rfl (aCF aFunc110 rfl) (hfi e0 NA f0) ?_ np;rintro v2 h2 ⟨q, x2⟩;cases q;refine ⟨_, rfl, ?_⟩;replace e0 := e0.trans x2;iterate 5 refine gP ?_
  apply gE;apply gS;refine gR rfl ?_;iterate 2 refine gP ?_
  refine GoR.call rfl rfl (aCF aFunc91 rfl) (refuse_no _ _) ?_ np;rintro v3 h3 ⟨q, x3⟩;cases q;refine ⟨_, rfl, ?_⟩;replace e0 := e0.trans x3;apply gE;apply gS;refine gR rfl ?_;iterate 2 refine gP ?_
  apply gE;exact gW Tryz.func74 rfl rfl ⟨rfl, e0⟩
theorem rest115_ok {f : Ft} (h1 : f.x.In 600) (h2 : f.hs.length ≤ 10) {load days : Int} (hl : 0 ≤ load ∧ load ≤ 60) (hd : 0 ≤ days ∧ days ≤ 10) {b b2 : Nat} {h : AH} (f0 : Has h b (.cells .plain [.int .i64 days] 3)) (f1 : Has h b2 (.cells .plain [.int .i64 load] 3)) : Runs Tryz.prog 115 [.agg f.cells, .ptr b 0, .ptr b2 0] h (fun en h' => en = .ret (.bool ((f.x.rested days).bears load)) ∧ Ext h h') := by
 have hbl := f0.1
 have hbl2 := f1.1
 have a := h1.h
 have a2 := h1.f
 have a3 := mul_small hd h1.r
 have hr := fun h => rested_ok (x := f.x) (days := days) (by omega) h1.r (by omega) (h := h)
 have hb := fun h => bears_ok (x := f.x.rested days) (load := load) (by omega) h1.s (by show _ ≤ min (_ + _) _ ∧ min (_ + _) _ ≤ _; omega) (h := h)
 have hfc : f.cells = .int .i64 f.x.height :: .int .i64 f.x.stiff :: .int .i64 f.x.rise :: .int .i64 f.x.full :: i64s (padZ f.hs) := rfl
 unfold Pc.cells at hb hr
 rw [hfc]
 have e0 : Ext h h := Ext.refl _
 refine Runs.intro aFunc115 rfl rfl rfl rfl fun rest => ?_;apply gS;refine gR rfl ?_;refine GoR.box rfl rfl rfl rfl rfl rfl fun h3 x3 f3 => ?_;have := e0.1;have := f0.1;have := f1.1;replace f0 := f0.ext x3;replace f1 := f1.ext x3;replace e0 := e0.trans x3;have := f3.1;refine gP ?_;apply gE;apply gS;refine Go.drawnE plan115_0 ?_;refine gQ rfl rfl (fa87_0 rfl) rfl ?_;refine gQ rfl rfl (ld84 rfl f3 rfl) rfl ?_;refine gQ rfl rfl (ld3 rfl f0 rfl) rfl ?_;refine gQ rfl rfl (ld3 rfl f1 rfl) rfl ?_;refine GoE.call rfl rfl (aCF aFunc116 rfl) (hr _) (dK 7 4 (dD 7 2 (dD 7 1 (dD 7 0 rfl)))) ?_ np;rintro v4 h4 ⟨q, x4⟩;cases q;replace f1 := f1.ext x4;replace e0 := e0.trans x4;refine ⟨(rck (h2 := h4) rfl (ld3 rfl f1 rfl) recheck_nil), _, rfl, ?_⟩;refine GoE.call rfl rfl (aCF aFunc104 rfl) (hb _) (dD 31 4 rfl) ?_ np;rintro v5 h5 ⟨q, x5⟩;cases q;replace e0 := e0.trans x5;refine ⟨recheck_nil, _, rfl, ?_⟩;refine gQ rfl rfl rfl rfl ?_;refine GoE.end rfl ?_;exact gW Tryz.func115 rfl rfl ⟨rfl, e0⟩
theorem rest114_ok {R : RoadV} (O : R.Ok) {h : AH} {lo bm : Nat} {L : List (List Int × AVal)} (K : KnownAt R h lo bm L) {load days : Int} (hl : 0 ≤ load ∧ load ≤ 60) (hd : 0 ≤ days ∧ days ≤ 10) {bk bl : Nat} (f0 : Has h bk (.cells .plain [.map bm] 80)) (f1 : Has h bl (.cells .plain [.int .i64 load] 3)) : Runs Tryz.prog 114 [.int .i64 days, .ptr bk 0, .ptr bl 0] h (fun en h' => en = .ret (.bool (alwaysV R.known fun f => (f.x.rested days).bears load)) ∧ Ext h h') := by
 have ha : ∀ {h9 : AH} {b : Nat}, Ext h h9 → Has h9 b (.cells .plain [.int .i64 days] 3) → Has h9 bl (.cells .plain [.int .i64 load] 3) → Runs Tryz.prog 105 [.map bm, .func (.func 115) [] [.ptr b 0, .ptr bl 0]] h9 (fun en h' => en = .ret (.bool (alwaysV R.known fun f => (f.x.rested days).bears load)) ∧ Ext h9 h') := fun e f f2 => always_ok O (K.ext e) aFunc115 _ fun f' i h' hf e' => rest115_ok (known_in O hf).1 (known_in O hf).2 hl hd (f.ext e') (f2.ext e')
 have hb := f0.1
 have hb1 := f1.1
 have e0 : Ext h h := Ext.refl _
 refine Runs.intro aFunc114 rfl rfl rfl rfl fun rest => ?_;apply gS;refine gR rfl ?_;refine GoR.box rfl rfl rfl rfl rfl rfl fun h2 x2 f2 => ?_;replace f0 := f0.ext x2;replace f1 := f1.ext x2;replace e0 := e0.trans x2;refine gP ?_;apply gE;apply gS;refine gR rfl ?_;refine gO rfl rfl (ld80 rfl f0 rfl) rfl ?_;refine gP ?_;refine GoR.call rfl rfl (aCF aFunc105 rfl) (ha e0 f2 f1) ?_ np;rintro v3 h3 ⟨q, x3⟩;cases q;refine ⟨_, rfl, ?_⟩;replace e0 := e0.trans x3;refine gP ?_;apply gE;exact gW Tryz.func114 rfl rfl ⟨rfl, e0⟩
theorem rest_ok {R : RoadV} (O : R.Ok) {h : AH} {lo bm : Nat} {L : List (List Int × AVal)} (K : KnownAt R h lo bm L) {load : Int} (hl : 0 ≤ load ∧ load ≤ 60) : Runs Tryz.prog 76 [.map bm, .int .i64 load] h (fun en h' => en = (match restV R.known load with | some l => .ret (.int .i64 l) | none => .pan (refusal 4)) ∧ Ext h h') := by
 have hfi : ∀ {h9 : AH} {bf bt bs b b2 : Nat}, Ext h h9 → NumsA 0 10 1 bf bt bs h9 → Has h9 b (.cells .plain [.map bm] 80) → Has h9 b2 (.cells .plain [.int .i64 load] 3) → Runs Tryz.prog 110 [.func (.func 145) [] [.ptr bf 0, .ptr bt 0, .ptr bs 0], .agg [.func (.func 114) [] [.ptr b 0, .ptr b2 0]]] h9 (fun en h' => en = .ret (.tuple [.int .i64 ((restV R.known load).getD 0), .bool (restV R.known load).isSome]) ∧ Ext h9 h') := fun {h9 bf bt bs b b2} e na f f2 => by
  have it := nums1_it (a := 0) (b := 10) (s := 1) (.inl rfl) (by omega) (by omega) (n := 11) (by omega) bf bt bs
  rw [nums_up] at it;exact first_ok aFunc145 it aFunc114 (fun d => alwaysV R.known fun f => (f.x.rested d).bears load) (fun h' x => ⟨na.f.ext x, na.t.ext x, na.s.ext x⟩) fun x h' hx e' => rest114_ok O (K.ext (e.trans e')) hl (mem_upto.1 hx) (f.ext e') (f2.ext e')
 have hna : ∀ {h9 : AH}, Runs Tryz.prog 111 [.int .i64 0, .int .i64 10] h9 (fun en h' => ∃ bf bt bs, en = .ret (.func (.func 145) [] [.ptr bf 0, .ptr bt 0, .ptr bs 0]) ∧ Ext h9 h' ∧ NumsA 0 10 1 bf bt bs h' ∧ h9.next ≤ bf ∧ h9.next ≤ bt ∧ h9.next ≤ bs) := numbers_ok
 cases hm : restV R.known load with
 | none =>
  rw [hm] at hfi
  have e0 : Ext h h := Ext.refl _
  refine Runs.intro aFunc76 rfl rfl rfl rfl fun rest => ?_;apply gS;refine gR rfl ?_;refine GoR.box rfl rfl rfl rfl rfl rfl fun h0 x0 f0 => ?_;replace e0 := e0.trans x0;refine GoR.box rfl rfl rfl rfl rfl rfl fun h1 x1 f1 => ?_;replace f0 := f0.ext x1;replace e0 := e0.trans x1;refine gP ?_;apply gE;apply gS;refine gR rfl ?_;refine GoR.call rfl rfl (aCF aFunc111 rfl) (hna) ?_ (by rintro _ _ ⟨bf, bt, bs, q, _, NA, l1, l2, l3⟩; cases q);rintro v2 h2 ⟨bf, bt, bs, q, x2, NA, l1, l2, l3⟩;cases q;refine ⟨_, rfl, ?_⟩;replace f1 := f1.ext x2;replace f0 := f0.ext x2;replace e0 := e0.trans x2;refine gP ?_;refine gO rfl rfl (aOp_build zt145 hu145 pl145 rfl rfl) rfl ?_;refine GoR.call rfl rfl (aCF aFunc110 rfl) (hfi e0 NA f0 f1) ?_ np;rintro v3 h3 ⟨q, x3⟩;cases q;refine ⟨_, rfl, ?_⟩;replace f1 := f1.ext x3;replace f0 := f0.ext x3;replace e0 := e0.trans x3;iterate 5 refine gP ?_
  apply gE;apply gS;refine gR rfl ?_;iterate 2 refine gP ?_
  refine GoR.callP rfl rfl (aCF aFunc91 rfl) (refuse_yes _ _) (by rintro _ _ ⟨q, _⟩; cases q) ?_;rintro chain h4 ⟨q, x4⟩
  have q := AEnd.pan.inj q
  subst q;replace f1 := f1.ext x4;replace f0 := f0.ext x4;replace e0 := e0.trans x4;exact FLeft.pan (⟨rfl, e0⟩)
 | some l =>
  rw [hm] at hfi
  have e0 : Ext h h := Ext.refl _
  refine Runs.intro aFunc76 rfl rfl rfl rfl fun rest => ?_;apply gS;refine gR rfl ?_;refine GoR.box rfl rfl rfl rfl rfl rfl fun h0 x0 f0 => ?_;replace e0 := e0.trans x0;refine GoR.box rfl rfl rfl rfl rfl rfl fun h1 x1 f1 => ?_;replace f0 := f0.ext x1;replace e0 := e0.trans x1;refine gP ?_;apply gE;apply gS;refine gR rfl ?_;refine GoR.call rfl rfl (aCF aFunc111 rfl) (hna) ?_ (by rintro _ _ ⟨bf, bt, bs, q, _, NA, l1, l2, l3⟩; cases q);rintro v2 h2 ⟨bf, bt, bs, q, x2, NA, l1, l2, l3⟩;cases q;refine ⟨_, rfl, ?_⟩;replace f1 := f1.ext x2;replace f0 := f0.ext x2;replace e0 := e0.trans x2;refine gP ?_;refine gO rfl rfl (aOp_build zt145 hu145 pl145 rfl rfl) rfl ?_;refine GoR.call rfl rfl (aCF aFunc110 rfl) (hfi e0 NA f0 f1) ?_ np;rintro v3 h3 ⟨q, x3⟩;cases q;refine ⟨_, rfl, ?_⟩;replace e0 := e0.trans x3;iterate 5 refine gP ?_
  apply gE;apply gS;refine gR rfl ?_;iterate 2 refine gP ?_
  refine GoR.call rfl rfl (aCF aFunc91 rfl) (refuse_no _ _) ?_ np;rintro v4 h4 ⟨q, x4⟩;cases q;refine ⟨_, rfl, ?_⟩;replace e0 := e0.trans x4;apply gE;apply gS;refine gR rfl ?_;iterate 2 refine gP ?_
  apply gE;exact gW Tryz.func76 rfl rfl ⟨rfl, e0⟩
end Go.Proofs.YtkcimfopboelaaaGreat

namespace Go.Proofs.YtkcimfopboelaaaGreat
open Go Go.AbsE
set_option linter.unusedSimpArgs false
set_option maxRecDepth 100000
set_option maxHeartbeats 0
set_option linter.unusedVariables false
theorem bitsV_succ (n : Nat) (p : Nat → Bool) : bitsV (n + 1) p = if p n then bitsV n p ||| 2 ^ n else bitsV n p := by
 unfold bitsV
 rw [List.range_succ, List.foldl_append]
 rfl
theorem bitsV_lt (p : Nat → Bool) : ∀ n, bitsV n p < 2 ^ n
 | 0 => by simp [bitsV]
 | n + 1 => by
  have ih := bitsV_lt p n
  rw [bitsV_succ]
  have h2 : 2 ^ (n + 1) = 2 ^ n * 2 := Nat.pow_succ ..
  split
  ·exact Nat.or_lt_two_pow (by omega) (by omega)
  ·omega
theorem bitsV_test (p : Nat → Bool) : ∀ n i, (bitsV n p).testBit i = (decide (i < n) && p i)
 | 0, i => by simp [bitsV]
 | n + 1, i => by
  have ih := bitsV_test p n i
  rw [bitsV_succ]
  split
  ·rename_i hp
   rw [Nat.testBit_or, ih, Nat.testBit_two_pow]
   by_cases q : n = i
   ·subst q; simp [hp]
   ·by_cases z : i < n
    ·simp [z, q]; omega
    ·simp [z, q]; omega
  ·rename_i hp
   rw [ih]
   by_cases q : n = i
   ·subst q; simp [hp]
   ·by_cases z : i < n
    ·simp [z]; omega
    ·simp [z]; omega
theorem padZ_at {hs : List Int} (h : hs.length ≤ 10) {i : Nat} (hi : i < 10) : (padZ hs)[i]? = some ((hs[i]?).getD 0) := by
 unfold padZ
 by_cases q : i < hs.length
 ·rw [List.getElem?_append_left q]
  simp [q]
 ·rw [List.getElem?_append_right (by omega), List.getElem?_replicate];rw [if_pos (by omega)]
  simp [q]
theorem ft_at {f : Ft} (h : f.hs.length ≤ 10) {i : Nat} (hi : i < 10) {o : Nat} (ho : o = 4 + i * 1) : (AVal.int .i64 f.x.height :: .int .i64 f.x.stiff :: .int .i64 f.x.rise :: .int .i64 f.x.full :: i64s (padZ f.hs))[o]? = some (.int .i64 ((f.hs[i]?).getD 0)) := by
 rw [ho, show 4 + i * 1 = i + 1 + 1 + 1 + 1 by omega]
 simp only [List.getElem?_cons_succ]
 unfold i64s
 rw [List.getElem?_map, padZ_at h hi]
 rfl
theorem above108_ok {f : Ft} (h2 : f.hs.length ≤ 10) {i : Nat} (hi : i < 10) {b : Nat} {h : AH} (f0 : Has h b (.cells .plain [.int .i64 i] 3)) : Runs Tryz.prog 108 [.agg f.cells, .ptr b 0] h (fun en h' => en = .ret (.bool (above i f)) ∧ Ext h h') := by
 have hbl := f0.1
 have hfc : f.cells = .int .i64 f.x.height :: .int .i64 f.x.stiff :: .int .i64 f.x.rise :: .int .i64 f.x.full :: i64s (padZ f.hs) := rfl
 have hat := fun {o} ho => ft_at h2 hi (o := o) ho
 unfold above
 rw [hfc]
 have e0 : Ext h h := Ext.refl _
 refine Runs.intro aFunc108 rfl rfl rfl rfl fun rest => ?_;apply gS;refine gR rfl ?_;refine GoR.box rfl rfl rfl rfl rfl rfl fun h3 x3 f3 => ?_;replace f0 := f0.ext x3;replace e0 := e0.trans x3;refine gP ?_;apply gE;apply gS;refine gR rfl ?_;refine gO rfl rfl (ld3 rfl f0 rfl) rfl ?_;refine gO rfl rfl (fa87_1 rfl) rfl ?_;refine gO rfl rfl (aOp_indexAddrArr (i := i) Tryz.underlying85 sz3 rfl rfl (Nat.ble_eq_true_of_le (by omega))) rfl ?_;refine gO rfl rfl (ld3 rfl f3 (hat (by omega))) rfl ?_;refine gO rfl rfl (aOp_geq rfl rfl rfl) rfl ?_;refine gP ?_;apply gE;exact gW Tryz.func108 rfl rfl ⟨rfl, e0⟩
theorem height54_ok {f : Ft} (h2 : f.hs.length ≤ 10) {i : Nat} (hi : i < 10) {b : Nat} {h : AH} (f0 : Has h b (.cells .plain [.int .i64 i] 3)) : Runs Tryz.prog 54 [.agg f.cells, .ptr b 0] h (fun en h' => en = .ret (.int .i64 ((f.hs[i]?).getD 0)) ∧ Ext h h') := by
 have hbl := f0.1
 have hfc : f.cells = .int .i64 f.x.height :: .int .i64 f.x.stiff :: .int .i64 f.x.rise :: .int .i64 f.x.full :: i64s (padZ f.hs) := rfl
 have hat := fun {o} ho => ft_at h2 hi (o := o) ho
 rw [hfc]
 have e0 : Ext h h := Ext.refl _
 refine Runs.intro aFunc54 rfl rfl rfl rfl fun rest => ?_;apply gS;refine gR rfl ?_;refine GoR.box rfl rfl rfl rfl rfl rfl fun h3 x3 f3 => ?_;replace f0 := f0.ext x3;replace e0 := e0.trans x3;refine gP ?_;apply gE;apply gS;refine gR rfl ?_;refine gO rfl rfl (ld3 rfl f0 rfl) rfl ?_;refine gO rfl rfl (fa87_1 rfl) rfl ?_;refine gO rfl rfl (aOp_indexAddrArr (i := i) Tryz.underlying85 sz3 rfl rfl (Nat.ble_eq_true_of_le (by omega))) rfl ?_;refine gO rfl rfl (ld3 rfl f3 (hat (by omega))) rfl ?_;refine gP ?_;apply gE;exact gW Tryz.func54 rfl rfl ⟨rfl, e0⟩
theorem sinks61_ok {f : Ft} (h1 : f.x.In 600) {load : Int} (hl : 0 ≤ load ∧ load ≤ 60) {b : Nat} {h : AH} (f0 : Has h b (.cells .plain [.int .i64 load] 3)) : Runs Tryz.prog 61 [.agg f.cells, .ptr b 0] h (fun en h' => en = .ret (.int .i64 (f.x.sinks load)) ∧ Ext h h') := by
 have hbl := f0.1
 have hb := fun h => sinks_ok (x := f.x) (load := load) (by omega) h1.s (h := h)
 have hfc : f.cells = .int .i64 f.x.height :: .int .i64 f.x.stiff :: .int .i64 f.x.rise :: .int .i64 f.x.full :: i64s (padZ f.hs) := rfl
 unfold Pc.cells at hb
 rw [hfc]
 have e0 : Ext h h := Ext.refl _
 refine Runs.intro aFunc61 rfl rfl rfl rfl fun rest => ?_;apply gS;refine gR rfl ?_;refine GoR.box rfl rfl rfl rfl rfl rfl fun h2 x2 f2 => ?_;replace f0 := f0.ext x2;replace e0 := e0.trans x2;refine gP ?_;apply gE;apply gS;refine gR rfl ?_;refine gO rfl rfl (fa87_0 rfl) rfl ?_;refine gO rfl rfl (ld84 rfl f2 rfl) rfl ?_;refine gO rfl rfl (ld3 rfl f0 rfl) rfl ?_;refine GoR.call rfl rfl (aCF aFunc62 rfl) (hb _) ?_ np;rintro v3 h3 ⟨q, x3⟩;cases q;refine ⟨_, rfl, ?_⟩;replace e0 := e0.trans x3;refine gP ?_;apply gE;exact gW Tryz.func61 rfl rfl ⟨rfl, e0⟩
theorem end117_ok {f : Ft} {h : AH} : Runs Tryz.prog 117 [.agg f.cells] h (fun en h' => en = .ret (.int .i64 f.x.height) ∧ Ext h h') := by
 have hfc : f.cells = .int .i64 f.x.height :: .int .i64 f.x.stiff :: .int .i64 f.x.rise :: .int .i64 f.x.full :: i64s (padZ f.hs) := rfl
 rw [hfc]
 have e0 : Ext h h := Ext.refl _
 refine Runs.intro aFunc117 rfl rfl rfl rfl fun rest => ?_;apply gS;refine gR rfl ?_;refine GoR.box rfl rfl rfl rfl rfl rfl fun h0 x0 f0 => ?_;replace e0 := e0.trans x0;refine gP ?_;apply gE;apply gS;refine gR rfl ?_;refine gO rfl rfl (fa87_0 rfl) rfl ?_;refine gO rfl rfl (fa84_0 rfl) rfl ?_;refine gO rfl rfl (ld3 rfl f0 rfl) rfl ?_;refine gP ?_;apply gE;exact gW Tryz.func117 rfl rfl ⟨rfl, e0⟩
theorem pow_small {i : Nat} (h : i < 10) : 2 ^ i ≤ 512 := by
 have : 2 ^ i ≤ 2 ^ 9 := Nat.pow_le_pow_right (by omega) (by omega)
 omega
theorem below_ok {R : RoadV} (O : R.Ok) (hp : R.possible = true) {lo : Nat} {gp ge : AVal} {h : AH} (A : GroundAt h R lo gp ge) : Runs Tryz.prog 70 [.agg [gp, ge]] h (fun en h' => en = .ret (.tuple [.int .i64 (R.surely : Nat), .int .i64 (R.perhaps : Nat)]) ∧ Ext h h') := by
 have hne := O.ne
 have hlenE := A.esl.len
 rw [List.length_map] at hlenE
 unfold RoadV.surely RoadV.perhaps
 obtain ⟨P1, hP1⟩ : ∃ P : Nat → Bool, P = fun i => !perhapsV R.known (above i) := ⟨_, rfl⟩
 obtain ⟨P2, hP2⟩ : ∃ P : Nat → Bool, P = fun i => !alwaysV R.known (above i) := ⟨_, rfl⟩
 rw [← hP1, ← hP2]
 have e0 : Ext h h := Ext.refl _
 refine Runs.intro aFunc70 rfl rfl rfl rfl fun rest => ?_;apply gS;refine gR rfl ?_;refine GoR.box rfl rfl rfl rfl rfl rfl fun h0 x0 f0 => ?_;have := e0.1;replace e0 := e0.trans x0;have := f0.1;iterate 2 refine gP ?_
 apply gE;apply gS;refine gR rfl ?_;refine gO rfl rfl (ld77 rfl f0 rfl) rfl ?_;refine GoR.call rfl rfl (aCF aFunc52 rfl) (truths_yes O hp (A.ext e0)) ?_ (by rintro _ _ ⟨bm, L, q, _, KK, e9⟩; cases q);rintro v1 h1 ⟨bm, L, q, x1, KK, e9⟩;cases q;refine ⟨_, rfl, ?_⟩;have := e0.1;replace f0 := f0.ext x1;replace e0 := e0.trans x1;refine gP ?_;apply gE;iterate 2 apply gS
 refine gR rfl ?_;refine gO rfl rfl (fa77_1 rfl) rfl ?_;refine gO rfl rfl (ld75 rfl f0 rfl) rfl ?_;refine gO rfl rfl (aOp_lenSlice Tryz.underlying75 rfl (by assumption)) rfl ?_;refine gP ?_;apply gE;refine Go.block noJ_ok ?_
 have hb0 := f0.1
 have hx0 := e0.1
 refine Go.loopKeep (fun i : Nat => [(1, .ptr h.next 0), (2, .int .i64 (bitsV i P1 : Nat)), (3, .int .i64 (bitsV i P2 : Nat)), (4, .map bm), (11, .int .i64 R.es.length), (12, .int .i64 (i : Nat))])
  (fun m i h' => m + i = R.es.length ∧ Ext h h' ∧ Ext h1 h') (n := R.es.length) 0 ⟨rfl, rfl, rfl, rfl, rfl, rfl, trivial⟩ ⟨rfl, e0, e9⟩ ?_
 clear e0 f0 e9;rintro m i hc ⟨hm, e0, e9⟩ again
 have n0 := e0.1
 have n9 := e9.1
 by_cases hi : i < R.es.length
 ·have hi10 : i < 10 := by omega
  have hpe : ∀ {h9 : AH} {b : Nat}, Ext h1 h9 → Has h9 b (.cells .plain [.int .i64 i] 3) → Runs Tryz.prog 106 [.map bm, .func (.func 108) [] [.ptr b 0]] h9 (fun en h' => en = .ret (.bool (perhapsV R.known (above i))) ∧ Ext h9 h') := fun e f => perhaps_ok O (KK.ext e) aFunc108 _ fun f' i h' hf e' => above108_ok (known_in O hf).2 hi10 (f.ext e')
  have hal : ∀ {h9 : AH} {b : Nat}, Ext h1 h9 → Has h9 b (.cells .plain [.int .i64 i] 3) → Runs Tryz.prog 105 [.map bm, .func (.func 108) [] [.ptr b 0]] h9 (fun en h' => en = .ret (.bool (alwaysV R.known (above i))) ∧ Ext h9 h') := fun e f => always_ok O (KK.ext e) aFunc108 _ fun f' i h' hf e' => above108_ok (known_in O hf).2 hi10 (f.ext e')
  have hps := pow_small hi10
  have b1 := bitsV_lt P1 i
  have b2 := bitsV_lt P2 i
  have s1 := bitsV_succ i P1
  have s2 := bitsV_succ i P2
  have c1 : P1 i = !perhapsV R.known (above i) := by rw [hP1]
  have c2 : P2 i = !alwaysV R.known (above i) := by rw [hP2]
  obtain ⟨B1, hB1⟩ : ∃ B, bitsV i P1 = B := ⟨_, rfl⟩
  obtain ⟨B2, hB2⟩ : ∃ B, bitsV i P2 = B := ⟨_, rfl⟩
  obtain ⟨w, hw⟩ : ∃ w, 2 ^ i = w := ⟨_, rfl⟩
  have hsh : (1 : Int) * 2 ^ i = ((w : Nat) : Int) := by rw [← hw]; simp
  rw [hB1] at b1 s1;rw [hB2] at b2 s2;rw [hw] at b1 s1 b2 s2 hps;rw [hB1, hB2]
  cases v1 : perhapsV R.known (above i) with
  | true =>
   rw [v1] at hpe c1;rw [c1] at s1
   cases v2 : alwaysV R.known (above i) with
   | true =>
    rw [v2] at hal c2;rw [c2] at s2;apply gS;refine gR rfl ?_;refine gO rfl rfl (kLT rfl rfl) rfl ?_;apply gE;apply gS;refine gC (b := true) rfl ?_;refine gD ?_;apply gS;refine Go.block noJ_ok ?_;apply gS;refine gR rfl ?_;refine gP ?_;refine GoR.alloc rfl rfl rfl zt3 rfl rfl fun h2 x2 f2 => ?_;have := e0.1;have := e9.1;replace e0 := e0.trans x2;replace e9 := e9.trans x2;have := f2.1;refine GoR.store rfl rfl rfl rfl rfl rfl f2 rfl sz3 rfl rfl rfl fun h3 u3 => ?_;replace f2 := u3.has f2;replace e0 := e0.upd u3 (by omega);replace e9 := e9.upd u3 (by omega);apply gE;apply gS;refine gR rfl ?_;iterate 2 refine gP ?_
    apply gE;iterate 2 apply gS
    refine gR rfl ?_;iterate 2 refine gP ?_
    refine GoR.call rfl rfl (aCF aFunc106 rfl) (hpe e9 (by assumption)) ?_ np;rintro v4 h4 ⟨q, x4⟩;cases q;refine ⟨_, rfl, ?_⟩;replace f2 := f2.ext x4;replace e0 := e0.trans x4;replace e9 := e9.trans x4;refine gP ?_;apply gE;refine gC (b := false) rfl ?_;refine gD ?_;apply gS;refine gR rfl ?_;iterate 2 refine gP ?_
    refine GoR.call rfl rfl (aCF aFunc105 rfl) (hal e9 (by assumption)) ?_ np;rintro v5 h5 ⟨q, x5⟩;cases q;refine ⟨_, rfl, ?_⟩;replace f2 := f2.ext x5;replace e0 := e0.trans x5;replace e9 := e9.trans x5;refine gP ?_;apply gE;refine gC (b := false) rfl ?_;refine gD ?_;refine Go.inBlock noJ_ok ?_;refine gR rfl ?_;refine gO rfl rfl (aA rfl rfl) rfl ?_;refine gP ?_;apply gE;exact again (m - 1) (i + 1) _ _ (by omega) ⟨rfl, by rw [s1]; rfl, by rw [s2]; rfl, rfl, rfl, rfl, trivial⟩ ⟨by omega, e0, e9⟩
   | false =>
    rw [v2] at hal c2;rw [c2] at s2;apply gS;refine gR rfl ?_;refine gO rfl rfl (kLT rfl rfl) rfl ?_;apply gE;apply gS;refine gC (b := true) rfl ?_;refine gD ?_;apply gS;refine Go.block noJ_ok ?_;apply gS;refine gR rfl ?_;refine gP ?_;refine GoR.alloc rfl rfl rfl zt3 rfl rfl fun h2 x2 f2 => ?_;have := e0.1;have := e9.1;replace e0 := e0.trans x2;replace e9 := e9.trans x2;have := f2.1;refine GoR.store rfl rfl rfl rfl rfl rfl f2 rfl sz3 rfl rfl rfl fun h3 u3 => ?_;replace f2 := u3.has f2;replace e0 := e0.upd u3 (by omega);replace e9 := e9.upd u3 (by omega);apply gE;apply gS;refine gR rfl ?_;iterate 2 refine gP ?_
    apply gE;iterate 2 apply gS
    refine gR rfl ?_;iterate 2 refine gP ?_
    refine GoR.call rfl rfl (aCF aFunc106 rfl) (hpe e9 (by assumption)) ?_ np;rintro v4 h4 ⟨q, x4⟩;cases q;refine ⟨_, rfl, ?_⟩;replace f2 := f2.ext x4;replace e0 := e0.trans x4;replace e9 := e9.trans x4;refine gP ?_;apply gE;refine gC (b := false) rfl ?_;refine gD ?_;apply gS;refine gR rfl ?_;iterate 2 refine gP ?_
    refine GoR.call rfl rfl (aCF aFunc105 rfl) (hal e9 (by assumption)) ?_ np;rintro v5 h5 ⟨q, x5⟩;cases q;refine ⟨_, rfl, ?_⟩;replace f2 := f2.ext x5;replace e0 := e0.trans x5;replace e9 := e9.trans x5;refine gP ?_;apply gE;refine gC (b := true) rfl ?_;refine gR rfl ?_;refine gP ?_;refine gO rfl rfl (ld3 rfl f2 rfl) rfl ?_;refine gO rfl rfl (aOp_shl rfl rfl (i := i) (by omega) hsh (by omega)) rfl ?_;refine gO rfl rfl (aOp_orNat rfl rfl (by omega) (by omega) rfl) rfl ?_;refine gP ?_;apply gE;refine Go.inBlock noJ_ok ?_;refine gR rfl ?_;refine gO rfl rfl (aA rfl rfl) rfl ?_;refine gP ?_;apply gE;exact again (m - 1) (i + 1) _ _ (by omega) ⟨rfl, by rw [s1]; rfl, by rw [s2]; rfl, rfl, rfl, rfl, trivial⟩ ⟨by omega, e0, e9⟩
  | false =>
   rw [v1] at hpe c1;rw [c1] at s1
   cases v2 : alwaysV R.known (above i) with
   | true =>
    rw [v2] at hal c2;rw [c2] at s2;apply gS;refine gR rfl ?_;refine gO rfl rfl (kLT rfl rfl) rfl ?_;apply gE;apply gS;refine gC (b := true) rfl ?_;refine gD ?_;apply gS;refine Go.block noJ_ok ?_;apply gS;refine gR rfl ?_;refine gP ?_;refine GoR.alloc rfl rfl rfl zt3 rfl rfl fun h2 x2 f2 => ?_;have := e0.1;have := e9.1;replace e0 := e0.trans x2;replace e9 := e9.trans x2;have := f2.1;refine GoR.store rfl rfl rfl rfl rfl rfl f2 rfl sz3 rfl rfl rfl fun h3 u3 => ?_;replace f2 := u3.has f2;replace e0 := e0.upd u3 (by omega);replace e9 := e9.upd u3 (by omega);apply gE;apply gS;refine gR rfl ?_;iterate 2 refine gP ?_
    apply gE;iterate 2 apply gS
    refine gR rfl ?_;iterate 2 refine gP ?_
    refine GoR.call rfl rfl (aCF aFunc106 rfl) (hpe e9 (by assumption)) ?_ np;rintro v4 h4 ⟨q, x4⟩;cases q;refine ⟨_, rfl, ?_⟩;replace f2 := f2.ext x4;replace e0 := e0.trans x4;replace e9 := e9.trans x4;refine gP ?_;apply gE;refine gC (b := true) rfl ?_;refine gR rfl ?_;refine gP ?_;refine gO rfl rfl (ld3 rfl f2 rfl) rfl ?_;refine gO rfl rfl (aOp_shl rfl rfl (i := i) (by omega) hsh (by omega)) rfl ?_;refine gO rfl rfl (aOp_orNat rfl rfl (by omega) (by omega) rfl) rfl ?_;refine gP ?_;apply gE;apply gS;refine gR rfl ?_;iterate 2 refine gP ?_
    refine GoR.call rfl rfl (aCF aFunc105 rfl) (hal e9 (by assumption)) ?_ np;rintro v5 h5 ⟨q, x5⟩;cases q;refine ⟨_, rfl, ?_⟩;replace f2 := f2.ext x5;replace e0 := e0.trans x5;replace e9 := e9.trans x5;refine gP ?_;apply gE;refine gC (b := false) rfl ?_;refine gD ?_;refine Go.inBlock noJ_ok ?_;refine gR rfl ?_;refine gO rfl rfl (aA rfl rfl) rfl ?_;refine gP ?_;apply gE;exact again (m - 1) (i + 1) _ _ (by omega) ⟨rfl, by rw [s1]; rfl, by rw [s2]; rfl, rfl, rfl, rfl, trivial⟩ ⟨by omega, e0, e9⟩
   | false =>
    rw [v2] at hal c2;rw [c2] at s2;apply gS;refine gR rfl ?_;refine gO rfl rfl (kLT rfl rfl) rfl ?_;apply gE;apply gS;refine gC (b := true) rfl ?_;refine gD ?_;apply gS;refine Go.block noJ_ok ?_;apply gS;refine gR rfl ?_;refine gP ?_;refine GoR.alloc rfl rfl rfl zt3 rfl rfl fun h2 x2 f2 => ?_;have := e0.1;have := e9.1;replace e0 := e0.trans x2;replace e9 := e9.trans x2;have := f2.1;refine GoR.store rfl rfl rfl rfl rfl rfl f2 rfl sz3 rfl rfl rfl fun h3 u3 => ?_;replace f2 := u3.has f2;replace e0 := e0.upd u3 (by omega);replace e9 := e9.upd u3 (by omega);apply gE;apply gS;refine gR rfl ?_;iterate 2 refine gP ?_
    apply gE;iterate 2 apply gS
    refine gR rfl ?_;iterate 2 refine gP ?_
    refine GoR.call rfl rfl (aCF aFunc106 rfl) (hpe e9 (by assumption)) ?_ np;rintro v4 h4 ⟨q, x4⟩;cases q;refine ⟨_, rfl, ?_⟩;replace f2 := f2.ext x4;replace e0 := e0.trans x4;replace e9 := e9.trans x4;refine gP ?_;apply gE;refine gC (b := true) rfl ?_;refine gR rfl ?_;refine gP ?_;refine gO rfl rfl (ld3 rfl f2 rfl) rfl ?_;refine gO rfl rfl (aOp_shl rfl rfl (i := i) (by omega) hsh (by omega)) rfl ?_;refine gO rfl rfl (aOp_orNat rfl rfl (by omega) (by omega) rfl) rfl ?_;refine gP ?_;apply gE;apply gS;refine gR rfl ?_;iterate 2 refine gP ?_
    refine GoR.call rfl rfl (aCF aFunc105 rfl) (hal e9 (by assumption)) ?_ np;rintro v5 h5 ⟨q, x5⟩;cases q;refine ⟨_, rfl, ?_⟩;replace f2 := f2.ext x5;replace e0 := e0.trans x5;replace e9 := e9.trans x5;refine gP ?_;apply gE;refine gC (b := true) rfl ?_;refine gR rfl ?_;refine gP ?_;refine gO rfl rfl (ld3 rfl f2 rfl) rfl ?_;refine gO rfl rfl (aOp_shl rfl rfl (i := i) (by omega) hsh (by omega)) rfl ?_;refine gO rfl rfl (aOp_orNat rfl rfl (by omega) (by omega) rfl) rfl ?_;refine gP ?_;apply gE;refine Go.inBlock noJ_ok ?_;refine gR rfl ?_;refine gO rfl rfl (aA rfl rfl) rfl ?_;refine gP ?_;apply gE;exact again (m - 1) (i + 1) _ _ (by omega) ⟨rfl, by rw [s1]; rfl, by rw [s2]; rfl, rfl, rfl, rfl, trivial⟩ ⟨by omega, e0, e9⟩
 ·have hin : i = R.es.length := by omega
  rw [hin];clear e9;apply gS;refine gR rfl ?_;refine gO rfl rfl (kLF rfl rfl) rfl ?_;apply gE;apply gS;refine gC (b := false) rfl ?_;refine gD ?_;apply gS;refine gR rfl ?_;iterate 4 refine gP ?_
  apply gE;exact gW Tryz.func70 rfl rfl ⟨rfl, e0⟩
theorem least119_ok {p : Int × Int} {n : Int} {b : Nat} {h : AH} (f0 : Has h b (.cells .plain [.int .i64 n] 3)) : Runs Tryz.prog 119 [.agg (spC p), .ptr b 0] h (fun en h' => en = .ret (.bool (p.1 == n)) ∧ Ext h h') := by
 have hbl := f0.1
 unfold spC
 by_cases q : p.1 = n
 ·rw [show (p.1 == n) = true from by simp [q]]
  have e0 : Ext h h := Ext.refl _
  refine Runs.intro aFunc119 rfl rfl rfl rfl fun rest => ?_;apply gS;refine gR rfl ?_;refine GoR.box rfl rfl rfl rfl rfl rfl fun h1 x1 f1 => ?_;replace f0 := f0.ext x1;replace e0 := e0.trans x1;refine gP ?_;apply gE;apply gS;refine gR rfl ?_;refine gO rfl rfl (fa29_0 rfl) rfl ?_;refine gO rfl rfl (ld3 rfl f1 rfl) rfl ?_;refine gO rfl rfl (ld3 rfl f0 rfl) rfl ?_;refine gO rfl rfl (kET rfl rfl) rfl ?_;refine gP ?_;apply gE;exact gW Tryz.func119 rfl rfl ⟨rfl, e0⟩
 ·rw [show (p.1 == n) = false from by simp [q]]
  have e0 : Ext h h := Ext.refl _
  refine Runs.intro aFunc119 rfl rfl rfl rfl fun rest => ?_;apply gS;refine gR rfl ?_;refine GoR.box rfl rfl rfl rfl rfl rfl fun h1 x1 f1 => ?_;replace f0 := f0.ext x1;replace e0 := e0.trans x1;refine gP ?_;apply gE;apply gS;refine gR rfl ?_;refine gO rfl rfl (fa29_0 rfl) rfl ?_;refine gO rfl rfl (ld3 rfl f1 rfl) rfl ?_;refine gO rfl rfl (ld3 rfl f0 rfl) rfl ?_;refine gO rfl rfl (kEF rfl rfl) rfl ?_;refine gP ?_;apply gE;exact gW Tryz.func119 rfl rfl ⟨rfl, e0⟩
theorem weak_ok {R : RoadV} (O : R.Ok) (hp : R.possible = true) {lo : Nat} {gp ge : AVal} {h : AH} (A : GroundAt h R lo gp ge) : Runs Tryz.prog 78 [.agg [gp, ge]] h (fun en h' => en = .ret (.int .i64 R.weak) ∧ Ext h h') := by
 have hne := O.ne
 have hnp := O.np
 have hlenP := A.psl.len
 rw [List.length_map] at hlenP
 have hen : R.ends.length = R.ps.length := by unfold RoadV.ends; rw [List.length_map, List.length_range]
 have hat : ∀ {i : Nat}, i < R.ps.length → R.ends[i]? = some (spreadV R.known i fun f => f.x.height) := fun hi => by
  unfold RoadV.ends
  rw [List.getElem?_map, List.getElem?_range hi]
  rfl
 unfold RoadV.weak
 have e0 : Ext h h := Ext.refl _
 refine Runs.intro aFunc78 rfl rfl rfl rfl fun rest => ?_;apply gS;refine gR rfl ?_;refine GoR.box rfl rfl rfl rfl rfl rfl fun h0 x0 f0 => ?_;have := e0.1;replace e0 := e0.trans x0;have := f0.1;refine gP ?_;apply gE;apply gS;refine gR rfl ?_;refine gO rfl rfl (ld77 rfl f0 rfl) rfl ?_;refine GoR.call rfl rfl (aCF aFunc52 rfl) (truths_yes O hp (A.ext e0)) ?_ (by rintro _ _ ⟨bm, L, q, _, KK, e9⟩; cases q);rintro v1 h1 ⟨bm, L, q, x1, KK, e9⟩;cases q;refine ⟨_, rfl, ?_⟩;have := e0.1;replace f0 := f0.ext x1;replace e0 := e0.trans x1;refine gP ?_;apply gE;apply gS;refine gR rfl ?_;refine gP ?_;apply gE;iterate 2 apply gS
 refine gR rfl ?_;refine gO rfl rfl (fa77_0 rfl) rfl ?_;refine gO rfl rfl (ld74 rfl f0 rfl) rfl ?_;refine gO rfl rfl (aOp_lenSlice Tryz.underlying74 rfl (by assumption)) rfl ?_;refine gP ?_;apply gE;refine Go.block noJ_ok ?_
 have hb0 := f0.1
 have hx0 := e0.1
 refine Go.loopKeep (fun a : Nat × AVal => [(1, .ptr h.next 0), (3, .map bm), (4, a.2), (11, .int .i64 R.ps.length), (12, .int .i64 (a.1 : Nat))])
  (fun m a h' => m + a.1 = R.ps.length ∧ Ext h h' ∧ Ext h1 h' ∧ Grow h' 29 2 h1.next a.2 a.1 ((R.ends.take a.1).flatMap spC)) (n := R.ps.length) (0, .nilslice) ⟨rfl, rfl, rfl, rfl, rfl, trivial⟩ ⟨rfl, e0, e9, Grow.nil _ _ _ _⟩ ?_
 clear e0 f0 e9;rintro m ⟨i, s⟩ hc ⟨hm, e0, e9, gr⟩ again
 dsimp only at hm gr ⊢
 have n0 := e0.1
 have n9 := e9.1
 have e8 : Ext hc hc := Ext.refl _
 by_cases hi : i < R.ps.length
 ·have hsp : ∀ {h9 : AH}, Ext h1 h9 → Runs Tryz.prog 53 [.map bm, .int .i64 i, .func (.func 117) [] []] h9 (fun en h' => en = .ret (.agg (spC (spreadV R.known i fun f => f.x.height))) ∧ Ext h9 h') := fun e => spread_ok O (KK.ext e) hi (caps := []) aFunc117 rfl _ (fun f hf => by
   have := (known_in O hf).1.h
   have := (known_in O hf).1.f
   unfold I64
   omega) fun f h' hf e' => end117_ok
  obtain ⟨sp, hspd⟩ : ∃ sp, spreadV R.known i (fun f => f.x.height) = sp := ⟨_, rfl⟩
  have hnx := take_flat spC (hat hi)
  rw [hspd] at hsp hnx
  unfold spC at hsp
  apply gS;refine gR rfl ?_;refine gO rfl rfl (kLT rfl rfl) rfl ?_;apply gE;apply gS;refine gC (b := true) rfl ?_;refine gD ?_;apply gS;refine Go.block noJ_ok ?_;apply gS;refine gR rfl ?_;iterate 2 refine gP ?_
  apply gE;refine gR rfl ?_;iterate 3 refine gP ?_
  refine GoR.call rfl rfl (aCF aFunc53 rfl) (hsp e9) ?_ np;rintro v2 h2 ⟨q, x2⟩;cases q;refine ⟨_, rfl, ?_⟩;replace e0 := e0.trans x2;replace e9 := e9.trans x2;replace e8 := e8.trans x2;refine GoR.buildSl rfl rfl (ps := [(0, .agg [.int .i64 sp.1, .int .i64 sp.2])]) (cs := [.int .i64 sp.1, .int .i64 sp.2]) Tryz.underlying147 rfl sz29 zt29 rfl rfl rfl rfl fun h3 x3 f3 => ?_;have := e0.1;have := e9.1;have := e8.1;replace e0 := e0.trans x3;replace e9 := e9.trans x3;replace e8 := e8.trans x3;have := f3.1;refine GoR.append1F rfl rfl rfl Tryz.underlying147 Tryz.underlying147 sz29 by29 zt29 rfl rfl rfl rfl f3 rfl rfl (gr.ext e8) (by omega) rfl rfl fun s4 h4 y4 g4 => ?_;have := f3.1;have := e0.1;have := e9.1;have := e8.1;clear f3;replace e0 := y4.low e0 (fun b q => by have := (grow_own (gr.ext e8) q).1; omega);replace e9 := y4.low e9 (fun b q => by have := (grow_own (gr.ext e8) q).1; omega);clear e8;have := y4.1;refine gP ?_;apply gE;refine Go.inBlock noJ_ok ?_;refine gR rfl ?_;refine gO rfl rfl (aA rfl rfl) rfl ?_;refine gP ?_;apply gE;exact again (m - 1) (i + 1, s4) _ _ (by omega) ⟨rfl, rfl, rfl, rfl, rfl, trivial⟩ ⟨by dsimp only; omega, e0, e9, by dsimp only; rw [hnx]; exact g4.low (by have := e9.1; omega)⟩
 ·have hin : i = R.ps.length := by omega
  rw [hin, ← hen, List.take_length] at gr
  have hsl : SliceOf hc 2 s (R.ends.map spC) := grow_slice (f := spC) (sz := 2) (fun _ => rfl) rfl gr
  have hidx : ∀ {h9 : AH} {b : Nat}, Ext hc h9 → Has h9 b (.cells .plain [.int .i64 (joinL R.ends).1] 3) → Runs Tryz.prog 118 [s, .func (.func 119) [] [.ptr b 0]] h9 (fun en h' => en = .ret (.int .i64 (match R.ends.findIdx? (fun s => s.1 == (joinL R.ends).1) with | some i => (i : Int) | none => -1)) ∧ Ext h9 h') := fun e f => idx118_at (caps := [.ptr _ 0]) aFunc119 _ (hsl.ext e) (by omega) fun x h' hx e' => least119_ok (f.ext e')
  clear e9;apply gS;refine gR rfl ?_;refine gO rfl rfl (kLF rfl rfl) rfl ?_;apply gE;apply gS;refine gC (b := false) rfl ?_;refine gD ?_;apply gS;refine gR rfl ?_;refine gP ?_;refine GoR.call rfl rfl (aCF aFunc101 rfl) (join_ok (hsl.ext e8) (by omega)) ?_ np;rintro v2 h2 ⟨q, x2⟩;cases q;refine ⟨_, rfl, ?_⟩;replace e0 := e0.trans x2;replace e8 := e8.trans x2;refine gO rfl rfl (fd29_0 rfl rfl) rfl ?_;refine GoR.alloc rfl rfl rfl zt3 rfl rfl fun h3 x3 f3 => ?_;have := e0.1;have := e8.1;replace e0 := e0.trans x3;replace e8 := e8.trans x3;have := f3.1;refine GoR.store rfl rfl rfl rfl rfl rfl f3 rfl sz3 rfl rfl rfl fun h4 u4 => ?_;replace f3 := u4.has f3;replace e0 := e0.upd u4 (by omega);replace e8 := e8.upd u4 (by omega);apply gE;apply gS;refine gR rfl ?_;iterate 2 refine gP ?_
  refine GoR.call rfl rfl (aCF aFunc118 rfl) (hidx e8 (by assumption)) ?_ np;rintro v5 h5 ⟨q, x5⟩;cases q;refine ⟨_, rfl, ?_⟩;replace e0 := e0.trans x5;refine gP ?_;apply gE;exact gW Tryz.func78 rfl rfl ⟨rfl, e0⟩
end Go.Proofs.YtkcimfopboelaaaGreat
