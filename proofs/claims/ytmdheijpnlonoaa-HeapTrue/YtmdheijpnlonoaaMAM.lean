import Derived.Test.YtmdheijpnlonoaaMAL
namespace Go.Proofs.Ytmdheijpnlonoaa
open Go Go.AbsE
set_option linter.unusedSimpArgs false
set_option maxRecDepth 100000
set_option maxHeartbeats 0
set_option linter.unusedVariables false
theorem flds114 : ∃ fs, Try.prog.underlying 114 = some (.struct fs) ∧ placesT Try.prog fs.toList = some [(0, 1), (1, 6)] := ⟨_, Try.underlying114, by kernel_rfl⟩
theorem key114 : KeyT6 Try.prog 114 3 102 3 where
  fs := ⟨_, _, Try.underlying114, by decide, by decide, rfl, rfl, rfl, rfl⟩
  std := by kernel_rfl
  f0 := ⟨_, Try.underlying3⟩
  f1 := Try.underlying102
  s1 := sz102
  e := ⟨_, Try.underlying3⟩
  se := sz3
structure TurfsAt (h : AH) (s : AVal) (Ts : List TurfV) (sls : List AVal) : Prop where
  len : sls.length = Ts.length
  s : SliceOf h 4 s ((Ts.zip sls).map tCells)
  l : ∀ (k : Nat) T sl, Ts[k]? = some T → sls[k]? = some sl → SliceOf h 4 sl (T.looks.map LookV.cells)
theorem flat_slice {α : Type} {f : α → List AVal} {sz : Nat} (hf : ∀ p, (f p).length = sz) {l : List α} {d : Nat} {p : List AVal} (h : (l.map f)[d]? = some p) : slice? (l.flatMap f) (d * sz) sz = some p := by
  have := slice_flatten (sz := sz) (L := l.map f) (fun x hx => by obtain ⟨q, _, rfl⟩ := List.mem_map.1 hx; exact hf q) d p h
  rwa [← List.flatMap_def] at this
theorem turfsAt_of {h : AH} {lo : Nat} {s : AVal} {Ts : List TurfV} {sls : List AVal} (hl : sls.length = Ts.length) (G : Grow h 106 4 lo s Ts.length ((Ts.zip sls).flatMap tCells)) (L : LooksG h lo Ts sls) : TurfsAt h s Ts sls := by
  refine ⟨hl, ?_, fun k T sl k1 k2 => ?_⟩
  · have hz : (Ts.zip sls).length = Ts.length := by rw [List.length_zip]; omega
    refine Grow.sliceOf (L := (Ts.zip sls).map tCells) (by rw [List.length_map, hz]; exact G) fun i l q => flat_slice (f := tCells) (sz := 4) (fun _ => rfl) q
  · exact Grow.sliceOf (L := T.looks.map LookV.cells) (by rw [List.length_map]; exact L k T sl k1 k2) fun i l q => flat_slice (f := LookV.cells) (sz := 4) (fun _ => rfl) q
theorem grow_st1 {h : AH} {el : TypeId} {sz lo : Nat} {s : AVal} {n : Nat} {cs : List AVal} (k : Grow h el sz lo s n cs) : Nat.beq s.cells.length 1 = true := by rw [(grow_scal k).2]; rfl
theorem grow_st2 {h : AH} {el : TypeId} {sz lo : Nat} {s : AVal} {n : Nat} {cs : List AVal} (k : Grow h el sz lo s n cs) : scalars s.cells = true := by rw [(grow_scal k).2]; exact (grow_scal k).1
theorem grow_st3 {h : AH} {el : TypeId} {sz lo : Nat} {s : AVal} {n : Nat} {cs : List AVal} (k : Grow h el sz lo s n cs) (x : AVal) : splice [x] 0 s.cells = some [s] := by rw [(grow_scal k).2]; rfl
theorem Runs.flip {P : Program} {f : FuncId} {args : List AVal} {h : AH} {α β : Type} {g : α → AVal} {R : α → β → AH → Prop} (k : Runs P f args h (fun en h' => ∃ s t, en = .ret (g s) ∧ R s t h')) : Runs P f args h (fun en h' => ∃ s t, AEnd.ret (g s) = en ∧ R s t h') :=
  k.mono fun _ _ ⟨s, t, q, r⟩ => ⟨s, t, q.symm, r⟩
theorem tcells_scal {h : AH} {t : TurfV} {sl : AVal} {L : List (List AVal)} (k : SliceOf h 4 sl L) : scalars (t.cells sl) = true := by
  have := k.scal.1
  unfold TurfV.cells
  simp only [scalars, Bool.and_true] at this ⊢
  simp only [this, Bool.and_true]
  rfl
theorem zip_any {β : Type} {p : TurfV → Bool} : ∀ {Ts : List TurfV} {sls : List β}, sls.length = Ts.length → (Ts.zip sls).any (fun x => p x.1) = Ts.any p
  | [], _, _ => by simp
  | t :: Ts, [], h => by simp at h
  | t :: Ts, s :: sls, h => by
    rw [List.zip_cons_cons, List.any_cons, List.any_cons, zip_any (by simpa using h)]
theorem zip_mem {β : Type} {Ts : List TurfV} {sls : List β} {x : TurfV × β} (h : x ∈ Ts.zip sls) : ∃ k : Nat, Ts[k]? = some x.1 ∧ sls[k]? = some x.2 := by
  obtain ⟨k, hk⟩ := List.mem_iff_getElem?.1 h
  exact ⟨k, List.getElem?_zip_eq_some.1 hk⟩
theorem entsF_at {F : FieldV} {l : List Int} {i : Nat} {T : TurfV} (h : F.ts[i]? = some T) : (entsF F l)[i]? = some ((i : Int), padF l, evL F.a F.b F.c T l) := by
  unfold entsF
  rw [List.getElem?_mapIdx, h]
  rfl
theorem fresh_key {F : FieldV} (hn : F.rs.length ≤ 6) {j : Nat} {l : List Int} (hl : (falls F.rs)[j]? = some l) {E : List Ent} (hE : ((falls F.rs).take j).flatMap (entsOf F) = E) (i : Nat) :
    ∀ e, e ∈ esOf (E ++ (entsF F l).take i) → ∃ b m, e.key = keyV b m ∧ m.length = 6 ∧ ((i : Int), padF l) ≠ (b, m) := by
  intro e he
  obtain ⟨x, hx, hk, _⟩ := esOf_mem he
  have hlm := List.mem_of_getElem? hl
  rcases List.mem_append.1 (List.mem_of_getElem? hx) with h1 | h1
  · rw [← hE] at h1
    obtain ⟨l', hl', h2⟩ := List.mem_flatMap.1 h1
    have hp := entsF_mem (entsOf_mem h2)
    have hl'm := List.mem_of_mem_take hl'
    refine ⟨x.1, x.2.1, hk, by rw [hp]; exact padF_len (by rw [falls_len hl'm]; exact hn), fun q => ?_⟩
    have q2 : padF l = x.2.1 := congrArg Prod.snd q
    rw [hp] at q2
    have := padF_inj (by rw [falls_len hlm, falls_len hl'm]) q2
    subst this
    obtain ⟨j', hj', hjl⟩ := List.mem_take_iff_getElem.1 hl'
    have hjlt := (List.getElem?_eq_some_iff.1 hl).1
    have hjj := (List.getElem?_eq_some_iff.1 hl).2
    have := (List.pairwise_iff_getElem.1 (falls_nodup F.rs)) j' j (by omega) hjlt (by omega)
    exact this (by rw [hjl, hjj])
  · have hp := entsF_mem (List.mem_of_mem_take h1)
    refine ⟨x.1, x.2.1, hk, by rw [hp]; exact padF_len (by rw [falls_len hlm]; exact hn), fun q => ?_⟩
    have q1 : (i : Int) = x.1 := congrArg Prod.fst q
    obtain ⟨k, hk', hkx⟩ := List.mem_take_iff_getElem.1 h1
    unfold entsF at hkx
    rw [List.getElem_mapIdx] at hkx
    rw [← hkx] at q1
    have : (i : Int) = (k : Int) := q1
    omega
theorem len_app1 {α : Type} (l : List α) (x : α) : (l ++ [x]).length = l.length + 1 := by simp
theorem esOf_len (l : List Ent) : (esOf l).length = l.length := by simp [esOf]
theorem truths_ok {F : FieldV} (O : F.Ok) (hsl rsl lsl : AVal) (h : AH) (A : FieldAt h F hsl rsl lsl) :
    Runs Try.prog 38 [.agg (F.cells hsl rsl lsl)] h (fun en h' => Ext h h' ∧ ((F.ents ≠ [] ∧ ∃ bm, en = .ret (.map bm) ∧ h.next ≤ bm ∧ Has h' bm (.map (esOf F.ents) F.ents.length)) ∨ (F.ents = [] ∧ en = .pan (refusal 10)))) := by
  obtain ⟨fs114, hu114, pl114⟩ := flds114
  have hF := O.nh
  have hF2 := O.nl
  unfold FieldV.cells
  have hfc : fieldC hsl rsl lsl F.a F.b F.c F.lim = [hsl, rsl, .int .i64 F.a, .int .i64 F.b, .int .i64 F.c, .int .i64 F.lim, lsl] := rfl
  have hfr := rains_ok hsl rsl lsl F.a F.b F.c F.lim
  rw [hfc] at hfr ⊢
  refine Runs.intro aFunc38 rfl rfl rfl rfl fun rest => ?_
  refine Go.seq noJ_ok ?_
  refine Go.region noJ_ok rfl ?_
  refine GoR.box rfl rfl rfl rfl rfl rfl fun h0 x0 f0 => ?_
  have e0 := x0
  have := f0.1
  refine GoR.op rfl rfl rfl rfl ?_
  refine GoR.end ?_
  refine Go.seq noJ_ok ?_
  refine Go.region noJ_ok rfl ?_
  refine GoR.makeMap rfl rfl rfl rfl rfl fun h1 x1 f1 => ?_
  have := e0.1
  have := f0.1
  replace f0 := f0.ext x1
  replace e0 := e0.trans x1
  have := f1.1
  refine GoR.alloc rfl rfl rfl zt77 rfl rfl fun h2 x2 f2 => ?_
  have := e0.1
  have := f1.1
  have := f0.1
  replace f1 := f1.ext x2
  replace f0 := f0.ext x2
  replace e0 := e0.trans x2
  have := f2.1
  refine GoR.store rfl rfl rfl rfl rfl rfl f2 rfl sz77 rfl rfl rfl fun h3 u3 => ?_
  replace f2 := u3.has f2
  replace f1 := f1.upd u3 (by omega)
  replace f0 := f0.upd u3 (by omega)
  replace e0 := e0.upd u3 (by omega)
  refine GoR.end ?_
  refine Go.seq noJ_ok ?_
  refine Go.region noJ_ok rfl ?_
  refine GoR.op rfl rfl (fa74_0 rfl) rfl ?_
  refine GoR.op rfl rfl (ld22 rfl f0 rfl) rfl ?_
  refine GoR.op rfl rfl (fa74_4 rfl) rfl ?_
  refine GoR.op rfl rfl (ld25 rfl f0 rfl) rfl ?_
  refine GoR.call rfl rfl (aOp_callFunc aFunc67 rfl) (Runs.flip (turfs_ok hsl lsl F.hs F.looks _ (A.hs.ext e0) (A.ls.ext e0) (fun x hx => (O.h x hx).1) (by omega) (by omega))) ?_ (by rintro _ _ ⟨s, sls, q, _, hsls, G, LG⟩; cases q)
  rintro v4 h4 ⟨s, sls, q, x4, hsls, G, LG⟩
  cases q
  refine ⟨_, rfl, ?_⟩
  replace f2 := f2.ext x4
  replace f1 := f1.ext x4
  replace f0 := f0.ext x4
  replace e0 := e0.trans x4
  refine GoR.alloc rfl rfl rfl zt96 rfl rfl fun h5 x5 f5 => ?_
  have := e0.1
  have := f2.1
  have := f1.1
  have := f0.1
  replace f2 := f2.ext x5
  replace f1 := f1.ext x5
  replace f0 := f0.ext x5
  replace e0 := e0.trans x5
  have := f5.1
  refine GoR.store rfl rfl rfl rfl rfl rfl f5 rfl sz96 (grow_st1 G) (grow_st2 G) (grow_st3 G _) fun h6 u6 => ?_
  replace f5 := u6.has f5
  replace f2 := f2.upd u6 (by omega)
  replace f1 := f1.upd u6 (by omega)
  replace f0 := f0.upd u6 (by omega)
  replace e0 := e0.upd u6 (by omega)
  refine GoR.end ?_
  iterate 2 refine Go.seq noJ_ok ?_
  refine Go.region noJ_ok rfl ?_
  refine GoR.op rfl rfl (ld74 rfl f0 rfl) rfl ?_
  refine GoR.call rfl rfl (aOp_callFunc aFunc68 rfl) (hfr _) ?_ (by rintro _ _ ⟨bf, q, _, hbf, f77⟩; cases q)
  rintro v7 h7 ⟨bf, q, x7, hbf, f77⟩
  cases q
  refine ⟨_, rfl, ?_⟩
  replace f5 := f5.ext x7
  replace f2 := f2.ext x7
  replace f1 := f1.ext x7
  replace f0 := f0.ext x7
  replace e0 := e0.trans x7
  refine GoR.end ?_
  refine Go.block noJ_ok ?_
  obtain ⟨s, hs⟩ : ∃ s, s = v4 := ⟨_, rfl⟩
  subst hs
  have hx4 := x4.1
  have hx7 := x7.1
  have hu3 := u3.1
  have hu6 := u6.1
  have hx5 := x5.1
  have he7 := e0.1
  have hlt1 := f1.1
  have e47 : Ext h4 h7 := (x5.upd u6 (Nat.le_refl _)).trans x7
  have hz : F.ts.length = F.hs.length := turfsOf_len _ _
  have D := O.dries
  have hn6 := O.nr.2
  obtain ⟨n, hn⟩ : ∃ n, F.rs.length = n := ⟨_, rfl⟩
  rw [hn] at hn6
  have hlenR := A.rs.len
  rw [List.length_map, hn] at hlenR
  have TF : ∀ hh, ExtF (fun b => b = h0.next) h7 hh → TurfsAt hh s F.ts sls := fun hh x => by
    have hk : ∀ b, h3.next ≤ b → b < h4.next → hh.get b = h4.get b := fun b b1 b2 => by rw [x.2 b (by omega) (by omega), e47.2 b b2]
    have hxx := x.1
    refine turfsAt_of (lo := h3.next) (by rw [hsls, hz]) ?_ ?_
    · rw [hz]
      exact G.keep (by omega) fun b b1 b2 _ => hk b b1 b2
    · intro k T sl k1 k2
      exact (LG k T sl k1 k2).keep (by omega) fun b b1 b2 _ => hk b b1 b2
  have FA : ∀ hh, ExtF (fun b => b = h0.next) h7 hh → Ext h hh := fun hh x => x.low e0 (fun b q => by omega)
  refine Go.rangeTk (items := fallI [] F.rs) (A := RainsA bf hsl rsl lsl F.a F.b F.c F.lim F.rs) (fun b => b = h0.next)
    (fun j hh => Has hh h0.next (.map (esOf (((falls F.rs).take j).flatMap (entsOf F))) (((falls F.rs).take j).flatMap (entsOf F)).length)) (fun _ _ => False)
    rfl aFunc92 Try.func38 (rains1_it bf hsl rsl lsl F.a F.b F.c F.lim F.rs O.rains) (fun b q => by omega) (fun h' x => ⟨f77.extF x (by omega), A.rs.ext (FA h' x)⟩) (by rw [List.take_zero]; exact f1) ?_ ?_ ?_ ?_ ?_
  · rintro k p1 p2 f hn' hk
    exact f.keep hn' (hk _ hlt1)
  · rintro _ _ _ q _ _
    exact q.elim
  · rintro j item hj
    refine ⟨_, rfl, ?_⟩
    rintro hh lb r0 fr rest' Q' f x8 hlb fl hready contT contF
    obtain ⟨l, hl, rfl⟩ : ∃ l, (falls F.rs)[j]? = some l ∧ i64s (padF l) = item := by
      unfold fallI at hj
      rw [List.getElem?_map] at hj
      cases q : (falls F.rs)[j]? with
      | none => rw [q] at hj; cases hj
      | some x => rw [q] at hj; exact ⟨x, rfl, Option.some.inj hj⟩
    have hlm := List.mem_of_getElem? hl
    have hll : l.length = n := by rw [falls_len hlm, hn]
    have hlin := falls_in O.rains.2 hlm
    have hpl := padF_len (l := l) (by omega)
    have htake : (padF l).take n = l := by unfold padF; rw [List.take_append_of_le_length (by omega), List.take_of_length_le (by omega)]
    obtain ⟨w1, w2, w3, w4, w5, w6, hw⟩ := six hpl
    obtain ⟨E, hE⟩ : ∃ E, ((falls F.rs).take j).flatMap (entsOf F) = E := ⟨_, rfl⟩
    have hnext : ((falls F.rs).take (j + 1)).flatMap (entsOf F) = E ++ entsOf F l := by
      rw [List.take_add_one, hl, Option.toList_some, List.flatMap_append, hE]
      simp
    rw [hE] at f
    rw [hw]
    have hx8 := x8.1
    have hfl := fl.1
    have e9 : Ext h hh := FA hh x8
    have he9 := e9.1
    replace f0 := f0.extF x8 (by omega)
    replace f2 := f2.extF x8 (by omega)
    replace f5 := f5.extF x8 (by omega)
    have y0 : ExtF (fun b => b = h0.next ∨ b = lb) hh hh := ExtF.of (Ext.refl _)
    have y1 := x8
    clear e0 f1 f77
    refine Go.region noJ_ok rfl ?_
    refine GoR.alloc rfl rfl rfl zt102 rfl rfl fun h9 x9 f9 => ?_
    have := e9.1
    have := fl.1
    have := f.1
    have := f0.1
    have := f2.1
    have := f5.1
    replace fl := fl.ext x9
    replace f := f.ext x9
    replace f0 := f0.ext x9
    replace f2 := f2.ext x9
    replace f5 := f5.ext x9
    replace e9 := e9.trans x9
    replace y0 := y0.ext x9
    replace y1 := y1.ext x9
    have := f9.1
    refine GoR.store rfl rfl rfl rfl rfl rfl f9 rfl sz102 rfl rfl rfl fun h10 u10 => ?_
    replace f9 := u10.has f9
    replace fl := fl.upd u10 (by omega)
    replace f := f.upd u10 (by omega)
    replace f0 := f0.upd u10 (by omega)
    replace f2 := f2.upd u10 (by omega)
    replace f5 := f5.upd u10 (by omega)
    replace e9 := e9.upd u10 (by omega)
    replace y0 := y0.upd u10 (by first | exact .inl rfl | exact .inl (.inl rfl) | exact .inl (.inr rfl) | exact .inl (by assumption) | exact .inr (by omega))
    replace y1 := y1.upd u10 (by first | exact .inl rfl | exact .inl (.inl rfl) | exact .inl (.inr rfl) | exact .inl (by assumption) | exact .inr (by omega))
    refine GoR.end ?_
    refine Go.beginRound fl hready fun h19 u19 => ?_
    have hu10 := u10.1
    have hx9 := x9.1
    have hu19 := u19.1
    replace f := f.upd u19 (by omega)
    replace f0 := f0.upd u19 (by omega)
    replace f2 := f2.upd u19 (by omega)
    replace f5 := f5.upd u19 (by omega)
    replace f9 := f9.upd u19 (by omega)
    replace fl := u19.has fl
    replace e9 := e9.upd u19 (by omega)
    replace y0 := y0.upd u19 (.inl (.inr rfl))
    replace y1 := y1.upd u19 (.inr (by omega))
    refine Go.block noJ_ok ?_
    refine Go.seq noJ_ok ?_
    refine Go.region noJ_ok rfl ?_
    refine GoR.op rfl rfl (ld74 rfl f0 rfl) rfl ?_
    refine GoR.op rfl rfl (ld102 rfl f9 rfl) rfl ?_
    refine GoR.call rfl rfl (aOp_callFunc aFunc69 rfl) (days_ok hsl rsl lsl F.a F.b F.c F.lim n hn6 hlenR [w1, w2, w3, w4, w5, w6] rfl _) ?_ (by rintro _ _ ⟨bb, q, _, hbb, f88⟩; cases q)
    rintro v20 h20 ⟨bb, q, x20, hbb, f88⟩
    cases q
    refine ⟨_, rfl, ?_⟩
    replace f := f.ext x20
    replace f0 := f0.ext x20
    replace f2 := f2.ext x20
    replace f5 := f5.ext x20
    replace f9 := f9.ext x20
    replace fl := fl.ext x20
    replace e9 := e9.trans x20
    replace y0 := y0.ext x20
    replace y1 := y1.ext x20
    refine GoR.alloc rfl rfl rfl zt103 rfl rfl fun h89 x89 f89 => ?_
    have := e9.1
    have := f88.1
    have := f.1
    have := f0.1
    have := f2.1
    have := f5.1
    have := f9.1
    have := fl.1
    replace f88 := f88.ext x89
    replace f := f.ext x89
    replace f0 := f0.ext x89
    replace f2 := f2.ext x89
    replace f5 := f5.ext x89
    replace f9 := f9.ext x89
    replace fl := fl.ext x89
    replace e9 := e9.trans x89
    replace y0 := y0.ext x89
    replace y1 := y1.ext x89
    have := f89.1
    refine GoR.store rfl rfl rfl rfl rfl rfl f89 rfl sz103 rfl rfl rfl fun h90 u90 => ?_
    replace f89 := u90.has f89
    replace f88 := f88.upd u90 (by omega)
    replace f := f.upd u90 (by omega)
    replace f0 := f0.upd u90 (by omega)
    replace f2 := f2.upd u90 (by omega)
    replace f5 := f5.upd u90 (by omega)
    replace f9 := f9.upd u90 (by omega)
    replace fl := fl.upd u90 (by omega)
    replace e9 := e9.upd u90 (by omega)
    replace y0 := y0.upd u90 (by first | exact .inl rfl | exact .inl (.inl rfl) | exact .inl (.inr rfl) | exact .inl (by assumption) | exact .inr (by omega))
    replace y1 := y1.upd u90 (by first | exact .inl rfl | exact .inl (.inl rfl) | exact .inl (.inr rfl) | exact .inl (by assumption) | exact .inr (by omega))
    refine GoR.end ?_
    refine Go.seq noJ_ok ?_
    refine Go.region noJ_ok rfl ?_
    iterate 2 refine GoR.op rfl rfl rfl rfl ?_
    refine GoR.end ?_
    iterate 2 refine Go.seq noJ_ok ?_
    refine Go.region noJ_ok rfl ?_
    refine GoR.op rfl rfl (ld96 rfl f5 rfl) rfl ?_
    refine GoR.op rfl rfl rfl rfl ?_
    have hx20 := x20.1
    have hx89 := x89.1
    have hu90 := u90.1
    rw [← hw, htake] at f88
    have TA := TF h90 y1
    have hr10 : ∀ r, r ∈ l → r ≤ 10 := fun r hr => (hlin r hr).2
    have hzl : (F.ts.zip sls).length ≤ 100 := by rw [List.length_zip]; omega
    have hcont := cont72_ok tCells aFunc70 s (F.ts.zip sls) (fun x => !possB F.a F.b F.c x.1 l) h90 TA.s hzl (caps := [.ptr h20.next 0]) (fun x h' hx e => by
      obtain ⟨k, k1, k2⟩ := zip_mem hx
      exact imp_ok D (O.ts x.1 (List.mem_of_getElem? k1)) x.2 bb n h20.next l hll hn6 hr10 h' (f89.ext e) (f88.ext e) ((TA.l k _ _ k1 k2).ext e))
    rw [zip_any (p := fun t => !possB F.a F.b F.c t l) TA.len] at hcont
    have hlenS := TA.s.len
    rw [List.length_map, List.length_zip, hsls, hz, Nat.min_self] at hlenS
    cases hb : F.ts.any (fun t => !possB F.a F.b F.c t l) with
    | true =>
      rw [hb] at hcont
      have hent : entsOf F l = [] := by unfold entsOf; rw [if_pos hb]
      rw [hent, List.append_nil] at hnext
      refine GoR.call rfl rfl (aOp_callFunc aFunc72 rfl) (hcont) ?_ (by rintro _ _ ⟨q, _⟩; cases q)
      rintro v91 h91 ⟨q, x91⟩
      cases q
      refine ⟨_, rfl, ?_⟩
      replace f89 := f89.ext x91
      replace f88 := f88.ext x91
      replace f := f.ext x91
      replace f0 := f0.ext x91
      replace f2 := f2.ext x91
      replace f5 := f5.ext x91
      replace f9 := f9.ext x91
      replace fl := fl.ext x91
      replace e9 := e9.trans x91
      replace y0 := y0.ext x91
      replace y1 := y1.ext x91
      refine GoR.end ?_
      refine Go.cond noJ_ok (b := true) rfl ?_
      refine Go.code noJ_ok ?_
      exact contT _ _ (by rw [hnext]; exact f) y0 fl
    | false =>
      rw [hb] at hcont
      have hent : entsOf F l = entsF F l := by unfold entsOf; rw [if_neg (by rw [hb]; decide)]
      rw [hent] at hnext
      refine GoR.call rfl rfl (aOp_callFunc aFunc72 rfl) (hcont) ?_ (by rintro _ _ ⟨q, _⟩; cases q)
      rintro v91 h91 ⟨q, x91⟩
      cases q
      refine ⟨_, rfl, ?_⟩
      replace f89 := f89.ext x91
      replace f88 := f88.ext x91
      replace f := f.ext x91
      replace f0 := f0.ext x91
      replace f2 := f2.ext x91
      replace f5 := f5.ext x91
      replace f9 := f9.ext x91
      replace fl := fl.ext x91
      replace e9 := e9.trans x91
      replace y0 := y0.ext x91
      replace y1 := y1.ext x91
      refine GoR.end ?_
      refine Go.cond noJ_ok (b := false) rfl ?_
      refine Go.code noJ_ok ?_
      refine Go.seq noJ_ok ?_
      refine Go.region noJ_ok rfl ?_
      refine GoR.op rfl rfl (ld96 rfl f5 rfl) rfl ?_
      refine GoR.op rfl rfl (aOp_lenSlice Try.underlying96 rfl hlenS) rfl ?_
      refine GoR.op rfl rfl rfl rfl ?_
      refine GoR.end ?_
      refine Go.block noJ_ok ?_
      refine Go.loopKeep (fun i : Nat => [(3, .ptr h1.next 0), (5, .ptr hh.next 0), (6, .ptr h20.next 0), (26, s), (27, .int .i64 F.hs.length), (28, .int .i64 (i : Nat))])
        (fun m i h' => m + i = F.hs.length ∧ Ext h h' ∧ ExtF (fun b => b = h0.next ∨ b = lb) hh h' ∧ ExtF (fun b => b = h0.next) h7 h' ∧ Has h' h1.next (.cells .plain [.map h0.next] 77) ∧
          Has h' hh.next (.cells .plain [.int .i64 w1, .int .i64 w2, .int .i64 w3, .int .i64 w4, .int .i64 w5, .int .i64 w6] 102) ∧ Has h' h20.next (.cells .plain [.slice bb 0 n n] 103) ∧ Has h' bb (.cells .plain (l.map (wV F.a F.b F.c)) 134) ∧
          Has h' h0.next (.map (esOf (E ++ (entsF F l).take i)) (E ++ (entsF F l).take i).length) ∧ Has h' lb (.loop { r0 with state := .busy }))
        (n := F.hs.length) 0 ⟨rfl, rfl, rfl, rfl, rfl, rfl, trivial⟩ ⟨rfl, e9, y0, y1, f2, f9, f89, f88, (by rw [List.take_zero, List.append_nil]; exact f), fl⟩ ?_
      clear e9 y0 y1 f2 f9 f89 f88 f fl f0 f5
      rintro m i hc ⟨hm, e0, y0, y1, f0, f1, f2, f3, f4, f5⟩ again
      by_cases hi' : i < F.hs.length
      · have TC := TF hc y1
        obtain ⟨T, hT⟩ : ∃ T, F.ts[i]? = some T := ⟨F.ts[i]'(by omega), by simp⟩
        obtain ⟨sl, hsl⟩ : ∃ sl, sls[i]? = some sl := ⟨sls[i]'(by omega), by simp⟩
        obtain ⟨bq, off, q1, q2⟩ := TC.s.at (i := i) (l := T.cells sl) (by rw [List.getElem?_map, List.getElem?_zip_eq_some (z := (T, sl)) |>.2 ⟨hT, hsl⟩]; rfl)
        rw [List.length_map, List.length_zip, hsls, hz, Nat.min_self] at q1
        have hTO := O.ts T (List.mem_of_getElem? hT)
        have hLs := TC.l i T sl hT hsl
        have hsc := tcells_scal (t := T) hLs
        have hentry := entsF_at (l := l) hT
        have htk : E ++ (entsF F l).take (i + 1) = (E ++ (entsF F l).take i) ++ [((i : Int), padF l, evL F.a F.b F.c T l)] := by
          rw [List.take_add_one, hentry, Option.toList_some, List.append_assoc]
        have hfk := fresh_key (by omega) hl hE i
        rw [hw] at hfk htk
        have hsm : sameA (.agg (T.cells sl)) (.agg (T.cells sl)) = true := by
          have := SliceOf.same hLs
          unfold TurfV.cells
          simp [sameA, sameAs, eqI_eq, this]
        unfold TurfV.cells at hsc q2 hsm
        refine Go.seq noJ_ok ?_
        refine Go.region noJ_ok rfl ?_
        refine GoR.op rfl rfl (aOp_lss rfl rfl (r := true) (decide_eq_true (by omega))) rfl ?_
        refine GoR.end ?_
        refine Go.seq noJ_ok ?_
        refine Go.cond noJ_ok (b := true) rfl ?_
        refine Go.code noJ_ok ?_
        refine Go.seq noJ_ok ?_
        refine Go.block noJ_ok ?_
        refine Go.seq noJ_ok ?_
        refine Go.region noJ_ok rfl ?_
        refine GoR.op rfl rfl rfl rfl ?_
        refine GoR.op rfl rfl (aOp_indexAddr Try.underlying96 sz106 rfl q1 rfl (Nat.ble_eq_true_of_le hi')) rfl ?_
        refine GoR.op rfl rfl (aOp_loadE ag106 sz106 rfl q2) rfl ?_
        refine GoR.alloc rfl rfl rfl zt106 rfl rfl fun h92 x92 f92 => ?_
        have := e0.1
        have := f0.1
        have := f1.1
        have := f2.1
        have := f3.1
        have := f4.1
        have := f5.1
        replace f0 := f0.ext x92
        replace f1 := f1.ext x92
        replace f2 := f2.ext x92
        replace f3 := f3.ext x92
        replace f4 := f4.ext x92
        replace f5 := f5.ext x92
        replace e0 := e0.trans x92
        replace y0 := y0.ext x92
        replace y1 := y1.ext x92
        have := f92.1
        refine GoR.op rfl rfl rfl rfl ?_
        refine GoR.store rfl rfl rfl rfl rfl rfl f92 rfl sz106 rfl hsc rfl fun h93 u93 => ?_
        replace f92 := u93.has f92
        replace f0 := f0.upd u93 (by omega)
        replace f1 := f1.upd u93 (by omega)
        replace f2 := f2.upd u93 (by omega)
        replace f3 := f3.upd u93 (by omega)
        replace f4 := f4.upd u93 (by omega)
        replace f5 := f5.upd u93 (by omega)
        replace e0 := e0.upd u93 (by omega)
        replace y0 := y0.upd u93 (by first | exact .inl rfl | exact .inl (.inl rfl) | exact .inl (.inr rfl) | exact .inl (by assumption) | exact .inr (by omega))
        replace y1 := y1.upd u93 (by first | exact .inl rfl | exact .inl (.inl rfl) | exact .inl (.inr rfl) | exact .inl (by assumption) | exact .inr (by omega))
        refine GoR.end ?_
        refine Go.drawnE plan38_0 ?_
        refine GoE.quiet rfl rfl (ld77 rfl f0 rfl) rfl ?_
        refine GoE.quiet rfl rfl rfl rfl ?_
        refine GoE.quiet rfl rfl (ld102 rfl f1 rfl) rfl ?_
        refine GoE.quiet rfl rfl (aOp_build (ps := [(0, .int .i64 i), (1, .agg [.int .i64 w1, .int .i64 w2, .int .i64 w3, .int .i64 w4, .int .i64 w5, .int .i64 w6])]) (cs := [.int .i64 i, .int .i64 w1, .int .i64 w2, .int .i64 w3, .int .i64 w4, .int .i64 w5, .int .i64 w6]) zt114 hu114 pl114 rfl rfl) rfl ?_
        refine GoE.quiet rfl rfl (ld106 rfl f92 rfl) rfl ?_
        refine GoE.quiet rfl rfl (ld103 rfl f2 rfl) rfl ?_
        refine GoE.call rfl rfl (aOp_callFunc aFunc73 rfl) (evenings_ok D hTO sl bb n l hll hn6 hr10 _ f3 ((TF _ y1).l i T sl hT hsl)) (dropF_drop (show bit? 48 5 = true from rfl) (dropF_drop (show bit? 48 4 = true from rfl) (dropF_keep (show bit? 48 3 = false from rfl) (dropF_keep (show bit? 48 2 = false from rfl) (dropF_keep (show bit? 48 1 = false from rfl) (dropF_keep (show bit? 48 0 = false from rfl) rfl)))))) ?_ (by rintro _ _ ⟨q, _⟩; cases q)
        rintro v94 h94 ⟨q, x94⟩
        cases q
        replace f92 := f92.ext x94
        replace f0 := f0.ext x94
        replace f1 := f1.ext x94
        replace f2 := f2.ext x94
        replace f3 := f3.ext x94
        replace f4 := f4.ext x94
        replace f5 := f5.ext x94
        replace e0 := e0.trans x94
        replace y0 := y0.ext x94
        replace y1 := y1.ext x94
        refine ⟨(recheck_cons (h2 := h94) rfl (aOp_build (ps := [(0, .int .i64 i), (1, .agg [.int .i64 w1, .int .i64 w2, .int .i64 w3, .int .i64 w4, .int .i64 w5, .int .i64 w6])]) (cs := [.int .i64 i, .int .i64 w1, .int .i64 w2, .int .i64 w3, .int .i64 w4, .int .i64 w5, .int .i64 w6]) zt114 hu114 pl114 rfl rfl) (by first | rfl | exact sameA_int _ _ | exact sameA_bool _ | exact sameA_agg2 _ _ | assumption | (simp [sameA, sameAs, eqI_eq]; done)) (recheck_cons (h2 := h94) rfl (ld102 rfl f1 rfl) (by first | rfl | exact sameA_int _ _ | exact sameA_bool _ | exact sameA_agg2 _ _ | assumption | (simp [sameA, sameAs, eqI_eq]; done)) (recheck_cons (h2 := h94) rfl (rfl) (by first | rfl | exact sameA_int _ _ | exact sameA_bool _ | exact sameA_agg2 _ _ | assumption | (simp [sameA, sameAs, eqI_eq]; done)) (recheck_cons (h2 := h94) rfl (ld77 rfl f0 rfl) (by first | rfl | exact sameA_int _ _ | exact sameA_bool _ | exact sameA_agg2 _ _ | assumption | (simp [sameA, sameAs, eqI_eq]; done)) recheck_nil)))), _, rfl, ?_⟩
        refine GoE.mapNew rfl rfl (a := (i : Int)) (l := [w1, w2, w3, w4, w5, w6]) key114 Try.underlying77 rfl rfl rfl rfl f4 hfk (dropF_drop (show bit? 127 3 = true from rfl) (dropF_drop (show bit? 127 2 = true from rfl) (dropF_drop (show bit? 127 1 = true from rfl) (dropF_drop (show bit? 127 0 = true from rfl) rfl)))) rfl fun h95 u95 => ?_
        replace f92 := f92.upd u95 (by omega)
        replace f0 := f0.upd u95 (by omega)
        replace f1 := f1.upd u95 (by omega)
        replace f2 := f2.upd u95 (by omega)
        replace f3 := f3.upd u95 (by omega)
        replace f4 := u95.has f4
        replace f5 := f5.upd u95 (by omega)
        replace e0 := e0.upd u95 (by omega)
        replace y0 := y0.upd u95 (by first | exact .inl rfl | exact .inl (.inl rfl) | exact .inl (.inr rfl) | exact .inl (by assumption) | exact .inr (by omega))
        replace y1 := y1.upd u95 (by first | exact .inl rfl | exact .inl (.inl rfl) | exact .inl (.inr rfl) | exact .inl (by assumption) | exact .inr (by omega))
        refine ⟨recheck_nil, ?_⟩
        refine GoE.end rfl ?_
        refine Go.inBlock noJ_ok ?_
        refine Go.region noJ_ok rfl ?_
        refine GoR.op rfl rfl (aOp_add rfl rfl (by constructor <;> omega) rfl) rfl ?_
        refine GoR.op rfl rfl rfl rfl ?_
        refine GoR.end ?_
        exact again (m - 1) (i + 1) _ _ (by omega) ⟨rfl, rfl, rfl, rfl, rfl, rfl, trivial⟩ ⟨by omega, e0, y0, y1, f0, f1, f2, f3, (by rw [htk, esOf_app, len_app1]; exact f4), f5⟩
      · have hin : i = F.hs.length := by omega
        subst hin
        have hlf : (entsF F l).length = F.hs.length := by unfold entsF; rw [List.length_mapIdx, hz]
        rw [← hlf, List.take_length] at f4
        refine Go.seq noJ_ok ?_
        refine Go.region noJ_ok rfl ?_
        refine GoR.op rfl rfl (aOp_lss rfl rfl (r := false) (decide_eq_false (by omega))) rfl ?_
        refine GoR.end ?_
        refine Go.seq noJ_ok ?_
        refine Go.cond noJ_ok (b := false) rfl ?_
        refine Go.code noJ_ok ?_
        refine Go.inBlock noJ_ok ?_
        exact contT _ _ (by rw [hnext]; exact f4) y0 f5
  · intro d h8 x8 hd hdd f
    have hx8 := x8.1
    have e9 : Ext h h8 := FA h8 x8
    have hfl : (fallI [] F.rs).length = (falls F.rs).length := by simp [fallI]
    rw [hfl, List.take_length] at f
    have hents : (falls F.rs).flatMap (entsOf F) = F.ents := rfl
    rw [hents] at f
    replace f2 := f2.extF x8 (by omega)
    clear e0 f0 f1 f5 f77
    cases hq : F.ents with
    | nil =>
      rw [hq] at f
      refine Go.inBlock noJ_ok ?_
      refine Go.seq noJ_ok ?_
      refine Go.region noJ_ok rfl ?_
      refine GoR.op rfl rfl (ld77 rfl f2 rfl) rfl ?_
      refine GoR.op rfl rfl (aOp_lenMap Try.underlying77 rfl f rfl) rfl ?_
      refine GoR.op rfl rfl (aOp_eql rfl rfl (r := true) rfl) rfl ?_
      refine GoR.callP rfl rfl (aOp_callFunc aFunc55 rfl) (refuse_ok true 10 h8) (by rintro _ _ ⟨_, ⟨q, _⟩ | ⟨_, q⟩⟩ <;> cases q) ?_
      rintro chain h9 ⟨rfl, ⟨q, _⟩ | ⟨_, q⟩⟩
      · cases q
      have q := AEnd.pan.inj q
      subst q
      exact FLeft.collected (fun q => by cases q) hdd fun h' u => FLeft.pan ⟨e9.upd u (by omega), .inr ⟨rfl, rfl⟩⟩
    | cons x0 xs =>
      rw [hq] at f
      have hlen : decide (((esOf (x0 :: xs)).length : Int) = 0) = false := by rw [esOf_len]; simp; omega
      refine Go.inBlock noJ_ok ?_
      refine Go.seq noJ_ok ?_
      refine Go.region noJ_ok rfl ?_
      refine GoR.op rfl rfl (ld77 rfl f2 rfl) rfl ?_
      refine GoR.op rfl rfl (aOp_lenMap Try.underlying77 rfl f rfl) rfl ?_
      refine GoR.op rfl rfl (aOp_eql rfl rfl hlen) rfl ?_
      refine GoR.call rfl rfl (aOp_callFunc aFunc55 rfl) (refuse_ok false 10 h8) ?_ (by rintro _ _ ⟨_, ⟨_, q⟩ | ⟨q, _⟩⟩ <;> cases q)
      rintro v9 h9 ⟨rfl, ⟨_, q⟩ | ⟨q, _⟩⟩
      case inr => cases q
      cases q
      refine ⟨_, rfl, ?_⟩
      refine GoR.end ?_
      refine Go.seq noJ_ok ?_
      refine Go.region noJ_ok rfl ?_
      refine GoR.op rfl rfl (ld77 rfl f2 rfl) rfl ?_
      refine GoR.op rfl rfl rfl rfl ?_
      refine GoR.end ?_
      exact Go.retC hdd fun h10 u10 => ⟨aResult_of Try.func38 rfl rfl, e9.upd u10 (by omega), .inl ⟨by simp, h0.next, rfl, by omega, f.upd u10 (by omega)⟩⟩
  · rintro c' d h3 x3 hd hdd q
    exact q.elim
end Go.Proofs.Ytmdheijpnlonoaa

namespace Go.Proofs.Ytmdheijpnlonoaa
open Go Go.AbsE
set_option linter.unusedSimpArgs false
set_option maxRecDepth 100000
set_option maxHeartbeats 0
set_option linter.unusedVariables false
theorem within_ok (lo hi a b : Int) (h1 : lo ≤ hi) (h2 : a ≤ lo) (h3 : hi ≤ b) (h : AH) : Runs Try.prog 85 [.agg [.int .i64 lo, .int .i64 hi], .int .i64 a, .int .i64 b] h (fun en h' => en = .ret (.bool true) ∧ Ext h h') := by
  refine Runs.intro aFunc85 rfl rfl rfl rfl fun rest => ?_
  refine Go.seq noJ_ok ?_
  refine Go.region noJ_ok rfl ?_
  refine GoR.box rfl rfl rfl rfl rfl rfl fun h4 x4 f4 => ?_
  have e0 := x4
  have := f4.1
  refine GoR.op rfl rfl rfl rfl ?_
  refine GoR.end ?_
  refine Go.seq noJ_ok ?_
  refine Go.region noJ_ok rfl ?_
  refine GoR.op rfl rfl (fa30_0 rfl) rfl ?_
  refine GoR.op rfl rfl (ld3 rfl f4 rfl) rfl ?_
  refine GoR.op rfl rfl (fa30_1 rfl) rfl ?_
  refine GoR.op rfl rfl (ld3 rfl f4 rfl) rfl ?_
  refine GoR.op rfl rfl (aOp_leq rfl rfl (r := true) (decide_eq_true (by omega))) rfl ?_
  iterate 2 refine GoR.op rfl rfl rfl rfl ?_
  refine GoR.op rfl rfl (fa30_0 rfl) rfl ?_
  refine GoR.op rfl rfl (ld3 rfl f4 rfl) rfl ?_
  refine GoR.op rfl rfl (aOp_leq rfl rfl (r := true) (decide_eq_true (by omega))) rfl ?_
  iterate 2 refine GoR.op rfl rfl rfl rfl ?_
  refine GoR.op rfl rfl (fa30_1 rfl) rfl ?_
  refine GoR.op rfl rfl (ld3 rfl f4 rfl) rfl ?_
  refine GoR.op rfl rfl rfl rfl ?_
  refine GoR.op rfl rfl (aOp_leq rfl rfl (r := true) (decide_eq_true (by omega))) rfl ?_
  iterate 2 refine GoR.op rfl rfl rfl rfl ?_
  refine GoR.end ?_
  exact Go.ret noJ_ok (ret_end (aResult_of Try.func85 rfl rfl) ⟨rfl, e0⟩)
theorem bad_ok {t : TurfV} (hp : t.p < 3) (hw : 0 ≤ t.lo ∧ t.lo ≤ t.hi ∧ t.hi ≤ 100 ∧ t.hi - t.lo ≤ 5) (sl : AVal) (h : AH) : Runs Try.prog 87 [.agg (t.cells sl)] h (fun en h' => en = .ret (.bool false) ∧ Ext h h') := by
  unfold TurfV.cells
  refine Runs.intro aFunc87 rfl rfl rfl rfl fun rest => ?_
  refine Go.seq noJ_ok ?_
  refine Go.region noJ_ok rfl ?_
  refine GoR.box rfl rfl rfl rfl rfl rfl fun h0 x0 f0 => ?_
  have e0 := x0
  have := f0.1
  refine GoR.op rfl rfl rfl rfl ?_
  refine GoR.end ?_
  refine Go.seq noJ_ok ?_
  refine Go.region noJ_ok rfl ?_
  refine GoR.op rfl rfl (fa106_0 rfl) rfl ?_
  refine GoR.op rfl rfl (fa63_0 rfl) rfl ?_
  refine GoR.op rfl rfl (ld3 rfl f0 rfl) rfl ?_
  refine GoR.call rfl rfl (aOp_callFunc aFunc66 rfl) (inside_ok t.p 0 2 (r := true) (by simp; omega) _) ?_ (by rintro _ _ ⟨q, _⟩; cases q)
  rintro v1 h1 ⟨q, x1⟩
  cases q
  refine ⟨_, rfl, ?_⟩
  replace f0 := f0.ext x1
  replace e0 := e0.trans x1
  iterate 2 refine GoR.op rfl rfl rfl rfl ?_
  refine GoR.op rfl rfl (fa106_0 rfl) rfl ?_
  refine GoR.op rfl rfl (fa63_1 rfl) rfl ?_
  refine GoR.op rfl rfl (ld30 rfl f0 rfl) rfl ?_
  refine GoR.call rfl rfl (aOp_callFunc aFunc85 rfl) (within_ok t.lo t.hi 0 100 (by omega) (by omega) (by omega) _) ?_ (by rintro _ _ ⟨q, _⟩; cases q)
  rintro v2 h2 ⟨q, x2⟩
  cases q
  refine ⟨_, rfl, ?_⟩
  replace f0 := f0.ext x2
  replace e0 := e0.trans x2
  iterate 3 refine GoR.op rfl rfl rfl rfl ?_
  refine GoR.op rfl rfl (fa106_0 rfl) rfl ?_
  refine GoR.op rfl rfl (fa63_1 rfl) rfl ?_
  refine GoR.op rfl rfl (fa30_1 rfl) rfl ?_
  refine GoR.op rfl rfl (ld3 rfl f0 rfl) rfl ?_
  refine GoR.op rfl rfl (fa106_0 rfl) rfl ?_
  refine GoR.op rfl rfl (fa63_1 rfl) rfl ?_
  refine GoR.op rfl rfl (fa30_0 rfl) rfl ?_
  refine GoR.op rfl rfl (ld3 rfl f0 rfl) rfl ?_
  refine GoR.op rfl rfl (aOp_sub rfl rfl (by constructor <;> omega) rfl) rfl ?_
  refine GoR.op rfl rfl (aOp_gtr rfl rfl (r := false) (decide_eq_false (by omega))) rfl ?_
  iterate 2 refine GoR.op rfl rfl rfl rfl ?_
  refine GoR.end ?_
  exact Go.ret noJ_ok (ret_end (aResult_of Try.func87 rfl rfl) ⟨rfl, e0⟩)
theorem badRain_ok (r : Int × Int) (hr : 0 ≤ r.1 ∧ r.1 ≤ r.2 ∧ r.2 ≤ 10 ∧ r.2 - r.1 ≤ 3) (h : AH) : Runs Try.prog 89 [.agg (spC r)] h (fun en h' => en = .ret (.bool false) ∧ Ext h h') := by
  unfold spC
  refine Runs.intro aFunc89 rfl rfl rfl rfl fun rest => ?_
  refine Go.seq noJ_ok ?_
  refine Go.region noJ_ok rfl ?_
  refine GoR.box rfl rfl rfl rfl rfl rfl fun h0 x0 f0 => ?_
  have e0 := x0
  have := f0.1
  refine GoR.op rfl rfl rfl rfl ?_
  refine GoR.end ?_
  refine Go.seq noJ_ok ?_
  refine Go.region noJ_ok rfl ?_
  refine GoR.op rfl rfl (ld30 rfl f0 rfl) rfl ?_
  refine GoR.call rfl rfl (aOp_callFunc aFunc85 rfl) (within_ok r.1 r.2 0 10 (by omega) (by omega) (by omega) _) ?_ (by rintro _ _ ⟨q, _⟩; cases q)
  rintro v1 h1 ⟨q, x1⟩
  cases q
  refine ⟨_, rfl, ?_⟩
  replace f0 := f0.ext x1
  replace e0 := e0.trans x1
  iterate 2 refine GoR.op rfl rfl rfl rfl ?_
  refine GoR.op rfl rfl (fa30_1 rfl) rfl ?_
  refine GoR.op rfl rfl (ld3 rfl f0 rfl) rfl ?_
  refine GoR.op rfl rfl (fa30_0 rfl) rfl ?_
  refine GoR.op rfl rfl (ld3 rfl f0 rfl) rfl ?_
  refine GoR.op rfl rfl (aOp_sub rfl rfl (by constructor <;> omega) rfl) rfl ?_
  refine GoR.op rfl rfl (aOp_gtr rfl rfl (r := false) (decide_eq_false (by omega))) rfl ?_
  iterate 2 refine GoR.op rfl rfl rfl rfl ?_
  refine GoR.end ?_
  exact Go.ret noJ_ok (ret_end (aResult_of Try.func89 rfl rfl) ⟨rfl, e0⟩)
theorem badDry_ok (d : Int) (hd : 0 ≤ d ∧ d ≤ 20) (h : AH) : Runs Try.prog 86 [.int .i64 d] h (fun en h' => en = .ret (.bool false) ∧ Ext h h') := by
  refine Runs.intro aFunc86 rfl rfl rfl rfl fun rest => ?_
  refine Go.seq noJ_ok ?_
  refine Go.region noJ_ok rfl ?_
  refine GoR.op rfl rfl rfl rfl ?_
  refine GoR.end ?_
  refine Go.seq noJ_ok ?_
  refine Go.region noJ_ok rfl ?_
  refine GoR.op rfl rfl rfl rfl ?_
  refine GoR.call rfl rfl (aOp_callFunc aFunc66 rfl) (inside_ok d 0 20 (r := true) (by simp; omega) _) ?_ (by rintro _ _ ⟨q, _⟩; cases q)
  rintro v0 h0 ⟨q, x0⟩
  cases q
  refine ⟨_, rfl, ?_⟩
  have e0 := x0
  iterate 2 refine GoR.op rfl rfl rfl rfl ?_
  refine GoR.end ?_
  exact Go.ret noJ_ok (ret_end (aResult_of Try.func86 rfl rfl) ⟨rfl, e0⟩)
theorem badLook_ok {F : FieldV} (O : F.Ok) (l : LookV) (hl : l ∈ F.looks) (hsl rsl lsl : AVal) (bp : Nat) (h : AH) (f : Has h bp (.cells .plain (fieldC hsl rsl lsl F.a F.b F.c F.lim) 27)) (hl1 : lenA hsl = some F.hs.length) (hl2 : lenA rsl = some F.rs.length) :
    Runs Try.prog 84 [.agg l.cells, .ptr bp 0] h (fun en h' => en = .ret (.bool false) ∧ Ext h h') := by
  have hh := O.l l hl
  have := O.nh
  have := O.nr
  unfold LookV.cells
  unfold fieldC at f
  refine Runs.intro aFunc84 rfl rfl rfl rfl fun rest => ?_
  refine Go.seq noJ_ok ?_
  refine Go.region noJ_ok rfl ?_
  refine GoR.box rfl rfl rfl rfl rfl rfl fun h0 x0 f0 => ?_
  have := f.1
  replace f := f.ext x0
  have e0 := x0
  have := f0.1
  refine GoR.op rfl rfl rfl rfl ?_
  refine GoR.end ?_
  refine Go.seq noJ_ok ?_
  refine Go.region noJ_ok rfl ?_
  refine GoR.op rfl rfl (fa59_0 rfl) rfl ?_
  refine GoR.op rfl rfl (ld3 rfl f0 rfl) rfl ?_
  refine GoR.op rfl rfl (fa27_0 rfl) rfl ?_
  refine GoR.op rfl rfl (ld22 rfl f rfl) rfl ?_
  refine GoR.op rfl rfl (aOp_lenSlice Try.underlying22 rfl hl1) rfl ?_
  refine GoR.op rfl rfl (aOp_sub rfl rfl (by constructor <;> omega) rfl) rfl ?_
  refine GoR.call rfl rfl (aOp_callFunc aFunc66 rfl) (inside_ok l.heap 0 (F.hs.length - 1) (r := true) (by simp; omega) _) ?_ (by rintro _ _ ⟨q, _⟩; cases q)
  rintro v1 h1 ⟨q, x1⟩
  cases q
  refine ⟨_, rfl, ?_⟩
  replace f0 := f0.ext x1
  replace f := f.ext x1
  replace e0 := e0.trans x1
  iterate 2 refine GoR.op rfl rfl rfl rfl ?_
  refine GoR.op rfl rfl (fa59_1 rfl) rfl ?_
  refine GoR.op rfl rfl (ld3 rfl f0 rfl) rfl ?_
  refine GoR.op rfl rfl (fa27_1 rfl) rfl ?_
  refine GoR.op rfl rfl (ld23 rfl f rfl) rfl ?_
  refine GoR.op rfl rfl (aOp_lenSlice Try.underlying23 rfl hl2) rfl ?_
  refine GoR.op rfl rfl (aOp_sub rfl rfl (by constructor <;> omega) rfl) rfl ?_
  refine GoR.call rfl rfl (aOp_callFunc aFunc66 rfl) (inside_ok l.day 0 (F.rs.length - 1) (r := true) (by simp; omega) _) ?_ (by rintro _ _ ⟨q, _⟩; cases q)
  rintro v2 h2 ⟨q, x2⟩
  cases q
  refine ⟨_, rfl, ?_⟩
  replace f0 := f0.ext x2
  replace f := f.ext x2
  replace e0 := e0.trans x2
  iterate 3 refine GoR.op rfl rfl rfl rfl ?_
  refine GoR.op rfl rfl (fa59_2 rfl) rfl ?_
  refine GoR.op rfl rfl (ld30 rfl f0 rfl) rfl ?_
  refine GoR.call rfl rfl (aOp_callFunc aFunc85 rfl) (within_ok l.lo l.hi 0 100 (by omega) (by omega) (by omega) _) ?_ (by rintro _ _ ⟨q, _⟩; cases q)
  rintro v3 h3 ⟨q, x3⟩
  cases q
  refine ⟨_, rfl, ?_⟩
  replace f0 := f0.ext x3
  replace f := f.ext x3
  replace e0 := e0.trans x3
  iterate 3 refine GoR.op rfl rfl rfl rfl ?_
  refine GoR.end ?_
  exact Go.ret noJ_ok (ret_end (aResult_of Try.func84 rfl rfl) ⟨rfl, e0⟩)
theorem isNaN_ok (a : Int) (h : AH) : Runs Try.prog 104 [.int .i64 a] h (fun en h' => en = .ret (.bool false) ∧ Ext h h') := by
  have e0 : Ext h h := Ext.refl _
  refine Runs.intro aFunc104 rfl rfl rfl rfl fun rest => ?_
  refine Go.seq noJ_ok ?_
  refine Go.region noJ_ok rfl ?_
  refine GoR.op rfl rfl rfl rfl ?_
  refine GoR.end ?_
  refine Go.seq noJ_ok ?_
  refine Go.region noJ_ok rfl ?_
  iterate 2 refine GoR.op rfl rfl rfl rfl ?_
  refine GoR.op rfl rfl (aOp_neq rfl rfl (r := false) (decide_eq_true (by omega))) rfl ?_
  refine GoR.op rfl rfl rfl rfl ?_
  refine GoR.end ?_
  exact Go.ret noJ_ok (ret_end (aResult_of Try.func104 rfl rfl) ⟨rfl, e0⟩)
theorem less_ok (a b : Int) (hab : b ≤ a) (h : AH) : Runs Try.prog 99 [.int .i64 a, .int .i64 b] h (fun en h' => en = .ret (.bool false) ∧ Ext h h') := by
  refine Runs.intro aFunc99 rfl rfl rfl rfl fun rest => ?_
  refine Go.seq noJ_ok ?_
  refine Go.region noJ_ok rfl ?_
  refine GoR.op rfl rfl rfl rfl ?_
  refine GoR.end ?_
  refine Go.seq noJ_ok ?_
  refine Go.region noJ_ok rfl ?_
  refine GoR.op rfl rfl rfl rfl ?_
  refine GoR.call rfl rfl (aOp_callFunc aFunc104 rfl) (isNaN_ok a _) ?_ (by rintro _ _ ⟨q, _⟩; cases q)
  rintro v0 h0 ⟨q, x0⟩
  cases q
  refine ⟨_, rfl, ?_⟩
  have e0 := x0
  refine GoR.op rfl rfl rfl rfl ?_
  iterate 3 refine GoR.skip rfl rfl rfl ?_
  iterate 4 refine GoR.op rfl rfl rfl rfl ?_
  refine GoR.op rfl rfl (aOp_lss rfl rfl (r := false) (decide_eq_false (by omega))) rfl ?_
  iterate 2 refine GoR.op rfl rfl rfl rfl ?_
  refine GoR.end ?_
  exact Go.ret noJ_ok (ret_end (aResult_of Try.func99 rfl rfl) ⟨rfl, e0⟩)
theorem sorted_ok (s : AVal) (a b c : Int) (hab : a ≤ b) (hbc : b ≤ c) (h : AH) (hs : SliceOf h 1 s [[.int .i64 a], [.int .i64 b], [.int .i64 c]]) : Runs Try.prog 90 [s] h (fun en h' => en = .ret (.bool true) ∧ Ext h h') := by
  have hlen := hs.len
  have e0 : Ext h h := Ext.refl _
  refine Runs.intro aFunc90 rfl rfl rfl rfl fun rest => ?_
  refine Go.seq noJ_ok ?_
  refine Go.region noJ_ok rfl ?_
  refine GoR.op rfl rfl rfl rfl ?_
  refine GoR.end ?_
  iterate 2 refine Go.seq noJ_ok ?_
  refine Go.region noJ_ok rfl ?_
  refine GoR.op rfl rfl rfl rfl ?_
  refine GoR.op rfl rfl (aOp_lenSlice Try.underlying50 rfl hlen) rfl ?_
  refine GoR.op rfl rfl (aOp_sub rfl rfl (by constructor <;> simp <;> omega) rfl) rfl ?_
  refine GoR.op rfl rfl rfl rfl ?_
  refine GoR.end ?_
  refine Go.block noJ_ok ?_
  refine Go.loopKeep (fun i : Nat => [(0, s), (3, .int .i64 (2 - (i : Int)))]) (fun m i h' => m + i = 2 ∧ Ext h h') (n := 2) 0 ⟨rfl, rfl, trivial⟩ ⟨rfl, e0⟩ ?_
  clear e0
  rintro m i h4 ⟨hm, e0⟩ again
  have hq := (hs.ext e0)
  obtain ⟨b0, o0, p0, r0⟩ := hq.at (i := 0) rfl
  obtain ⟨b1, o1, p1, r1⟩ := hq.at (i := 1) rfl
  obtain ⟨b2, o2, p2, r2⟩ := hq.at (i := 2) rfl
  match i, hm with
  | 0, hm =>
    iterate 2 refine Go.seq noJ_ok ?_
    refine Go.region noJ_ok rfl ?_
    refine GoR.op rfl rfl rfl rfl ?_
    refine GoR.op rfl rfl (aOp_gtr rfl rfl (r := true) (decide_eq_true (by omega))) rfl ?_
    refine GoR.end ?_
    refine Go.cond noJ_ok (b := true) rfl ?_
    refine Go.code noJ_ok ?_
    refine Go.seq noJ_ok ?_
    refine Go.block noJ_ok ?_
    refine Go.seq noJ_ok ?_
    refine Go.drawnE plan90_0 ?_
    iterate 2 refine GoE.quiet rfl rfl rfl rfl ?_
    refine GoE.quiet rfl rfl (aOp_indexAddr (i := 2) Try.underlying50 sz3 rfl p2 rfl rfl) rfl ?_
    refine GoE.quiet rfl rfl (aOp_loadE1 (k := 0) ag3 rfl r2 rfl) rfl ?_
    iterate 2 refine GoE.quiet rfl rfl rfl rfl ?_
    refine GoE.quiet rfl rfl (aOp_sub rfl rfl (by constructor <;> omega) rfl) rfl ?_
    refine GoE.quiet rfl rfl (aOp_indexAddr (i := 1) Try.underlying50 sz3 rfl p1 rfl rfl) rfl ?_
    refine GoE.quiet rfl rfl (aOp_loadE1 (k := 0) ag3 rfl r1 rfl) rfl ?_
    refine GoE.call rfl rfl (aOp_callFunc aFunc99 rfl) (less_ok c b hbc _) (dropF_drop (show bit? 511 8 = true from rfl) (dropF_drop (show bit? 511 7 = true from rfl) (dropF_drop (show bit? 511 6 = true from rfl) (dropF_drop (show bit? 511 5 = true from rfl) (dropF_drop (show bit? 511 4 = true from rfl) (dropF_drop (show bit? 511 3 = true from rfl) (dropF_drop (show bit? 511 2 = true from rfl) (dropF_drop (show bit? 511 1 = true from rfl) (dropF_drop (show bit? 511 0 = true from rfl) rfl))))))))) ?_ (by rintro _ _ ⟨q, _⟩; cases q)
    rintro v5 h5 ⟨q, x5⟩
    cases q
    replace e0 := e0.trans x5
    refine ⟨recheck_nil, _, rfl, ?_⟩
    refine GoE.end rfl ?_
    refine Go.cond noJ_ok (b := false) rfl ?_
    refine Go.code noJ_ok ?_
    refine Go.inBlock noJ_ok ?_
    refine Go.region noJ_ok rfl ?_
    refine GoR.op rfl rfl rfl rfl ?_
    refine GoR.op rfl rfl (aOp_sub rfl rfl (by constructor <;> omega) rfl) rfl ?_
    refine GoR.op rfl rfl rfl rfl ?_
    refine GoR.end ?_
    exact again 1 1 _ _ (by omega) ⟨rfl, rfl, trivial⟩ ⟨rfl, e0⟩
  | 1, hm =>
    iterate 2 refine Go.seq noJ_ok ?_
    refine Go.region noJ_ok rfl ?_
    refine GoR.op rfl rfl rfl rfl ?_
    refine GoR.op rfl rfl (aOp_gtr rfl rfl (r := true) (decide_eq_true (by omega))) rfl ?_
    refine GoR.end ?_
    refine Go.cond noJ_ok (b := true) rfl ?_
    refine Go.code noJ_ok ?_
    refine Go.seq noJ_ok ?_
    refine Go.block noJ_ok ?_
    refine Go.seq noJ_ok ?_
    refine Go.drawnE plan90_0 ?_
    iterate 2 refine GoE.quiet rfl rfl rfl rfl ?_
    refine GoE.quiet rfl rfl (aOp_indexAddr (i := 1) Try.underlying50 sz3 rfl p1 rfl rfl) rfl ?_
    refine GoE.quiet rfl rfl (aOp_loadE1 (k := 0) ag3 rfl r1 rfl) rfl ?_
    iterate 2 refine GoE.quiet rfl rfl rfl rfl ?_
    refine GoE.quiet rfl rfl (aOp_sub rfl rfl (by constructor <;> omega) rfl) rfl ?_
    refine GoE.quiet rfl rfl (aOp_indexAddr (i := 0) Try.underlying50 sz3 rfl p0 rfl rfl) rfl ?_
    refine GoE.quiet rfl rfl (aOp_loadE1 (k := 0) ag3 rfl r0 rfl) rfl ?_
    refine GoE.call rfl rfl (aOp_callFunc aFunc99 rfl) (less_ok b a hab _) (dropF_drop (show bit? 511 8 = true from rfl) (dropF_drop (show bit? 511 7 = true from rfl) (dropF_drop (show bit? 511 6 = true from rfl) (dropF_drop (show bit? 511 5 = true from rfl) (dropF_drop (show bit? 511 4 = true from rfl) (dropF_drop (show bit? 511 3 = true from rfl) (dropF_drop (show bit? 511 2 = true from rfl) (dropF_drop (show bit? 511 1 = true from rfl) (dropF_drop (show bit? 511 0 = true from rfl) rfl))))))))) ?_ (by rintro _ _ ⟨q, _⟩; cases q)
    rintro v5 h5 ⟨q, x5⟩
    cases q
    replace e0 := e0.trans x5
    refine ⟨recheck_nil, _, rfl, ?_⟩
    refine GoE.end rfl ?_
    refine Go.cond noJ_ok (b := false) rfl ?_
    refine Go.code noJ_ok ?_
    refine Go.inBlock noJ_ok ?_
    refine Go.region noJ_ok rfl ?_
    refine GoR.op rfl rfl rfl rfl ?_
    refine GoR.op rfl rfl (aOp_sub rfl rfl (by constructor <;> omega) rfl) rfl ?_
    refine GoR.op rfl rfl rfl rfl ?_
    refine GoR.end ?_
    exact again 0 2 _ _ (by omega) ⟨rfl, rfl, trivial⟩ ⟨rfl, e0⟩
  | 2, hm =>
    iterate 2 refine Go.seq noJ_ok ?_
    refine Go.region noJ_ok rfl ?_
    refine GoR.op rfl rfl rfl rfl ?_
    refine GoR.op rfl rfl (aOp_gtr rfl rfl (r := false) (decide_eq_false (by omega))) rfl ?_
    refine GoR.end ?_
    refine Go.cond noJ_ok (b := false) rfl ?_
    refine Go.code noJ_ok ?_
    refine Go.seq noJ_ok ?_
    refine Go.region noJ_ok rfl ?_
    refine GoR.op rfl rfl rfl rfl ?_
    refine GoR.end ?_
    exact Go.ret noJ_ok (ret_end (aResult_of Try.func90 rfl rfl) ⟨rfl, e0⟩)
theorem valid_ok {F : FieldV} (O : F.Ok) (hsl rsl lsl : AVal) (h : AH) (A : FieldAt h F hsl rsl lsl) : Runs Try.prog 65 [.agg (F.cells hsl rsl lsl)] h (fun en h' => en = .ret (.bool true) ∧ Ext h h') := by
  have hnh := O.nh
  have hnr := O.nr
  have hnl := O.nl
  have hlim := O.lim
  have hd := O.d
  have h1 := A.hs.len
  have h2 := A.rs.len
  have h3 := A.ls.len
  rw [List.length_map] at h1 h2 h3
  have hz : F.hs.length = F.hs.length := rfl
  show Runs Try.prog 65 [.agg [hsl, rsl, .int .i64 F.a, .int .i64 F.b, .int .i64 F.c, .int .i64 F.lim, lsl]] h _
  refine Runs.intro aFunc65 rfl rfl rfl rfl fun rest => ?_
  refine Go.seq noJ_ok ?_
  refine Go.region noJ_ok rfl ?_
  refine GoR.box rfl rfl rfl rfl rfl rfl fun h4 x4 f4 => ?_
  have e0 := x4
  have := f4.1
  refine GoR.op rfl rfl rfl rfl ?_
  refine GoR.end ?_
  refine Go.seq noJ_ok ?_
  refine Go.region noJ_ok rfl ?_
  iterate 2 refine GoR.op rfl rfl rfl rfl ?_
  refine GoR.end ?_
  refine Go.seq noJ_ok ?_
  refine Go.region noJ_ok rfl ?_
  refine GoR.op rfl rfl rfl rfl ?_
  refine GoR.end ?_
  refine Go.seq noJ_ok ?_
  refine Go.region noJ_ok rfl ?_
  refine GoR.op rfl rfl (fa27_0 rfl) rfl ?_
  refine GoR.op rfl rfl (ld22 rfl f4 rfl) rfl ?_
  refine GoR.op rfl rfl (aOp_lenSlice Try.underlying22 rfl h1) rfl ?_
  refine GoR.call rfl rfl (aOp_callFunc aFunc66 rfl) (inside_ok F.hs.length 1 3 (r := true) (by simp; omega) _) ?_ (by rintro _ _ ⟨q, _⟩; cases q)
  rintro v5 h5 ⟨q, x5⟩
  cases q
  refine ⟨_, rfl, ?_⟩
  replace f4 := f4.ext x5
  replace e0 := e0.trans x5
  refine GoR.op rfl rfl rfl rfl ?_
  refine GoR.op rfl rfl (fa27_0 rfl) rfl ?_
  refine GoR.op rfl rfl (ld22 rfl f4 rfl) rfl ?_
  refine GoR.call rfl rfl (aOp_callFunc aFunc67 rfl) (Runs.flip (turfs_ok hsl .nilslice F.hs [] _ (A.hs.ext e0) .nil (fun x hx => (O.h x hx).1) (by omega) (by simp))) ?_ (by rintro _ _ ⟨s, sls, q, _, hsls, G, LG⟩; cases q)
  rintro v6 h6 ⟨s, sls, q, x6, hsls, G, LG⟩
  cases q
  refine ⟨_, rfl, ?_⟩
  replace f4 := f4.ext x6
  replace e0 := e0.trans x6
  obtain ⟨s, hs⟩ : ∃ s, s = v6 := ⟨_, rfl⟩
  subst hs
  have TA : TurfsAt h6 s (turfsOf F.hs []) sls := turfsAt_of (by rw [hsls, turfsOf_len]) (by rw [turfsOf_len]; exact G) LG
  have hcont : ∀ h', Ext h6 h' → Runs Try.prog 72 [s, .func (.func 87) [] []] h' (fun en h'' => en = .ret (.bool false) ∧ Ext h' h'') := fun h' e => by
    have := cont72_ok tCells aFunc87 s ((turfsOf F.hs []).zip sls) (fun _ => false) h' (TA.s.ext e) (by rw [List.length_zip, hsls, turfsOf_len]; omega) (caps := []) (fun x h' hx e => by
      obtain ⟨k, k1, _⟩ := zip_mem hx
      obtain ⟨i, hi, hxi⟩ := List.mem_mapIdx.1 (List.mem_of_getElem? k1)
      have hh := O.h _ (List.getElem_mem hi)
      refine bad_ok ?_ ?_ x.2 h'
      · rw [← hxi]
        show (F.hs[i].p).toNat < 3
        omega
      · rw [← hxi]
        show 0 ≤ F.hs[i].lo ∧ F.hs[i].lo ≤ F.hs[i].hi ∧ F.hs[i].hi ≤ 100 ∧ F.hs[i].hi - F.hs[i].lo ≤ 5
        omega)
    rw [show ((turfsOf F.hs []).zip sls).any (fun _ => false) = false by simp] at this
    exact this
  have hcr : ∀ h', Ext h h' → Runs Try.prog 88 [rsl, .func (.func 89) [] []] h' (fun en h'' => en = .ret (.bool false) ∧ Ext h' h'') := fun h' e => by
    have := cont88_ok spC aFunc89 rsl F.rs (fun _ => false) h' (A.rs.ext e) (by omega) (caps := []) (fun x h' hx e => badRain_ok x (O.r x hx) h')
    rw [show F.rs.any (fun _ => false) = false by simp] at this
    exact this
  have hsd : ∀ h', Has h' h.next (.cells .plain [hsl, rsl, .int .i64 F.a, .int .i64 F.b, .int .i64 F.c, .int .i64 F.lim, lsl] 27) → SliceOf h' 1 (.slice h.next 2 3 3) ([F.a, F.b, F.c].map fun x => [AVal.int .i64 x]) := fun h' f => SliceOf.mk' rfl rfl f rfl (fun i l hl => by
    match i, hl with
    | 0, hl => cases hl; rfl
    | 1, hl => cases hl; rfl
    | 2, hl => cases hl; rfl)
  have hcd : ∀ h', Has h' h.next (.cells .plain [hsl, rsl, .int .i64 F.a, .int .i64 F.b, .int .i64 F.c, .int .i64 F.lim, lsl] 27) → Runs Try.prog 80 [.slice h.next 2 3 3, .func (.func 86) [] []] h' (fun en h'' => en = .ret (.bool false) ∧ Ext h' h'') := fun h' f => by
    have := cont80_ok aFunc86 (.slice h.next 2 3 3) [F.a, F.b, F.c] (fun _ => false) h' (hsd h' f) (by simp) (caps := []) (fun x h'' hx e => badDry_ok x (by simp at hx; omega) h'')
    rw [show [F.a, F.b, F.c].any (fun _ => false) = false by simp] at this
    exact this
  have hcl : ∀ h', Has h' h.next (.cells .plain [hsl, rsl, .int .i64 F.a, .int .i64 F.b, .int .i64 F.c, .int .i64 F.lim, lsl] 27) → Ext h h' → Runs Try.prog 91 [lsl, .func (.func 84) [] [.ptr h.next 0]] h' (fun en h'' => en = .ret (.bool false) ∧ Ext h' h'') := fun h' f e => by
    have := cont91_ok LookV.cells aFunc84 lsl F.looks (fun _ => false) h' (A.ls.ext e) (by omega) (caps := [.ptr h.next 0]) (fun x h'' hx e' => badLook_ok O x hx hsl rsl lsl h.next h'' (f.ext e') h1 h2)
    rw [show F.looks.any (fun _ => false) = false by simp] at this
    exact this
  refine GoR.call rfl rfl (aOp_callFunc aFunc72 rfl) (hcont _ (Ext.refl _)) ?_ (by rintro _ _ ⟨q, _⟩; cases q)
  rintro v7 h7 ⟨q, x7⟩
  cases q
  refine ⟨_, rfl, ?_⟩
  replace f4 := f4.ext x7
  replace e0 := e0.trans x7
  iterate 3 refine GoR.op rfl rfl rfl rfl ?_
  refine GoR.op rfl rfl (fa27_1 rfl) rfl ?_
  refine GoR.op rfl rfl (ld23 rfl f4 rfl) rfl ?_
  refine GoR.op rfl rfl (aOp_lenSlice Try.underlying23 rfl h2) rfl ?_
  refine GoR.call rfl rfl (aOp_callFunc aFunc66 rfl) (inside_ok F.rs.length 1 6 (r := true) (by simp; omega) _) ?_ (by rintro _ _ ⟨q, _⟩; cases q)
  rintro v8 h8 ⟨q, x8⟩
  cases q
  refine ⟨_, rfl, ?_⟩
  replace f4 := f4.ext x8
  replace e0 := e0.trans x8
  iterate 2 refine GoR.op rfl rfl rfl rfl ?_
  refine GoR.op rfl rfl (fa27_1 rfl) rfl ?_
  refine GoR.op rfl rfl (ld23 rfl f4 rfl) rfl ?_
  refine GoR.call rfl rfl (aOp_callFunc aFunc88 rfl) (hcr _ e0) ?_ (by rintro _ _ ⟨q, _⟩; cases q)
  rintro v9 h9 ⟨q, x9⟩
  cases q
  refine ⟨_, rfl, ?_⟩
  replace f4 := f4.ext x9
  replace e0 := e0.trans x9
  iterate 3 refine GoR.op rfl rfl rfl rfl ?_
  refine GoR.op rfl rfl (fa27_2 rfl) rfl ?_
  iterate 2 refine GoR.op rfl rfl rfl rfl ?_
  refine GoR.call rfl rfl (aOp_callFunc aFunc80 rfl) (hcd _ f4) ?_ (by rintro _ _ ⟨q, _⟩; cases q)
  rintro v10 h10 ⟨q, x10⟩
  cases q
  refine ⟨_, rfl, ?_⟩
  replace f4 := f4.ext x10
  replace e0 := e0.trans x10
  iterate 3 refine GoR.op rfl rfl rfl rfl ?_
  refine GoR.op rfl rfl (fa27_2 rfl) rfl ?_
  refine GoR.op rfl rfl rfl rfl ?_
  refine GoR.call rfl rfl (aOp_callFunc aFunc90 rfl) (sorted_ok (.slice h.next 2 3 3) F.a F.b F.c (by omega) (by omega) _ (hsd _ f4)) ?_ (by rintro _ _ ⟨q, _⟩; cases q)
  rintro v11 h11 ⟨q, x11⟩
  cases q
  refine ⟨_, rfl, ?_⟩
  replace f4 := f4.ext x11
  replace e0 := e0.trans x11
  iterate 2 refine GoR.op rfl rfl rfl rfl ?_
  refine GoR.op rfl rfl (fa27_3 rfl) rfl ?_
  refine GoR.op rfl rfl (ld3 rfl f4 rfl) rfl ?_
  refine GoR.call rfl rfl (aOp_callFunc aFunc66 rfl) (inside_ok F.lim 0 100 (r := true) (by simp; omega) _) ?_ (by rintro _ _ ⟨q, _⟩; cases q)
  rintro v12 h12 ⟨q, x12⟩
  cases q
  refine ⟨_, rfl, ?_⟩
  replace f4 := f4.ext x12
  replace e0 := e0.trans x12
  iterate 2 refine GoR.op rfl rfl rfl rfl ?_
  refine GoR.op rfl rfl (fa27_4 rfl) rfl ?_
  refine GoR.op rfl rfl (ld25 rfl f4 rfl) rfl ?_
  refine GoR.op rfl rfl (aOp_lenSlice Try.underlying25 rfl h3) rfl ?_
  refine GoR.op rfl rfl (aOp_leq rfl rfl (r := true) (decide_eq_true (by omega))) rfl ?_
  iterate 2 refine GoR.op rfl rfl rfl rfl ?_
  refine GoR.op rfl rfl (fa27_4 rfl) rfl ?_
  refine GoR.op rfl rfl (ld25 rfl f4 rfl) rfl ?_
  refine GoR.op rfl rfl rfl rfl ?_
  refine GoR.call rfl rfl (aOp_callFunc aFunc91 rfl) (hcl _ f4 e0) ?_ (by rintro _ _ ⟨q, _⟩; cases q)
  rintro v13 h13 ⟨q, x13⟩
  cases q
  refine ⟨_, rfl, ?_⟩
  replace f4 := f4.ext x13
  replace e0 := e0.trans x13
  iterate 3 refine GoR.op rfl rfl rfl rfl ?_
  refine GoR.end ?_
  exact Go.ret noJ_ok (ret_end (aResult_of Try.func65 rfl rfl) ⟨rfl, e0⟩)
end Go.Proofs.Ytmdheijpnlonoaa

namespace Go.Proofs.Ytmdheijpnlonoaa
open Go Go.AbsE
set_option linter.unusedSimpArgs false
set_option maxRecDepth 100000
set_option maxHeartbeats 0
set_option linter.unusedVariables false
theorem attempt_pan {rest : List AFr} {t : Tr AVal} {h : AH} {b : Nat} {c0 code : Int} {R : AEnd → AH → Prop} (ht : t.get (pth 4) = some (.ptr b 0)) (hb : Has h b (.cells .plain [.int .i64 c0] 35))
    (hR : ∀ h', h.next ≤ h'.next → (∀ x, x < h.next → x ≠ b → h'.get x = h.get x) → R (.ret (.int .i64 code)) h') :
    FLeft Try.prog ⟨34, 13, [.call (.func 64) [.ptr b 0] []], false, none, rest⟩ (.panicking (refusal code)) t h (Post Try.prog 34 rest R) := by
  refine FLeft.defer (fun q => by cases q) aFunc64 rfl rfl rfl rfl fun todo => ?_
  refine Go.seq noJ_ok (Go.region noJ_ok rfl ?_)
  refine GoR.recover1 rfl rfl rfl rfl rfl ?_
  have y0 : ExtF (fun x => x = b) h h := ExtF.of (Ext.refl _)
  refine GoR.end ?_
  refine Go.block noJ_ok ?_
  refine Go.seq noJ_ok ?_
  refine Go.region noJ_ok rfl ?_
  refine GoR.op rfl rfl rfl rfl ?_
  refine GoR.end ?_
  refine Go.cond noJ_ok (b := false) rfl ?_
  refine Go.seq noJ_ok ?_
  refine Go.region noJ_ok rfl ?_
  iterate 3 refine GoR.op rfl rfl rfl rfl ?_
  refine GoR.end ?_
  refine Go.cond noJ_ok (b := true) rfl ?_
  refine Go.seq noJ_ok ?_
  refine Go.region noJ_ok rfl ?_
  refine GoR.op rfl rfl rfl rfl ?_
  refine GoR.end ?_
  refine Go.region noJ_ok rfl ?_
  refine GoR.op rfl rfl rfl rfl ?_
  refine GoR.store rfl rfl rfl rfl rfl rfl hb rfl sz35 rfl rfl rfl fun h0 u0 => ?_
  replace hb := u0.has hb
  replace y0 := y0.upd u0 (by first | exact .inl rfl | exact .inl (.inl rfl) | exact .inl (.inr rfl) | exact .inl (by assumption) | exact .inr (by omega))
  refine GoR.end ?_
  refine Go.inBlock noJ_ok ?_
  refine Go.endL ?_
  refine FLeft.settle (v := .tuple []) (aResult_of Try.func64 rfl rfl) ?_
  exact FLeft.ret (v := .int .i64 code) (aResult_of Try.func34 rfl (aResults_cell ht hb (inCells_one ag35 rfl))) (hR _ y0.1 fun x hx hn => y0.2 x hx hn) todo
theorem attempt_ret {rest : List AFr} {t : Tr AVal} {h : AH} {b : Nat} {code : Int} {R : AEnd → AH → Prop} (ht : t.get (pth 4) = some (.ptr b 0)) (hb : Has h b (.cells .plain [.int .i64 code] 35)) (hR : R (.ret (.int .i64 code)) h) :
    FLeft Try.prog ⟨34, 13, [.call (.func 64) [.ptr b 0] []], false, none, rest⟩ .returning t h (Post Try.prog 34 rest R) := by
  refine FLeft.defer (fun q => by cases q) aFunc64 rfl rfl rfl rfl fun todo => ?_
  refine Go.seq noJ_ok (Go.region noJ_ok rfl ?_)
  refine GoR.recover0 rfl rfl rfl rfl rfl ?_
  refine GoR.end ?_
  refine Go.block noJ_ok ?_
  refine Go.seq noJ_ok ?_
  refine Go.region noJ_ok rfl ?_
  refine GoR.op rfl rfl rfl rfl ?_
  refine GoR.end ?_
  refine Go.cond noJ_ok (b := true) rfl ?_
  refine Go.region noJ_ok rfl ?_
  refine GoR.op rfl rfl rfl rfl ?_
  refine GoR.end ?_
  refine Go.inBlock noJ_ok ?_
  refine Go.endL ?_
  refine FLeft.settle (v := .tuple []) (aResult_of Try.func64 rfl rfl) ?_
  exact FLeft.ret (v := .int .i64 code) (aResult_of Try.func34 rfl (aResults_cell ht hb (inCells_one ag35 rfl))) hR todo
theorem refuse_no (code : Int) (h : AH) : Runs Try.prog 55 [.bool false, .int .i64 code] h (fun en h' => en = .ret (.tuple []) ∧ Ext h h') :=
  (refuse_ok false code h).mono fun en h' k => by
    rcases k with ⟨rfl, ⟨_, q⟩ | ⟨q, _⟩⟩
    · exact ⟨q, Ext.refl _⟩
    · cases q
theorem attempt_ok {F : FieldV} (O : F.Ok) (hsl rsl lsl : AVal) (h : AH) (A : FieldAt h F hsl rsl lsl) (W : FuncId) (fW : Func) (hfid : aFunc Try.prog W = some fW) (caps : List AVal) (S : Nat → Prop) (hS : ∀ b, S b → b < h.next) (T : Int → AH → Prop)
    (hbody : ∀ h', Ext h h' → Runs Try.prog W ([.agg (F.cells hsl rsl lsl)] ++ caps) h' (fun en h'' => ExtF S h' h'' ∧ ((en = .ret (.tuple []) ∧ T 0 h'') ∨ ∃ code, en = .pan (refusal code) ∧ T code h''))) :
    Runs Try.prog 34 [.agg (F.cells hsl rsl lsl), .func (.func W) [] caps] h (fun en h' => ∃ code h2, en = .ret (.int .i64 code) ∧ T code h2 ∧ ExtF S h h' ∧ h2.next ≤ h'.next ∧ ∀ b, b < h.next → h'.get b = h2.get b) := by
  show Runs Try.prog 34 [.agg [hsl, rsl, .int .i64 F.a, .int .i64 F.b, .int .i64 F.c, .int .i64 F.lim, lsl], _] h _
  refine Runs.intro aFunc34 rfl rfl rfl rfl fun rest => ?_
  refine Go.seq noJ_ok ?_
  refine Go.region noJ_ok rfl ?_
  refine GoR.box rfl rfl rfl rfl rfl rfl fun h0 x0 f0 => ?_
  have e0 := x0
  have := f0.1
  refine GoR.alloc rfl rfl rfl zt35 rfl rfl fun h1 x1 f1 => ?_
  have := e0.1
  have := f0.1
  replace f0 := f0.ext x1
  replace e0 := e0.trans x1
  have := f1.1
  refine GoR.end ?_
  refine Go.seq noJ_ok ?_
  refine Go.region noJ_ok rfl ?_
  refine GoR.op rfl rfl rfl rfl ?_
  have hx0 := x0.1
  have hx1 := x1.1
  refine GoR.defer rfl rfl rfl rfl ?_
  refine GoR.end ?_
  refine Go.seq noJ_ok ?_
  refine Go.region noJ_ok rfl ?_
  refine GoR.op rfl rfl (ld27 rfl f0 rfl) rfl ?_
  refine GoR.call rfl rfl (aOp_callFunc aFunc65 rfl) (valid_ok O hsl rsl lsl _ (A.ext e0)) ?_ (by rintro _ _ ⟨q, _⟩; cases q)
  rintro v2 h2 ⟨q, x2⟩
  cases q
  refine ⟨_, rfl, ?_⟩
  replace f1 := f1.ext x2
  replace f0 := f0.ext x2
  replace e0 := e0.trans x2
  refine GoR.op rfl rfl rfl rfl ?_
  refine GoR.call rfl rfl (aOp_callFunc aFunc55 rfl) (refuse_no 1 _) ?_ (by rintro _ _ ⟨q, _⟩; cases q)
  rintro v3 h3 ⟨q, x3⟩
  cases q
  refine ⟨_, rfl, ?_⟩
  replace f1 := f1.ext x3
  replace f0 := f0.ext x3
  replace e0 := e0.trans x3
  refine GoR.end ?_
  refine Go.seq noJ_ok ?_
  refine Go.region noJ_ok rfl ?_
  refine GoR.op rfl rfl rfl rfl ?_
  refine GoR.op rfl rfl (ld27 rfl f0 rfl) rfl ?_
  have he3 := e0.1
  have hnS : ¬ S h0.next := fun q => by have := hS _ q; omega
  refine GoR.callP rfl rfl (aOp_callVal rfl hfid rfl) (hbody h3 e0) ?_ ?_
  · rintro v h4 ⟨x4, ⟨q, t4⟩ | ⟨code, q, _⟩⟩
    · cases q
      refine ⟨_, rfl, ?_⟩
      have hx4 := x4.1
      replace f1 := f1.extF x4 hnS
      have y9 : ExtF S h h4 := (ExtF.of e0).trans (fun _ q => .inl q) x4
      clear e0 f0
      refine GoR.end ?_
      refine Go.seq noJ_ok ?_
      refine Go.region noJ_ok rfl ?_
      refine GoR.store rfl rfl rfl rfl rfl rfl f1 rfl sz35 rfl rfl rfl fun h5 u5 => ?_
      replace f1 := u5.has f1
      replace y9 := y9.upd u5 (by first | exact .inl rfl | exact .inl (.inl rfl) | exact .inl (.inr rfl) | exact .inl (by assumption) | exact .inr (by omega))
      refine GoR.end ?_
      exact Go.retL (attempt_ret rfl f1 ⟨0, h4, rfl, t4, y9, by rw [u5.1]; exact Nat.le_refl _, fun b hb => u5.2.2 b (by omega)⟩)
    · cases q
  · rintro chain h4 ⟨x4, ⟨q, _⟩ | ⟨code, q, t4⟩⟩
    · cases q
    have q := AEnd.pan.inj q
    subst q
    have hx4 := x4.1
    refine attempt_pan rfl (f1.extF x4 hnS) fun h' n1 n2 => ⟨code, h4, rfl, t4, ⟨by omega, fun b hb hbS => by rw [n2 b (by omega) (by omega), x4.2 b (by omega) hbS, e0.2 b hb]⟩, n1, fun b hb => n2 b (by omega) (by omega)⟩
end Go.Proofs.Ytmdheijpnlonoaa

namespace Go.Proofs.Ytmdheijpnlonoaa
open Go Go.AbsE
set_option linter.unusedSimpArgs false
set_option maxRecDepth 100000
set_option maxHeartbeats 0
set_option linter.unusedVariables false
theorem truths_yes {F : FieldV} (O : F.Ok) (hne : F.ents ≠ []) (hsl rsl lsl : AVal) (h : AH) (A : FieldAt h F hsl rsl lsl) :
    Runs Try.prog 38 [.agg (F.cells hsl rsl lsl)] h (fun en h' => ∃ bm, en = .ret (.map bm) ∧ Ext h h' ∧ h.next ≤ bm ∧ Has h' bm (.map (esOf F.ents) F.ents.length)) :=
  (truths_ok O hsl rsl lsl h A).mono fun en h' ⟨e, k⟩ => by
    rcases k with ⟨_, bm, q, q2, q3⟩ | ⟨q, _⟩
    · exact ⟨bm, q, e, q2, q3⟩
    · exact absurd q hne
theorem truths_no {F : FieldV} (O : F.Ok) (he : F.ents = []) (hsl rsl lsl : AVal) (h : AH) (A : FieldAt h F hsl rsl lsl) :
    Runs Try.prog 38 [.agg (F.cells hsl rsl lsl)] h (fun en h' => en = .pan (refusal 10) ∧ Ext h h') :=
  (truths_ok O hsl rsl lsl h A).mono fun en h' ⟨e, k⟩ => by
    rcases k with ⟨q, _⟩ | ⟨_, q⟩
    · exact absurd he q
    · exact ⟨q, e⟩
def Good (p : Int × Int) : Prop := 0 ≤ p.1 ∧ p.1 ≤ p.2 ∧ p.2 ≤ 100
def NG (p : Int × Int) : Prop := p = noSp ∨ Good p
theorem joinP_ng {a b : Int × Int} (ha : NG a) (hb : NG b) : NG (joinP a b) ∧ (Good a ∨ Good b → Good (joinP a b)) := by
  have h1 : ∀ x, Good x → joinP noSp x = x := fun x hx => joinP_noSp ⟨by have := hx.1; have := hx.2; omega, by have := hx.1; have := hx.2; omega⟩
  have hng : ¬ Good noSp := by unfold Good noSp; omega
  rcases ha with rfl | ha
  · rcases hb with rfl | hb
    · refine ⟨.inl ?_, fun q => absurd (q.elim id id) hng⟩
      unfold joinP noSp
      ext <;> dsimp only <;> split <;> omega
    · rw [h1 b hb]
      exact ⟨.inr hb, fun _ => hb⟩
  · rcases hb with rfl | hb
    · rw [joinP_comm, h1 a ha]
      exact ⟨.inr ha, fun _ => ha⟩
    · have : Good (joinP a b) := by
        unfold Good joinP at *
        dsimp only
        refine ⟨?_, ?_, ?_⟩
        · split <;> omega
        · split <;> split <;> omega
        · split <;> omega
      exact ⟨.inr this, fun _ => this⟩
theorem foldl_ng : ∀ {l : List (Int × Int)} {a : Int × Int}, NG a → (∀ p, p ∈ l → NG p) → NG (l.foldl joinP a) ∧ ((Good a ∨ ∃ p, p ∈ l ∧ Good p) → Good (l.foldl joinP a))
  | [], a, ha, _ => ⟨ha, fun q => q.elim id fun ⟨_, q, _⟩ => by cases q⟩
  | x :: l, a, ha, hl => by
    obtain ⟨j1, j2⟩ := joinP_ng ha (hl x (by simp))
    obtain ⟨k1, k2⟩ := foldl_ng (l := l) j1 fun p hp => hl p (by simp [hp])
    refine ⟨k1, fun q => k2 ?_⟩
    rcases q with q | ⟨p, hp, q⟩
    · exact .inl (j2 (.inl q))
    · rcases List.mem_cons.1 hp with rfl | hp
      · exact .inl (j2 (.inr q))
      · exact .inr ⟨p, hp, q⟩
theorem joinL_good {l : List (Int × Int)} (hl : ∀ p, p ∈ l → NG p) (hg : ∃ p, p ∈ l ∧ Good p) : Good (joinL l) := (foldl_ng (.inl rfl) hl).2 (.inr hg)
theorem NG.in {p : Int × Int} (h : NG p) : InSp p := by
  rcases h with rfl | h
  · exact noSp_in
  · unfold Good at h; unfold InSp; omega
theorem stepE_ng {n : Nat} {x : List Int} (hx : x.length = 6) (hxi : ∀ k, k ∈ x → 0 ≤ k ∧ k ≤ 100) {st : List (Int × Int)} (hst : st.length = 6) (h : ∀ d, d < n → NG ((st[d]?).getD noE)) {d : Nat} (hd : d < n) (hd6 : d < 6) :
    Good (((stepE n x st)[d]?).getD noE) := by
  unfold stepE
  rw [range_at _ hd6, if_pos hd, Option.getD_some]
  have hg : Good (atD x d, atD x d) := by
    have : atD x d ∈ x := by
      unfold atD
      have : x[d]? = some (x[d]'(by omega)) := by simp
      rw [this]
      exact List.getElem_mem _
    have := hxi _ this
    unfold Good
    dsimp only
    omega
  refine joinL_good (fun p hp => ?_) ⟨_, by simp, hg⟩
  rcases List.mem_cons.1 hp with rfl | hp
  · exact h d hd
  · rcases List.mem_cons.1 hp with rfl | hp
    · exact .inr hg
    · cases hp
theorem fold_ng {n : Nat} (hn : n ≤ 6) : ∀ {l : List (List Int)} {st : List (Int × Int)}, (∀ x, x ∈ l → x.length = 6 ∧ ∀ k, k ∈ x → 0 ≤ k ∧ k ≤ 100) → st.length = 6 → (∀ d, d < n → NG ((st[d]?).getD noE)) →
    ∀ d, d < n → NG (((l.foldl (fun st x => stepE n x st) st)[d]?).getD noE) ∧ (l ≠ [] → Good (((l.foldl (fun st x => stepE n x st) st)[d]?).getD noE))
  | [], st, _, _, h, d, hd => ⟨h d hd, fun q => absurd rfl q⟩
  | x :: l, st, hl, hst, h, d, hd => by
    have hx := hl x (by simp)
    have hs : ∀ d, d < n → Good (((stepE n x st)[d]?).getD noE) := fun d hd => stepE_ng hx.1 hx.2 hst h hd (by omega)
    have ih := fold_ng hn (l := l) (st := stepE n x st) (fun y hy => hl y (by simp [hy])) (stepE_len _ _ _) (fun d hd => .inr (hs d hd)) d hd
    refine ⟨ih.1, fun _ => ?_⟩
    cases l with
    | nil => exact hs d hd
    | cons y l => exact ih.2 (by simp)
theorem startE_ng {n : Nat} (hn : n ≤ 6) : ∀ d, d < n → NG (((startE n)[d]?).getD noE) := fun d hd => by
  unfold startE
  rw [range_at _ (by omega), if_pos hd]
  exact .inl rfl
theorem evL_good {a b c : Int} {t : TurfV} {rs : List Int} (hn : rs.length ≤ 6) (hp : possB a b c t rs = true) {d : Nat} (hd : d < rs.length) : Good (((evL a b c t rs)[d]?).getD noE) := by
  refine (fold_ng hn (l := rightC a b c t rs) (fun x hx => ⟨rightC_len hn hx, rightC_in hx⟩) (startE_len _) (startE_ng hn) d hd).2 fun q => ?_
  unfold possB at hp
  rw [q] at hp
  cases hp
theorem stepE_after {n : Nat} (x : List Int) {st : List (Int × Int)} {d : Nat} (hd : ¬ d < n) (hd6 : d < 6) : ((stepE n x st)[d]?).getD noE = (st[d]?).getD noE := by
  unfold stepE
  rw [range_at _ hd6, if_neg hd]
  rfl
theorem fold_after {n : Nat} : ∀ {l : List (List Int)} {st : List (Int × Int)} {d : Nat}, ¬ d < n → d < 6 → ((l.foldl (fun st x => stepE n x st) st)[d]?).getD noE = (st[d]?).getD noE
  | [], _, _, _, _ => rfl
  | x :: l, st, d, hd, hd6 => by
    rw [List.foldl_cons, fold_after hd hd6, stepE_after x hd hd6]
theorem evL_in {a b c : Int} {t : TurfV} {rs : List Int} (hn : rs.length ≤ 6) : ∀ p, p ∈ evL a b c t rs → InSp p := by
  intro p hp
  obtain ⟨d, hd, rfl⟩ := List.getElem_of_mem hp
  have hd6 : d < 6 := by rw [evL_len] at hd; exact hd
  have hget : (evL a b c t rs)[d] = ((evL a b c t rs)[d]?).getD noE := by simp [hd]
  rw [hget]
  by_cases hdn : d < rs.length
  · exact (fold_ng hn (l := rightC a b c t rs) (fun x hx => ⟨rightC_len hn hx, rightC_in hx⟩) (startE_len _) (startE_ng hn) d hdn).1.in
  · unfold evL
    rw [fold_after hdn hd6]
    unfold startE
    rw [range_at _ hd6, if_neg hdn]
    show InSp noE
    unfold InSp noE
    decide
def FieldV.wet (F : FieldV) (i : Int) (d : Nat) : Int × Int := joinL (F.ents.map fun x => if x.1 = i then (x.2.2[d]?).getD noSp else noSp)
theorem ents_mem {F : FieldV} {x : Ent} (h : x ∈ F.ents) : ∃ (l : List Int) (i : Nat) (T : TurfV), l ∈ falls F.rs ∧ F.ts[i]? = some T ∧ possB F.a F.b F.c T l = true ∧ x = ((i : Int), padF l, evL F.a F.b F.c T l) := by
  obtain ⟨l, hl, hx⟩ := List.mem_flatMap.1 h
  have hx2 := entsOf_mem hx
  unfold entsOf at hx
  split at hx
  · cases hx
  · rename_i hany
    obtain ⟨i, hi, rfl⟩ := List.mem_mapIdx.1 hx2
    refine ⟨l, i, F.ts[i], hl, by simp, ?_, rfl⟩
    cases q : possB F.a F.b F.c F.ts[i] l with
    | true => rfl
    | false => exact absurd (List.any_eq_true.2 ⟨F.ts[i], List.getElem_mem hi, by rw [q]; rfl⟩) hany
end Go.Proofs.Ytmdheijpnlonoaa

namespace Go.Proofs.Ytmdheijpnlonoaa
open Go Go.AbsE
set_option linter.unusedSimpArgs false
set_option maxRecDepth 100000
set_option maxHeartbeats 0
set_option linter.unusedVariables false
theorem absS_ints : ∀ l : List Int, mapO absS (l.map fun x => Value.int .i64 x) = some (l.map fun x => AVal.int .i64 x)
  | [] => rfl
  | x :: l => by simp only [List.map_cons, mapO, absS, absS_ints l]
theorem absV_key (a : Int) (l : List Int) : absV (keyV a l) = some (.agg (.int .i64 a :: l.map (.int .i64))) := by
  have := absS_ints (a :: l)
  simp only [List.map_cons] at this
  unfold keyV absV
  simp only [this]
noncomputable def decEn (l : List Ent) (en : AMapE) : Ent := (l[en.born]?).getD (0, [], [])
theorem esOf_map {β : Type} (l : List Ent) (g : AMapE → β) (g' : Ent → β) (h : ∀ (i : Nat) x, l[i]? = some x → g ⟨keyV x.1 x.2.1, .agg (x.2.2.flatMap spC), i⟩ = g' x) : (esOf l).map g = l.map g' := by
  unfold esOf
  apply List.ext_getElem?
  intro i
  rw [List.getElem?_map, List.getElem?_mapIdx, List.getElem?_map]
  cases q : l[i]? with
  | none => rfl
  | some x => exact congrArg some (h i x q)
theorem known_at {F : FieldV} (O : F.Ok) {h : AH} {bm : Nat} (f : Has h bm (.map (esOf F.ents) F.ents.length)) : Known h bm (esOf F.ents) F.ents.length (decEn F.ents) := by
  have hn6 := O.nr.2
  have hdec : ∀ en, en ∈ esOf F.ents → ∃ x, x ∈ F.ents ∧ decEn F.ents en = x ∧ en.key = keyV x.1 x.2.1 ∧ en.val = .agg (x.2.2.flatMap spC) := by
    intro en hen
    obtain ⟨x, hx, hk, hv⟩ := esOf_mem hen
    exact ⟨x, List.mem_of_getElem? hx, by unfold decEn; rw [hx]; rfl, hk, hv⟩
  refine ⟨⟨f.1, ?_, ?_, ?_⟩, ?_, ?_, ?_⟩
  · unfold mapB
    rw [f.2]
  · intro en hen
    obtain ⟨x, hx, _, _⟩ := esOf_mem hen
    exact (List.getElem?_eq_some_iff.1 hx).1
  · unfold esOf
    rw [List.pairwise_iff_getElem]
    intro i j hi hj hij
    rw [List.getElem_mapIdx, List.getElem_mapIdx]
    dsimp only
    omega
  · intro en hen
    obtain ⟨x, hx, hd, hk, hv⟩ := hdec en hen
    obtain ⟨l, k, T, hl, hT, hp, rfl⟩ := ents_mem hx
    have hll := falls_len hl
    rw [hd]
    exact ⟨by rw [hk]; exact absV_key _ _, hv, padF_len (by omega), evL_len _ _ _ _ _⟩
  · intro en hen n hn
    obtain ⟨x, hx, hd, hk, hv⟩ := hdec en hen
    obtain ⟨l, k, T, hl, hT, hp, rfl⟩ := ents_mem hx
    rw [hd] at hn
    have hn : n ∈ padF l := hn
    unfold padF at hn
    rcases List.mem_append.1 hn with hn | hn
    · have := falls_in O.rains.2 hl n hn
      unfold I64; omega
    · rw [(List.mem_replicate.1 hn).2]; unfold I64; omega
  · intro en hen p hp'
    obtain ⟨x, hx, hd, hk, hv⟩ := hdec en hen
    obtain ⟨l, k, T, hl, hT, hp, rfl⟩ := ents_mem hx
    have hll := falls_len hl
    rw [hd] at hp'
    exact evL_in (by omega) p hp'
theorem wet_at {F : FieldV} (O : F.Ok) {h : AH} {bm : Nat} (f : Has h bm (.map (esOf F.ents) F.ents.length)) (i : Int) (d : Nat) (hd : d < 6) :
    Runs Try.prog 39 [.map bm, .int .i64 i, .int .i64 d] h (fun en h' => en = .ret (.agg (spC (F.wet i d))) ∧ Ext h h') := by
  have := wet_ok (known_at O f) i d hd
  have hw : (esOf F.ents).map (wetM (decEn F.ents) i d) = F.ents.map fun x => if x.1 = i then (x.2.2[d]?).getD noSp else noSp := by
    refine esOf_map _ _ _ fun k x hx => ?_
    unfold wetM decEn
    dsimp only
    rw [hx]
    rfl
  rw [hw] at this
  exact this
def dryV (lim : Int) (w : Int × Int) : Int := if w.2 ≤ lim then 2 else if lim < w.1 then 0 else 1
theorem dry_ok (F : FieldV) (hsl rsl lsl : AVal) (w : Int × Int) (h : AH) : Runs Try.prog 43 [.agg (F.cells hsl rsl lsl), .agg (spC w)] h (fun en h' => en = .ret (.int .i64 (dryV F.lim w)) ∧ Ext h h') := by
  show Runs Try.prog 43 [.agg [hsl, rsl, .int .i64 F.a, .int .i64 F.b, .int .i64 F.c, .int .i64 F.lim, lsl], .agg [.int .i64 w.1, .int .i64 w.2]] h _
  unfold dryV
  by_cases h1 : w.2 ≤ F.lim
  · rw [if_pos h1]
    refine Runs.intro aFunc43 rfl rfl rfl rfl fun rest => ?_
    refine Go.seq noJ_ok ?_
    refine Go.region noJ_ok rfl ?_
    refine GoR.box rfl rfl rfl rfl rfl rfl fun h2 x2 f2 => ?_
    have e0 := x2
    have := f2.1
    refine GoR.box rfl rfl rfl rfl rfl rfl fun h3 x3 f3 => ?_
    have := e0.1
    have := f2.1
    replace f2 := f2.ext x3
    replace e0 := e0.trans x3
    have := f3.1
    refine GoR.op rfl rfl rfl rfl ?_
    refine GoR.end ?_
    refine Go.seq noJ_ok ?_
    refine Go.block noJ_ok ?_
    refine Go.seq noJ_ok ?_
    refine Go.region noJ_ok rfl ?_
    refine GoR.op rfl rfl (fa30_1 rfl) rfl ?_
    refine GoR.op rfl rfl (ld3 rfl f3 rfl) rfl ?_
    refine GoR.op rfl rfl (fa74_3 rfl) rfl ?_
    refine GoR.op rfl rfl (ld3 rfl f2 rfl) rfl ?_
    refine GoR.op rfl rfl (aOp_leq rfl rfl (r := true) (decide_eq_true (by omega))) rfl ?_
    refine GoR.op rfl rfl rfl rfl ?_
    refine GoR.end ?_
    refine Go.cond noJ_ok (b := true) rfl ?_
    refine Go.seq noJ_ok ?_
    refine Go.region noJ_ok rfl ?_
    refine GoR.op rfl rfl rfl rfl ?_
    refine GoR.end ?_
    exact Go.ret noJ_ok (ret_end (aResult_of Try.func43 rfl rfl) ⟨rfl, e0⟩)
  · rw [if_neg h1]
    by_cases h2 : F.lim < w.1
    · rw [if_pos h2]
      refine Runs.intro aFunc43 rfl rfl rfl rfl fun rest => ?_
      refine Go.seq noJ_ok ?_
      refine Go.region noJ_ok rfl ?_
      refine GoR.box rfl rfl rfl rfl rfl rfl fun h3 x3 f3 => ?_
      have e0 := x3
      have := f3.1
      refine GoR.box rfl rfl rfl rfl rfl rfl fun h4 x4 f4 => ?_
      have := e0.1
      have := f3.1
      replace f3 := f3.ext x4
      replace e0 := e0.trans x4
      have := f4.1
      refine GoR.op rfl rfl rfl rfl ?_
      refine GoR.end ?_
      refine Go.seq noJ_ok ?_
      refine Go.block noJ_ok ?_
      refine Go.seq noJ_ok ?_
      refine Go.region noJ_ok rfl ?_
      refine GoR.op rfl rfl (fa30_1 rfl) rfl ?_
      refine GoR.op rfl rfl (ld3 rfl f4 rfl) rfl ?_
      refine GoR.op rfl rfl (fa74_3 rfl) rfl ?_
      refine GoR.op rfl rfl (ld3 rfl f3 rfl) rfl ?_
      refine GoR.op rfl rfl (aOp_leq rfl rfl (r := false) (decide_eq_false (by omega))) rfl ?_
      refine GoR.op rfl rfl rfl rfl ?_
      refine GoR.end ?_
      refine Go.cond noJ_ok (b := false) rfl ?_
      refine Go.seq noJ_ok ?_
      refine Go.region noJ_ok rfl ?_
      refine GoR.op rfl rfl (fa30_0 rfl) rfl ?_
      refine GoR.op rfl rfl (ld3 rfl f4 rfl) rfl ?_
      refine GoR.op rfl rfl (fa74_3 rfl) rfl ?_
      refine GoR.op rfl rfl (ld3 rfl f3 rfl) rfl ?_
      refine GoR.op rfl rfl (aOp_gtr rfl rfl (r := true) (decide_eq_true (by omega))) rfl ?_
      refine GoR.op rfl rfl rfl rfl ?_
      refine GoR.end ?_
      refine Go.cond noJ_ok (b := true) rfl ?_
      refine Go.seq noJ_ok ?_
      refine Go.region noJ_ok rfl ?_
      refine GoR.op rfl rfl rfl rfl ?_
      refine GoR.end ?_
      exact Go.ret noJ_ok (ret_end (aResult_of Try.func43 rfl rfl) ⟨rfl, e0⟩)
    · rw [if_neg h2]
      refine Runs.intro aFunc43 rfl rfl rfl rfl fun rest => ?_
      refine Go.seq noJ_ok ?_
      refine Go.region noJ_ok rfl ?_
      refine GoR.box rfl rfl rfl rfl rfl rfl fun h3 x3 f3 => ?_
      have e0 := x3
      have := f3.1
      refine GoR.box rfl rfl rfl rfl rfl rfl fun h4 x4 f4 => ?_
      have := e0.1
      have := f3.1
      replace f3 := f3.ext x4
      replace e0 := e0.trans x4
      have := f4.1
      refine GoR.op rfl rfl rfl rfl ?_
      refine GoR.end ?_
      refine Go.seq noJ_ok ?_
      refine Go.block noJ_ok ?_
      refine Go.seq noJ_ok ?_
      refine Go.region noJ_ok rfl ?_
      refine GoR.op rfl rfl (fa30_1 rfl) rfl ?_
      refine GoR.op rfl rfl (ld3 rfl f4 rfl) rfl ?_
      refine GoR.op rfl rfl (fa74_3 rfl) rfl ?_
      refine GoR.op rfl rfl (ld3 rfl f3 rfl) rfl ?_
      refine GoR.op rfl rfl (aOp_leq rfl rfl (r := false) (decide_eq_false (by omega))) rfl ?_
      refine GoR.op rfl rfl rfl rfl ?_
      refine GoR.end ?_
      refine Go.cond noJ_ok (b := false) rfl ?_
      refine Go.seq noJ_ok ?_
      refine Go.region noJ_ok rfl ?_
      refine GoR.op rfl rfl (fa30_0 rfl) rfl ?_
      refine GoR.op rfl rfl (ld3 rfl f4 rfl) rfl ?_
      refine GoR.op rfl rfl (fa74_3 rfl) rfl ?_
      refine GoR.op rfl rfl (ld3 rfl f3 rfl) rfl ?_
      refine GoR.op rfl rfl (aOp_gtr rfl rfl (r := false) (decide_eq_false (by omega))) rfl ?_
      refine GoR.op rfl rfl rfl rfl ?_
      refine GoR.end ?_
      refine Go.cond noJ_ok (b := false) rfl ?_
      refine Go.code noJ_ok ?_
      refine Go.inBlock noJ_ok ?_
      refine Go.seq noJ_ok ?_
      refine Go.region noJ_ok rfl ?_
      refine GoR.op rfl rfl rfl rfl ?_
      refine GoR.end ?_
      exact Go.ret noJ_ok (ret_end (aResult_of Try.func43 rfl rfl) ⟨rfl, e0⟩)
def FieldV.sure (F : FieldV) (i : Int) (d : Nat) : Bool := decide (dryV F.lim (F.wet i d) = 2)
structure WhenA (F : FieldV) (hsl rsl lsl : AVal) (bf bk bd bm d : Nat) (h : AH) : Prop where
  f : Has h bf (.cells .plain (F.cells hsl rsl lsl) 74)
  k : Has h bk (.cells .plain [.map bm] 77)
  d : Has h bd (.cells .plain [.int .i64 d] 3)
  m : Has h bm (.map (esOf F.ents) F.ents.length)
theorem WhenA.ext {F : FieldV} {hsl rsl lsl : AVal} {bf bk bd bm d : Nat} {h h' : AH} (k : WhenA F hsl rsl lsl bf bk bd bm d h) (e : Ext h h') : WhenA F hsl rsl lsl bf bk bd bm d h' := ⟨k.f.ext e, k.k.ext e, k.d.ext e, k.m.ext e⟩
theorem notSure_ok {F : FieldV} (O : F.Ok) (hsl rsl lsl : AVal) (hs1 : sameA hsl hsl = true) (hs2 : sameA rsl rsl = true) (hs3 : sameA lsl lsl = true) {bf bk bd bm d : Nat} (hd : d < 6) {h : AH} (A : WhenA F hsl rsl lsl bf bk bd bm d h) (i : Int) :
    Runs Try.prog 79 [.int .i64 i, .ptr bf 0, .ptr bk 0, .ptr bd 0] h (fun en h' => en = .ret (.bool (!F.sure i d)) ∧ Ext h h') := by
  obtain ⟨f0, f1, f2, f3⟩ := A
  have hsm : sameA (.agg (F.cells hsl rsl lsl)) (.agg (F.cells hsl rsl lsl)) = true := by
    unfold FieldV.cells fieldC
    simp [sameA, sameAs, eqI_eq, hs1, hs2, hs3]
  have e0 : Ext h h := Ext.refl _
  have hdry := dry_ok F hsl rsl lsl (F.wet i d)
  unfold FieldV.cells fieldC at f0 hsm hdry
  have hne : decide (dryV F.lim (F.wet i d) = 2) = !(!F.sure i d) := by unfold FieldV.sure; simp
  refine Runs.intro aFunc79 rfl rfl rfl rfl fun rest => ?_
  refine Go.seq noJ_ok ?_
  refine Go.region noJ_ok rfl ?_
  refine GoR.op rfl rfl rfl rfl ?_
  refine GoR.end ?_
  refine Go.seq noJ_ok ?_
  refine Go.drawnE plan79_0 ?_
  refine GoE.quiet rfl rfl (ld74 rfl f0 rfl) rfl ?_
  refine GoE.quiet rfl rfl (ld77 rfl f1 rfl) rfl ?_
  refine GoE.quiet rfl rfl rfl rfl ?_
  refine GoE.quiet rfl rfl (ld3 rfl f2 rfl) rfl ?_
  refine GoE.call rfl rfl (aOp_callFunc aFunc39 rfl) (wet_at O f3 i d hd) (dropF_drop (show bit? 14 3 = true from rfl) (dropF_drop (show bit? 14 2 = true from rfl) (dropF_drop (show bit? 14 1 = true from rfl) (dropF_keep (show bit? 14 0 = false from rfl) rfl)))) ?_ (by rintro _ _ ⟨q, _⟩; cases q)
  rintro v4 h4 ⟨q, x4⟩
  cases q
  replace f0 := f0.ext x4
  replace f1 := f1.ext x4
  replace f2 := f2.ext x4
  replace f3 := f3.ext x4
  replace e0 := e0.trans x4
  refine ⟨(recheck_cons (h2 := h4) rfl (ld74 rfl f0 rfl) (by first | rfl | exact sameA_int _ _ | exact sameA_bool _ | exact sameA_agg2 _ _ | assumption | (simp [sameA, sameAs, eqI_eq]; done)) recheck_nil), _, rfl, ?_⟩
  refine GoE.call rfl rfl (aOp_callFunc aFunc43 rfl) (hdry _) (dropF_drop (show bit? 31 0 = true from rfl) rfl) ?_ (by rintro _ _ ⟨q, _⟩; cases q)
  rintro v5 h5 ⟨q, x5⟩
  cases q
  replace f0 := f0.ext x5
  replace f1 := f1.ext x5
  replace f2 := f2.ext x5
  replace f3 := f3.ext x5
  replace e0 := e0.trans x5
  refine ⟨recheck_nil, _, rfl, ?_⟩
  refine GoE.quiet rfl rfl (aOp_neq rfl rfl (r := !F.sure i d) hne) rfl ?_
  refine GoE.quiet rfl rfl rfl rfl ?_
  refine GoE.end rfl ?_
  exact Go.ret noJ_ok (ret_end (aResult_of Try.func79 rfl rfl) ⟨rfl, e0⟩)
end Go.Proofs.Ytmdheijpnlonoaa
