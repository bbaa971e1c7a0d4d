import Derived.Test.YtidfcmjlfadieaaMAL
import Derived.Test.YtidfcmjlfadieaaMAG
import Derived.Test.YtidfcmjlfadieaaMAJ
namespace Go.Proofs.Ytidfcmjlfadieaa
open Go Go.AbsE
set_option maxRecDepth 100000
set_option linter.unusedVariables false

theorem nil_or_last {α : Type} : ∀ l : List α, l = [] ∨ ∃ bs p, l = bs ++ [p] := by
  intro l
  induction l with
  | nil => exact .inl rfl
  | cons a l ih =>
    rcases ih with rfl | ⟨bs, p, rfl⟩
    · exact .inr ⟨[], a, rfl⟩
    · exact .inr ⟨a :: bs, p, rfl⟩
theorem aResults_tmp {t : Tr AVal} {h : AH} {i : Nat} {v : AVal} (ht : t.get (pth i) = some v) : aResults Try.prog h t [.tmp i] = some [v] := by
  unfold aResults
  rw [ht]
  rfl
theorem possible_ok {S : Sv} (hS : S.Ok) (hLs : ∀ l, l ∈ S.Ls → inI64 (l.th - 1)) {s m av : AVal} (hss : sameA s s = true) (hsm : sameA m m = true) (hac : av.cells = [av]) (h : AH) (hs : SliceOf h 5 s (S.Ls.map LeaseV.cells)) (hA : AsksFrom av S.A h) :
    Runs Try.prog 63 [.agg [.int .i64 S.np, .int .i64 S.nb, s, m], av] h (fun en h' => en = .ret (.bool (canV S (S.rem p0) p0)) ∧ Ext h h') := by
  refine Runs.intro aFunc63 rfl rfl rfl rfl fun rest => ?_
  refine Go.seq noJ_ok (Go.region noJ_ok rfl ?_)
  refine GoR.box rfl rfl rfl rfl rfl rfl fun h1 x1 f1 => ?_
  refine GoR.box rfl rfl rfl rfl rfl rfl fun h2 x2 f2 => ?_
  refine GoR.op rfl rfl rfl rfl ?_
  refine GoR.end (Go.scope noJ_ok (Go.seq noJ_ok (Go.region noJ_ok rfl ?_)))
  refine GoR.makeMap rfl rfl rfl rfl rfl fun h3 x3 f3 => ?_
  refine GoR.alloc rfl rfl rfl zt145 rfl rfl fun h4 x4 f4 => ?_
  refine GoR.store rfl rfl rfl rfl rfl rfl f4 rfl sz145 rfl rfl rfl fun h5 u5 => ?_
  refine GoR.end (Go.seq noJ_ok (Go.region noJ_ok rfl ?_))
  refine GoR.op rfl rfl (aOp_build zt149 Try.underlying149 (pl149 _ Try.underlying149) rfl rfl) rfl ?_
  refine GoR.build1 rfl rfl rfl Try.underlying150 sz149 zt149 rfl rfl rfl rfl rfl rfl fun h6 x6 f6 => ?_
  refine GoR.alloc rfl rfl rfl zt150 rfl rfl fun h7 x7 f7 => ?_
  refine GoR.store rfl rfl rfl rfl rfl rfl f7 rfl sz150 rfl rfl rfl fun h8 u8 => ?_
  refine GoR.end (Go.seq noJ_ok (Go.region noJ_ok rfl ?_))
  refine GoR.alloc rfl rfl rfl zt4 rfl rfl fun h9 x9 f9 => ?_
  refine GoR.store rfl rfl rfl rfl rfl rfl f9 rfl sz4 rfl rfl rfl fun h10 u10 => ?_
  refine GoR.end (Go.seq noJ_ok (Go.code noJ_ok ?_))
  have n5 : h5.next = h4.next := u5.1
  have n8 : h8.next = h7.next := u8.1
  have n10 : h10.next = h9.next := u10.1
  have a1 := x1.1
  have a2 := x2.1
  have a3 := x3.1
  have a4 := x4.1
  have a6 := x6.1
  have a7 := x7.1
  have a9 := x9.1
  have l1 := f1.1
  have l2 := f2.1
  have l3 := f3.1
  have l4 := f4.1
  have l6 := f6.1
  have l7 := f7.1
  have l9 := f9.1
  have g1 := (((((((f1.ext x2).ext x3).ext x4).upd u5 (by omega)).ext x6).ext x7).upd u8 (by omega)).ext x9 |>.upd u10 (by omega)
  have g2 := ((((((f2.ext x3).ext x4).upd u5 (by omega)).ext x6).ext x7).upd u8 (by omega)).ext x9 |>.upd u10 (by omega)
  have g3 := (((((f3.ext x4).upd u5 (by omega)).ext x6).ext x7).upd u8 (by omega)).ext x9 |>.upd u10 (by omega)
  have g4 := ((((u5.has f4).ext x6).ext x7).upd u8 (by omega)).ext x9 |>.upd u10 (by omega)
  have g6 := ((f6.ext x7).upd u8 (by omega)).ext x9 |>.upd u10 (by omega)
  have g7 := ((u8.has f7).ext x9).upd u10 (by omega)
  have g9 := u10.has f9
  have x05 : Ext h h5 := (((x1.trans x2).trans x3).trans x4).upd u5 (by omega)
  have x010 : Ext h h10 := (((x05.trans (x6.trans x7)).upd u8 (by omega)).trans x9).upd u10 (by omega)
  have I0 : PossMem S s m av h.next h1.next h2.next h3.next h6.next h8.next [p0] [] (.slice h5.next 0 1 1) h5.next h10 := by
    refine ⟨g1, by rw [hac] at g2; exact g2, g4, g7, ?_, ⟨_, _, [], g3, rfl, (fun _ q => by cases q), (fun _ q => by cases q), fun k => by simp⟩, by omega, by omega⟩
    exact OpenS.plain (L := [prC p0]) (ex := []) (cap := 1) g6 rfl (by simp [prC, p0]) (by simp)
  refine Go.seq noJ_ok (Go.block noJ_ok ?_)
  have hGS := Sv.start_good hS
  refine Go.keep [(2, .ptr h.next 0), (3, .ptr h1.next 0), (5, .ptr h3.next 0), (6, .ptr h6.next 0), (7, .ptr h8.next 0)] ⟨rfl, rfl, rfl, rfl, rfl, trivial⟩ ?_
  refine loopInvD (fun ms ds t hh => ∃ opn seen v b, ms = mesV S opn ∧ t = keepT [(2, .ptr h.next 0), (3, .ptr h1.next 0), (5, .ptr h3.next 0), (6, .ptr h6.next 0), (7, .ptr h8.next 0)] ∧ InvV S p0 opn seen ∧ PossMem S s m av h.next h1.next h2.next h3.next h6.next h8.next opn seen v b hh ∧ h.next ≤ b ∧ Has hh h8.next (.cells .plain [.bool false] 4) ∧ Ext h hh ∧ Coll h.next ds hh) (m := mesV S [p0])
    ⟨[p0], [], _, _, rfl, rfl, .fresh hGS, I0, by omega, g9, x010, ⟨[], rfl, List.nodup_nil, (fun _ q => by cases q)⟩⟩ ?_
  rintro ms ds t hh ⟨opn, seen, v, b, rfl, rfl, inv, I, hlb0, gf, x0, hcoll⟩ again
  -- what is behind it all
  have last : ∀ {ds : List ADef} {hx : AH} {bo : Bool}, Has hx h8.next (.cells .plain [.bool bo] 4) → Ext h hx → Coll h.next ds hx → bo = canV S (S.rem p0) p0 → ∀ {t : Tr AVal}, t.get (pth 4) = some (.bool bo) →
      FLeft Try.prog ⟨63, 51, ds, false, none, rest⟩ .returning t hx (Post Try.prog 63 rest fun en h' => en = .ret (.bool (canV S (S.rem p0) p0)) ∧ Ext h h') := by
    intro ds hx bo gb xx hc hbo t ht
    refine FLeft.colls (fun q => by cases q) hc fun h' e1 e2 => ?_
    refine FLeft.ret (v := .bool bo) (aResult_of Try.func63 rfl (aResults_tmp ht)) ⟨by rw [hbo], by rw [e1]; exact xx.1, fun c hc => by rw [e2 c hc, xx.2 c hc]⟩
  refine Go.seq noJ_ok (Go.seq noJ_ok (Go.region noJ_ok rfl ?_))
  have hcc := I.o.cells
  refine GoR.op rfl rfl (ld150 rfl I.c rfl) rfl ?_
  refine GoR.op rfl rfl (aOp_lenSlice Try.underlying150 rfl I.o.sliceOf.len) rfl ?_
  rw [List.length_map]
  by_cases hemp : opn = []
  · subst hemp
    refine GoR.op rfl rfl (aOp_gtr rfl rfl (r := false) rfl) rfl ?_
    refine GoR.end (Go.cond noJ_ok (b := false) rfl (Go.code noJ_ok ?_))
    refine Go.seq noJ_ok (Go.region noJ_ok rfl ?_)
    refine GoR.op rfl rfl (ld4 rfl gf rfl) rfl ?_
    refine GoR.op rfl rfl rfl rfl ?_
    exact GoR.end (Go.retL (last gf x0 hcoll (none_can inv hGS).symm rfl))
  · obtain ⟨bs, p, rfl⟩ := (nil_or_last opn).resolve_left hemp
    have hln : (bs ++ [p]).length = bs.length + 1 := by simp
    rw [hln]
    refine GoR.op rfl rfl (aOp_gtr rfl rfl (r := true) (by simp)) rfl ?_
    refine GoR.end (Go.cond noJ_ok (b := true) rfl (Go.code noJ_ok ?_))
    refine Go.block noJ_ok (Go.seq noJ_ok (Go.region noJ_ok rfl ?_))
    have hsm177 := inv.small hS
    rw [hln] at hsm177
    have gp := inv.good p (by simp)
    have hpst := gp.at_.st.1
    have hplen := inv.popLen
    refine GoR.op rfl rfl (ld150 rfl I.c rfl) rfl ?_
    refine GoR.op rfl rfl (ld150 rfl I.c rfl) rfl ?_
    refine GoR.op rfl rfl (aOp_lenSlice Try.underlying150 rfl I.o.sliceOf.len) rfl ?_
    rw [List.length_map, hln]
    have h64 : inI64 (((bs.length + 1 : Nat) : Int) - 1) := by constructor <;> omega
    have hsub : ((bs.length + 1 : Nat) : Int) - 1 = (bs.length : Int) := by omega
    refine GoR.op rfl rfl (aOp_sub rfl rfl h64 hsub) rfl ?_
    have hlast : ((bs ++ [p]).map prC)[bs.length]? = some (prC p) := by simp
    obtain ⟨lb0, off, k1, k2⟩ := I.o.sliceOf.at hlast
    rw [List.length_map, hln] at k1
    refine GoR.op rfl rfl (aOp_indexAddr Try.underlying150 sz149 rfl k1 rfl (Nat.ble_eq_true_of_le (Nat.lt_succ_self _))) rfl ?_
    refine GoR.op rfl rfl (aOp_loadE ag149 sz149 rfl k2) rfl ?_
    refine GoR.alloc rfl rfl rfl zt149 rfl rfl fun e1 y1 q1 => ?_
    refine GoR.store rfl rfl rfl rfl rfl rfl q1 rfl sz149 (by simp [cells_agg, prC, hpst]) (scal_I64 (p.1 :: p.2)) (splice_all (by simp [cells_agg, prC, hpst])) fun e2 u2 => ?_
    have y2 : Ext hh e2 := y1.upd u2 (Nat.le_refl _)
    have q2 := u2.has q1
    have w1 := y1.1
    have wq := q1.1
    have w2 : e2.next = e1.next := u2.1
    have I2 := I.ext y2
    refine GoR.end (Go.seq noJ_ok (Go.region noJ_ok rfl ?_))
    refine GoR.op rfl rfl (ld150 rfl I2.c rfl) rfl ?_
    refine GoR.op rfl rfl (ld150 rfl I2.c rfl) rfl ?_
    refine GoR.op rfl rfl (aOp_lenSlice Try.underlying150 rfl I2.o.sliceOf.len) rfl ?_
    rw [List.length_map, hln]
    refine GoR.op rfl rfl (aOp_sub rfl rfl h64 hsub) rfl ?_
    refine GoR.openCut (i := bs.length) rfl rfl I2.o Try.underlying150 sz149 rfl rfl rfl (by simp) rfl rfl fun v3 o3 => ?_
    have htk : ((bs ++ [p]).map prC).take bs.length = bs.map prC := by simp
    rw [htk] at o3
    obtain ⟨c31, c32, c33⟩ := o3.cells
    refine GoR.store rfl rfl rfl rfl rfl rfl I2.c rfl sz150 (by rw [c31]; rfl) (by rw [c31]; exact c32) (by rw [c31]; rfl) fun e3 u3 => ?_
    have w3 : e3.next = e2.next := u3.1
    have hord := I.ord
    have hnb := I.nb
    have hcl := I.c.1
    have hob := I.o.lt
    have hgl := gf.1
    have I3 : PossMem S s m av h.next h1.next h2.next h3.next h6.next h8.next bs seen v3 b e3 := by
      have oth : ∀ {x o}, Has e2 x o → x ≠ h6.next → Has e3 x o := fun q w => q.upd u3 w
      obtain ⟨es, c, f, k1, k2⟩ := I2.mp
      exact ⟨oth I2.g (by omega), oth I2.a (by omega), oth I2.k (by omega), u3.has I2.c, o3.same (by omega) (u3.2.2 _ (by omega)), ⟨es, c, f, oth k1 (by omega), k2⟩, I.ord, I.nb⟩
    refine GoR.end (Go.seq noJ_ok (Go.region noJ_ok rfl ?_))
    have q3 := q2.upd u3 (by omega)
    refine GoR.op rfl rfl (ld92 rfl I3.g rfl) rfl ?_
    refine GoR.op rfl rfl (ld149 rfl q3 (prog_cells hpst)) rfl ?_
    refine GoR.call rfl rfl (aOp_callFunc aFunc122 rfl) (next_ok [.int .i64 S.np, .int .i64 S.nb, s, m] (prC p) _) ?_ (by rintro _ _ ⟨_, _, _, _, q, _⟩; cases q)
    rintro _ e5 ⟨b2, b3, m2, m3, q, y5, r2, r3⟩
    have q := AEnd.ret.inj q
    subst q
    refine ⟨_, rfl, GoR.end (Go.block noJ_ok ?_)⟩
    refine Go.keep [(2, .ptr h.next 0), (3, .ptr h1.next 0), (5, .ptr h3.next 0), (6, .ptr h6.next 0), (7, .ptr h8.next 0), (8, .ptr hh.next 0), (29, .func (.func 165) [] [.ptr b2 0, .ptr b3 0])] ⟨rfl, rfl, rfl, rfl, rfl, rfl, rfl, trivial⟩ ?_
    refine Go.rangeFunc rfl aFunc165 fun d lb e8 hd hlb y8 fd fl => ?_
    obtain ⟨r0, hr0, fl⟩ : ∃ r0 : ALoop, r0 = _ ∧ Has e8 lb (.loop r0) := ⟨_, rfl, fl⟩
    have hs0 : r0.state = .ready := by rw [hr0]
    have hp0 : r0.pending = none := by rw [hr0]
    have w5 := y5.1
    have w8 := y8.1
    have wl := fl.1
    have y38 := y5.trans y8
    have I8 := I3.ext y38
    have gf8 := (((gf.ext y2).upd u3 (by omega)).ext y38)
    have x8 : Ext h e8 := ((x0.trans y2).upd u3 (by omega)).trans y38
    have hx0 := x0.1
    have p0ln := gp.at_.ln
    have hnp10 := hS.np
    let Agr : AH → Prop := fun z => e8.next ≤ z.next ∧ ∀ x, x < e8.next → x ≠ h2.next → x ≠ h6.next → x ≠ h8.next → x ≠ b → x ≠ lb → z.get x = e8.get x
    let J : Nat → AH → (Nat → Prop) → Prop := fun k z F => ∃ op sn vv bb, F = (fun x => x = h2.next ∨ x = h6.next ∨ x = h8.next ∨ x = bb ∨ x = lb) ∧ MidV S p0 p bs k op sn ∧ PossMem S s m av h.next h1.next h2.next h3.next h6.next h8.next op sn vv bb z ∧ Has z h8.next (.cells .plain [.bool false] 4) ∧ Has z lb (.loop r0) ∧ (bb = b ∨ e8.next ≤ bb) ∧ Agr z
    let E : Nat → AH → (Nat → Prop) → Prop := fun k z F => F = (fun x => x = h8.next ∨ x = lb) ∧ canV S (S.rem p0) p0 = true ∧ Has z h8.next (.cells .plain [.bool true] 4) ∧ Has z lb (.loop { r0 with state := .done, pending := some (.exit 0) }) ∧ Agr z
    have agr_h : ∀ {z}, Agr z → Ext h z := fun ag => ⟨by have := ag.1; omega, fun x hx => by rw [ag.2 x (by omega) (by omega) (by omega) (by omega) (by omega) (by omega), x8.2 x hx]⟩
    have hT : Takes Try.prog e8.next (.yield lb) ((S.nx p).map prC) J E := by
      refine ⟨?_, ?_, ?_, ?_, ?_⟩
      · rintro k z F x ⟨op, sn, vv, bb, rfl, mid, I, g1, g2, hbb, ag⟩ (rfl | rfl | rfl | rfl | rfl)
        · obtain ⟨_, _, _, k1, _⟩ := I.mp; exact k1.1
        · exact I.c.1
        · exact g1.1
        · exact I.o.lt
        · exact g2.1
      · rintro k z F z' ⟨op, sn, vv, bb, rfl, mid, I, g1, g2, hbb, ag⟩ n e
        have ag1 := ag.1
        refine ⟨op, sn, vv, bb, rfl, mid, I.same n fun x hx hq => e x hx ?_, ⟨by have := g1.1; omega, by rw [e _ g1.1 (.inr (.inr (.inr (.inl rfl))))]; exact g1.2⟩, ⟨by have := g2.1; omega, by rw [e _ g2.1 (.inl (by omega))]; exact g2.2⟩, hbb, ⟨by omega, fun x hx k1 k2 k3 k4 k5 => by rw [e x (by omega) (.inl hx), ag.2 x hx k1 k2 k3 k4 k5]⟩⟩
        rcases hq with q | q | q | q | q | q
        · exact .inl (by omega)
        · exact .inl (by omega)
        · exact .inr (.inl q)
        · exact .inl (by omega)
        · exact .inr (.inr (.inl q))
        · exact .inr (.inr (.inr (.inr (.inl q))))
      · rintro k z F x ⟨rfl, _, g1, g2, ag⟩ (rfl | rfl)
        · exact g1.1
        · exact g2.1
      · rintro k z F z' ⟨rfl, hc, g1, g2, ag⟩ n e
        have ag1 := ag.1
        exact ⟨rfl, hc, ⟨by have := g1.1; omega, by rw [e _ g1.1 (.inr (.inl rfl))]; exact g1.2⟩, ⟨by have := g2.1; omega, by rw [e _ g2.1 (.inl (by omega))]; exact g2.2⟩, ⟨by omega, fun x hx k1 k2 k3 k4 k5 => by rw [e x (by omega) (.inl hx), ag.2 x hx k1 k2 k3 k4 k5]⟩⟩
      · rintro k item z F hit ⟨op, sn, vv, bb, rfl, mid, I, g1, g2, hbb, ag⟩
        refine ⟨_, rfl, (fun _ _ q => by cases q), ?_⟩
        obtain ⟨q, hq, rfl⟩ : ∃ q, (S.nx p)[k]? = some q ∧ item = prC q := by
          rw [List.getElem?_map] at hit
          cases hq : (S.nx p)[k]? with
          | none => rw [hq] at hit; cases hit
          | some x => rw [hq] at hit; cases hit; exact ⟨x, rfl, rfl⟩
        have hqm : q ∈ S.nx p := List.mem_of_getElem? hq
        obtain ⟨qa, qr⟩ := S.rem_nx gp.at_ gp.nd hqm
        have hst' := qa.st.1
        have qln := qa.ln
        have hk16 : k < 16 := Nat.lt_of_lt_of_le (List.getElem?_eq_some_iff.1 hq).1 (passP_le16 hS.Ls)
        have ag1 := ag.1
        have hput : putArgs r0.tmps r0.n r0.params [.agg (prC q)] = some ((keepT [(2, .ptr h.next 0), (3, .ptr h1.next 0), (5, .ptr h3.next 0), (6, .ptr h6.next 0), (7, .ptr h8.next 0), (8, .ptr hh.next 0), (29, .func (.func 165) [] [.ptr b2 0, .ptr b3 0])]).put (pth 30) (some (.agg (prC q)))) := by rw [hr0]; rfl
        have hr0e : ({ ({ r0 with state := .busy } : ALoop) with state := .ready, pending := none } : ALoop) = r0 := by rw [hr0]
        have hr0f : ({ ({ r0 with state := .busy } : ALoop) with state := .done, pending := some (.exit 0) } : ALoop) = { r0 with state := .done, pending := some (.exit 0) } := by rw [hr0]
        refine Does.round g2 hput (by rw [hr0]; exact Try.func63) fun fr rest2 Q hrr hpn => ?_
        rw [show r0.fn = 63 from by rw [hr0], show r0.n = 51 from by rw [hr0]; rfl, show r0.assign = (⟨.ready, none, 63, 51, keepT [(2, .ptr h.next 0), (3, .ptr h1.next 0), (5, .ptr h3.next 0), (6, .ptr h6.next 0), (7, .ptr h8.next 0), (8, .ptr hh.next 0), (29, .func (.func 165) [] [.ptr b2 0, .ptr b3 0])], _, _, _, d⟩ : ALoop).assign from congrArg ALoop.assign hr0, show r0.body = (⟨.ready, none, 63, 51, keepT [(2, .ptr h.next 0), (3, .ptr h1.next 0), (5, .ptr h3.next 0), (6, .ptr h6.next 0), (7, .ptr h8.next 0), (8, .ptr hh.next 0), (29, .func (.func 165) [] [.ptr b2 0, .ptr b3 0])], _, _, _, d⟩ : ALoop).body from congrArg ALoop.body hr0]
        dsimp only
        refine Go.region noJ_ok rfl ?_
        refine GoR.alloc rfl rfl rfl zt149 rfl rfl fun z2 t2 f9 => ?_
        refine GoR.store rfl rfl rfl rfl rfl rfl f9 rfl sz149 (by simp [cells_agg, prC, hst']) (scal_I64 (q.1 :: q.2)) (splice_all (by simp [cells_agg, prC, hst'])) fun z3 v3' => ?_
        have t3 : Ext z z3 := t2.upd v3' (Nat.le_refl _)
        have f9' := v3'.has f9
        have s2 := t2.1
        have s9 := f9.1
        have s3 : z3.next = z2.next := v3'.1
        refine GoR.end (Go.beginRound (g2.ext t3) hs0 fun z4 v4 => ?_)
        have s4 : z4.next = z3.next := v4.1
        have vl := v4.has (g2.ext t3)
        have gl := g2.1
        have ho' := I.ord
        have hn' := I.nb
        have hol := I.o.lt
        have hcl' := I.c.1
        have hgl' := g1.1
        have v9 := f9'.upd v4 (by omega)
        have old4 : ∀ x, x < z.next → x ≠ lb → z4.get x = z.get x := fun x h1 h2 => by rw [v4.2.2 x h2, t3.2 x h1]
        have I4 := I.same (h' := z4) (by omega) fun x hx hq => old4 x hx (by omega)
        have gf4 : Has z4 h8.next (.cells .plain [.bool false] 4) := ⟨by omega, by rw [old4 _ hgl' (by omega)]; exact g1.2⟩
        have agx : ∀ {zz : AH}, z.next ≤ zz.next → (∀ x, x < z.next → x ≠ h2.next → x ≠ h6.next → x ≠ h8.next → x ≠ bb → x ≠ lb → zz.get x = z.get x) → Agr zz := fun k1 k2 => ⟨by omega, fun x hx n1 n2 n3 n4 n5 => by rw [k2 x (by omega) n1 n2 n3 (by omega) n5, ag.2 x hx n1 n2 n3 n4 n5]⟩
        refine Go.block noJ_ok (Go.seq noJ_ok (Go.seq noJ_ok (Go.region noJ_ok rfl ?_)))
        refine GoR.op rfl rfl (ld92 rfl I4.g rfl) rfl ?_
        refine GoR.op rfl rfl (ld149 rfl v9 (prog_cells hst')) rfl ?_
        refine GoR.call rfl rfl (aOp_callFunc aFunc123 rfl) (done_ok' S.np S.nb q.1 s m q.2 hst' _) ?_ (by rintro _ _ ⟨q, _⟩; cases q)
        rintro _ z5 ⟨qe, t5⟩
        cases qe
        refine ⟨_, rfl, ?_⟩
        have s5 := t5.1
        replace vl := vl.ext t5
        replace v9 := v9.ext t5
        have I5 := I4.ext t5
        have gf5 := gf4.ext t5
        have old5 : ∀ x, x < z.next → x ≠ lb → z5.get x = z.get x := fun x h1 h2 => by rw [t5.2 x (by omega), old4 x h1 h2]
        have fin : ∀ {t : Tr AVal} {z9 : AH} {op' sn' : List Pr} {vv' : AVal} {bb' : Nat}, MidV S p0 p bs (k + 1) op' sn' → PossMem S s m av h.next h1.next h2.next h3.next h6.next h8.next op' sn' vv' bb' z9 → Has z9 h8.next (.cells .plain [.bool false] 4) → Has z9 lb (.loop { r0 with state := .busy }) → (bb' = bb ∨ z.next ≤ bb') → z.next ≤ z9.next → (∀ x, x < z.next → x ≠ h2.next → x ≠ h6.next → x ≠ h8.next → x ≠ bb → x ≠ lb → z9.get x = z.get x) →
            Go Try.prog ⟨63, 51, [], false, some lb, fr :: rest2⟩ [] t z9 Q := by
          intro t z9 op' sn' vv' bb' mid' I9 gf9 vl9 hbb' hn9 e9
          refine Go.roundEnd vl9 fun z10 v10 => ?_
          have s10 : z10.next = z9.next := v10.1
          refine hrr _ _ ⟨⟨by omega, fun x hx hn => by rw [v10.2.2 x (fun e => hn (.inr (.inr (.inr (.inr e))))), e9 x hx (fun e => hn (.inl e)) (fun e => hn (.inr (.inl e))) (fun e => hn (.inr (.inr (.inl e)))) (fun e => hn (.inr (.inr (.inr (.inl e))))) (fun e => hn (.inr (.inr (.inr (.inr e)))))]⟩, (fun x => x = h2.next ∨ x = h6.next ∨ x = h8.next ∨ x = bb' ∨ x = lb), fun x hx => ?_, .inl ⟨rfl, op', sn', vv', bb', rfl, mid', I9.same (by omega) (fun x hx hq => v10.2.2 x ?_), gf9.upd v10 (by omega), hr0e ▸ v10.has vl9, by omega, agx (by omega) (fun x hx n1 n2 n3 n4 n5 => by rw [v10.2.2 x n5, e9 x hx n1 n2 n3 n4 n5])⟩⟩
          · rcases hx with q | q | q | q | q
            · exact .inl (.inl q)
            · exact .inl (.inr (.inl q))
            · exact .inl (.inr (.inr (.inl q)))
            · rcases hbb' with e | e
              · exact .inl (.inr (.inr (.inr (.inl (q.trans e)))))
              · exact .inr (by omega)
            · exact .inl (.inr (.inr (.inr (.inr q))))
          · omega
        cases e1 : doneV S.np q.1 with
        | true =>
          refine GoR.end (Go.cond noJ_ok (b := true) rfl (Go.seq noJ_ok (Go.region noJ_ok rfl ?_)))
          refine GoR.store rfl rfl rfl rfl rfl rfl gf5 rfl sz4 rfl rfl rfl fun z6 v6 => ?_
          have s6 : z6.next = z5.next := v6.1
          refine GoR.end (Go.roundExit (vl.upd v6 (by omega)) rfl fun z7 v7 => ?_)
          have s7 : z7.next = z6.next := v7.1
          have old7 : ∀ x, x < z.next → x ≠ h8.next → x ≠ lb → z7.get x = z.get x := fun x k1 k2 k3 => by rw [v7.2.2 x k3, v6.2.2 x k2, old5 x k1 k3]
          refine hrr _ _ ⟨⟨by omega, fun x hx hn => old7 x hx (fun e => hn (.inr (.inr (.inl e)))) (fun e => hn (.inr (.inr (.inr (.inr e)))))⟩, (fun x => x = h8.next ∨ x = lb), fun x hx => .inl (hx.elim (fun e => .inr (.inr (.inl e))) (fun e => .inr (.inr (.inr (.inr e))))), .inr ⟨rfl, rfl, found_can gp hqm e1, (v6.has gf5).upd v7 (by omega), hr0f ▸ v7.has (vl.upd v6 (by omega)), agx (by omega) (fun x hx n1 n2 n3 n4 n5 => old7 x hx n3 n5)⟩⟩
        | false =>
          refine GoR.end (Go.cond noJ_ok (b := false) rfl (Go.code noJ_ok (Go.seq noJ_ok (Go.region noJ_ok rfl ?_))))
          refine GoR.op rfl rfl (ld92 rfl I5.g rfl) rfl ?_
          refine GoR.op rfl rfl (ld149 rfl v9 (prog_cells hst')) rfl ?_
          refine GoR.op rfl rfl (ld144 rfl I5.a rfl) rfl ?_
          have xz5 : Ext h z5 := by
            have a5 : Agr z5 := agx (by omega) fun x hx _ _ _ _ n5 => old5 x hx n5
            exact agr_h a5
          refine GoR.call rfl rfl (aOp_callFunc aFunc124 rfl) (suits_ok S.np S.nb q.1 s m av S.A S.Ls q.2 hst' hS.Ls (by constructor <;> omega) z5 (hs.ext xz5) hss hsm (hA.ext xz5) rfl) ?_ (by rintro _ _ ⟨q, _⟩; cases q)
          rintro _ z6 ⟨qe, t6⟩
          cases qe
          refine ⟨_, rfl, ?_⟩
          have s6 := t6.1
          replace vl := vl.ext t6
          replace v9 := v9.ext t6
          have I6 := I5.ext t6
          have gf6 := gf5.ext t6
          have old6 : ∀ x, x < z.next → x ≠ lb → z6.get x = z.get x := fun x h1 h2 => by rw [t6.2 x (by omega), old5 x h1 h2]
          cases es : S.suits q with
          | false =>
            have es' : suitsV S.np S.nb S.Ls S.A q.1 q.2 = false := es
            rw [es']
            refine GoR.op rfl rfl rfl rfl ?_
            refine GoR.skip rfl rfl rfl ?_
            refine GoR.skip rfl rfl rfl ?_
            refine GoR.skip rfl rfl rfl ?_
            refine GoR.skip rfl rfl rfl ?_
            refine GoR.op rfl rfl rfl rfl ?_
            refine GoR.end (Go.cond noJ_ok (b := false) rfl (Go.code noJ_ok (Go.inBlock noJ_ok ?_)))
            exact fin (mid.skip hq e1 (fun e => by rw [es] at e; cases e)) I6 gf6 vl (.inl rfl) (by omega) fun x hx _ _ _ _ n5 => old6 x hx n5
          | true =>
            have es' : suitsV S.np S.nb S.Ls S.A q.1 q.2 = true := es
            rw [es']
            obtain ⟨es6, ck6, f6', m1, m2', m3', m4, m5⟩ := I6.mp
            refine GoR.op rfl rfl rfl rfl ?_
            refine GoR.op rfl rfl (ld145 rfl I6.k rfl) rfl ?_
            refine GoR.op rfl rfl (ld149 rfl v9 (prog_cells hst')) rfl ?_
            cases e2 : findK q f6' with
            | some w =>
              have hw := m4 _ (findK_mem e2)
              dsimp only at hw
              subst hw
              refine GoR.op rfl rfl ((aOp_lookup key149 Try.underlying145 zt4 rfl rfl hst' m1 m2' m3').trans (by rw [e2])) rfl ?_
              refine GoR.op rfl rfl rfl rfl ?_
              refine GoR.op rfl rfl rfl rfl ?_
              refine GoR.end (Go.cond noJ_ok (b := false) rfl (Go.code noJ_ok (Go.inBlock noJ_ok ?_)))
              exact fin (mid.skip hq e1 (fun _ => (m5 q).1 ⟨_, findK_mem e2⟩)) I6 gf6 vl (.inl rfl) (by omega) fun x hx _ _ _ _ n5 => old6 x hx n5
            | none =>
              refine GoR.op rfl rfl ((aOp_lookup key149 Try.underlying145 zt4 rfl rfl hst' m1 m2' m3').trans (by rw [e2])) rfl ?_
              refine GoR.op rfl rfl rfl rfl ?_
              refine GoR.op rfl rfl rfl rfl ?_
              refine GoR.end (Go.cond noJ_ok (b := true) rfl (Go.seq noJ_ok (Go.region noJ_ok rfl ?_)))
              refine GoR.op rfl rfl (ld145 rfl I6.k rfl) rfl ?_
              refine GoR.op rfl rfl (ld149 rfl v9 (prog_cells hst')) rfl ?_
              refine GoR.mapUpdate (key := q) rfl rfl key149 Try.underlying145 rfl rfl rfl rfl hst' m1 m2' m3' fun es7 ck7 z7 v7 q2' q3' => ?_
              have s7 : z7.next = z6.next := v7.1
              refine GoR.end (Go.region noJ_ok rfl ?_)
              have c7 := I6.c.upd v7 (by omega)
              replace v9 := v9.upd v7 (by omega)
              replace vl := vl.upd v7 (by omega)
              refine GoR.op rfl rfl (ld150 rfl c7 rfl) rfl ?_
              refine GoR.op rfl rfl (ld149 rfl v9 (prog_cells hst')) rfl ?_
              refine GoR.build1 rfl rfl rfl Try.underlying150 sz149 zt149 rfl rfl rfl (by simp [cells_agg, hst']) rfl rfl fun z8 t8 f8 => ?_
              have s8 := t8.1
              have o8 := (I6.o.same (h' := z7) (by omega) (v7.2.2 _ (by omega))).same t8.1 (t8.2 _ (by omega))
              have hsm2 := mid.small hS
              refine GoR.openAppend rfl rfl o8 Try.underlying150 Try.underlying150 sz149 by149 zt149 rfl rfl rfl rfl f8 (by simp [cells_agg, hst']) (scal_I64 (q.1 :: q.2)) (by rw [List.length_map]; omega) rfl rfl fun v10 z10 b10 t10 o10 hb10 => ?_
              have s10 := t10.1
              obtain ⟨cc1, cc2, cc3⟩ := o10.cells
              have c10 := (c7.ext t8).extF t10 (by omega)
              refine GoR.store rfl rfl rfl rfl rfl rfl c10 rfl sz150 (by rw [cc1]; rfl) (by rw [cc1]; exact cc2) (by rw [cc1]; rfl) fun z11 v11 => ?_
              have s11 : z11.next = z10.next := v11.1
              refine GoR.end (Go.inBlock noJ_ok ?_)
              have o10l := o10.lt
              -- what is as it was
              have old11 : ∀ x, x < z6.next → x ≠ h2.next → x ≠ h6.next → x ≠ bb → z11.get x = z6.get x := fun x k1 k2 k3 k4 => by rw [v11.2.2 x k3, t10.2 x (by omega) k4, t8.2 x (by omega), v7.2.2 x k2]
              have keep : ∀ {x o}, Has z6 x o → x ≠ h2.next → x ≠ h6.next → x ≠ bb → Has z11 x o := fun k k1 k2 k3 => ⟨by have := k.1; omega, by rw [old11 _ k.1 k1 k2 k3]; exact k.2⟩
              have I11 : PossMem S s m av h.next h1.next h2.next h3.next h6.next h8.next (op ++ [q]) (q :: sn) v10 b10 z11 := by
                refine ⟨keep I6.g (by omega) (by omega) (by omega), keep I6.a (by omega) (by omega) (by omega), keep I6.k (by omega) (by omega) (by omega), ?_, ?_, ?_, I.ord, by omega⟩
                · exact v11.has c10
                · rw [List.map_append]
                  exact o10.same (by omega) (v11.2.2 _ (by omega))
                · refine ⟨es7, ck7, _, (((v7.has m1).ext t8).extF t10 (by omega)).upd v11 (by omega), q2', q3', fun x hx => ?_, fun k => ?_⟩
                  · rcases setK_mem hx with rfl | hx
                    · rfl
                    · exact m4 x hx
                  · rw [setK_has, m5 k, List.mem_cons]
              refine fin (mid.push gp hplen hk16 hq e1 es) I11 (keep gf6 (by omega) (by omega) (by omega)) ((vl.ext t8).extF t10 (by omega) |>.upd v11 (by omega)) (by omega) (by omega) fun x hx n1 n2 n3 n4 n5 => ?_
              rw [old11 x (by omega) n1 n2 n4, old6 x hx n5]
    have hJ0 : J 0 e8 (fun x => x = h2.next ∨ x = h6.next ∨ x = h8.next ∨ x = b ∨ x = lb) := ⟨bs, seen, v3, b, rfl, inv.pop, I8, gf8, fl, .inl rfl, Nat.le_refl _, fun _ _ _ _ _ _ _ => rfl⟩
    have r2l := r2.1
    have r3l := r3.1
    refine ⟨_, next1_ok S.np S.nb p.1 s m (.yield lb) S.Ls p.2 hS.Ls hLs (by constructor <;> omega) hss rfl gp.at_.st b2 b3 (fun x => x = h2.next ∨ x = h6.next ∨ x = h8.next ∨ x = b ∨ x = lb) J E e8 (r2.ext y8) (r3.ext y8) ?_ (Nat.le_refl _) hT hJ0, ?_, ?_⟩
    · intro h' xx
      refine hs.ext ⟨by have := xx.1; omega, fun x hx => by rw [xx.2 x (by omega) (by omega), x8.2 x hx]⟩
    · rintro _ _ ⟨q, _⟩
      cases q
    have e1n := gp.nd
    have hdl := fd.1
    -- what loops left
    have coll : ∀ {z : AH}, Agr z → (∀ x o, Has hh x o → o = .deferred (some []) → x ≠ h2.next ∧ x ≠ h6.next ∧ x ≠ h8.next ∧ x ≠ b) → Coll h.next (.collected d :: ds) z := fun ag hx => by
      refine hcoll.cons (by omega) (by have := ag.1; omega) (fun x k => ?_) (by omega) ⟨by have := ag.1; omega, by rw [ag.2 d hdl (by omega) (by omega) (by omega) (by omega) (by omega)]; exact fd.2⟩
      obtain ⟨n1, n2, n3, n4⟩ := hx x _ k rfl
      have := k.1
      rw [ag.2 x (by omega) n1 n2 n3 n4 (by omega), y38.2 x (by omega), u3.2.2 x n2, y2.2 x (by omega)]
    have hdist : ∀ x o, Has hh x o → o = .deferred (some []) → x ≠ h2.next ∧ x ≠ h6.next ∧ x ≠ h8.next ∧ x ≠ b := by
      rintro x o k rfl
      obtain ⟨_, _, _, km, _⟩ := I.mp
      refine ⟨fun e => ?_, fun e => ?_, fun e => ?_, fun e => ?_⟩
      · subst e; have := k.2.symm.trans km.2; cases this
      · subst e; have := k.2.symm.trans I.c.2; cases this
      · subst e; have := k.2.symm.trans gf.2; cases this
      · subst e
        cases I.o with
        | plain hb _ _ _ => have := k.2.symm.trans hb.2; cases this
        | grow hb _ => have := k.2.symm.trans hb.2; cases this
    rintro w e9 ⟨_, x9, F9, hF9, ⟨op, sn, vv, bb, rfl, mid, I9, gf9, g2, hbb, ag⟩ | ⟨kk, _, rfl, hcan, gf9, g2, ag⟩⟩
    · refine ⟨r0, g2, (by rw [hs0]; intro q; cases q), fun e10 v10 => ?_⟩
      rw [hp0]
      have s10 : e10.next = e9.next := v10.1
      have ag1 := ag.1
      have hole := I9.o.lt
      have hcle := I9.c.1
      have ag10 : Agr e10 := ⟨by omega, fun x hx n1 n2 n3 n4 n5 => by rw [v10.2.2 x n5, ag.2 x hx n1 n2 n3 n4 n5]⟩
      refine Go.inBlock noJ_ok (Go.inBlock noJ_ok ?_)
      refine Go.keep [(2, .ptr h.next 0), (3, .ptr h1.next 0), (5, .ptr h3.next 0), (6, .ptr h6.next 0), (7, .ptr h8.next 0)] ⟨rfl, rfl, rfl, rfl, rfl, trivial⟩ ?_
      have hlen : (passP S.Ls 0 p.1 p.2).length = (S.nx p).length := rfl
      rw [hlen] at mid
      exact again _ _ _ _ (mid.less (passP_le16 hS.Ls) gp) ⟨op, sn, vv, bb, rfl, rfl, mid.full rfl, I9.same (by omega) (fun x hx hq => v10.2.2 x (by omega)), by omega, gf9.upd v10 (by omega), agr_h ag10, coll ag10 hdist⟩
    · refine ⟨_, g2, (fun q => by cases q), fun e10 v10 => ?_⟩
      have s10 : e10.next = e9.next := v10.1
      have ag10 : Agr e10 := ⟨by have := ag.1; omega, fun x hx n1 n2 n3 n4 n5 => by rw [v10.2.2 x n5, ag.2 x hx n1 n2 n3 n4 n5]⟩
      refine Go.code noJ_ok ?_
      refine Go.seq noJ_ok (Go.region noJ_ok rfl ?_)
      refine GoR.op rfl rfl (ld4 rfl (gf9.upd v10 (by omega)) rfl) rfl ?_
      refine GoR.op rfl rfl rfl rfl ?_
      exact GoR.end (Go.retL (last (gf9.upd v10 (by omega)) (agr_h ag10) (coll ag10 hdist) hcan.symm rfl))
end Go.Proofs.Ytidfcmjlfadieaa

namespace Go.Proofs.Ytidfcmjlfadieaa
open Go Go.AbsE
set_option maxRecDepth 100000
set_option linter.unusedVariables false

theorem aResults_cellC {t : Tr AVal} {h : AH} {x : Tmp} {ty : TypeId} {b off : Nat} {g : Kd} {cs l : List AVal} {el : TypeId} {v : AVal} {r : List ResultVar} (hx : t.get (pth x) = some (.ptr b off)) (hb : Has h b (.cells g cs el)) (hv : inCells Try.prog ty cs off = some v) (hr : aResults Try.prog h t r = some l) : aResults Try.prog h t (.cell x ty :: r) = some (v :: l) := by
  simp only [aResults, hx, loadVar_cells hb hv, hr]
def markA (Ms : List MarkV) : Int → Int → Bool := fun p hd => !Ms.any (denyV p hd)
/-- In how many truths marks are right. -/
def truV (np nb : Int) (Ls : List LeaseV) (Ms : List MarkV) : Int := cntV np nb Ls (markA Ms)
structure Gnd (np nb : Int) (Ls : List LeaseV) (Ms : List MarkV) (s m : AVal) (h : AH) : Prop where
  np : 1 ≤ np ∧ np ≤ 10
  nb : 1 ≤ nb ∧ nb ≤ 4
  L : Ls.length ≤ 4
  M : Ms.length ≤ 100
  l : ∀ l, l ∈ Ls → inI64 (l.th - 1)
  ss : sameA s s = true
  sm : sameA m m = true
  mc : m.cells = [m]
  s : SliceOf h 5 s (Ls.map LeaseV.cells)
  m : SliceOf h 2 m (Ms.map MarkV.cells)
variable {np nb : Int} {Ls : List LeaseV} {Ms : List MarkV} {s m : AVal} {h h' : AH}
theorem Gnd.ext (G : Gnd np nb Ls Ms s m h) (x : Ext h h') : Gnd np nb Ls Ms s m h' := ⟨G.np, G.nb, G.L, G.M, G.l, G.ss, G.sm, G.mc, G.s.ext x, G.m.ext x⟩
theorem Gnd.can (G : Gnd np nb Ls Ms s m h) : canV (cntS np nb Ls (markA Ms)) ((cntS np nb Ls (markA Ms)).rem p0) p0 = decide (0 < truV np nb Ls Ms) := by
  have hS : (cntS np nb Ls (markA Ms)).Ok := ⟨G.np, G.L⟩
  have := ((cntS np nb Ls (markA Ms)).wd hS _ p0 (Sv.at0 hS) rfl).2.2
  have e : truV np nb Ls Ms = ((cntS np nb Ls (markA Ms)).W p0).sum := rfl
  rw [e]
  cases hc : canV (cntS np nb Ls (markA Ms)) ((cntS np nb Ls (markA Ms)).rem p0) p0 with
  | true => rw [decide_eq_true (this.2 hc)]
  | false =>
    rw [decide_eq_false]
    intro q
    rw [this.1 q] at hc
    cases hc

theorem needTruth_ok (G : Gnd np nb Ls Ms s m h) : Runs Try.prog 76 [.agg [.int .i64 np, .int .i64 nb, s, m]] h (fun en h' => Ext h h' ∧ ((0 < truV np nb Ls Ms ∧ en = .ret (.tuple [])) ∨ (¬ 0 < truV np nb Ls Ms ∧ en = .pan (refusal 10)))) := by
  refine Runs.intro aFunc76 rfl rfl rfl rfl fun rest => ?_
  refine Go.seq noJ_ok (Go.region noJ_ok rfl ?_)
  refine GoR.box rfl rfl rfl rfl rfl rfl fun h1 x1 f1 => ?_
  refine GoR.end (Go.region noJ_ok rfl ?_)
  refine GoR.op rfl rfl (ld92 rfl f1 rfl) rfl ?_
  refine GoR.op rfl rfl (fa92_3 rfl) rfl ?_
  refine GoR.op rfl rfl (ld90 rfl f1 rfl) rfl ?_
  refine GoR.op rfl rfl rfl rfl ?_
  have G1 := G.ext x1
  refine GoR.call rfl rfl (aOp_callFunc aFunc63 rfl) (possible_ok (S := cntS np nb Ls (markA Ms)) (s := s) (m := m) ⟨G.np, G.L⟩ G.l G.ss G.sm rfl h1 G1.s (asks_marked m Ms h1 G.M G1.m G.mc G.sm)) ?_ (by rintro _ _ ⟨q, _⟩; cases q)
  rintro _ h2 ⟨q, x2⟩
  cases q
  rw [G.can]
  refine ⟨_, rfl, ?_⟩
  refine GoR.op rfl rfl rfl rfl ?_
  by_cases hc : 0 < truV np nb Ls Ms
  · rw [decide_eq_true hc]
    refine GoR.call rfl rfl (aOp_callFunc aFunc74 rfl) (refuse_ok false 10 h2) ?_ (by rintro _ _ ⟨_, ⟨_, q⟩ | ⟨q, _⟩⟩ <;> cases q)
    rintro v h3 ⟨rfl, ⟨_, q⟩ | ⟨q, _⟩⟩
    case inr => cases q
    cases q
    refine ⟨_, rfl, GoR.end (Go.endL (FLeft.ret (v := .tuple []) (aResult_of Try.func76 rfl rfl) ⟨x1.trans x2, .inl ⟨hc, rfl⟩⟩))⟩
  · rw [decide_eq_false hc]
    refine GoR.callP rfl rfl (aOp_callFunc aFunc74 rfl) (refuse_ok true 10 h2) (by rintro _ _ ⟨_, ⟨q, _⟩ | ⟨_, q⟩⟩ <;> cases q) ?_
    rintro chain h3 ⟨rfl, ⟨q, _⟩ | ⟨_, q⟩⟩
    · cases q
    exact FLeft.pan ⟨x1.trans x2, .inr ⟨hc, q⟩⟩

theorem count1_ok (G : Gnd np nb Ls Ms s m h) {bt : Nat} {x : AVal} (hb : Has h bt (.cells .plain [x] 3)) : Runs Try.prog 85 [.agg [.int .i64 np, .int .i64 nb, s, m], .ptr bt 0] h (fun en h' => en = .ret (.tuple []) ∧ ExtS [bt] h h' ∧ Has h' bt (.cells .plain [.int .i64 (truV np nb Ls Ms)] 3)) := by
  refine Runs.intro aFunc85 rfl rfl rfl rfl fun rest => ?_
  refine Go.seq noJ_ok (Go.region noJ_ok rfl ?_)
  refine GoR.box rfl rfl rfl rfl rfl rfl fun h1 x1 f1 => ?_
  refine GoR.end (Go.region noJ_ok rfl ?_)
  refine GoR.op rfl rfl (ld92 rfl f1 rfl) rfl ?_
  refine GoR.op rfl rfl (fa92_3 rfl) rfl ?_
  refine GoR.op rfl rfl (ld90 rfl f1 rfl) rfl ?_
  refine GoR.op rfl rfl rfl rfl ?_
  have G1 := G.ext x1
  refine GoR.call rfl rfl (aOp_callFunc aFunc86 rfl) (count_ok (A := markA Ms) G.np G.L G.l G.ss G.sm rfl h1 G1.s (asks_marked m Ms h1 G.M G1.m G.mc G.sm)) ?_ (by rintro _ _ ⟨q, _⟩; cases q)
  rintro _ h2 ⟨q, x2⟩
  cases q
  refine ⟨_, rfl, ?_⟩
  have hb2 := (hb.ext x1).ext x2
  refine GoR.store rfl rfl rfl rfl rfl rfl hb2 rfl sz3 rfl rfl rfl fun h3 u3 => ?_
  have l := hb.1
  have x12 := x1.trans x2
  refine GoR.end (Go.endL (FLeft.ret (v := .tuple []) (aResult_of Try.func85 rfl rfl) ⟨rfl, ⟨by rw [u3.1]; exact x12.1, fun b hbl hn => by rw [u3.2.2 b (fun e => hn (by simp [e])), x12.2 b hbl]⟩, u3.has hb2⟩))

theorem valid_gnd (B : BankIn h np nb s m Ls Ms) (hv : bankValid np nb Ls Ms = true) : 1 ≤ np ∧ np ≤ 10 ∧ 1 ≤ nb ∧ nb ≤ 4 ∧ Ls.length ≤ 4 ∧ Ms.length ≤ 6 ∧ (∀ l, l ∈ Ls → inI64 (l.th - 1)) := by
  unfold bankValid at hv
  simp only [Bool.and_eq_true, decide_eq_true_eq] at hv
  obtain ⟨⟨⟨⟨⟨h1, h2⟩, h3⟩, h4⟩, h5⟩, h6⟩ := hv
  refine ⟨h1.1, h1.2, h2.1, h2.2, by omega, by omega, fun l hl => ?_⟩
  have := List.all_eq_true.1 h4 l.cells (List.mem_map_of_mem hl)
  unfold LeaseV.cells fitsF at this
  simp only [decide_eq_true_eq] at this
  constructor <;> omega
theorem BankIn.gnd (B : BankIn h np nb s m Ls Ms) (hv : bankValid np nb Ls Ms = true) {h' : AH} (x : Ext h h') {s' : AVal} (hs : SliceOf h' 5 s' (Ls.map LeaseV.cells)) (hss : sameA s' s' = true) : Gnd np nb Ls Ms s' m h' := by
  obtain ⟨a1, a2, a3, a4, a5, a6, a7⟩ := valid_gnd B hv
  exact ⟨⟨a1, a2⟩, ⟨a3, a4⟩, a5, by omega, a7, hss, B.hsm, B.hmc, hs, B.hm.ext x⟩
theorem BankIn.ext (B : BankIn h np nb s m Ls Ms) (x : Ext h h') : BankIn h' np nb s m Ls Ms := ⟨B.hp, B.hh, B.hs.ext x, B.hm.ext x, B.hss, B.hsm, B.hmc, B.hms⟩

/-- Count. -/
theorem Count_ok (B : BankIn h np nb s m Ls Ms) : Runs Try.prog 27 [.agg [.int .i64 np, .int .i64 nb, s, m]] h
    (fun en h' => en = .ret (.tuple [.int .i64 (if bankValid np nb Ls Ms then truV np nb Ls Ms else 0), .int .i64 (if bankValid np nb Ls Ms then 0 else 1)]) ∧ Ext h h') := by
  refine Runs.intro aFunc27 rfl rfl rfl rfl fun rest => ?_
  refine Go.seq noJ_ok (Go.region noJ_ok rfl ?_)
  refine GoR.box rfl rfl rfl rfl rfl rfl fun h1 x1 f1 => ?_
  refine GoR.alloc rfl rfl rfl zt3 rfl rfl fun h2 x2 f2 => ?_
  refine GoR.op rfl rfl rfl rfl ?_
  refine GoR.end (Go.seq noJ_ok (Go.region noJ_ok rfl ?_))
  replace f1 := f1.ext x2
  have x12 := x1.trans x2
  refine GoR.op rfl rfl (ld25 rfl f1 rfl) rfl ?_
  refine GoR.op rfl rfl rfl rfl ?_
  have a1 := x1.1
  have l2 := f2.1
  cases hv : bankValid np nb Ls Ms with
  | false =>
    refine GoR.call rfl rfl (aOp_callFunc aFunc58 rfl) (attempt_invalid np nb s m Ls Ms 85 [] [.ptr h1.next 0] h2 (B.ext x12) hv) ?_ (by rintro _ _ ⟨q, _⟩; cases q)
    rintro _ h3 ⟨q, x3⟩
    cases q
    refine ⟨_, rfl, ?_⟩
    refine GoR.op rfl rfl rfl rfl ?_
    refine GoR.end (Go.seq noJ_ok (Go.region noJ_ok rfl ?_))
    have f3 := f2.ext x3
    refine GoR.op rfl rfl (ld3 rfl f3 rfl) rfl ?_
    refine GoR.op rfl rfl rfl rfl ?_
    refine GoR.store rfl rfl rfl rfl rfl rfl f3 rfl sz3 rfl rfl rfl fun h4 u4 => ?_
    refine GoR.op rfl rfl rfl rfl ?_
    refine GoR.end (Go.retL fun _ => ?_)
    exact (FLeft.ret (v := .tuple [.int .i64 0, .int .i64 1]) (aResult_of Try.func27 rfl (aResults_cellC rfl (u4.has f3) (inCells_one ag3 rfl) (aResults_tmp rfl))) ⟨rfl, (x12.trans x3).upd u4 (by omega)⟩) _
  | true =>
    refine GoR.call rfl rfl (aOp_callFunc aFunc58 rfl) (attempt_valid np nb s m Ls Ms 85 _ aFunc85 [] [.ptr h1.next 0] h2 (B.ext x12) hv [h1.next] (by simp; omega) (fun code h'' => code = 0 ∧ Has h'' h1.next (.cells .plain [.int .i64 (truV np nb Ls Ms)] 3)) ?_) ?_ (by rintro _ _ ⟨_, _, q, _⟩; cases q)
    · intro s' h' x' hs' hss' _ _
      refine (count1_ok ((B.ext x12).gnd hv x' hs' hss') (f2.ext x')).mono ?_
      rintro en h'' ⟨q, e, g⟩
      exact ⟨e, .inl ⟨q, rfl, g⟩⟩
    · rintro _ h3 ⟨code, h2', q, ⟨rfl, g⟩, e3, e4⟩
      cases q
      refine ⟨_, rfl, ?_⟩
      refine GoR.op rfl rfl rfl rfl ?_
      refine GoR.end (Go.seq noJ_ok (Go.region noJ_ok rfl ?_))
      have n3 := e3.1
      have f3 : Has h3 h1.next (.cells .plain [.int .i64 (truV np nb Ls Ms)] 3) := ⟨by omega, by rw [e4 _ l2]; exact g.2⟩
      have x3 : Ext h h3 := ⟨by have := x12.1; omega, fun b hb => by rw [e3.2 b (by have := x12.1; omega) (by simp; omega), x12.2 b hb]⟩
      refine GoR.op rfl rfl (ld3 rfl f3 rfl) rfl ?_
      refine GoR.op rfl rfl rfl rfl ?_
      refine GoR.store rfl rfl rfl rfl rfl rfl f3 rfl sz3 rfl rfl rfl fun h4 u4 => ?_
      refine GoR.op rfl rfl rfl rfl ?_
      refine GoR.end (Go.retL fun _ => ?_)
      exact (FLeft.ret (v := .tuple [.int .i64 (truV np nb Ls Ms), .int .i64 0]) (aResult_of Try.func27 rfl (aResults_cellC rfl (u4.has f3) (inCells_one ag3 rfl) (aResults_tmp rfl))) ⟨rfl, x3.upd u4 (by omega)⟩) _
end Go.Proofs.Ytidfcmjlfadieaa

namespace Go.Proofs.Ytidfcmjlfadieaa
open Go Go.AbsE
set_option maxRecDepth 100000
set_option linter.unusedVariables false

variable {np nb : Int} {Ls : List LeaseV} {Ms : List MarkV} {s m : AVal} {h h' : AH}
theorem ask1_ok (G : Gnd np nb Ls Ms s m h) {bp bl : Nat} {x y : AVal} (hbp : Has h bp (.cells .plain [x] 3)) (hbl : Has h bl (.cells .plain [y] 3)) (hne : bp ≠ bl) :
    Runs Try.prog 87 [.agg [.int .i64 np, .int .i64 nb, s, m], .ptr bp 0, .ptr bl 0] h (fun en h' => ExtS [bp, bl] h h' ∧ ((en = .ret (.tuple []) ∧ 0 < truV np nb Ls Ms ∧ Has h' bp (.cells .plain [.int .i64 (askF np nb Ls Ms np.toNat).1] 3) ∧ Has h' bl (.cells .plain [.int .i64 (askF np nb Ls Ms np.toNat).2] 3)) ∨
      (en = .pan (refusal 10) ∧ ¬ 0 < truV np nb Ls Ms ∧ Has h' bp (.cells .plain [x] 3) ∧ Has h' bl (.cells .plain [y] 3)))) := by
  refine Runs.intro aFunc87 rfl rfl rfl rfl fun rest => ?_
  refine Go.seq noJ_ok (Go.region noJ_ok rfl ?_)
  refine GoR.box rfl rfl rfl rfl rfl rfl fun h1 x1 f1 => ?_
  refine GoR.end (Go.seq noJ_ok (Go.region noJ_ok rfl ?_))
  refine GoR.op rfl rfl (ld92 rfl f1 rfl) rfl ?_
  have G1 := G.ext x1
  have lp := hbp.1
  have ll := hbl.1
  refine GoR.callP rfl rfl (aOp_callFunc aFunc76 rfl) (needTruth_ok G1) ?_ ?_
  · rintro v h2 ⟨x2, ⟨ht, q⟩ | ⟨_, q⟩⟩
    case inr => cases q
    cases q
    refine ⟨_, rfl, GoR.end (Go.region noJ_ok rfl ?_)⟩
    have f2 := f1.ext x2
    refine GoR.op rfl rfl (ld92 rfl f2 rfl) rfl ?_
    have G2 := G1.ext x2
    refine GoR.call rfl rfl (aOp_callFunc aFunc88 rfl) (ask_ok (Ms := Ms) G.np G.nb G.L G.M G.l G.ss G.sm G.mc h2 G2.s G2.m) ?_ (by rintro _ _ ⟨q, _⟩; cases q)
    rintro _ h3 ⟨q, x3⟩
    cases q
    refine ⟨_, rfl, ?_⟩
    refine GoR.op rfl rfl rfl rfl ?_
    refine GoR.op rfl rfl rfl rfl ?_
    refine GoR.op rfl rfl rfl rfl ?_
    have x03 := (x1.trans x2).trans x3
    have p3 := hbp.ext x03
    have l3 := hbl.ext x03
    refine GoR.store rfl rfl rfl rfl rfl rfl p3 rfl sz3 rfl rfl rfl fun h4 u4 => ?_
    refine GoR.store rfl rfl rfl rfl rfl rfl (l3.upd u4 (fun e => hne e.symm)) rfl sz3 rfl rfl rfl fun h5 u5 => ?_
    refine GoR.end (Go.endL (FLeft.ret (v := .tuple []) (aResult_of Try.func87 rfl rfl) ⟨⟨by rw [u5.1, u4.1]; exact x03.1, fun b hbl hn => ?_⟩, .inl ⟨rfl, ht, (u4.has p3).upd u5 hne, u5.has (l3.upd u4 (fun e => hne e.symm))⟩⟩))
    simp at hn
    rw [u5.2.2 b hn.2, u4.2.2 b hn.1, x03.2 b hbl]
  · rintro chain h2 ⟨x2, ⟨_, q⟩ | ⟨ht, q⟩⟩
    · cases q
    have x02 := x1.trans x2
    exact FLeft.pan ⟨⟨x02.1, fun b hb _ => x02.2 b hb⟩, .inr ⟨q, ht, hbp.ext x02, hbl.ext x02⟩⟩

noncomputable def ops29 : Array Oper := ((drawnOps Try.f29)[0]?).getD #[]
theorem plan29 : plan ops29 = some (mkPlan ops29.toList [(0, 0, true, false), (1, 0, true, false), (2, 0, true, false), (3, 1, false, false), (4, 11, false, false), (5, 31, true, false)]) := by kernel_rfl

/-- What Ask answers. -/
def askR (np nb : Int) (Ls : List LeaseV) (Ms : List MarkV) : Int × Int × Int :=
  if bankValid np nb Ls Ms then (if 0 < truV np nb Ls Ms then ((askF np nb Ls Ms np.toNat).1, (askF np nb Ls Ms np.toNat).2, 0) else (0, 0, 10)) else (0, 0, 1)

/-- Ask. -/
theorem Ask_ok (B : BankIn h np nb s m Ls Ms) : Runs Try.prog 29 [.agg [.int .i64 np, .int .i64 nb, s, m]] h
    (fun en h' => en = .ret (.tuple [.int .i64 (askR np nb Ls Ms).1, .int .i64 (askR np nb Ls Ms).2.1, .int .i64 (askR np nb Ls Ms).2.2]) ∧ Ext h h') := by
  refine Runs.intro aFunc29 rfl rfl rfl rfl fun rest => ?_
  refine Go.seq noJ_ok (Go.region noJ_ok rfl ?_)
  refine GoR.box rfl rfl rfl rfl rfl rfl fun h1 x1 f1 => ?_
  refine GoR.alloc rfl rfl rfl zt3 rfl rfl fun h2 x2 f2 => ?_
  refine GoR.alloc rfl rfl rfl zt3 rfl rfl fun h2' x2' f2' => ?_
  refine GoR.op rfl rfl rfl rfl ?_
  refine GoR.end (Go.seq noJ_ok (Go.region noJ_ok rfl ?_))
  have x12 := (x1.trans x2).trans x2'
  have a1 := x1.1
  have a2 := x2.1
  have a2' := x2'.1
  have l2a := f2.1
  replace f1 := f1.ext (x2.trans x2')
  replace f2 := f2.ext x2'
  have l2' := f2'.1
  refine GoR.op rfl rfl (ld25 rfl f1 rfl) rfl ?_
  refine GoR.op rfl rfl rfl rfl ?_
  have hne : h1.next ≠ h2.next := by omega
  have hatt : Runs Try.prog 58 [.agg [.int .i64 np, .int .i64 nb, s, m], .func (.func 87) [] [.ptr h1.next 0, .ptr h2.next 0]] h2' (fun en h' => en = .ret (.int .i64 (askR np nb Ls Ms).2.2) ∧ ExtS [h1.next, h2.next] h2' h' ∧ Has h' h1.next (.cells .plain [.int .i64 (askR np nb Ls Ms).1] 3) ∧ Has h' h2.next (.cells .plain [.int .i64 (askR np nb Ls Ms).2.1] 3)) := by
    unfold askR
    cases hv : bankValid np nb Ls Ms with
    | false =>
      refine (attempt_invalid np nb s m Ls Ms 87 [] [.ptr h1.next 0, .ptr h2.next 0] h2' (B.ext x12) hv).mono ?_
      rintro en h' ⟨q, x⟩
      exact ⟨q, ⟨x.1, fun b hb _ => x.2 b hb⟩, f2.ext x, f2'.ext x⟩
    | true =>
      refine (attempt_valid np nb s m Ls Ms 87 _ aFunc87 [] [.ptr h1.next 0, .ptr h2.next 0] h2' (B.ext x12) hv [h1.next, h2.next] (by simp; omega) (fun code h'' => (0 < truV np nb Ls Ms ∧ code = 0 ∧ Has h'' h1.next (.cells .plain [.int .i64 (askF np nb Ls Ms np.toNat).1] 3) ∧ Has h'' h2.next (.cells .plain [.int .i64 (askF np nb Ls Ms np.toNat).2] 3)) ∨ (¬ 0 < truV np nb Ls Ms ∧ code = 10 ∧ Has h'' h1.next (.cells .plain [.int .i64 0] 3) ∧ Has h'' h2.next (.cells .plain [.int .i64 0] 3))) ?_).mono ?_
      · intro s' h' x' hs' hss' _ _
        refine (ask1_ok ((B.ext x12).gnd hv x' hs' hss') (f2.ext x') (f2'.ext x') hne).mono ?_
        rintro en h'' ⟨e, ⟨q, ht, g1, g2⟩ | ⟨q, ht, g1, g2⟩⟩
        · exact ⟨e, .inl ⟨q, .inl ⟨ht, rfl, g1, g2⟩⟩⟩
        · exact ⟨e, .inr ⟨10, q, .inr ⟨ht, rfl, g1, g2⟩⟩⟩
      · have mv : ∀ {h3 h2'' : AH} {b : Nat} {o : ABlk}, ExtS [h1.next, h2.next] h2' h3 → (∀ b, b < h2'.next → h3.get b = h2''.get b) → b < h2'.next → Has h2'' b o → Has h3 b o := fun e1 e2 hb k => ⟨by have := e1.1; omega, by rw [e2 _ hb]; exact k.2⟩
        rintro en h3 ⟨code, h2'', q, ⟨ht, rfl, g1, g2⟩ | ⟨ht, rfl, g1, g2⟩, e3, e4⟩
        · rw [if_pos rfl, if_pos ht]
          exact ⟨q, e3, mv e3 e4 (by omega) g1, mv e3 e4 (by omega) g2⟩
        · rw [if_pos rfl, if_neg ht]
          exact ⟨q, e3, mv e3 e4 (by omega) g1, mv e3 e4 (by omega) g2⟩
  refine GoR.call rfl rfl (aOp_callFunc aFunc58 rfl) hatt ?_ (by rintro _ _ ⟨q, _⟩; cases q)
  rintro _ h3 ⟨q, e3, p3, l3⟩
  cases q
  refine ⟨_, rfl, ?_⟩
  refine GoR.op rfl rfl rfl rfl ?_
  refine GoR.end (Go.seq noJ_ok (Go.drawnE plan29 ?_))
  refine GoE.quiet rfl rfl (ld3 rfl p3 rfl) rfl ?_
  refine GoE.quiet rfl rfl (ld3 rfl l3 rfl) rfl ?_
  refine GoE.quiet rfl rfl rfl rfl ?_
  refine GoE.store rfl rfl rfl rfl (dropF_keep (show bit? 1 2 = false from rfl) (dropF_keep (show bit? 1 1 = false from rfl) (dropF_drop (show bit? 1 0 = true from rfl) rfl))) rfl rfl p3 rfl sz3 rfl rfl rfl fun h4 u4 => ?_
  have l4 := l3.upd u4 (fun e => hne e.symm)
  refine ⟨?_, ?_⟩
  · exact recheck_cons (h2 := h4) rfl rfl (sameA_int _ _) (recheck_cons (h2 := h4) rfl (ld3 rfl l4 rfl) (sameA_int _ _) recheck_nil)
  refine GoE.store rfl rfl rfl rfl (dropF_keep (show bit? 11 2 = false from rfl) (dropF_drop (show bit? 11 1 = true from rfl) rfl)) rfl rfl l4 rfl sz3 rfl rfl rfl fun h5 u5 => ?_
  refine ⟨?_, ?_⟩
  · exact recheck_cons (h2 := h5) rfl rfl (sameA_int _ _) recheck_nil
  refine GoE.quiet rfl rfl rfl rfl ?_
  have n3 := e3.1
  have n4 : h4.next = h3.next := u4.1
  have n5 : h5.next = h4.next := u5.1
  refine GoE.end rfl (Go.ret noJ_ok (ret_end (aResult_of Try.func29 rfl (aResults_cellC rfl ((u4.has p3).upd u5 hne) (inCells_one ag3 rfl) (aResults_cellC rfl (u5.has l4) (inCells_one ag3 rfl) (aResults_tmp rfl)))) ⟨rfl, by have := x12.1; omega, fun b hb => ?_⟩))
  have := x12.1
  rw [u5.2.2 b (by omega), u4.2.2 b (by omega), e3.2 b (by omega) (by simp; omega), x12.2 b hb]
end Go.Proofs.Ytidfcmjlfadieaa

namespace Go.Proofs.Ytidfcmjlfadieaa
open Go Go.AbsE
set_option maxRecDepth 100000
set_option linter.unusedVariables false
variable {np nb : Int} {Ls : List LeaseV} {Ms : List MarkV} {s m : AVal} {h h' : AH}

theorem in_ok (n a b : Int) {r : Bool} (hr : decide (a ≤ n ∧ n ≤ b) = r) (h : AH) : Runs Try.prog 54 [.int .i64 n, .int .i64 a, .int .i64 b] h (fun en h' => en = .ret (.bool r) ∧ Ext h h') := by
  refine Runs.intro aFunc54 rfl rfl rfl rfl fun rest => ?_
  refine Go.seq noJ_ok (Go.region noJ_ok rfl ?_)
  refine GoR.op rfl rfl rfl rfl ?_
  refine GoR.end (Go.seq noJ_ok (Go.region noJ_ok rfl ?_))
  cases e1 : decide (a ≤ n) with
  | false =>
    refine GoR.op rfl rfl rfl rfl ?_
    refine GoR.op rfl rfl rfl rfl ?_
    refine GoR.op rfl rfl (aOp_leq rfl rfl e1) rfl ?_
    refine GoR.op rfl rfl rfl rfl ?_
    refine GoR.skip rfl rfl rfl ?_
    refine GoR.skip rfl rfl rfl ?_
    refine GoR.skip rfl rfl rfl ?_
    refine GoR.op rfl rfl rfl rfl ?_
    refine GoR.op rfl rfl rfl rfl ?_
    refine GoR.end (Go.ret noJ_ok (ret_end (aResult_of Try.func54 rfl rfl) ⟨?_, Ext.refl _⟩))
    rw [← hr]
    simp only [decide_eq_true_eq, decide_eq_false_iff_not] at e1
    simp [oneOrTuple]
    try omega
  | true =>
    cases e2 : decide (n ≤ b) with
    | false =>
      refine GoR.op rfl rfl rfl rfl ?_
      refine GoR.op rfl rfl rfl rfl ?_
      refine GoR.op rfl rfl (aOp_leq rfl rfl e1) rfl ?_
      refine GoR.op rfl rfl rfl rfl ?_
      refine GoR.op rfl rfl rfl rfl ?_
      refine GoR.op rfl rfl rfl rfl ?_
      refine GoR.op rfl rfl (aOp_leq rfl rfl e2) rfl ?_
      refine GoR.op rfl rfl rfl rfl ?_
      refine GoR.op rfl rfl rfl rfl ?_
      refine GoR.end (Go.ret noJ_ok (ret_end (aResult_of Try.func54 rfl rfl) ⟨?_, Ext.refl _⟩))
      rw [← hr]
      simp only [decide_eq_true_eq, decide_eq_false_iff_not] at e1 e2
      simp [oneOrTuple]
      try omega
    | true =>
      refine GoR.op rfl rfl rfl rfl ?_
      refine GoR.op rfl rfl rfl rfl ?_
      refine GoR.op rfl rfl (aOp_leq rfl rfl e1) rfl ?_
      refine GoR.op rfl rfl rfl rfl ?_
      refine GoR.op rfl rfl rfl rfl ?_
      refine GoR.op rfl rfl rfl rfl ?_
      refine GoR.op rfl rfl (aOp_leq rfl rfl e2) rfl ?_
      refine GoR.op rfl rfl rfl rfl ?_
      refine GoR.op rfl rfl rfl rfl ?_
      refine GoR.end (Go.ret noJ_ok (ret_end (aResult_of Try.func54 rfl rfl) ⟨?_, Ext.refl _⟩))
      rw [← hr]
      simp only [decide_eq_true_eq, decide_eq_false_iff_not] at e1 e2
      simp [oneOrTuple]
      try omega


theorem span_ok (lo hi a b : Int) (hi64 : lo ≤ hi → a ≤ lo → hi ≤ b → inI64 (hi - lo)) {r : Bool} (hr : decide (a ≤ lo ∧ lo ≤ hi ∧ hi ≤ b ∧ hi - lo ≤ 2) = r) (h : AH) : Runs Try.prog 55 [.agg [.int .i64 lo, .int .i64 hi], .int .i64 a, .int .i64 b] h (fun en h' => en = .ret (.bool r) ∧ Ext h h') := by
  refine Runs.intro aFunc55 rfl rfl rfl rfl fun rest => ?_
  refine Go.seq noJ_ok (Go.region noJ_ok rfl ?_)
  refine GoR.box rfl rfl rfl rfl rfl rfl fun h1 x1 f1 => ?_
  refine GoR.op rfl rfl rfl rfl ?_
  refine GoR.end (Go.seq noJ_ok (Go.region noJ_ok rfl ?_))
  cases e1 : decide (a ≤ lo) with
  | false =>
    refine GoR.op rfl rfl rfl rfl ?_
    refine GoR.op rfl rfl (fa40_0 rfl) rfl ?_
    refine GoR.op rfl rfl (ld3 rfl f1 rfl) rfl ?_
    refine GoR.op rfl rfl (aOp_leq rfl rfl e1) rfl ?_
    refine GoR.op rfl rfl rfl rfl ?_
    refine GoR.skip rfl rfl rfl ?_
    refine GoR.skip rfl rfl rfl ?_
    refine GoR.skip rfl rfl rfl ?_
    refine GoR.skip rfl rfl rfl ?_
    refine GoR.skip rfl rfl rfl ?_
    refine GoR.op rfl rfl rfl rfl ?_
    refine GoR.op rfl rfl rfl rfl ?_
    refine GoR.skip rfl rfl rfl ?_
    refine GoR.skip rfl rfl rfl ?_
    refine GoR.skip rfl rfl rfl ?_
    refine GoR.skip rfl rfl rfl ?_
    refine GoR.op rfl rfl rfl rfl ?_
    refine GoR.op rfl rfl rfl rfl ?_
    refine GoR.skip rfl rfl rfl ?_
    refine GoR.skip rfl rfl rfl ?_
    refine GoR.skip rfl rfl rfl ?_
    refine GoR.skip rfl rfl rfl ?_
    refine GoR.skip rfl rfl rfl ?_
    refine GoR.skip rfl rfl rfl ?_
    refine GoR.op rfl rfl rfl rfl ?_
    refine GoR.op rfl rfl rfl rfl ?_
    refine GoR.end (Go.ret noJ_ok (ret_end (aResult_of Try.func55 rfl rfl) ⟨?_, x1⟩))
    rw [← hr]
    simp only [decide_eq_true_eq, decide_eq_false_iff_not] at e1
    simp [oneOrTuple]
    try omega
  | true =>
    cases e2 : decide (lo ≤ hi) with
    | false =>
      refine GoR.op rfl rfl rfl rfl ?_
      refine GoR.op rfl rfl (fa40_0 rfl) rfl ?_
      refine GoR.op rfl rfl (ld3 rfl f1 rfl) rfl ?_
      refine GoR.op rfl rfl (aOp_leq rfl rfl e1) rfl ?_
      refine GoR.op rfl rfl rfl rfl ?_
      refine GoR.op rfl rfl (fa40_0 rfl) rfl ?_
      refine GoR.op rfl rfl (ld3 rfl f1 rfl) rfl ?_
      refine GoR.op rfl rfl (fa40_1 rfl) rfl ?_
      refine GoR.op rfl rfl (ld3 rfl f1 rfl) rfl ?_
      refine GoR.op rfl rfl (aOp_leq rfl rfl e2) rfl ?_
      refine GoR.op rfl rfl rfl rfl ?_
      refine GoR.op rfl rfl rfl rfl ?_
      refine GoR.skip rfl rfl rfl ?_
      refine GoR.skip rfl rfl rfl ?_
      refine GoR.skip rfl rfl rfl ?_
      refine GoR.skip rfl rfl rfl ?_
      refine GoR.op rfl rfl rfl rfl ?_
      refine GoR.op rfl rfl rfl rfl ?_
      refine GoR.skip rfl rfl rfl ?_
      refine GoR.skip rfl rfl rfl ?_
      refine GoR.skip rfl rfl rfl ?_
      refine GoR.skip rfl rfl rfl ?_
      refine GoR.skip rfl rfl rfl ?_
      refine GoR.skip rfl rfl rfl ?_
      refine GoR.op rfl rfl rfl rfl ?_
      refine GoR.op rfl rfl rfl rfl ?_
      refine GoR.end (Go.ret noJ_ok (ret_end (aResult_of Try.func55 rfl rfl) ⟨?_, x1⟩))
      rw [← hr]
      simp only [decide_eq_true_eq, decide_eq_false_iff_not] at e1 e2
      simp [oneOrTuple]
      try omega
    | true =>
      cases e3 : decide (hi ≤ b) with
      | false =>
        refine GoR.op rfl rfl rfl rfl ?_
        refine GoR.op rfl rfl (fa40_0 rfl) rfl ?_
        refine GoR.op rfl rfl (ld3 rfl f1 rfl) rfl ?_
        refine GoR.op rfl rfl (aOp_leq rfl rfl e1) rfl ?_
        refine GoR.op rfl rfl rfl rfl ?_
        refine GoR.op rfl rfl (fa40_0 rfl) rfl ?_
        refine GoR.op rfl rfl (ld3 rfl f1 rfl) rfl ?_
        refine GoR.op rfl rfl (fa40_1 rfl) rfl ?_
        refine GoR.op rfl rfl (ld3 rfl f1 rfl) rfl ?_
        refine GoR.op rfl rfl (aOp_leq rfl rfl e2) rfl ?_
        refine GoR.op rfl rfl rfl rfl ?_
        refine GoR.op rfl rfl rfl rfl ?_
        refine GoR.op rfl rfl (fa40_1 rfl) rfl ?_
        refine GoR.op rfl rfl (ld3 rfl f1 rfl) rfl ?_
        refine GoR.op rfl rfl rfl rfl ?_
        refine GoR.op rfl rfl (aOp_leq rfl rfl e3) rfl ?_
        refine GoR.op rfl rfl rfl rfl ?_
        refine GoR.op rfl rfl rfl rfl ?_
        refine GoR.skip rfl rfl rfl ?_
        refine GoR.skip rfl rfl rfl ?_
        refine GoR.skip rfl rfl rfl ?_
        refine GoR.skip rfl rfl rfl ?_
        refine GoR.skip rfl rfl rfl ?_
        refine GoR.skip rfl rfl rfl ?_
        refine GoR.op rfl rfl rfl rfl ?_
        refine GoR.op rfl rfl rfl rfl ?_
        refine GoR.end (Go.ret noJ_ok (ret_end (aResult_of Try.func55 rfl rfl) ⟨?_, x1⟩))
        rw [← hr]
        simp only [decide_eq_true_eq, decide_eq_false_iff_not] at e1 e2 e3
        simp [oneOrTuple]
        try omega
      | true =>
        cases e4 : decide (hi - lo ≤ 2) with
        | false =>
          have h64 : inI64 (hi - lo) := hi64 (by simpa using e2) (by simpa using e1) (by simpa using e3)
          refine GoR.op rfl rfl rfl rfl ?_
          refine GoR.op rfl rfl (fa40_0 rfl) rfl ?_
          refine GoR.op rfl rfl (ld3 rfl f1 rfl) rfl ?_
          refine GoR.op rfl rfl (aOp_leq rfl rfl e1) rfl ?_
          refine GoR.op rfl rfl rfl rfl ?_
          refine GoR.op rfl rfl (fa40_0 rfl) rfl ?_
          refine GoR.op rfl rfl (ld3 rfl f1 rfl) rfl ?_
          refine GoR.op rfl rfl (fa40_1 rfl) rfl ?_
          refine GoR.op rfl rfl (ld3 rfl f1 rfl) rfl ?_
          refine GoR.op rfl rfl (aOp_leq rfl rfl e2) rfl ?_
          refine GoR.op rfl rfl rfl rfl ?_
          refine GoR.op rfl rfl rfl rfl ?_
          refine GoR.op rfl rfl (fa40_1 rfl) rfl ?_
          refine GoR.op rfl rfl (ld3 rfl f1 rfl) rfl ?_
          refine GoR.op rfl rfl rfl rfl ?_
          refine GoR.op rfl rfl (aOp_leq rfl rfl e3) rfl ?_
          refine GoR.op rfl rfl rfl rfl ?_
          refine GoR.op rfl rfl rfl rfl ?_
          refine GoR.op rfl rfl (fa40_1 rfl) rfl ?_
          refine GoR.op rfl rfl (ld3 rfl f1 rfl) rfl ?_
          refine GoR.op rfl rfl (fa40_0 rfl) rfl ?_
          refine GoR.op rfl rfl (ld3 rfl f1 rfl) rfl ?_
          refine GoR.op rfl rfl (aOp_sub rfl rfl h64 rfl) rfl ?_
          refine GoR.op rfl rfl (aOp_leq rfl rfl e4) rfl ?_
          refine GoR.op rfl rfl rfl rfl ?_
          refine GoR.op rfl rfl rfl rfl ?_
          refine GoR.end (Go.ret noJ_ok (ret_end (aResult_of Try.func55 rfl rfl) ⟨?_, x1⟩))
          rw [← hr]
          simp only [decide_eq_true_eq, decide_eq_false_iff_not] at e1 e2 e3 e4
          simp [oneOrTuple]
          try omega
        | true =>
          have h64 : inI64 (hi - lo) := hi64 (by simpa using e2) (by simpa using e1) (by simpa using e3)
          refine GoR.op rfl rfl rfl rfl ?_
          refine GoR.op rfl rfl (fa40_0 rfl) rfl ?_
          refine GoR.op rfl rfl (ld3 rfl f1 rfl) rfl ?_
          refine GoR.op rfl rfl (aOp_leq rfl rfl e1) rfl ?_
          refine GoR.op rfl rfl rfl rfl ?_
          refine GoR.op rfl rfl (fa40_0 rfl) rfl ?_
          refine GoR.op rfl rfl (ld3 rfl f1 rfl) rfl ?_
          refine GoR.op rfl rfl (fa40_1 rfl) rfl ?_
          refine GoR.op rfl rfl (ld3 rfl f1 rfl) rfl ?_
          refine GoR.op rfl rfl (aOp_leq rfl rfl e2) rfl ?_
          refine GoR.op rfl rfl rfl rfl ?_
          refine GoR.op rfl rfl rfl rfl ?_
          refine GoR.op rfl rfl (fa40_1 rfl) rfl ?_
          refine GoR.op rfl rfl (ld3 rfl f1 rfl) rfl ?_
          refine GoR.op rfl rfl rfl rfl ?_
          refine GoR.op rfl rfl (aOp_leq rfl rfl e3) rfl ?_
          refine GoR.op rfl rfl rfl rfl ?_
          refine GoR.op rfl rfl rfl rfl ?_
          refine GoR.op rfl rfl (fa40_1 rfl) rfl ?_
          refine GoR.op rfl rfl (ld3 rfl f1 rfl) rfl ?_
          refine GoR.op rfl rfl (fa40_0 rfl) rfl ?_
          refine GoR.op rfl rfl (ld3 rfl f1 rfl) rfl ?_
          refine GoR.op rfl rfl (aOp_sub rfl rfl h64 rfl) rfl ?_
          refine GoR.op rfl rfl (aOp_leq rfl rfl e4) rfl ?_
          refine GoR.op rfl rfl rfl rfl ?_
          refine GoR.op rfl rfl rfl rfl ?_
          refine GoR.end (Go.ret noJ_ok (ret_end (aResult_of Try.func55 rfl rfl) ⟨?_, x1⟩))
          rw [← hr]
          simp only [decide_eq_true_eq, decide_eq_false_iff_not] at e1 e2 e3 e4
          simp [oneOrTuple]
          try omega

theorem Perch_ok (bank : List AVal) (s1 m1 : AVal) (p : Int) (hbk : bank = [.int .i64 np, .int .i64 nb, s1, m1]) (hi : inI64 (np - 1)) {r : Bool} (hr : decide (0 ≤ p ∧ p ≤ np - 1) = r) (h : AH) : Runs Try.prog 56 [.agg bank, .int .i64 p] h (fun en h' => en = .ret (.bool r) ∧ Ext h h') := by
  subst hbk
  refine Runs.intro aFunc56 rfl rfl rfl rfl fun rest => ?_
  refine Go.seq noJ_ok (Go.region noJ_ok rfl ?_)
  refine GoR.box rfl rfl rfl rfl rfl rfl fun h1 x1 f1 => ?_
  refine GoR.op rfl rfl rfl rfl ?_
  refine GoR.end (Go.seq noJ_ok (Go.region noJ_ok rfl ?_))
  refine GoR.op rfl rfl rfl rfl ?_
  refine GoR.op rfl rfl (fa25_0 rfl) rfl ?_
  refine GoR.op rfl rfl (ld3 rfl f1 rfl) rfl ?_
  refine GoR.op rfl rfl (aOp_sub rfl rfl hi rfl) rfl ?_
  refine GoR.call rfl rfl (aOp_callFunc aFunc54 rfl) (in_ok p 0 (np - 1) hr h1) ?_ (by rintro _ _ ⟨q, _⟩; cases q)
  rintro _ h2 ⟨q, x2⟩
  cases q
  refine ⟨_, rfl, ?_⟩
  refine GoR.op rfl rfl rfl rfl ?_
  exact GoR.end (Go.ret noJ_ok (ret_end (aResult_of Try.func56 rfl rfl) ⟨rfl, x1.trans x2⟩))
theorem Holder_ok (bank : List AVal) (s1 m1 : AVal) (p : Int) (hbk : bank = [.int .i64 np, .int .i64 nb, s1, m1]) {r : Bool} (hr : decide (0 ≤ p ∧ p ≤ nb) = r) (h : AH) : Runs Try.prog 57 [.agg bank, .int .i64 p] h (fun en h' => en = .ret (.bool r) ∧ Ext h h') := by
  subst hbk
  refine Runs.intro aFunc57 rfl rfl rfl rfl fun rest => ?_
  refine Go.seq noJ_ok (Go.region noJ_ok rfl ?_)
  refine GoR.box rfl rfl rfl rfl rfl rfl fun h1 x1 f1 => ?_
  refine GoR.op rfl rfl rfl rfl ?_
  refine GoR.end (Go.seq noJ_ok (Go.region noJ_ok rfl ?_))
  refine GoR.op rfl rfl rfl rfl ?_
  refine GoR.op rfl rfl (fa25_1 rfl) rfl ?_
  refine GoR.op rfl rfl (ld3 rfl f1 rfl) rfl ?_
  refine GoR.call rfl rfl (aOp_callFunc aFunc54 rfl) (in_ok p 0 nb hr h1) ?_ (by rintro _ _ ⟨q, _⟩; cases q)
  rintro _ h2 ⟨q, x2⟩
  cases q
  refine ⟨_, rfl, ?_⟩
  refine GoR.op rfl rfl rfl rfl ?_
  exact GoR.end (Go.ret noJ_ok (ret_end (aResult_of Try.func57 rfl rfl) ⟨rfl, x1.trans x2⟩))

/-- long: only lengths are looked at. -/
theorem long_ok {a b : Nat} (hs : lenA s = some a) (hm : lenA m = some b) {r : Bool} (hr : decide (40 < (if (a : Int) < b then (b : Int) else a)) = r) (h : AH) : Runs Try.prog 12 [.agg [.int .i64 np, .int .i64 nb, s, m]] h (fun en h' => en = .ret (.bool r) ∧ Ext h h') := by
  refine Runs.intro aFunc12 rfl rfl rfl rfl fun rest => ?_
  refine Go.seq noJ_ok (Go.region noJ_ok rfl ?_)
  refine GoR.box rfl rfl rfl rfl rfl rfl fun h1 x1 f1 => ?_
  refine GoR.op rfl rfl rfl rfl ?_
  refine GoR.end (Go.seq noJ_ok (Go.region noJ_ok rfl ?_))
  refine GoR.op rfl rfl (fa25_2 rfl) rfl ?_
  refine GoR.op rfl rfl (ld22 rfl f1 rfl) rfl ?_
  refine GoR.op rfl rfl (aOp_lenSlice Try.underlying22 rfl hs) rfl ?_
  refine GoR.op rfl rfl (fa25_3 rfl) rfl ?_
  refine GoR.op rfl rfl (ld23 rfl f1 rfl) rfl ?_
  refine GoR.op rfl rfl (aOp_lenSlice Try.underlying23 rfl hm) rfl ?_
  refine GoR.op rfl rfl (aOp_max2 rfl rfl rfl) rfl ?_
  refine GoR.op rfl rfl (aOp_gtr rfl rfl hr) rfl ?_
  refine GoR.op rfl rfl rfl rfl ?_
  exact GoR.end (Go.ret noJ_ok (ret_end (aResult_of Try.func12 rfl rfl) ⟨rfl, x1⟩))
end Go.Proofs.Ytidfcmjlfadieaa
