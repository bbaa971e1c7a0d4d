import Derived.Test.YtidfcmjlfadieaaMAK
import Derived.Test.YtidfcmjlfadieaaMAG
namespace Go.Proofs.Ytidfcmjlfadieaa
open Go Go.AbsE
set_option maxRecDepth 100000
set_option linter.unusedVariables false

theorem foldl_take_succ {α β : Type} {f : β → α → β} {b : β} {l : List α} {k : Nat} {x : α} (h : l[k]? = some x) : (l.take (k + 1)).foldl f b = f ((l.take k).foldl f b) x := by
  rw [List.take_add_one, h]
  simp

theorem ways_ok {S : Sv} (hS : S.Ok) (hLs : ∀ l, l ∈ S.Ls → inI64 (l.th - 1)) (hnp : inI64 S.np) {s m av : AVal} (hss : sameA s s = true) (hsm : sameA m m = true) (hac : av.cells = [av]) (bg bk ba bw bh bm : Nat) :
    ∀ (r : Nat) (p : Pr) (h : AH), S.At p → S.rem p = r → WaysIn S s m av bg bk ba bw bh bm h → MapR S bm h →
      Runs Try.prog 130 [.agg (prC p), .ptr bg 0, .ptr bk 0, .ptr ba 0, .ptr bw 0, .ptr bh 0] h (fun en h' => en = .ret (.agg ((S.W p).map I64)) ∧ ExtF (fun b => b = bm) h h' ∧ MapR S bm h') := by
  intro r
  induction r using Nat.strongRecOn with
  | ind r ih =>
  intro p h hp hr I M
  have hst := hp.st.1
  have hbm := M.lt
  have hWl : (S.W p).length = 11 := (S.wd hS _ p hp rfl).1.len
  refine Runs.intro aFunc130 rfl rfl rfl rfl fun rest => ?_
  refine Go.seq noJ_ok (Go.region noJ_ok rfl ?_)
  refine GoR.box rfl rfl rfl rfl rfl rfl fun h1 x1 f1 => ?_
  refine GoR.alloc rfl rfl rfl zt111 rfl rfl fun h2 x2 f2 => ?_
  replace f1 := f1.ext x2
  have a1 := x1.1
  have a2 := x2.1
  have l1 := f1.1
  have l2 := f2.1
  have x02 := x1.trans x2
  have I2 := I.on (.of x02)
  refine GoR.end (Go.seq noJ_ok (Go.seq noJ_ok (Go.region noJ_ok rfl ?_)))
  refine GoR.op rfl rfl (ld92 rfl I2.g rfl) rfl ?_
  refine GoR.op rfl rfl (ld149 rfl f1 (prog_cells hst)) rfl ?_
  refine GoR.call rfl rfl (aOp_callFunc aFunc123 rfl) (done_ok' S.np S.nb p.1 s m p.2 hst _) ?_ (by rintro _ _ ⟨q, _⟩; cases q)
  rintro _ h3 ⟨q, x3⟩
  cases q
  refine ⟨_, rfl, ?_⟩
  have x03 := x02.trans x3
  have a3 := x3.1
  have I3 := I2.on (.of x3)
  have M3 := (M.ext x03)
  replace f1 := f1.ext x3
  replace f2 := f2.ext x3
  -- the result is stored, and the frame is left
  have ret : ∀ {t : Tr AVal} {h4 h5 : AH} {zs : List AVal}, t.get (pth 7) = some (.ptr h1.next 0) → ExtF (fun b => b = bm) h h4 → MapR S bm h4 → Has h4 h1.next (.cells .plain zs 111) → Upd h4 h1.next (.cells .plain ((S.W p).map I64) 111) h5 →
      ∃ m', aLeave (FC.fr ⟨130, 47, [], false, none, rest⟩ [] t) rest h5 (some .ret) = some m' ∧ Go.AbsE.Reach Try.prog m' (Post Try.prog 130 rest (fun en h' => en = .ret (.agg ((S.W p).map I64)) ∧ ExtF (fun b => b = bm) h h' ∧ MapR S bm h')) := by
    intro t h4 h5 zs ht e4 M4 g4 u5
    refine ret_end (aResult_of Try.func130 rfl (aResults_cell ht (u5.has g4) (inCells_agg ag111 sz111 (slice_all (by rw [List.length_map, hWl]))))) ⟨rfl, ⟨by rw [u5.1]; exact e4.1, fun b hb hn => by rw [u5.2.2 b (by omega), e4.2 b hb hn]⟩, M4.same (by rw [u5.1]; exact Nat.le_refl _) (u5.2.2 _ (by omega))⟩
  cases e1 : doneV S.np p.1 with
  | true =>
    refine GoR.end (Go.cond noJ_ok (b := true) rfl (Go.seq noJ_ok (Go.region noJ_ok rfl ?_)))
    refine GoR.op rfl rfl (aOp_buildArr (ps := [(0, .int .i64 1)]) zt111 Try.underlying111 sz3 rfl rfl) rfl ?_
    refine GoR.store rfl rfl rfl rfl rfl rfl f2 rfl sz111 rfl rfl (splice_all rfl) fun h4 u4 => ?_
    refine GoR.end (Go.ret noJ_ok (ret rfl (.of x03) M3 f2 ?_))
    rw [S.W_done hp e1]
    exact u4
  | false =>
    refine GoR.end (Go.cond noJ_ok (b := false) rfl (Go.code noJ_ok (Go.seq noJ_ok (Go.seq noJ_ok (Go.region noJ_ok rfl ?_)))))
    obtain ⟨es, clk, f, m1, m2, m3, m4⟩ := M3
    refine GoR.op rfl rfl (ld164 rfl I3.k rfl) rfl ?_
    refine GoR.op rfl rfl (ld149 rfl f1 (prog_cells hst)) rfl ?_
    have M3' : MapR S bm h3 := ⟨es, clk, f, m1, m2, m3, m4⟩
    cases e2 : findK p f with
    | some v =>
      have hv := (m4 _ (findK_mem e2)).2
      dsimp only at hv
      subst hv
      refine GoR.op rfl rfl ((aOp_lookup key149 Try.underlying164 zt111 rfl rfl hst m1 m2 m3).trans (by rw [e2])) rfl ?_
      refine GoR.op rfl rfl rfl rfl ?_
      refine GoR.op rfl rfl rfl rfl ?_
      refine GoR.op rfl rfl rfl rfl ?_
      refine GoR.alloc rfl rfl rfl zt111 rfl rfl fun h4 x4 f4 => ?_
      refine GoR.store rfl rfl rfl rfl rfl rfl f4 rfl sz111 (by simp [cells_agg, hWl]) (scal_I64 _) (splice_all (by simp [cells_agg, hWl])) fun h5 u5 => ?_
      have x35 : Ext h3 h5 := x4.upd u5 (Nat.le_refl _)
      refine GoR.op rfl rfl rfl rfl ?_
      refine GoR.end (Go.seq noJ_ok (Go.region noJ_ok rfl ?_))
      refine GoR.op rfl rfl rfl rfl ?_
      refine GoR.end (Go.cond noJ_ok (b := true) rfl (Go.seq noJ_ok (Go.region noJ_ok rfl ?_)))
      refine GoR.op rfl rfl (ld111 rfl (u5.has f4) (slice_all (by simp [cells_agg, hWl]))) rfl ?_
      refine GoR.store rfl rfl rfl rfl rfl rfl (f2.ext x35) rfl sz111 (by simp [cells_agg, hWl]) (scal_I64 _) (splice_all (by simp [cells_agg, hWl])) fun h6 u6 => ?_
      exact GoR.end (Go.ret noJ_ok (ret rfl (.of (x03.trans x35)) (M3'.ext x35) (f2.ext x35) u6))
    | none =>
      refine GoR.op rfl rfl ((aOp_lookup key149 Try.underlying164 zt111 rfl rfl hst m1 m2 m3).trans (by rw [e2])) rfl ?_
      refine GoR.op rfl rfl rfl rfl ?_
      refine GoR.op rfl rfl rfl rfl ?_
      refine GoR.op rfl rfl rfl rfl ?_
      refine GoR.alloc rfl rfl rfl zt111 rfl rfl fun h4 x4 f4 => ?_
      refine GoR.store rfl rfl rfl rfl rfl rfl f4 rfl sz111 rfl rfl (splice_all rfl) fun h5 u5 => ?_
      have x35 : Ext h3 h5 := x4.upd u5 (Nat.le_refl _)
      refine GoR.op rfl rfl rfl rfl ?_
      refine GoR.end (Go.seq noJ_ok (Go.region noJ_ok rfl ?_))
      refine GoR.op rfl rfl rfl rfl ?_
      refine GoR.end (Go.cond noJ_ok (b := false) rfl (Go.code noJ_ok (Go.seq noJ_ok (Go.region noJ_ok rfl ?_))))
      refine GoR.alloc rfl rfl rfl zt111 rfl rfl fun h6 x6 f6 => ?_
      have x06 := (x03.trans x35).trans x6
      have x36 := x35.trans x6
      have a36 := x36.1
      have a56 := x6.1
      have a35 := x35.1
      have I6 := I3.on (.of x36)
      have M6 := M3'.ext x36
      replace f1 := f1.ext x36
      replace f2 := f2.ext x36
      refine GoR.end (Go.seq noJ_ok (Go.seq noJ_ok (Go.region noJ_ok rfl ?_)))
      refine GoR.op rfl rfl (ld92 rfl I6.g rfl) rfl ?_
      refine GoR.op rfl rfl (ld149 rfl f1 (prog_cells hst)) rfl ?_
      refine GoR.call rfl rfl (aOp_callFunc aFunc122 rfl) (next_ok [.int .i64 S.np, .int .i64 S.nb, s, m] (prC p) _) ?_ (by rintro _ _ ⟨_, _, _, _, q, _⟩; cases q)
      rintro _ h7 ⟨b2, b3, n2, n3, q, x7, g2, g3⟩
      have q := AEnd.ret.inj q
      subst q
      refine ⟨_, rfl, GoR.end (Go.block noJ_ok ?_)⟩
      have a7 := x7.1
      refine Go.keep [(1, .ptr bg 0), (2, .ptr bk 0), (3, .ptr ba 0), (4, .ptr bw 0), (5, .ptr bh 0), (6, .ptr h.next 0), (7, .ptr h1.next 0), (10, .ptr h5.next 0), (27, .func (.func 165) [] [.ptr b2 0, .ptr b3 0])] ⟨rfl, rfl, rfl, rfl, rfl, rfl, rfl, rfl, rfl, trivial⟩ ?_
      refine Go.rangeFunc rfl aFunc165 fun d lb h8 hd hlb x8 fd fl => ?_
      obtain ⟨r0, hr0, fl⟩ : ∃ r0 : ALoop, r0 = _ ∧ Has h8 lb (.loop r0) := ⟨_, rfl, fl⟩
      have hs0 : r0.state = .ready := by rw [hr0]
      have hp0 : r0.pending = none := by rw [hr0]
      have a8 := x8.1
      have l8 := fl.1
      have l6 := f6.1
      have x68 := x7.trans x8
      have x08 := x06.trans x68
      have I8 := I6.on (.of x68)
      have M8 := M6.ext x68
      replace f1 := f1.ext x68
      replace f2 := f2.ext x68
      replace f6 := f6.ext x68
      have hbm' : bm < h.next := hbm
      have p0 := hp.ln
      have hnp10 := hS.np
      -- what holds at each item
      let G : Nat → Prop := fun b => b = bm ∨ b = h5.next ∨ b = lb
      let J : Nat → AH → (Nat → Prop) → Prop := fun k hh F => F = G ∧ ExtF G h8 hh ∧ Has hh lb (.loop r0) ∧ Has hh h5.next (.cells .plain ((((S.nx p).take k).foldl (S.stepW S.W) zero11).map I64) 111) ∧ MapR S bm hh
      let E : Nat → AH → (Nat → Prop) → Prop := fun _ _ _ => False
      have hx0 : ∀ {hh}, ExtF G h8 hh → ExtF (fun b => b = bm) h hh := fun x => ⟨by have := x.1; omega, fun b hb hn => by rw [x.2 b (by omega) (fun q => q.elim hn (fun q => q.elim (fun q => by omega) (fun q => by omega))), x08.2 b hb]⟩
      have hT : Takes Try.prog h8.next (.yield lb) ((S.nx p).map prC) J E := by
        refine ⟨?_, ?_, fun q => q.elim, fun q => q.elim, ?_⟩
        · rintro k hh F b ⟨rfl, e, g1, g2, mr⟩ (rfl | rfl | rfl)
          · exact mr.lt
          · exact g2.1
          · exact g1.1
        · rintro k hh F h' ⟨rfl, e, g1, g2, mr⟩ n ee
          have := e.1
          refine ⟨rfl, ⟨by omega, fun b hb hn => by rw [ee b (by omega) (.inl hb), e.2 b hb hn]⟩, ⟨by have := g1.1; omega, by rw [ee lb g1.1 (.inl (by omega))]; exact g1.2⟩, ⟨by have := g2.1; omega, by rw [ee _ g2.1 (.inl (by omega))]; exact g2.2⟩, mr.same n (ee bm mr.lt (.inl (by omega)))⟩
        · rintro k item hh F hit ⟨rfl, e, g1, g2, mr⟩
          refine ⟨_, rfl, (fun _ _ q => by cases q), ?_⟩
          obtain ⟨q, hq, rfl⟩ : ∃ q, (S.nx p)[k]? = some q ∧ item = prC q := by
            rw [List.getElem?_map] at hit
            cases hq : (S.nx p)[k]? with
            | none => rw [hq] at hit; cases hit
            | some x => rw [hq] at hit; cases hit; exact ⟨x, rfl, rfl⟩
          have hqm : q ∈ S.nx p := List.mem_of_getElem? hq
          obtain ⟨q1, q2⟩ := S.rem_nx hp e1 hqm
          have hst' := q1.st.1
          have qln := q1.ln
          obtain ⟨wd1, wd2⟩ := S.fold_wd hS hp e1 k
          have eh := e.1
          have hput : putArgs r0.tmps r0.n r0.params [.agg (prC q)] = some ((keepT [(1, .ptr bg 0), (2, .ptr bk 0), (3, .ptr ba 0), (4, .ptr bw 0), (5, .ptr bh 0), (6, .ptr h.next 0), (7, .ptr h1.next 0), (10, .ptr h5.next 0), (27, .func (.func 165) [] [.ptr b2 0, .ptr b3 0])]).put (pth 28) (some (.agg (prC q)))) := by rw [hr0]; rfl
          have hr0e : ({ ({ r0 with state := .busy } : ALoop) with state := .ready, pending := none } : ALoop) = r0 := by rw [hr0]
          refine Does.round g1 hput (by rw [hr0]; exact Try.func130) fun fr rest2 Q hrr hpn => ?_
          rw [show r0.fn = 130 from by rw [hr0], show r0.n = 47 from by rw [hr0]; rfl, show r0.assign = (⟨.ready, none, 130, 47, keepT [(1, .ptr bg 0), (2, .ptr bk 0), (3, .ptr ba 0), (4, .ptr bw 0), (5, .ptr bh 0), (6, .ptr h.next 0), (7, .ptr h1.next 0), (10, .ptr h5.next 0), (27, .func (.func 165) [] [.ptr b2 0, .ptr b3 0])], _, _, _, d⟩ : ALoop).assign from congrArg ALoop.assign hr0, show r0.body = (⟨.ready, none, 130, 47, keepT [(1, .ptr bg 0), (2, .ptr bk 0), (3, .ptr ba 0), (4, .ptr bw 0), (5, .ptr bh 0), (6, .ptr h.next 0), (7, .ptr h1.next 0), (10, .ptr h5.next 0), (27, .func (.func 165) [] [.ptr b2 0, .ptr b3 0])], _, _, _, d⟩ : ALoop).body from congrArg ALoop.body hr0]
          dsimp only
          refine Go.region noJ_ok rfl ?_
          refine GoR.alloc rfl rfl rfl zt149 rfl rfl fun e2 y2 f9 => ?_
          refine GoR.store rfl rfl rfl rfl rfl rfl f9 rfl sz149 (by simp [cells_agg, prC, hst']) (scal_I64 (q.1 :: q.2)) (splice_all (by simp [cells_agg, prC, hst'])) fun e3 u3 => ?_
          have y3 : Ext hh e3 := y2.upd u3 (Nat.le_refl _)
          have f9' := u3.has f9
          refine GoR.end (Go.beginRound (g1.ext y3) hs0 fun e4 u4 => ?_)
          have n4 : e4.next = e3.next := u4.1
          have n23 : e3.next = e2.next := u3.1
          have n2 := y2.1
          have n9 := f9.1
          have vl := u4.has (g1.ext y3)
          have v9 := f9'.upd u4 (by have := g1.1; omega)
          have vw := (g2.ext y3).upd u4 (by omega)
          have mr4 : MapR S bm e4 := (mr.ext y3).same (by omega) (u4.2.2 _ (by omega))
          have x84 : ExtF G h8 e4 := ⟨by omega, fun b hb hn => by rw [u4.2.2 b (fun q => hn (.inr (.inr q))), y3.2 b (by omega), e.2 b hb hn]⟩
          have I4 := I.on (hx0 x84)
          refine Go.block noJ_ok (Go.seq noJ_ok (Go.region noJ_ok rfl ?_))
          refine GoR.op rfl rfl (ld92 rfl I4.g rfl) rfl ?_
          refine GoR.op rfl rfl (ld149 rfl v9 (prog_cells hst')) rfl ?_
          refine GoR.op rfl rfl (ld144 rfl I4.a rfl) rfl ?_
          obtain ⟨k1, k2⟩ := I4.kp e4 (.of (Ext.refl _))
          refine GoR.call rfl rfl (aOp_callFunc aFunc124 rfl) (suits_ok S.np S.nb q.1 s m av S.A S.Ls q.2 hst' hS.Ls (by constructor <;> omega) e4 k1 hss hsm k2 rfl) ?_ (by rintro _ _ ⟨q, _⟩; cases q)
          rintro _ e5 ⟨qe, y5⟩
          cases qe
          refine ⟨_, rfl, ?_⟩
          have n5 := y5.1
          replace vl := vl.ext y5
          replace v9 := v9.ext y5
          replace vw := vw.ext y5
          have mr5 := mr4.ext y5
          have x85 : ExtF G h8 e5 := ExtF.on x84 (.of y5)
          -- the end of the round
          have fin : ∀ {t : Tr AVal} {e9 : AH} {w : List Int}, w = ((S.nx p).take (k + 1)).foldl (S.stepW S.W) zero11 → ExtF G h8 e9 → hh.next ≤ e9.next → (∀ b, h8.next ≤ b → b < hh.next → e9.get b = hh.get b) → Has e9 lb (.loop { r0 with state := .busy }) → Has e9 h5.next (.cells .plain (w.map I64) 111) → MapR S bm e9 →
              Go Try.prog ⟨130, 47, [], false, some lb, fr :: rest2⟩ [] t e9 Q := by
            intro t e9 w hw x9 n9' n10 vl9 vw9 mr9
            refine Go.roundEnd vl9 fun e10 u10 => ?_
            have n10' : e10.next = e9.next := u10.1
            have x810 : ExtF G h8 e10 := ⟨by have := x9.1; omega, fun b hb hn => by rw [u10.2.2 b (fun q => hn (.inr (.inr q))), x9.2 b hb hn]⟩
            refine hrr _ _ ⟨⟨by omega, fun b hb hn => ?_⟩, G, fun b q => .inl q, .inl ⟨rfl, rfl, x810, hr0e ▸ u10.has vl9, by rw [← hw]; exact vw9.upd u10 (by omega), mr9.same (by omega) (u10.2.2 _ (by omega))⟩⟩
            have hnl : b ≠ lb := fun q => hn (.inr (.inr q))
            by_cases h8b : b < h8.next
            · rw [x810.2 b h8b hn, e.2 b h8b hn]
            · rw [u10.2.2 b hnl, n10 b (by omega) hb]
          have old5 : ∀ b, h8.next ≤ b → b < hh.next → e5.get b = hh.get b := fun b k1 k2 => by rw [y5.2 b (by omega), u4.2.2 b (by omega), y3.2 b k2]
          cases es : S.suits q with
          | false =>
            have es' : suitsV S.np S.nb S.Ls S.A q.1 q.2 = false := es
            refine GoR.end (Go.cond noJ_ok (b := false) (by rw [es']; rfl) (Go.code noJ_ok (Go.inBlock noJ_ok ?_)))
            refine fin ?_ x85 (by omega) old5 vl vw mr5
            rw [foldl_take_succ hq]
            unfold Sv.stepW
            rw [es]
            rfl
          | true =>
            have es' : suitsV S.np S.nb S.Ls S.A q.1 q.2 = true := es
            refine GoR.end (Go.cond noJ_ok (b := true) (by rw [es']; rfl) (Go.seq noJ_ok (Go.region noJ_ok rfl ?_)))
            have I5 := I4.on (.of y5)
            refine GoR.op rfl rfl (ld165 rfl I5.w rfl) rfl ?_
            refine GoR.op rfl rfl (ld149 rfl v9 (prog_cells hst')) rfl ?_
            refine GoR.call rfl rfl (aOp_callVal rfl aFunc130 rfl) (ih (S.rem q) (by omega) q e5 q1 rfl I5 mr5) ?_ (by rintro _ _ ⟨q, _⟩; cases q)
            rintro _ e6 ⟨qe, y6, mr6⟩
            cases qe
            refine ⟨_, rfl, ?_⟩
            have n6 := y6.1
            obtain ⟨pw1, pw2, pw3⟩ := S.plus_hyp hS hp e1 hqm wd1 wd2
            replace vl := vl.extF y6 (fun q => by omega)
            replace v9 := v9.extF y6 (fun q => by omega)
            replace vw := vw.extF y6 (fun q => by omega)
            refine GoR.alloc rfl rfl rfl zt111 rfl rfl fun e7 y7 f12 => ?_
            refine GoR.store rfl rfl rfl rfl rfl rfl f12 rfl sz111 (by simp [cells_agg, pw2]) (scal_I64 _) (splice_all (by simp [cells_agg, pw2])) fun e8 u8 => ?_
            have y68 : Ext e6 e8 := y7.upd u8 (Nat.le_refl _)
            have n68 := y68.1
            have f12' := u8.has f12
            replace vl := vl.ext y68
            replace v9 := v9.ext y68
            replace vw := vw.ext y68
            have mr8 := mr6.ext y68
            have I8' := (I5.on y6).on (.of y68)
            refine GoR.end (Go.drawn plan130 ?_)
            refine GoD.quiet rfl rfl (fun h' x => ld111 rfl (vw.ext x) (slice_all (by rw [List.length_map, wd1.len]))) (sameA_I64 _) rfl ?_
            refine GoD.quiet rfl rfl (fun h' x => ld111 rfl (f12'.ext x) (slice_all (by simp [cells_agg, pw2]))) (sameA_I64 _) rfl ?_
            refine GoD.quiet rfl rfl (fun h' x => ld92 rfl (I8'.g.ext x) rfl) (bankSame _ _ hss hsm) rfl ?_
            refine GoD.quiet rfl rfl (fun h' x => ld149 rfl (v9.ext x) (prog_cells hst')) (progSame _ _) rfl ?_
            refine GoD.quiet rfl rfl (fun h' x => ld3 rfl (I8'.hd.ext x) rfl) (sameA_int _ _) rfl ?_
            refine GoD.call rfl rfl (aOp_callFunc aFunc132 rfl) (own_ok S.np S.nb q.1 S.hd s m S.Ls q.2 hst' hS.Ls e8 (I8'.kp e8 (.of (Ext.refl _))).1) ?_ (by rintro _ _ ⟨q, _⟩; cases q)
            rintro _ e9 ⟨qe, y9⟩
            cases qe
            refine ⟨y9, _, rfl, ?_⟩
            rw [← ownN_cast]
            refine GoD.call rfl rfl (aOp_callFunc aFunc131 rfl) (plus_ok (((S.nx p).take k).foldl (S.stepW S.W) zero11) (S.W q) (S.ownN q) pw1 pw2 (ownN_le S q) e9 pw3) ?_ (by rintro _ _ ⟨q, _⟩; cases q)
            rintro _ e10 ⟨qe, y10⟩
            cases qe
            refine ⟨y10, _, rfl, ?_⟩
            have y810 := y9.trans y10
            have n810 := y810.1
            have hpl : (plusV (S.ownN q) (S.W q) (((S.nx p).take k).foldl (S.stepW S.W) zero11) 11).length = 11 := by rw [plusV_len, pw1]
            refine GoD.store rfl rfl rfl rfl rfl rfl rfl (vw.ext y810) rfl sz111 (by simp [cells_agg, hpl]) (scal_I64 _) (splice_all (by simp [cells_agg, hpl, pw1])) fun e11 u11 => ?_
            have n11 : e11.next = e10.next := u11.1
            refine GoD.end rfl (Go.inBlock noJ_ok ?_)
            refine fin (w := plusV (S.ownN q) (S.W q) (((S.nx p).take k).foldl (S.stepW S.W) zero11) 11) ?_ ⟨by omega, fun b hb hn => ?_⟩ (by omega) (fun b k1 k2 => ?_) ((vl.ext y810).upd u11 (by omega)) (u11.has (vw.ext y810)) ((mr8.ext y810).same (by omega) (u11.2.2 _ (by omega)))
            · rw [foldl_take_succ hq]
              unfold Sv.stepW
              rw [es]
              rfl
            · rw [u11.2.2 b (fun q => hn (.inr (.inl q))), y810.2 b (by omega), y68.2 b (by omega), y6.2 b (by omega) (fun q => hn (.inl q)), x85.2 b hb hn]
            · rw [u11.2.2 b (by omega), y810.2 b (by omega), y68.2 b (by omega), y6.2 b (by omega) (by omega), old5 b k1 k2]
      have hJ0 : J 0 h8 G := ⟨rfl, .of (Ext.refl _), fl, f6, M8⟩
      refine ⟨_, next1_ok S.np S.nb p.1 s m (.yield lb) S.Ls p.2 hS.Ls hLs (by constructor <;> omega) hss rfl hp.st b2 b3 G J E h8 (g2.ext x8) (g3.ext x8) ?_ (Nat.le_refl _) hT hJ0, ?_, ?_⟩
      · intro h' x
        exact (I.kp h' (hx0 x)).1
      · rintro _ _ ⟨q, _⟩
        cases q
      rintro v h9 ⟨_, x9, F9, hF9, ⟨rfl, e9, g1, g2', mr9⟩ | ⟨k, _, hE⟩⟩
      case inr => exact hE.elim
      refine ⟨r0, g1, (by rw [hs0]; intro q; cases q), fun h10 u10 => ?_⟩
      rw [hp0]
      have n10 : h10.next = h9.next := u10.1
      have n9 := e9.1
      have ld8 := fd.1
      have hWfold : ((S.nx p).take (passP S.Ls 0 p.1 p.2).length).foldl (S.stepW S.W) zero11 = S.W p := by
        rw [S.W_step hp e1]
        show ((S.nx p).take (S.nx p).length).foldl _ _ = _
        rw [List.take_length]
      rw [hWfold] at g2'
      have x810 : ExtF G h8 h10 := ⟨by omega, fun b hb hn => by rw [u10.2.2 b (fun q => hn (.inr (.inr q))), e9.2 b hb hn]⟩
      have gw := g2'.upd u10 (by omega)
      have mr10 : MapR S bm h10 := mr9.same (by omega) (u10.2.2 _ (by omega))
      have I10 := I.on (hx0 x810)
      have f1' := f1.extF x810 (fun q => q.elim (fun q => by omega) (fun q => q.elim (fun q => by omega) (fun q => by omega)))
      have f2' := f2.extF x810 (fun q => q.elim (fun q => by omega) (fun q => q.elim (fun q => by omega) (fun q => by omega)))
      have fd' := fd.extF x810 (fun q => q.elim (fun q => by omega) (fun q => q.elim (fun q => by omega) (fun q => by omega)))
      refine Go.inBlock noJ_ok (Go.seq noJ_ok (Go.region noJ_ok rfl ?_))
      obtain ⟨es', clk', f', m1', m2', m3', m4'⟩ := mr10
      refine GoR.op rfl rfl (ld164 rfl I10.k rfl) rfl ?_
      refine GoR.op rfl rfl (ld149 rfl f1' (prog_cells hst)) rfl ?_
      refine GoR.op rfl rfl (ld111 rfl gw (slice_all (by rw [List.length_map, hWl]))) rfl ?_
      refine GoR.mapUpdate (key := p) rfl rfl key149 Try.underlying164 rfl rfl rfl rfl hst m1' m2' m3' fun es2 c2 h11 u11 q2 q3 => ?_
      have n11 : h11.next = h10.next := u11.1
      refine GoR.end (Go.seq noJ_ok (Go.region noJ_ok rfl ?_))
      refine GoR.op rfl rfl (ld111 rfl (gw.upd u11 (by omega)) (slice_all (by rw [List.length_map, hWl]))) rfl ?_
      refine GoR.store rfl rfl rfl rfl rfl rfl (f2'.upd u11 (by omega)) rfl sz111 (by simp [cells_agg, hWl]) (scal_I64 _) (splice_all (by simp [cells_agg, hWl])) fun h12 u12 => ?_
      have n12 : h12.next = h11.next := u12.1
      refine GoR.end (Go.retL (FLeft.collected (fun q => by cases q) ((fd'.upd u11 (by omega)).upd u12 (by omega)) fun h13 u13 => ?_))
      have n13 : h13.next = h12.next := u13.1
      refine FLeft.ret (aResult_of Try.func130 rfl (aResults_cell rfl ((u12.has (f2'.upd u11 (by omega))).upd u13 (by omega)) (inCells_agg ag111 sz111 (slice_all (by rw [cells_agg, List.length_map, hWl]))))) ⟨rfl, ⟨by omega, fun b hb hn => ?_⟩, es2, c2, _, ((u11.has m1').upd u12 (by omega)).upd u13 (by omega), q2, q3, fun x hx => ?_⟩
      · have := hx0 x810
        rw [u13.2.2 b (by omega), u12.2.2 b (by omega), u11.2.2 b hn, this.2 b hb hn]
      · rcases setK_mem hx with rfl | hx
        · exact ⟨hp, rfl⟩
        · exact m4' x hx
end Go.Proofs.Ytidfcmjlfadieaa

namespace Go.Proofs.Ytidfcmjlfadieaa
open Go Go.AbsE
set_option maxRecDepth 100000
set_option linter.unusedVariables false
theorem zt164 : zeroT Try.prog 164 = some .nilmap := by kernel_rfl
theorem zt165 : zeroT Try.prog 165 = some .nilfunc := by kernel_rfl
theorem pl149 : ∀ fs, Try.prog.underlying 149 = some (.struct fs) → placesT Try.prog fs.toList = some [(0, 1), (1, 4)] := by
  intro fs h
  rw [Try.underlying149] at h
  cases h
  kernel_rfl
def p0 : Pr := (0, [0, 0, 0, 0])
theorem Sv.at0 {S : Sv} (hS : S.Ok) : S.At p0 := ⟨by have := hS.np; constructor <;> simp [p0]; omega, rfl, by simp [p0]⟩
theorem truths_ok {S : Sv} (hS : S.Ok) (hLs : ∀ l, l ∈ S.Ls → inI64 (l.th - 1)) (hnp : inI64 S.np) {s m av : AVal} (hss : sameA s s = true) (hsm : sameA m m = true) (hac : av.cells = [av]) (h : AH) (hs : SliceOf h 5 s (S.Ls.map LeaseV.cells)) (hA : AsksFrom av S.A h) :
    Runs Try.prog 81 [.agg [.int .i64 S.np, .int .i64 S.nb, s, m], av, .int .i64 S.hd] h (fun en h' => en = .ret (.agg ((S.W p0).map I64)) ∧ Ext h h') := by
  have hWl : (S.W p0).length = 11 := (S.wd hS _ p0 (S.at0 hS) rfl).1.len
  refine Runs.intro aFunc81 rfl rfl rfl rfl fun rest => ?_
  refine Go.seq noJ_ok (Go.region noJ_ok rfl ?_)
  refine GoR.box rfl rfl rfl rfl rfl rfl fun h1 x1 f1 => ?_
  refine GoR.box rfl rfl rfl rfl rfl rfl fun h2 x2 f2 => ?_
  refine GoR.box rfl rfl rfl rfl rfl rfl fun h3 x3 f3 => ?_
  refine GoR.alloc rfl rfl rfl zt111 rfl rfl fun h4 x4 f4 => ?_
  refine GoR.end (Go.seq noJ_ok (Go.region noJ_ok rfl ?_))
  refine GoR.makeMap rfl rfl rfl rfl rfl fun h5 x5 f5 => ?_
  refine GoR.alloc rfl rfl rfl zt164 rfl rfl fun h6 x6 f6 => ?_
  refine GoR.store rfl rfl rfl rfl rfl rfl f6 rfl sz164 rfl rfl rfl fun h7 u7 => ?_
  refine GoR.end (Go.seq noJ_ok (Go.region noJ_ok rfl ?_))
  refine GoR.alloc rfl rfl rfl zt165 rfl rfl fun h8 x8 f8 => ?_
  refine GoR.end (Go.seq noJ_ok (Go.region noJ_ok rfl ?_))
  refine GoR.op rfl rfl rfl rfl ?_
  refine GoR.store rfl rfl rfl rfl rfl rfl f8 rfl sz165 rfl rfl rfl fun h9 u9 => ?_
  refine GoR.end (Go.seq noJ_ok (Go.region noJ_ok rfl ?_))
  have n7 : h7.next = h6.next := u7.1
  have n9 : h9.next = h8.next := u9.1
  have a1 := x1.1
  have a2 := x2.1
  have a3 := x3.1
  have a4 := x4.1
  have a5 := x5.1
  have a6 := x6.1
  have a8 := x8.1
  have l1 := f1.1
  have l2 := f2.1
  have l3 := f3.1
  have l4 := f4.1
  have l5 := f5.1
  have l6 := f6.1
  have l8 := f8.1
  have x46 := x5.trans x6
  have x04 := ((x1.trans x2).trans x3).trans x4
  have g1 := (((((((f1.ext x2).ext x3).ext x4).ext x46).upd u7 (by omega)).ext x8).upd u9 (by omega))
  have g2 := ((((((f2.ext x3).ext x4).ext x46).upd u7 (by omega)).ext x8).upd u9 (by omega))
  have g3 := (((((f3.ext x4).ext x46).upd u7 (by omega)).ext x8).upd u9 (by omega))
  have g4 := ((((f4.ext x46).upd u7 (by omega)).ext x8).upd u9 (by omega))
  have g5 := ((((f5.ext x6).upd u7 (by omega)).ext x8).upd u9 (by omega))
  have g6 := (((u7.has f6).ext x8).upd u9 (by omega))
  have g8 := u9.has f8
  have x09 : Ext h h9 := ((x04.trans x46).upd u7 (by omega)).trans x8 |>.upd u9 (by omega)
  refine GoR.op rfl rfl (ld165 rfl g8 rfl) rfl ?_
  refine GoR.op rfl rfl (aOp_build zt149 Try.underlying149 (pl149 _ Try.underlying149) rfl rfl) rfl ?_
  refine GoR.call rfl rfl (aOp_callVal rfl aFunc130 rfl) (ways_ok hS hLs hnp hss hsm hac h.next h5.next h1.next h7.next h2.next h4.next _ p0 h9 (S.at0 hS) rfl ⟨g1, g6, by rw [hac] at g2; exact g2, g8, g3, ?_, by omega⟩ ⟨_, _, [], g5, rfl, fun _ q => (by cases q), fun _ q => (by cases q)⟩) ?_ (by rintro _ _ ⟨q, _⟩; cases q)
  · intro h' x
    have : Ext h h' := ⟨by have := x.1; omega, fun b hb => by rw [x.2 b (by omega) (by omega), x09.2 b hb]⟩
    exact ⟨hs.ext this, hA.ext this⟩
  rintro _ h10 ⟨q, x10, _⟩
  cases q
  refine ⟨_, rfl, ?_⟩
  refine GoR.store rfl rfl rfl rfl rfl rfl (g4.extF x10 (by omega)) rfl sz111 (by simp [cells_agg, hWl]) (scal_I64 _) (splice_all (by simp [cells_agg, hWl])) fun h11 u11 => ?_
  have n10 := x10.1
  have n11 : h11.next = h10.next := u11.1
  exact GoR.end (Go.ret noJ_ok (ret_end (aResult_of Try.func81 rfl (aResults_cell rfl (u11.has (g4.extF x10 (by omega))) (inCells_agg ag111 sz111 (slice_all (by rw [cells_agg, List.length_map, hWl]))))) ⟨rfl, by omega, fun b hb => by rw [u11.2.2 b (by omega), x10.2 b (by omega) (by omega), x09.2 b hb]⟩))

def cntS (np nb : Int) (Ls : List LeaseV) (A : Int → Int → Bool) : Sv := ⟨np, nb, nb, Ls, A⟩
/-- In how many truths all is as it is asked. -/
def cntV (np nb : Int) (Ls : List LeaseV) (A : Int → Int → Bool) : Int := (cntS np nb Ls A).C p0
theorem cntV_bound {np nb : Int} {Ls : List LeaseV} {A : Int → Int → Bool} (h1 : 1 ≤ np ∧ np ≤ 10) (hL : Ls.length ≤ 4) : 0 ≤ cntV np nb Ls A ∧ cntV np nb Ls A ≤ 16 ^ 11 := by
  have hS : (cntS np nb Ls A).Ok := ⟨h1, hL⟩
  obtain ⟨a, b, _⟩ := (cntS np nb Ls A).wd hS _ p0 (Sv.at0 hS) rfl
  refine ⟨sum_nonneg a.pos, Int.le_trans b ?_⟩
  have : (cntS np nb Ls A).rem p0 ≤ 11 := by
    unfold Sv.rem cntS p0
    dsimp only
    omega
  exact_mod_cast Nat.pow_le_pow_right (n := 16) (by omega) this
theorem sum_slice {h : AH} {b : Nat} {g : Kd} {L : List Int} {el : TypeId} (hb : Has h b (.cells g (L.map I64) el)) : SliceOf h 1 (.slice b 0 L.length L.length) (L.map one1) := by
  refine SliceOf.mk' rfl rfl hb (by simp) fun i l hl => ?_
  rw [List.getElem?_map] at hl
  cases hq : L[i]? with
  | none => rw [hq] at hl; cases hl
  | some x =>
    rw [hq] at hl
    cases hl
    have hlt := (List.getElem?_eq_some_iff.1 hq).1
    rw [Nat.zero_add, Nat.mul_one]
    have h1 : ((L.map I64).drop i).take 1 = [I64 x] := by
      rw [← List.map_drop, ← List.map_take, List.drop_eq_getElem_cons hlt]
      simp only [List.take_succ_cons, List.take_zero, List.map_cons, List.map_nil]
      rw [(List.getElem?_eq_some_iff.1 hq).2]
    simp only [slice?, h1]
    rfl
theorem count_ok {np nb : Int} {Ls : List LeaseV} {A : Int → Int → Bool} (h1 : 1 ≤ np ∧ np ≤ 10) (hL : Ls.length ≤ 4) (hLs : ∀ l, l ∈ Ls → inI64 (l.th - 1)) {s m av : AVal} (hss : sameA s s = true) (hsm : sameA m m = true) (hac : av.cells = [av]) (h : AH) (hs : SliceOf h 5 s (Ls.map LeaseV.cells)) (hA : AsksFrom av A h) :
    Runs Try.prog 86 [.agg [.int .i64 np, .int .i64 nb, s, m], av] h (fun en h' => en = .ret (.int .i64 (cntV np nb Ls A)) ∧ Ext h h') := by
  have hS : (cntS np nb Ls A).Ok := ⟨h1, hL⟩
  obtain ⟨wa, wb, _⟩ := (cntS np nb Ls A).wd hS _ p0 (Sv.at0 hS) rfl
  have hWl := wa.len
  obtain ⟨c1, c2⟩ := cntV_bound (nb := nb) (A := A) h1 hL
  refine Runs.intro aFunc86 rfl rfl rfl rfl fun rest => ?_
  refine Go.seq noJ_ok (Go.region noJ_ok rfl ?_)
  refine GoR.box rfl rfl rfl rfl rfl rfl fun h1 x1 f1 => ?_
  refine GoR.op rfl rfl rfl rfl ?_
  refine GoR.end (Go.seq noJ_ok (Go.region noJ_ok rfl ?_))
  refine GoR.op rfl rfl (ld92 rfl f1 rfl) rfl ?_
  refine GoR.op rfl rfl rfl rfl ?_
  refine GoR.op rfl rfl (fa92_1 rfl) rfl ?_
  refine GoR.op rfl rfl (ld3 rfl f1 rfl) rfl ?_
  refine GoR.call rfl rfl (aOp_callFunc aFunc81 rfl) (truths_ok hS hLs (by constructor <;> (show _ ; unfold cntS; dsimp only; omega)) hss hsm hac h1 (hs.ext x1) (hA.ext x1)) ?_ (by rintro _ _ ⟨q, _⟩; cases q)
  rintro _ h2 ⟨q, x2⟩
  cases q
  refine ⟨_, rfl, ?_⟩
  refine GoR.alloc rfl rfl rfl zt111 rfl rfl fun h3 x3 f3 => ?_
  refine GoR.store rfl rfl rfl rfl rfl rfl f3 rfl sz111 (by simp [cells_agg, hWl]) (scal_I64 _) (splice_all (by simp [cells_agg, hWl])) fun h4 u4 => ?_
  have f4 := u4.has f3
  have x04 := (x1.trans x2).trans (x3.upd u4 (Nat.le_refl _))
  refine GoR.end (Go.seq noJ_ok (Go.region noJ_ok rfl ?_))
  refine GoR.op rfl rfl (aOp_sliceArr Try.underlying111 sz3 rfl) rfl ?_
  have hsum : ∀ n, n ≤ ((cntS np nb Ls A).W p0).length → inI64 ((((cntS np nb Ls A).W p0).take n).foldl (· + ·) 0) := fun n _ => by
    rw [foldl_add, Int.zero_add]
    have k1 := sum_take_le (i := n) wa.pos
    have k2 : 0 ≤ (((cntS np nb Ls A).W p0).take n).sum := sum_nonneg fun x hx => wa.pos x (List.mem_of_mem_take hx)
    have k3 : ((cntS np nb Ls A).W p0).sum ≤ 16 ^ 11 := c2
    have e11 : (16 : Int) ^ 11 = 17592186044416 := by decide
    constructor <;> omega
  have hsl : SliceOf h4 1 (.slice h2.next 0 11 11) (((cntS np nb Ls A).W p0).map one1) := by
    have := sum_slice f4
    rw [hWl] at this
    exact this
  refine GoR.call rfl rfl (aOp_callFunc aFunc133 rfl) (sum_ok _ ((cntS np nb Ls A).W p0) h4 hsl hsum (by omega)) ?_ (by rintro _ _ ⟨q, _⟩; cases q)
  rintro _ h5 ⟨q, x5⟩
  cases q
  refine ⟨_, rfl, ?_⟩
  refine GoR.op rfl rfl rfl rfl ?_
  refine GoR.end (Go.ret noJ_ok (ret_end (aResult_of Try.func86 rfl rfl) ⟨?_, x04.trans x5⟩))
  rw [foldl_add, Int.zero_add]
  rfl
end Go.Proofs.Ytidfcmjlfadieaa

namespace Go.Proofs.Ytidfcmjlfadieaa
open Go Go.AbsE
set_option maxRecDepth 100000
set_option linter.unusedVariables false
theorem zt3 : zeroT Try.prog 3 = some (.int .i64 0) := by kernel_rfl
theorem by3 : bytesT Try.prog 3 = some 8 := by kernel_rfl
theorem zt206 : zeroT Try.prog 206 = some (.agg [.nilslice, .int .i64 0, .int .i64 0, .int .i64 0]) := by kernel_rfl
theorem flds206 : ∃ fs, Try.prog.underlying 206 = some (.struct fs) ∧ placesT Try.prog fs.toList = some [(0, 1), (1, 1), (2, 1), (3, 1)] := ⟨_, Try.underlying206, by kernel_rfl⟩
def claimA (Ms : List MarkV) (a b o : Int) : Int → Int → Bool := fun p hd => !Ms.any (denyV p hd) && claimV a b o p hd
def claimsL (np nb : Int) (Ls : List LeaseV) (Ms : List MarkV) (a b : Int) : List Int := (List.range (nb.toNat + 1)).map fun o => cntV np nb Ls (claimA Ms a b (Int.ofNat o))
theorem claimsL_get {np nb : Int} {Ls : List LeaseV} {Ms : List MarkV} {a b : Int} {i : Nat} (hi : i < nb.toNat + 1) : (claimsL np nb Ls Ms a b)[i]? = some (cntV np nb Ls (claimA Ms a b (Int.ofNat i))) := by
  unfold claimsL
  rw [List.getElem?_map, List.getElem?_range hi]
  rfl
theorem claimsL_len {np nb : Int} {Ls : List LeaseV} {Ms : List MarkV} {a b : Int} : (claimsL np nb Ls Ms a b).length = nb.toNat + 1 := by
  unfold claimsL
  rw [List.length_map, List.length_range]
theorem one1_flat (L : List Int) : (L.map one1).flatten = L.map I64 := by
  induction L with
  | nil => rfl
  | cons a l ih => simp only [List.map_cons, List.flatten_cons, ih]; rfl

theorem claims_ok {np nb : Int} {Ls : List LeaseV} {Ms : List MarkV} (h1 : 1 ≤ np ∧ np ≤ 10) (hnb : 1 ≤ nb ∧ nb ≤ 4) (hL : Ls.length ≤ 4) (hM : Ms.length ≤ 100) (hLs : ∀ l, l ∈ Ls → inI64 (l.th - 1)) {s m : AVal} (hss : sameA s s = true) (hsm : sameA m m = true) (hmc : m.cells = [m]) (a b : Int) (h : AH)
    (hs : SliceOf h 5 s (Ls.map LeaseV.cells)) (hm : SliceOf h 2 m (Ms.map MarkV.cells)) :
    Runs Try.prog 129 [.agg [.int .i64 np, .int .i64 nb, s, m], .int .i64 a, .int .i64 b] h (fun en h' => ∃ v, en = .ret v ∧ Ext h h' ∧ SliceOf h' 1 v ((claimsL np nb Ls Ms a b).map one1)) := by
  obtain ⟨fs206, hu206, pl206⟩ := flds206
  refine Runs.intro aFunc129 rfl rfl rfl rfl fun rest => ?_
  refine Go.seq noJ_ok (Go.region noJ_ok rfl ?_)
  refine GoR.box rfl rfl rfl rfl rfl rfl fun h1' x1 f1 => ?_
  refine GoR.op rfl rfl rfl rfl ?_
  refine GoR.end (Go.seq noJ_ok (Go.region noJ_ok rfl ?_))
  refine GoR.op rfl rfl rfl rfl ?_
  refine GoR.end (Go.seq noJ_ok (Go.seq noJ_ok (Go.region noJ_ok rfl ?_)))
  refine GoR.op rfl rfl (fa92_1 rfl) rfl ?_
  refine GoR.op rfl rfl (ld3 rfl f1 rfl) rfl ?_
  have hn64 : inI64 (nb + 1) := by constructor <;> omega
  have hnn : nb + 1 = ((nb.toNat + 1 : Nat) : Int) := by omega
  refine GoR.op rfl rfl (aOp_add rfl rfl hn64 hnn) rfl ?_
  refine GoR.op rfl rfl rfl rfl ?_
  refine GoR.end (Go.block noJ_ok ?_)
  refine Go.keep [(1, .int .i64 a), (2, .int .i64 b), (3, .ptr h.next 0), (7, .nilslice), (12, .int .i64 ((nb.toNat + 1 : Nat) : Int)), (13, .int .i64 0)] ⟨rfl, rfl, rfl, rfl, rfl, rfl, trivial⟩ ?_
  refine Go.loopInv (fun n t h' => ∃ i s', n + i = nb.toNat + 1 ∧ t = keepT [(1, .int .i64 a), (2, .int .i64 b), (3, .ptr h.next 0), (7, s'), (12, .int .i64 ((nb.toNat + 1 : Nat) : Int)), (13, .int .i64 (Int.ofNat i))] ∧ Ext h1' h' ∧ Grow h' 3 1 h1'.next s' i (((claimsL np nb Ls Ms a b).take i).map I64)) (n := nb.toNat + 1) ⟨0, .nilslice, rfl, rfl, Ext.refl _, rfl, .inl ⟨rfl, rfl⟩⟩ ?_
  rintro n t h2 ⟨i, s', hn, rfl, x2, hg⟩ again
  refine Go.seq noJ_ok (Go.region noJ_ok rfl ?_)
  by_cases hi : i < nb.toNat + 1
  · refine GoR.op rfl rfl (aOp_lss rfl rfl (r := true) (by simp; omega)) rfl ?_
    refine GoR.end (Go.seq noJ_ok (Go.cond noJ_ok rfl (Go.code noJ_ok ?_)))
    refine Go.seq noJ_ok (Go.block noJ_ok (Go.seq noJ_ok (Go.region noJ_ok rfl ?_)))
    refine GoR.op rfl rfl rfl rfl ?_
    refine GoR.op rfl rfl rfl rfl ?_
    refine GoR.end (Go.seq noJ_ok (Go.region noJ_ok rfl ?_))
    have g1 := f1.ext x2
    refine GoR.op rfl rfl (ld92 rfl g1 rfl) rfl ?_
    refine GoR.op rfl rfl (fa92_3 rfl) rfl ?_
    refine GoR.op rfl rfl (ld90 rfl g1 rfl) rfl ?_
    refine GoR.op rfl rfl rfl rfl ?_
    refine GoR.op rfl rfl rfl rfl ?_
    refine GoR.op rfl rfl rfl rfl ?_
    refine GoR.op rfl rfl (aOp_build (ps := [(0, .agg [m]), (1, .int .i64 a), (2, .int .i64 b), (3, .int .i64 (Int.ofNat i))]) zt206 hu206 pl206 rfl rfl) rfl ?_
    refine GoR.op rfl rfl rfl rfl ?_
    refine GoR.call rfl rfl (aOp_callFunc aFunc86 rfl) (count_ok (A := claimA Ms a b (Int.ofNat i)) h1 hL hLs hss hsm rfl h2 (hs.ext (x1.trans x2)) (asks_claimed m Ms a b (Int.ofNat i) h2 hM (hm.ext (x1.trans x2)) hmc hsm)) ?_ (by rintro _ _ ⟨q, _⟩; cases q)
    rintro _ h3 ⟨q, x3⟩
    cases q
    refine ⟨_, rfl, ?_⟩
    refine GoR.op rfl rfl rfl rfl ?_
    refine GoR.end (Go.region noJ_ok rfl ?_)
    refine GoR.op rfl rfl rfl rfl ?_
    refine GoR.op rfl rfl rfl rfl ?_
    refine GoR.build1 rfl rfl rfl Try.underlying44 sz3 zt3 rfl rfl rfl rfl rfl rfl fun h5 x5 f5 => ?_
    refine GoR.append1 (h0 := h1') (s := s') (n := i) (cs := ((claimsL np nb Ls Ms a b).take i).map I64) rfl rfl rfl Try.underlying44 Try.underlying44 sz3 by3 zt3 rfl rfl rfl rfl f5 rfl rfl ((hg.ext x3).ext x5) (by omega) ((x2.trans x3).trans x5) rfl rfl fun s1 h6 x6 g6 => ?_
    refine GoR.op rfl rfl rfl rfl ?_
    refine GoR.end (Go.inBlock noJ_ok (Go.region noJ_ok rfl ?_))
    have hi64 : inI64 (Int.ofNat i + 1) := by constructor <;> simp <;> omega
    refine GoR.op rfl rfl (aOp_add rfl rfl hi64 rfl) rfl ?_
    refine GoR.op rfl rfl rfl rfl ?_
    refine GoR.end ?_
    refine Go.keep [(1, .int .i64 a), (2, .int .i64 b), (3, .ptr h.next 0), (7, s1), (12, .int .i64 ((nb.toNat + 1 : Nat) : Int)), (13, .int .i64 (Int.ofNat i + 1))] ⟨rfl, rfl, rfl, rfl, rfl, rfl, trivial⟩ ?_
    refine again (n - 1) _ _ (by omega) ⟨i + 1, s1, by omega, rfl, x6, ?_⟩
    rw [List.take_add_one, claimsL_get hi]
    simpa [AVal.cells, I64] using g6
  · refine GoR.op rfl rfl (aOp_lss rfl rfl (r := false) (by simp; omega)) rfl ?_
    refine GoR.end (Go.seq noJ_ok (Go.cond noJ_ok rfl (Go.code noJ_ok ?_)))
    refine Go.seq noJ_ok (Go.region noJ_ok rfl ?_)
    refine GoR.op rfl rfl rfl rfl ?_
    refine GoR.op rfl rfl rfl rfl ?_
    refine GoR.end (Go.ret noJ_ok (ret_end (aResult_of Try.func129 rfl rfl) ⟨s', rfl, x1.trans x2, ?_⟩))
    have : i = (claimsL np nb Ls Ms a b).length := by rw [claimsL_len]; omega
    subst this
    rw [List.take_length] at hg
    have hg2 := hg
    rw [← List.length_map (f := one1)] at hg2
    refine hg2.sliceOf ?_
    rw [← one1_flat]
    exact slice_flatten (L := (claimsL np nb Ls Ms a b).map one1) fun l hl => by
      obtain ⟨x, _, rfl⟩ := List.mem_map.1 hl
      rfl

/-! ask -/
def maxI (a x : Int) : Int := if a < x then x else a
def mostL (L : List Int) : Int := L.foldl maxI 0
def mostV (np nb : Int) (Ls : List LeaseV) (Ms : List MarkV) (p : Nat) : Int := mostL (claimsL np nb Ls Ms (Int.ofNat p) (Int.ofNat p))
def askF (np nb : Int) (Ls : List LeaseV) (Ms : List MarkV) : Nat → Int × Int
  | 0 => (0, 0)
  | k + 1 => if k = 0 ∨ mostV np nb Ls Ms k < (askF np nb Ls Ms k).2 then (Int.ofNat k, mostV np nb Ls Ms k) else askF np nb Ls Ms k
theorem ask_ok {np nb : Int} {Ls : List LeaseV} {Ms : List MarkV} (h1 : 1 ≤ np ∧ np ≤ 10) (hnb : 1 ≤ nb ∧ nb ≤ 4) (hL : Ls.length ≤ 4) (hM : Ms.length ≤ 100) (hLs : ∀ l, l ∈ Ls → inI64 (l.th - 1)) {s m : AVal} (hss : sameA s s = true) (hsm : sameA m m = true) (hmc : m.cells = [m]) (h : AH)
    (hs : SliceOf h 5 s (Ls.map LeaseV.cells)) (hm : SliceOf h 2 m (Ms.map MarkV.cells)) :
    Runs Try.prog 88 [.agg [.int .i64 np, .int .i64 nb, s, m]] h (fun en h' => en = .ret (.tuple [.int .i64 (askF np nb Ls Ms np.toNat).1, .int .i64 (askF np nb Ls Ms np.toNat).2]) ∧ Ext h h') := by
  refine Runs.intro aFunc88 rfl rfl rfl rfl fun rest => ?_
  refine Go.seq noJ_ok (Go.region noJ_ok rfl ?_)
  refine GoR.box rfl rfl rfl rfl rfl rfl fun h1' x1 f1 => ?_
  refine GoR.op rfl rfl rfl rfl ?_
  refine GoR.op rfl rfl rfl rfl ?_
  refine GoR.end (Go.seq noJ_ok (Go.seq noJ_ok (Go.region noJ_ok rfl ?_)))
  refine GoR.op rfl rfl (fa92_0 rfl) rfl ?_
  refine GoR.op rfl rfl (ld3 rfl f1 rfl) rfl ?_
  refine GoR.op rfl rfl rfl rfl ?_
  refine GoR.end (Go.block noJ_ok ?_)
  refine Go.keep [(1, .ptr h.next 0), (2, .int .i64 0), (3, .int .i64 0), (9, .int .i64 np), (10, .int .i64 0)] ⟨rfl, rfl, rfl, rfl, rfl, trivial⟩ ?_
  refine Go.loopInv (fun n t h' => ∃ i, n + i = np.toNat ∧ t = keepT [(1, .ptr h.next 0), (2, .int .i64 (askF np nb Ls Ms i).1), (3, .int .i64 (askF np nb Ls Ms i).2), (9, .int .i64 np), (10, .int .i64 (Int.ofNat i))] ∧ Ext h1' h') (n := np.toNat) ⟨0, rfl, rfl, Ext.refl _⟩ ?_
  rintro n t h2 ⟨i, hn, rfl, x2⟩ again
  refine Go.seq noJ_ok (Go.region noJ_ok rfl ?_)
  by_cases hi : i < np.toNat
  · refine GoR.op rfl rfl (aOp_lss rfl rfl (r := true) (by simp; omega)) rfl ?_
    refine GoR.end (Go.seq noJ_ok (Go.cond noJ_ok rfl (Go.code noJ_ok ?_)))
    refine Go.seq noJ_ok (Go.block noJ_ok (Go.seq noJ_ok (Go.region noJ_ok rfl ?_)))
    refine GoR.op rfl rfl rfl rfl ?_
    refine GoR.op rfl rfl rfl rfl ?_
    refine GoR.end (Go.seq noJ_ok (Go.region noJ_ok rfl ?_))
    refine GoR.op rfl rfl rfl rfl ?_
    refine GoR.end (Go.seq noJ_ok (Go.seq noJ_ok (Go.region noJ_ok rfl ?_)))
    have g1 := f1.ext x2
    refine GoR.op rfl rfl (ld92 rfl g1 rfl) rfl ?_
    refine GoR.op rfl rfl rfl rfl ?_
    refine GoR.op rfl rfl rfl rfl ?_
    refine GoR.call rfl rfl (aOp_callFunc aFunc129 rfl) (claims_ok (Ms := Ms) h1 hnb hL hM hLs hss hsm hmc (Int.ofNat i) (Int.ofNat i) h2 (hs.ext (x1.trans x2)) (hm.ext (x1.trans x2))) ?_ (by rintro _ _ ⟨_, q, _⟩; cases q)
    rintro _ h3 ⟨v, q, x3, gs⟩
    have q := (AEnd.ret.inj q).symm
    subst q
    refine ⟨_, rfl, ?_⟩
    refine GoR.op rfl rfl (aOp_lenSlice Try.underlying44 rfl gs.len) rfl ?_
    rw [List.length_map]
    refine GoR.op rfl rfl rfl rfl ?_
    refine GoR.end (Go.block noJ_ok ?_)
    let L := claimsL np nb Ls Ms (Int.ofNat i) (Int.ofNat i)
    refine Go.keep [(1, .ptr h.next 0), (2, .int .i64 (askF np nb Ls Ms i).1), (3, .int .i64 (askF np nb Ls Ms i).2), (4, .int .i64 (Int.ofNat i)), (5, .int .i64 0), (9, .int .i64 np), (10, .int .i64 (Int.ofNat i)), (16, v), (17, .int .i64 L.length), (18, .int .i64 0)] ⟨rfl, rfl, rfl, rfl, rfl, rfl, rfl, rfl, rfl, rfl, trivial⟩ ?_
    refine Go.loopInv (fun n2 t h' => ∃ j, n2 + j = L.length ∧ t = keepT [(1, .ptr h.next 0), (2, .int .i64 (askF np nb Ls Ms i).1), (3, .int .i64 (askF np nb Ls Ms i).2), (4, .int .i64 (Int.ofNat i)), (5, .int .i64 (mostL (L.take j))), (9, .int .i64 np), (10, .int .i64 (Int.ofNat i)), (16, v), (17, .int .i64 L.length), (18, .int .i64 (Int.ofNat j))] ∧ Ext h3 h') (n := L.length) ⟨0, rfl, rfl, Ext.refl _⟩ ?_
    rintro n2 t h4 ⟨j, hn2, rfl, x4⟩ again2
    refine Go.seq noJ_ok (Go.region noJ_ok rfl ?_)
    by_cases hj : j < L.length
    · refine GoR.op rfl rfl (aOp_lss rfl rfl (r := true) (by simp; omega)) rfl ?_
      refine GoR.end (Go.seq noJ_ok (Go.cond noJ_ok rfl (Go.code noJ_ok ?_)))
      refine Go.seq noJ_ok (Go.block noJ_ok (Go.seq noJ_ok (Go.region noJ_ok rfl ?_)))
      obtain ⟨y, hy⟩ : ∃ y, L[j]? = some y := ⟨L[j], by simp [hj]⟩
      have hy1 : (L.map one1)[j]? = some (one1 y) := by rw [List.getElem?_map, hy]; rfl
      obtain ⟨b, off, k1, k2⟩ := (gs.ext x4).at hy1
      rw [List.length_map] at k1
      refine GoR.op rfl rfl (aOp_indexAddr Try.underlying44 sz3 rfl k1 rfl (Nat.ble_eq_true_of_le hj)) rfl ?_
      refine GoR.op rfl rfl (aOp_loadE1 (k := 0) ag3 rfl k2 rfl) rfl ?_
      refine GoR.op rfl rfl rfl rfl ?_
      refine GoR.end (Go.region noJ_ok rfl ?_)
      refine GoR.op rfl rfl rfl rfl ?_
      refine GoR.op rfl rfl rfl rfl ?_
      refine GoR.op rfl rfl (aOp_max2 rfl rfl rfl) rfl ?_
      refine GoR.op rfl rfl rfl rfl ?_
      refine GoR.end (Go.inBlock noJ_ok (Go.region noJ_ok rfl ?_))
      have hj64 : inI64 (Int.ofNat j + 1) := by
        have : L.length = nb.toNat + 1 := claimsL_len
        constructor <;> simp <;> omega
      refine GoR.op rfl rfl (aOp_add rfl rfl hj64 rfl) rfl ?_
      refine GoR.op rfl rfl rfl rfl ?_
      refine GoR.end ?_
      have hmost : mostL (L.take (j + 1)) = if mostL (L.take j) < y then y else mostL (L.take j) := by
        unfold mostL
        rw [foldl_take_succ hy]
        rfl
      refine Go.keep [(1, .ptr h.next 0), (2, .int .i64 (askF np nb Ls Ms i).1), (3, .int .i64 (askF np nb Ls Ms i).2), (4, .int .i64 (Int.ofNat i)), (5, .int .i64 (if mostL (L.take j) < y then y else mostL (L.take j))), (9, .int .i64 np), (10, .int .i64 (Int.ofNat i)), (16, v), (17, .int .i64 L.length), (18, .int .i64 (Int.ofNat j + 1))] ⟨rfl, rfl, rfl, rfl, rfl, rfl, rfl, rfl, rfl, rfl, trivial⟩ ?_
      exact again2 (n2 - 1) _ _ (by omega) ⟨j + 1, by omega, by rw [hmost]; rfl, x4⟩
    · refine GoR.op rfl rfl (aOp_lss rfl rfl (r := false) (by simp; omega)) rfl ?_
      refine GoR.end (Go.seq noJ_ok (Go.cond noJ_ok rfl (Go.code noJ_ok ?_)))
      have hjl : j = L.length := by omega
      have hm0 : mostL (L.take j) = mostV np nb Ls Ms i := by rw [hjl, List.take_length]; rfl
      rw [hm0]
      have hi64 : inI64 (Int.ofNat i + 1) := by constructor <;> simp <;> omega
      have hab : askF np nb Ls Ms (i + 1) = if i = 0 ∨ mostV np nb Ls Ms i < (askF np nb Ls Ms i).2 then (Int.ofNat i, mostV np nb Ls Ms i) else askF np nb Ls Ms i := rfl
      refine Go.seq noJ_ok (Go.region noJ_ok rfl ?_)
      refine GoR.op rfl rfl rfl rfl ?_
      by_cases e0 : i = 0
      · refine GoR.op rfl rfl (aOp_eql rfl rfl (r := true) (by simp [e0])) rfl ?_
        refine GoR.op rfl rfl rfl rfl ?_
        refine GoR.skip rfl rfl rfl ?_
        refine GoR.skip rfl rfl rfl ?_
        refine GoR.skip rfl rfl rfl ?_
        refine GoR.op rfl rfl rfl rfl ?_
        refine GoR.end (Go.cond noJ_ok (b := true) rfl (Go.region noJ_ok rfl ?_))
        refine GoR.op rfl rfl rfl rfl ?_
        refine GoR.op rfl rfl rfl rfl ?_
        refine GoR.op rfl rfl rfl rfl ?_
        refine GoR.op rfl rfl rfl rfl ?_
        refine GoR.end (Go.inBlock noJ_ok (Go.region noJ_ok rfl ?_))
        refine GoR.op rfl rfl (aOp_add rfl rfl hi64 rfl) rfl ?_
        refine GoR.op rfl rfl rfl rfl ?_
        refine GoR.end ?_
        rw [if_pos (.inl e0)] at hab
        refine Go.keep [(1, .ptr h.next 0), (2, .int .i64 (Int.ofNat i)), (3, .int .i64 (mostV np nb Ls Ms i)), (9, .int .i64 np), (10, .int .i64 (Int.ofNat i + 1))] ⟨rfl, rfl, rfl, rfl, rfl, trivial⟩ ?_
        exact again (n - 1) _ _ (by omega) ⟨i + 1, by omega, by rw [hab]; rfl, (x2.trans x3).trans x4⟩
      · refine GoR.op rfl rfl (aOp_eql rfl rfl (r := false) (by simp [e0])) rfl ?_
        refine GoR.op rfl rfl rfl rfl ?_
        refine GoR.op rfl rfl rfl rfl ?_
        refine GoR.op rfl rfl rfl rfl ?_
        by_cases e1 : mostV np nb Ls Ms i < (askF np nb Ls Ms i).2
        · refine GoR.op rfl rfl (aOp_lss rfl rfl (r := true) (by simp [e1])) rfl ?_
          refine GoR.op rfl rfl rfl rfl ?_
          refine GoR.end (Go.cond noJ_ok (b := true) rfl (Go.region noJ_ok rfl ?_))
          refine GoR.op rfl rfl rfl rfl ?_
          refine GoR.op rfl rfl rfl rfl ?_
          refine GoR.op rfl rfl rfl rfl ?_
          refine GoR.op rfl rfl rfl rfl ?_
          refine GoR.end (Go.inBlock noJ_ok (Go.region noJ_ok rfl ?_))
          refine GoR.op rfl rfl (aOp_add rfl rfl hi64 rfl) rfl ?_
          refine GoR.op rfl rfl rfl rfl ?_
          refine GoR.end ?_
          rw [if_pos (.inr e1)] at hab
          refine Go.keep [(1, .ptr h.next 0), (2, .int .i64 (Int.ofNat i)), (3, .int .i64 (mostV np nb Ls Ms i)), (9, .int .i64 np), (10, .int .i64 (Int.ofNat i + 1))] ⟨rfl, rfl, rfl, rfl, rfl, trivial⟩ ?_
          exact again (n - 1) _ _ (by omega) ⟨i + 1, by omega, by rw [hab]; rfl, (x2.trans x3).trans x4⟩
        · refine GoR.op rfl rfl (aOp_lss rfl rfl (r := false) (by simp [e1])) rfl ?_
          refine GoR.op rfl rfl rfl rfl ?_
          refine GoR.end (Go.cond noJ_ok (b := false) rfl (Go.code noJ_ok ?_))
          refine Go.inBlock noJ_ok (Go.region noJ_ok rfl ?_)
          refine GoR.op rfl rfl (aOp_add rfl rfl hi64 rfl) rfl ?_
          refine GoR.op rfl rfl rfl rfl ?_
          refine GoR.end ?_
          rw [if_neg (fun q => q.elim e0 e1)] at hab
          refine Go.keep [(1, .ptr h.next 0), (2, .int .i64 ((askF np nb Ls Ms i).1)), (3, .int .i64 ((askF np nb Ls Ms i).2)), (9, .int .i64 np), (10, .int .i64 (Int.ofNat i + 1))] ⟨rfl, rfl, rfl, rfl, rfl, trivial⟩ ?_
          exact again (n - 1) _ _ (by omega) ⟨i + 1, by omega, by rw [hab]; rfl, (x2.trans x3).trans x4⟩
  · refine GoR.op rfl rfl (aOp_lss rfl rfl (r := false) (by simp; omega)) rfl ?_
    refine GoR.end (Go.seq noJ_ok (Go.cond noJ_ok rfl (Go.code noJ_ok ?_)))
    have : i = np.toNat := by omega
    subst this
    refine Go.seq noJ_ok (Go.region noJ_ok rfl ?_)
    refine GoR.op rfl rfl rfl rfl ?_
    refine GoR.op rfl rfl rfl rfl ?_
    refine GoR.op rfl rfl rfl rfl ?_
    refine GoR.op rfl rfl rfl rfl ?_
    exact GoR.end (Go.ret noJ_ok (ret_end (aResult_of Try.func88 rfl rfl) ⟨rfl, x1.trans x2⟩))
end Go.Proofs.Ytidfcmjlfadieaa

namespace Go.Proofs.Ytidfcmjlfadieaa
open Go Go.AbsE
set_option linter.unusedVariables false

/-! A search, as lists. -/
section
variable (S : Sv) (s0 : Pr)
def ProcV (seen : List Pr) (p : Pr) : Prop := ∀ q, q ∈ S.nx p → doneV S.np q.1 = false ∧ (S.suits q = true → q ∈ seen)
/-- A progress that is worth a look. -/
structure GoodV (p : Pr) : Prop where
  at_ : S.At p
  nd : doneV S.np p.1 = false
  reach : canV S (S.rem p) p = true → canV S (S.rem s0) s0 = true
def mesV : List Pr → Nat
  | [] => 0
  | p :: l => 17 ^ S.rem p + mesV l
structure InvV (op seen : List Pr) : Prop where
  good : ∀ p, p ∈ op → GoodV S s0 p
  goodS : ∀ p, p ∈ seen → GoodV S s0 p
  all : ∀ x, (x = s0 ∨ x ∈ seen) → x ∈ op ∨ ProcV S seen x
  pos : ∀ j p, op[j]? = some p → j ≤ 16 * p.1.toNat
/-- In between: so many of the progresses behind p have been looked at. -/
structure MidV (p : Pr) (base : List Pr) (k : Nat) (op seen : List Pr) : Prop where
  good : ∀ p, p ∈ op → GoodV S s0 p
  goodS : ∀ p, p ∈ seen → GoodV S s0 p
  all : ∀ x, (x = s0 ∨ x ∈ seen) → x ∈ op ∨ ProcV S seen x ∨ x = p
  part : ∀ q, q ∈ (S.nx p).take k → doneV S.np q.1 = false ∧ (S.suits q = true → q ∈ seen)
  pos : ∀ j p, op[j]? = some p → j ≤ 16 * p.1.toNat
  len : op.length ≤ base.length + k
  mes : mesV S op ≤ mesV S base + k * 17 ^ (S.rem p - 1)
variable {S s0}
theorem mesV_append : ∀ {l m : List Pr}, mesV S (l ++ m) = mesV S l + mesV S m := by
  intro l m
  induction l with
  | nil => simp [mesV]
  | cons a l ih => simp only [List.cons_append, mesV, ih]; omega
theorem InvV.fresh (h : GoodV S s0 s0) : InvV S s0 [s0] [] where
  good := fun p hp => by simp at hp; subst hp; exact h
  goodS := fun p hp => by cases hp
  all := fun x hx => by
    rcases hx with rfl | hx
    · exact .inl (by simp)
    · cases hx
  pos := fun j p hp => by
    cases j with
    | zero => omega
    | succ j => simp at hp
theorem InvV.pop {base : List Pr} {p : Pr} {seen : List Pr} (h : InvV S s0 (base ++ [p]) seen) : MidV S s0 p base 0 base seen where
  good := fun x hx => h.good x (by simp [hx])
  goodS := h.goodS
  all := fun x hx => by
    rcases h.all x hx with q | q
    · simp at q
      rcases q with q | q
      · exact .inl q
      · exact .inr (.inr q)
    · exact .inr (.inl q)
  part := fun q hq => by simp at hq
  pos := fun j x hx => h.pos j x (by rw [List.getElem?_append_left (List.getElem?_eq_some_iff.1 hx).1]; exact hx)
  len := by omega
  mes := by simp
theorem InvV.popLen {base : List Pr} {p : Pr} {seen : List Pr} (h : InvV S s0 (base ++ [p]) seen) : base.length ≤ 16 * p.1.toNat := h.pos base.length p (by simp)
theorem ProcV.mono {seen seen' : List Pr} (hs : ∀ x, x ∈ seen → x ∈ seen') {p : Pr} (h : ProcV S seen p) : ProcV S seen' p := fun q hq => ⟨(h q hq).1, fun k => hs _ ((h q hq).2 k)⟩
theorem take_succ_mem {α : Type} {l : List α} {k : Nat} {q x : α} (h : l[k]? = some q) (hx : x ∈ l.take (k + 1)) : x ∈ l.take k ∨ x = q := by
  rw [List.take_add_one, h] at hx
  simpa using hx
/-- The next one is passed over. -/
theorem MidV.skip {p : Pr} {base op seen : List Pr} {k : Nat} {q : Pr} (h : MidV S s0 p base k op seen) (hq : (S.nx p)[k]? = some q) (hd : doneV S.np q.1 = false) (hs : S.suits q = true → q ∈ seen) : MidV S s0 p base (k + 1) op seen where
  good := h.good
  goodS := h.goodS
  all := h.all
  part := fun x hx => (take_succ_mem hq hx).elim (h.part x) fun e => e ▸ ⟨hd, hs⟩
  pos := h.pos
  len := by have := h.len; omega
  mes := by have := h.mes; rw [Nat.add_mul]; omega
/-- The next one is put on. -/
theorem MidV.push {p : Pr} {base op seen : List Pr} {k : Nat} {q : Pr} (h : MidV S s0 p base k op seen) (hp : GoodV S s0 p) (hb : base.length ≤ 16 * p.1.toNat) (hk : k < 16) (hq : (S.nx p)[k]? = some q) (hd : doneV S.np q.1 = false) (hs : S.suits q = true) :
    MidV S s0 p base (k + 1) (op ++ [q]) (q :: seen) := by
  have hqm := List.mem_of_getElem? hq
  obtain ⟨q1, q2⟩ := S.rem_nx hp.at_ hp.nd hqm
  have hg : GoodV S s0 q := ⟨q1, hd, fun c => hp.reach (by rw [q2]; exact List.any_eq_true.2 ⟨q, hqm, by rw [hs, c]; rfl⟩)⟩
  have hln := (passP_mem hp.at_.st hqm).1
  have hp0 := hp.at_.ln
  refine ⟨fun x hx => ?_, fun x hx => ?_, fun x hx => ?_, fun x hx => ?_, fun j x hx => ?_, ?_, ?_⟩
  · rw [List.mem_append] at hx
    rcases hx with hx | hx
    · exact h.good x hx
    · simp at hx; subst hx; exact hg
  · cases hx with
    | head => exact hg
    | tail _ hx => exact h.goodS x hx
  · have old : (x = s0 ∨ x ∈ seen) → x ∈ op ++ [q] ∨ ProcV S (q :: seen) x ∨ x = p := fun k => by
      rcases h.all x k with k | k | k
      · exact .inl (by simp [k])
      · exact .inr (.inl (k.mono fun _ hx => by simp [hx]))
      · exact .inr (.inr k)
    rcases hx with hx | hx
    · exact old (.inl hx)
    · cases hx with
      | head => exact .inl (by simp)
      | tail _ hx => exact old (.inr hx)
  · rcases take_succ_mem hq hx with k | rfl
    · obtain ⟨a, b⟩ := h.part x k
      exact ⟨a, fun s => by simp [b s]⟩
    · exact ⟨hd, fun _ => by simp⟩
  · by_cases hj : j < op.length
    · rw [List.getElem?_append_left hj] at hx; exact h.pos j x hx
    · rw [List.getElem?_append_right (by omega)] at hx
      have hj0 : j - op.length = 0 := by
        cases hjj : j - op.length with
        | zero => rfl
        | succ m => rw [hjj] at hx; simp at hx
      rw [hj0] at hx
      simp at hx
      subst hx
      have := h.len
      rw [hln]
      omega
  · rw [List.length_append, List.length_singleton]; have := h.len; omega
  · rw [mesV_append, Nat.add_mul]
    have := h.mes
    have e : S.rem q = S.rem p - 1 := by omega
    simp only [mesV, e]
    omega
/-- All behind p have been looked at. -/
theorem MidV.full {p : Pr} {base op seen : List Pr} {k : Nat} (h : MidV S s0 p base k op seen) (hk : (S.nx p).length = k) : InvV S s0 op seen where
  good := h.good
  goodS := h.goodS
  all := fun x hx => by
    rcases h.all x hx with q | q | rfl
    · exact .inl q
    · exact .inr q
    · refine .inr fun q hq => h.part q ?_
      rw [← hk, List.take_length]
      exact hq
  pos := h.pos
theorem MidV.less {p : Pr} {base op seen : List Pr} {k : Nat} (h : MidV S s0 p base k op seen) (hk : k ≤ 16) (hp : GoodV S s0 p) : mesV S op < mesV S (base ++ [p]) := by
  rw [mesV_append]
  have := h.mes
  obtain ⟨h1, _⟩ := S.rem_pos hp.at_ hp.nd
  have e : S.rem p = (S.rem p - 1) + 1 := by omega
  have : k * 17 ^ (S.rem p - 1) ≤ 16 * 17 ^ (S.rem p - 1) := Nat.mul_le_mul_right _ hk
  have p1 : 0 < 17 ^ (S.rem p - 1) := Nat.pow_pos (by decide)
  simp only [mesV]
  rw [e, Nat.pow_succ]
  have e2 : S.rem p - 1 + 1 - 1 = S.rem p - 1 := by omega
  omega
/-- One is found. -/
theorem found_can {p q : Pr} (hp : GoodV S s0 p) (hq : q ∈ S.nx p) (hd : doneV S.np q.1 = true) : canV S (S.rem s0) s0 = true := by
  obtain ⟨q1, q2⟩ := S.rem_nx hp.at_ hp.nd hq
  have e := (S.rem_zero q1).2 hd
  refine hp.reach ?_
  rw [q2, e]
  refine List.any_eq_true.2 ⟨q, hq, ?_⟩
  have : S.suits q = true := by unfold Sv.suits suitsV; rw [hd]; rfl
  rw [this]
  rfl
/-- None is left. -/
theorem none_can {seen : List Pr} (h : InvV S s0 [] seen) (hs : GoodV S s0 s0) : canV S (S.rem s0) s0 = false := by
  have key : ∀ (r : Nat) (p : Pr), (p = s0 ∨ p ∈ seen) → S.rem p = r → canV S r p = false := by
    intro r
    induction r with
    | zero =>
      intro p hp hr
      have g : GoodV S s0 p := hp.elim (fun e => e ▸ hs) (h.goodS p)
      have := (S.rem_zero g.at_).1 hr
      rw [g.nd] at this
      cases this
    | succ r ih =>
      intro p hp hr
      have g : GoodV S s0 p := hp.elim (fun e => e ▸ hs) (h.goodS p)
      have hproc : ProcV S seen p := (h.all p hp).elim (fun q => by cases q) id
      show ((S.nx p).any fun q => S.suits q && canV S r q) = false
      refine List.any_eq_false.2 fun q hq => ?_
      obtain ⟨a, b⟩ := hproc q hq
      cases e : S.suits q with
      | false => simp
      | true =>
        have := (S.rem_nx g.at_ g.nd hq).2
        rw [ih q (.inr (b e)) (by omega)]
        simp
  exact key _ s0 (.inl rfl) rfl
theorem InvV.small {op seen : List Pr} (h : InvV S s0 op seen) (hS : S.Ok) : op.length ≤ 177 := by
  cases hl : op.length with
  | zero => omega
  | succ n =>
    obtain ⟨p, hp⟩ : ∃ p, op[n]? = some p := ⟨op[n]'(by omega), by simp⟩
    have h1 := h.pos n p hp
    have h2 := (h.good p (List.mem_of_getElem? hp)).at_.ln
    have := hS.np
    omega
theorem MidV.small {p : Pr} {base op seen : List Pr} {k : Nat} (h : MidV S s0 p base k op seen) (hS : S.Ok) : op.length ≤ 177 := by
  cases hl : op.length with
  | zero => omega
  | succ n =>
    obtain ⟨p, hp⟩ : ∃ p, op[n]? = some p := ⟨op[n]'(by omega), by simp⟩
    have h1 := h.pos n p hp
    have h2 := (h.good p (List.mem_of_getElem? hp)).at_.ln
    have := hS.np
    omega
end
end Go.Proofs.Ytidfcmjlfadieaa

namespace Go.Proofs.Ytidfcmjlfadieaa
open Go Go.AbsE
set_option maxRecDepth 100000
set_option linter.unusedVariables false
theorem zt145 : zeroT Try.prog 145 = some .nilmap := by kernel_rfl
theorem zt150 : zeroT Try.prog 150 = some .nilslice := by kernel_rfl
theorem by149 : bytesT Try.prog 149 = some 40 := by kernel_rfl

/-- A loop, by what is true at each of its rounds; what is deferred may grow. -/
theorem loopInvD {fn n : Nat} {dk : Bool} {rd : Option Nat} {rst : List AFr} {k : List AItem} {Q : AM → Prop} {x : Code} {ds : List ADef} {t : Tr AVal} {h : AH} (I : Nat → List ADef → Tr AVal → AH → Prop) {m : Nat} (h0 : I m ds t h)
    (step : ∀ m ds t h, I m ds t h → (∀ m' ds' t' h', m' < m → I m' ds' t' h' → Go Try.prog ⟨fn, n, ds', dk, rd, rst⟩ (.inLoop x :: k) t' h' Q) → Go Try.prog ⟨fn, n, ds, dk, rd, rst⟩ (.code x :: .inLoop x :: k) t h Q) :
    Go Try.prog ⟨fn, n, ds, dk, rd, rst⟩ (.code (.loop x) :: k) t h Q := by
  have all : ∀ m ds t h, I m ds t h → Go Try.prog ⟨fn, n, ds, dk, rd, rst⟩ (.code x :: .inLoop x :: k) t h Q := by
    intro m
    induction m using Nat.strongRecOn with
    | ind m ih => exact fun ds t h hi => step m ds t h hi fun m' ds' t' h' hm hi' => Go.inLoop noJ_ok (ih m' hm ds' t' h' hi')
  exact Go.loop noJ_ok (all m ds t h h0)

/-- What loops left to be done: nothing. -/
def Coll (lo : Nat) (ds : List ADef) (h : AH) : Prop := ∃ bs : List Nat, ds = bs.map ADef.collected ∧ bs.Nodup ∧ ∀ b, b ∈ bs → lo ≤ b ∧ Has h b (.deferred (some []))
theorem Coll.same {lo : Nat} {ds : List ADef} {h h' : AH} (k : Coll lo ds h) (hn : h.next ≤ h'.next) (e : ∀ b, Has h b (.deferred (some [])) → h'.get b = h.get b) : Coll lo ds h' := by
  obtain ⟨bs, k1, k2, k3⟩ := k
  exact ⟨bs, k1, k2, fun b hb => ⟨(k3 b hb).1, Nat.lt_of_lt_of_le (k3 b hb).2.1 hn, by rw [e b (k3 b hb).2]; exact (k3 b hb).2.2⟩⟩
theorem Coll.cons {lo : Nat} {ds : List ADef} {h h' : AH} {d : Nat} (k : Coll lo ds h) (hd : h.next ≤ d) (hn : h.next ≤ h'.next) (e : ∀ b, Has h b (.deferred (some [])) → h'.get b = h.get b) (hl : lo ≤ d) (fd : Has h' d (.deferred (some []))) : Coll lo (.collected d :: ds) h' := by
  obtain ⟨bs, k1, k2, k3⟩ := k
  refine ⟨d :: bs, by rw [k1]; rfl, List.nodup_cons.2 ⟨fun q => absurd (k3 d q).2.1 (by omega), k2⟩, fun b hb => ?_⟩
  cases hb with
  | head => exact ⟨hl, fd⟩
  | tail _ hb => exact ⟨(k3 b hb).1, Nat.lt_of_lt_of_le (k3 b hb).2.1 hn, by rw [e b (k3 b hb).2]; exact (k3 b hb).2.2⟩
theorem FLeft.colls {f n : Nat} {dk : Bool} {rd : Option Nat} {rest : List AFr} {t : Tr AVal} {Q : AM → Prop} {mode : AMode} {lo : Nat} (hm : mode ≠ .run) : ∀ {ds : List ADef} {h : AH}, Coll lo ds h → (∀ h', h'.next = h.next → (∀ b, b < lo → h'.get b = h.get b) → FLeft Try.prog ⟨f, n, [], dk, rd, rest⟩ mode t h' Q) → FLeft Try.prog ⟨f, n, ds, dk, rd, rest⟩ mode t h Q := by
  intro ds h ⟨bs, k1, k2, k3⟩
  subst k1
  induction bs generalizing h with
  | nil => intro g; exact g h rfl fun _ _ => rfl
  | cons b bs ih =>
    intro g
    obtain ⟨n1, n2⟩ := List.nodup_cons.1 k2
    refine FLeft.collected (ds := bs.map ADef.collected) hm (k3 b (by simp)).2 fun h' u => ?_
    refine ih n2 (fun c hc => ⟨(k3 c (by simp [hc])).1, (k3 c (by simp [hc])).2.upd u (fun e => n1 (e ▸ hc))⟩) fun h2 e1 e2 => g h2 (by rw [e1, u.1]) fun c hc => by
      have := (k3 b (by simp)).1
      rw [e2 c hc, u.2.2 c (by omega)]

structure PossMem (S : Sv) (s m av : AVal) (bg ba bm bk c6 c7 : Nat) (opn seen : List Pr) (v : AVal) (b : Nat) (h : AH) : Prop where
  g : Has h bg (.cells .plain [.int .i64 S.np, .int .i64 S.nb, s, m] 92)
  a : Has h ba (.cells .plain [av] 144)
  k : Has h bk (.cells .plain [.map bm] 145)
  c : Has h c6 (.cells .plain [v] 150)
  o : OpenS h 149 5 v (opn.map prC) b
  mp : ∃ es c f, Has h bm (.map es c) ∧ MapOf es f ∧ Four f ∧ (∀ x, x ∈ f → x.2 = .bool true) ∧ ∀ k, (∃ w, (k, w) ∈ f) ↔ k ∈ seen
  ord : bg < ba ∧ ba < bm ∧ bm < bk ∧ bk < c6 ∧ c6 < c7
  nb : b ≠ bg ∧ b ≠ ba ∧ b ≠ bm ∧ b ≠ bk ∧ b ≠ c6 ∧ b ≠ c7
variable {S : Sv} {s m av : AVal} {bg ba bm bk c6 c7 b : Nat} {opn seen : List Pr} {v : AVal} {h h' : AH}
/-- Nothing of it is changed. -/
theorem PossMem.same (I : PossMem S s m av bg ba bm bk c6 c7 opn seen v b h) (hn : h.next ≤ h'.next) (e : ∀ x, x < h.next → (x = bg ∨ x = ba ∨ x = bm ∨ x = bk ∨ x = c6 ∨ x = b) → h'.get x = h.get x) : PossMem S s m av bg ba bm bk c6 c7 opn seen v b h' := by
  have hh : ∀ {x o}, Has h x o → (x = bg ∨ x = ba ∨ x = bm ∨ x = bk ∨ x = c6 ∨ x = b) → Has h' x o := fun q w => ⟨Nat.lt_of_lt_of_le q.1 hn, by rw [e _ q.1 w]; exact q.2⟩
  obtain ⟨es, c, f, k1, k2⟩ := I.mp
  exact ⟨hh I.g (by simp), hh I.a (by simp), hh I.k (by simp), hh I.c (by simp), I.o.same hn (e b I.o.lt (by simp)), ⟨es, c, f, hh k1 (by simp), k2⟩, I.ord, I.nb⟩
theorem PossMem.ext (I : PossMem S s m av bg ba bm bk c6 c7 opn seen v b h) (x : Ext h h') : PossMem S s m av bg ba bm bk c6 c7 opn seen v b h' := I.same x.1 fun b hb _ => x.2 b hb
theorem Sv.start_good {S : Sv} (hS : S.Ok) : GoodV S p0 p0 := ⟨S.at0 hS, by unfold doneV p0; simp; have := hS.np; omega, id⟩
theorem all5 {l : List Pr} (h : ∀ p, p ∈ l → p.2.length = 4) : ∀ x, x ∈ l.map prC → x.length = 5 := by
  intro x hx
  obtain ⟨p, hp, rfl⟩ := List.mem_map.1 hx
  simp [prC, h p hp]
theorem mem_pr {f : List ((Int × List Int) × AVal)} {k : Pr} {w : AVal} (h : findK k f = some w) : ∃ w, (k, w) ∈ f := ⟨w, findK_mem h⟩
end Go.Proofs.Ytidfcmjlfadieaa
