import Derived.Test.YtmdheijpnlonoaaMAQ
import Derived.KernelRfl
import Derived.Test.YtmdheijpnlonoaaMAO
import Derived.Test.YtmdheijpnlonoaaMAH
namespace Go.Proofs.Ytmdheijpnlonoaa
open Go Go.AbsE
set_option linter.unusedSimpArgs false
set_option maxRecDepth 100000
set_option maxHeartbeats 0
set_option linter.unusedVariables false
theorem drawX {bs : List Int} (hbs : ∀ x, x ∈ bs → 0 ≤ x ∧ x < 65536) {s : AVal} {ba bb : Nat} {n lo hi : Int} {h g : AH} (fa : Has h ba (.cells .plain [.int .i64 n] 3)) (fb : Has h bb (.cells .plain [s] 47)) (eg : Ext g h) (hab : ba ≠ bb) (hs : SliceOf g 1 s (u16s bs)) (hga : g.next ≤ ba) (hlen : bs.length < 9223372036854775808) (hn : 0 ≤ n ∧ n ≤ 1000) (hl : 0 ≤ lo ∧ lo ≤ hi ∧ hi ≤ 1000) :
    Runs Try.prog 61 [.agg [.int .i64 lo, .int .i64 hi], .ptr ba 0, .ptr bb 0] h (fun en h' => ∃ v, en = .ret (.int .i64 v) ∧ lo ≤ v ∧ v ≤ hi ∧ ExtF (fun b => b = ba) h h' ∧ Has h' ba (.cells .plain [.int .i64 (n + 1)] 3)) :=
  draw61_ok hbs s ba bb n lo hi hn hl h fa fb hab hs eg hga hlen
theorem grow_extF {S : Nat → Prop} {h h' : AH} {el : TypeId} {sz lo : Nat} {s : AVal} {n : Nat} {cs : List AVal} (k : Grow h el sz lo s n cs) (e : ExtF S h h') (hS : ∀ b, S b → b < lo) : Grow h' el sz lo s n cs := by
  obtain ⟨k1, k2⟩ := k
  refine ⟨k1, ?_⟩
  rcases k2 with k2 | ⟨h0, b, h1, h2, h3⟩
  · exact .inl k2
  · exact .inr ⟨h0, b, h1, h2, h3.extF e (fun q => by have := hS b q; omega)⟩
theorem fs_more {α : Type} {hs : List α} {lo hi : α → Int} {fs : List Int} (H : ∀ (k : Nat) x w, hs[k]? = some x → fs[k]? = some w → lo x ≤ w ∧ w ≤ hi x) {i : Nat} (hl : fs.length = i) {x : α} (hx : hs[i]? = some x) {w : Int} (hw : lo x ≤ w ∧ w ≤ hi x) :
    ∀ (k : Nat) y v, hs[k]? = some y → (fs ++ [w])[k]? = some v → lo y ≤ v ∧ v ≤ hi y := by
  intro k y v q1 q2
  by_cases hk : k < fs.length
  · rw [List.getElem?_append_left hk] at q2
    exact H k y v q1 q2
  · rw [List.getElem?_append_right (by omega)] at q2
    have hk2 : k = i := by
      rcases Nat.lt_or_ge (k - fs.length) 1 with h1 | h1
      · omega
      · rw [List.getElem?_eq_none (by simpa using h1)] at q2
        cases q2
    subst hk2
    rw [hl, Nat.sub_self] at q2
    cases q2
    rw [hx] at q1
    cases q1
    exact hw
theorem nums_sl {h : AH} {lo : Nat} {s : AVal} {l : List Int} {n : Nat} (hn : l.length = n) (G : Grow h 3 1 lo s n (i64s l)) : SliceOf h 1 s (l.map fun x => [AVal.int .i64 x]) := by
  refine Grow.sliceOf (L := l.map fun x => [AVal.int .i64 x]) (cs := i64s l) (by rw [List.length_map, hn]; exact G) fun i v q => ?_
  unfold i64s
  rw [← flat_one]
  exact flat_slice (f := fun x : Int => [AVal.int .i64 x]) (sz := 1) (fun _ => rfl) q
theorem scan_bnd2 (a b c : Int) (p : Nat) : ∀ (rs : List Int) (w v : Int), v ∈ scan a b c p rs w → 0 ≤ v ∧ v ≤ 100
  | [], _, _, q => by simp [scan] at q
  | r :: rs, w, v, q => by
    unfold scan at q
    rcases List.mem_cons.1 q with q | q
    · rw [q]; exact ev1_in _ _ _ _ _ _
    · exact scan_bnd2 a b c p rs _ v q
def LookTrue (F : FieldV) (fs rl : List Int) (l : LookV) : Prop :=
  0 ≤ l.heap ∧ l.heap < F.hs.length ∧ 0 ≤ l.day ∧ l.day < F.rs.length ∧ 0 ≤ l.lo ∧ l.lo ≤ l.hi ∧ l.hi ≤ 100 ∧ ∃ x w n, F.hs[l.heap.toNat]? = some x ∧ fs[l.heap.toNat]? = some w ∧ (scan F.a F.b F.c x.p.toNat rl w)[l.day.toNat]? = some n ∧ l.lo ≤ n ∧ n ≤ l.hi
theorem truly24_ok {F : FieldV} (O : F.Ok) {bs : List Int} (hbs : ∀ x, x ∈ bs → 0 ≤ x ∧ x < 65536) (hlen : bs.length < 9223372036854775808) (s : AVal) (ba bb : Nat) (hab : ba ≠ bb) {g : AH} (hs : SliceOf g 1 s (u16s bs)) (hga : g.next ≤ ba) (hgb : g.next ≤ bb) (hsl rsl lsl : AVal) (A : FieldAt g F hsl rsl lsl) (h : AH) (eg : Ext g h) (fa : Has h ba (.cells .plain [.int .i64 0] 3)) (fb : Has h bb (.cells .plain [s] 47)) :
    Runs Try.prog 24 [.agg (F.cells hsl rsl lsl), .func (.func 61) [] [.ptr ba 0, .ptr bb 0]] h (fun en h' => ∃ (sw sb sc : AVal) (sls : List AVal) (fs rl : List Int) (ls : List LookV), en = .ret (.tuple [.agg [hsl, rsl, .int .i64 F.a, .int .i64 F.b, .int .i64 F.c, .int .i64 F.lim, sc], sw, sb]) ∧ ExtF (fun b => b = ba) h h' ∧ fs.length = F.hs.length ∧ (∀ (k : Nat) x w, F.hs[k]? = some x → fs[k]? = some w → x.lo ≤ w ∧ w ≤ x.hi) ∧ rl.length = F.rs.length ∧ (∀ (k : Nat) x w, F.rs[k]? = some x → rl[k]? = some w → x.1 ≤ w ∧ w ≤ x.2)
      ∧ ls.length ≤ 5 ∧ (∀ l, l ∈ ls → LookTrue F fs rl l) ∧ Grow h' 59 4 h.next sc ls.length (ls.flatMap LookV.cells) ∧ Grow h' 3 1 h.next sb F.rs.length (i64s rl) ∧ sls.length = F.hs.length ∧ Grow h' 50 1 h.next sw F.hs.length sls ∧ WetG h' h.next F fs rl sls) := by
  have hl1 := A.hs.len
  have hl2 := A.rs.len
  rw [List.length_map] at hl1 hl2
  have hnh := O.nh
  have hnr := O.nr
  have G0 := eg
  have hsm := cells_same A
  unfold FieldV.cells fieldC at hsm ⊢
  refine Runs.intro aFunc24 rfl rfl rfl rfl fun rest => ?_
  refine Go.seq noJ_ok ?_
  refine Go.region noJ_ok rfl ?_
  refine GoR.box rfl rfl rfl rfl rfl rfl fun h0 x0 f0 => ?_
  have := eg.1
  have := fa.1
  have := fb.1
  replace fa := fa.ext x0
  replace fb := fb.ext x0
  replace eg := eg.trans x0
  have := f0.1
  refine GoR.alloc rfl rfl rfl zt27 rfl rfl fun h1 x1 f1 => ?_
  have := eg.1
  have := f0.1
  have := fa.1
  have := fb.1
  replace f0 := f0.ext x1
  replace fa := fa.ext x1
  replace fb := fb.ext x1
  replace eg := eg.trans x1
  have := f1.1
  iterate 2 refine GoR.op rfl rfl rfl rfl ?_
  refine GoR.end ?_
  refine Go.seq noJ_ok ?_
  refine Go.region noJ_ok rfl ?_
  refine GoR.op rfl rfl rfl rfl ?_
  refine GoR.end ?_
  iterate 2 refine Go.seq noJ_ok ?_
  refine Go.region noJ_ok rfl ?_
  refine GoR.op rfl rfl (fa27_0 rfl) rfl ?_
  refine GoR.op rfl rfl (ld22 rfl f0 rfl) rfl ?_
  refine GoR.op rfl rfl (aOp_lenSlice Try.underlying22 rfl hl1) rfl ?_
  refine GoR.op rfl rfl rfl rfl ?_
  refine GoR.end ?_
  refine Go.block noJ_ok ?_
  have E1 : ExtF (fun b => b = ba) h h1 := .of (x0.trans x1)
  have hn0 := x0.1
  have hn1 := x1.1
  refine Go.loopKeep (fun a : Nat × AVal × List Int => [(1, .func (.func 61) [] [.ptr ba 0, .ptr bb 0]), (2, .ptr h.next 0), (4, .ptr h0.next 0), (5, .nilslice), (6, .nilslice), (7, a.2.1), (16, hsl), (17, .int .i64 F.hs.length), (18, .int .i64 (a.1 : Nat))])
    (fun m a h' => m + a.1 = F.hs.length ∧ ExtF (fun b => b = ba) h h' ∧ h1.next ≤ h'.next ∧ Has h' h.next (.cells .plain [hsl, rsl, .int .i64 F.a, .int .i64 F.b, .int .i64 F.c, .int .i64 F.lim, lsl] 27) ∧ Has h' h0.next (.cells .plain [.nilslice, .nilslice, .int .i64 0, .int .i64 0, .int .i64 0, .int .i64 0, .nilslice] 27) ∧ Has h' ba (.cells .plain [.int .i64 (a.1 : Nat)] 3) ∧ Has h' bb (.cells .plain [s] 47)
      ∧ a.2.2.length = a.1 ∧ (∀ (k : Nat) x w, F.hs[k]? = some x → a.2.2[k]? = some w → x.lo ≤ w ∧ w ≤ x.hi) ∧ Grow h' 3 1 h1.next a.2.1 a.1 (i64s a.2.2))
    (n := F.hs.length) (0, .nilslice, []) ⟨rfl, rfl, rfl, rfl, rfl, rfl, rfl, rfl, rfl, trivial⟩ ⟨rfl, E1, Nat.le_refl _, f0, f1, fa, fb, rfl, (by intro k x w q1 q2; simp at q2), Grow.nil _ _ _ _⟩ ?_
  have l0 := f0.1
  have l1 := f1.1
  clear f0 f1 fa fb eg
  rintro m ⟨i, sa, fs⟩ h5 ⟨hm, y0, hnx, f0, f1, fa, fb, hfl, hfs, G⟩ again
  dsimp only at hm fa hfl hfs G ⊢
  have eg : Ext g h5 := y0.low G0 (fun b q => by omega)
  have hbb := fb.1
  by_cases hi' : i < F.hs.length
  · obtain ⟨x, hx⟩ : ∃ x, F.hs[i]? = some x := ⟨F.hs[i], by simp [hi']⟩
    have hO := O.h x (List.mem_of_getElem? hx)
    obtain ⟨bq, off, q1, q2⟩ := A.hs.at (i := i) (l := HTurf.cells x) (by rw [List.getElem?_map, hx]; rfl)
    rw [List.length_map] at q1
    obtain ⟨xp, xlo, xhi⟩ := x
    unfold HTurf.cells at q2
    dsimp only at q2 hO
    have y5 : ExtF (fun b => b = ba) h5 h5 := .of (Ext.refl _)
    refine Go.seq noJ_ok ?_
    refine Go.region noJ_ok rfl ?_
    refine GoR.op rfl rfl (aOp_lss rfl rfl (r := true) (decide_eq_true (by omega))) rfl ?_
    refine GoR.end ?_
    refine Go.seq noJ_ok ?_
    refine Go.cond noJ_ok (b := true) rfl ?_
    refine Go.code noJ_ok ?_
    refine Go.seq noJ_ok ?_
    refine Go.block noJ_ok ?_
    refine Go.seq noJ_ok ?_
    refine Go.region noJ_ok rfl ?_
    refine GoR.op rfl rfl (aOp_indexAddr Try.underlying22 sz63 rfl q1 rfl (Nat.ble_eq_true_of_le hi')) rfl ?_
    refine GoR.op rfl rfl (aOp_loadE ag63 sz63 rfl (q2.ext eg)) rfl ?_
    refine GoR.alloc rfl rfl rfl zt63 rfl rfl fun h6 x6 f6 => ?_
    have := eg.1
    have := f0.1
    have := f1.1
    have := fa.1
    have := fb.1
    replace f0 := f0.ext x6
    replace f1 := f1.ext x6
    replace fa := fa.ext x6
    replace fb := fb.ext x6
    replace eg := eg.trans x6
    replace y0 := y0.ext x6
    replace y5 := y5.ext x6
    have := f6.1
    refine GoR.store rfl rfl rfl rfl rfl rfl f6 rfl sz63 rfl rfl rfl fun h7 u7 => ?_
    replace f6 := u7.has f6
    replace f0 := f0.upd u7 (by omega)
    replace f1 := f1.upd u7 (by omega)
    replace fa := fa.upd u7 (by omega)
    replace fb := fb.upd u7 (by omega)
    first | replace eg := eg.upd u7 (by omega) | clear eg
    first | replace y0 := y0.upd u7 (by first | exact .inl rfl | exact .inl (.inl rfl) | exact .inl (.inr rfl) | exact .inl (by assumption) | exact .inr (by omega)) | skip
    first | replace y5 := y5.upd u7 (by first | exact .inl rfl | exact .inl (.inl rfl) | exact .inl (.inr rfl) | exact .inl (by assumption) | exact .inr (by omega)) | skip
    refine GoR.end ?_
    refine Go.region noJ_ok rfl ?_
    iterate 2 refine GoR.op rfl rfl rfl rfl ?_
    refine GoR.op rfl rfl (fa63_1 rfl) rfl ?_
    refine GoR.op rfl rfl (ld30 rfl f6 rfl) rfl ?_
    refine GoR.call rfl rfl (aOp_callVal rfl aFunc61 rfl) (drawX hbs (by assumption) fb eg hab hs hga hlen (by constructor <;> omega) (by omega)) ?_ (by rintro _ _ ⟨w, q, wl, wh, _, _⟩; cases q)
    rintro v8 h8 ⟨w, q, wl, wh, y8, f8⟩
    cases q
    refine ⟨_, rfl, ?_⟩
    iterate 2 have := eg.1
    have := f6.1
    have := f0.1
    have := f1.1
    have := fa.1
    have := fb.1
    first | replace f6 := f6.extF y8 (fun q => by omega) | clear f6
    first | replace f0 := f0.extF y8 (fun q => by omega) | clear f0
    first | replace f1 := f1.extF y8 (fun q => by omega) | clear f1
    first | replace fa := fa.extF y8 (fun q => by omega) | clear fa
    first | replace fb := fb.extF y8 (fun q => by omega) | clear fb
    first | replace eg := y8.low eg (fun b q => by omega) | clear eg
    replace y0 := y0.trans (fun b q => by first | exact .inl q | exact .inl (.inl q) | exact .inl (.inr q) | exact .inr (by omega)) y8
    replace y5 := y5.trans (fun b q => by first | exact .inl q | exact .inl (.inl q) | exact .inl (.inr q) | exact .inr (by omega)) y8
    have := y8.1
    refine GoR.buildSl rfl rfl (ps := [(0, .int .i64 w)]) (cs := [.int .i64 w]) Try.underlying50 rfl sz3 zt3 rfl rfl rfl rfl fun h9 x9 f9 => ?_
    have := eg.1
    have := f8.1
    have := f6.1
    have := f0.1
    have := f1.1
    have := fb.1
    replace f8 := f8.ext x9
    replace f6 := f6.ext x9
    replace f0 := f0.ext x9
    replace f1 := f1.ext x9
    replace fb := fb.ext x9
    replace eg := eg.trans x9
    replace y8 := y8.ext x9
    replace y0 := y0.ext x9
    replace y5 := y5.ext x9
    have := f9.1
    have G' := grow_extF G y5 (fun b q => by omega)
    refine GoR.append1F (lo := h1.next) (s := sa) rfl rfl rfl Try.underlying50 Try.underlying50 sz3 by3 zt3 rfl rfl rfl rfl f9 rfl rfl G' (by omega) rfl rfl fun s6 h59 y59 g59 => ?_
    have z0 : ExtF (fun b => b = ba) h h59 := y0.trans (fun b q => .inr (by have := (grow_own G' q).1; omega)) y59
    have z1 := f0.extF y59 (fun q => by have := (grow_own G' q).1; omega)
    have z2 := f1.extF y59 (fun q => by have := (grow_own G' q).1; omega)
    have z3 := f8.extF y59 (fun q => by have := (grow_own G' q).1; omega)
    have z4 := fb.extF y59 (fun q => by have := (grow_own G' q).1; omega)
    have hy := y59.1
    clear f0 f1 f6 f8 fb eg y0 y5 y8 f9
    have e0 : Ext h59 h59 := Ext.refl _
    have again3 := again (m - 1) (i + 1, s6, fs ++ [w])
    dsimp only at again3
    refine GoR.op rfl rfl rfl rfl ?_
    refine GoR.end ?_
    refine Go.inBlock noJ_ok ?_
    refine Go.region noJ_ok rfl ?_
    refine GoR.op rfl rfl (aOp_add rfl rfl (by constructor <;> omega) rfl) rfl ?_
    refine GoR.op rfl rfl rfl rfl ?_
    refine GoR.end ?_
    refine again3 _ _ (by omega) ⟨rfl, rfl, rfl, rfl, rfl, rfl, rfl, rfl, rfl, trivial⟩ ⟨by omega, z0, by omega, z1, z2, z3, z4, by rw [List.length_append, hfl]; rfl, fs_more (lo := fun x => x.lo) (hi := fun x => x.hi) hfs hfl hx ⟨wl, wh⟩, ?_⟩
    unfold i64s at g59 ⊢
    rw [List.map_append]
    exact g59.low (by omega)
  · have hii : i = F.hs.length := by omega
    subst hii
    have e0 : Ext h5 h5 := Ext.refl _
    have y5 : ExtF (fun b => b = ba) h5 h5 := .of e0
    refine Go.seq noJ_ok ?_
    refine Go.region noJ_ok rfl ?_
    refine GoR.op rfl rfl (aOp_lss rfl rfl (r := false) (decide_eq_false (by omega))) rfl ?_
    refine GoR.end ?_
    refine Go.seq noJ_ok ?_
    refine Go.cond noJ_ok (b := false) rfl ?_
    refine Go.code noJ_ok ?_
    iterate 2 refine Go.seq noJ_ok ?_
    refine Go.region noJ_ok rfl ?_
    refine GoR.op rfl rfl (fa27_1 rfl) rfl ?_
    refine GoR.op rfl rfl (ld23 rfl f0 rfl) rfl ?_
    refine GoR.op rfl rfl (aOp_lenSlice Try.underlying23 rfl hl2) rfl ?_
    refine GoR.op rfl rfl rfl rfl ?_
    refine GoR.end ?_
    refine Go.block noJ_ok ?_
    have E5 := y0
    have Y5 := y5
    refine Go.loopKeep (fun a : Nat × AVal × List Int => [(1, .func (.func 61) [] [.ptr ba 0, .ptr bb 0]), (2, .ptr h.next 0), (4, .ptr h0.next 0), (5, .nilslice), (6, a.2.1), (7, sa), (31, rsl), (32, .int .i64 F.rs.length), (33, .int .i64 (a.1 : Nat))])
      (fun m a h' => m + a.1 = F.rs.length ∧ ExtF (fun b => b = ba) h5 h' ∧ h5.next ≤ h'.next ∧ Has h' h.next (.cells .plain [hsl, rsl, .int .i64 F.a, .int .i64 F.b, .int .i64 F.c, .int .i64 F.lim, lsl] 27) ∧ Has h' h0.next (.cells .plain [.nilslice, .nilslice, .int .i64 0, .int .i64 0, .int .i64 0, .int .i64 0, .nilslice] 27) ∧ Has h' ba (.cells .plain [.int .i64 (F.hs.length + (a.1 : Nat))] 3) ∧ Has h' bb (.cells .plain [s] 47)
        ∧ a.2.2.length = a.1 ∧ (∀ (k : Nat) x w, F.rs[k]? = some x → a.2.2[k]? = some w → x.1 ≤ w ∧ w ≤ x.2) ∧ Grow h' 3 1 h5.next a.2.1 a.1 (i64s a.2.2))
      (n := F.rs.length) (0, .nilslice, []) ⟨rfl, rfl, rfl, rfl, rfl, rfl, rfl, rfl, rfl, trivial⟩ ⟨rfl, y5, Nat.le_refl _, f0, f1, (by rw [show ((F.hs.length : Int) + ((0 : Nat) : Int)) = F.hs.length from by omega]; exact fa), fb, rfl, (by intro k x w q1 q2; simp at q2), Grow.nil _ _ _ _⟩ ?_
    have l5 := fa.1
    have l6 := f1.1
    clear f0 f1 fa fb eg e0 y5 y0
    rintro m2 ⟨j, sb, rl⟩ h10 ⟨hm2, y1, hnx2, f0, f1, fa, fb, hrl, hrs, GR⟩ again2
    dsimp only at hm2 fa hrl hrs GR ⊢
    have y0 : ExtF (fun b => b = ba) h h10 := E5.trans (fun b q => .inl q) y1
    have eg : Ext g h10 := y0.low G0 (fun b q => by omega)
    by_cases hj : j < F.rs.length
    · obtain ⟨r, hr⟩ : ∃ r, F.rs[j]? = some r := ⟨F.rs[j], by simp [hj]⟩
      have hO := O.r r (List.mem_of_getElem? hr)
      obtain ⟨bq, off, q1, q2⟩ := A.rs.at (i := j) (l := spC r) (by rw [List.getElem?_map, hr]; rfl)
      rw [List.length_map] at q1
      obtain ⟨ra, rb⟩ := r
      unfold spC at q2
      dsimp only at q2 hO
      have y5 : ExtF (fun b => b = ba) h10 h10 := .of (Ext.refl _)
      refine Go.seq noJ_ok ?_
      refine Go.region noJ_ok rfl ?_
      refine GoR.op rfl rfl (aOp_lss rfl rfl (r := true) (decide_eq_true (by omega))) rfl ?_
      refine GoR.end ?_
      refine Go.seq noJ_ok ?_
      refine Go.cond noJ_ok (b := true) rfl ?_
      refine Go.code noJ_ok ?_
      refine Go.seq noJ_ok ?_
      refine Go.block noJ_ok ?_
      refine Go.seq noJ_ok ?_
      refine Go.region noJ_ok rfl ?_
      refine GoR.op rfl rfl (aOp_indexAddr Try.underlying23 sz30 rfl q1 rfl (Nat.ble_eq_true_of_le hj)) rfl ?_
      refine GoR.op rfl rfl (aOp_loadE ag30 sz30 rfl (q2.ext eg)) rfl ?_
      refine GoR.alloc rfl rfl rfl zt30 rfl rfl fun h11 x11 f11 => ?_
      have := eg.1
      have := f0.1
      have := f1.1
      have := fa.1
      have := fb.1
      replace f0 := f0.ext x11
      replace f1 := f1.ext x11
      replace fa := fa.ext x11
      replace fb := fb.ext x11
      replace eg := eg.trans x11
      replace y1 := y1.ext x11
      replace y0 := y0.ext x11
      replace y5 := y5.ext x11
      have := f11.1
      refine GoR.store rfl rfl rfl rfl rfl rfl f11 rfl sz30 rfl rfl rfl fun h12 u12 => ?_
      replace f11 := u12.has f11
      replace f0 := f0.upd u12 (by omega)
      replace f1 := f1.upd u12 (by omega)
      replace fa := fa.upd u12 (by omega)
      replace fb := fb.upd u12 (by omega)
      first | replace eg := eg.upd u12 (by omega) | clear eg
      first | replace y1 := y1.upd u12 (by first | exact .inl rfl | exact .inl (.inl rfl) | exact .inl (.inr rfl) | exact .inl (by assumption) | exact .inr (by omega)) | skip
      first | replace y0 := y0.upd u12 (by first | exact .inl rfl | exact .inl (.inl rfl) | exact .inl (.inr rfl) | exact .inl (by assumption) | exact .inr (by omega)) | skip
      first | replace y5 := y5.upd u12 (by first | exact .inl rfl | exact .inl (.inl rfl) | exact .inl (.inr rfl) | exact .inl (by assumption) | exact .inr (by omega)) | skip
      refine GoR.end ?_
      refine Go.region noJ_ok rfl ?_
      iterate 2 refine GoR.op rfl rfl rfl rfl ?_
      refine GoR.op rfl rfl (ld30 rfl f11 rfl) rfl ?_
      refine GoR.call rfl rfl (aOp_callVal rfl aFunc61 rfl) (drawX hbs (by assumption) fb eg hab hs hga hlen (by constructor <;> omega) (by omega)) ?_ (by rintro _ _ ⟨w, q, wl, wh, _, _⟩; cases q)
      rintro v13 h13 ⟨w, q, wl, wh, y13, f13⟩
      cases q
      refine ⟨_, rfl, ?_⟩
      iterate 2 have := eg.1
      have := f11.1
      have := f0.1
      have := f1.1
      have := fa.1
      have := fb.1
      first | replace f11 := f11.extF y13 (fun q => by omega) | clear f11
      first | replace f0 := f0.extF y13 (fun q => by omega) | clear f0
      first | replace f1 := f1.extF y13 (fun q => by omega) | clear f1
      first | replace fa := fa.extF y13 (fun q => by omega) | clear fa
      first | replace fb := fb.extF y13 (fun q => by omega) | clear fb
      first | replace eg := y13.low eg (fun b q => by omega) | clear eg
      replace y1 := y1.trans (fun b q => by first | exact .inl q | exact .inl (.inl q) | exact .inl (.inr q) | exact .inr (by omega)) y13
      replace y0 := y0.trans (fun b q => by first | exact .inl q | exact .inl (.inl q) | exact .inl (.inr q) | exact .inr (by omega)) y13
      replace y5 := y5.trans (fun b q => by first | exact .inl q | exact .inl (.inl q) | exact .inl (.inr q) | exact .inr (by omega)) y13
      have := y13.1
      refine GoR.buildSl rfl rfl (ps := [(0, .int .i64 w)]) (cs := [.int .i64 w]) Try.underlying50 rfl sz3 zt3 rfl rfl rfl rfl fun h14 x14 f14 => ?_
      have := eg.1
      have := f13.1
      have := f11.1
      have := f0.1
      have := f1.1
      have := fb.1
      replace f13 := f13.ext x14
      replace f11 := f11.ext x14
      replace f0 := f0.ext x14
      replace f1 := f1.ext x14
      replace fb := fb.ext x14
      replace eg := eg.trans x14
      replace y13 := y13.ext x14
      replace y1 := y1.ext x14
      replace y0 := y0.ext x14
      replace y5 := y5.ext x14
      have := f14.1
      have G' := grow_extF GR y5 (fun b q => by omega)
      refine GoR.append1F (lo := h5.next) (s := sb) rfl rfl rfl Try.underlying50 Try.underlying50 sz3 by3 zt3 rfl rfl rfl rfl f14 rfl rfl G' (by omega) rfl rfl fun s6 h59 y59 g59 => ?_
      have z0 : ExtF (fun b => b = ba) h5 h59 := y1.trans (fun b q => .inr (by have := (grow_own G' q).1; omega)) y59
      have z1 := f0.extF y59 (fun q => by have := (grow_own G' q).1; omega)
      have z2 := f1.extF y59 (fun q => by have := (grow_own G' q).1; omega)
      have z3 := f13.extF y59 (fun q => by have := (grow_own G' q).1; omega)
      have z4 := fb.extF y59 (fun q => by have := (grow_own G' q).1; omega)
      have hy := y59.1
      clear f0 f1 f11 f13 fb eg y0 y1 y5 y13 f14
      have e0 : Ext h59 h59 := Ext.refl _
      have again3 := again2 (m2 - 1) (j + 1, s6, rl ++ [w])
      dsimp only at again3
      refine GoR.op rfl rfl rfl rfl ?_
      refine GoR.end ?_
      refine Go.inBlock noJ_ok ?_
      refine Go.region noJ_ok rfl ?_
      refine GoR.op rfl rfl (aOp_add rfl rfl (by constructor <;> omega) rfl) rfl ?_
      refine GoR.op rfl rfl rfl rfl ?_
      refine GoR.end ?_
      refine again3 _ _ (by omega) ⟨rfl, rfl, rfl, rfl, rfl, rfl, rfl, rfl, rfl, trivial⟩ ⟨by omega, z0, by omega, z1, z2, (by rw [show ((F.hs.length : Int) + ((j + 1 : Nat) : Int)) = F.hs.length + j + 1 from by omega]; exact z3), z4, by rw [List.length_append, hrl]; rfl, fs_more (lo := fun x => x.1) (hi := fun x => x.2) hrs hrl hr ⟨wl, wh⟩, ?_⟩
      unfold i64s at g59 ⊢
      rw [List.map_append]
      exact g59.low (by omega)
    · have hjj : j = F.rs.length := by omega
      subst hjj
      have e0 : Ext h10 h10 := Ext.refl _
      have y5 : ExtF (fun b => b = ba) h10 h10 := .of e0
      have GF := grow_extF G y1 (fun b q => by omega)
      have SF := nums_sl hfl GF
      have SR := nums_sl hrl GR
      have hfi : ∀ w, w ∈ fs → 0 ≤ w ∧ w ≤ 100 := by
        intro w hw
        obtain ⟨k, hk, rfl⟩ := List.mem_iff_getElem.1 hw
        have h1' := hfs k _ _ (List.getElem?_eq_getElem (by omega)) (List.getElem?_eq_getElem hk)
        have h2' := O.h _ (List.getElem_mem (l := F.hs) (n := k) (by omega))
        omega
      have hri : ∀ w, w ∈ rl → 0 ≤ w ∧ w ≤ 10 := by
        intro w hw
        obtain ⟨k, hk, rfl⟩ := List.mem_iff_getElem.1 hw
        have h1' := hrs k _ _ (List.getElem?_eq_getElem (by omega)) (List.getElem?_eq_getElem hk)
        have h2' := O.r _ (List.getElem_mem (l := F.rs) (n := k) (by omega))
        omega
      have hD : Dries F.a F.b F.c := by
        have := O.d
        unfold Dries
        omega
      obtain ⟨hs1, hc1⟩ := A.hs.scal
      obtain ⟨hs2, hc2⟩ := A.rs.scal
      obtain ⟨hs3, hc3⟩ := A.ls.scal
      have hsc : scalars [hsl, rsl, .int .i64 F.a, .int .i64 F.b, .int .i64 F.c, .int .i64 F.lim, lsl] = true := by
        unfold scalars
        rw [scal_one hs1]
        simp only [scalars, scal_one hs2, scal_one hs3, cond_true]
        rfl
      refine Go.seq noJ_ok ?_
      refine Go.region noJ_ok rfl ?_
      refine GoR.op rfl rfl (aOp_lss rfl rfl (r := false) (decide_eq_false (by omega))) rfl ?_
      refine GoR.end ?_
      refine Go.seq noJ_ok ?_
      refine Go.cond noJ_ok (b := false) rfl ?_
      refine Go.code noJ_ok ?_
      refine Go.seq noJ_ok ?_
      refine Go.drawnE plan24_0 ?_
      iterate 2 refine GoE.quiet rfl rfl (ld27 rfl f0 rfl) rfl ?_
      iterate 2 refine GoE.quiet rfl rfl rfl rfl ?_
      refine GoE.call rfl rfl (aOp_callFunc aFunc30 rfl) (wetness_ok hsl rsl lsl sa sb fs rl _ (A.hs.ext eg) SF SR (fun x q => by have := O.h x q; omega) (by omega) hD hfl hfi hri (by omega)) (dropF_drop (show bit? 14 3 = true from rfl) (dropF_drop (show bit? 14 2 = true from rfl) (dropF_drop (show bit? 14 1 = true from rfl) (dropF_keep (show bit? 14 0 = false from rfl) rfl)))) ?_ (by rintro _ _ ⟨sw, sls, q, _, hsw, GW, LW⟩; cases q)
      rintro v11 h11 ⟨sw, sls, q, x11, hsw, GW, LW⟩
      cases q
      have := eg.1
      have := e0.1
      replace f0 := f0.ext x11
      replace f1 := f1.ext x11
      replace fb := fb.ext x11
      replace fa := fa.ext x11
      replace eg := eg.trans x11
      replace e0 := e0.trans x11
      replace y1 := y1.ext x11
      replace y0 := y0.ext x11
      replace y5 := y5.ext x11
      refine ⟨(recheck_cons (h2 := h11) rfl (ld27 rfl f0 rfl) (by first | rfl | exact sameA_int _ _ | exact sameA_bool _ | exact sameA_agg2 _ _ | assumption | (simp [sameA, sameAs, eqI_eq]; done)) recheck_nil), _, rfl, ?_⟩
      refine GoE.store rfl rfl rfl rfl (dropF_drop (show bit? 31 0 = true from rfl) rfl) rfl rfl f1 rfl sz27 rfl hsc rfl fun h12 u12 => ?_
      replace f0 := f0.upd u12 (by omega)
      replace f1 := u12.has f1
      replace fb := fb.upd u12 (by omega)
      replace fa := fa.upd u12 (by omega)
      first | replace eg := eg.upd u12 (by omega) | clear eg
      first | replace e0 := e0.upd u12 (by omega) | clear e0
      first | replace y1 := y1.upd u12 (by first | exact .inl rfl | exact .inl (.inl rfl) | exact .inl (.inr rfl) | exact .inl (by assumption) | exact .inr (by omega)) | skip
      first | replace y0 := y0.upd u12 (by first | exact .inl rfl | exact .inl (.inl rfl) | exact .inl (.inr rfl) | exact .inl (by assumption) | exact .inr (by omega)) | skip
      first | replace y5 := y5.upd u12 (by first | exact .inl rfl | exact .inl (.inl rfl) | exact .inl (.inr rfl) | exact .inl (by assumption) | exact .inr (by omega)) | skip
      refine ⟨recheck_nil, ?_⟩
      refine GoE.quiet rfl rfl rfl rfl ?_
      refine GoE.end rfl ?_
      refine Go.seq noJ_ok ?_
      refine Go.region noJ_ok rfl ?_
      refine GoR.op rfl rfl (fa27_4 rfl) rfl ?_
      refine GoR.store rfl rfl rfl rfl rfl rfl f1 rfl sz25 rfl rfl rfl fun h13 u13 => ?_
      replace f0 := f0.upd u13 (by omega)
      replace f1 := u13.has f1
      replace fb := fb.upd u13 (by omega)
      replace fa := fa.upd u13 (by omega)
      first | replace eg := eg.upd u13 (by omega) | clear eg
      first | replace y0 := y0.upd u13 (by first | exact .inl rfl | exact .inl (.inl rfl) | exact .inl (.inr rfl) | exact .inl (by assumption) | exact .inr (by omega)) | skip
      refine GoR.end ?_
      iterate 2 refine Go.seq noJ_ok ?_
      refine Go.region noJ_ok rfl ?_
      refine GoR.op rfl rfl rfl rfl ?_
      have z10 : ExtF (fun b => b = h0.next) h11 h11 := .of (Ext.refl _)
      have z11 := (z10.upd u12 (.inl rfl)).upd u13 (.inl rfl)
      have lx := x11.1
      have GW' := grow_extF GW z11 (fun b q => by omega)
      have GR' := grow_extF (GR.ext x11) z11 (fun b q => by omega)
      have LW' : WetG h13 h10.next F fs rl sls := fun k x w sl a b c => grow_extF (LW k x w sl a b c) z11 (fun b q => by omega)
      have y6 : ExtF (fun b => b = ba) h13 h13 := .of (Ext.refl _)
      clear y1 y5 z10 z11
      have hn13 : h13.next = h11.next := by rw [u13.1, u12.1]
      refine GoR.call rfl rfl (aOp_callFunc aFunc11 rfl) (span11_ok _ _ _) ?_ (by rintro _ _ ⟨q, _⟩; cases q)
      rintro v14 h14 ⟨q, x14⟩
      cases q
      refine ⟨_, rfl, ?_⟩
      replace f0 := f0.ext x14
      replace f1 := f1.ext x14
      replace fb := fb.ext x14
      replace fa := fa.ext x14
      replace eg := eg.trans x14
      replace y0 := y0.ext x14
      replace y6 := y6.ext x14
      refine GoR.call rfl rfl (aOp_callVal rfl aFunc61 rfl) (drawX hbs (by assumption) fb eg hab hs hga hlen (by constructor <;> omega) (by omega)) ?_ (by rintro _ _ ⟨w, q, wl, wh, _, _⟩; cases q)
      rintro v15 h15 ⟨w, q, wl, wh, y15, f15⟩
      cases q
      refine ⟨_, rfl, ?_⟩
      iterate 2 have := eg.1
      have := f0.1
      have := f1.1
      have := fb.1
      have := fa.1
      first | replace f0 := f0.extF y15 (fun q => by omega) | clear f0
      first | replace f1 := f1.extF y15 (fun q => by omega) | clear f1
      first | replace fb := fb.extF y15 (fun q => by omega) | clear fb
      first | replace fa := fa.extF y15 (fun q => by omega) | clear fa
      first | replace eg := y15.low eg (fun b q => by omega) | clear eg
      replace y0 := y0.trans (fun b q => by first | exact .inl q | exact .inl (.inl q) | exact .inl (.inr q) | exact .inr (by omega)) y15
      replace y6 := y6.trans (fun b q => by first | exact .inl q | exact .inl (.inl q) | exact .inl (.inr q) | exact .inr (by omega)) y15
      have := y15.1
      refine GoR.op rfl rfl rfl rfl ?_
      refine GoR.end ?_
      refine Go.block noJ_ok ?_
      obtain ⟨wn, rfl⟩ := Int.eq_ofNat_of_zero_le wl
      have GW15 := grow_extF GW' y6 (fun b q => by omega)
      have GR15 := grow_extF GR' y6 (fun b q => by omega)
      have LW15 : WetG h15 h10.next F fs rl sls := fun k x w sl a b c => grow_extF (LW' k x w sl a b c) y6 (fun b q => by omega)
      have E15 := y0
      have Z0 : ExtF (fun b => b = ba ∨ b = h0.next) h15 h15 := .of (Ext.refl _)
      have lz := f0.1
      have lz2 := f1.1
      have lz3 := fb.1
      have lz4 := f15.1
      have y15' := y15.1
      refine Go.loopKeep (fun a : Nat × AVal × List LookV => [(1, .func (.func 61) [] [.ptr ba 0, .ptr bb 0]), (2, .ptr h.next 0), (4, .ptr h0.next 0), (5, v11), (6, sb), (52, .int .i64 (wn : Nat)), (53, .int .i64 (a.1 : Nat))])
        (fun m a h' => m + a.1 = wn ∧ ExtF (fun b => b = ba ∨ b = h0.next) h15 h' ∧ h15.next ≤ h'.next ∧ Has h' h.next (.cells .plain [hsl, rsl, .int .i64 F.a, .int .i64 F.b, .int .i64 F.c, .int .i64 F.lim, lsl] 27) ∧ Has h' h0.next (.cells .plain [hsl, rsl, .int .i64 F.a, .int .i64 F.b, .int .i64 F.c, .int .i64 F.lim, a.2.1] 27) ∧ Has h' ba (.cells .plain [.int .i64 (F.hs.length + F.rs.length + 1 + 4 * (a.1 : Nat))] 3) ∧ Has h' bb (.cells .plain [s] 47)
          ∧ a.2.2.length = a.1 ∧ (∀ l, l ∈ a.2.2 → LookTrue F fs rl l) ∧ Grow h' 59 4 h15.next a.2.1 a.1 (a.2.2.flatMap LookV.cells))
        (n := wn) (0, .nilslice, []) ⟨rfl, rfl, rfl, rfl, rfl, rfl, rfl, trivial⟩ ⟨rfl, Z0, Nat.le_refl _, f0, f1, (by rw [show ((F.hs.length : Int) + F.rs.length + 1 + 4 * ((0 : Nat) : Int)) = F.hs.length + F.rs.length + 1 from by omega]; exact f15), fb, rfl, (by intro l q; cases q), Grow.nil _ _ _ _⟩ ?_
      clear f0 f1 fb f15 eg y0 y6 Z0
      rintro m3 ⟨k, sc, ls⟩ h20 ⟨hm3, y1, hnx3, f0, f1, fa, fb, hls, hlt, GL⟩ again4
      dsimp only at hm3 f1 fa hls hlt GL ⊢
      have y0 : ExtF (fun b => b = ba) h h20 := E15.trans (fun b q => by rcases q with q | q; exact .inl q; exact .inr (by omega)) y1
      have eg : Ext g h20 := y0.low G0 (fun b q => by omega)
      by_cases hk' : k < wn
      · have y6 : ExtF (fun b => b = ba) h20 h20 := .of (Ext.refl _)
        have hsmh := A.hs.same
        have hsmr := A.rs.same
        refine Go.seq noJ_ok ?_
        refine Go.region noJ_ok rfl ?_
        refine GoR.op rfl rfl (aOp_lss rfl rfl (r := true) (decide_eq_true (by omega))) rfl ?_
        refine GoR.end ?_
        refine Go.seq noJ_ok ?_
        refine Go.cond noJ_ok (b := true) rfl ?_
        refine Go.code noJ_ok ?_
        refine Go.seq noJ_ok ?_
        refine Go.block noJ_ok ?_
        refine Go.seq noJ_ok ?_
        refine Go.drawnE plan24_1 ?_
        refine GoE.quiet rfl rfl rfl rfl ?_
        refine GoE.quiet rfl rfl (fa27_0 rfl) rfl ?_
        refine GoE.quiet rfl rfl (ld22 rfl f0 rfl) rfl ?_
        refine GoE.quiet rfl rfl (aOp_lenSlice Try.underlying22 rfl hl1) rfl ?_
        refine GoE.quiet rfl rfl (aOp_sub rfl rfl (by constructor <;> omega) rfl) rfl ?_
        refine GoE.quiet rfl rfl rfl rfl ?_
        refine GoE.quiet rfl rfl (fa27_1 rfl) rfl ?_
        refine GoE.quiet rfl rfl (ld23 rfl f0 rfl) rfl ?_
        refine GoE.quiet rfl rfl (aOp_lenSlice Try.underlying23 rfl hl2) rfl ?_
        refine GoE.quiet rfl rfl (aOp_sub rfl rfl (by constructor <;> omega) rfl) rfl ?_
        refine GoE.call rfl rfl (aOp_callFunc aFunc11 rfl) (span11_ok _ _ _) (dropF_keep (show bit? 30 11 = false from rfl) (dropF_keep (show bit? 30 10 = false from rfl) (dropF_keep (show bit? 30 9 = false from rfl) (dropF_keep (show bit? 30 8 = false from rfl) (dropF_keep (show bit? 30 7 = false from rfl) (dropF_drop (show bit? 30 4 = true from rfl) (dropF_drop (show bit? 30 3 = true from rfl) (dropF_drop (show bit? 30 2 = true from rfl) (dropF_drop (show bit? 30 1 = true from rfl) (dropF_keep (show bit? 30 0 = false from rfl) rfl)))))))))) ?_ (by rintro _ _ ⟨q, _⟩; cases q)
        rintro v21 h21 ⟨q, x21⟩
        cases q
        replace f0 := f0.ext x21
        replace f1 := f1.ext x21
        replace fa := fa.ext x21
        replace fb := fb.ext x21
        replace eg := eg.trans x21
        replace y1 := y1.ext x21
        replace y0 := y0.ext x21
        replace y6 := y6.ext x21
        refine ⟨(recheck_cons (h2 := h21) rfl (aOp_sub rfl rfl (by constructor <;> omega) rfl) (by first | rfl | exact sameA_int _ _ | exact sameA_bool _ | exact sameA_agg2 _ _ | assumption | (simp [sameA, sameAs, eqI_eq]; done)) (recheck_cons (h2 := h21) rfl (aOp_lenSlice Try.underlying23 rfl hl2) (by first | rfl | exact sameA_int _ _ | exact sameA_bool _ | exact sameA_agg2 _ _ | assumption | (simp [sameA, sameAs, eqI_eq]; done)) (recheck_cons (h2 := h21) rfl (ld23 rfl f0 rfl) (by first | rfl | exact sameA_int _ _ | exact sameA_bool _ | exact sameA_agg2 _ _ | assumption | (simp [sameA, sameAs, eqI_eq]; done)) (recheck_cons (h2 := h21) rfl (fa27_1 rfl) (by first | rfl | exact sameA_int _ _ | exact sameA_bool _ | exact sameA_agg2 _ _ | assumption | (simp [sameA, sameAs, eqI_eq]; done)) (recheck_cons (h2 := h21) rfl (rfl) (by first | rfl | exact sameA_int _ _ | exact sameA_bool _ | exact sameA_agg2 _ _ | assumption | (simp [sameA, sameAs, eqI_eq]; done)) (recheck_cons (h2 := h21) rfl (rfl) (by first | rfl | exact sameA_int _ _ | exact sameA_bool _ | exact sameA_agg2 _ _ | assumption | (simp [sameA, sameAs, eqI_eq]; done)) recheck_nil)))))), _, rfl, ?_⟩
        refine GoE.call rfl rfl (aOp_callVal rfl aFunc61 rfl) (drawX hbs (by assumption) fb eg hab hs hga hlen (by constructor <;> omega) (by omega)) (dropF_keep (show bit? 63 11 = false from rfl) (dropF_keep (show bit? 63 10 = false from rfl) (dropF_keep (show bit? 63 9 = false from rfl) (dropF_keep (show bit? 63 8 = false from rfl) (dropF_keep (show bit? 63 7 = false from rfl) (dropF_drop (show bit? 63 0 = true from rfl) rfl)))))) ?_ (by rintro _ _ ⟨wNN, q, wlNN, whNN, _, _⟩; cases q)
        rintro v22 h22 ⟨w22, q, wl22, wh22, y22, f22⟩
        cases q
        iterate 2 have := eg.1
        have := f0.1
        have := f1.1
        have := fa.1
        have := fb.1
        first | replace f0 := f0.extF y22 (fun q => by omega) | clear f0
        first | replace f1 := f1.extF y22 (fun q => by omega) | clear f1
        first | replace fa := fa.extF y22 (fun q => by omega) | clear fa
        first | replace fb := fb.extF y22 (fun q => by omega) | clear fb
        first | replace eg := y22.low eg (fun b q => by omega) | clear eg
        replace y1 := y1.trans (fun b q => by first | exact .inl q | exact .inl (.inl q) | exact .inl (.inr q) | exact .inr (by omega)) y22
        replace y0 := y0.trans (fun b q => by first | exact .inl q | exact .inl (.inl q) | exact .inl (.inr q) | exact .inr (by omega)) y22
        replace y6 := y6.trans (fun b q => by first | exact .inl q | exact .inl (.inl q) | exact .inl (.inr q) | exact .inr (by omega)) y22
        have := y22.1
        refine ⟨(recheck_cons (h2 := h22) rfl (aOp_sub rfl rfl (by constructor <;> omega) rfl) (by first | rfl | exact sameA_int _ _ | exact sameA_bool _ | exact sameA_agg2 _ _ | assumption | (simp [sameA, sameAs, eqI_eq]; done)) (recheck_cons (h2 := h22) rfl (aOp_lenSlice Try.underlying23 rfl hl2) (by first | rfl | exact sameA_int _ _ | exact sameA_bool _ | exact sameA_agg2 _ _ | assumption | (simp [sameA, sameAs, eqI_eq]; done)) (recheck_cons (h2 := h22) rfl (ld23 rfl f0 rfl) (by first | rfl | exact sameA_int _ _ | exact sameA_bool _ | exact sameA_agg2 _ _ | assumption | (simp [sameA, sameAs, eqI_eq]; done)) (recheck_cons (h2 := h22) rfl (fa27_1 rfl) (by first | rfl | exact sameA_int _ _ | exact sameA_bool _ | exact sameA_agg2 _ _ | assumption | (simp [sameA, sameAs, eqI_eq]; done)) (recheck_cons (h2 := h22) rfl (rfl) (by first | rfl | exact sameA_int _ _ | exact sameA_bool _ | exact sameA_agg2 _ _ | assumption | (simp [sameA, sameAs, eqI_eq]; done)) recheck_nil))))), _, rfl, ?_⟩
        refine GoE.call rfl rfl (aOp_callFunc aFunc11 rfl) (span11_ok _ _ _) (dropF_drop (show bit? 3967 11 = true from rfl) (dropF_drop (show bit? 3967 10 = true from rfl) (dropF_drop (show bit? 3967 9 = true from rfl) (dropF_drop (show bit? 3967 8 = true from rfl) (dropF_keep (show bit? 3967 7 = false from rfl) rfl))))) ?_ (by rintro _ _ ⟨q, _⟩; cases q)
        rintro v23 h23 ⟨q, x23⟩
        cases q
        replace f22 := f22.ext x23
        replace f0 := f0.ext x23
        replace f1 := f1.ext x23
        replace fb := fb.ext x23
        replace eg := eg.trans x23
        replace y22 := y22.ext x23
        replace y1 := y1.ext x23
        replace y0 := y0.ext x23
        replace y6 := y6.ext x23
        refine ⟨(recheck_cons (h2 := h23) rfl (rfl) (by first | rfl | exact sameA_int _ _ | exact sameA_bool _ | exact sameA_agg2 _ _ | assumption | (simp [sameA, sameAs, eqI_eq]; done)) recheck_nil), _, rfl, ?_⟩
        refine GoE.call rfl rfl (aOp_callVal rfl aFunc61 rfl) (drawX hbs (by assumption) fb eg hab hs hga hlen (by constructor <;> omega) (by omega)) (dropF_drop (show bit? 8191 7 = true from rfl) rfl) ?_ (by rintro _ _ ⟨wNN, q, wlNN, whNN, _, _⟩; cases q)
        rintro v24 h24 ⟨w24, q, wl24, wh24, y24, f24⟩
        cases q
        iterate 2 have := eg.1
        have := f22.1
        have := f0.1
        have := f1.1
        have := fb.1
        first | replace f22 := f22.extF y24 (fun q => by omega) | clear f22
        first | replace f0 := f0.extF y24 (fun q => by omega) | clear f0
        first | replace f1 := f1.extF y24 (fun q => by omega) | clear f1
        first | replace fb := fb.extF y24 (fun q => by omega) | clear fb
        first | replace eg := y24.low eg (fun b q => by omega) | clear eg
        replace y22 := y22.trans (fun b q => by first | exact .inl q | exact .inl (.inl q) | exact .inl (.inr q) | exact .inr (by omega)) y24
        replace y1 := y1.trans (fun b q => by first | exact .inl q | exact .inl (.inl q) | exact .inl (.inr q) | exact .inr (by omega)) y24
        replace y0 := y0.trans (fun b q => by first | exact .inl q | exact .inl (.inl q) | exact .inl (.inr q) | exact .inr (by omega)) y24
        replace y6 := y6.trans (fun b q => by first | exact .inl q | exact .inl (.inl q) | exact .inl (.inr q) | exact .inr (by omega)) y24
        have := y24.1
        refine ⟨recheck_nil, _, rfl, ?_⟩
        iterate 2 refine GoE.quiet rfl rfl rfl rfl ?_
        refine GoE.end rfl ?_
        refine Go.seq noJ_ok ?_
        refine Go.region noJ_ok rfl ?_
        iterate 2 refine GoR.op rfl rfl rfl rfl ?_
        obtain ⟨i, rfl⟩ := Int.eq_ofNat_of_zero_le wl22
        obtain ⟨d, rfl⟩ := Int.eq_ofNat_of_zero_le wl24
        have hi' : i < F.hs.length := by omega
        have hd' : d < F.rs.length := by omega
        obtain ⟨x, hx⟩ : ∃ x, F.hs[i]? = some x := ⟨F.hs[i], by simp [hi']⟩
        obtain ⟨w, hw⟩ : ∃ w, fs[i]? = some w := ⟨fs[i]'(by omega), by simp⟩
        obtain ⟨sl, hsl0⟩ : ∃ sl, sls[i]? = some sl := ⟨sls[i]'(by omega), by simp⟩
        obtain ⟨sq, hsq⟩ : ∃ sq, scan F.a F.b F.c x.p.toNat rl w = sq := ⟨_, rfl⟩
        have hsql : sq.length = F.rs.length := by rw [← hsq, scan_len, hrl]
        obtain ⟨n, hn⟩ : ∃ n, sq[d]? = some n := ⟨sq[d]'(by omega), by simp⟩
        have hn100 : 0 ≤ n ∧ n ≤ 100 := scan_bnd2 F.a F.b F.c x.p.toNat rl w n (by rw [hsq]; exact List.mem_of_getElem? hn)
        have GWn := grow_extF GW15 y1 (fun b q => by omega)
        have LWn := grow_extF (LW15 i x w sl hx hw hsl0) y1 (fun b q => by omega)
        rw [hsq, hrl] at LWn
        have hos : SliceOf h24 1 v11 (sls.map fun x => [x]) := by
          have k : Grow h24 50 1 h10.next v11 (sls.map fun x => [x]).length ((sls.map fun x => [x]).flatten) := by
            rw [List.length_map, hsw, flat_self]
            exact GWn
          exact k.sliceOf (slice_flatten fun l hl => by obtain ⟨_, _, rfl⟩ := List.mem_map.1 hl; rfl)
        obtain ⟨bo, oo, p1, p2⟩ := hos.at (i := i) (l := [sl]) (by rw [List.getElem?_map, hsl0]; rfl)
        rw [List.length_map, hsw] at p1
        obtain ⟨bs', os2, r1, r2⟩ := (nums_sl hsql LWn).at (i := d) (l := [AVal.int .i64 n]) (by rw [List.getElem?_map, hn]; rfl)
        rw [List.length_map, hsql] at r1
        have e0 : Ext h24 h24 := Ext.refl _
        have hsmc := grow_same GL
        have hst1 : ∀ {h : AH} {lo m : Nat} {z : AVal} {cs : List AVal}, Grow h 59 4 lo z m cs → Nat.beq z.cells.length 1 = true := fun k => by rw [(grow_scal k).2]; rfl
        have hst2 : ∀ {h : AH} {lo m : Nat} {z : AVal} {cs : List AVal}, Grow h 59 4 lo z m cs → scalars z.cells = true := fun k => by rw [(grow_scal k).2]; exact (grow_scal k).1
        have hst3 : ∀ {h : AH} {lo m : Nat} {z : AVal} {cs : List AVal}, Grow h 59 4 lo z m cs → splice [hsl, rsl, .int .i64 F.a, .int .i64 F.b, .int .i64 F.c, .int .i64 F.lim, sc] (0 + 6) z.cells = some [hsl, rsl, .int .i64 F.a, .int .i64 F.b, .int .i64 F.c, .int .i64 F.lim, z] := fun k => by rw [(grow_scal k).2]; rfl
        refine GoR.op rfl rfl (aOp_indexAddr Try.underlying49 sz50 rfl p1 rfl (Nat.ble_eq_true_of_le hi')) rfl ?_
        refine GoR.op rfl rfl (aOp_loadE1 (k := 0) ag50 rfl (p2.ext e0) rfl) rfl ?_
        refine GoR.op rfl rfl rfl rfl ?_
        refine GoR.op rfl rfl (aOp_indexAddr Try.underlying50 sz3 rfl r1 rfl (Nat.ble_eq_true_of_le hd')) rfl ?_
        refine GoR.op rfl rfl (aOp_loadE1 (k := 0) ag3 rfl (r2.ext e0) rfl) rfl ?_
        refine GoR.op rfl rfl rfl rfl ?_
        refine GoR.end ?_
        refine Go.drawnE plan24_2 ?_
        refine GoE.quiet rfl rfl (fa27_4 rfl) rfl ?_
        refine GoE.quiet rfl rfl (ld25 rfl f1 rfl) rfl ?_
        iterate 6 refine GoE.quiet rfl rfl rfl rfl ?_
        refine GoE.call rfl rfl (aOp_callFunc aFunc11 rfl) (span11_ok _ _ _) (dropF_keep (show bit? 0 11 = false from rfl) (dropF_keep (show bit? 0 10 = false from rfl) (dropF_keep (show bit? 0 5 = false from rfl) (dropF_keep (show bit? 0 4 = false from rfl) (dropF_keep (show bit? 0 3 = false from rfl) (dropF_keep (show bit? 0 2 = false from rfl) (dropF_keep (show bit? 0 1 = false from rfl) (dropF_keep (show bit? 0 0 = false from rfl) rfl)))))))) ?_ (by rintro _ _ ⟨q, _⟩; cases q)
        rintro v25 h25 ⟨q, x25⟩
        cases q
        replace f24 := f24.ext x25
        replace f0 := f0.ext x25
        replace f1 := f1.ext x25
        replace fb := fb.ext x25
        replace eg := eg.trans x25
        replace e0 := e0.trans x25
        replace y24 := y24.ext x25
        replace y22 := y22.ext x25
        replace y1 := y1.ext x25
        replace y0 := y0.ext x25
        replace y6 := y6.ext x25
        refine ⟨(recheck_cons (h2 := h25) rfl (rfl) (by first | rfl | exact sameA_int _ _ | exact sameA_bool _ | exact sameA_agg2 _ _ | assumption | (simp [sameA, sameAs, eqI_eq]; done)) (recheck_cons (h2 := h25) rfl (rfl) (by first | rfl | exact sameA_int _ _ | exact sameA_bool _ | exact sameA_agg2 _ _ | assumption | (simp [sameA, sameAs, eqI_eq]; done)) (recheck_cons (h2 := h25) rfl (rfl) (by first | rfl | exact sameA_int _ _ | exact sameA_bool _ | exact sameA_agg2 _ _ | assumption | (simp [sameA, sameAs, eqI_eq]; done)) (recheck_cons (h2 := h25) rfl (rfl) (by first | rfl | exact sameA_int _ _ | exact sameA_bool _ | exact sameA_agg2 _ _ | assumption | (simp [sameA, sameAs, eqI_eq]; done)) (recheck_cons (h2 := h25) rfl (rfl) (by first | rfl | exact sameA_int _ _ | exact sameA_bool _ | exact sameA_agg2 _ _ | assumption | (simp [sameA, sameAs, eqI_eq]; done)) (recheck_cons (h2 := h25) rfl (rfl) (by first | rfl | exact sameA_int _ _ | exact sameA_bool _ | exact sameA_agg2 _ _ | assumption | (simp [sameA, sameAs, eqI_eq]; done)) (recheck_cons (h2 := h25) rfl (ld25 rfl f1 rfl) (by first | rfl | exact sameA_int _ _ | exact sameA_bool _ | exact sameA_agg2 _ _ | assumption | (simp [sameA, sameAs, eqI_eq]; done)) (recheck_cons (h2 := h25) rfl (fa27_4 rfl) (by first | rfl | exact sameA_int _ _ | exact sameA_bool _ | exact sameA_agg2 _ _ | assumption | (simp [sameA, sameAs, eqI_eq]; done)) recheck_nil)))))))), _, rfl, ?_⟩
        refine GoE.call rfl rfl (aOp_callVal rfl aFunc61 rfl) (drawX hbs (by assumption) fb eg hab hs hga hlen (by constructor <;> omega) (by omega)) (dropF_keep (show bit? 96 11 = false from rfl) (dropF_keep (show bit? 96 10 = false from rfl) (dropF_drop (show bit? 96 5 = true from rfl) (dropF_keep (show bit? 96 4 = false from rfl) (dropF_keep (show bit? 96 3 = false from rfl) (dropF_keep (show bit? 96 2 = false from rfl) (dropF_keep (show bit? 96 1 = false from rfl) (dropF_keep (show bit? 96 0 = false from rfl) rfl)))))))) ?_ (by rintro _ _ ⟨wNN, q, wlNN, whNN, _, _⟩; cases q)
        rintro v26 h26 ⟨w26, q, wl26, wh26, y26, f26⟩
        cases q
        have := eg.1
        have := e0.1
        have := eg.1
        have := e0.1
        have := f24.1
        have := f0.1
        have := f1.1
        have := fb.1
        first | replace f24 := f24.extF y26 (fun q => by omega) | clear f24
        first | replace f0 := f0.extF y26 (fun q => by omega) | clear f0
        first | replace f1 := f1.extF y26 (fun q => by omega) | clear f1
        first | replace fb := fb.extF y26 (fun q => by omega) | clear fb
        first | replace eg := y26.low eg (fun b q => by omega) | clear eg
        first | replace e0 := y26.low e0 (fun b q => by omega) | clear e0
        replace y24 := y24.trans (fun b q => by first | exact .inl q | exact .inl (.inl q) | exact .inl (.inr q) | exact .inr (by omega)) y26
        replace y22 := y22.trans (fun b q => by first | exact .inl q | exact .inl (.inl q) | exact .inl (.inr q) | exact .inr (by omega)) y26
        replace y1 := y1.trans (fun b q => by first | exact .inl q | exact .inl (.inl q) | exact .inl (.inr q) | exact .inr (by omega)) y26
        replace y0 := y0.trans (fun b q => by first | exact .inl q | exact .inl (.inl q) | exact .inl (.inr q) | exact .inr (by omega)) y26
        replace y6 := y6.trans (fun b q => by first | exact .inl q | exact .inl (.inl q) | exact .inl (.inr q) | exact .inr (by omega)) y26
        have := y26.1
        refine ⟨(recheck_cons (h2 := h26) rfl (rfl) (by first | rfl | exact sameA_int _ _ | exact sameA_bool _ | exact sameA_agg2 _ _ | assumption | (simp [sameA, sameAs, eqI_eq]; done)) (recheck_cons (h2 := h26) rfl (rfl) (by first | rfl | exact sameA_int _ _ | exact sameA_bool _ | exact sameA_agg2 _ _ | assumption | (simp [sameA, sameAs, eqI_eq]; done)) (recheck_cons (h2 := h26) rfl (rfl) (by first | rfl | exact sameA_int _ _ | exact sameA_bool _ | exact sameA_agg2 _ _ | assumption | (simp [sameA, sameAs, eqI_eq]; done)) (recheck_cons (h2 := h26) rfl (rfl) (by first | rfl | exact sameA_int _ _ | exact sameA_bool _ | exact sameA_agg2 _ _ | assumption | (simp [sameA, sameAs, eqI_eq]; done)) (recheck_cons (h2 := h26) rfl (rfl) (by first | rfl | exact sameA_int _ _ | exact sameA_bool _ | exact sameA_agg2 _ _ | assumption | (simp [sameA, sameAs, eqI_eq]; done)) (recheck_cons (h2 := h26) rfl (ld25 rfl f1 rfl) (by first | rfl | exact sameA_int _ _ | exact sameA_bool _ | exact sameA_agg2 _ _ | assumption | (simp [sameA, sameAs, eqI_eq]; done)) (recheck_cons (h2 := h26) rfl (fa27_4 rfl) (by first | rfl | exact sameA_int _ _ | exact sameA_bool _ | exact sameA_agg2 _ _ | assumption | (simp [sameA, sameAs, eqI_eq]; done)) recheck_nil))))))), _, rfl, ?_⟩
        refine GoE.quiet rfl rfl (aOp_sub rfl rfl (by constructor <;> omega) rfl) rfl ?_
        refine GoE.quiet rfl rfl (aOp_max2 rfl rfl rfl) rfl ?_
        refine GoE.call rfl rfl (aOp_callFunc aFunc11 rfl) (span11_ok _ _ _) (dropF_keep (show bit? 224 9 = false from rfl) (dropF_keep (show bit? 224 8 = false from rfl) (dropF_keep (show bit? 224 11 = false from rfl) (dropF_keep (show bit? 224 10 = false from rfl) (dropF_keep (show bit? 224 4 = false from rfl) (dropF_keep (show bit? 224 3 = false from rfl) (dropF_keep (show bit? 224 2 = false from rfl) (dropF_keep (show bit? 224 1 = false from rfl) (dropF_keep (show bit? 224 0 = false from rfl) rfl))))))))) ?_ (by rintro _ _ ⟨q, _⟩; cases q)
        rintro v27 h27 ⟨q, x27⟩
        cases q
        replace f26 := f26.ext x27
        replace f0 := f0.ext x27
        replace f1 := f1.ext x27
        replace fb := fb.ext x27
        replace eg := eg.trans x27
        replace y26 := y26.ext x27
        replace y24 := y24.ext x27
        replace y22 := y22.ext x27
        replace y1 := y1.ext x27
        replace y0 := y0.ext x27
        replace y6 := y6.ext x27
        refine ⟨(recheck_cons (h2 := h27) rfl (aOp_max2 rfl rfl rfl) (by first | rfl | exact sameA_int _ _ | exact sameA_bool _ | exact sameA_agg2 _ _ | assumption | (simp [sameA, sameAs, eqI_eq]; done)) (recheck_cons (h2 := h27) rfl (aOp_sub rfl rfl (by constructor <;> omega) rfl) (by first | rfl | exact sameA_int _ _ | exact sameA_bool _ | exact sameA_agg2 _ _ | assumption | (simp [sameA, sameAs, eqI_eq]; done)) (recheck_cons (h2 := h27) rfl (rfl) (by first | rfl | exact sameA_int _ _ | exact sameA_bool _ | exact sameA_agg2 _ _ | assumption | (simp [sameA, sameAs, eqI_eq]; done)) (recheck_cons (h2 := h27) rfl (rfl) (by first | rfl | exact sameA_int _ _ | exact sameA_bool _ | exact sameA_agg2 _ _ | assumption | (simp [sameA, sameAs, eqI_eq]; done)) (recheck_cons (h2 := h27) rfl (rfl) (by first | rfl | exact sameA_int _ _ | exact sameA_bool _ | exact sameA_agg2 _ _ | assumption | (simp [sameA, sameAs, eqI_eq]; done)) (recheck_cons (h2 := h27) rfl (rfl) (by first | rfl | exact sameA_int _ _ | exact sameA_bool _ | exact sameA_agg2 _ _ | assumption | (simp [sameA, sameAs, eqI_eq]; done)) (recheck_cons (h2 := h27) rfl (rfl) (by first | rfl | exact sameA_int _ _ | exact sameA_bool _ | exact sameA_agg2 _ _ | assumption | (simp [sameA, sameAs, eqI_eq]; done)) (recheck_cons (h2 := h27) rfl (ld25 rfl f1 rfl) (by first | rfl | exact sameA_int _ _ | exact sameA_bool _ | exact sameA_agg2 _ _ | assumption | (simp [sameA, sameAs, eqI_eq]; done)) (recheck_cons (h2 := h27) rfl (fa27_4 rfl) (by first | rfl | exact sameA_int _ _ | exact sameA_bool _ | exact sameA_agg2 _ _ | assumption | (simp [sameA, sameAs, eqI_eq]; done)) recheck_nil))))))))), _, rfl, ?_⟩
        refine GoE.call rfl rfl (aOp_callVal rfl aFunc61 rfl) (drawX hbs (by assumption) fb eg hab hs hga hlen (by constructor <;> omega) (by omega)) (dropF_keep (show bit? 6368 9 = false from rfl) (dropF_keep (show bit? 6368 8 = false from rfl) (dropF_drop (show bit? 6368 11 = true from rfl) (dropF_keep (show bit? 6368 10 = false from rfl) (dropF_keep (show bit? 6368 4 = false from rfl) (dropF_keep (show bit? 6368 3 = false from rfl) (dropF_keep (show bit? 6368 2 = false from rfl) (dropF_keep (show bit? 6368 1 = false from rfl) (dropF_keep (show bit? 6368 0 = false from rfl) rfl))))))))) ?_ (by rintro _ _ ⟨wNN, q, wlNN, whNN, _, _⟩; cases q)
        rintro v28 h28 ⟨w28, q, wl28, wh28, y28, f28⟩
        cases q
        iterate 2 have := eg.1
        have := f26.1
        have := f0.1
        have := f1.1
        have := fb.1
        first | replace f26 := f26.extF y28 (fun q => by omega) | clear f26
        first | replace f0 := f0.extF y28 (fun q => by omega) | clear f0
        first | replace f1 := f1.extF y28 (fun q => by omega) | clear f1
        first | replace fb := fb.extF y28 (fun q => by omega) | clear fb
        first | replace eg := y28.low eg (fun b q => by omega) | clear eg
        replace y26 := y26.trans (fun b q => by first | exact .inl q | exact .inl (.inl q) | exact .inl (.inr q) | exact .inr (by omega)) y28
        replace y24 := y24.trans (fun b q => by first | exact .inl q | exact .inl (.inl q) | exact .inl (.inr q) | exact .inr (by omega)) y28
        replace y22 := y22.trans (fun b q => by first | exact .inl q | exact .inl (.inl q) | exact .inl (.inr q) | exact .inr (by omega)) y28
        replace y1 := y1.trans (fun b q => by first | exact .inl q | exact .inl (.inl q) | exact .inl (.inr q) | exact .inr (by omega)) y28
        replace y0 := y0.trans (fun b q => by first | exact .inl q | exact .inl (.inl q) | exact .inl (.inr q) | exact .inr (by omega)) y28
        replace y6 := y6.trans (fun b q => by first | exact .inl q | exact .inl (.inl q) | exact .inl (.inr q) | exact .inr (by omega)) y28
        have := y28.1
        refine ⟨(recheck_cons (h2 := h28) rfl (aOp_max2 rfl rfl rfl) (by first | rfl | exact sameA_int _ _ | exact sameA_bool _ | exact sameA_agg2 _ _ | assumption | (simp [sameA, sameAs, eqI_eq]; done)) (recheck_cons (h2 := h28) rfl (aOp_sub rfl rfl (by constructor <;> omega) rfl) (by first | rfl | exact sameA_int _ _ | exact sameA_bool _ | exact sameA_agg2 _ _ | assumption | (simp [sameA, sameAs, eqI_eq]; done)) (recheck_cons (h2 := h28) rfl (rfl) (by first | rfl | exact sameA_int _ _ | exact sameA_bool _ | exact sameA_agg2 _ _ | assumption | (simp [sameA, sameAs, eqI_eq]; done)) (recheck_cons (h2 := h28) rfl (rfl) (by first | rfl | exact sameA_int _ _ | exact sameA_bool _ | exact sameA_agg2 _ _ | assumption | (simp [sameA, sameAs, eqI_eq]; done)) (recheck_cons (h2 := h28) rfl (rfl) (by first | rfl | exact sameA_int _ _ | exact sameA_bool _ | exact sameA_agg2 _ _ | assumption | (simp [sameA, sameAs, eqI_eq]; done)) (recheck_cons (h2 := h28) rfl (rfl) (by first | rfl | exact sameA_int _ _ | exact sameA_bool _ | exact sameA_agg2 _ _ | assumption | (simp [sameA, sameAs, eqI_eq]; done)) (recheck_cons (h2 := h28) rfl (ld25 rfl f1 rfl) (by first | rfl | exact sameA_int _ _ | exact sameA_bool _ | exact sameA_agg2 _ _ | assumption | (simp [sameA, sameAs, eqI_eq]; done)) (recheck_cons (h2 := h28) rfl (fa27_4 rfl) (by first | rfl | exact sameA_int _ _ | exact sameA_bool _ | exact sameA_agg2 _ _ | assumption | (simp [sameA, sameAs, eqI_eq]; done)) recheck_nil)))))))), _, rfl, ?_⟩
        refine GoE.quiet rfl rfl (aOp_add rfl rfl (by constructor <;> omega) rfl) rfl ?_
        refine GoE.quiet rfl rfl (aOp_min2 rfl rfl rfl) rfl ?_
        refine GoE.call rfl rfl (aOp_callFunc aFunc29 rfl) (look29_ok _ _ _ _ _) (dropF_drop (show bit? 65532 15 = true from rfl) (dropF_drop (show bit? 65532 14 = true from rfl) (dropF_drop (show bit? 65532 9 = true from rfl) (dropF_drop (show bit? 65532 8 = true from rfl) (dropF_drop (show bit? 65532 10 = true from rfl) (dropF_drop (show bit? 65532 4 = true from rfl) (dropF_drop (show bit? 65532 3 = true from rfl) (dropF_drop (show bit? 65532 2 = true from rfl) (dropF_keep (show bit? 65532 1 = false from rfl) (dropF_keep (show bit? 65532 0 = false from rfl) rfl)))))))))) ?_ (by rintro _ _ ⟨q, _⟩; cases q)
        rintro v29 h29 ⟨q, x29⟩
        cases q
        replace f28 := f28.ext x29
        replace f0 := f0.ext x29
        replace f1 := f1.ext x29
        replace fb := fb.ext x29
        replace eg := eg.trans x29
        replace y28 := y28.ext x29
        replace y26 := y26.ext x29
        replace y24 := y24.ext x29
        replace y22 := y22.ext x29
        replace y1 := y1.ext x29
        replace y0 := y0.ext x29
        replace y6 := y6.ext x29
        refine ⟨(recheck_cons (h2 := h29) rfl (ld25 rfl f1 rfl) (by first | rfl | exact sameA_int _ _ | exact sameA_bool _ | exact sameA_agg2 _ _ | assumption | (simp [sameA, sameAs, eqI_eq]; done)) (recheck_cons (h2 := h29) rfl (fa27_4 rfl) (by first | rfl | exact sameA_int _ _ | exact sameA_bool _ | exact sameA_agg2 _ _ | assumption | (simp [sameA, sameAs, eqI_eq]; done)) recheck_nil)), _, rfl, ?_⟩
        refine GoE.quietX rfl rfl (aOpX_lit (ps := [(0, .agg [.int .i64 (i : Nat), .int .i64 (d : Nat), .int .i64 (if 0 < n - w26 then n - w26 else 0), .int .i64 (if n + w28 < 100 then n + w28 else 100)])]) (cs := [.int .i64 (i : Nat), .int .i64 (d : Nat), .int .i64 (if 0 < n - w26 then n - w26 else 0), .int .i64 (if n + w28 < 100 then n + w28 else 100)]) Try.underlying25 rfl sz59 zt59 rfl rfl rfl) rfl ?_
        refine GoE.append1L rfl rfl Try.underlying25 Try.underlying25 sz59 by59 zt59 rfl rfl rfl rfl rfl rfl (grow_extF GL y6 (fun b q => by omega)) (by omega) (dropF_drop (show bit? 262143 17 = true from rfl) (dropF_drop (show bit? 262143 1 = true from rfl) (dropF_drop (show bit? 262143 0 = true from rfl) rfl))) rfl rfl fun s30 h30 y30 g30 => ?_
        replace f28 := f28.extF y30 (fun q => by have := grow_own GL q; omega)
        replace f0 := f0.extF y30 (fun q => by have := grow_own GL q; omega)
        replace f1 := f1.extF y30 (fun q => by have := grow_own GL q; omega)
        replace fb := fb.extF y30 (fun q => by have := grow_own GL q; omega)
        first | replace eg := y30.low eg (fun b q => by have := grow_own GL q; omega) | skip
        first | replace y28 := y28.trans (fun b q => .inr (by have := grow_own GL q; omega)) y30 | clear y28
        first | replace y26 := y26.trans (fun b q => .inr (by have := grow_own GL q; omega)) y30 | clear y26
        first | replace y24 := y24.trans (fun b q => .inr (by have := grow_own GL q; omega)) y30 | clear y24
        first | replace y22 := y22.trans (fun b q => .inr (by have := grow_own GL q; omega)) y30 | clear y22
        first | replace y1 := y1.trans (fun b q => .inr (by have := grow_own GL q; omega)) y30 | clear y1
        first | replace y0 := y0.trans (fun b q => .inr (by have := grow_own GL q; omega)) y30 | clear y0
        first | replace y6 := y6.trans (fun b q => .inr (by have := grow_own GL q; omega)) y30 | clear y6
        have := y30.1
        refine ⟨recheck_nil, ?_⟩
        refine GoE.quiet rfl rfl (fa27_4 rfl) rfl ?_
        refine GoE.store rfl rfl rfl rfl (dropF_drop (show bit? 1048575 19 = true from rfl) rfl) rfl rfl f1 rfl sz25 (hst1 g30) (hst2 g30) (hst3 g30) fun h31 u31 => ?_
        replace f28 := f28.upd u31 (by omega)
        replace f0 := f0.upd u31 (by omega)
        replace f1 := u31.has f1
        replace fb := fb.upd u31 (by omega)
        first | replace eg := eg.upd u31 (by omega) | clear eg
        first | replace y30 := y30.upd u31 (by first | exact .inl rfl | exact .inl (.inl rfl) | exact .inl (.inr rfl) | exact .inl (by assumption) | exact .inr (by omega)) | skip
        first | replace y1 := y1.upd u31 (by first | exact .inl rfl | exact .inl (.inl rfl) | exact .inl (.inr rfl) | exact .inl (by assumption) | exact .inr (by omega)) | skip
        first | replace y0 := y0.upd u31 (by first | exact .inl rfl | exact .inl (.inl rfl) | exact .inl (.inr rfl) | exact .inl (by assumption) | exact .inr (by omega)) | skip
        refine ⟨recheck_nil, ?_⟩
        refine GoE.end rfl ?_
        refine Go.inBlock noJ_ok ?_
        refine Go.region noJ_ok rfl ?_
        refine GoR.op rfl rfl (aOp_add rfl rfl (by constructor <;> omega) rfl) rfl ?_
        refine GoR.op rfl rfl rfl rfl ?_
        refine GoR.end ?_
        have q21 := x21.1
        have q23 := x23.1
        have q25 := x25.1
        have q27 := x27.1
        have q29 := x29.1
        have z30 : ExtF (fun b => b = h0.next) h30 h30 := .of (Ext.refl _)
        have z31 := z30.upd u31 (.inl rfl)
        have GL2 := (grow_extF (g30.low (lo' := h15.next) (by omega)) z31 (fun b q => by omega))
        have hy1 := y1.1
        have again5 := again4 (m3 - 1) (k + 1, s30, ls ++ [⟨(i : Nat), (d : Nat), (if 0 < n - w26 then n - w26 else 0), (if n + w28 < 100 then n + w28 else 100)⟩])
        dsimp only at again5
        refine again5 _ _ (by omega) ⟨rfl, rfl, rfl, rfl, rfl, rfl, rfl, trivial⟩ ⟨by omega, y1, hy1, f0, f1, (by rw [show ((F.hs.length : Int) + F.rs.length + 1 + 4 * ((k + 1 : Nat) : Int)) = F.hs.length + F.rs.length + 1 + 4 * k + 1 + 1 + 1 + 1 from by omega]; exact f28), fb, by rw [List.length_append, hls]; rfl, ?_, ?_⟩
        · intro l hl
          rcases List.mem_append.1 hl with hl | hl
          · exact hlt l hl
          · rw [List.mem_singleton.1 hl]
            refine ⟨by show (0 : Int) ≤ (i : Nat); omega, by show ((i : Nat) : Int) < _; omega, by show (0 : Int) ≤ (d : Nat); omega, by show ((d : Nat) : Int) < _; omega, ?_, ?_, ?_, x, w, n, hx, hw, by rw [hsq]; exact hn, ?_, ?_⟩ <;> dsimp only <;> split <;> (try split) <;> omega
        · rw [List.flatMap_append]
          exact GL2
      · have hkk : k = wn := by omega
        subst hkk
        have y6 : ExtF (fun b => b = ba) h20 h20 := .of (Ext.refl _)
        have e0 : Ext h20 h20 := Ext.refl _
        have hsc2 : scalars [hsl, rsl, .int .i64 F.a, .int .i64 F.b, .int .i64 F.c, .int .i64 F.lim, sc] = true := by
          unfold scalars
          rw [scal_one hs1]
          simp only [scalars, scal_one hs2, scal_one (grow_scal GL).1, cond_true]
          rfl
        refine Go.seq noJ_ok ?_
        refine Go.region noJ_ok rfl ?_
        refine GoR.op rfl rfl (aOp_lss rfl rfl (r := false) (decide_eq_false (by omega))) rfl ?_
        refine GoR.end ?_
        refine Go.seq noJ_ok ?_
        refine Go.cond noJ_ok (b := false) rfl ?_
        refine Go.code noJ_ok ?_
        refine Go.seq noJ_ok ?_
        refine Go.region noJ_ok rfl ?_
        refine GoR.op rfl rfl (ld27 rfl f1 rfl) rfl ?_
        iterate 2 refine GoR.op rfl rfl rfl rfl ?_
        refine GoR.store rfl rfl rfl rfl rfl rfl f1 rfl sz27 rfl hsc2 rfl fun h21 u21 => ?_
        replace f0 := f0.upd u21 (by omega)
        replace f1 := u21.has f1
        replace fa := fa.upd u21 (by omega)
        replace fb := fb.upd u21 (by omega)
        first | replace eg := eg.upd u21 (by omega) | clear eg
        first | replace e0 := e0.upd u21 (by omega) | clear e0
        first | replace y1 := y1.upd u21 (by first | exact .inl rfl | exact .inl (.inl rfl) | exact .inl (.inr rfl) | exact .inl (by assumption) | exact .inr (by omega)) | skip
        first | replace y0 := y0.upd u21 (by first | exact .inl rfl | exact .inl (.inl rfl) | exact .inl (.inr rfl) | exact .inl (by assumption) | exact .inr (by omega)) | skip
        first | replace y6 := y6.upd u21 (by first | exact .inl rfl | exact .inl (.inl rfl) | exact .inl (.inr rfl) | exact .inl (by assumption) | exact .inr (by omega)) | skip
        iterate 2 refine GoR.op rfl rfl rfl rfl ?_
        refine GoR.end ?_
        have z21 : ExtF (fun b => b = ba ∨ b = h0.next) h15 h21 := y1
        have n21 : h21.next = h20.next := u21.1
        have GWn := grow_extF GW15 z21 (fun b q => by omega)
        have z20 : ExtF (fun b => b = h0.next) h20 h20 := .of (Ext.refl _)
        have GLn := grow_extF GL (z20.upd u21 (.inl rfl)) (fun b q => by omega)
        have GRn := grow_extF GR15 z21 (fun b q => by omega)
        refine Go.ret noJ_ok (ret_end (aResult_of Try.func24 rfl (aResults_cellC rfl f1 (inCells_agg ag27 sz27 rfl) rfl)) ⟨v11, sb, sc, sls, fs, rl, ls, rfl, y0, hfl, hfs, hrl, hrs, by omega, hlt, ?_, GRn.low (by omega), hsw, GWn.low (by omega), fun k x w sl a b c => (grow_extF (LW15 k x w sl a b c) z21 (fun b q => by omega)).low (by omega)⟩)
        rw [hls]
        exact GLn.low (by omega)
end Go.Proofs.Ytmdheijpnlonoaa

namespace Go.Proofs.Ytmdheijpnlonoaa
open Go Go.AbsE
set_option linter.unusedSimpArgs false
set_option maxRecDepth 100000
set_option maxHeartbeats 0
set_option linter.unusedVariables false
def onL (b : Nat → Bool) : Nat → List LookV → List LookV
  | _, [] => []
  | k, x :: L => if b k then x :: onL b (k + 1) L else onL b (k + 1) L
theorem wo_on (out : Int) : ∀ (L : List LookV) (k : Nat), wo out k L = onL (fun i => !bitB out i) k L
  | [], _ => rfl
  | x :: L, k => by
    unfold wo onL
    rw [wo_on out L (k + 1)]
    cases bitB out k <;> rfl
theorem onL_all : ∀ (L : List LookV) (k : Nat), onL (fun _ => true) k L = L
  | [], _ => rfl
  | x :: L, k => by
    unfold onL
    rw [onL_all L (k + 1), if_pos rfl]
def FieldV.canOn (F : FieldV) (b : Nat → Bool) : Bool := (F.withL (onL b 0 F.looks)).canB
theorem canWo_on (F : FieldV) (out : Int) : F.canWo out = F.canOn fun i => !bitB out i := by
  unfold FieldV.canWo FieldV.canOn
  rw [wo_on]
theorem canOn_all (F : FieldV) : F.canOn (fun _ => true) = F.canB := by
  unfold FieldV.canOn
  rw [onL_all]
  rfl
end Go.Proofs.Ytmdheijpnlonoaa

namespace Go.Proofs.Ytmdheijpnlonoaa
open Go Go.AbsE
set_option linter.unusedSimpArgs false
set_option maxRecDepth 100000
set_option maxHeartbeats 0
set_option linter.unusedVariables false
structure TruF (F : FieldV) (fs rl : List Int) (ls : List LookV) : Prop where
  fl : fs.length = F.hs.length
  f : ∀ (k : Nat) x w, F.hs[k]? = some x → fs[k]? = some w → x.lo ≤ w ∧ w ≤ x.hi
  rn : rl.length = F.rs.length
  r : ∀ (k : Nat) x w, F.rs[k]? = some x → rl[k]? = some w → x.1 ≤ w ∧ w ≤ x.2
  n : ls.length ≤ 5
  l : ∀ l, l ∈ ls → LookTrue F fs rl l
theorem inR_of : ∀ {rs : List (Int × Int)} {l : List Int}, l.length = rs.length → (∀ (k : Nat) x w, rs[k]? = some x → l[k]? = some w → x.1 ≤ w ∧ w ≤ x.2) → inR l rs
  | [], [], _, _ => trivial
  | [], _ :: _, h, _ => by simp at h
  | _ :: _, [], h, _ => by simp at h
  | r :: rs, x :: l, h, H => ⟨H 0 r x rfl rfl, inR_of (by simpa using h) fun k y w q1 q2 => H (k + 1) y w (by simpa using q1) (by simpa using q2)⟩
theorem TruF.ok {F : FieldV} (O : F.Ok) {fs rl : List Int} {ls : List LookV} (T : TruF F fs rl ls) : (F.withL ls).Ok :=
  ⟨O.nh, O.h, O.nr, O.r, O.d, O.lim, T.n, fun l hl => by obtain ⟨a, b, c, d, e, f, g, _⟩ := T.l l hl; exact ⟨a, b, c, d, e, f, g⟩⟩
theorem TruF.right {F : FieldV} (O : F.Ok) {fs rl : List Int} {ls : List LookV} (T : TruF F fs rl ls) {i : Nat} {x : HTurf} {w : Int} (hx : F.hs[i]? = some x) (hw : fs[i]? = some w) :
    crs F.a F.b F.c x.p.toNat rl w ∈ rightC F.a F.b F.c (turfAt ls i x) rl := by
  have h1 := T.f i x w hx hw
  unfold rightC
  refine List.mem_filter.2 ⟨?_, ?_⟩
  · unfold allC turfAt
    refine List.mem_map.2 ⟨(w - x.lo).toNat, List.mem_range.2 (by dsimp only; omega), ?_⟩
    dsimp only
    congr 1
    omega
  · unfold suitsB turfAt
    rw [List.all_eq_true]
    intro l hl
    obtain ⟨hl1, hl2⟩ := List.mem_filter.1 hl
    obtain ⟨a, b, c, d, e, f, g, x', w', n, q1, q2, q3, q4, q5⟩ := T.l l hl1
    unfold isAt at hl2
    have hl3 := of_decide_eq_true hl2
    have hl4 : l.heap.toNat = i := by omega
    rw [hl4] at q1 q2
    rw [hx] at q1
    rw [hw] at q2
    cases q1
    cases q2
    unfold suits1 atD crs
    rw [List.getElem?_append_left (by rw [scan_len, T.rn]; omega), q3]
    exact decide_eq_true ⟨q4, q5⟩
theorem TruF.fell {F : FieldV} (O : F.Ok) {fs rl : List Int} {ls : List LookV} (T : TruF F fs rl ls) : (F.withL ls).fell rl := by
  refine ⟨falls_iff.2 (inR_of T.rn T.r), fun t ht => ?_⟩
  obtain ⟨j, hj, rfl⟩ := List.mem_mapIdx.1 ht
  have hj' : j < F.hs.length := hj
  have hx : F.hs[j]? = some (F.hs[j]'hj') := by simp
  have hw : fs[j]? = some (fs[j]'(by have := T.fl; omega)) := by simp
  exact possB_iff.2 ⟨_, T.right O hx hw⟩
theorem TruF.ne {F : FieldV} (O : F.Ok) {fs rl : List Int} {ls : List LookV} (T : TruF F fs rl ls) : (F.withL ls).ents ≠ [] := fell_ne (T.ok O) (T.fell O)
theorem TruF.can {F : FieldV} (O : F.Ok) {fs rl : List Int} {ls : List LookV} (T : TruF F fs rl ls) : (F.withL ls).canB = true := (canB_ents (T.ok O)).2 (T.ne O)
theorem TruF.val {F : FieldV} (O : F.Ok) {fs rl : List Int} {ls : List LookV} (T : TruF F fs rl ls) {i d : Nat} {x : HTurf} {w n : Int} (hx : F.hs[i]? = some x) (hw : fs[i]? = some w) (hn : (scan F.a F.b F.c x.p.toNat rl w)[d]? = some n) :
    (F.withL ls).val i d n := by
  refine ⟨rl, turfAt ls i x, _, T.fell O, ts_at (F := F.withL ls) hx, T.right O hx hw, ?_⟩
  unfold atD crs
  have hd : d < (scan F.a F.b F.c x.p.toNat rl w).length := (List.getElem?_eq_some_iff.1 hn).1
  rw [List.getElem?_append_left hd, hn]
  rfl
theorem TruF.wet {F : FieldV} (O : F.Ok) {fs rl : List Int} {ls : List LookV} (T : TruF F fs rl ls) {i d : Nat} {x : HTurf} {w n : Int} (hx : F.hs[i]? = some x) (hw : fs[i]? = some w) (hn : (scan F.a F.b F.c x.p.toNat rl w)[d]? = some n) :
    ((F.withL ls).wet (i : Nat) d).1 ≤ n ∧ n ≤ ((F.withL ls).wet (i : Nat) d).2 := by
  have hd : d < (scan F.a F.b F.c x.p.toNat rl w).length := (List.getElem?_eq_some_iff.1 hn).1
  rw [scan_len, T.rn] at hd
  exact (wet_ends (T.ok O) (T.ne O) (i := i) (d := d) (List.getElem?_eq_some_iff.1 hx).1 hd).1 n (T.val O hx hw hn)
theorem inR_at : ∀ {rs : List (Int × Int)} {l : List Int} {d : Nat} {r : Int × Int}, inR l rs → rs[d]? = some r → r.1 ≤ atD l d ∧ atD l d ≤ r.2
  | [], l, d, r, _, h => by simp at h
  | r0 :: rs, [], d, r, h, _ => by cases h
  | r0 :: rs, x :: l, 0, r, h, q => by
    simp at q
    subst q
    exact h.1
  | r0 :: rs, x :: l, d + 1, r, h, q => by
    have := inR_at (d := d) h.2 (by simpa using q)
    have hat : atD (x :: l) (d + 1) = atD l d := by unfold atD; rw [List.getElem?_cons_succ]
    rw [hat]
    exact this
theorem TruF.rain {F : FieldV} (O : F.Ok) {fs rl : List Int} {ls : List LookV} (T : TruF F fs rl ls) {d : Nat} {r : Int × Int} {n : Int} (hr : F.rs[d]? = some r) (hn : rl[d]? = some n) :
    ((F.withL ls).rain d).1 ≤ n ∧ n ≤ ((F.withL ls).rain d).2 ∧ r.1 ≤ ((F.withL ls).rain d).1 ∧ ((F.withL ls).rain d).2 ≤ r.2 := by
  obtain ⟨h1, ⟨l1, k1, z1⟩, l2, k2, z2⟩ := rain_ends (T.ok O) (T.ne O) (d := d) (List.getElem?_eq_some_iff.1 hr).1
  have h2 := h1 rl (T.fell O)
  have hat : atD rl d = n := by unfold atD; rw [hn]; rfl
  have h3 := inR_at (falls_iff.1 k1.1) (show (F.withL ls).rs[d]? = some r from hr)
  have h4 := inR_at (falls_iff.1 k2.1) (show (F.withL ls).rs[d]? = some r from hr)
  omega
theorem when_sure {F : FieldV} {L : List Int} {d : Nat} (h : whenV F L = some d) : d < F.rs.length ∧ ∀ i, i ∈ L → (F.wet i d).2 ≤ F.lim := by
  unfold whenV at h
  rw [List.find?_range_eq_some] at h
  obtain ⟨h1, h2, _⟩ := h
  refine ⟨by simpa using h2, fun i hi => ?_⟩
  have := List.all_eq_true.1 h1 i hi
  rw [sure_hi] at this
  exact of_decide_eq_true this
theorem when_all {F : FieldV} {d : Nat} (h : whenV F (allHeaps F) = some d) {i : Nat} (hi : i < F.hs.length) : ∃ m, whenV F [(i : Nat)] = some m ∧ m ≤ d := by
  obtain ⟨h1, h2⟩ := when_sure h
  have h3 : F.sure (i : Nat) d = true := by
    rw [sure_hi]
    exact decide_eq_true (h2 _ (List.mem_map.2 ⟨i, by simpa using hi, rfl⟩))
  cases q : whenV F [(i : Nat)] with
  | none =>
    unfold whenV at q
    rw [List.find?_eq_none] at q
    have := q d (by simpa using h1)
    simp [h3] at this
  | some m =>
    refine ⟨m, rfl, ?_⟩
    unfold whenV at q
    rw [List.find?_range_eq_some] at q
    obtain ⟨_, _, k3⟩ := q
    rcases Nat.lt_or_ge d m with k | k
    · have := k3 d k
      simp [h3] at this
    · exact k
theorem few_none {F : FieldV} (O : F.Ok) (hc : F.canB = true) : FewR F.looks.length (fun s => F.canWo (s : Nat)) 0 := by
  refine ⟨Nat.two_pow_pos _, ?_, fun s hs _ => ?_⟩
  · show F.canWo ((0 : Nat) : Int) = true
    rw [canWo_on]
    have : (fun i => !bitB ((0 : Nat) : Int) i) = fun _ => true := by
      funext i
      simp [bitB]
    rw [this, canOn_all]
    exact hc
  · have : popc 0 = 0 := by decide
    rcases Nat.eq_zero_or_pos (popc s) with k | k
    · exact .inr ⟨by omega, Nat.zero_le _⟩
    · exact .inl (by omega)
end Go.Proofs.Ytmdheijpnlonoaa

namespace Go.Proofs.Ytmdheijpnlonoaa
open Go Go.AbsE
set_option linter.unusedSimpArgs false
set_option maxRecDepth 100000
set_option maxHeartbeats 0
set_option linter.unusedVariables false
end Go.Proofs.Ytmdheijpnlonoaa

namespace Go.Proofs.Ytmdheijpnlonoaa
open Go Go.AbsE
set_option linter.unusedSimpArgs false
set_option maxRecDepth 100000
set_option maxHeartbeats 0
set_option linter.unusedVariables false
theorem heaps23_not {F : FieldV} (hno : ¬ F.Ok) (hsl rsl lsl : AVal) (h : AH) (A : FieldAt h F hsl rsl lsl) (hb1 : F.hs.length ≤ 40) (hb2 : F.rs.length ≤ 40) (hb3 : F.looks.length ≤ 40) :
    Runs Try.prog 23 [.agg (F.cells hsl rsl lsl)] h (fun en h' => en = .ret (.bool false) ∧ Ext h h') :=
  (heaps23_is F hsl rsl lsl h A hb1 hb2 hb3).mono fun en h' ⟨r, q, k, e⟩ => by
    cases r with
    | true => exact absurd (k.1 rfl) hno
    | false => exact ⟨q, e⟩
theorem heaps23_yes {F : FieldV} (O : F.Ok) (hsl rsl lsl : AVal) (h : AH) (A : FieldAt h F hsl rsl lsl) (hb1 : F.hs.length ≤ 40) (hb2 : F.rs.length ≤ 40) (hb3 : F.looks.length ≤ 40) :
    Runs Try.prog 23 [.agg (F.cells hsl rsl lsl)] h (fun en h' => en = .ret (.bool true) ∧ Ext h h') :=
  (heaps23_is F hsl rsl lsl h A hb1 hb2 hb3).mono fun en h' ⟨r, q, k, e⟩ => by
    cases r with
    | false => exact absurd (k.2 O) (by decide)
    | true => exact ⟨q, e⟩
end Go.Proofs.Ytmdheijpnlonoaa

namespace Go.Proofs.Ytmdheijpnlonoaa
open Go Go.AbsE
set_option linter.unusedSimpArgs false
set_option maxRecDepth 100000
set_option maxHeartbeats 0
set_option linter.unusedVariables false
noncomputable def ops43 : Array Oper := ((drawnOps Try.f4)[0]?).getD #[]
theorem befs43 : befs0 ops43 = [0, 0, 2, 7, 15, 31, 31, 31, 0, 319, 895, 2047] := by kernel_rfl
theorem size43 : ops43.size = 12 := by kernel_rfl
theorem pl43a : planX ops43 [0, 0, 258, 263, 271, 287, 287, 287, 0, 319, 895, 2047] [0, 1, 8, 2, 3, 4, 5, 6, 7, 9, 10, 11] = some (mkPlan ops43.toList [(0, 0, true, false), (1, 0, true, false), (8, 0, false, false), (2, 258, false, false), (3, 263, false, false), (4, 271, true, false), (5, 287, true, false), (6, 287, true, false), (7, 287, true, false), (9, 319, false, false), (10, 895, true, false), (11, 2047, true, false)]) := by kernel_rfl
theorem pl43b : planX ops43 [0, 0, 2, 263, 271, 287, 287, 287, 6, 319, 895, 2047] [0, 1, 2, 8, 3, 4, 5, 6, 7, 9, 10, 11] = some (mkPlan ops43.toList [(0, 0, true, false), (1, 0, true, false), (2, 2, false, false), (8, 6, false, false), (3, 263, false, false), (4, 271, true, false), (5, 287, true, false), (6, 287, true, false), (7, 287, true, false), (9, 319, false, false), (10, 895, true, false), (11, 2047, true, false)]) := by kernel_rfl
theorem pl43c : planX ops43 [0, 0, 2, 7, 15, 31, 31, 31, 15, 319, 895, 2047] [0, 1, 2, 3, 4, 5, 6, 7, 8, 9, 10, 11] = some (mkPlan ops43.toList [(0, 0, true, false), (1, 0, true, false), (2, 2, false, false), (3, 7, false, false), (4, 15, true, false), (5, 31, true, false), (6, 31, true, false), (7, 31, true, false), (8, 15, false, false), (9, 319, false, false), (10, 895, true, false), (11, 2047, true, false)]) := by kernel_rfl
theorem alts43 {P : Program} {c : FC} {k : List AItem} {id : Nat} {t : Tr AVal} {h : AH} {Q : AM → Prop}
    (ga : ∀ pl, planX ops43 [0, 0, 258, 263, 271, 287, 287, 287, 0, 319, 895, 2047] [0, 1, 8, 2, 3, 4, 5, 6, 7, 9, 10, 11] = some pl → GoE P c k Q ops43 pl (eraseT ops43.toList t) [] t h)
    (gb : ∀ pl, planX ops43 [0, 0, 2, 263, 271, 287, 287, 287, 6, 319, 895, 2047] [0, 1, 2, 8, 3, 4, 5, 6, 7, 9, 10, 11] = some pl → GoE P c k Q ops43 pl (eraseT ops43.toList t) [] t h)
    (gc : ∀ pl, planX ops43 [0, 0, 2, 7, 15, 31, 31, 31, 15, 319, 895, 2047] [0, 1, 2, 3, 4, 5, 6, 7, 8, 9, 10, 11] = some pl → GoE P c k Q ops43 pl (eraseT ops43.toList t) [] t h) :
    Go P c (.code (.region id ops43 true) :: k) t h Q := by
  refine Go.drawnX pl43c fun s hv => ?_
  have hb := fun i k hi hk => VB.before hv befs43 i k (by rw [size43]; exact hi) hk
  have h2_1 := hb 2 1 (by decide) (by decide)
  have h3_0 := hb 3 0 (by decide) (by decide)
  have h3_1 := hb 3 1 (by decide) (by decide)
  have h3_2 := hb 3 2 (by decide) (by decide)
  have h4_0 := hb 4 0 (by decide) (by decide)
  have h4_1 := hb 4 1 (by decide) (by decide)
  have h4_2 := hb 4 2 (by decide) (by decide)
  have h4_3 := hb 4 3 (by decide) (by decide)
  have h5_0 := hb 5 0 (by decide) (by decide)
  have h5_1 := hb 5 1 (by decide) (by decide)
  have h5_2 := hb 5 2 (by decide) (by decide)
  have h5_3 := hb 5 3 (by decide) (by decide)
  have h5_4 := hb 5 4 (by decide) (by decide)
  have h6_0 := hb 6 0 (by decide) (by decide)
  have h6_1 := hb 6 1 (by decide) (by decide)
  have h6_2 := hb 6 2 (by decide) (by decide)
  have h6_3 := hb 6 3 (by decide) (by decide)
  have h6_4 := hb 6 4 (by decide) (by decide)
  have h7_0 := hb 7 0 (by decide) (by decide)
  have h7_1 := hb 7 1 (by decide) (by decide)
  have h7_2 := hb 7 2 (by decide) (by decide)
  have h7_3 := hb 7 3 (by decide) (by decide)
  have h7_4 := hb 7 4 (by decide) (by decide)
  have d2 := VB.apart hv befs43 8 2 (by rw [size43]; decide) (by decide)
  have d3 := VB.apart hv befs43 8 3 (by rw [size43]; decide) (by decide)
  by_cases q2 : s.idxOf 8 < s.idxOf 2
  · refine ⟨_, _, _, pl43a, VB.alt hv befs43 size43 [(8, 2), (8, 3), (8, 4), (8, 5), (8, 6), (8, 7)] (by kernel_rfl) ?_, ga _ pl43a⟩
    intro e he
    simp only [List.mem_cons, List.not_mem_nil, or_false] at he
    rcases he with rfl | rfl | rfl | rfl | rfl | rfl <;> dsimp only <;> omega
  by_cases q3 : s.idxOf 8 < s.idxOf 3
  · refine ⟨_, _, _, pl43b, VB.alt hv befs43 size43 [(8, 3), (8, 4), (8, 5), (8, 6), (8, 7), (1, 8), (2, 8)] (by kernel_rfl) ?_, gb _ pl43b⟩
    intro e he
    simp only [List.mem_cons, List.not_mem_nil, or_false] at he
    rcases he with rfl | rfl | rfl | rfl | rfl | rfl | rfl <;> dsimp only <;> omega
  refine ⟨_, _, _, pl43c, VB.alt hv befs43 size43 [(0, 8), (1, 8), (2, 8), (3, 8)] (by kernel_rfl) ?_, gc _ pl43c⟩
  intro e he
  simp only [List.mem_cons, List.not_mem_nil, or_false] at he
  rcases he with rfl | rfl | rfl | rfl <;> dsimp only <;> omega
structure TrA where
  bx : Nat
  sc : AVal
  sw : AVal
  sb : AVal
  sls : List AVal
  fs : List Int
  rl : List Int
  ls : List LookV
structure TrM (F : FieldV) (a : TrA) (h : AH) : Prop where
  t : TruF F a.fs a.rl a.ls
  n : a.sls.length = F.hs.length
  sc : SliceOf h 4 a.sc (a.ls.map LookV.cells)
  sb : SliceOf h 1 a.sb (a.rl.map fun x => [AVal.int .i64 x])
  sw : SliceOf h 1 a.sw (a.sls.map fun x => [x])
  w : ∀ (k : Nat) x w sl, F.hs[k]? = some x → a.fs[k]? = some w → a.sls[k]? = some sl → SliceOf h 1 sl ((scan F.a F.b F.c x.p.toNat a.rl w).map fun x => [AVal.int .i64 x])
theorem TrM.ext {F : FieldV} {a : TrA} {h h' : AH} (k : TrM F a h) (e : Ext h h') : TrM F a h' :=
  ⟨k.t, k.n, k.sc.ext e, k.sb.ext e, k.sw.ext e, fun i x w sl p q r => (k.w i x w sl p q r).ext e⟩
theorem flat_id1 : ∀ l : List AVal, (l.flatMap fun x => [x]) = l
  | [] => rfl
  | x :: l => by rw [List.flatMap_cons, flat_id1 l]; rfl
theorem TrM.mk' {F : FieldV} {fs rl : List Int} {ls : List LookV} {sls : List AVal} {sc sw sb : AVal} {h : AH} {lo bx : Nat} (T : TruF F fs rl ls) (hn : sls.length = F.hs.length)
    (G1 : Grow h 59 4 lo sc ls.length (ls.flatMap LookV.cells)) (G2 : Grow h 3 1 lo sb F.rs.length (i64s rl)) (G3 : Grow h 50 1 lo sw F.hs.length sls) (G4 : WetG h lo F fs rl sls) : TrM F ⟨bx, sc, sw, sb, sls, fs, rl, ls⟩ h := by
  refine ⟨T, hn, ?_, nums_sl T.rn G2, ?_, fun k x w sl a b c => nums_sl (scan_len _ _ _ _ _ _) (G4 k x w sl a b c)⟩
  · refine Grow.sliceOf (L := ls.map LookV.cells) (cs := ls.flatMap LookV.cells) (by rw [List.length_map]; exact G1) fun i v q => flat_slice (f := LookV.cells) (sz := 4) (fun _ => rfl) q
  · refine Grow.sliceOf (L := sls.map fun x => [x]) (cs := sls) (by rw [List.length_map, hn]; exact G3) fun i v q => ?_
    have := flat_slice (l := sls) (f := fun x : AVal => [x]) (sz := 1) (fun _ => rfl) q
    rw [flat_id1] at this
    exact this
end Go.Proofs.Ytmdheijpnlonoaa
