import Derived.Test.YteibheeleeengaaMAR
import Derived.Test.YteibheeleeengaaMAJ
import Derived.Test.YteibheeleeengaaMAL
import Derived.Test.YteibheeleeengaaMAK
import Derived.Test.YteibheeleeengaaMAM
import Derived.Test.YteibheeleeengaaMAG
import Derived.Deep.Slices
import Derived.Lib.SmallJoins
import Derived.Carry
import Derived.Laws.IdiomArrays
import Derived.Test.YteibheeleeengaaRows
import Derived.WalkKit
import Derived.ProofKit
import Derived.OpenShut
namespace Go.Proofs.Yteibheeleeengaa
open Go Go.AbsE
set_option linter.unusedSimpArgs false
set_option maxRecDepth 100000
set_option linter.unusedVariables false
def CutV.leakN (C : CutV) (n : Int) : CutV := ⟨C.dl, C.dh, n, n, C.rs, C.most, C.bs, C.ls⟩
theorem leakN_ok {C : CutV} (O : C.Ok) {n : Int} (hn : C.kl ≤ n ∧ n ≤ C.kh) : (C.leakN n).Ok :=
 ⟨O.nr, O.r, O.m, O.d, by have := O.k; show n ≤ n ∧ 0 ≤ n ∧ n ≤ 10; omega, O.nb, O.b, O.nl, O.l⟩
theorem mem_truths {C : CutV} {x : (Int × Int) × List (Int × Int)} : x ∈ C.truths ↔ (C.kl ≤ x.1.1 ∧ x.1.1 ≤ C.kh) ∧ x.1.2 = (C.all : Int) ∧ C.course x.1.1 C.all = some x.2 := by
 constructor
 ·intro hx
  obtain ⟨s, hs, hl⟩ := learn_mem hx
  obtain ⟨h1, h2, h3⟩ := learnL_mem hl
  have hsa : s = C.all := List.mem_singleton.1 hs
  subst hsa;exact ⟨mem_upto.1 h1, h2, h3⟩
 ·rintro ⟨h1, h2, h3⟩
  unfold CutV.truths CutV.learn
  rw [List.flatMap_cons, List.flatMap_nil, List.append_nil]
  unfold CutV.learnL
  refine List.mem_filterMap.2 ⟨x.1.1, mem_upto.2 h1, ?_⟩;rw [h3, ← h2]
  rfl
theorem leak_some {C : CutV} {n : Int} (hn : C.kl ≤ n ∧ n ≤ C.kh) {c : List (Int × Int)} (hc : C.course n C.all = some c) : ((n, (C.all : Int)), c) ∈ C.truths := mem_truths.2 ⟨hn, rfl, hc⟩
theorem leakN_mem {C : CutV} {n : Int} {x : (Int × Int) × List (Int × Int)} : x ∈ (C.leakN n).truths ↔ x.1.1 = n ∧ x.1.2 = (C.all : Int) ∧ C.course n C.all = some x.2 := by
 rw [mem_truths]
 constructor
 ·rintro ⟨h1, h2, h3⟩
  have h4 : x.1.1 = n := by
   have : n ≤ x.1.1 ∧ x.1.1 ≤ n := h1
   omega
  rw [h4] at h3;exact ⟨h4, h2, h3⟩
 ·rintro ⟨h1, h2, h3⟩;refine ⟨?_, h2, by rw [h1]; exact h3⟩
  show n ≤ x.1.1 ∧ x.1.1 ≤ n
  omega
theorem leakN_none {C : CutV} {n : Int} : (C.leakN n).truths = [] ↔ C.course n C.all = none := by
 constructor
 ·intro h
  cases hc : C.course n C.all with
  | none => rfl
  | some c =>
   have := (leakN_mem (C := C) (n := n) (x := ((n, (C.all : Int)), c))).2 ⟨rfl, rfl, hc⟩
   rw [h] at this;cases this
 ·intro h
  refine List.eq_nil_iff_forall_not_mem.2 fun x hx => ?_
  obtain ⟨_, _, h3⟩ := leakN_mem.1 hx
  rw [h] at h3;cases h3
theorem leak_ends {C : CutV} (O : C.Ok) (hT : C.truths ≠ []) : (C.leakN (joinL (C.truths.map leakK)).1).truths ≠ [] ∧ (C.leakN (joinL (C.truths.map leakK)).2).truths ≠ [] := by
 have hin : ∀ p, p ∈ C.truths.map leakK → InSp p := fun p hp => by
  obtain ⟨x, hx, rfl⟩ := List.mem_map.1 hp
  exact (learn_fit O hx).2.1
 obtain ⟨_, ⟨p, p1, p2⟩, ⟨q, q1, q2⟩⟩ := join_spec (L := C.truths.map leakK) (by simpa using hT) hin
 obtain ⟨x, hx, rfl⟩ := List.mem_map.1 p1
 obtain ⟨y, hy, rfl⟩ := List.mem_map.1 q1
 constructor
 ·rw [← p2]
  intro h
  have := leakN_none.1 h
  rw [show (leakK x).1 = x.1.1 from rfl, (mem_truths.1 hx).2.2] at this;cases this
 ·rw [← q2]
  intro h
  have := leakN_none.1 h
  rw [show (leakK y).2 = y.1.1 from rfl, (mem_truths.1 hy).2.2] at this;cases this
theorem leak_within {C : CutV} {n : Int} (hn : C.kl ≤ n ∧ n ≤ C.kh) (h : (C.leakN n).truths ≠ []) : (joinL (C.truths.map leakK)).1 ≤ n ∧ n ≤ (joinL (C.truths.map leakK)).2 := by
 cases hc : C.course n C.all with
 | none => exact absurd (leakN_none.2 hc) h
 | some c => exact join_mem (p := (n, n)) (List.mem_map.2 ⟨_, leak_some hn hc, rfl⟩)
theorem joinL_all {L : List (Int × Int)} {p : Int × Int} (hp : InSp p) (hne : L ≠ []) (h : ∀ x, x ∈ L → x = p) : joinL L = p := by
 obtain ⟨_, ⟨a, a1, a2⟩, ⟨b, b1, b2⟩⟩ := join_spec hne (fun x hx => by rw [h x hx]; exact hp)
 rw [h a a1] at a2;rw [h b b1] at b2;exact Prod.ext a2.symm b2.symm
theorem leakN_at {C : CutV} (O : C.Ok) {n : Int} (hn : C.kl ≤ n ∧ n ≤ C.kh) (h : (C.leakN n).truths ≠ []) {d : Nat} (hd : d ≤ C.rs.length) (v : Int) : (((C.leakN n).at d).1 ≤ v ∧ v ≤ ((C.leakN n).at d).2) ↔ ∃ P, C.Path n C.ls P ∧ P d = v := by
 cases hc : C.course n C.all with
 | none => exact absurd (leakN_none.2 hc) h
 | some c =>
  have hlt : d < c.length := by rw [course_len hc]; omega
  have hcd := List.getElem?_eq_getElem hlt
  have hin := course_in O hc c[d] (List.getElem_mem hlt)
  have hm := O.m
  have h1 : (C.leakN n).at d = c[d] := by
   unfold CutV.at
   refine joinL_all ⟨by omega, by omega⟩ (by simpa using h) fun x hx => ?_
   obtain ⟨y, hy, rfl⟩ := List.mem_map.1 hx
   obtain ⟨_, _, h3⟩ := leakN_mem.1 hy
   rw [hc] at h3
   have h4 : c = y.2 := Option.some.inj h3
   unfold atK
   rw [← h4, hcd]
   rfl
  rw [h1]
  have := (course_some O hc).2 d c[d] hcd v
  rw [only_all] at this;exact this
theorem path_look {C : CutV} {n k : Int} {d : Nat} {P : Nat → Int} : C.Path n (C.ls ++ [⟨(d : Int), k, k⟩]) P ↔ C.Path n C.ls P ∧ P d = k := by
 constructor
 ·intro h
  refine ⟨⟨h.p0, h.next, fun l hl => h.look l (List.mem_append_left _ hl)⟩, ?_⟩
  have := h.look ⟨(d : Int), k, k⟩ (by simp)
  dsimp only at this
  rw [Int.toNat_natCast] at this
  omega
 ·rintro ⟨h, q⟩;refine ⟨h.p0, h.next, fun l hl => ?_⟩
  rcases List.mem_append.1 hl with hl | hl
  ·exact h.look l hl
  ·cases List.mem_singleton.1 hl
   dsimp only
   rw [Int.toNat_natCast]
   omega
def CutV.lookN (C : CutV) (n : Int) (d : Nat) (k : Int) : CutV := (C.leakN n).with (C.ls ++ [⟨(d : Int), k, k⟩])
theorem lookN_ok {C : CutV} (O : C.Ok) {n : Int} (hn : C.kl ≤ n ∧ n ≤ C.kh) (hl : C.ls.length < 5) {d : Nat} (hd : d ≤ C.rs.length) {k : Int} (hk : 0 ≤ k ∧ k ≤ 100) : (C.lookN n d k).Ok :=
 saw_ok (leakN_ok O hn) (by rw [List.length_append]; show C.ls.length + 1 ≤ 5; omega) fun l q => by
  rcases List.mem_append.1 q with q | q
  ·exact O.l l q
  ·cases List.mem_singleton.1 q
   unfold LV.Ok
   dsimp only
   show (0 ≤ (d : Int) ∧ (d : Int) ≤ (C.rs.length : Nat)) ∧ _
   omega
theorem lookN_iff {C : CutV} (O : C.Ok) {n : Int} (hn : C.kl ≤ n ∧ n ≤ C.kh) (h : (C.leakN n).truths ≠ []) (hl : C.ls.length < 5) {d : Nat} (hd : d ≤ C.rs.length) {k : Int} (hk : 0 ≤ k ∧ k ≤ 100) : (C.lookN n d k).truths ≠ [] ↔ (((C.leakN n).at d).1 ≤ k ∧ k ≤ ((C.leakN n).at d).2) := by
 rw [leakN_at O hn h hd]
 have OX := lookN_ok O hn hl hd hk
 constructor
 ·intro hT
  obtain ⟨x, hx⟩ := List.exists_mem_of_ne_nil _ hT
  obtain ⟨h1, _, h3⟩ := mem_truths.1 hx
  have h4 : x.1.1 = n := by
   have : n ≤ x.1.1 ∧ x.1.1 ≤ n := h1
   omega
  obtain ⟨⟨P, hP⟩, _⟩ := course_some OX h3
  rw [only_all, h4] at hP
  have hP2 : C.Path n (C.ls ++ [⟨(d : Int), k, k⟩]) P := ⟨hP.p0, hP.next, hP.look⟩
  exact ⟨P, path_look.1 hP2⟩
 ·rintro ⟨P, hP⟩ hT
  have hP2 := path_look.2 hP
  have hP3 : (C.lookN n d k).Path n (C.lookN n d k).ls P := ⟨hP2.p0, hP2.next, hP2.look⟩
  have := (truth_in OX (k := n) (show n ≤ n ∧ n ≤ n by omega) hP3).1
  exact this hT
theorem clash_iff {X : CutV} (O : X.Ok) : (X.truths ≠ [] → X.clashR = (0, 4)) ∧ (X.truths = [] → ∃ q : Nat, X.clashR = ((q : Int), 0)) := by
 rw [clashR_is O]
 unfold CutV.clashQ
 constructor
 ·intro hT
  rw [noclash O hT fun s _ h => clash_more O h]
 ·intro hT
  obtain ⟨q, hq, _⟩ := clash_ex O hT
  rw [hq];exact ⟨q, rfl⟩
end Go.Proofs.Yteibheeleeengaa

set_option linter.unusedSimpArgs false
set_option linter.unusedVariables false
namespace Go.AbsE
open Go
section
variable {P : Program} {t : Tr AVal} {h : AH} {dst : Option Tmp} {tt : TypeId} {pos : String} {after : Array Edge} {guard : Option (Nat × Bool)} {x y : Operand}
variable {c : FC} {k : List AItem} {Q : AM → Prop} {J : Jump} {all : Array Oper} {l lrest : List Oper} {i d : Nat}
def CopR (h : AH) (el eb : TypeId) (b lo : Nat) (v : AVal) (L : List (List AVal)) : Prop := (L = [] ∧ v = .slice b 0 0 0 ∧ Has h b (.cells .plain [] eb)) ∨ (0 < L.length ∧ ∃ B, lo ≤ B ∧ v = .gsl B 0 0 L.length ∧ Has h B (.cells .grow L.flatten el))
theorem CopR.ext {h h' : AH} {el eb : TypeId} {b lo : Nat} {v : AVal} {L : List (List AVal)} (k : CopR h el eb b lo v L) (e : Ext h h') : CopR h' el eb b lo v L := by
 rcases k with ⟨k1, k2, k3⟩ | ⟨k, b, k1, k2, k3⟩
 ·exact .inl ⟨k1, k2, k3.ext e⟩
 ·exact .inr ⟨k, b, k1, k2, k3.ext e⟩
theorem GoR.copyR {el el2 eb t1 t2 : TypeId} {sz bytes b : Nat} {z s : AVal} {L : List (List AVal)} (hl : l = ⟨dst, .call ⟨.builtin .append, #[x, y], #[t1, t2]⟩, tt, pos, after, guard⟩ :: lrest) (hw : wantedA all t ⟨dst, .call ⟨.builtin .append, #[x, y], #[t1, t2]⟩, tt, pos, after, guard⟩ = some true)
  (hu1 : P.underlying t1 = some (.slice el)) (hu2 : P.underlying t2 = some (.slice el2)) (hs : sizeT P el = some sz) (hby : bytesT P el = some bytes) (hz : zeroT P el = some z) (hzl : Nat.beq z.cells.length sz = true) (hsz : Nat.blt 0 sz = true)
  (hx : ev t x = some (.slice b 0 0 0)) (hb : Has h b (.cells .plain [] eb)) (hy : ev t y = some s) (hsl : SliceOf h sz s L) (hroom : (0 + L.length + 300) * 2 * (bytes + 1) < 281474976710656) (hd : dst = some d) (hdn : Nat.blt d c.n = true)
  (g : ∀ v h1, Ext h h1 → CopR h1 el eb b h.next v L → GoR P J c k Q (runOps P c.n all lrest (i + 1) (t.put (pth d) (some v)) h1)) : GoR P J c k Q (runOps P c.n all l i t h) := by
 rcases Nat.eq_zero_or_pos L.length with hL | hL
 ·have hL := List.eq_nil_of_length_eq_zero hL
  subst hL
  obtain ⟨h1, hst⟩ : ∃ h1, h.set b (some (.cells .plain [] eb)) = some h1 := by obtain ⟨tt, nx⟩ := h; exact ⟨_, rfl⟩
  obtain ⟨s1, s2⟩ := AH.get_set hst
  have e1 : Ext h h1 := ⟨by omega, fun c hc => by
   rw [s2]
   split
   ·rename_i q; rw [q]; exact hb.2.symm
   ·rfl⟩
  have hop : aOp P t h ⟨dst, .call ⟨.builtin .append, #[x, y], #[t1, t2]⟩, tt, pos, after, guard⟩ = some (.val (.slice b 0 0 0) h1) := by
   show opCall P t h ⟨.builtin .append, #[x, y], #[t1, t2]⟩ tt = _
   have he : evs t [x, y] = some [.slice b 0 0 0, s] := by simp only [evs, mapO, hx, hy]
   have hlt : Nat.blt ((0 + 0 + 300) * 2 * (bytes + 1)) 281474976710656 = true := Nat.ble_eq_true_of_le hroom
   have hlen : lenA s = some 0 := hsl.len
   have hsrc : srcCells h sz 0 s = some [] := hsl.src
   have ha : aAppend P h t1 t2 (.slice b 0 0 0) s = some (.val (.slice b 0 0 0) h1) := by
    unfold aAppend
    rw [hu1, hu2]
    simp only [hs, hby, hz, show lenA (.slice b 0 0 0) = some 0 from rfl, hlen, hsrc, hlt, hsz, hzl, cond_true]
    unfold appSlice
    have hle : Nat.ble (0 + 0) 0 = true := rfl
    rw [hle, cond_true]
    have : AbsE.storeCells h b (0 + 0 * sz) [] = some h1 := by
     unfold AbsE.storeCells
     rw [hb.2]
     have hs0 : splice ([] : List AVal) (0 + 0 * sz) [] = some [] := by rw [Nat.zero_mul]; rfl
     have hr0 : Kd.isRo .plain = false := rfl
     have hc0 : scalars [] = true := rfl
     simp only [hr0, hc0, cond_false, cond_true, hs0]
     exact hst
    rw [this]
   simp only [opCall, he, callWith, aBuiltin, ha]
  exact GoR.op hl hw hop (prepD_some hd hdn) (g _ h1 e1 (.inl ⟨rfl, rfl, hb.ext e1⟩))
 ·exact GoR.appendNew hl hw hu1 hu2 hs hby hz hzl hsz hx hb hy hsl hL hroom hd hdn fun h1 e1 f1 => g _ h1 e1 (.inr ⟨hL, _, Nat.le_refl _, rfl, f1⟩)
theorem GoR.copy1R {el el2 eb t1 t2 : TypeId} {sz bytes b b2 lo : Nat} {z v : AVal} {new : List AVal} {g2 : Kd} {L : List (List AVal)} (hl : l = ⟨dst, .call ⟨.builtin .append, #[x, y], #[t1, t2]⟩, tt, pos, after, guard⟩ :: lrest) (hw : wantedA all t ⟨dst, .call ⟨.builtin .append, #[x, y], #[t1, t2]⟩, tt, pos, after, guard⟩ = some true)
  (hu1 : P.underlying t1 = some (.slice el)) (hu2 : P.underlying t2 = some (.slice el2)) (hs : sizeT P el = some sz) (hby : bytesT P el = some bytes) (hz : zeroT P el = some z) (hzl : Nat.beq z.cells.length sz = true) (hsz : Nat.blt 0 sz = true)
  (hx : ev t x = some v) (hy : ev t y = some (.slice b2 0 1 1)) (hb2 : Has h b2 (.cells g2 new el2)) (hv : CopR h el eb b lo v L) (hll : ∀ l, l ∈ L → l.length = sz) (hnl : new.length = sz) (hns : scalars new = true) (hroom : (L.length + 301) * 2 * (bytes + 1) < 281474976710656) (hlo : lo ≤ h.next) (hd : dst = some d) (hdn : Nat.blt d c.n = true)
  (g : ∀ b' h1, lo ≤ b' → ExtF (fun c => lo ≤ c) h h1 → Has h1 b' (.cells .grow (L ++ [new]).flatten el) → GoR P J c k Q (runOps P c.n all lrest (i + 1) (t.put (pth d) (some (.gsl b' 0 0 (L.length + 1)))) h1)) : GoR P J c k Q (runOps P c.n all l i t h) := by
 have hnb : Nat.beq new.length sz = true := by rw [hnl]; simp
 rcases hv with ⟨rfl, rfl, hb⟩ | ⟨hL, B, hB, rfl, hBh⟩
 ·have S1 : SliceOf h sz (.slice b2 0 1 1) [new] := by
   refine .mk (b := b2) (off := 0) (len := 1) rfl rfl hb2.1 rfl (fun l hl => by rw [List.mem_singleton.1 hl]; exact hnl) ?_
   unfold AbsE.loadCells
   rw [hb2.2]
   show slice? new 0 (1 * sz) = some ([new].flatten)
   rw [Nat.one_mul]
   simpa using slice_all hnl
  exact GoR.appendNew hl hw hu1 hu2 hs hby hz hzl hsz hx hb hy S1 (by simp) (by simpa using hroom) hd hdn fun h1 e1 f1 => g _ h1 hlo (.of e1) f1
 ·refine GoR.append1F hl hw rfl hu1 hu2 hs hby hz hzl hsz hx hy hb2 hnb hns (lo := lo) (cs := L.flatten) ⟨flatten_len hll, .inr ⟨hL, B, hB, rfl, hBh⟩⟩ hroom hd hdn fun s' h1 y G => ?_
  obtain ⟨G1, G2⟩ := G
  rcases G2 with ⟨_, q⟩ | ⟨_, b', q1, q2, q3⟩
  ·omega
  subst q2
  refine g b' h1 (by omega) ⟨y.1, fun c hc hn => y.2 c hc fun q => hn ?_⟩ (by simpa using q3)
  injection q with q
  omega
end
end Go.AbsE

namespace Go.Proofs.Yteibheeleeengaa
open Go Go.AbsE
set_option linter.unusedSimpArgs false
set_option maxRecDepth 100000
set_option maxHeartbeats 0
set_option linter.unusedVariables false
abbrev FarC (C : CutV) : Prop := ¬ (C.rs.length ≤ 40 ∧ C.bs.length ≤ 40 ∧ C.ls.length ≤ 40)
theorem law4_far {C : CutV} {r b l : AVal} {h : AH} (A : CutAt h C r b l) (hb : C.rs.length < 9223372036854775808 ∧ C.bs.length < 9223372036854775808 ∧ C.ls.length < 9223372036854775808) (F : FarC C) {w1 : Int} : Runs Try.prog 4 [.agg (C.cells r b l), .int .u8 w1] h (fun en h' => en = .ret (.bool true) ∧ Ext h h') := by
 have hF := fun {h'} (e : Ext h h') => far_ok (A.ext e) hb
 rw [decide_eq_true F] at hF
 have hsm := A.same
 unfold CutV.cells at *
 have e0 : Ext h h := Ext.refl _
 refine Runs.intro aFunc4 rfl rfl rfl rfl fun rest => ?_;apply gS;refine gR rfl ?_;refine GoR.box rfl rfl rfl rfl rfl rfl fun h0 x0 f0 => ?_;replace e0 := e0.trans x0;refine gP ?_;apply gE;iterate 2 apply gS
 refine gR rfl ?_;refine gO rfl rfl (ld28 rfl f0 rfl) rfl ?_;refine GoR.call rfl rfl (aCF aFunc20 rfl) (hF e0) ?_ np;rintro v1 h1 ⟨q, x1⟩;cases q;refine ⟨_, rfl, ?_⟩;replace e0 := e0.trans x1;apply gE;refine gC (b := true) rfl ?_;apply gS;refine gR rfl ?_;refine GoR.call rfl rfl (aCF aFunc11 rfl) (awake_ok) ?_ np;rintro v2 h2 ⟨q, x2⟩;cases q;refine ⟨_, rfl, ?_⟩;replace e0 := e0.trans x2;refine gP ?_;apply gE;exact gW Try.func4 rfl rfl ⟨rfl, e0⟩
theorem law4_bad {C : CutV} {r b l : AVal} {h : AH} (A : CutAt h C r b l) (hb : C.rs.length ≤ 40 ∧ C.bs.length ≤ 40 ∧ C.ls.length ≤ 40) (O : ¬ C.Ok) {w1 : Int} : Runs Try.prog 4 [.agg (C.cells r b l), .int .u8 w1] h (fun en h' => en = .ret (.bool true) ∧ Ext h h') := by
 have hF := fun {h'} (e : Ext h h') => far_ok (A.ext e) (by omega)
 rw [decide_eq_false (fun w => w hb)] at hF
 have hR := fun {h'} (e : Ext h h') => Cut21_ok (A.ext e) hb.1 hb.2.1 hb.2.2
 rw [decide_eq_false O] at hR
 have hD := fun {h'} (e : Ext h h') => Depth_ok (A.ext e) hb.1 hb.2.1 hb.2.2 0
 rw [show C.depthR 0 = (zSp, 1) from CutV.ok_no O] at hD
 have hC := fun {h'} (e : Ext h h') => Clash_ok (A.ext e) hb.1 hb.2.1 hb.2.2
 rw [show C.clashR = (0, 1) from CutV.ok_no O] at hC
 unfold zSp spC at *
 dsimp only at hD hC
 have hsm := A.same
 unfold CutV.cells at *
 have e0 : Ext h h := Ext.refl _
 refine Runs.intro aFunc4 rfl rfl rfl rfl fun rest => ?_;apply gS;refine gR rfl ?_;refine GoR.box rfl rfl rfl rfl rfl rfl fun h0 x0 f0 => ?_;have := e0.1;replace e0 := e0.trans x0;have := f0.1;refine gP ?_;apply gE;iterate 2 apply gS
 refine gR rfl ?_;refine gO rfl rfl (ld28 rfl f0 rfl) rfl ?_;refine GoR.call rfl rfl (aCF aFunc20 rfl) (hF e0) ?_ np;rintro v1 h1 ⟨q, x1⟩;cases q;refine ⟨_, rfl, ?_⟩;replace f0 := f0.ext x1;replace e0 := e0.trans x1;apply gE;refine gC (b := false) rfl ?_;refine gD ?_;apply gS;refine gR rfl ?_;refine gO rfl rfl (ld28 rfl f0 rfl) rfl ?_;refine GoR.call rfl rfl (aCF aFunc17 rfl) (hD e0) ?_ np;rintro v2 h2 ⟨q, x2⟩;cases q;refine ⟨_, rfl, ?_⟩;replace f0 := f0.ext x2;replace e0 := e0.trans x2;iterate 3 refine gP ?_
 refine GoR.alloc rfl rfl rfl zt23 rfl rfl fun h3 x3 f3 => ?_;have := e0.1;have := f0.1;replace f0 := f0.ext x3;replace e0 := e0.trans x3;have := f3.1;refine GoR.store rfl rfl rfl rfl rfl rfl f3 rfl sz23 rfl rfl rfl fun h4 u4 => ?_;replace f3 := u4.has f3;replace f0 := f0.upd u4 (by omega);replace e0 := e0.upd u4 (by omega);refine gP ?_;apply gE;iterate 2 apply gS
 refine gR rfl ?_;refine gO rfl rfl (ld28 rfl f0 rfl) rfl ?_;refine GoR.call rfl rfl (aCF aFunc21 rfl) (hR e0) ?_ np;rintro v5 h5 ⟨q, x5⟩;cases q;refine ⟨_, rfl, ?_⟩;replace f3 := f3.ext x5;replace f0 := f0.ext x5;replace e0 := e0.trans x5;refine gP ?_;apply gE;refine gC (b := true) rfl ?_;apply gS;refine gR rfl ?_;refine gO rfl rfl (ld28 rfl f0 rfl) rfl ?_;refine GoR.call rfl rfl (aCF aFunc14 rfl) (hC e0) ?_ np;rintro v6 h6 ⟨q, x6⟩;cases q;refine ⟨_, rfl, ?_⟩;replace f3 := f3.ext x6;replace e0 := e0.trans x6;iterate 5 refine gP ?_
 apply gE;apply gS;refine gR rfl ?_;refine gP ?_;refine gO rfl rfl (kET rfl rfl) rfl ?_;iterate 3 refine gP ?_
 refine gO rfl rfl (kET rfl rfl) rfl ?_;iterate 2 refine gP ?_
 refine gO rfl rfl (ld23 rfl f3 rfl) rfl ?_;refine gO rfl rfl (aOp_build zt23 hu23 pl23 rfl rfl) rfl ?_;refine gO rfl rfl (aOp_eqlSpan spanT23 rfl rfl (r := true) (by simp)) rfl ?_;iterate 3 refine gP ?_
 refine gO rfl rfl (kET rfl rfl) rfl ?_;iterate 2 refine gP ?_
 refine GoR.call rfl rfl (aCF aFunc11 rfl) (awake_ok) ?_ np;rintro v7 h7 ⟨q, x7⟩;cases q;refine ⟨_, rfl, ?_⟩;replace e0 := e0.trans x7;iterate 2 refine gP ?_
 apply gE;exact gW Try.func4 rfl rfl ⟨rfl, e0⟩
theorem law4_ok {C : CutV} {r b l : AVal} {h : AH} (A : CutAt h C r b l) (O : C.Ok) {a1 : Nat} (g1 : a1 < 256) : Runs Try.prog 4 [.agg (C.cells r b l), .int .u8 (a1 : Nat)] h (fun en h' => en = .ret (.bool true) ∧ Ext h h') := by
 have hnr := O.nr
 have hnb := O.nb
 have hnl := O.nl
 have hk := O.k
 have hm := O.m
 have hF := fun {h'} (e : Ext h h') => far_ok (A.ext e) (by omega)
 rw [decide_eq_false (fun w => w ⟨by omega, by omega, by omega⟩)] at hF
 have hR := fun {h'} (e : Ext h h') => Cut21_ok (A.ext e) (by omega) (by omega) (by omega)
 rw [decide_eq_true O] at hR
 have hl1 := A.rs.len
 have hl2 := A.bs.len
 have hl3 := A.ls.len
 rw [List.length_map] at hl1 hl2 hl3
 have hsm := A.same
 have hD := fun {h'} (e : Ext h h') => Depth_ok (A.ext e) (by omega) (by omega) (by omega) 0
 rw [show C.depthR 0 = C.tr (C.at 0) zSp from depthR_is O (d := 0) (by omega)] at hD
 have hD2 := fun {h'} (e : Ext h h') => Depth_ok (A.ext e) (by omega) (by omega) (by omega) (C.rs.length + 1)
 rw [show C.depthR (C.rs.length + 1) = (zSp, 2) from (CutV.ok_yes O).trans (CutV.day_no (by omega))] at hD2
 have hFl := fun {h'} (e : Ext h h') => Floats_ok (A.ext e) (by omega) (by omega) (by omega) (C.bs.length : Nat) 0 0
 rw [show C.floatsR (C.bs.length : Nat) 0 0 = (0, 2) from (CutV.ok_yes O).trans (CutV.boat_no (by omega))] at hFl
 have hDy := fun {h'} (e : Ext h h') => Days_ok (A.ext e) (by omega) (by omega) (by omega) (-1) 0
 rw [show C.daysR (-1) 0 = (zSp, 2) from (CutV.ok_yes O).trans (CutV.boat_no (by omega))] at hDy
 have hTo := fun {h'} (e : Ext h h') => Together_ok (A.ext e) (by omega) (by omega) (by omega) (-1)
 rw [show C.togetherR (-1) = (0, 2) from (CutV.ok_yes O).trans (CutV.day_no (by omega))] at hTo
 have hC := fun {h'} (e : Ext h h') => Clash_ok (A.ext e) (by omega) (by omega) (by omega)
 have hL := fun {h'} (e : Ext h h') => Leak_ok (A.ext e) (by omega) (by omega) (by omega)
 rw [show C.leakR = C.tr (joinL (C.truths.map leakK)) zSp from CutV.ok_yes O] at hL
 unfold zSp spC at *
 dsimp only at hD hC hD2 hDy
 by_cases hT : C.truths = []
 ·rw [CutV.tr_no hT] at hD hL
  obtain ⟨cq, hcq⟩ := (clash_iff O).2 hT
  rw [hcq] at hC
  dsimp only at hD hC hL
  unfold CutV.cells at *
  have e0 : Ext h h := Ext.refl _
  refine Runs.intro aFunc4 rfl rfl rfl rfl fun rest => ?_;apply gS;refine gR rfl ?_;refine GoR.box rfl rfl rfl rfl rfl rfl fun h0 x0 f0 => ?_;have := e0.1;replace e0 := e0.trans x0;have := f0.1;refine gP ?_;apply gE;iterate 2 apply gS
  refine gR rfl ?_;refine gO rfl rfl (ld28 rfl f0 rfl) rfl ?_;refine GoR.call rfl rfl (aCF aFunc20 rfl) (hF e0) ?_ np;rintro v1 h1 ⟨q, x1⟩;cases q;refine ⟨_, rfl, ?_⟩;replace f0 := f0.ext x1;replace e0 := e0.trans x1;apply gE;refine gC (b := false) rfl ?_;refine gD ?_;apply gS;refine gR rfl ?_;refine gO rfl rfl (ld28 rfl f0 rfl) rfl ?_;refine GoR.call rfl rfl (aCF aFunc17 rfl) (hD e0) ?_ np;rintro v2 h2 ⟨q, x2⟩;cases q;refine ⟨_, rfl, ?_⟩;replace f0 := f0.ext x2;replace e0 := e0.trans x2;iterate 3 refine gP ?_
  refine GoR.alloc rfl rfl rfl zt23 rfl rfl fun h3 x3 f3 => ?_;have := e0.1;have := f0.1;replace f0 := f0.ext x3;replace e0 := e0.trans x3;have := f3.1;refine GoR.store rfl rfl rfl rfl rfl rfl f3 rfl sz23 rfl rfl rfl fun h4 u4 => ?_;replace f3 := u4.has f3;replace f0 := f0.upd u4 (by omega);replace e0 := e0.upd u4 (by omega);refine gP ?_;apply gE;iterate 2 apply gS
  refine gR rfl ?_;refine gO rfl rfl (ld28 rfl f0 rfl) rfl ?_;refine GoR.call rfl rfl (aCF aFunc21 rfl) (hR e0) ?_ np;rintro v5 h5 ⟨q, x5⟩;cases q;refine ⟨_, rfl, ?_⟩;replace f3 := f3.ext x5;replace f0 := f0.ext x5;replace e0 := e0.trans x5;refine gP ?_;apply gE;refine gC (b := false) rfl ?_;refine gD ?_;apply gS;refine gR rfl ?_;refine gO rfl rfl (ld28 rfl f0 rfl) rfl ?_;refine gO rfl rfl (fa28_2 rfl) rfl ?_;refine gO rfl rfl (ld24 rfl f0 rfl) rfl ?_;refine gO rfl rfl (aOp_lenSlice Try.underlying24 rfl hl1) rfl ?_;refine gO rfl rfl (aA rfl rfl) rfl ?_;refine GoR.call rfl rfl (aCF aFunc17 rfl) (hD2 e0) ?_ np;rintro v6 h6 ⟨q, x6⟩;cases q;refine ⟨_, rfl, ?_⟩;replace f3 := f3.ext x6;replace f0 := f0.ext x6;replace e0 := e0.trans x6;iterate 3 refine gP ?_
  refine GoR.alloc rfl rfl rfl zt23 rfl rfl fun h7 x7 f7 => ?_;have := e0.1;have := f3.1;have := f0.1;replace f3 := f3.ext x7;replace f0 := f0.ext x7;replace e0 := e0.trans x7;have := f7.1;refine GoR.store rfl rfl rfl rfl rfl rfl f7 rfl sz23 rfl rfl rfl fun h8 u8 => ?_;replace f7 := u8.has f7;replace f3 := f3.upd u8 (by omega);replace f0 := f0.upd u8 (by omega);replace e0 := e0.upd u8 (by omega);refine gP ?_;apply gE;apply gS;refine gR rfl ?_;refine gO rfl rfl (ld28 rfl f0 rfl) rfl ?_;refine gO rfl rfl (fa28_4 rfl) rfl ?_;refine gO rfl rfl (ld25 rfl f0 rfl) rfl ?_;refine gO rfl rfl (aOp_lenSlice Try.underlying25 rfl hl2) rfl ?_;refine GoR.call rfl rfl (aCF aFunc22 rfl) (hFl e0) ?_ np;rintro v9 h9 ⟨q, x9⟩;cases q;refine ⟨_, rfl, ?_⟩;replace f7 := f7.ext x9;replace f3 := f3.ext x9;replace f0 := f0.ext x9;replace e0 := e0.trans x9;iterate 5 refine gP ?_
  apply gE;apply gS;refine gR rfl ?_;refine gO rfl rfl (ld28 rfl f0 rfl) rfl ?_;refine GoR.call rfl rfl (aCF aFunc18 rfl) (hDy e0) ?_ np;rintro v10 h10 ⟨q, x10⟩;cases q;refine ⟨_, rfl, ?_⟩;replace f7 := f7.ext x10;replace f3 := f3.ext x10;replace f0 := f0.ext x10;replace e0 := e0.trans x10;iterate 7 refine gP ?_
  apply gE;apply gS;refine gR rfl ?_;refine gO rfl rfl (ld28 rfl f0 rfl) rfl ?_;refine GoR.call rfl rfl (aCF aFunc23 rfl) (hTo e0) ?_ np;rintro v11 h11 ⟨q, x11⟩;cases q;refine ⟨_, rfl, ?_⟩;replace f7 := f7.ext x11;replace f3 := f3.ext x11;replace f0 := f0.ext x11;replace e0 := e0.trans x11;iterate 5 refine gP ?_
  apply gE;apply gS;refine gR rfl ?_;refine gO rfl rfl (ld28 rfl f0 rfl) rfl ?_;refine GoR.call rfl rfl (aCF aFunc14 rfl) (hC e0) ?_ np;rintro v12 h12 ⟨q, x12⟩;cases q;refine ⟨_, rfl, ?_⟩;replace f7 := f7.ext x12;replace f3 := f3.ext x12;replace f0 := f0.ext x12;replace e0 := e0.trans x12;iterate 5 refine gP ?_
  apply gE;apply gS;refine gR rfl ?_;refine gO rfl rfl (ld28 rfl f0 rfl) rfl ?_;refine GoR.call rfl rfl (aCF aFunc15 rfl) (hL e0) ?_ np;rintro v13 h13 ⟨q, x13⟩;cases q;refine ⟨_, rfl, ?_⟩;replace f7 := f7.ext x13;replace f3 := f3.ext x13;replace f0 := f0.ext x13;replace e0 := e0.trans x13;iterate 3 refine gP ?_
  refine GoR.alloc rfl rfl rfl zt23 rfl rfl fun h14 x14 f14 => ?_;have := e0.1;have := f7.1;have := f3.1;have := f0.1;replace f3 := f3.ext x14;replace e0 := e0.trans x14;have := f14.1;refine GoR.store rfl rfl rfl rfl rfl rfl f14 rfl sz23 rfl rfl rfl fun h15 u15 => ?_;replace f14 := u15.has f14;replace f3 := f3.upd u15 (by omega);replace e0 := e0.upd u15 (by omega);refine gP ?_;apply gE;iterate 2 apply gS
  refine gR rfl ?_;refine gP ?_;refine gO rfl rfl (kXF rfl rfl) rfl ?_;iterate 3 refine gP ?_
  refine gO rfl rfl (kXF rfl rfl) rfl ?_;iterate 4 refine gP ?_
  refine gO rfl rfl (kXF rfl rfl) rfl ?_;iterate 4 refine gP ?_
  refine gO rfl rfl (kXF rfl rfl) rfl ?_;iterate 3 refine gP ?_
  refine gO rfl rfl (kEF rfl rfl) rfl ?_;refine gP ?_;refine gO rfl rfl (kEF rfl rfl) rfl ?_;refine gO rfl rfl (aOp_neqBool rfl rfl Try.underlying4 (r := false) rfl) rfl ?_;iterate 4 refine gP ?_
  refine gO rfl rfl (kXF rfl rfl) rfl ?_;iterate 3 refine gP ?_
  refine gO rfl rfl (kXT rfl rfl) rfl ?_;iterate 2 refine gP ?_
  refine gO rfl rfl (kXF rfl rfl) rfl ?_;refine gP ?_;refine gO rfl rfl (ld23 rfl f3 rfl) rfl ?_;refine gO rfl rfl (aOp_build zt23 hu23 pl23 rfl rfl) rfl ?_;refine gO rfl rfl (aOp_neqSpan spanT23 rfl rfl (r := false) (by simp)) rfl ?_;iterate 2 refine gP ?_
  refine gO rfl rfl (ld23 rfl f14 rfl) rfl ?_;refine gO rfl rfl (aOp_build zt23 hu23 pl23 rfl rfl) rfl ?_;refine gO rfl rfl (aOp_neqSpan spanT23 rfl rfl (r := false) (by simp)) rfl ?_;iterate 3 refine gP ?_
  apply gE;refine gC (b := false) rfl ?_;refine gD ?_;iterate 2 apply gS
  refine gR rfl ?_;refine gP ?_;refine gO rfl rfl (kXT rfl rfl) rfl ?_;refine gP ?_;iterate 4 refine GoR.skip rfl rfl rfl ?_
  refine gP ?_;apply gE;refine gC (b := true) rfl ?_;apply gS;refine gR rfl ?_;refine GoR.call rfl rfl (aCF aFunc11 rfl) (awake_ok) ?_ np;rintro v16 h16 ⟨q, x16⟩;cases q;refine ⟨_, rfl, ?_⟩;replace e0 := e0.trans x16;refine gP ?_;apply gE;exact gW Try.func4 rfl rfl ⟨rfl, e0⟩
 ·rw [CutV.tr_yes hT] at hD hL
  rw [(clash_iff O).1 hT] at hC
  obtain ⟨⟨s1, s2⟩, hs⟩ : ∃ s, C.at 0 = s := ⟨_, rfl⟩
  obtain ⟨⟨L1, L2⟩, hLL⟩ : ∃ s, joinL (C.truths.map leakK) = s := ⟨_, rfl⟩
  rw [hs] at hD;rw [hLL] at hL
  have hle := leak_ends O hT
  rw [hLL] at hle
  dsimp only at hD hC hL hle
  by_cases h5 : 5 ≤ C.ls.length
  ·unfold CutV.cells at *
   have e0 : Ext h h := Ext.refl _
   refine Runs.intro aFunc4 rfl rfl rfl rfl fun rest => ?_;apply gS;refine gR rfl ?_;refine GoR.box rfl rfl rfl rfl rfl rfl fun h6 x6 f6 => ?_;have := e0.1;replace e0 := e0.trans x6;have := f6.1;refine gP ?_;apply gE;iterate 2 apply gS
   refine gR rfl ?_;refine gO rfl rfl (ld28 rfl f6 rfl) rfl ?_;refine GoR.call rfl rfl (aCF aFunc20 rfl) (hF e0) ?_ np;rintro v7 h7 ⟨q, x7⟩;cases q;refine ⟨_, rfl, ?_⟩;replace f6 := f6.ext x7;replace e0 := e0.trans x7;apply gE;refine gC (b := false) rfl ?_;refine gD ?_;apply gS;refine gR rfl ?_;refine gO rfl rfl (ld28 rfl f6 rfl) rfl ?_;refine GoR.call rfl rfl (aCF aFunc17 rfl) (hD e0) ?_ np;rintro v8 h8 ⟨q, x8⟩;cases q;refine ⟨_, rfl, ?_⟩;replace f6 := f6.ext x8;replace e0 := e0.trans x8;iterate 3 refine gP ?_
   refine GoR.alloc rfl rfl rfl zt23 rfl rfl fun h9 x9 f9 => ?_;have := e0.1;have := f6.1;replace f6 := f6.ext x9;replace e0 := e0.trans x9;have := f9.1;refine GoR.store rfl rfl rfl rfl rfl rfl f9 rfl sz23 rfl rfl rfl fun h10 u10 => ?_;replace f9 := u10.has f9;replace f6 := f6.upd u10 (by omega);replace e0 := e0.upd u10 (by omega);refine gP ?_;apply gE;iterate 2 apply gS
   refine gR rfl ?_;refine gO rfl rfl (ld28 rfl f6 rfl) rfl ?_;refine GoR.call rfl rfl (aCF aFunc21 rfl) (hR e0) ?_ np;rintro v11 h11 ⟨q, x11⟩;cases q;refine ⟨_, rfl, ?_⟩;replace f9 := f9.ext x11;replace f6 := f6.ext x11;replace e0 := e0.trans x11;refine gP ?_;apply gE;refine gC (b := false) rfl ?_;refine gD ?_;apply gS;refine gR rfl ?_;refine gO rfl rfl (ld28 rfl f6 rfl) rfl ?_;refine gO rfl rfl (fa28_2 rfl) rfl ?_;refine gO rfl rfl (ld24 rfl f6 rfl) rfl ?_;refine gO rfl rfl (aOp_lenSlice Try.underlying24 rfl hl1) rfl ?_;refine gO rfl rfl (aA rfl rfl) rfl ?_;refine GoR.call rfl rfl (aCF aFunc17 rfl) (hD2 e0) ?_ np;rintro v12 h12 ⟨q, x12⟩;cases q;refine ⟨_, rfl, ?_⟩;replace f9 := f9.ext x12;replace f6 := f6.ext x12;replace e0 := e0.trans x12;iterate 3 refine gP ?_
   refine GoR.alloc rfl rfl rfl zt23 rfl rfl fun h13 x13 f13 => ?_;have := e0.1;have := f9.1;have := f6.1;replace f9 := f9.ext x13;replace f6 := f6.ext x13;replace e0 := e0.trans x13;have := f13.1;refine GoR.store rfl rfl rfl rfl rfl rfl f13 rfl sz23 rfl rfl rfl fun h14 u14 => ?_;replace f13 := u14.has f13;replace f9 := f9.upd u14 (by omega);replace f6 := f6.upd u14 (by omega);replace e0 := e0.upd u14 (by omega);refine gP ?_;apply gE;apply gS;refine gR rfl ?_;refine gO rfl rfl (ld28 rfl f6 rfl) rfl ?_;refine gO rfl rfl (fa28_4 rfl) rfl ?_;refine gO rfl rfl (ld25 rfl f6 rfl) rfl ?_;refine gO rfl rfl (aOp_lenSlice Try.underlying25 rfl hl2) rfl ?_;refine GoR.call rfl rfl (aCF aFunc22 rfl) (hFl e0) ?_ np;rintro v15 h15 ⟨q, x15⟩;cases q;refine ⟨_, rfl, ?_⟩;replace f13 := f13.ext x15;replace f9 := f9.ext x15;replace f6 := f6.ext x15;replace e0 := e0.trans x15;iterate 5 refine gP ?_
   apply gE;apply gS;refine gR rfl ?_;refine gO rfl rfl (ld28 rfl f6 rfl) rfl ?_;refine GoR.call rfl rfl (aCF aFunc18 rfl) (hDy e0) ?_ np;rintro v16 h16 ⟨q, x16⟩;cases q;refine ⟨_, rfl, ?_⟩;replace f13 := f13.ext x16;replace f9 := f9.ext x16;replace f6 := f6.ext x16;replace e0 := e0.trans x16;iterate 7 refine gP ?_
   apply gE;apply gS;refine gR rfl ?_;refine gO rfl rfl (ld28 rfl f6 rfl) rfl ?_;refine GoR.call rfl rfl (aCF aFunc23 rfl) (hTo e0) ?_ np;rintro v17 h17 ⟨q, x17⟩;cases q;refine ⟨_, rfl, ?_⟩;replace f13 := f13.ext x17;replace f9 := f9.ext x17;replace f6 := f6.ext x17;replace e0 := e0.trans x17;iterate 5 refine gP ?_
   apply gE;apply gS;refine gR rfl ?_;refine gO rfl rfl (ld28 rfl f6 rfl) rfl ?_;refine GoR.call rfl rfl (aCF aFunc14 rfl) (hC e0) ?_ np;rintro v18 h18 ⟨q, x18⟩;cases q;refine ⟨_, rfl, ?_⟩;replace f13 := f13.ext x18;replace f9 := f9.ext x18;replace f6 := f6.ext x18;replace e0 := e0.trans x18;iterate 5 refine gP ?_
   apply gE;apply gS;refine gR rfl ?_;refine gO rfl rfl (ld28 rfl f6 rfl) rfl ?_;refine GoR.call rfl rfl (aCF aFunc15 rfl) (hL e0) ?_ np;rintro v19 h19 ⟨q, x19⟩;cases q;refine ⟨_, rfl, ?_⟩;replace f13 := f13.ext x19;replace f9 := f9.ext x19;replace f6 := f6.ext x19;replace e0 := e0.trans x19;iterate 3 refine gP ?_
   refine GoR.alloc rfl rfl rfl zt23 rfl rfl fun h20 x20 f20 => ?_;have := e0.1;have := f13.1;have := f9.1;have := f6.1;replace f6 := f6.ext x20;replace e0 := e0.trans x20;have := f20.1;refine GoR.store rfl rfl rfl rfl rfl rfl f20 rfl sz23 rfl rfl rfl fun h21 u21 => ?_;replace f6 := f6.upd u21 (by omega);replace e0 := e0.upd u21 (by omega);refine gP ?_;apply gE;iterate 2 apply gS
   refine gR rfl ?_;refine gP ?_;refine gO rfl rfl (kXF rfl rfl) rfl ?_;iterate 3 refine gP ?_
   refine gO rfl rfl (kXF rfl rfl) rfl ?_;iterate 4 refine gP ?_
   refine gO rfl rfl (kXF rfl rfl) rfl ?_;iterate 4 refine gP ?_
   refine gO rfl rfl (kXF rfl rfl) rfl ?_;iterate 3 refine gP ?_
   refine gO rfl rfl (kET rfl rfl) rfl ?_;refine gP ?_;refine gO rfl rfl (kET rfl rfl) rfl ?_;refine gO rfl rfl (aOp_neqBool rfl rfl Try.underlying4 (r := false) rfl) rfl ?_;iterate 4 refine gP ?_
   refine gO rfl rfl (kXF rfl rfl) rfl ?_;iterate 3 refine gP ?_
   refine gO rfl rfl (kXF rfl rfl) rfl ?_;refine gP ?_;iterate 12 refine GoR.skip rfl rfl rfl ?_
   iterate 2 refine gP ?_
   apply gE;refine gC (b := false) rfl ?_;refine gD ?_;iterate 2 apply gS
   refine gR rfl ?_;refine gP ?_;refine gO rfl rfl (kXF rfl rfl) rfl ?_;refine gP ?_;refine gO rfl rfl (fa28_5 rfl) rfl ?_;refine gO rfl rfl (ld26 rfl f6 rfl) rfl ?_;refine gO rfl rfl (aOp_lenSlice Try.underlying26 rfl hl3) rfl ?_;refine gO rfl rfl (kNT rfl rfl) rfl ?_;refine gP ?_;apply gE;refine gC (b := true) rfl ?_;apply gS;refine gR rfl ?_;refine GoR.call rfl rfl (aCF aFunc11 rfl) (awake_ok) ?_ np;rintro v22 h22 ⟨q, x22⟩;cases q;refine ⟨_, rfl, ?_⟩;replace e0 := e0.trans x22;refine gP ?_;apply gE;exact gW Try.func4 rfl rfl ⟨rfl, e0⟩
  ·obtain ⟨d, hd⟩ : ∃ d, a1 % (C.rs.length + 1) = d := ⟨_, rfl⟩
   have hdl : d ≤ C.rs.length := by have := Nat.mod_lt a1 (y := C.rs.length + 1) (by omega); omega
   have hsc : scalars (C.cells r b l) = true := A.scal
   unfold CutV.cells at *
   have e0 : Ext h h := Ext.refl _
   refine Runs.intro aFunc4 rfl rfl rfl rfl fun rest => ?_;apply gS;refine gR rfl ?_;refine GoR.box rfl rfl rfl rfl rfl rfl fun h6 x6 f6 => ?_;have := e0.1;replace e0 := e0.trans x6;have := f6.1;refine gP ?_;apply gE;iterate 2 apply gS
   refine gR rfl ?_;refine gO rfl rfl (ld28 rfl f6 rfl) rfl ?_;refine GoR.call rfl rfl (aCF aFunc20 rfl) (hF e0) ?_ np;rintro v7 h7 ⟨q, x7⟩;cases q;refine ⟨_, rfl, ?_⟩;replace f6 := f6.ext x7;replace e0 := e0.trans x7;apply gE;refine gC (b := false) rfl ?_;refine gD ?_;apply gS;refine gR rfl ?_;refine gO rfl rfl (ld28 rfl f6 rfl) rfl ?_;refine GoR.call rfl rfl (aCF aFunc17 rfl) (hD e0) ?_ np;rintro v8 h8 ⟨q, x8⟩;cases q;refine ⟨_, rfl, ?_⟩;replace f6 := f6.ext x8;replace e0 := e0.trans x8;iterate 3 refine gP ?_
   refine GoR.alloc rfl rfl rfl zt23 rfl rfl fun h9 x9 f9 => ?_;have := e0.1;have := f6.1;replace f6 := f6.ext x9;replace e0 := e0.trans x9;have := f9.1;refine GoR.store rfl rfl rfl rfl rfl rfl f9 rfl sz23 rfl rfl rfl fun h10 u10 => ?_;replace f9 := u10.has f9;replace f6 := f6.upd u10 (by omega);replace e0 := e0.upd u10 (by omega);refine gP ?_;apply gE;iterate 2 apply gS
   refine gR rfl ?_;refine gO rfl rfl (ld28 rfl f6 rfl) rfl ?_;refine GoR.call rfl rfl (aCF aFunc21 rfl) (hR e0) ?_ np;rintro v11 h11 ⟨q, x11⟩;cases q;refine ⟨_, rfl, ?_⟩;replace f9 := f9.ext x11;replace f6 := f6.ext x11;replace e0 := e0.trans x11;refine gP ?_;apply gE;refine gC (b := false) rfl ?_;refine gD ?_;apply gS;refine gR rfl ?_;refine gO rfl rfl (ld28 rfl f6 rfl) rfl ?_;refine gO rfl rfl (fa28_2 rfl) rfl ?_;refine gO rfl rfl (ld24 rfl f6 rfl) rfl ?_;refine gO rfl rfl (aOp_lenSlice Try.underlying24 rfl hl1) rfl ?_;refine gO rfl rfl (aA rfl rfl) rfl ?_;refine GoR.call rfl rfl (aCF aFunc17 rfl) (hD2 e0) ?_ np;rintro v12 h12 ⟨q, x12⟩;cases q;refine ⟨_, rfl, ?_⟩;replace f9 := f9.ext x12;replace f6 := f6.ext x12;replace e0 := e0.trans x12;iterate 3 refine gP ?_
   refine GoR.alloc rfl rfl rfl zt23 rfl rfl fun h13 x13 f13 => ?_;have := e0.1;have := f9.1;have := f6.1;replace f9 := f9.ext x13;replace f6 := f6.ext x13;replace e0 := e0.trans x13;have := f13.1;refine GoR.store rfl rfl rfl rfl rfl rfl f13 rfl sz23 rfl rfl rfl fun h14 u14 => ?_;replace f13 := u14.has f13;replace f9 := f9.upd u14 (by omega);replace f6 := f6.upd u14 (by omega);replace e0 := e0.upd u14 (by omega);refine gP ?_;apply gE;apply gS;refine gR rfl ?_;refine gO rfl rfl (ld28 rfl f6 rfl) rfl ?_;refine gO rfl rfl (fa28_4 rfl) rfl ?_;refine gO rfl rfl (ld25 rfl f6 rfl) rfl ?_;refine gO rfl rfl (aOp_lenSlice Try.underlying25 rfl hl2) rfl ?_;refine GoR.call rfl rfl (aCF aFunc22 rfl) (hFl e0) ?_ np;rintro v15 h15 ⟨q, x15⟩;cases q;refine ⟨_, rfl, ?_⟩;replace f13 := f13.ext x15;replace f9 := f9.ext x15;replace f6 := f6.ext x15;replace e0 := e0.trans x15;iterate 5 refine gP ?_
   apply gE;apply gS;refine gR rfl ?_;refine gO rfl rfl (ld28 rfl f6 rfl) rfl ?_;refine GoR.call rfl rfl (aCF aFunc18 rfl) (hDy e0) ?_ np;rintro v16 h16 ⟨q, x16⟩;cases q;refine ⟨_, rfl, ?_⟩;replace f13 := f13.ext x16;replace f9 := f9.ext x16;replace f6 := f6.ext x16;replace e0 := e0.trans x16;iterate 7 refine gP ?_
   apply gE;apply gS;refine gR rfl ?_;refine gO rfl rfl (ld28 rfl f6 rfl) rfl ?_;refine GoR.call rfl rfl (aCF aFunc23 rfl) (hTo e0) ?_ np;rintro v17 h17 ⟨q, x17⟩;cases q;refine ⟨_, rfl, ?_⟩;replace f13 := f13.ext x17;replace f9 := f9.ext x17;replace f6 := f6.ext x17;replace e0 := e0.trans x17;iterate 5 refine gP ?_
   apply gE;apply gS;refine gR rfl ?_;refine gO rfl rfl (ld28 rfl f6 rfl) rfl ?_;refine GoR.call rfl rfl (aCF aFunc14 rfl) (hC e0) ?_ np;rintro v18 h18 ⟨q, x18⟩;cases q;refine ⟨_, rfl, ?_⟩;replace f13 := f13.ext x18;replace f9 := f9.ext x18;replace f6 := f6.ext x18;replace e0 := e0.trans x18;iterate 5 refine gP ?_
   apply gE;apply gS;refine gR rfl ?_;refine gO rfl rfl (ld28 rfl f6 rfl) rfl ?_;refine GoR.call rfl rfl (aCF aFunc15 rfl) (hL e0) ?_ np;rintro v19 h19 ⟨q, x19⟩;cases q;refine ⟨_, rfl, ?_⟩;replace f13 := f13.ext x19;replace f9 := f9.ext x19;replace f6 := f6.ext x19;replace e0 := e0.trans x19;iterate 3 refine gP ?_
   refine GoR.alloc rfl rfl rfl zt23 rfl rfl fun h20 x20 f20 => ?_;have := e0.1;have := f13.1;have := f9.1;have := f6.1;replace f6 := f6.ext x20;replace e0 := e0.trans x20;have := f20.1;refine GoR.store rfl rfl rfl rfl rfl rfl f20 rfl sz23 rfl rfl rfl fun h21 u21 => ?_;replace f20 := u21.has f20;replace f6 := f6.upd u21 (by omega);replace e0 := e0.upd u21 (by omega);refine gP ?_;apply gE;iterate 2 apply gS
   refine gR rfl ?_;refine gP ?_;refine gO rfl rfl (kXF rfl rfl) rfl ?_;iterate 3 refine gP ?_
   refine gO rfl rfl (kXF rfl rfl) rfl ?_;iterate 4 refine gP ?_
   refine gO rfl rfl (kXF rfl rfl) rfl ?_;iterate 4 refine gP ?_
   refine gO rfl rfl (kXF rfl rfl) rfl ?_;iterate 3 refine gP ?_
   refine gO rfl rfl (kET rfl rfl) rfl ?_;refine gP ?_;refine gO rfl rfl (kET rfl rfl) rfl ?_;refine gO rfl rfl (aOp_neqBool rfl rfl Try.underlying4 (r := false) rfl) rfl ?_;iterate 4 refine gP ?_
   refine gO rfl rfl (kXF rfl rfl) rfl ?_;iterate 3 refine gP ?_
   refine gO rfl rfl (kXF rfl rfl) rfl ?_;refine gP ?_;iterate 12 refine GoR.skip rfl rfl rfl ?_
   iterate 2 refine gP ?_
   apply gE;refine gC (b := false) rfl ?_;refine gD ?_;iterate 2 apply gS
   refine gR rfl ?_;refine gP ?_;refine gO rfl rfl (kXF rfl rfl) rfl ?_;refine gP ?_;refine gO rfl rfl (fa28_5 rfl) rfl ?_;refine gO rfl rfl (ld26 rfl f6 rfl) rfl ?_;refine gO rfl rfl (aOp_lenSlice Try.underlying26 rfl hl3) rfl ?_;refine gO rfl rfl (kNF rfl rfl) rfl ?_;refine gP ?_;apply gE;refine gC (b := false) rfl ?_;refine gD ?_;apply gS;refine gR rfl ?_;refine gP ?_;refine gO rfl rfl (aOp_convU8 rfl Try.underlying5 Try.underlying3 (by omega)) rfl ?_;refine gO rfl rfl (fa28_2 rfl) rfl ?_;refine gO rfl rfl (ld24 rfl f6 rfl) rfl ?_;refine gO rfl rfl (aOp_lenSlice Try.underlying24 rfl hl1) rfl ?_;refine gO rfl rfl (aA rfl rfl) rfl ?_;refine gO rfl rfl (aOp_rem (r := ((d : Nat) : Int)) rfl rfl (by omega) (by rw [← hd]; rfl)) rfl ?_;refine gP ?_;apply gE;iterate 2 apply gS
   refine gR rfl ?_;refine gO rfl rfl (fa28_1 rfl) rfl ?_;refine gO rfl rfl (fa23_0 rfl) rfl ?_;refine gO rfl rfl (ld3 rfl f6 rfl) rfl ?_;refine gP ?_;apply gE;refine Go.block noJ_ok ?_
   refine Go.loopKeep (fun n : Int => [(2, .ptr h.next 0), (20, .ptr h19.next 0), (22, .int .i64 (d : Nat)), (23, .int .i64 n)])
    (fun m n h' => (m : Int) + n = C.kh + 1 ∧ C.kl ≤ n ∧ Ext h h' ∧ Has h' h.next (.cells .plain [.int .i64 C.dl, .int .i64 C.dh, .int .i64 C.kl, .int .i64 C.kh, r, .int .i64 C.most, b, l] 28) ∧ Has h' h19.next (.cells .plain [.int .i64 L1, .int .i64 L2] 23))
    (n := (C.kh + 1 - C.kl).toNat) C.kl ⟨rfl, rfl, rfl, rfl, trivial⟩ ⟨by omega, Int.le_refl _, e0, f6, f20⟩ ?_
   clear e0 f6 f20 f13 f9;rintro m n h30 ⟨hmn, hkn, e0, f6, f20⟩ again
   have hn9 := f6.1
   have hn8 := f20.1
   by_cases hn : n ≤ C.kh
   ·have hnn : C.kl ≤ n ∧ n ≤ C.kh := ⟨hkn, hn⟩
    have ON := leakN_ok O hnn
    have AN : ∀ {h'}, Ext h h' → CutAt h' (C.leakN n) r b l := fun e => ⟨A.rs.ext e, A.bs.ext e, A.ls.ext e⟩
    have hDn := fun {h'} (e : Ext h h') => Depth_ok (AN e) (by show C.rs.length ≤ 40; omega) (by show C.bs.length ≤ 40; omega) (by show C.ls.length ≤ 40; omega) (d : Nat)
    rw [show (C.leakN n).depthR (d : Nat) = (C.leakN n).tr ((C.leakN n).at d) zSp from depthR_is ON hdl] at hDn
    unfold zSp spC CutV.cells at hDn
    obtain ⟨⟨w1, w2⟩, hW⟩ : ∃ s, (C.leakN n).at d = s := ⟨_, rfl⟩
    rw [hW] at hDn
    have hDn : ∀ {h'}, Ext h h' → Runs Try.prog 17 [.agg [.int .i64 C.dl, .int .i64 C.dh, .int .i64 n, .int .i64 n, r, .int .i64 C.most, b, l], .int .i64 (d : Nat)] h' _ := hDn
    by_cases hTn : (C.leakN n).truths = []
    ·rw [CutV.tr_no hTn] at hDn
     dsimp only at hDn
     have q1 : n ≠ L1 := fun q => hle.1 (q ▸ hTn)
     have q2 : n ≠ L2 := fun q => hle.2 (q ▸ hTn)
     iterate 2 apply gS
     refine gR rfl ?_;refine gP ?_;refine gO rfl rfl (fa28_1 rfl) rfl ?_;refine gO rfl rfl (fa23_1 rfl) rfl ?_;refine gO rfl rfl (ld3 rfl f6 rfl) rfl ?_;refine gO rfl rfl (kMT rfl rfl) rfl ?_;apply gE;refine gC (b := true) rfl ?_;refine gD ?_;apply gS;refine Go.block noJ_ok ?_;apply gS;refine gR rfl ?_;refine gO rfl rfl (ld28 rfl f6 rfl) rfl ?_;refine GoR.alloc rfl rfl rfl zt28 rfl rfl fun h31 x31 f31 => ?_;have := e0.1;have := f6.1;have := f20.1;replace f6 := f6.ext x31;replace f20 := f20.ext x31;replace e0 := e0.trans x31;have := f31.1;refine GoR.store rfl rfl rfl rfl rfl rfl f31 rfl sz28 rfl hsc rfl fun h32 u32 => ?_;replace f31 := u32.has f31;replace f6 := f6.upd u32 (by omega);replace f20 := f20.upd u32 (by omega);replace e0 := e0.upd u32 (by omega);apply gE;apply gS;refine gR rfl ?_;iterate 2 refine gP ?_
     refine GoR.call rfl rfl (aCF aFunc24 rfl) (span24_ok) ?_ np;rintro v33 h33 ⟨q, x33⟩;cases q;refine ⟨_, rfl, ?_⟩;replace f31 := f31.ext x33;replace f6 := f6.ext x33;replace f20 := f20.ext x33;replace e0 := e0.trans x33;refine gO rfl rfl (fa28_1 rfl) rfl ?_;refine GoR.store rfl rfl rfl rfl rfl rfl f31 rfl sz23 rfl rfl rfl fun h34 u34 => ?_;replace f31 := u34.has f31;replace f6 := f6.upd u34 (by omega);replace f20 := f20.upd u34 (by omega);replace e0 := e0.upd u34 (by omega);apply gE;apply gS;refine gR rfl ?_;refine gO rfl rfl (ld28 rfl f31 rfl) rfl ?_;refine gP ?_;refine GoR.call rfl rfl (aCF aFunc17 rfl) (hDn e0) ?_ np;rintro v35 h35 ⟨q, x35⟩;cases q;refine ⟨_, rfl, ?_⟩;replace f31 := f31.ext x35;replace f6 := f6.ext x35;replace f20 := f20.ext x35;replace e0 := e0.trans x35;iterate 3 refine gP ?_
     refine GoR.alloc rfl rfl rfl zt23 rfl rfl fun h36 x36 f36 => ?_;have := e0.1;have := f31.1;have := f6.1;have := f20.1;replace f6 := f6.ext x36;replace f20 := f20.ext x36;replace e0 := e0.trans x36;have := f36.1;refine GoR.store rfl rfl rfl rfl rfl rfl f36 rfl sz23 rfl rfl rfl fun h37 u37 => ?_;replace f6 := f6.upd u37 (by omega);replace f20 := f20.upd u37 (by omega);replace e0 := e0.upd u37 (by omega);refine gP ?_;apply gE;iterate 2 apply gS
     refine gR rfl ?_;refine gP ?_;refine gO rfl rfl (fa23_0 rfl) rfl ?_;refine gO rfl rfl (ld3 rfl f20 rfl) rfl ?_;refine gO rfl rfl (kEF rfl rfl) rfl ?_;iterate 2 refine gP ?_
     refine gO rfl rfl (fa23_1 rfl) rfl ?_;refine gO rfl rfl (ld3 rfl f20 rfl) rfl ?_;refine gO rfl rfl (kEF rfl rfl) rfl ?_;iterate 2 refine gP ?_
     iterate 2 refine GoR.skip rfl rfl rfl ?_
     iterate 3 refine gP ?_
     refine gO rfl rfl (kEF rfl rfl) rfl ?_;refine gP ?_;iterate 4 refine GoR.skip rfl rfl rfl ?_
     iterate 4 refine gP ?_
     refine gO rfl rfl (kXT rfl rfl) rfl ?_;iterate 2 refine gP ?_
     refine gO rfl rfl (kXF rfl rfl) rfl ?_;iterate 2 refine gP ?_
     apply gE;refine gC (b := false) rfl ?_;refine gD ?_;iterate 2 apply gS
     refine gR rfl ?_;refine gP ?_;refine gO rfl rfl (kXT rfl rfl) rfl ?_;apply gE;refine gC (b := true) rfl ?_;refine gD ?_;refine gR rfl ?_;refine gP ?_;refine gO rfl rfl (aA rfl rfl) rfl ?_;refine gP ?_;apply gE;exact again (m - 1) (n + 1) _ _ (by omega) ⟨rfl, rfl, rfl, rfl, trivial⟩ ⟨by omega, by omega, e0, f6, f20⟩
    ·rw [CutV.tr_yes hTn] at hDn
     dsimp only at hDn
     have hwi := leak_within hnn hTn
     rw [hLL] at hwi
     dsimp only at hwi
     have hin := decide_eq_true hwi
     iterate 2 apply gS
     refine gR rfl ?_;refine gP ?_;refine gO rfl rfl (fa28_1 rfl) rfl ?_;refine gO rfl rfl (fa23_1 rfl) rfl ?_;refine gO rfl rfl (ld3 rfl f6 rfl) rfl ?_;refine gO rfl rfl (kMT rfl rfl) rfl ?_;apply gE;refine gC (b := true) rfl ?_;refine gD ?_;apply gS;refine Go.block noJ_ok ?_;apply gS;refine gR rfl ?_;refine gO rfl rfl (ld28 rfl f6 rfl) rfl ?_;refine GoR.alloc rfl rfl rfl zt28 rfl rfl fun h31 x31 f31 => ?_;have := e0.1;have := f6.1;have := f20.1;replace f6 := f6.ext x31;replace f20 := f20.ext x31;replace e0 := e0.trans x31;have := f31.1;refine GoR.store rfl rfl rfl rfl rfl rfl f31 rfl sz28 rfl hsc rfl fun h32 u32 => ?_;replace f31 := u32.has f31;replace f6 := f6.upd u32 (by omega);replace f20 := f20.upd u32 (by omega);replace e0 := e0.upd u32 (by omega);apply gE;apply gS;refine gR rfl ?_;iterate 2 refine gP ?_
     refine GoR.call rfl rfl (aCF aFunc24 rfl) (span24_ok) ?_ np;rintro v33 h33 ⟨q, x33⟩;cases q;refine ⟨_, rfl, ?_⟩;replace f31 := f31.ext x33;replace f6 := f6.ext x33;replace f20 := f20.ext x33;replace e0 := e0.trans x33;refine gO rfl rfl (fa28_1 rfl) rfl ?_;refine GoR.store rfl rfl rfl rfl rfl rfl f31 rfl sz23 rfl rfl rfl fun h34 u34 => ?_;replace f31 := u34.has f31;replace f6 := f6.upd u34 (by omega);replace f20 := f20.upd u34 (by omega);replace e0 := e0.upd u34 (by omega);apply gE;apply gS;refine gR rfl ?_;refine gO rfl rfl (ld28 rfl f31 rfl) rfl ?_;refine gP ?_;refine GoR.call rfl rfl (aCF aFunc17 rfl) (hDn e0) ?_ np;rintro v35 h35 ⟨q, x35⟩;cases q;refine ⟨_, rfl, ?_⟩;replace f31 := f31.ext x35;replace f6 := f6.ext x35;replace f20 := f20.ext x35;replace e0 := e0.trans x35;iterate 3 refine gP ?_
     refine GoR.alloc rfl rfl rfl zt23 rfl rfl fun h36 x36 f36 => ?_;have := e0.1;have := f31.1;have := f6.1;have := f20.1;replace f31 := f31.ext x36;replace f6 := f6.ext x36;replace f20 := f20.ext x36;replace e0 := e0.trans x36;have := f36.1;refine GoR.store rfl rfl rfl rfl rfl rfl f36 rfl sz23 rfl rfl rfl fun h37 u37 => ?_;replace f36 := u37.has f36;replace f31 := f31.upd u37 (by omega);replace f6 := f6.upd u37 (by omega);replace f20 := f20.upd u37 (by omega);replace e0 := e0.upd u37 (by omega);refine gP ?_;apply gE
     have hla := leakN_at O hnn hTn hdl
     rw [hW] at hla
     dsimp only at hla
     have hord := at_ord ON hTn hdl
     rw [hW] at hord
     dsimp only at hord
     obtain ⟨P1, hP1, hp1⟩ := (hla w1).1 ⟨Int.le_refl _, hord⟩
     obtain ⟨P2, hP2, hp2⟩ := (hla w2).1 ⟨hord, Int.le_refl _⟩
     have hi1 := CutV.Path.in O hP1 hdl
     have hi2 := CutV.Path.in O hP2 hdl
     rw [hp1] at hi1;rw [hp2] at hi2
     refine Go.seq noJ_ok (Go.join (fun _ : Unit => [(2, .ptr h.next 0), (20, .ptr h19.next 0), (22, .int .i64 (d : Nat)), (23, .int .i64 n), (24, .ptr h30.next 0), (25, .ptr h35.next 0), (26, .int .i64 0)])
      (fun _ h' => Ext h h' ∧ Has h' h.next (.cells .plain [.int .i64 C.dl, .int .i64 C.dh, .int .i64 C.kl, .int .i64 C.kh, r, .int .i64 C.most, b, l] 28) ∧ Has h' h19.next (.cells .plain [.int .i64 L1, .int .i64 L2] 23) ∧ Has h' h30.next (.cells .plain [.int .i64 C.dl, .int .i64 C.dh, .int .i64 n, .int .i64 n, r, .int .i64 C.most, b, l] 28) ∧ Has h' h35.next (.cells .plain [.int .i64 w1, .int .i64 w2] 23)) ?_ ?_)
     ·intro k' done
      by_cases z1 : n = L1
      ·apply gS;refine gR rfl ?_;refine gP ?_;refine gO rfl rfl (fa23_0 rfl) rfl ?_;refine gO rfl rfl (ld3 rfl f20 rfl) rfl ?_;refine gO rfl rfl (kET rfl rfl) rfl ?_;refine gP ?_;iterate 4 refine GoR.skip rfl rfl rfl ?_
       iterate 3 refine gP ?_
       refine gO rfl rfl (kXF rfl rfl) rfl ?_;iterate 3 refine gP ?_
       refine gO rfl rfl (kET rfl rfl) rfl ?_;iterate 2 refine gP ?_
       refine gO rfl rfl (ld23 rfl f20 rfl) rfl ?_;refine GoR.call rfl rfl (aCF aFunc16 rfl) (inside16_is hin) ?_ np;rintro v38 h38 ⟨q, x38⟩;cases q;refine ⟨_, rfl, ?_⟩;replace f36 := f36.ext x38;replace f31 := f31.ext x38;replace f6 := f6.ext x38;replace f20 := f20.ext x38;replace e0 := e0.trans x38;iterate 5 refine gP ?_
       refine gO rfl rfl (kXF rfl rfl) rfl ?_;refine gP ?_;iterate 2 refine GoR.skip rfl rfl rfl ?_
       iterate 2 refine gP ?_
       apply gE;refine gC (b := false) rfl ?_;refine gD ?_;exact done () _ _ ⟨rfl, rfl, rfl, rfl, rfl, rfl, rfl, trivial⟩ ⟨e0, f6, f20, f31, f36⟩
      ·by_cases z2 : n = L2
       ·apply gS;refine gR rfl ?_;refine gP ?_;refine gO rfl rfl (fa23_0 rfl) rfl ?_;refine gO rfl rfl (ld3 rfl f20 rfl) rfl ?_;refine gO rfl rfl (kEF rfl rfl) rfl ?_;iterate 2 refine gP ?_
        refine gO rfl rfl (fa23_1 rfl) rfl ?_;refine gO rfl rfl (ld3 rfl f20 rfl) rfl ?_;refine gO rfl rfl (kET rfl rfl) rfl ?_;iterate 3 refine gP ?_
        refine gO rfl rfl (kXF rfl rfl) rfl ?_;iterate 3 refine gP ?_
        refine gO rfl rfl (kET rfl rfl) rfl ?_;iterate 2 refine gP ?_
        refine gO rfl rfl (ld23 rfl f20 rfl) rfl ?_;refine GoR.call rfl rfl (aCF aFunc16 rfl) (inside16_is hin) ?_ np;rintro v38 h38 ⟨q, x38⟩;cases q;refine ⟨_, rfl, ?_⟩;replace f36 := f36.ext x38;replace f31 := f31.ext x38;replace f6 := f6.ext x38;replace f20 := f20.ext x38;replace e0 := e0.trans x38;iterate 5 refine gP ?_
        refine gO rfl rfl (kXF rfl rfl) rfl ?_;refine gP ?_;iterate 2 refine GoR.skip rfl rfl rfl ?_
        iterate 2 refine gP ?_
        apply gE;refine gC (b := false) rfl ?_;refine gD ?_;exact done () _ _ ⟨rfl, rfl, rfl, rfl, rfl, rfl, rfl, trivial⟩ ⟨e0, f6, f20, f31, f36⟩
       ·apply gS;refine gR rfl ?_;refine gP ?_;refine gO rfl rfl (fa23_0 rfl) rfl ?_;refine gO rfl rfl (ld3 rfl f20 rfl) rfl ?_;refine gO rfl rfl (kEF rfl rfl) rfl ?_;iterate 2 refine gP ?_
        refine gO rfl rfl (fa23_1 rfl) rfl ?_;refine gO rfl rfl (ld3 rfl f20 rfl) rfl ?_;refine gO rfl rfl (kEF rfl rfl) rfl ?_;iterate 2 refine gP ?_
        iterate 2 refine GoR.skip rfl rfl rfl ?_
        iterate 3 refine gP ?_
        refine gO rfl rfl (kET rfl rfl) rfl ?_;iterate 2 refine gP ?_
        refine gO rfl rfl (ld23 rfl f20 rfl) rfl ?_;refine GoR.call rfl rfl (aCF aFunc16 rfl) (inside16_is hin) ?_ np;rintro v38 h38 ⟨q, x38⟩;cases q;refine ⟨_, rfl, ?_⟩;replace f36 := f36.ext x38;replace f31 := f31.ext x38;replace f6 := f6.ext x38;replace f20 := f20.ext x38;replace e0 := e0.trans x38;iterate 5 refine gP ?_
        refine gO rfl rfl (kXF rfl rfl) rfl ?_;refine gP ?_;iterate 2 refine GoR.skip rfl rfl rfl ?_
        iterate 2 refine gP ?_
        apply gE;refine gC (b := false) rfl ?_;refine gD ?_;exact done () _ _ ⟨rfl, rfl, rfl, rfl, rfl, rfl, rfl, trivial⟩ ⟨e0, f6, f20, f31, f36⟩
     ·clear e0 f6 f20 f31 f36;rintro _ h40 ⟨e0, f6, f20, f31, f36⟩
      have m1 := f31.1
      have m2 := f36.1
      obtain ⟨K0, hK0⟩ : ∃ K, (if (0 : Int) < w1 - 2 then w1 - 2 else 0) = K := ⟨_, rfl⟩
      obtain ⟨K1, hK1⟩ : ∃ K, (if w2 + 2 < C.most then w2 + 2 else C.most) = K := ⟨_, rfl⟩
      have hK2 : 0 ≤ K0 := by split at hK0 <;> omega
      have hK3 : K1 ≤ C.most := by split at hK1 <;> omega
      iterate 2 apply gS
      refine gR rfl ?_;refine gP ?_;refine gO rfl rfl (kXF rfl rfl) rfl ?_;apply gE;refine gC (b := false) rfl ?_;refine gD ?_;apply gS;refine gR rfl ?_;refine gO rfl rfl (fa23_0 rfl) rfl ?_;refine gO rfl rfl (ld3 rfl f36 rfl) rfl ?_;refine gO rfl rfl (aS rfl rfl) rfl ?_;refine gO rfl rfl (aOp_max2 rfl rfl hK0) rfl ?_;refine gP ?_;apply gE;refine Go.block noJ_ok ?_
      refine Go.loopKeep (fun a : Int × AVal => [(2, .ptr h.next 0), (20, .ptr h19.next 0), (22, .int .i64 (d : Nat)), (23, .int .i64 n), (24, .ptr h30.next 0), (25, .ptr h35.next 0), (27, .int .i64 a.1)])
       (fun m a h' => K1 + 1 - a.1 ≤ m ∧ 0 ≤ a.1 ∧ Ext h h' ∧ Has h' h.next (.cells .plain [.int .i64 C.dl, .int .i64 C.dh, .int .i64 C.kl, .int .i64 C.kh, r, .int .i64 C.most, b, l] 28) ∧ Has h' h19.next (.cells .plain [.int .i64 L1, .int .i64 L2] 23) ∧ Has h' h30.next (.cells .plain [.int .i64 C.dl, .int .i64 C.dh, .int .i64 n, .int .i64 n, r, .int .i64 C.most, b, a.2] 28) ∧ Has h' h35.next (.cells .plain [.int .i64 w1, .int .i64 w2] 23))
       (n := (K1 + 1 - K0).toNat) (K0, l) ⟨rfl, rfl, rfl, rfl, rfl, rfl, rfl, trivial⟩ ⟨by dsimp only; omega, hK2, e0, f6, f20, f31, f36⟩ ?_
      clear e0 f6 f20 f31 f36;rintro m2 ⟨k, lv⟩ h50 ⟨hm2, hk0, e0, f6, f20, f31, f36⟩ again2
      dsimp only at hm2 hk0 f31 ⊢
      have m3 := f31.1
      have m4 := f36.1
      have m5 := f6.1
      have m6 := f20.1
      by_cases hkk : k ≤ K1
      ·iterate 2 apply gS
       refine gR rfl ?_;refine gP ?_;refine gO rfl rfl (fa28_3 rfl) rfl ?_;refine gO rfl rfl (ld3 rfl f6 rfl) rfl ?_;refine gO rfl rfl (fa23_1 rfl) rfl ?_;refine gO rfl rfl (ld3 rfl f36 rfl) rfl ?_;refine gO rfl rfl (aA rfl rfl) rfl ?_;refine gO rfl rfl (aOp_min2 rfl rfl hK1) rfl ?_;refine gO rfl rfl (kMT rfl rfl) rfl ?_;apply gE;refine gC (b := true) rfl ?_;refine gD ?_;apply gS;refine Go.block noJ_ok ?_;apply gS;refine gR rfl ?_;refine GoR.buildSl rfl rfl (ps := []) (cs := []) Try.underlying26 rfl sz53 zt53 rfl rfl rfl rfl fun h51 x51 f51 => ?_;have := e0.1;have := f6.1;have := f20.1;have := f31.1;have := f36.1;replace f6 := f6.ext x51;replace f20 := f20.ext x51;replace f31 := f31.ext x51;replace f36 := f36.ext x51;replace e0 := e0.trans x51;have := f51.1;refine gO rfl rfl (fa28_5 rfl) rfl ?_;refine gO rfl rfl (ld26 rfl f6 rfl) rfl ?_
       have m7 : h50.next < h51.next := f51.1
       refine GoR.copyR rfl rfl Try.underlying26 Try.underlying26 sz53 by53 zt53 rfl rfl rfl f51 rfl (A.ls.ext e0) (by rw [List.length_map]; omega) rfl rfl fun v52 h52 x52 C52 => ?_
       have f6' := f6.ext x52
       have f20' := f20.ext x52
       have f31' := f31.ext x52
       have f36' := f36.ext x52
       have e0' := e0.trans x52
       clear f6 f20 f31 f36 e0 f51
       have f6 := f6'
       have f20 := f20'
       have f31 := f31'
       have f36 := f36'
       have e0 := e0'
       clear f6' f20' f31' f36' e0';iterate 3 refine gP ?_
       refine GoR.call rfl rfl (aCF aFunc25 rfl) (look25_ok) ?_ np;rintro v53 h53 ⟨q, x53⟩;cases q;refine ⟨_, rfl, ?_⟩;replace f6 := f6.ext x53;replace f20 := f20.ext x53;replace f31 := f31.ext x53;replace f36 := f36.ext x53;replace e0 := e0.trans x53;refine GoR.buildSl rfl rfl (ps := [(0, .agg [.int .i64 (d : Nat), .int .i64 k, .int .i64 k])]) (cs := [.int .i64 (d : Nat), .int .i64 k, .int .i64 k]) Try.underlying26 rfl sz53 zt53 rfl rfl rfl rfl fun h54 x54 f54 => ?_;have := e0.1;have := f6.1;have := f20.1;have := f31.1;have := f36.1;replace f6 := f6.ext x54;replace f20 := f20.ext x54;replace f31 := f31.ext x54;replace f36 := f36.ext x54;replace e0 := e0.trans x54;have := f54.1
       have m8 := x52.1
       have m9 := x53.1
       have m10 := x54.1
       refine GoR.copy1R rfl rfl Try.underlying26 Try.underlying26 sz53 by53 zt53 rfl rfl rfl rfl f54 ((C52.ext x53).ext x54) (fun l hl => by obtain ⟨_, _, rfl⟩ := List.mem_map.1 hl; rfl) rfl rfl (by rw [List.length_map]; omega) (by omega) rfl rfl fun b55 h55 hb55 x55 f55 => ?_
       have f6' := f6.extF x55 (fun q => by have : h51.next ≤ h.next := q; omega)
       have f20' := f20.extF x55 (fun q => by have : h51.next ≤ h19.next := q; omega)
       have f31' := f31.extF x55 (fun q => by have : h51.next ≤ h30.next := q; omega)
       have f36' := f36.extF x55 (fun q => by have : h51.next ≤ h35.next := q; omega)
       have e0' := x55.low e0 (fun b q => by have : h51.next ≤ b := q; omega)
       rw [List.length_map] at *;clear f6 f20 f31 f36 e0 f54 C52
       have f6 := f6'
       have f20 := f20'
       have f31 := f31'
       have f36 := f36'
       have e0 := e0'
       clear f6' f20' f31' f36' e0'
       have hm55 := x55.1
       have hkb : 0 ≤ k ∧ k ≤ 100 := by omega
       have OX := lookN_ok O hnn (by omega) hdl hkb
       have hiff := lookN_iff O hnn hTn (by omega) hdl hkb
       rw [hW] at hiff
       dsimp only at hiff
       have hSX : ∀ {h'}, Has h' b55 (.cells .grow (C.ls.map LV.cells ++ [[AVal.int .i64 (d : Nat), AVal.int .i64 k, AVal.int .i64 k]]).flatten 53) → SliceOf h' 3 (.gsl b55 0 0 (C.ls.length + 1)) ((C.lookN n d k).ls.map LV.cells) := fun f => by
        have kk : (C.lookN n d k).ls.map LV.cells = C.ls.map LV.cells ++ [[AVal.int .i64 (d : Nat), AVal.int .i64 k, AVal.int .i64 k]] := by unfold CutV.lookN CutV.with; rw [List.map_append]; rfl
        rw [kk];refine .mk (b := b55) (off := 0) (len := C.ls.length + 1) rfl rfl f.1 (by simp) (fun l hl => ?_) ?_
        ·rcases List.mem_append.1 hl with hl | hl
         ·obtain ⟨_, _, rfl⟩ := List.mem_map.1 hl; rfl
         ·rw [List.mem_singleton.1 hl]; rfl
        ·unfold AbsE.loadCells
         rw [f.2];refine slice_all (flatten_len fun l hl => ?_)
         rcases List.mem_append.1 hl with hl | hl
         ·obtain ⟨_, _, rfl⟩ := List.mem_map.1 hl; rfl
         ·rw [List.mem_singleton.1 hl]; rfl
       have hCk := fun {h'} (e : Ext h h') (f : Has h' b55 (.cells .grow (C.ls.map LV.cells ++ [[AVal.int .i64 (d : Nat), AVal.int .i64 k, AVal.int .i64 k]]).flatten 53)) => Clash_ok (C := C.lookN n d k) (r := r) (b := b) (l := .gsl b55 0 0 (C.ls.length + 1)) ⟨A.rs.ext e, A.bs.ext e, hSX f⟩ (by show C.rs.length ≤ 40; omega) (by show C.bs.length ≤ 40; omega) (by have := OX.nl; omega)
       by_cases hwk : w1 ≤ k ∧ k ≤ w2
       ·rw [(clash_iff OX).1 (hiff.2 hwk)] at hCk
        have hCk : ∀ {h'}, Ext h h' → Has h' b55 (.cells .grow (C.ls.map LV.cells ++ [[AVal.int .i64 (d : Nat), AVal.int .i64 k, AVal.int .i64 k]]).flatten 53) → Runs Try.prog 14 [.agg [.int .i64 C.dl, .int .i64 C.dh, .int .i64 n, .int .i64 n, r, .int .i64 C.most, b, .gsl b55 0 0 (C.ls.length + 1)]] h' _ := hCk
        dsimp only at hCk
        have hinW := decide_eq_true hwk
        refine gO rfl rfl (fa28_5 rfl) rfl ?_;refine GoR.store rfl rfl rfl rfl rfl rfl f31 rfl sz26 rfl rfl rfl fun h56 u56 => ?_;replace f55 := f55.upd u56 (by omega);replace f6 := f6.upd u56 (by omega);replace f20 := f20.upd u56 (by omega);replace f31 := u56.has f31;replace f36 := f36.upd u56 (by omega);replace e0 := e0.upd u56 (by omega);apply gE;apply gS;refine gR rfl ?_;refine gO rfl rfl (ld28 rfl f31 rfl) rfl ?_;refine GoR.call rfl rfl (aCF aFunc14 rfl) (hCk e0 f55) ?_ np;rintro v57 h57 ⟨q, x57⟩;cases q;refine ⟨_, rfl, ?_⟩;replace f6 := f6.ext x57;replace f20 := f20.ext x57;replace f31 := f31.ext x57;replace f36 := f36.ext x57;replace e0 := e0.trans x57;iterate 5 refine gP ?_
        apply gE;apply gS;refine gR rfl ?_;refine gP ?_;refine gO rfl rfl (kET rfl rfl) rfl ?_;refine gP ?_;refine gO rfl rfl (ld23 rfl f36 rfl) rfl ?_;refine GoR.call rfl rfl (aCF aFunc16 rfl) (inside16_is hinW) ?_ np;rintro v58 h58 ⟨q, x58⟩;cases q;refine ⟨_, rfl, ?_⟩;replace f6 := f6.ext x58;replace f20 := f20.ext x58;replace f31 := f31.ext x58;replace f36 := f36.ext x58;replace e0 := e0.trans x58;refine gO rfl rfl (aOp_neqBool rfl rfl Try.underlying4 (r := false) rfl) rfl ?_;apply gE;refine gC (b := false) rfl ?_;refine gD ?_;refine Go.inBlock noJ_ok ?_;refine gR rfl ?_;refine gP ?_;refine gO rfl rfl (aA rfl rfl) rfl ?_;refine gP ?_;apply gE;exact again2 (m2 - 1) (k + 1, .gsl b55 0 0 (C.ls.length + 1)) _ _ (by omega) ⟨rfl, rfl, rfl, rfl, rfl, rfl, rfl, trivial⟩ ⟨by dsimp only; omega, by dsimp only; omega, e0, f6, f20, f31, f36⟩
       ·have hTX : (C.lookN n d k).truths = [] := Classical.byContradiction fun q => hwk (hiff.1 q)
        obtain ⟨cq, hcq⟩ := (clash_iff OX).2 hTX
        rw [hcq] at hCk
        have hCk : ∀ {h'}, Ext h h' → Has h' b55 (.cells .grow (C.ls.map LV.cells ++ [[AVal.int .i64 (d : Nat), AVal.int .i64 k, AVal.int .i64 k]]).flatten 53) → Runs Try.prog 14 [.agg [.int .i64 C.dl, .int .i64 C.dh, .int .i64 n, .int .i64 n, r, .int .i64 C.most, b, .gsl b55 0 0 (C.ls.length + 1)]] h' _ := hCk
        dsimp only at hCk
        have hinW := decide_eq_false hwk
        refine gO rfl rfl (fa28_5 rfl) rfl ?_;refine GoR.store rfl rfl rfl rfl rfl rfl f31 rfl sz26 rfl rfl rfl fun h56 u56 => ?_;replace f55 := f55.upd u56 (by omega);replace f6 := f6.upd u56 (by omega);replace f20 := f20.upd u56 (by omega);replace f31 := u56.has f31;replace f36 := f36.upd u56 (by omega);replace e0 := e0.upd u56 (by omega);apply gE;apply gS;refine gR rfl ?_;refine gO rfl rfl (ld28 rfl f31 rfl) rfl ?_;refine GoR.call rfl rfl (aCF aFunc14 rfl) (hCk e0 f55) ?_ np;rintro v57 h57 ⟨q, x57⟩;cases q;refine ⟨_, rfl, ?_⟩;replace f6 := f6.ext x57;replace f20 := f20.ext x57;replace f31 := f31.ext x57;replace f36 := f36.ext x57;replace e0 := e0.trans x57;iterate 5 refine gP ?_
        apply gE;apply gS;refine gR rfl ?_;refine gP ?_;refine gO rfl rfl (kEF rfl rfl) rfl ?_;refine gP ?_;refine gO rfl rfl (ld23 rfl f36 rfl) rfl ?_;refine GoR.call rfl rfl (aCF aFunc16 rfl) (inside16_is hinW) ?_ np;rintro v58 h58 ⟨q, x58⟩;cases q;refine ⟨_, rfl, ?_⟩;replace f6 := f6.ext x58;replace f20 := f20.ext x58;replace f31 := f31.ext x58;replace f36 := f36.ext x58;replace e0 := e0.trans x58;refine gO rfl rfl (aOp_neqBool rfl rfl Try.underlying4 (r := false) rfl) rfl ?_;apply gE;refine gC (b := false) rfl ?_;refine gD ?_;refine Go.inBlock noJ_ok ?_;refine gR rfl ?_;refine gP ?_;refine gO rfl rfl (aA rfl rfl) rfl ?_;refine gP ?_;apply gE;exact again2 (m2 - 1) (k + 1, .gsl b55 0 0 (C.ls.length + 1)) _ _ (by omega) ⟨rfl, rfl, rfl, rfl, rfl, rfl, rfl, trivial⟩ ⟨by dsimp only; omega, by dsimp only; omega, e0, f6, f20, f31, f36⟩
      ·clear again2;iterate 2 apply gS
       refine gR rfl ?_;refine gP ?_;refine gO rfl rfl (fa28_3 rfl) rfl ?_;refine gO rfl rfl (ld3 rfl f6 rfl) rfl ?_;refine gO rfl rfl (fa23_1 rfl) rfl ?_;refine gO rfl rfl (ld3 rfl f36 rfl) rfl ?_;refine gO rfl rfl (aA rfl rfl) rfl ?_;refine gO rfl rfl (aOp_min2 rfl rfl hK1) rfl ?_;refine gO rfl rfl (kMF rfl rfl) rfl ?_;apply gE;refine gC (b := false) rfl ?_;refine gD ?_;refine Go.inBlock noJ_ok ?_;refine gR rfl ?_;refine gP ?_;refine gO rfl rfl (aA rfl rfl) rfl ?_;refine gP ?_;apply gE;exact again (m - 1) (n + 1) _ _ (by omega) ⟨rfl, rfl, rfl, rfl, trivial⟩ ⟨by omega, by omega, e0, f6, f20⟩
   ·clear again;iterate 2 apply gS
    refine gR rfl ?_;refine gP ?_;refine gO rfl rfl (fa28_1 rfl) rfl ?_;refine gO rfl rfl (fa23_1 rfl) rfl ?_;refine gO rfl rfl (ld3 rfl f6 rfl) rfl ?_;refine gO rfl rfl (kMF rfl rfl) rfl ?_;apply gE;refine gC (b := false) rfl ?_;refine gD ?_;apply gS;refine gR rfl ?_;refine GoR.call rfl rfl (aCF aFunc11 rfl) (awake_ok) ?_ np;rintro v31 h31 ⟨q, x31⟩;cases q;refine ⟨_, rfl, ?_⟩;replace e0 := e0.trans x31;refine gP ?_;apply gE;exact gW Try.func4 rfl rfl ⟨rfl, e0⟩
theorem law4 {C : CutV} {r b l : AVal} {h : AH} (A : CutAt h C r b l) (hb : C.rs.length < 9223372036854775808 ∧ C.bs.length < 9223372036854775808 ∧ C.ls.length < 9223372036854775808) {w1 : Int} (h1 : 0 ≤ w1 ∧ w1 < 256) : Runs Try.prog 4 [.agg (C.cells r b l), .int .u8 w1] h (fun en h' => en = .ret (.bool true) ∧ Ext h h') := by
 by_cases F : C.rs.length ≤ 40 ∧ C.bs.length ≤ 40 ∧ C.ls.length ≤ 40
 ·by_cases O : C.Ok
  ·obtain ⟨w, rfl⟩ := Int.eq_ofNat_of_zero_le h1.1
   exact law4_ok A O (by omega)
  ·exact law4_bad A F O
 ·exact law4_far A hb F
end Go.Proofs.Yteibheeleeengaa

namespace Go.AbsE
open Go Go.RowKit
section
variable {P : Program}
theorem HR.openWin {e : Env} {h : AH} {W : World} (r : HR P (Base.all W) e h W) {B lo : Nat} {PRE CS junk : List Value} {el : TypeId} {fr : Nat × Nat} {cs : List AVal} (hB : W.heap[B]? = some (.cells (PRE ++ (CS ++ junk)).toArray el fr)) (hp : PRE.length = lo) (hv : ∀ e, VRs e cs CS) :
  ∃ e' h', Env.le e e' ∧ HR P (Base.all W) e' h' W ∧ Ext h h' ∧ e' h.next = some (B, 0) ∧ Has h' h.next (.win lo cs) := by
 obtain ⟨h', k⟩ := new_some h (.win lo cs)
 obtain ⟨_, x1, x2⟩ := new_ext k
 obtain ⟨n1, n2, n3⟩ := AH.get_new k
 have hle := Env.le_ext (x := (B, 0)) r.fresh
 have hlt := (Array.getElem?_eq_some_iff.1 hB).1
 refine ⟨e.ext h.next (B, 0), h', hle, ?_, x1, Env.ext_same _ _ _, x2⟩
 refine { dom := ?_, blk := ?_, inj := ?_, imm := ?_, os := r.os, tape := r.tape, output := r.output, size := r.size, old := r.old, young := r.young }
 ·intro b' x kx
  rw [Env.ext_at] at kx
  by_cases hb' : b' = h.next
  ·omega
  ·rw [if_neg hb'] at kx; have := r.dom _ _ kx; omega
 ·intro b' o' kx
  rw [n3] at kx
  by_cases hb' : b' = h.next
  ·rw [if_pos hb'] at kx
   cases kx
   subst hb'
   exact ⟨B, 0, _, Env.ext_same _ _ _, (fun q => by cases q), hB, .win (hv _) hp⟩
  ·rw [if_neg hb'] at kx
   obtain ⟨B', c', O', k1, k2, k3, k4⟩ := r.blk _ _ kx
   exact ⟨B', c', O', hle.1 _ _ k1, k2, k3, k4.mono hle⟩
 ·intro b1 b2 B1 c1 c2 o1 o2 k1 k2 hro e1 e2
  rw [n3] at k1 k2
  rw [Env.ext_at] at e1 e2
  by_cases q1 : b1 = h.next
  ·rw [if_pos q1] at k1; cases k1; cases hro
  ·rw [if_neg q1] at k1 e1
   by_cases q2 : b2 = h.next
   ·rw [if_pos q2] at e2
    cases e2
    obtain ⟨B', c', O', j1, j2, _, _⟩ := r.blk _ _ k1
    rw [e1] at j1
    cases j1
    exact absurd hlt (j2 hro)
   ·rw [if_neg q2] at k2 e2
    exact r.inj _ _ _ _ _ _ _ k1 k2 hro e1 e2
 ·intro B1 CS' hi
  obtain ⟨i1, i2⟩ := r.imm B1 CS' hi
  refine ⟨i1, fun b' o' c' kx hro ke => ?_⟩
  rw [n3] at kx
  rw [Env.ext_at] at ke
  by_cases q : b' = h.next
  ·rw [if_pos q] at kx; cases kx; cases hro
  ·rw [if_neg q] at kx ke; exact i2 b' o' c' kx hro ke
end
end Go.AbsE

namespace Go.AbsE
open Go Go.RowKit
section
variable {P : Program}
theorem VRs.kinds {K : Type} {va : K → AVal} {vv : K → Value} (hvr : ∀ e x, VR e (va x) (vv x)) {e : Env} : ∀ l : List K, VRs e (l.map fun x => va x) (l.map fun x => vv x) := by
 intro l
 induction l with
 | nil => exact .nil
 | cons a l ih => exact .cons (hvr _ _) ih
theorem rowsG_eq {K : Type} {vv : K → Value} {C : List Value} {off sz : Nat} : ∀ (len : Nat) (f : Nat → List K), (∀ i, i < len → (f i).length = sz ∧ ∀ k n, (f i)[k]? = some n → C[off + i * sz + k]? = some (vv n)) →
  (C.drop off).take (len * sz) = (((List.range len).map f).flatten).map fun x => vv x := by
 intro len
 induction len with
 | zero => intro f _; simp
 | succ len ih =>
  intro f hf
  have h1 := ih f fun i hi => hf i (by omega)
  obtain ⟨l1, l2⟩ := hf len (by omega)
  rw [Nat.add_mul, Nat.one_mul, List.take_add, h1, List.range_succ, List.map_append, List.flatten_append, List.map_append]
  congr 1
  simp only [List.map_cons, List.map_nil, List.flatten_cons, List.flatten_nil, List.append_nil]
  rw [List.drop_drop]
  refine List.ext_getElem? fun k => ?_
  rw [List.getElem?_take, List.getElem?_drop, List.getElem?_map]
  by_cases hk : k < sz
  ·rw [if_pos hk]
   obtain ⟨n, hn⟩ : ∃ n, (f len)[k]? = some n := ⟨(f len)[k]'(by omega), by simp⟩
   rw [hn]
   exact l2 k n hn
  ·rw [if_neg hk]
   have : (f len)[k]? = none := by simp; omega
   rw [this]
   rfl
end
end Go.AbsE

namespace Go.AbsE
open Go Go.RowKit
section
variable {P : Program}
theorem HR.openRowsC {K : Type} (va : K → AVal) (vv : K → Value) (hvr : ∀ e x, VR e (va x) (vv x)) {e : Env} {h : AH} {W : World} (r : HR P (Base.all W) e h W) {a : Addr} {len cap sz : Nat} {C : Array Value} {el : TypeId} {fr : Nat × Nat} (hB : W.heap[a.block]? = some (.cells C el fr)) (hspot : a.spot = none) (f : Nat → List K)
  (hf : ∀ i, i < len → (f i).length = sz ∧ ∀ k n, (f i)[k]? = some n → W.cell? (a.add (i * sz + k)) = some (vv n)) :
  ∃ e' h' s, Env.le e e' ∧ HR P (Base.all W) e' h' W ∧ Ext h h' ∧ VR e' s (.slice (some a) len cap) ∧ SliceOf h' sz s (((List.range len).map f).map fun l => l.map fun x => va x) ∧ sameA s s = true ∧ ∃ b o, s = .slice b o len cap := by
 obtain ⟨B, off, spot⟩ := a
 dsimp only at hB hspot
 subst hspot
 have hcell : ∀ i, i < len → (f i).length = sz ∧ ∀ k n, (f i)[k]? = some n → C.toList[off + i * sz + k]? = some (vv n) := fun i hi => by
  obtain ⟨h1, h2⟩ := hf i hi
  refine ⟨h1, fun k n hn => ?_⟩
  have := h2 k n hn
  have e1 := addr_add B off (i * sz + k)
  rw [e1] at this
  unfold World.cell? at this
  rw [hB] at this
  simp only [Option.isSome_none, Bool.false_eq_true, if_false] at this
  rw [Array.getElem?_toList, Nat.add_assoc]
  exact this
 have hrows := rowsG_eq len f hcell
 let R := (List.range len).map f
 have hRl : ∀ l, l ∈ R → l.length = sz := fun l hl => by
  obtain ⟨i, hi, rfl⟩ := List.mem_map.1 hl
  exact (hf i (List.mem_range.1 hi)).1
 have hRlen : R.length = len := by simp [R]
 have hlen : (C.toList.drop off).take (len * sz) = (R.flatten).map fun x => vv x := hrows
 have hfl : R.flatten.length = len * sz := by
  have : ∀ {L : List (List K)}, (∀ l, l ∈ L → l.length = sz) → L.flatten.length = L.length * sz := by
   intro L
   induction L with
   | nil => intro _; simp
   | cons a L ih => intro h; simp only [List.flatten_cons, List.length_append, h a (by simp), ih fun l q => h l (by simp [q]), List.length_cons, Nat.add_mul]; omega
  rw [this hRl, hRlen]
 by_cases h0 : len * sz = 0
 ·-- nothing of it is read
  obtain ⟨e', h', k1, k2, k3, k4, k5⟩ := r.openWin (B := B) (lo := 0) (PRE := []) (CS := []) (junk := C.toList) (el := el) (fr := fr) (cs := []) (by simpa using hB) rfl (fun _ => .nil)
  refine ⟨e', h', .slice h.next off len cap, k1, k2, k3, .slice k4, .mk rfl rfl k5.1 (by simp) (fun l hl => ?_) ?_, by simp [sameA], _, _, rfl⟩
  ·obtain ⟨x, hx, rfl⟩ := List.mem_map.1 hl
   rw [List.length_map]
   exact hRl x hx
  ·have hnil : R.flatten = [] := List.eq_nil_of_length_eq_zero (by omega)
   unfold loadCells
   rw [k5.2]
   have e1 : ((R.map fun l => l.map fun x => va x).length * sz) = 0 := by rw [List.length_map, hRlen]; exact h0
   have e2 : (R.map fun l => l.map fun x => va x).flatten = [] := by rw [← List.map_flatten, hnil]; rfl
   show cond (Nat.ble 0 off) (slice? [] (off - 0) ((R.map fun l => l.map fun x => va x).length * sz)) none = some _
   rw [e1, e2, show Nat.ble 0 off = true from Nat.ble_eq_true_of_le (Nat.zero_le _)]
   simp [slice?]
 ·have hle : off + len * sz ≤ C.toList.length := by
   have : ((C.toList.drop off).take (len * sz)).length = len * sz := by rw [hlen, List.length_map, hfl]
   rw [List.length_take, List.length_drop] at this
   omega
  have hC : C = (C.toList.take off ++ ((R.flatten.map fun x => vv x) ++ C.toList.drop (off + len * sz))).toArray := by
   rw [← hlen]
   have : C.toList.take off ++ ((C.toList.drop off).take (len * sz) ++ C.toList.drop (off + len * sz)) = C.toList := by
    rw [← List.drop_drop, List.take_append_drop, List.take_append_drop]
   rw [this]
  obtain ⟨e', h', k1, k2, k3, k4, k5⟩ := r.openWin (B := B) (lo := off) (PRE := C.toList.take off) (CS := R.flatten.map fun x => vv x) (junk := C.toList.drop (off + len * sz)) (el := el) (fr := fr) (cs := R.flatten.map fun x => va x) (by rw [← hC]; exact hB) (by rw [List.length_take]; omega) (fun _ => VRs.kinds hvr _)
  refine ⟨e', h', .slice h.next off len cap, k1, k2, k3, .slice k4, .mk rfl rfl k5.1 (by simp) (fun l hl => ?_) ?_, by simp [sameA], _, _, rfl⟩
  ·obtain ⟨x, hx, rfl⟩ := List.mem_map.1 hl
   rw [List.length_map]
   exact hRl x hx
  ·unfold loadCells
   rw [k5.2]
   have e1 : ((R.map fun l => l.map fun x => va x).length * sz) = len * sz := by rw [List.length_map, hRlen]
   have e2 : (R.map fun l => l.map fun x => va x).flatten = R.flatten.map fun x => va x := by rw [← List.map_flatten]
   show cond (Nat.ble off off) (slice? (R.flatten.map fun x => va x) (off - off) ((R.map fun l => l.map fun x => va x).length * sz)) none = some _
   rw [e1, e2, show Nat.ble off off = true from Nat.ble_eq_true_of_le (Nat.le_refl _), Nat.sub_self]
   exact slice_all (by rw [List.length_map, hfl])
end
end Go.AbsE

namespace Go.AbsE
open Go
set_option linter.unusedSimpArgs false
set_option linter.unusedVariables false
section
variable {P : Program} {h : AH} {dst : Option Tmp} {ty tt el : TypeId} {pos : String} {after : Array Edge} {guard : Option (Nat × Bool)} {x y : Operand}
def CutS (s : AVal) (n : Nat) : Prop := n ≠ 0 → ∃ b off cap, s = .slice b off n cap ∧ n ≤ cap
theorem SliceOf.take {sz b off n cap cap' i : Nat} {L : List (List AVal)} (k : SliceOf h sz (.slice b off n cap) L) (hL : L.length = n) (hi : i ≤ n) : SliceOf h sz (.slice b off i cap') (L.take i) := by
 cases k with
 | mk hs hn hb hl hz hc =>
  rw [show aSlElems (.slice b off n cap) = some (b, off, n) from rfl] at hs
  cases hs
  have hlen : (L.take i).length = i := by rw [List.length_take]; omega
  refine .mk (b := b) (off := off) (len := i) rfl rfl hb hlen (fun l hl => hz l (List.mem_of_mem_take hl)) ?_
  have hp := loadCells_part (k := 0) (m := i * sz) hc (by rw [Nat.zero_add]; exact Nat.mul_le_mul_right _ (by omega))
  rw [Nat.add_zero] at hp
  rw [hlen, hp]
  congr 1
  have e1 : (L.take i).flatten.length = i * sz := by
   rw [flatten_len (sz := sz) (fun l hl => hz l (List.mem_of_mem_take hl)), hlen]
  have e3 : L.flatten = (L.take i).flatten ++ (L.drop i).flatten := by rw [← List.flatten_append, List.take_append_drop]
  rw [List.drop_zero, e3, ← e1, List.take_left]
end
end Go.AbsE

namespace Go.Proofs.Yteibheeleeengaa
open Go Go.AbsE Go.ChangeShapes Go.WideShapes Go.ChangeAt Go.RowKit
set_option linter.unusedSimpArgs false
set_option maxRecDepth 100000
set_option linter.unusedVariables false
theorem cells28 : Try.prog.cellsOf 28 = 8 := by kernel_rfl
theorem cells3 : Try.prog.cellsOf 3 = 1 := by kernel_rfl
theorem cells23 : Try.prog.cellsOf 23 = 2 := by kernel_rfl
theorem cells45 : Try.prog.cellsOf 45 = 4 := by kernel_rfl
theorem cells53 : Try.prog.cellsOf 53 = 3 := by kernel_rfl
theorem cells24 : Try.prog.cellsOf 24 = 1 := by kernel_rfl
theorem cells25 : Try.prog.cellsOf 25 = 1 := by kernel_rfl
theorem cells26 : Try.prog.cellsOf 26 = 1 := by kernel_rfl
theorem ctypes28 : Try.prog.cellTypes Try.prog.depth 28 = some [3, 3, 3, 3, 24, 3, 25, 26] := by kernel_rfl
theorem laidOut : laidOutB Try.prog = true := by kernel_rfl
def inI64 (n : Int) : Prop := -9223372036854775808 ≤ n ∧ n ≤ 9223372036854775807
theorem wf_in {n : Int} (h : (Lit.int .i64 n).wf = true) : inI64 n := by
 simp only [Lit.wf, Bool.and_eq_true, decide_eq_true_eq] at h
 have h1 : IntKind.i64.min = -9223372036854775808 := by decide
 have h2 : IntKind.i64.max = 9223372036854775807 := by decide
 rw [h1, h2] at h
 constructor <;> omega
variable {H : Type} {enc : TypeId × Value → H} {W : World} {base : Nat} {spare : Nat → Bool} {held : Bool}
theorem int_row {n : Nat} {cs : List Value} {x : DataW H × List MemPlace} (h : DataW.trod enc Try.prog W base spare held n 3 cs = some x) : ∃ a : Int, cs = [.int .i64 a] ∧ inI64 a := by
 obtain ⟨a, h1, _, h3⟩ := DataW.trod_int Try.underlying3 h
 exact ⟨a, h1, wf_in h3⟩
theorem span_row {n : Nat} {cs : List Value} {x : DataW H × List MemPlace} (h : DataW.trod enc Try.prog W base spare held n 23 cs = some x) : ∃ a b : Int, cs = [.int .i64 a, .int .i64 b] := by
 obtain ⟨y0, y1, k, _, hl, h0, h1⟩ := ChangeShapes.trod_struct2 Try.underlying23 h
 rw [cells23] at hl
 dsimp only at h0 h1
 rw [cells3] at h0 h1
 obtain ⟨a, ha, _⟩ := int_row h0
 obtain ⟨b, hb, _⟩ := int_row h1
 match cs, hl with
 | [c0, c1], _ =>
  simp at ha hb
  exact ⟨a, b, by rw [ha, hb]⟩
theorem list2 {α : Type} {l : List α} (h : l.length = 2) : ∃ c0 c1, l = [c0, c1] := by
 match l, h with
 | [c0, c1], _ => exact ⟨c0, c1, rfl⟩
theorem list3 {α : Type} {l : List α} (h : l.length = 3) : ∃ c0 c1 c2, l = [c0, c1, c2] := by
 match l, h with
 | [c0, c1, c2], _ => exact ⟨c0, c1, c2, rfl⟩
theorem list4 {α : Type} {l : List α} (h : l.length = 4) : ∃ c0 c1 c2 c3, l = [c0, c1, c2, c3] := by
 match l, h with
 | [c0, c1, c2, c3], _ => exact ⟨c0, c1, c2, c3, rfl⟩
theorem list6 {α : Type} {l : List α} (h : l.length = 6) : ∃ c0 c1 c2 c3 c4 c5, l = [c0, c1, c2, c3, c4, c5] := by
 match l, h with
 | [c0, c1, c2, c3, c4, c5], _ => exact ⟨c0, c1, c2, c3, c4, c5, rfl⟩
theorem sp_row {n : Nat} {cs : List Value} {x : DataW H × List MemPlace} (h : DataW.trod enc Try.prog W base spare held n 23 cs = some x) : ∃ r : List Int, r.length = 2 ∧ cs = r.map fun x => Value.int .i64 x := by
 obtain ⟨a, b, rfl⟩ := span_row h
 exact ⟨[a, b], rfl, rfl⟩
theorem boat_row {n : Nat} {cs : List Value} {x : DataW H × List MemPlace} (h : DataW.trod enc Try.prog W base spare held n 45 cs = some x) : ∃ r : List Int, r.length = 4 ∧ cs = r.map fun x => Value.int .i64 x := by
 obtain ⟨xs, m, _, _, hl, hlen, hfl⟩ := DataW.trod_struct Try.underlying45 h
 rw [cells45] at hl
 obtain ⟨c0, c1, c2, c3, rfl⟩ := list4 hl
 obtain ⟨y0, y1, y2, rfl⟩ := list3 hlen
 have t0 : DataW.trod enc Try.prog W base spare held m 23 [c0, c1] = some y0 := by
  have this : DataW.trod enc Try.prog W base spare held m 23 (([c0, c1, c2, c3].drop 0).take (Try.prog.cellsOf 23)) = [y0, y1, y2][0]? := hfl 0 _ rfl
  rw [cells23] at this;exact this
 have t1 : DataW.trod enc Try.prog W base spare held m 3 [c2] = some y1 := by
  have this : DataW.trod enc Try.prog W base spare held m 3 (([c0, c1, c2, c3].drop 2).take (Try.prog.cellsOf 3)) = [y0, y1, y2][1]? := hfl 1 _ rfl
  rw [cells3] at this;exact this
 have t2 : DataW.trod enc Try.prog W base spare held m 3 [c3] = some y2 := by
  have this : DataW.trod enc Try.prog W base spare held m 3 (([c0, c1, c2, c3].drop 3).take (Try.prog.cellsOf 3)) = [y0, y1, y2][2]? := hfl 2 _ rfl
  rw [cells3] at this;exact this
 obtain ⟨a0, a1, e0⟩ := span_row t0
 obtain ⟨a2, e1, _⟩ := int_row t1
 obtain ⟨a3, e2, _⟩ := int_row t2
 simp at e0 e1 e2
 exact ⟨[a0, a1, a2, a3], rfl, by rw [e0.1, e0.2, e1, e2]; rfl⟩
theorem look_row {n : Nat} {cs : List Value} {x : DataW H × List MemPlace} (h : DataW.trod enc Try.prog W base spare held n 53 cs = some x) : ∃ r : List Int, r.length = 3 ∧ cs = r.map fun x => Value.int .i64 x := by
 obtain ⟨xs, m, _, _, hl, hlen, hfl⟩ := DataW.trod_struct Try.underlying53 h
 rw [cells53] at hl
 obtain ⟨c0, c1, c2, rfl⟩ := list3 hl
 obtain ⟨y0, y1, rfl⟩ := list2 hlen
 have t0 : DataW.trod enc Try.prog W base spare held m 3 [c0] = some y0 := by
  have this : DataW.trod enc Try.prog W base spare held m 3 (([c0, c1, c2].drop 0).take (Try.prog.cellsOf 3)) = [y0, y1][0]? := hfl 0 _ rfl
  rw [cells3] at this;exact this
 have t1 : DataW.trod enc Try.prog W base spare held m 23 [c1, c2] = some y1 := by
  have this : DataW.trod enc Try.prog W base spare held m 23 (([c0, c1, c2].drop 1).take (Try.prog.cellsOf 23)) = [y0, y1][1]? := hfl 1 _ rfl
  rw [cells23] at this;exact this
 obtain ⟨a0, e0, _⟩ := int_row t0
 obtain ⟨a1, a2, e1⟩ := span_row t1
 simp at e0 e1
 exact ⟨[a0, a1, a2], rfl, by rw [e0, e1.1, e1.2]; rfl⟩
theorem slice_okw {t el : TypeId} {a : Addr} {len cap : Nat} {bs : Nat} (ht : Try.prog.underlying t = some (.slice el)) (h : Cell.okWide Try.prog W .any bs t (.slice (some a) len cap)) : a.spot = none ∧ ∃ C e fr, W.heap[a.block]? = some (.cells C e fr) := by
 unfold Cell.okWide at h
 rw [ht] at h
 dsimp only at h
 unfold Cell.ok at h
 rw [ht] at h
 dsimp only at h
 obtain ⟨_, _, _, h2, row, n, h3, _⟩ := h
 refine ⟨h2, ?_⟩
 unfold World.shape? at h3
 split at h3
 ·rename_i c e fr hq
  exact ⟨c, e, fr, hq⟩
 ·cases h3
theorem slice_cap {t el : TypeId} {a : Addr} {len cap : Nat} {bs : Nat} (ht : Try.prog.underlying t = some (.slice el)) (h : Cell.okWide Try.prog W .any bs t (.slice (some a) len cap)) : len < 9223372036854775808 := by
 unfold Cell.okWide at h
 rw [ht] at h
 dsimp only at h
 unfold Cell.ok at h
 rw [ht] at h
 dsimp only at h
 obtain ⟨h1, h2, _⟩ := h
 have : IntKind.i64.max = 9223372036854775807 := by decide
 rw [this] at h2
 omega
theorem slice_le {t el : TypeId} {a : Addr} {len cap : Nat} {bs : Nat} (ht : Try.prog.underlying t = some (.slice el)) (h : Cell.okWide Try.prog W .any bs t (.slice (some a) len cap)) : len ≤ cap := by
 unfold Cell.okWide at h
 rw [ht] at h
 dsimp only at h
 unfold Cell.ok at h
 rw [ht] at h
 dsimp only at h
 exact h.1
theorem rows_of {t el : TypeId} {sz fuel : Nat} {c : Value} {y : DataW H × List MemPlace} {bs : Nat} (ht : Try.prog.underlying t = some (.slice el)) (hsz : Try.prog.cellsOf el = sz)
  (hrow : ∀ {n : Nat} {cs : List Value} {x : DataW H × List MemPlace}, DataW.trod enc Try.prog W 0 (fun _ => true) true n el cs = some x → ∃ r : List Int, r.length = sz ∧ cs = r.map fun x => Value.int .i64 x)
  (h : DataW.trod enc Try.prog W 0 (fun _ => true) true fuel t [c] = some y) (hok : Cell.okWide Try.prog W .any bs t c) {e : Env} {hh : AH} (r : HR Try.prog (Base.all W) e hh W) :
  ∃ e' h' s, ∃ R : List (List Int), Env.le e e' ∧ HR Try.prog (Base.all W) e' h' W ∧ Ext hh h' ∧ VR e' s c ∧ (∀ l, l ∈ R → l.length = sz) ∧ SliceOf h' sz s (R.map fun l => l.map fun x => AVal.int .i64 x) ∧ R.length < 9223372036854775808 ∧ CutS s R.length := by
 rcases Deep.open_slice ht h with ⟨hcs, _⟩ | ⟨a, len, cap, m, n, D, Pl, hcs, _, hl, _, hmm, _, hx⟩
 ·simp at hcs
  subst hcs;exact ⟨e, hh, .nilslice, [], Env.le_refl e, r, Ext.refl _, .nilslice, (fun _ q => by cases q), .nil, by decide, fun q => absurd rfl q⟩
 ·simp at hcs
  subst hcs
  obtain ⟨hs, C, el', fr, hB⟩ := slice_okw ht hok
  have hcap := slice_cap ht hok
  have hle := slice_le ht hok
  have hm : m = cap := by simpa using hmm
  have each : ∀ i, ∃ rr : List Int, i < len → rr.length = sz ∧ ∀ k n, rr[k]? = some n → W.cell? (a.add (i * sz + k)) = some (.int .i64 n) := by
   intro i
   by_cases hi : i < len
   ·obtain ⟨cs', h1, h2⟩ := hx i (by omega)
    obtain ⟨rr, hr1, hr2⟩ := hrow h2
    rw [hsz] at h1
    obtain ⟨_, hlen, hc⟩ := World.cells?_some h1
    refine ⟨rr, fun _ => ⟨hr1, fun k n hk => ?_⟩⟩
    have hkl := (List.getElem?_eq_some_iff.1 hk).1
    have := hc k (by omega)
    obtain ⟨B, off, spot⟩ := a
    dsimp only at hs
    subst hs;rw [addr_add, addr_add] at this;rw [addr_add, ← Nat.add_assoc, this, hr2, List.getElem?_map, hk]
    rfl
   ·exact ⟨[], fun q => absurd q hi⟩
  obtain ⟨f, hf⟩ := Classical.axiomOfChoice each
  obtain ⟨e', h', s, k1, k2, k3, k4, k5, _, b, o, rfl⟩ := r.openRowsC (fun x => AVal.int .i64 x) (fun x => Value.int .i64 x) (fun _ _ => .int _ _) (cap := cap) (len := len) (sz := sz) hB hs f hf
  exact ⟨e', h', _, (List.range len).map f, k1, k2, k3, k4, fun l hl => by
   obtain ⟨i, hi, rfl⟩ := List.mem_map.1 hl
   exact (hf i (List.mem_range.1 hi)).1, k5, by rw [List.length_map, List.length_range]; exact hcap, fun _ => ⟨b, o, cap, by rw [List.length_map, List.length_range], by rw [List.length_map, List.length_range]; exact hle⟩⟩
def toS : List Int → Int × Int
 | [a, b] => (a, b)
 | _ => (0, 0)
def toB : List Int → BV
 | [a, b, c, d] => ⟨a, b, c, d⟩
 | _ => ⟨0, 0, 0, 0⟩
def toL : List Int → LV
 | [a, b, c] => ⟨a, b, c⟩
 | _ => ⟨0, 0, 0⟩
theorem ss_eq {R : List (List Int)} (h : ∀ l, l ∈ R → l.length = 2) : (R.map fun l => l.map fun x => AVal.int .i64 x) = (R.map toS).map spC := by
 rw [List.map_map];refine List.map_congr_left fun l hl => ?_
 match l, h l hl with
 | [a, b], _ => rfl
theorem bs_eq {R : List (List Int)} (h : ∀ l, l ∈ R → l.length = 4) : (R.map fun l => l.map fun x => AVal.int .i64 x) = (R.map toB).map BV.cells := by
 rw [List.map_map];refine List.map_congr_left fun l hl => ?_
 match l, h l hl with
 | [a, b, c, d], _ => rfl
theorem ls_eq {R : List (List Int)} (h : ∀ l, l ∈ R → l.length = 3) : (R.map fun l => l.map fun x => AVal.int .i64 x) = (R.map toL).map LV.cells := by
 rw [List.map_map];refine List.map_congr_left fun l hl => ?_
 match l, h l hl with
 | [a, b, c], _ => rfl
theorem array8 {α : Type} {cs : Array α} (h : cs.size = 8) : ∃ c0 c1 c2 c3 c4 c5 c6 c7, cs = #[c0, c1, c2, c3, c4, c5, c6, c7] := by
 obtain ⟨l⟩ := cs
 match l, h with
 | [c0, c1, c2, c3, c4, c5, c6, c7], _ => exact ⟨c0, c1, c2, c3, c4, c5, c6, c7, rfl⟩
theorem cut_of {bs : Nat} {v : Value} {d : DataW H} {p : List MemPlace} (hv : Value.okWide Try.prog W .any bs 28 v) (h : DataW.Trod enc Try.prog W 0 (fun _ => true) true 28 v d p) {e : Env} {hh : AH} (r : HR Try.prog (Base.all W) e hh W) :
  ∃ e' h' C sr sb sl, Env.le e e' ∧ HR Try.prog (Base.all W) e' h' W ∧ Ext hh h' ∧ VR e' (.agg (C.cells sr sb sl)) v ∧ CutAt h' C sr sb sl ∧ C.rs.length < 9223372036854775808 ∧ C.bs.length < 9223372036854775808 ∧ C.ls.length < 9223372036854775808 ∧ CutS sl C.ls.length := by
 have hv2 := hv
 obtain ⟨cs, rfl, hsz⟩ := okWide_struct Try.underlying28 hv
 obtain ⟨c0, c1, c2, c3, c4, c5, c6, c7, rfl⟩ := array8 (hsz.trans cells28)
 obtain ⟨fuel, hf⟩ := h
 obtain ⟨xs, n, _, _, hl, hlen, hfl⟩ := DataW.trod_struct Try.underlying28 hf
 obtain ⟨y0, y1, y2, y3, y4, y5, rfl⟩ := list6 hlen
 have t0 : DataW.trod enc Try.prog W 0 (fun _ => true) true n 23 [c0, c1] = some y0 := by
  have this : DataW.trod enc Try.prog W 0 (fun _ => true) true n 23 (([c0, c1, c2, c3, c4, c5, c6, c7].drop 0).take (Try.prog.cellsOf 23)) = [y0, y1, y2, y3, y4, y5][0]? := hfl 0 _ rfl
  rw [cells23] at this;exact this
 have t1 : DataW.trod enc Try.prog W 0 (fun _ => true) true n 23 [c2, c3] = some y1 := by
  have this : DataW.trod enc Try.prog W 0 (fun _ => true) true n 23 (([c0, c1, c2, c3, c4, c5, c6, c7].drop 2).take (Try.prog.cellsOf 23)) = [y0, y1, y2, y3, y4, y5][1]? := hfl 1 _ rfl
  rw [cells23] at this;exact this
 have t2 : DataW.trod enc Try.prog W 0 (fun _ => true) true n 24 [c4] = some y2 := by
  have this : DataW.trod enc Try.prog W 0 (fun _ => true) true n 24 (([c0, c1, c2, c3, c4, c5, c6, c7].drop 4).take (Try.prog.cellsOf 24)) = [y0, y1, y2, y3, y4, y5][2]? := hfl 2 _ rfl
  rw [cells24] at this;exact this
 have t3 : DataW.trod enc Try.prog W 0 (fun _ => true) true n 3 [c5] = some y3 := by
  have this : DataW.trod enc Try.prog W 0 (fun _ => true) true n 3 (([c0, c1, c2, c3, c4, c5, c6, c7].drop 5).take (Try.prog.cellsOf 3)) = [y0, y1, y2, y3, y4, y5][3]? := hfl 3 _ rfl
  rw [cells3] at this;exact this
 have t4 : DataW.trod enc Try.prog W 0 (fun _ => true) true n 25 [c6] = some y4 := by
  have this : DataW.trod enc Try.prog W 0 (fun _ => true) true n 25 (([c0, c1, c2, c3, c4, c5, c6, c7].drop 6).take (Try.prog.cellsOf 25)) = [y0, y1, y2, y3, y4, y5][4]? := hfl 4 _ rfl
  rw [cells25] at this;exact this
 have t5 : DataW.trod enc Try.prog W 0 (fun _ => true) true n 26 [c7] = some y5 := by
  have this : DataW.trod enc Try.prog W 0 (fun _ => true) true n 26 (([c0, c1, c2, c3, c4, c5, c6, c7].drop 7).take (Try.prog.cellsOf 26)) = [y0, y1, y2, y3, y4, y5][5]? := hfl 5 _ rfl
  rw [cells26] at this;exact this
 unfold Value.okWide at hv2
 rw [Try.underlying28] at hv2
 obtain ⟨cs, hcs, _, ts, hts, _, hrow⟩ := hv2
 injection hcs with hcs
 subst hcs;rw [ctypes28] at hts;cases hts
 obtain ⟨u4, hu4, ok4⟩ := hrow 4 c4 rfl
 obtain ⟨u6, hu6, ok6⟩ := hrow 6 c6 rfl
 obtain ⟨u7, hu7, ok7⟩ := hrow 7 c7 rfl
 cases hu4;cases hu6;cases hu7
 obtain ⟨n0, n1, e0⟩ := span_row t0
 obtain ⟨n2, n3, e1⟩ := span_row t1
 obtain ⟨n5, e3, _⟩ := int_row t3
 simp at e0 e1 e3
 obtain ⟨rfl, rfl⟩ := e0
 obtain ⟨rfl, rfl⟩ := e1
 subst e3
 obtain ⟨ea, ha, s0, R0, a1, a2, a3, a4, a5, a6, a7, a8⟩ := rows_of Try.underlying24 cells23 sp_row t2 ok4 r
 obtain ⟨eb, hb, s1, R1, b1, b2, b3, b4, b5, b6, b7, b8⟩ := rows_of Try.underlying25 cells45 boat_row t4 ok6 a2
 obtain ⟨ec, hc, s2, R2, g1, g2, g3, g4, g5, g6, g7, g8⟩ := rows_of Try.underlying26 cells53 look_row t5 ok7 b2
 rw [ss_eq a5] at a6;rw [bs_eq b5] at b6;rw [ls_eq g5] at g6;refine ⟨ec, hc, ⟨n0, n1, n2, n3, R0.map toS, n5, R1.map toB, R2.map toL⟩, s0, s1, s2, Env.le_trans a1 (Env.le_trans b1 g1), g2, a3.trans (b3.trans g3), ?_, ⟨(a6.ext b3).ext g3, b6.ext g3, g6⟩, by simpa using a7, by simpa using b7, by simpa using g7, by show CutS s2 (R2.map toL).length; rw [List.length_map]; exact g8⟩;exact .agg (CS := [_, _, _, _, _, _, _, _]) (.cons (.int _ _) (.cons (.int _ _) (.cons (.int _ _) (.cons (.int _ _) (.cons ((a4.mono b1).mono g1) (.cons (.int _ _) (.cons (b4.mono g1) (.cons g4 .nil))))))))
end Go.Proofs.Yteibheeleeengaa
