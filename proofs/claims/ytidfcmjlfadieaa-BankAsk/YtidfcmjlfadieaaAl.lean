import Derived.Test.YtidfcmjlfadieaaT1
import Derived.Test.YtidfcmjlfadieaaT2
import Derived.Test.YtidfcmjlfadieaaT3
namespace Go.Proofs.Ytidfcmjlfadieaa
open Go Go.AbsE
set_option maxRecDepth 100000
noncomputable def known : List Ent := [ent1, ent2, ent3, ent4, ent5, ent6, ent7, ent8, ent9, ent10, ent11, ent12, ent13, ent14, ent15, ent16, ent17, ent18, ent19, ent20, ent21, ent22, ent23, ent24, ent25, ent26, ent27, ent28]
theorem knownOk : JOk Try.prog (tblJ known) := tbl_ok (l := known) (EntOk.cons ent1Ok (EntOk.cons ent2Ok (EntOk.cons ent3Ok (EntOk.cons ent4Ok (EntOk.cons ent5Ok (EntOk.cons ent6Ok (EntOk.cons ent7Ok (EntOk.cons ent8Ok (EntOk.cons ent9Ok (EntOk.cons ent10Ok (EntOk.cons ent11Ok (EntOk.cons ent12Ok (EntOk.cons ent13Ok (EntOk.cons ent14Ok (EntOk.cons ent15Ok (EntOk.cons ent16Ok (EntOk.cons ent17Ok (EntOk.cons ent18Ok (EntOk.cons ent19Ok (EntOk.cons ent20Ok (EntOk.cons ent21Ok (EntOk.cons ent22Ok (EntOk.cons ent23Ok (EntOk.cons ent24Ok (EntOk.cons ent25Ok (EntOk.cons ent26Ok (EntOk.cons ent27Ok (EntOk.cons ent28Ok (EntOk.nil)))))))))))))))))))))))))))))
/-- alive, as a call that is known. -/
noncomputable def entAlive : Ent := ⟨14, [], [], .bool true⟩
theorem aliveOk : EntOk Try.prog entAlive := entRun_ok knownOk (fuel := 1000000) (by kernel_rfl)
noncomputable def JA : Jump := tblJ [entAlive]
theorem JA_ok : JOk Try.prog JA := tbl_ok (EntOk.cons aliveOk EntOk.nil)
end Go.Proofs.Ytidfcmjlfadieaa
