/- The run of BankNames. -/
import Derived.Test.YtidfcmjlfadieaaEn
import Derived.Test.YtidfcmjlfadieaaChecked
import Derived.KernelRfl
import Derived.Test.YtidfcmjlfadieaaT1
import Derived.Test.YtidfcmjlfadieaaT2
import Derived.Test.YtidfcmjlfadieaaT3
import Derived.Test.YtidfcmjlfadieaaT4
import Derived.Test.YtidfcmjlfadieaaT5
import Derived.Test.YtidfcmjlfadieaaT6
namespace Go.Proofs.Ytidfcmjlfadieaa
open Go Go.AbsE
set_option maxRecDepth 100000
noncomputable def known : List Ent := [ent1, ent2, ent3, ent4, ent5, ent6, ent7, ent8, ent9, ent10, ent11, ent12, ent13, ent14, ent15, ent16, ent17, ent18, ent19, ent20, ent21, ent22, ent23, ent24, ent25, ent26, ent27, ent28, ent29, ent30, ent31, ent32, ent33, ent34, ent35, ent36, ent37, ent38, ent39, ent40, ent41, ent42, ent43, ent44, ent45, ent46, ent47, ent48, ent49, ent50, ent51, ent52, ent53, ent54, ent55, ent56, ent57, ent58, ent59, ent60, ent61, ent62, ent63, ent64, ent65, ent66, ent67, ent68, ent69, ent70, ent71, ent72, ent73, ent74, ent75, ent76, ent77]
theorem knownOk : JOk Try.prog (tblJ known) := tbl_ok (l := known) (EntOk.cons ent1Ok (.cons ent2Ok (.cons ent3Ok (.cons ent4Ok (.cons ent5Ok (.cons ent6Ok (.cons ent7Ok (.cons ent8Ok (.cons ent9Ok (.cons ent10Ok (.cons ent11Ok (.cons ent12Ok (.cons ent13Ok (.cons ent14Ok (.cons ent15Ok (.cons ent16Ok (.cons ent17Ok (.cons ent18Ok (.cons ent19Ok (.cons ent20Ok (.cons ent21Ok (.cons ent22Ok (.cons ent23Ok (.cons ent24Ok (.cons ent25Ok (.cons ent26Ok (.cons ent27Ok (.cons ent28Ok (.cons ent29Ok (.cons ent30Ok (.cons ent31Ok (.cons ent32Ok (.cons ent33Ok (.cons ent34Ok (.cons ent35Ok (.cons ent36Ok (.cons ent37Ok (.cons ent38Ok (.cons ent39Ok (.cons ent40Ok (.cons ent41Ok (.cons ent42Ok (.cons ent43Ok (.cons ent44Ok (.cons ent45Ok (.cons ent46Ok (.cons ent47Ok (.cons ent48Ok (.cons ent49Ok (.cons ent50Ok (.cons ent51Ok (.cons ent52Ok (.cons ent53Ok (.cons ent54Ok (.cons ent55Ok (.cons ent56Ok (.cons ent57Ok (.cons ent58Ok (.cons ent59Ok (.cons ent60Ok (.cons ent61Ok (.cons ent62Ok (.cons ent63Ok (.cons ent64Ok (.cons ent65Ok (.cons ent66Ok (.cons ent67Ok (.cons ent68Ok (.cons ent69Ok (.cons ent70Ok (.cons ent71Ok (.cons ent72Ok (.cons ent73Ok (.cons ent74Ok (.cons ent75Ok (.cons ent76Ok (.cons ent77Ok EntOk.nil)))))))))))))))))))))))))))))))))))))))))))))))))))))))))))))))))))))))))))))
theorem theRun : closedRun Try.prog (tblJ known) 1000000 4 = true := by kernel_rfl
end Go.Proofs.Ytidfcmjlfadieaa
