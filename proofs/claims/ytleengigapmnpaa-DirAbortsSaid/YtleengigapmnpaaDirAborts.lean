/- DirAborts: the walk of the statement, by the evaluator, trees of questions, facts. -/
import Derived.Test.YtleengigapmnpaaEvS
import Derived.Test.YtleengigapmnpaaEvZc
import Derived.Test.YtleengigapmnpaaTabDir
import Derived.Test.YtleengigapmnpaaChangeEq
import Derived.Test.YtleengigapmnpaaDirAbortsB0
import Derived.Test.YtleengigapmnpaaDirAbortsB1
import Derived.Test.YtleengigapmnpaaDirAbortsB2
import Derived.Test.YtleengigapmnpaaDirAbortsB3
import Derived.ProofKit
namespace Go.Proofs.Ytleengigapmnpaa
open Go.RowKit
set_option linter.unusedVariables false
set_option linter.unusedSimpArgs false
set_option maxRecDepth 100000

def dirAborts0t65 : DT := .less 1 (30) .leaf .leaf
def dirAborts0t63 : DT := .less 1 (29) .leaf dirAborts0t65
def dirAborts0t61 : DT := .less 1 (28) .leaf dirAborts0t63
def dirAborts0t59 : DT := .less 1 (27) .leaf dirAborts0t61
def dirAborts0t57 : DT := .less 1 (26) .leaf dirAborts0t59
def dirAborts0t55 : DT := .less 1 (25) .leaf dirAborts0t57
def dirAborts0t53 : DT := .less 1 (24) .leaf dirAborts0t55
def dirAborts0t51 : DT := .less 1 (23) .leaf dirAborts0t53
def dirAborts0t49 : DT := .less 1 (22) .leaf dirAborts0t51
def dirAborts0t47 : DT := .less 1 (21) .leaf dirAborts0t49
def dirAborts0t45 : DT := .less 1 (20) .leaf dirAborts0t47
def dirAborts0t43 : DT := .less 1 (19) .leaf dirAborts0t45
def dirAborts0t41 : DT := .less 1 (18) .leaf dirAborts0t43
def dirAborts0t39 : DT := .less 1 (17) .leaf dirAborts0t41
def dirAborts0t37 : DT := .less 1 (16) .leaf dirAborts0t39
def dirAborts0t35 : DT := .less 1 (15) .leaf dirAborts0t37
def dirAborts0t33 : DT := .less 1 (14) .leaf dirAborts0t35
def dirAborts0t31 : DT := .less 1 (13) .leaf dirAborts0t33
def dirAborts0t29 : DT := .less 1 (12) .leaf dirAborts0t31
def dirAborts0t27 : DT := .less 1 (11) .leaf dirAborts0t29
def dirAborts0t25 : DT := .less 1 (10) .leaf dirAborts0t27
def dirAborts0t23 : DT := .less 1 (9) .leaf dirAborts0t25
def dirAborts0t21 : DT := .less 1 (8) .leaf dirAborts0t23
def dirAborts0t19 : DT := .less 1 (7) .leaf dirAborts0t21
def dirAborts0t17 : DT := .less 1 (6) .leaf dirAborts0t19
def dirAborts0t15 : DT := .less 1 (5) .leaf dirAborts0t17
def dirAborts0t13 : DT := .less 1 (4) .leaf dirAborts0t15
def dirAborts0t11 : DT := .less 1 (3) .leaf dirAborts0t13
def dirAborts0t9 : DT := .less 1 (2) .leaf dirAborts0t11
def dirAborts0t125 : DT := .less 1 (30) .leaf .leaf
def dirAborts0t123 : DT := .less 1 (29) .leaf dirAborts0t125
def dirAborts0t121 : DT := .less 1 (28) .leaf dirAborts0t123
def dirAborts0t119 : DT := .less 1 (27) .leaf dirAborts0t121
def dirAborts0t117 : DT := .less 1 (26) .leaf dirAborts0t119
def dirAborts0t115 : DT := .less 1 (25) .leaf dirAborts0t117
def dirAborts0t113 : DT := .less 1 (24) .leaf dirAborts0t115
def dirAborts0t111 : DT := .less 1 (23) .leaf dirAborts0t113
def dirAborts0t109 : DT := .less 1 (22) .leaf dirAborts0t111
def dirAborts0t107 : DT := .less 1 (21) .leaf dirAborts0t109
def dirAborts0t105 : DT := .less 1 (20) .leaf dirAborts0t107
def dirAborts0t103 : DT := .less 1 (19) .leaf dirAborts0t105
def dirAborts0t101 : DT := .less 1 (18) .leaf dirAborts0t103
def dirAborts0t99 : DT := .less 1 (17) .leaf dirAborts0t101
def dirAborts0t97 : DT := .less 1 (16) .leaf dirAborts0t99
def dirAborts0t95 : DT := .less 1 (15) .leaf dirAborts0t97
def dirAborts0t93 : DT := .less 1 (14) .leaf dirAborts0t95
def dirAborts0t91 : DT := .less 1 (13) .leaf dirAborts0t93
def dirAborts0t89 : DT := .less 1 (12) .leaf dirAborts0t91
def dirAborts0t87 : DT := .less 1 (11) .leaf dirAborts0t89
def dirAborts0t85 : DT := .less 1 (10) .leaf dirAborts0t87
def dirAborts0t83 : DT := .less 1 (9) .leaf dirAborts0t85
def dirAborts0t81 : DT := .less 1 (8) .leaf dirAborts0t83
def dirAborts0t79 : DT := .less 1 (7) .leaf dirAborts0t81
def dirAborts0t77 : DT := .less 1 (6) .leaf dirAborts0t79
def dirAborts0t75 : DT := .less 1 (5) .leaf dirAborts0t77
def dirAborts0t73 : DT := .less 1 (4) .leaf dirAborts0t75
def dirAborts0t71 : DT := .less 1 (3) .leaf dirAborts0t73
def dirAborts0t69 : DT := .less 1 (2) .leaf dirAborts0t71
def dirAborts0t185 : DT := .less 1 (30) .leaf .leaf
def dirAborts0t183 : DT := .less 1 (29) .leaf dirAborts0t185
def dirAborts0t181 : DT := .less 1 (28) .leaf dirAborts0t183
def dirAborts0t179 : DT := .less 1 (27) .leaf dirAborts0t181
def dirAborts0t177 : DT := .less 1 (26) .leaf dirAborts0t179
def dirAborts0t175 : DT := .less 1 (25) .leaf dirAborts0t177
def dirAborts0t173 : DT := .less 1 (24) .leaf dirAborts0t175
def dirAborts0t171 : DT := .less 1 (23) .leaf dirAborts0t173
def dirAborts0t169 : DT := .less 1 (22) .leaf dirAborts0t171
def dirAborts0t167 : DT := .less 1 (21) .leaf dirAborts0t169
def dirAborts0t165 : DT := .less 1 (20) .leaf dirAborts0t167
def dirAborts0t163 : DT := .less 1 (19) .leaf dirAborts0t165
def dirAborts0t161 : DT := .less 1 (18) .leaf dirAborts0t163
def dirAborts0t159 : DT := .less 1 (17) .leaf dirAborts0t161
def dirAborts0t157 : DT := .less 1 (16) .leaf dirAborts0t159
def dirAborts0t155 : DT := .less 1 (15) .leaf dirAborts0t157
def dirAborts0t153 : DT := .less 1 (14) .leaf dirAborts0t155
def dirAborts0t151 : DT := .less 1 (13) .leaf dirAborts0t153
def dirAborts0t149 : DT := .less 1 (12) .leaf dirAborts0t151
def dirAborts0t147 : DT := .less 1 (11) .leaf dirAborts0t149
def dirAborts0t145 : DT := .less 1 (10) .leaf dirAborts0t147
def dirAborts0t143 : DT := .less 1 (9) .leaf dirAborts0t145
def dirAborts0t141 : DT := .less 1 (8) .leaf dirAborts0t143
def dirAborts0t139 : DT := .less 1 (7) .leaf dirAborts0t141
def dirAborts0t137 : DT := .less 1 (6) .leaf dirAborts0t139
def dirAborts0t135 : DT := .less 1 (5) .leaf dirAborts0t137
def dirAborts0t133 : DT := .less 1 (4) .leaf dirAborts0t135
def dirAborts0t131 : DT := .less 1 (3) .leaf dirAborts0t133
def dirAborts0t129 : DT := .less 1 (2) .leaf dirAborts0t131
def dirAborts0t245 : DT := .less 1 (30) .leaf .leaf
def dirAborts0t243 : DT := .less 1 (29) .leaf dirAborts0t245
def dirAborts0t241 : DT := .less 1 (28) .leaf dirAborts0t243
def dirAborts0t239 : DT := .less 1 (27) .leaf dirAborts0t241
def dirAborts0t237 : DT := .less 1 (26) .leaf dirAborts0t239
def dirAborts0t235 : DT := .less 1 (25) .leaf dirAborts0t237
def dirAborts0t233 : DT := .less 1 (24) .leaf dirAborts0t235
def dirAborts0t231 : DT := .less 1 (23) .leaf dirAborts0t233
def dirAborts0t229 : DT := .less 1 (22) .leaf dirAborts0t231
def dirAborts0t227 : DT := .less 1 (21) .leaf dirAborts0t229
def dirAborts0t225 : DT := .less 1 (20) .leaf dirAborts0t227
def dirAborts0t223 : DT := .less 1 (19) .leaf dirAborts0t225
def dirAborts0t221 : DT := .less 1 (18) .leaf dirAborts0t223
def dirAborts0t219 : DT := .less 1 (17) .leaf dirAborts0t221
def dirAborts0t217 : DT := .less 1 (16) .leaf dirAborts0t219
def dirAborts0t215 : DT := .less 1 (15) .leaf dirAborts0t217
def dirAborts0t213 : DT := .less 1 (14) .leaf dirAborts0t215
def dirAborts0t211 : DT := .less 1 (13) .leaf dirAborts0t213
def dirAborts0t209 : DT := .less 1 (12) .leaf dirAborts0t211
def dirAborts0t207 : DT := .less 1 (11) .leaf dirAborts0t209
def dirAborts0t205 : DT := .less 1 (10) .leaf dirAborts0t207
def dirAborts0t203 : DT := .less 1 (9) .leaf dirAborts0t205
def dirAborts0t201 : DT := .less 1 (8) .leaf dirAborts0t203
def dirAborts0t199 : DT := .less 1 (7) .leaf dirAborts0t201
def dirAborts0t197 : DT := .less 1 (6) .leaf dirAborts0t199
def dirAborts0t195 : DT := .less 1 (5) .leaf dirAborts0t197
def dirAborts0t193 : DT := .less 1 (4) .leaf dirAborts0t195
def dirAborts0t191 : DT := .less 1 (3) .leaf dirAborts0t193
def dirAborts0t189 : DT := .less 1 (2) .leaf dirAborts0t191
def dirAborts0t304 : DT := .less 1 (30) .leaf .leaf
def dirAborts0t302 : DT := .less 1 (29) .leaf dirAborts0t304
def dirAborts0t300 : DT := .less 1 (28) .leaf dirAborts0t302
def dirAborts0t298 : DT := .less 1 (27) .leaf dirAborts0t300
def dirAborts0t296 : DT := .less 1 (26) .leaf dirAborts0t298
def dirAborts0t294 : DT := .less 1 (25) .leaf dirAborts0t296
def dirAborts0t292 : DT := .less 1 (24) .leaf dirAborts0t294
def dirAborts0t290 : DT := .less 1 (23) .leaf dirAborts0t292
def dirAborts0t288 : DT := .less 1 (22) .leaf dirAborts0t290
def dirAborts0t286 : DT := .less 1 (21) .leaf dirAborts0t288
def dirAborts0t284 : DT := .less 1 (20) .leaf dirAborts0t286
def dirAborts0t282 : DT := .less 1 (19) .leaf dirAborts0t284
def dirAborts0t280 : DT := .less 1 (18) .leaf dirAborts0t282
def dirAborts0t278 : DT := .less 1 (17) .leaf dirAborts0t280
def dirAborts0t276 : DT := .less 1 (16) .leaf dirAborts0t278
def dirAborts0t274 : DT := .less 1 (15) .leaf dirAborts0t276
def dirAborts0t272 : DT := .less 1 (14) .leaf dirAborts0t274
def dirAborts0t270 : DT := .less 1 (13) .leaf dirAborts0t272
def dirAborts0t268 : DT := .less 1 (12) .leaf dirAborts0t270
def dirAborts0t266 : DT := .less 1 (11) .leaf dirAborts0t268
def dirAborts0t264 : DT := .less 1 (10) .leaf dirAborts0t266
def dirAborts0t262 : DT := .less 1 (9) .leaf dirAborts0t264
def dirAborts0t260 : DT := .less 1 (8) .leaf dirAborts0t262
def dirAborts0t258 : DT := .less 1 (7) .leaf dirAborts0t260
def dirAborts0t256 : DT := .less 1 (6) .leaf dirAborts0t258
def dirAborts0t254 : DT := .less 1 (5) .leaf dirAborts0t256
def dirAborts0t252 : DT := .less 1 (4) .leaf dirAborts0t254
def dirAborts0t250 : DT := .less 1 (3) .leaf dirAborts0t252
def dirAborts0t248 : DT := .less 1 (2) .leaf dirAborts0t250
def dirAborts0t188 : DT := .same 0 (12) dirAborts0t189 dirAborts0t248
def dirAborts0t128 : DT := .same 0 (11) dirAborts0t129 dirAborts0t188
def dirAborts0t68 : DT := .same 0 (10) dirAborts0t69 dirAborts0t128
def dirAborts0t8 : DT := .same 0 (9) dirAborts0t9 dirAborts0t68
def dirAborts0t6 : DT := .less 1 (1) .leaf dirAborts0t8
def dirAborts0t5 : DT := .less 1 (31) dirAborts0t6 .leaf
def dirAborts0t3 : DT := .less 1 (0) .leaf dirAborts0t5
def dirAborts0t2 : DT := .less 0 (14) dirAborts0t3 .leaf
def dirAborts0t0 : DT := .less 0 (9) .leaf dirAborts0t2

theorem dirAbortsKnown23 : ((aCall Try.prog noOrc 100000 60 23 #[]).run ⟨.lf, 0, 0, [], []⟩).map (·.1) = some (.bool true) := eval_fast (table_self _) (by kernel_rfl)
theorem dirAbortsKnOK : KnOK Try.prog dirAbortsKn := by
  intro f v h
  unfold dirAbortsKn at h
  unfold KN.find at h
  split at h
  · rename_i he
    injection h with h; subst h; subst he
    exact ⟨rfl, fun w => Calls.of_eval evMixed evNames (σ := fun _ => .bool false) (fun _ => rfl) (noOrc_ok _ _) (fun r _ => by simp) dirAbortsKnown23 rfl w⟩
  cases h
theorem dirAborts0h65 : dirAborts0t65.check (okKX Try.prog dirAbortsKn (fctOrc dirAbortsF0) [] dirAbortsET 100000 60 7 dirAbortsArgs) dirAborts0k63n = true := check_less (Ky := dirAborts0k65y) (Kn := dirAborts0k65n) (i := ⟨29, 30, []⟩) (by kernel_rfl) (by kernel_rfl) (by kernel_rfl) (.inr dirAborts0h66) (.inr dirAborts0h67)
theorem dirAborts0h63 : dirAborts0t63.check (okKX Try.prog dirAbortsKn (fctOrc dirAbortsF0) [] dirAbortsET 100000 60 7 dirAbortsArgs) dirAborts0k61n = true := check_less (Ky := dirAborts0k63y) (Kn := dirAborts0k63n) (i := ⟨28, 30, []⟩) (by kernel_rfl) (by kernel_rfl) (by kernel_rfl) (.inr dirAborts0h64) (.inr dirAborts0h65)
theorem dirAborts0h61 : dirAborts0t61.check (okKX Try.prog dirAbortsKn (fctOrc dirAbortsF0) [] dirAbortsET 100000 60 7 dirAbortsArgs) dirAborts0k59n = true := check_less (Ky := dirAborts0k61y) (Kn := dirAborts0k61n) (i := ⟨27, 30, []⟩) (by kernel_rfl) (by kernel_rfl) (by kernel_rfl) (.inr dirAborts0h62) (.inr dirAborts0h63)
theorem dirAborts0h59 : dirAborts0t59.check (okKX Try.prog dirAbortsKn (fctOrc dirAbortsF0) [] dirAbortsET 100000 60 7 dirAbortsArgs) dirAborts0k57n = true := check_less (Ky := dirAborts0k59y) (Kn := dirAborts0k59n) (i := ⟨26, 30, []⟩) (by kernel_rfl) (by kernel_rfl) (by kernel_rfl) (.inr dirAborts0h60) (.inr dirAborts0h61)
theorem dirAborts0h57 : dirAborts0t57.check (okKX Try.prog dirAbortsKn (fctOrc dirAbortsF0) [] dirAbortsET 100000 60 7 dirAbortsArgs) dirAborts0k55n = true := check_less (Ky := dirAborts0k57y) (Kn := dirAborts0k57n) (i := ⟨25, 30, []⟩) (by kernel_rfl) (by kernel_rfl) (by kernel_rfl) (.inr dirAborts0h58) (.inr dirAborts0h59)
theorem dirAborts0h55 : dirAborts0t55.check (okKX Try.prog dirAbortsKn (fctOrc dirAbortsF0) [] dirAbortsET 100000 60 7 dirAbortsArgs) dirAborts0k53n = true := check_less (Ky := dirAborts0k55y) (Kn := dirAborts0k55n) (i := ⟨24, 30, []⟩) (by kernel_rfl) (by kernel_rfl) (by kernel_rfl) (.inr dirAborts0h56) (.inr dirAborts0h57)
theorem dirAborts0h53 : dirAborts0t53.check (okKX Try.prog dirAbortsKn (fctOrc dirAbortsF0) [] dirAbortsET 100000 60 7 dirAbortsArgs) dirAborts0k51n = true := check_less (Ky := dirAborts0k53y) (Kn := dirAborts0k53n) (i := ⟨23, 30, []⟩) (by kernel_rfl) (by kernel_rfl) (by kernel_rfl) (.inr dirAborts0h54) (.inr dirAborts0h55)
theorem dirAborts0h51 : dirAborts0t51.check (okKX Try.prog dirAbortsKn (fctOrc dirAbortsF0) [] dirAbortsET 100000 60 7 dirAbortsArgs) dirAborts0k49n = true := check_less (Ky := dirAborts0k51y) (Kn := dirAborts0k51n) (i := ⟨22, 30, []⟩) (by kernel_rfl) (by kernel_rfl) (by kernel_rfl) (.inr dirAborts0h52) (.inr dirAborts0h53)
theorem dirAborts0h49 : dirAborts0t49.check (okKX Try.prog dirAbortsKn (fctOrc dirAbortsF0) [] dirAbortsET 100000 60 7 dirAbortsArgs) dirAborts0k47n = true := check_less (Ky := dirAborts0k49y) (Kn := dirAborts0k49n) (i := ⟨21, 30, []⟩) (by kernel_rfl) (by kernel_rfl) (by kernel_rfl) (.inr dirAborts0h50) (.inr dirAborts0h51)
theorem dirAborts0h47 : dirAborts0t47.check (okKX Try.prog dirAbortsKn (fctOrc dirAbortsF0) [] dirAbortsET 100000 60 7 dirAbortsArgs) dirAborts0k45n = true := check_less (Ky := dirAborts0k47y) (Kn := dirAborts0k47n) (i := ⟨20, 30, []⟩) (by kernel_rfl) (by kernel_rfl) (by kernel_rfl) (.inr dirAborts0h48) (.inr dirAborts0h49)
theorem dirAborts0h45 : dirAborts0t45.check (okKX Try.prog dirAbortsKn (fctOrc dirAbortsF0) [] dirAbortsET 100000 60 7 dirAbortsArgs) dirAborts0k43n = true := check_less (Ky := dirAborts0k45y) (Kn := dirAborts0k45n) (i := ⟨19, 30, []⟩) (by kernel_rfl) (by kernel_rfl) (by kernel_rfl) (.inr dirAborts0h46) (.inr dirAborts0h47)
theorem dirAborts0h43 : dirAborts0t43.check (okKX Try.prog dirAbortsKn (fctOrc dirAbortsF0) [] dirAbortsET 100000 60 7 dirAbortsArgs) dirAborts0k41n = true := check_less (Ky := dirAborts0k43y) (Kn := dirAborts0k43n) (i := ⟨18, 30, []⟩) (by kernel_rfl) (by kernel_rfl) (by kernel_rfl) (.inr dirAborts0h44) (.inr dirAborts0h45)
theorem dirAborts0h41 : dirAborts0t41.check (okKX Try.prog dirAbortsKn (fctOrc dirAbortsF0) [] dirAbortsET 100000 60 7 dirAbortsArgs) dirAborts0k39n = true := check_less (Ky := dirAborts0k41y) (Kn := dirAborts0k41n) (i := ⟨17, 30, []⟩) (by kernel_rfl) (by kernel_rfl) (by kernel_rfl) (.inr dirAborts0h42) (.inr dirAborts0h43)
theorem dirAborts0h39 : dirAborts0t39.check (okKX Try.prog dirAbortsKn (fctOrc dirAbortsF0) [] dirAbortsET 100000 60 7 dirAbortsArgs) dirAborts0k37n = true := check_less (Ky := dirAborts0k39y) (Kn := dirAborts0k39n) (i := ⟨16, 30, []⟩) (by kernel_rfl) (by kernel_rfl) (by kernel_rfl) (.inr dirAborts0h40) (.inr dirAborts0h41)
theorem dirAborts0h37 : dirAborts0t37.check (okKX Try.prog dirAbortsKn (fctOrc dirAbortsF0) [] dirAbortsET 100000 60 7 dirAbortsArgs) dirAborts0k35n = true := check_less (Ky := dirAborts0k37y) (Kn := dirAborts0k37n) (i := ⟨15, 30, []⟩) (by kernel_rfl) (by kernel_rfl) (by kernel_rfl) (.inr dirAborts0h38) (.inr dirAborts0h39)
theorem dirAborts0h35 : dirAborts0t35.check (okKX Try.prog dirAbortsKn (fctOrc dirAbortsF0) [] dirAbortsET 100000 60 7 dirAbortsArgs) dirAborts0k33n = true := check_less (Ky := dirAborts0k35y) (Kn := dirAborts0k35n) (i := ⟨14, 30, []⟩) (by kernel_rfl) (by kernel_rfl) (by kernel_rfl) (.inr dirAborts0h36) (.inr dirAborts0h37)
theorem dirAborts0h33 : dirAborts0t33.check (okKX Try.prog dirAbortsKn (fctOrc dirAbortsF0) [] dirAbortsET 100000 60 7 dirAbortsArgs) dirAborts0k31n = true := check_less (Ky := dirAborts0k33y) (Kn := dirAborts0k33n) (i := ⟨13, 30, []⟩) (by kernel_rfl) (by kernel_rfl) (by kernel_rfl) (.inr dirAborts0h34) (.inr dirAborts0h35)
theorem dirAborts0h31 : dirAborts0t31.check (okKX Try.prog dirAbortsKn (fctOrc dirAbortsF0) [] dirAbortsET 100000 60 7 dirAbortsArgs) dirAborts0k29n = true := check_less (Ky := dirAborts0k31y) (Kn := dirAborts0k31n) (i := ⟨12, 30, []⟩) (by kernel_rfl) (by kernel_rfl) (by kernel_rfl) (.inr dirAborts0h32) (.inr dirAborts0h33)
theorem dirAborts0h29 : dirAborts0t29.check (okKX Try.prog dirAbortsKn (fctOrc dirAbortsF0) [] dirAbortsET 100000 60 7 dirAbortsArgs) dirAborts0k27n = true := check_less (Ky := dirAborts0k29y) (Kn := dirAborts0k29n) (i := ⟨11, 30, []⟩) (by kernel_rfl) (by kernel_rfl) (by kernel_rfl) (.inr dirAborts0h30) (.inr dirAborts0h31)
theorem dirAborts0h27 : dirAborts0t27.check (okKX Try.prog dirAbortsKn (fctOrc dirAbortsF0) [] dirAbortsET 100000 60 7 dirAbortsArgs) dirAborts0k25n = true := check_less (Ky := dirAborts0k27y) (Kn := dirAborts0k27n) (i := ⟨10, 30, []⟩) (by kernel_rfl) (by kernel_rfl) (by kernel_rfl) (.inr dirAborts0h28) (.inr dirAborts0h29)
theorem dirAborts0h25 : dirAborts0t25.check (okKX Try.prog dirAbortsKn (fctOrc dirAbortsF0) [] dirAbortsET 100000 60 7 dirAbortsArgs) dirAborts0k23n = true := check_less (Ky := dirAborts0k25y) (Kn := dirAborts0k25n) (i := ⟨9, 30, []⟩) (by kernel_rfl) (by kernel_rfl) (by kernel_rfl) (.inr dirAborts0h26) (.inr dirAborts0h27)
theorem dirAborts0h23 : dirAborts0t23.check (okKX Try.prog dirAbortsKn (fctOrc dirAbortsF0) [] dirAbortsET 100000 60 7 dirAbortsArgs) dirAborts0k21n = true := check_less (Ky := dirAborts0k23y) (Kn := dirAborts0k23n) (i := ⟨8, 30, []⟩) (by kernel_rfl) (by kernel_rfl) (by kernel_rfl) (.inr dirAborts0h24) (.inr dirAborts0h25)
theorem dirAborts0h21 : dirAborts0t21.check (okKX Try.prog dirAbortsKn (fctOrc dirAbortsF0) [] dirAbortsET 100000 60 7 dirAbortsArgs) dirAborts0k19n = true := check_less (Ky := dirAborts0k21y) (Kn := dirAborts0k21n) (i := ⟨7, 30, []⟩) (by kernel_rfl) (by kernel_rfl) (by kernel_rfl) (.inr dirAborts0h22) (.inr dirAborts0h23)
theorem dirAborts0h19 : dirAborts0t19.check (okKX Try.prog dirAbortsKn (fctOrc dirAbortsF0) [] dirAbortsET 100000 60 7 dirAbortsArgs) dirAborts0k17n = true := check_less (Ky := dirAborts0k19y) (Kn := dirAborts0k19n) (i := ⟨6, 30, []⟩) (by kernel_rfl) (by kernel_rfl) (by kernel_rfl) (.inr dirAborts0h20) (.inr dirAborts0h21)
theorem dirAborts0h17 : dirAborts0t17.check (okKX Try.prog dirAbortsKn (fctOrc dirAbortsF0) [] dirAbortsET 100000 60 7 dirAbortsArgs) dirAborts0k15n = true := check_less (Ky := dirAborts0k17y) (Kn := dirAborts0k17n) (i := ⟨5, 30, []⟩) (by kernel_rfl) (by kernel_rfl) (by kernel_rfl) (.inr dirAborts0h18) (.inr dirAborts0h19)
theorem dirAborts0h15 : dirAborts0t15.check (okKX Try.prog dirAbortsKn (fctOrc dirAbortsF0) [] dirAbortsET 100000 60 7 dirAbortsArgs) dirAborts0k13n = true := check_less (Ky := dirAborts0k15y) (Kn := dirAborts0k15n) (i := ⟨4, 30, []⟩) (by kernel_rfl) (by kernel_rfl) (by kernel_rfl) (.inr dirAborts0h16) (.inr dirAborts0h17)
theorem dirAborts0h13 : dirAborts0t13.check (okKX Try.prog dirAbortsKn (fctOrc dirAbortsF0) [] dirAbortsET 100000 60 7 dirAbortsArgs) dirAborts0k11n = true := check_less (Ky := dirAborts0k13y) (Kn := dirAborts0k13n) (i := ⟨3, 30, []⟩) (by kernel_rfl) (by kernel_rfl) (by kernel_rfl) (.inr dirAborts0h14) (.inr dirAborts0h15)
theorem dirAborts0h11 : dirAborts0t11.check (okKX Try.prog dirAbortsKn (fctOrc dirAbortsF0) [] dirAbortsET 100000 60 7 dirAbortsArgs) dirAborts0k9n = true := check_less (Ky := dirAborts0k11y) (Kn := dirAborts0k11n) (i := ⟨2, 30, []⟩) (by kernel_rfl) (by kernel_rfl) (by kernel_rfl) (.inr dirAborts0h12) (.inr dirAborts0h13)
theorem dirAborts0h9 : dirAborts0t9.check (okKX Try.prog dirAbortsKn (fctOrc dirAbortsF0) [] dirAbortsET 100000 60 7 dirAbortsArgs) dirAborts0k8y = true := check_less (Ky := dirAborts0k9y) (Kn := dirAborts0k9n) (i := ⟨1, 30, []⟩) (by kernel_rfl) (by kernel_rfl) (by kernel_rfl) (.inr dirAborts0h10) (.inr dirAborts0h11)
theorem dirAborts0h125 : dirAborts0t125.check (okKX Try.prog dirAbortsKn (fctOrc dirAbortsF0) [] dirAbortsET 100000 60 7 dirAbortsArgs) dirAborts0k123n = true := check_less (Ky := dirAborts0k125y) (Kn := dirAborts0k125n) (i := ⟨29, 30, []⟩) (by kernel_rfl) (by kernel_rfl) (by kernel_rfl) (.inr dirAborts0h126) (.inr dirAborts0h127)
theorem dirAborts0h123 : dirAborts0t123.check (okKX Try.prog dirAbortsKn (fctOrc dirAbortsF0) [] dirAbortsET 100000 60 7 dirAbortsArgs) dirAborts0k121n = true := check_less (Ky := dirAborts0k123y) (Kn := dirAborts0k123n) (i := ⟨28, 30, []⟩) (by kernel_rfl) (by kernel_rfl) (by kernel_rfl) (.inr dirAborts0h124) (.inr dirAborts0h125)
theorem dirAborts0h121 : dirAborts0t121.check (okKX Try.prog dirAbortsKn (fctOrc dirAbortsF0) [] dirAbortsET 100000 60 7 dirAbortsArgs) dirAborts0k119n = true := check_less (Ky := dirAborts0k121y) (Kn := dirAborts0k121n) (i := ⟨27, 30, []⟩) (by kernel_rfl) (by kernel_rfl) (by kernel_rfl) (.inr dirAborts0h122) (.inr dirAborts0h123)
theorem dirAborts0h119 : dirAborts0t119.check (okKX Try.prog dirAbortsKn (fctOrc dirAbortsF0) [] dirAbortsET 100000 60 7 dirAbortsArgs) dirAborts0k117n = true := check_less (Ky := dirAborts0k119y) (Kn := dirAborts0k119n) (i := ⟨26, 30, []⟩) (by kernel_rfl) (by kernel_rfl) (by kernel_rfl) (.inr dirAborts0h120) (.inr dirAborts0h121)
theorem dirAborts0h117 : dirAborts0t117.check (okKX Try.prog dirAbortsKn (fctOrc dirAbortsF0) [] dirAbortsET 100000 60 7 dirAbortsArgs) dirAborts0k115n = true := check_less (Ky := dirAborts0k117y) (Kn := dirAborts0k117n) (i := ⟨25, 30, []⟩) (by kernel_rfl) (by kernel_rfl) (by kernel_rfl) (.inr dirAborts0h118) (.inr dirAborts0h119)
theorem dirAborts0h115 : dirAborts0t115.check (okKX Try.prog dirAbortsKn (fctOrc dirAbortsF0) [] dirAbortsET 100000 60 7 dirAbortsArgs) dirAborts0k113n = true := check_less (Ky := dirAborts0k115y) (Kn := dirAborts0k115n) (i := ⟨24, 30, []⟩) (by kernel_rfl) (by kernel_rfl) (by kernel_rfl) (.inr dirAborts0h116) (.inr dirAborts0h117)
theorem dirAborts0h113 : dirAborts0t113.check (okKX Try.prog dirAbortsKn (fctOrc dirAbortsF0) [] dirAbortsET 100000 60 7 dirAbortsArgs) dirAborts0k111n = true := check_less (Ky := dirAborts0k113y) (Kn := dirAborts0k113n) (i := ⟨23, 30, []⟩) (by kernel_rfl) (by kernel_rfl) (by kernel_rfl) (.inr dirAborts0h114) (.inr dirAborts0h115)
theorem dirAborts0h111 : dirAborts0t111.check (okKX Try.prog dirAbortsKn (fctOrc dirAbortsF0) [] dirAbortsET 100000 60 7 dirAbortsArgs) dirAborts0k109n = true := check_less (Ky := dirAborts0k111y) (Kn := dirAborts0k111n) (i := ⟨22, 30, []⟩) (by kernel_rfl) (by kernel_rfl) (by kernel_rfl) (.inr dirAborts0h112) (.inr dirAborts0h113)
theorem dirAborts0h109 : dirAborts0t109.check (okKX Try.prog dirAbortsKn (fctOrc dirAbortsF0) [] dirAbortsET 100000 60 7 dirAbortsArgs) dirAborts0k107n = true := check_less (Ky := dirAborts0k109y) (Kn := dirAborts0k109n) (i := ⟨21, 30, []⟩) (by kernel_rfl) (by kernel_rfl) (by kernel_rfl) (.inr dirAborts0h110) (.inr dirAborts0h111)
theorem dirAborts0h107 : dirAborts0t107.check (okKX Try.prog dirAbortsKn (fctOrc dirAbortsF0) [] dirAbortsET 100000 60 7 dirAbortsArgs) dirAborts0k105n = true := check_less (Ky := dirAborts0k107y) (Kn := dirAborts0k107n) (i := ⟨20, 30, []⟩) (by kernel_rfl) (by kernel_rfl) (by kernel_rfl) (.inr dirAborts0h108) (.inr dirAborts0h109)
theorem dirAborts0h105 : dirAborts0t105.check (okKX Try.prog dirAbortsKn (fctOrc dirAbortsF0) [] dirAbortsET 100000 60 7 dirAbortsArgs) dirAborts0k103n = true := check_less (Ky := dirAborts0k105y) (Kn := dirAborts0k105n) (i := ⟨19, 30, []⟩) (by kernel_rfl) (by kernel_rfl) (by kernel_rfl) (.inr dirAborts0h106) (.inr dirAborts0h107)
theorem dirAborts0h103 : dirAborts0t103.check (okKX Try.prog dirAbortsKn (fctOrc dirAbortsF0) [] dirAbortsET 100000 60 7 dirAbortsArgs) dirAborts0k101n = true := check_less (Ky := dirAborts0k103y) (Kn := dirAborts0k103n) (i := ⟨18, 30, []⟩) (by kernel_rfl) (by kernel_rfl) (by kernel_rfl) (.inr dirAborts0h104) (.inr dirAborts0h105)
theorem dirAborts0h101 : dirAborts0t101.check (okKX Try.prog dirAbortsKn (fctOrc dirAbortsF0) [] dirAbortsET 100000 60 7 dirAbortsArgs) dirAborts0k99n = true := check_less (Ky := dirAborts0k101y) (Kn := dirAborts0k101n) (i := ⟨17, 30, []⟩) (by kernel_rfl) (by kernel_rfl) (by kernel_rfl) (.inr dirAborts0h102) (.inr dirAborts0h103)
theorem dirAborts0h99 : dirAborts0t99.check (okKX Try.prog dirAbortsKn (fctOrc dirAbortsF0) [] dirAbortsET 100000 60 7 dirAbortsArgs) dirAborts0k97n = true := check_less (Ky := dirAborts0k99y) (Kn := dirAborts0k99n) (i := ⟨16, 30, []⟩) (by kernel_rfl) (by kernel_rfl) (by kernel_rfl) (.inr dirAborts0h100) (.inr dirAborts0h101)
theorem dirAborts0h97 : dirAborts0t97.check (okKX Try.prog dirAbortsKn (fctOrc dirAbortsF0) [] dirAbortsET 100000 60 7 dirAbortsArgs) dirAborts0k95n = true := check_less (Ky := dirAborts0k97y) (Kn := dirAborts0k97n) (i := ⟨15, 30, []⟩) (by kernel_rfl) (by kernel_rfl) (by kernel_rfl) (.inr dirAborts0h98) (.inr dirAborts0h99)
theorem dirAborts0h95 : dirAborts0t95.check (okKX Try.prog dirAbortsKn (fctOrc dirAbortsF0) [] dirAbortsET 100000 60 7 dirAbortsArgs) dirAborts0k93n = true := check_less (Ky := dirAborts0k95y) (Kn := dirAborts0k95n) (i := ⟨14, 30, []⟩) (by kernel_rfl) (by kernel_rfl) (by kernel_rfl) (.inr dirAborts0h96) (.inr dirAborts0h97)
theorem dirAborts0h93 : dirAborts0t93.check (okKX Try.prog dirAbortsKn (fctOrc dirAbortsF0) [] dirAbortsET 100000 60 7 dirAbortsArgs) dirAborts0k91n = true := check_less (Ky := dirAborts0k93y) (Kn := dirAborts0k93n) (i := ⟨13, 30, []⟩) (by kernel_rfl) (by kernel_rfl) (by kernel_rfl) (.inr dirAborts0h94) (.inr dirAborts0h95)
theorem dirAborts0h91 : dirAborts0t91.check (okKX Try.prog dirAbortsKn (fctOrc dirAbortsF0) [] dirAbortsET 100000 60 7 dirAbortsArgs) dirAborts0k89n = true := check_less (Ky := dirAborts0k91y) (Kn := dirAborts0k91n) (i := ⟨12, 30, []⟩) (by kernel_rfl) (by kernel_rfl) (by kernel_rfl) (.inr dirAborts0h92) (.inr dirAborts0h93)
theorem dirAborts0h89 : dirAborts0t89.check (okKX Try.prog dirAbortsKn (fctOrc dirAbortsF0) [] dirAbortsET 100000 60 7 dirAbortsArgs) dirAborts0k87n = true := check_less (Ky := dirAborts0k89y) (Kn := dirAborts0k89n) (i := ⟨11, 30, []⟩) (by kernel_rfl) (by kernel_rfl) (by kernel_rfl) (.inr dirAborts0h90) (.inr dirAborts0h91)
theorem dirAborts0h87 : dirAborts0t87.check (okKX Try.prog dirAbortsKn (fctOrc dirAbortsF0) [] dirAbortsET 100000 60 7 dirAbortsArgs) dirAborts0k85n = true := check_less (Ky := dirAborts0k87y) (Kn := dirAborts0k87n) (i := ⟨10, 30, []⟩) (by kernel_rfl) (by kernel_rfl) (by kernel_rfl) (.inr dirAborts0h88) (.inr dirAborts0h89)
theorem dirAborts0h85 : dirAborts0t85.check (okKX Try.prog dirAbortsKn (fctOrc dirAbortsF0) [] dirAbortsET 100000 60 7 dirAbortsArgs) dirAborts0k83n = true := check_less (Ky := dirAborts0k85y) (Kn := dirAborts0k85n) (i := ⟨9, 30, []⟩) (by kernel_rfl) (by kernel_rfl) (by kernel_rfl) (.inr dirAborts0h86) (.inr dirAborts0h87)
theorem dirAborts0h83 : dirAborts0t83.check (okKX Try.prog dirAbortsKn (fctOrc dirAbortsF0) [] dirAbortsET 100000 60 7 dirAbortsArgs) dirAborts0k81n = true := check_less (Ky := dirAborts0k83y) (Kn := dirAborts0k83n) (i := ⟨8, 30, []⟩) (by kernel_rfl) (by kernel_rfl) (by kernel_rfl) (.inr dirAborts0h84) (.inr dirAborts0h85)
theorem dirAborts0h81 : dirAborts0t81.check (okKX Try.prog dirAbortsKn (fctOrc dirAbortsF0) [] dirAbortsET 100000 60 7 dirAbortsArgs) dirAborts0k79n = true := check_less (Ky := dirAborts0k81y) (Kn := dirAborts0k81n) (i := ⟨7, 30, []⟩) (by kernel_rfl) (by kernel_rfl) (by kernel_rfl) (.inr dirAborts0h82) (.inr dirAborts0h83)
theorem dirAborts0h79 : dirAborts0t79.check (okKX Try.prog dirAbortsKn (fctOrc dirAbortsF0) [] dirAbortsET 100000 60 7 dirAbortsArgs) dirAborts0k77n = true := check_less (Ky := dirAborts0k79y) (Kn := dirAborts0k79n) (i := ⟨6, 30, []⟩) (by kernel_rfl) (by kernel_rfl) (by kernel_rfl) (.inr dirAborts0h80) (.inr dirAborts0h81)
theorem dirAborts0h77 : dirAborts0t77.check (okKX Try.prog dirAbortsKn (fctOrc dirAbortsF0) [] dirAbortsET 100000 60 7 dirAbortsArgs) dirAborts0k75n = true := check_less (Ky := dirAborts0k77y) (Kn := dirAborts0k77n) (i := ⟨5, 30, []⟩) (by kernel_rfl) (by kernel_rfl) (by kernel_rfl) (.inr dirAborts0h78) (.inr dirAborts0h79)
theorem dirAborts0h75 : dirAborts0t75.check (okKX Try.prog dirAbortsKn (fctOrc dirAbortsF0) [] dirAbortsET 100000 60 7 dirAbortsArgs) dirAborts0k73n = true := check_less (Ky := dirAborts0k75y) (Kn := dirAborts0k75n) (i := ⟨4, 30, []⟩) (by kernel_rfl) (by kernel_rfl) (by kernel_rfl) (.inr dirAborts0h76) (.inr dirAborts0h77)
theorem dirAborts0h73 : dirAborts0t73.check (okKX Try.prog dirAbortsKn (fctOrc dirAbortsF0) [] dirAbortsET 100000 60 7 dirAbortsArgs) dirAborts0k71n = true := check_less (Ky := dirAborts0k73y) (Kn := dirAborts0k73n) (i := ⟨3, 30, []⟩) (by kernel_rfl) (by kernel_rfl) (by kernel_rfl) (.inr dirAborts0h74) (.inr dirAborts0h75)
theorem dirAborts0h71 : dirAborts0t71.check (okKX Try.prog dirAbortsKn (fctOrc dirAbortsF0) [] dirAbortsET 100000 60 7 dirAbortsArgs) dirAborts0k69n = true := check_less (Ky := dirAborts0k71y) (Kn := dirAborts0k71n) (i := ⟨2, 30, []⟩) (by kernel_rfl) (by kernel_rfl) (by kernel_rfl) (.inr dirAborts0h72) (.inr dirAborts0h73)
theorem dirAborts0h69 : dirAborts0t69.check (okKX Try.prog dirAbortsKn (fctOrc dirAbortsF0) [] dirAbortsET 100000 60 7 dirAbortsArgs) dirAborts0k68y = true := check_less (Ky := dirAborts0k69y) (Kn := dirAborts0k69n) (i := ⟨1, 30, []⟩) (by kernel_rfl) (by kernel_rfl) (by kernel_rfl) (.inr dirAborts0h70) (.inr dirAborts0h71)
theorem dirAborts0h185 : dirAborts0t185.check (okKX Try.prog dirAbortsKn (fctOrc dirAbortsF0) [] dirAbortsET 100000 60 7 dirAbortsArgs) dirAborts0k183n = true := check_less (Ky := dirAborts0k185y) (Kn := dirAborts0k185n) (i := ⟨29, 30, []⟩) (by kernel_rfl) (by kernel_rfl) (by kernel_rfl) (.inr dirAborts0h186) (.inr dirAborts0h187)
theorem dirAborts0h183 : dirAborts0t183.check (okKX Try.prog dirAbortsKn (fctOrc dirAbortsF0) [] dirAbortsET 100000 60 7 dirAbortsArgs) dirAborts0k181n = true := check_less (Ky := dirAborts0k183y) (Kn := dirAborts0k183n) (i := ⟨28, 30, []⟩) (by kernel_rfl) (by kernel_rfl) (by kernel_rfl) (.inr dirAborts0h184) (.inr dirAborts0h185)
theorem dirAborts0h181 : dirAborts0t181.check (okKX Try.prog dirAbortsKn (fctOrc dirAbortsF0) [] dirAbortsET 100000 60 7 dirAbortsArgs) dirAborts0k179n = true := check_less (Ky := dirAborts0k181y) (Kn := dirAborts0k181n) (i := ⟨27, 30, []⟩) (by kernel_rfl) (by kernel_rfl) (by kernel_rfl) (.inr dirAborts0h182) (.inr dirAborts0h183)
theorem dirAborts0h179 : dirAborts0t179.check (okKX Try.prog dirAbortsKn (fctOrc dirAbortsF0) [] dirAbortsET 100000 60 7 dirAbortsArgs) dirAborts0k177n = true := check_less (Ky := dirAborts0k179y) (Kn := dirAborts0k179n) (i := ⟨26, 30, []⟩) (by kernel_rfl) (by kernel_rfl) (by kernel_rfl) (.inr dirAborts0h180) (.inr dirAborts0h181)
theorem dirAborts0h177 : dirAborts0t177.check (okKX Try.prog dirAbortsKn (fctOrc dirAbortsF0) [] dirAbortsET 100000 60 7 dirAbortsArgs) dirAborts0k175n = true := check_less (Ky := dirAborts0k177y) (Kn := dirAborts0k177n) (i := ⟨25, 30, []⟩) (by kernel_rfl) (by kernel_rfl) (by kernel_rfl) (.inr dirAborts0h178) (.inr dirAborts0h179)
theorem dirAborts0h175 : dirAborts0t175.check (okKX Try.prog dirAbortsKn (fctOrc dirAbortsF0) [] dirAbortsET 100000 60 7 dirAbortsArgs) dirAborts0k173n = true := check_less (Ky := dirAborts0k175y) (Kn := dirAborts0k175n) (i := ⟨24, 30, []⟩) (by kernel_rfl) (by kernel_rfl) (by kernel_rfl) (.inr dirAborts0h176) (.inr dirAborts0h177)
theorem dirAborts0h173 : dirAborts0t173.check (okKX Try.prog dirAbortsKn (fctOrc dirAbortsF0) [] dirAbortsET 100000 60 7 dirAbortsArgs) dirAborts0k171n = true := check_less (Ky := dirAborts0k173y) (Kn := dirAborts0k173n) (i := ⟨23, 30, []⟩) (by kernel_rfl) (by kernel_rfl) (by kernel_rfl) (.inr dirAborts0h174) (.inr dirAborts0h175)
theorem dirAborts0h171 : dirAborts0t171.check (okKX Try.prog dirAbortsKn (fctOrc dirAbortsF0) [] dirAbortsET 100000 60 7 dirAbortsArgs) dirAborts0k169n = true := check_less (Ky := dirAborts0k171y) (Kn := dirAborts0k171n) (i := ⟨22, 30, []⟩) (by kernel_rfl) (by kernel_rfl) (by kernel_rfl) (.inr dirAborts0h172) (.inr dirAborts0h173)
theorem dirAborts0h169 : dirAborts0t169.check (okKX Try.prog dirAbortsKn (fctOrc dirAbortsF0) [] dirAbortsET 100000 60 7 dirAbortsArgs) dirAborts0k167n = true := check_less (Ky := dirAborts0k169y) (Kn := dirAborts0k169n) (i := ⟨21, 30, []⟩) (by kernel_rfl) (by kernel_rfl) (by kernel_rfl) (.inr dirAborts0h170) (.inr dirAborts0h171)
theorem dirAborts0h167 : dirAborts0t167.check (okKX Try.prog dirAbortsKn (fctOrc dirAbortsF0) [] dirAbortsET 100000 60 7 dirAbortsArgs) dirAborts0k165n = true := check_less (Ky := dirAborts0k167y) (Kn := dirAborts0k167n) (i := ⟨20, 30, []⟩) (by kernel_rfl) (by kernel_rfl) (by kernel_rfl) (.inr dirAborts0h168) (.inr dirAborts0h169)
theorem dirAborts0h165 : dirAborts0t165.check (okKX Try.prog dirAbortsKn (fctOrc dirAbortsF0) [] dirAbortsET 100000 60 7 dirAbortsArgs) dirAborts0k163n = true := check_less (Ky := dirAborts0k165y) (Kn := dirAborts0k165n) (i := ⟨19, 30, []⟩) (by kernel_rfl) (by kernel_rfl) (by kernel_rfl) (.inr dirAborts0h166) (.inr dirAborts0h167)
theorem dirAborts0h163 : dirAborts0t163.check (okKX Try.prog dirAbortsKn (fctOrc dirAbortsF0) [] dirAbortsET 100000 60 7 dirAbortsArgs) dirAborts0k161n = true := check_less (Ky := dirAborts0k163y) (Kn := dirAborts0k163n) (i := ⟨18, 30, []⟩) (by kernel_rfl) (by kernel_rfl) (by kernel_rfl) (.inr dirAborts0h164) (.inr dirAborts0h165)
theorem dirAborts0h161 : dirAborts0t161.check (okKX Try.prog dirAbortsKn (fctOrc dirAbortsF0) [] dirAbortsET 100000 60 7 dirAbortsArgs) dirAborts0k159n = true := check_less (Ky := dirAborts0k161y) (Kn := dirAborts0k161n) (i := ⟨17, 30, []⟩) (by kernel_rfl) (by kernel_rfl) (by kernel_rfl) (.inr dirAborts0h162) (.inr dirAborts0h163)
theorem dirAborts0h159 : dirAborts0t159.check (okKX Try.prog dirAbortsKn (fctOrc dirAbortsF0) [] dirAbortsET 100000 60 7 dirAbortsArgs) dirAborts0k157n = true := check_less (Ky := dirAborts0k159y) (Kn := dirAborts0k159n) (i := ⟨16, 30, []⟩) (by kernel_rfl) (by kernel_rfl) (by kernel_rfl) (.inr dirAborts0h160) (.inr dirAborts0h161)
theorem dirAborts0h157 : dirAborts0t157.check (okKX Try.prog dirAbortsKn (fctOrc dirAbortsF0) [] dirAbortsET 100000 60 7 dirAbortsArgs) dirAborts0k155n = true := check_less (Ky := dirAborts0k157y) (Kn := dirAborts0k157n) (i := ⟨15, 30, []⟩) (by kernel_rfl) (by kernel_rfl) (by kernel_rfl) (.inr dirAborts0h158) (.inr dirAborts0h159)
theorem dirAborts0h155 : dirAborts0t155.check (okKX Try.prog dirAbortsKn (fctOrc dirAbortsF0) [] dirAbortsET 100000 60 7 dirAbortsArgs) dirAborts0k153n = true := check_less (Ky := dirAborts0k155y) (Kn := dirAborts0k155n) (i := ⟨14, 30, []⟩) (by kernel_rfl) (by kernel_rfl) (by kernel_rfl) (.inr dirAborts0h156) (.inr dirAborts0h157)
theorem dirAborts0h153 : dirAborts0t153.check (okKX Try.prog dirAbortsKn (fctOrc dirAbortsF0) [] dirAbortsET 100000 60 7 dirAbortsArgs) dirAborts0k151n = true := check_less (Ky := dirAborts0k153y) (Kn := dirAborts0k153n) (i := ⟨13, 30, []⟩) (by kernel_rfl) (by kernel_rfl) (by kernel_rfl) (.inr dirAborts0h154) (.inr dirAborts0h155)
theorem dirAborts0h151 : dirAborts0t151.check (okKX Try.prog dirAbortsKn (fctOrc dirAbortsF0) [] dirAbortsET 100000 60 7 dirAbortsArgs) dirAborts0k149n = true := check_less (Ky := dirAborts0k151y) (Kn := dirAborts0k151n) (i := ⟨12, 30, []⟩) (by kernel_rfl) (by kernel_rfl) (by kernel_rfl) (.inr dirAborts0h152) (.inr dirAborts0h153)
theorem dirAborts0h149 : dirAborts0t149.check (okKX Try.prog dirAbortsKn (fctOrc dirAbortsF0) [] dirAbortsET 100000 60 7 dirAbortsArgs) dirAborts0k147n = true := check_less (Ky := dirAborts0k149y) (Kn := dirAborts0k149n) (i := ⟨11, 30, []⟩) (by kernel_rfl) (by kernel_rfl) (by kernel_rfl) (.inr dirAborts0h150) (.inr dirAborts0h151)
theorem dirAborts0h147 : dirAborts0t147.check (okKX Try.prog dirAbortsKn (fctOrc dirAbortsF0) [] dirAbortsET 100000 60 7 dirAbortsArgs) dirAborts0k145n = true := check_less (Ky := dirAborts0k147y) (Kn := dirAborts0k147n) (i := ⟨10, 30, []⟩) (by kernel_rfl) (by kernel_rfl) (by kernel_rfl) (.inr dirAborts0h148) (.inr dirAborts0h149)
theorem dirAborts0h145 : dirAborts0t145.check (okKX Try.prog dirAbortsKn (fctOrc dirAbortsF0) [] dirAbortsET 100000 60 7 dirAbortsArgs) dirAborts0k143n = true := check_less (Ky := dirAborts0k145y) (Kn := dirAborts0k145n) (i := ⟨9, 30, []⟩) (by kernel_rfl) (by kernel_rfl) (by kernel_rfl) (.inr dirAborts0h146) (.inr dirAborts0h147)
theorem dirAborts0h143 : dirAborts0t143.check (okKX Try.prog dirAbortsKn (fctOrc dirAbortsF0) [] dirAbortsET 100000 60 7 dirAbortsArgs) dirAborts0k141n = true := check_less (Ky := dirAborts0k143y) (Kn := dirAborts0k143n) (i := ⟨8, 30, []⟩) (by kernel_rfl) (by kernel_rfl) (by kernel_rfl) (.inr dirAborts0h144) (.inr dirAborts0h145)
theorem dirAborts0h141 : dirAborts0t141.check (okKX Try.prog dirAbortsKn (fctOrc dirAbortsF0) [] dirAbortsET 100000 60 7 dirAbortsArgs) dirAborts0k139n = true := check_less (Ky := dirAborts0k141y) (Kn := dirAborts0k141n) (i := ⟨7, 30, []⟩) (by kernel_rfl) (by kernel_rfl) (by kernel_rfl) (.inr dirAborts0h142) (.inr dirAborts0h143)
theorem dirAborts0h139 : dirAborts0t139.check (okKX Try.prog dirAbortsKn (fctOrc dirAbortsF0) [] dirAbortsET 100000 60 7 dirAbortsArgs) dirAborts0k137n = true := check_less (Ky := dirAborts0k139y) (Kn := dirAborts0k139n) (i := ⟨6, 30, []⟩) (by kernel_rfl) (by kernel_rfl) (by kernel_rfl) (.inr dirAborts0h140) (.inr dirAborts0h141)
theorem dirAborts0h137 : dirAborts0t137.check (okKX Try.prog dirAbortsKn (fctOrc dirAbortsF0) [] dirAbortsET 100000 60 7 dirAbortsArgs) dirAborts0k135n = true := check_less (Ky := dirAborts0k137y) (Kn := dirAborts0k137n) (i := ⟨5, 30, []⟩) (by kernel_rfl) (by kernel_rfl) (by kernel_rfl) (.inr dirAborts0h138) (.inr dirAborts0h139)
theorem dirAborts0h135 : dirAborts0t135.check (okKX Try.prog dirAbortsKn (fctOrc dirAbortsF0) [] dirAbortsET 100000 60 7 dirAbortsArgs) dirAborts0k133n = true := check_less (Ky := dirAborts0k135y) (Kn := dirAborts0k135n) (i := ⟨4, 30, []⟩) (by kernel_rfl) (by kernel_rfl) (by kernel_rfl) (.inr dirAborts0h136) (.inr dirAborts0h137)
theorem dirAborts0h133 : dirAborts0t133.check (okKX Try.prog dirAbortsKn (fctOrc dirAbortsF0) [] dirAbortsET 100000 60 7 dirAbortsArgs) dirAborts0k131n = true := check_less (Ky := dirAborts0k133y) (Kn := dirAborts0k133n) (i := ⟨3, 30, []⟩) (by kernel_rfl) (by kernel_rfl) (by kernel_rfl) (.inr dirAborts0h134) (.inr dirAborts0h135)
theorem dirAborts0h131 : dirAborts0t131.check (okKX Try.prog dirAbortsKn (fctOrc dirAbortsF0) [] dirAbortsET 100000 60 7 dirAbortsArgs) dirAborts0k129n = true := check_less (Ky := dirAborts0k131y) (Kn := dirAborts0k131n) (i := ⟨2, 30, []⟩) (by kernel_rfl) (by kernel_rfl) (by kernel_rfl) (.inr dirAborts0h132) (.inr dirAborts0h133)
theorem dirAborts0h129 : dirAborts0t129.check (okKX Try.prog dirAbortsKn (fctOrc dirAbortsF0) [] dirAbortsET 100000 60 7 dirAbortsArgs) dirAborts0k128y = true := check_less (Ky := dirAborts0k129y) (Kn := dirAborts0k129n) (i := ⟨1, 30, []⟩) (by kernel_rfl) (by kernel_rfl) (by kernel_rfl) (.inr dirAborts0h130) (.inr dirAborts0h131)
theorem dirAborts0h245 : dirAborts0t245.check (okKX Try.prog dirAbortsKn (fctOrc dirAbortsF0) [] dirAbortsET 100000 60 7 dirAbortsArgs) dirAborts0k243n = true := check_less (Ky := dirAborts0k245y) (Kn := dirAborts0k245n) (i := ⟨29, 30, []⟩) (by kernel_rfl) (by kernel_rfl) (by kernel_rfl) (.inr dirAborts0h246) (.inr dirAborts0h247)
theorem dirAborts0h243 : dirAborts0t243.check (okKX Try.prog dirAbortsKn (fctOrc dirAbortsF0) [] dirAbortsET 100000 60 7 dirAbortsArgs) dirAborts0k241n = true := check_less (Ky := dirAborts0k243y) (Kn := dirAborts0k243n) (i := ⟨28, 30, []⟩) (by kernel_rfl) (by kernel_rfl) (by kernel_rfl) (.inr dirAborts0h244) (.inr dirAborts0h245)
theorem dirAborts0h241 : dirAborts0t241.check (okKX Try.prog dirAbortsKn (fctOrc dirAbortsF0) [] dirAbortsET 100000 60 7 dirAbortsArgs) dirAborts0k239n = true := check_less (Ky := dirAborts0k241y) (Kn := dirAborts0k241n) (i := ⟨27, 30, []⟩) (by kernel_rfl) (by kernel_rfl) (by kernel_rfl) (.inr dirAborts0h242) (.inr dirAborts0h243)
theorem dirAborts0h239 : dirAborts0t239.check (okKX Try.prog dirAbortsKn (fctOrc dirAbortsF0) [] dirAbortsET 100000 60 7 dirAbortsArgs) dirAborts0k237n = true := check_less (Ky := dirAborts0k239y) (Kn := dirAborts0k239n) (i := ⟨26, 30, []⟩) (by kernel_rfl) (by kernel_rfl) (by kernel_rfl) (.inr dirAborts0h240) (.inr dirAborts0h241)
theorem dirAborts0h237 : dirAborts0t237.check (okKX Try.prog dirAbortsKn (fctOrc dirAbortsF0) [] dirAbortsET 100000 60 7 dirAbortsArgs) dirAborts0k235n = true := check_less (Ky := dirAborts0k237y) (Kn := dirAborts0k237n) (i := ⟨25, 30, []⟩) (by kernel_rfl) (by kernel_rfl) (by kernel_rfl) (.inr dirAborts0h238) (.inr dirAborts0h239)
theorem dirAborts0h235 : dirAborts0t235.check (okKX Try.prog dirAbortsKn (fctOrc dirAbortsF0) [] dirAbortsET 100000 60 7 dirAbortsArgs) dirAborts0k233n = true := check_less (Ky := dirAborts0k235y) (Kn := dirAborts0k235n) (i := ⟨24, 30, []⟩) (by kernel_rfl) (by kernel_rfl) (by kernel_rfl) (.inr dirAborts0h236) (.inr dirAborts0h237)
theorem dirAborts0h233 : dirAborts0t233.check (okKX Try.prog dirAbortsKn (fctOrc dirAbortsF0) [] dirAbortsET 100000 60 7 dirAbortsArgs) dirAborts0k231n = true := check_less (Ky := dirAborts0k233y) (Kn := dirAborts0k233n) (i := ⟨23, 30, []⟩) (by kernel_rfl) (by kernel_rfl) (by kernel_rfl) (.inr dirAborts0h234) (.inr dirAborts0h235)
theorem dirAborts0h231 : dirAborts0t231.check (okKX Try.prog dirAbortsKn (fctOrc dirAbortsF0) [] dirAbortsET 100000 60 7 dirAbortsArgs) dirAborts0k229n = true := check_less (Ky := dirAborts0k231y) (Kn := dirAborts0k231n) (i := ⟨22, 30, []⟩) (by kernel_rfl) (by kernel_rfl) (by kernel_rfl) (.inr dirAborts0h232) (.inr dirAborts0h233)
theorem dirAborts0h229 : dirAborts0t229.check (okKX Try.prog dirAbortsKn (fctOrc dirAbortsF0) [] dirAbortsET 100000 60 7 dirAbortsArgs) dirAborts0k227n = true := check_less (Ky := dirAborts0k229y) (Kn := dirAborts0k229n) (i := ⟨21, 30, []⟩) (by kernel_rfl) (by kernel_rfl) (by kernel_rfl) (.inr dirAborts0h230) (.inr dirAborts0h231)
theorem dirAborts0h227 : dirAborts0t227.check (okKX Try.prog dirAbortsKn (fctOrc dirAbortsF0) [] dirAbortsET 100000 60 7 dirAbortsArgs) dirAborts0k225n = true := check_less (Ky := dirAborts0k227y) (Kn := dirAborts0k227n) (i := ⟨20, 30, []⟩) (by kernel_rfl) (by kernel_rfl) (by kernel_rfl) (.inr dirAborts0h228) (.inr dirAborts0h229)
theorem dirAborts0h225 : dirAborts0t225.check (okKX Try.prog dirAbortsKn (fctOrc dirAbortsF0) [] dirAbortsET 100000 60 7 dirAbortsArgs) dirAborts0k223n = true := check_less (Ky := dirAborts0k225y) (Kn := dirAborts0k225n) (i := ⟨19, 30, []⟩) (by kernel_rfl) (by kernel_rfl) (by kernel_rfl) (.inr dirAborts0h226) (.inr dirAborts0h227)
theorem dirAborts0h223 : dirAborts0t223.check (okKX Try.prog dirAbortsKn (fctOrc dirAbortsF0) [] dirAbortsET 100000 60 7 dirAbortsArgs) dirAborts0k221n = true := check_less (Ky := dirAborts0k223y) (Kn := dirAborts0k223n) (i := ⟨18, 30, []⟩) (by kernel_rfl) (by kernel_rfl) (by kernel_rfl) (.inr dirAborts0h224) (.inr dirAborts0h225)
theorem dirAborts0h221 : dirAborts0t221.check (okKX Try.prog dirAbortsKn (fctOrc dirAbortsF0) [] dirAbortsET 100000 60 7 dirAbortsArgs) dirAborts0k219n = true := check_less (Ky := dirAborts0k221y) (Kn := dirAborts0k221n) (i := ⟨17, 30, []⟩) (by kernel_rfl) (by kernel_rfl) (by kernel_rfl) (.inr dirAborts0h222) (.inr dirAborts0h223)
theorem dirAborts0h219 : dirAborts0t219.check (okKX Try.prog dirAbortsKn (fctOrc dirAbortsF0) [] dirAbortsET 100000 60 7 dirAbortsArgs) dirAborts0k217n = true := check_less (Ky := dirAborts0k219y) (Kn := dirAborts0k219n) (i := ⟨16, 30, []⟩) (by kernel_rfl) (by kernel_rfl) (by kernel_rfl) (.inr dirAborts0h220) (.inr dirAborts0h221)
theorem dirAborts0h217 : dirAborts0t217.check (okKX Try.prog dirAbortsKn (fctOrc dirAbortsF0) [] dirAbortsET 100000 60 7 dirAbortsArgs) dirAborts0k215n = true := check_less (Ky := dirAborts0k217y) (Kn := dirAborts0k217n) (i := ⟨15, 30, []⟩) (by kernel_rfl) (by kernel_rfl) (by kernel_rfl) (.inr dirAborts0h218) (.inr dirAborts0h219)
theorem dirAborts0h215 : dirAborts0t215.check (okKX Try.prog dirAbortsKn (fctOrc dirAbortsF0) [] dirAbortsET 100000 60 7 dirAbortsArgs) dirAborts0k213n = true := check_less (Ky := dirAborts0k215y) (Kn := dirAborts0k215n) (i := ⟨14, 30, []⟩) (by kernel_rfl) (by kernel_rfl) (by kernel_rfl) (.inr dirAborts0h216) (.inr dirAborts0h217)
theorem dirAborts0h213 : dirAborts0t213.check (okKX Try.prog dirAbortsKn (fctOrc dirAbortsF0) [] dirAbortsET 100000 60 7 dirAbortsArgs) dirAborts0k211n = true := check_less (Ky := dirAborts0k213y) (Kn := dirAborts0k213n) (i := ⟨13, 30, []⟩) (by kernel_rfl) (by kernel_rfl) (by kernel_rfl) (.inr dirAborts0h214) (.inr dirAborts0h215)
theorem dirAborts0h211 : dirAborts0t211.check (okKX Try.prog dirAbortsKn (fctOrc dirAbortsF0) [] dirAbortsET 100000 60 7 dirAbortsArgs) dirAborts0k209n = true := check_less (Ky := dirAborts0k211y) (Kn := dirAborts0k211n) (i := ⟨12, 30, []⟩) (by kernel_rfl) (by kernel_rfl) (by kernel_rfl) (.inr dirAborts0h212) (.inr dirAborts0h213)
theorem dirAborts0h209 : dirAborts0t209.check (okKX Try.prog dirAbortsKn (fctOrc dirAbortsF0) [] dirAbortsET 100000 60 7 dirAbortsArgs) dirAborts0k207n = true := check_less (Ky := dirAborts0k209y) (Kn := dirAborts0k209n) (i := ⟨11, 30, []⟩) (by kernel_rfl) (by kernel_rfl) (by kernel_rfl) (.inr dirAborts0h210) (.inr dirAborts0h211)
theorem dirAborts0h207 : dirAborts0t207.check (okKX Try.prog dirAbortsKn (fctOrc dirAbortsF0) [] dirAbortsET 100000 60 7 dirAbortsArgs) dirAborts0k205n = true := check_less (Ky := dirAborts0k207y) (Kn := dirAborts0k207n) (i := ⟨10, 30, []⟩) (by kernel_rfl) (by kernel_rfl) (by kernel_rfl) (.inr dirAborts0h208) (.inr dirAborts0h209)
theorem dirAborts0h205 : dirAborts0t205.check (okKX Try.prog dirAbortsKn (fctOrc dirAbortsF0) [] dirAbortsET 100000 60 7 dirAbortsArgs) dirAborts0k203n = true := check_less (Ky := dirAborts0k205y) (Kn := dirAborts0k205n) (i := ⟨9, 30, []⟩) (by kernel_rfl) (by kernel_rfl) (by kernel_rfl) (.inr dirAborts0h206) (.inr dirAborts0h207)
theorem dirAborts0h203 : dirAborts0t203.check (okKX Try.prog dirAbortsKn (fctOrc dirAbortsF0) [] dirAbortsET 100000 60 7 dirAbortsArgs) dirAborts0k201n = true := check_less (Ky := dirAborts0k203y) (Kn := dirAborts0k203n) (i := ⟨8, 30, []⟩) (by kernel_rfl) (by kernel_rfl) (by kernel_rfl) (.inr dirAborts0h204) (.inr dirAborts0h205)
theorem dirAborts0h201 : dirAborts0t201.check (okKX Try.prog dirAbortsKn (fctOrc dirAbortsF0) [] dirAbortsET 100000 60 7 dirAbortsArgs) dirAborts0k199n = true := check_less (Ky := dirAborts0k201y) (Kn := dirAborts0k201n) (i := ⟨7, 30, []⟩) (by kernel_rfl) (by kernel_rfl) (by kernel_rfl) (.inr dirAborts0h202) (.inr dirAborts0h203)
theorem dirAborts0h199 : dirAborts0t199.check (okKX Try.prog dirAbortsKn (fctOrc dirAbortsF0) [] dirAbortsET 100000 60 7 dirAbortsArgs) dirAborts0k197n = true := check_less (Ky := dirAborts0k199y) (Kn := dirAborts0k199n) (i := ⟨6, 30, []⟩) (by kernel_rfl) (by kernel_rfl) (by kernel_rfl) (.inr dirAborts0h200) (.inr dirAborts0h201)
theorem dirAborts0h197 : dirAborts0t197.check (okKX Try.prog dirAbortsKn (fctOrc dirAbortsF0) [] dirAbortsET 100000 60 7 dirAbortsArgs) dirAborts0k195n = true := check_less (Ky := dirAborts0k197y) (Kn := dirAborts0k197n) (i := ⟨5, 30, []⟩) (by kernel_rfl) (by kernel_rfl) (by kernel_rfl) (.inr dirAborts0h198) (.inr dirAborts0h199)
theorem dirAborts0h195 : dirAborts0t195.check (okKX Try.prog dirAbortsKn (fctOrc dirAbortsF0) [] dirAbortsET 100000 60 7 dirAbortsArgs) dirAborts0k193n = true := check_less (Ky := dirAborts0k195y) (Kn := dirAborts0k195n) (i := ⟨4, 30, []⟩) (by kernel_rfl) (by kernel_rfl) (by kernel_rfl) (.inr dirAborts0h196) (.inr dirAborts0h197)
theorem dirAborts0h193 : dirAborts0t193.check (okKX Try.prog dirAbortsKn (fctOrc dirAbortsF0) [] dirAbortsET 100000 60 7 dirAbortsArgs) dirAborts0k191n = true := check_less (Ky := dirAborts0k193y) (Kn := dirAborts0k193n) (i := ⟨3, 30, []⟩) (by kernel_rfl) (by kernel_rfl) (by kernel_rfl) (.inr dirAborts0h194) (.inr dirAborts0h195)
theorem dirAborts0h191 : dirAborts0t191.check (okKX Try.prog dirAbortsKn (fctOrc dirAbortsF0) [] dirAbortsET 100000 60 7 dirAbortsArgs) dirAborts0k189n = true := check_less (Ky := dirAborts0k191y) (Kn := dirAborts0k191n) (i := ⟨2, 30, []⟩) (by kernel_rfl) (by kernel_rfl) (by kernel_rfl) (.inr dirAborts0h192) (.inr dirAborts0h193)
theorem dirAborts0h189 : dirAborts0t189.check (okKX Try.prog dirAbortsKn (fctOrc dirAbortsF0) [] dirAbortsET 100000 60 7 dirAbortsArgs) dirAborts0k188y = true := check_less (Ky := dirAborts0k189y) (Kn := dirAborts0k189n) (i := ⟨1, 30, []⟩) (by kernel_rfl) (by kernel_rfl) (by kernel_rfl) (.inr dirAborts0h190) (.inr dirAborts0h191)
theorem dirAborts0h304 : dirAborts0t304.check (okKX Try.prog dirAbortsKn (fctOrc dirAbortsF0) [] dirAbortsET 100000 60 7 dirAbortsArgs) dirAborts0k302n = true := check_less (Ky := dirAborts0k304y) (Kn := dirAborts0k304n) (i := ⟨29, 30, []⟩) (by kernel_rfl) (by kernel_rfl) (by kernel_rfl) (.inr dirAborts0h305) (.inr dirAborts0h306)
theorem dirAborts0h302 : dirAborts0t302.check (okKX Try.prog dirAbortsKn (fctOrc dirAbortsF0) [] dirAbortsET 100000 60 7 dirAbortsArgs) dirAborts0k300n = true := check_less (Ky := dirAborts0k302y) (Kn := dirAborts0k302n) (i := ⟨28, 30, []⟩) (by kernel_rfl) (by kernel_rfl) (by kernel_rfl) (.inr dirAborts0h303) (.inr dirAborts0h304)
theorem dirAborts0h300 : dirAborts0t300.check (okKX Try.prog dirAbortsKn (fctOrc dirAbortsF0) [] dirAbortsET 100000 60 7 dirAbortsArgs) dirAborts0k298n = true := check_less (Ky := dirAborts0k300y) (Kn := dirAborts0k300n) (i := ⟨27, 30, []⟩) (by kernel_rfl) (by kernel_rfl) (by kernel_rfl) (.inr dirAborts0h301) (.inr dirAborts0h302)
theorem dirAborts0h298 : dirAborts0t298.check (okKX Try.prog dirAbortsKn (fctOrc dirAbortsF0) [] dirAbortsET 100000 60 7 dirAbortsArgs) dirAborts0k296n = true := check_less (Ky := dirAborts0k298y) (Kn := dirAborts0k298n) (i := ⟨26, 30, []⟩) (by kernel_rfl) (by kernel_rfl) (by kernel_rfl) (.inr dirAborts0h299) (.inr dirAborts0h300)
theorem dirAborts0h296 : dirAborts0t296.check (okKX Try.prog dirAbortsKn (fctOrc dirAbortsF0) [] dirAbortsET 100000 60 7 dirAbortsArgs) dirAborts0k294n = true := check_less (Ky := dirAborts0k296y) (Kn := dirAborts0k296n) (i := ⟨25, 30, []⟩) (by kernel_rfl) (by kernel_rfl) (by kernel_rfl) (.inr dirAborts0h297) (.inr dirAborts0h298)
theorem dirAborts0h294 : dirAborts0t294.check (okKX Try.prog dirAbortsKn (fctOrc dirAbortsF0) [] dirAbortsET 100000 60 7 dirAbortsArgs) dirAborts0k292n = true := check_less (Ky := dirAborts0k294y) (Kn := dirAborts0k294n) (i := ⟨24, 30, []⟩) (by kernel_rfl) (by kernel_rfl) (by kernel_rfl) (.inr dirAborts0h295) (.inr dirAborts0h296)
theorem dirAborts0h292 : dirAborts0t292.check (okKX Try.prog dirAbortsKn (fctOrc dirAbortsF0) [] dirAbortsET 100000 60 7 dirAbortsArgs) dirAborts0k290n = true := check_less (Ky := dirAborts0k292y) (Kn := dirAborts0k292n) (i := ⟨23, 30, []⟩) (by kernel_rfl) (by kernel_rfl) (by kernel_rfl) (.inr dirAborts0h293) (.inr dirAborts0h294)
theorem dirAborts0h290 : dirAborts0t290.check (okKX Try.prog dirAbortsKn (fctOrc dirAbortsF0) [] dirAbortsET 100000 60 7 dirAbortsArgs) dirAborts0k288n = true := check_less (Ky := dirAborts0k290y) (Kn := dirAborts0k290n) (i := ⟨22, 30, []⟩) (by kernel_rfl) (by kernel_rfl) (by kernel_rfl) (.inr dirAborts0h291) (.inr dirAborts0h292)
theorem dirAborts0h288 : dirAborts0t288.check (okKX Try.prog dirAbortsKn (fctOrc dirAbortsF0) [] dirAbortsET 100000 60 7 dirAbortsArgs) dirAborts0k286n = true := check_less (Ky := dirAborts0k288y) (Kn := dirAborts0k288n) (i := ⟨21, 30, []⟩) (by kernel_rfl) (by kernel_rfl) (by kernel_rfl) (.inr dirAborts0h289) (.inr dirAborts0h290)
theorem dirAborts0h286 : dirAborts0t286.check (okKX Try.prog dirAbortsKn (fctOrc dirAbortsF0) [] dirAbortsET 100000 60 7 dirAbortsArgs) dirAborts0k284n = true := check_less (Ky := dirAborts0k286y) (Kn := dirAborts0k286n) (i := ⟨20, 30, []⟩) (by kernel_rfl) (by kernel_rfl) (by kernel_rfl) (.inr dirAborts0h287) (.inr dirAborts0h288)
theorem dirAborts0h284 : dirAborts0t284.check (okKX Try.prog dirAbortsKn (fctOrc dirAbortsF0) [] dirAbortsET 100000 60 7 dirAbortsArgs) dirAborts0k282n = true := check_less (Ky := dirAborts0k284y) (Kn := dirAborts0k284n) (i := ⟨19, 30, []⟩) (by kernel_rfl) (by kernel_rfl) (by kernel_rfl) (.inr dirAborts0h285) (.inr dirAborts0h286)
theorem dirAborts0h282 : dirAborts0t282.check (okKX Try.prog dirAbortsKn (fctOrc dirAbortsF0) [] dirAbortsET 100000 60 7 dirAbortsArgs) dirAborts0k280n = true := check_less (Ky := dirAborts0k282y) (Kn := dirAborts0k282n) (i := ⟨18, 30, []⟩) (by kernel_rfl) (by kernel_rfl) (by kernel_rfl) (.inr dirAborts0h283) (.inr dirAborts0h284)
theorem dirAborts0h280 : dirAborts0t280.check (okKX Try.prog dirAbortsKn (fctOrc dirAbortsF0) [] dirAbortsET 100000 60 7 dirAbortsArgs) dirAborts0k278n = true := check_less (Ky := dirAborts0k280y) (Kn := dirAborts0k280n) (i := ⟨17, 30, []⟩) (by kernel_rfl) (by kernel_rfl) (by kernel_rfl) (.inr dirAborts0h281) (.inr dirAborts0h282)
theorem dirAborts0h278 : dirAborts0t278.check (okKX Try.prog dirAbortsKn (fctOrc dirAbortsF0) [] dirAbortsET 100000 60 7 dirAbortsArgs) dirAborts0k276n = true := check_less (Ky := dirAborts0k278y) (Kn := dirAborts0k278n) (i := ⟨16, 30, []⟩) (by kernel_rfl) (by kernel_rfl) (by kernel_rfl) (.inr dirAborts0h279) (.inr dirAborts0h280)
theorem dirAborts0h276 : dirAborts0t276.check (okKX Try.prog dirAbortsKn (fctOrc dirAbortsF0) [] dirAbortsET 100000 60 7 dirAbortsArgs) dirAborts0k274n = true := check_less (Ky := dirAborts0k276y) (Kn := dirAborts0k276n) (i := ⟨15, 30, []⟩) (by kernel_rfl) (by kernel_rfl) (by kernel_rfl) (.inr dirAborts0h277) (.inr dirAborts0h278)
theorem dirAborts0h274 : dirAborts0t274.check (okKX Try.prog dirAbortsKn (fctOrc dirAbortsF0) [] dirAbortsET 100000 60 7 dirAbortsArgs) dirAborts0k272n = true := check_less (Ky := dirAborts0k274y) (Kn := dirAborts0k274n) (i := ⟨14, 30, []⟩) (by kernel_rfl) (by kernel_rfl) (by kernel_rfl) (.inr dirAborts0h275) (.inr dirAborts0h276)
theorem dirAborts0h272 : dirAborts0t272.check (okKX Try.prog dirAbortsKn (fctOrc dirAbortsF0) [] dirAbortsET 100000 60 7 dirAbortsArgs) dirAborts0k270n = true := check_less (Ky := dirAborts0k272y) (Kn := dirAborts0k272n) (i := ⟨13, 30, []⟩) (by kernel_rfl) (by kernel_rfl) (by kernel_rfl) (.inr dirAborts0h273) (.inr dirAborts0h274)
theorem dirAborts0h270 : dirAborts0t270.check (okKX Try.prog dirAbortsKn (fctOrc dirAbortsF0) [] dirAbortsET 100000 60 7 dirAbortsArgs) dirAborts0k268n = true := check_less (Ky := dirAborts0k270y) (Kn := dirAborts0k270n) (i := ⟨12, 30, []⟩) (by kernel_rfl) (by kernel_rfl) (by kernel_rfl) (.inr dirAborts0h271) (.inr dirAborts0h272)
theorem dirAborts0h268 : dirAborts0t268.check (okKX Try.prog dirAbortsKn (fctOrc dirAbortsF0) [] dirAbortsET 100000 60 7 dirAbortsArgs) dirAborts0k266n = true := check_less (Ky := dirAborts0k268y) (Kn := dirAborts0k268n) (i := ⟨11, 30, []⟩) (by kernel_rfl) (by kernel_rfl) (by kernel_rfl) (.inr dirAborts0h269) (.inr dirAborts0h270)
theorem dirAborts0h266 : dirAborts0t266.check (okKX Try.prog dirAbortsKn (fctOrc dirAbortsF0) [] dirAbortsET 100000 60 7 dirAbortsArgs) dirAborts0k264n = true := check_less (Ky := dirAborts0k266y) (Kn := dirAborts0k266n) (i := ⟨10, 30, []⟩) (by kernel_rfl) (by kernel_rfl) (by kernel_rfl) (.inr dirAborts0h267) (.inr dirAborts0h268)
theorem dirAborts0h264 : dirAborts0t264.check (okKX Try.prog dirAbortsKn (fctOrc dirAbortsF0) [] dirAbortsET 100000 60 7 dirAbortsArgs) dirAborts0k262n = true := check_less (Ky := dirAborts0k264y) (Kn := dirAborts0k264n) (i := ⟨9, 30, []⟩) (by kernel_rfl) (by kernel_rfl) (by kernel_rfl) (.inr dirAborts0h265) (.inr dirAborts0h266)
theorem dirAborts0h262 : dirAborts0t262.check (okKX Try.prog dirAbortsKn (fctOrc dirAbortsF0) [] dirAbortsET 100000 60 7 dirAbortsArgs) dirAborts0k260n = true := check_less (Ky := dirAborts0k262y) (Kn := dirAborts0k262n) (i := ⟨8, 30, []⟩) (by kernel_rfl) (by kernel_rfl) (by kernel_rfl) (.inr dirAborts0h263) (.inr dirAborts0h264)
theorem dirAborts0h260 : dirAborts0t260.check (okKX Try.prog dirAbortsKn (fctOrc dirAbortsF0) [] dirAbortsET 100000 60 7 dirAbortsArgs) dirAborts0k258n = true := check_less (Ky := dirAborts0k260y) (Kn := dirAborts0k260n) (i := ⟨7, 30, []⟩) (by kernel_rfl) (by kernel_rfl) (by kernel_rfl) (.inr dirAborts0h261) (.inr dirAborts0h262)
theorem dirAborts0h258 : dirAborts0t258.check (okKX Try.prog dirAbortsKn (fctOrc dirAbortsF0) [] dirAbortsET 100000 60 7 dirAbortsArgs) dirAborts0k256n = true := check_less (Ky := dirAborts0k258y) (Kn := dirAborts0k258n) (i := ⟨6, 30, []⟩) (by kernel_rfl) (by kernel_rfl) (by kernel_rfl) (.inr dirAborts0h259) (.inr dirAborts0h260)
theorem dirAborts0h256 : dirAborts0t256.check (okKX Try.prog dirAbortsKn (fctOrc dirAbortsF0) [] dirAbortsET 100000 60 7 dirAbortsArgs) dirAborts0k254n = true := check_less (Ky := dirAborts0k256y) (Kn := dirAborts0k256n) (i := ⟨5, 30, []⟩) (by kernel_rfl) (by kernel_rfl) (by kernel_rfl) (.inr dirAborts0h257) (.inr dirAborts0h258)
theorem dirAborts0h254 : dirAborts0t254.check (okKX Try.prog dirAbortsKn (fctOrc dirAbortsF0) [] dirAbortsET 100000 60 7 dirAbortsArgs) dirAborts0k252n = true := check_less (Ky := dirAborts0k254y) (Kn := dirAborts0k254n) (i := ⟨4, 30, []⟩) (by kernel_rfl) (by kernel_rfl) (by kernel_rfl) (.inr dirAborts0h255) (.inr dirAborts0h256)
theorem dirAborts0h252 : dirAborts0t252.check (okKX Try.prog dirAbortsKn (fctOrc dirAbortsF0) [] dirAbortsET 100000 60 7 dirAbortsArgs) dirAborts0k250n = true := check_less (Ky := dirAborts0k252y) (Kn := dirAborts0k252n) (i := ⟨3, 30, []⟩) (by kernel_rfl) (by kernel_rfl) (by kernel_rfl) (.inr dirAborts0h253) (.inr dirAborts0h254)
theorem dirAborts0h250 : dirAborts0t250.check (okKX Try.prog dirAbortsKn (fctOrc dirAbortsF0) [] dirAbortsET 100000 60 7 dirAbortsArgs) dirAborts0k248n = true := check_less (Ky := dirAborts0k250y) (Kn := dirAborts0k250n) (i := ⟨2, 30, []⟩) (by kernel_rfl) (by kernel_rfl) (by kernel_rfl) (.inr dirAborts0h251) (.inr dirAborts0h252)
theorem dirAborts0h248 : dirAborts0t248.check (okKX Try.prog dirAbortsKn (fctOrc dirAbortsF0) [] dirAbortsET 100000 60 7 dirAbortsArgs) dirAborts0k188n = true := check_less (Ky := dirAborts0k248y) (Kn := dirAborts0k248n) (i := ⟨1, 30, []⟩) (by kernel_rfl) (by kernel_rfl) (by kernel_rfl) (.inr dirAborts0h249) (.inr dirAborts0h250)
theorem dirAborts0h188 : dirAborts0t188.check (okKX Try.prog dirAbortsKn (fctOrc dirAbortsF0) [] dirAbortsET 100000 60 7 dirAbortsArgs) dirAborts0k128n = true := check_same (Ky := dirAborts0k188y) (Kn := dirAborts0k188n) (i := ⟨12, 13, []⟩) (by kernel_rfl) (by kernel_rfl) (by kernel_rfl) (.inr dirAborts0h189) (.inr dirAborts0h248)
theorem dirAborts0h128 : dirAborts0t128.check (okKX Try.prog dirAbortsKn (fctOrc dirAbortsF0) [] dirAbortsET 100000 60 7 dirAbortsArgs) dirAborts0k68n = true := check_same (Ky := dirAborts0k128y) (Kn := dirAborts0k128n) (i := ⟨11, 13, []⟩) (by kernel_rfl) (by kernel_rfl) (by kernel_rfl) (.inr dirAborts0h129) (.inr dirAborts0h188)
theorem dirAborts0h68 : dirAborts0t68.check (okKX Try.prog dirAbortsKn (fctOrc dirAbortsF0) [] dirAbortsET 100000 60 7 dirAbortsArgs) dirAborts0k8n = true := check_same (Ky := dirAborts0k68y) (Kn := dirAborts0k68n) (i := ⟨10, 13, []⟩) (by kernel_rfl) (by kernel_rfl) (by kernel_rfl) (.inr dirAborts0h69) (.inr dirAborts0h128)
theorem dirAborts0h8 : dirAborts0t8.check (okKX Try.prog dirAbortsKn (fctOrc dirAbortsF0) [] dirAbortsET 100000 60 7 dirAbortsArgs) dirAborts0k6n = true := check_same (Ky := dirAborts0k8y) (Kn := dirAborts0k8n) (i := ⟨9, 13, []⟩) (by kernel_rfl) (by kernel_rfl) (by kernel_rfl) (.inr dirAborts0h9) (.inr dirAborts0h68)
theorem dirAborts0h6 : dirAborts0t6.check (okKX Try.prog dirAbortsKn (fctOrc dirAbortsF0) [] dirAbortsET 100000 60 7 dirAbortsArgs) dirAborts0k5y = true := check_less (Ky := dirAborts0k6y) (Kn := dirAborts0k6n) (i := ⟨0, 30, []⟩) (by kernel_rfl) (by kernel_rfl) (by kernel_rfl) (.inr dirAborts0h7) (.inr dirAborts0h8)
theorem dirAborts0h5 : dirAborts0t5.check (okKX Try.prog dirAbortsKn (fctOrc dirAbortsF0) [] dirAbortsET 100000 60 7 dirAbortsArgs) dirAborts0k3n = true := check_less (Ky := dirAborts0k5y) (Kn := dirAborts0k5n) (i := ⟨0, 9223372036854775807, []⟩) (by kernel_rfl) (by kernel_rfl) (by kernel_rfl) (.inr dirAborts0h6) (.inr dirAborts0h307)
theorem dirAborts0h3 : dirAborts0t3.check (okKX Try.prog dirAbortsKn (fctOrc dirAbortsF0) [] dirAbortsET 100000 60 7 dirAbortsArgs) dirAborts0k2y = true := check_less (Ky := dirAborts0k3y) (Kn := dirAborts0k3n) (i := ⟨-9223372036854775808, 9223372036854775807, []⟩) (by kernel_rfl) (by kernel_rfl) (by kernel_rfl) (.inr dirAborts0h4) (.inr dirAborts0h5)
theorem dirAborts0h2 : dirAborts0t2.check (okKX Try.prog dirAbortsKn (fctOrc dirAbortsF0) [] dirAbortsET 100000 60 7 dirAbortsArgs) dirAborts0k0n = true := check_less (Ky := dirAborts0k2y) (Kn := dirAborts0k2n) (i := ⟨9, 9223372036854775807, []⟩) (by kernel_rfl) (by kernel_rfl) (by kernel_rfl) (.inr dirAborts0h3) (.inr dirAborts0h308)
theorem dirAborts0h0 : dirAborts0t0.check (okKX Try.prog dirAbortsKn (fctOrc dirAbortsF0) [] dirAbortsET 100000 60 7 dirAbortsArgs) dirAbortsKB0 = true := check_less (Ky := dirAborts0k0y) (Kn := dirAborts0k0n) (i := ⟨-9223372036854775808, 9223372036854775807, []⟩) (by kernel_rfl) (by kernel_rfl) (by kernel_rfl) (.inr dirAborts0h1) (.inr dirAborts0h2)
theorem dirAbortsCheck0 : dirAborts0t0.check (okKX Try.prog dirAbortsKn (fctOrc dirAbortsF0) [] dirAbortsET 100000 60 7 dirAbortsArgs) dirAbortsKB0 = true := dirAborts0h0
theorem dirAbortsF0_ok (a0 : Int) (a1 : Int) (hc : a0 = a0) : FctOK Try.prog dirAbortsF0 (symF (dirAbortsSym a0 a1)) := by
  intro p hp
  exact absurd hp (by simp [dirAbortsF0])
theorem dirAbortsKB0_ok (a0 : Int) (a1 : Int) (w0 : (Lit.int .i64 a0).wf = true) (w1 : (Lit.int .i64 a1).wf = true) (hc : a0 = a0) : KOK dirAbortsKB0 (symF (dirAbortsSym a0 a1)) := by
  have r0 : IntKind.i64.min ≤ a0 ∧ a0 ≤ IntKind.i64.max := by simpa [Lit.wf] using w0
  have r1 : IntKind.i64.min ≤ a1 ∧ a1 ≤ IntKind.i64.max := by simpa [Lit.wf] using w1
  simp only [show IntKind.i64.min = -9223372036854775808 from rfl, show IntKind.i64.max = 9223372036854775807 from rfl] at r0 r1
  intro k j h
  unfold dirAbortsKB0 at h
  unfold KB.find at h
  split at h
  · rename_i he
    injection h with h; subst h; dsimp only at he; subst he
    exact ⟨a0, by simp [symF, dirAbortsSym], by show (-9223372036854775808 : Int) ≤ a0; omega, by show a0 ≤ (9223372036854775807 : Int); omega, by simp⟩
  unfold KB.find at h
  split at h
  · rename_i he
    injection h with h; subst h; dsimp only at he; subst he
    exact ⟨a1, by simp [symF, dirAbortsSym], by show (-9223372036854775808 : Int) ≤ a1; omega, by show a1 ≤ (9223372036854775807 : Int); omega, by simp⟩
  cases h
theorem walkDirAborts (a0 : Int) (a1 : Int) (w0 : (Lit.int .i64 a0).wf = true) (w1 : (Lit.int .i64 a1).wf = true) (w : World) :
    Calls Try.prog 7 #[.int .i64 a0, .int .i64 a1] w fun e' w' => e' = .returned (.bool true) ∧ Below w.heap.size w w' := by
  have hone : ∀ q, (symF (dirAbortsSym a0 a1) q).oneCell' = true := symF_one (by intro p hp; simp [dirAbortsSym] at hp; rcases hp with rfl | rfl <;> rfl)
  have hS : SOK [] (symF (dirAbortsSym a0 a1)) := by
    intro k hk
    cases hk
  have hcase : a0 = a0 := by omega
  have hc := hcase
  · exact Calls.of_treeX evMixed evNames dirAbortsKnOK hone (fctOrc_ok (dirAbortsF0_ok a0 a1 hc)) changeEqEqOK (dirAbortsKB0_ok a0 a1 w0 w1 hc) hS (args := dirAbortsArgs) (fun r hr => by simp [dirAbortsArgs, ren, hr, symF, dirAbortsSym]) dirAbortsCheck0 w
end Go.Proofs.Ytleengigapmnpaa
