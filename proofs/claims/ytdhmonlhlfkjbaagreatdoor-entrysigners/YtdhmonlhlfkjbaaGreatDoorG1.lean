/- JSh, W, JS1, JS2, JS3, JS4, JS5, JS6, JS7, JS8, JSa, EA0, JG, JS9, JB, JSb, JSc, JSd, JSg, JSi: laid together. -/
import Derived.Test.YtdhmonlhlfkjbaaGreatDoorProg
import Derived.Shelf.Strings.Builder1
import Derived.Shelf.Strings.Trim
import Derived.Shelf.Small.Utf8
import Derived.Shelf.Small.Strs
import Derived.Shelf.Small.Wraps
import Derived.Shelf.Strings.BuilderF
import Derived.Shelf.Strings.BuilderK
import Derived.Shelf.Strings.BuilderRune
import Derived.Shelf.Strconv.Atoi
import Derived.Shelf.Strconv.Itoa0
import Derived.Shelf.Strconv.Itoa1
import Derived.Shelf.LaysM
import Derived.Shelf.Strconv.Itoa2
import Derived.Shelf.Strconv.Itoa3
import Derived.Shelf.Strconv.AtoiErrFast
import Derived.Shelf.Strconv.ParseIntEmpty
import Derived.Shelf.Strconv.AtoiFail
import Derived.Shelf.Strconv.Clone
import Derived.Shelf.Strconv.SyntaxError
import Derived.Shelf.LaysC
import Derived.Shelf.Strconv.ToError
import Derived.Shelf.Strconv.Lower
import Derived.Shelf.Strconv.ParseUint10
import Derived.Shelf.Strconv.ParseUint10Empty
import Derived.Shelf.Strconv.ParseUint10Any
import Derived.Shelf.Strconv.ParseInt10
import Derived.Shelf.Strconv.AtoiLong
import Derived.Shelf.Strconv.AtoiInnerAll
import Derived.Shelf.Strconv.RangeError
import Derived.Shelf.Strconv.ToErrorRange
import Derived.Shelf.Strconv.AtoiAll
import Derived.Shelf.Strconv.ErrVarAll
import Derived.Shelf.Strings.Search1
import Derived.Shelf.Strings.Prefix
import Derived.Shelf.Strings.Runes
import Derived.Shelf.Strings.AsciiSet
import Derived.Shelf.Unicode.DecodeSlow
import Derived.Shelf.Unicode.DecodeAny
import Derived.Shelf.Strings.SlTrimAscii
import Derived.WalkKit
import Derived.WalkSpells
import Derived.WalkLawsBesides
import Derived.Below
import Derived.Sort.Grow
import Derived.Laws.AppendOwn
import Derived.Lib.TrimU
import Derived.Shelf.Unicode.DecodeLastEight
import Derived.Lib.RuneBytes
import Derived.Lib.RuneCount
import Derived.Lib.AtoiAll
import Derived.Lib.ItoaNum
import Derived.RangeFuncNested
import Derived.RangeFuncBound
import Derived.RangeFuncCalls
import Derived.RangeFuncLeaves
import Derived.RangeFuncBox
import Derived.Shelf.Abstract
import Derived.Shelf.RegionOpen
import Derived.OwnWalkIn
import Derived.TacticsInMore
import Derived.LoopNIn
import Derived.LoopIn
import Derived.Defers
import Derived.Laws.CopyRow
namespace Go.Proofs.YtdhmonlhlfkjbaaGreatDoor
open Go.Shelf
def lays169_ren : Go.Shelf.Ren := ⟨fun | 169 => 141 | n => n, fun | 70 => 182 | 9 => 9 | 0 => 0 | 72 => 184 | 37 => 22 | 127 => 215 | 3 => 3 | 5 => 5 | n => n, fun | n => n⟩
theorem lays169 : Go.Proofs.Lays.n169 Tryz.prog lays169_ren := {
  mixed := by kernel_rfl
  f169 := Tryz.func141.trans (congrArg some (by kernel_rfl))
  t0 := Tryz.underlying0
  a0 := Tryz.isAgg0
  z0 := Tryz.sizeOf0
  v0 := Tryz.zeroValue0
  t3 := Tryz.underlying3
  a3 := Tryz.isAgg3
  z3 := Tryz.sizeOf3
  v3 := Tryz.zeroValue3
  t9 := Tryz.underlying9
  a9 := Tryz.isAgg9
  z9 := Tryz.sizeOf9
  v9 := Tryz.zeroValue9
  t37 := Tryz.underlying22
  a37 := Tryz.isAgg22
  z37 := Tryz.sizeOf22
  v37 := Tryz.zeroValue22
  t70 := Tryz.underlying182
  a70 := Tryz.isAgg182
  z70 := Tryz.sizeOf182
  v70 := Tryz.zeroValue182
  t72 := Tryz.underlying184
  a72 := Tryz.isAgg184
  z72 := Tryz.sizeOf184
  v72 := Tryz.zeroValue184
  t127 := Tryz.underlying215
  a127 := Tryz.isAgg215
  z127 := Tryz.sizeOf215
  v127 := Tryz.zeroValue215 }
def lays161_ren : Go.Shelf.Ren := ⟨fun | 161 => 97 | 231 => 144 | 227 => 145 | 233 => 146 | 235 => 147 | 228 => 183 | 197 => 184 | 151 => 185 | 260 => 202 | 152 => 203 | 137 => 163 | 119 => 214 | 224 => 215 | 225 => 216 | 217 => 196 | 266 => 211 | n => n, fun | 9 => 9 | 4 => 4 | 3 => 3 | 5 => 5 | 117 => 192 | 116 => 191 | 0 => 0 | 124 => 195 | 105 => 219 | 21 => 21 | 119 => 171 | 46 => 79 | 139 => 174 | 138 => 173 | n => n, fun | 3 => 1 | 4 => 2 | n => n⟩
theorem lays161 : Go.Proofs.Lays.n161 Tryz.prog lays161_ren := {
  mixed := by kernel_rfl
  f119 := Tryz.func214.trans (congrArg some (by kernel_rfl))
  f137 := Tryz.func163.trans (congrArg some (by kernel_rfl))
  f151 := Tryz.func185.trans (congrArg some (by kernel_rfl))
  f152 := Tryz.func203.trans (congrArg some (by kernel_rfl))
  f161 := Tryz.func97.trans (congrArg some (by kernel_rfl))
  f197 := Tryz.func184.trans (congrArg some (by kernel_rfl))
  f217 := Tryz.func196.trans (congrArg some (by kernel_rfl))
  f224 := Tryz.func215.trans (congrArg some (by kernel_rfl))
  f225 := Tryz.func216.trans (congrArg some (by kernel_rfl))
  f227 := Tryz.func145.trans (congrArg some (by kernel_rfl))
  f228 := Tryz.func183.trans (congrArg some (by kernel_rfl))
  f231 := Tryz.func144.trans (congrArg some (by kernel_rfl))
  f233 := Tryz.func146.trans (congrArg some (by kernel_rfl))
  f235 := Tryz.func147.trans (congrArg some (by kernel_rfl))
  f260 := Tryz.func202.trans (congrArg some (by kernel_rfl))
  f266 := Tryz.func211.trans (congrArg some (by kernel_rfl))
  t0 := Tryz.underlying0
  a0 := Tryz.isAgg0
  z0 := Tryz.sizeOf0
  v0 := Tryz.zeroValue0
  t3 := Tryz.underlying3
  a3 := Tryz.isAgg3
  z3 := Tryz.sizeOf3
  v3 := Tryz.zeroValue3
  t4 := Tryz.underlying4
  a4 := Tryz.isAgg4
  z4 := Tryz.sizeOf4
  v4 := Tryz.zeroValue4
  t5 := Tryz.underlying5
  a5 := Tryz.isAgg5
  z5 := Tryz.sizeOf5
  v5 := Tryz.zeroValue5
  t9 := Tryz.underlying9
  a9 := Tryz.isAgg9
  z9 := Tryz.sizeOf9
  v9 := Tryz.zeroValue9
  t21 := Tryz.underlying21
  a21 := Tryz.isAgg21
  z21 := Tryz.sizeOf21
  v21 := Tryz.zeroValue21
  t46 := Tryz.underlying79
  a46 := Tryz.isAgg79
  z46 := Tryz.sizeOf79
  v46 := Tryz.zeroValue79
  t105 := Tryz.underlying219
  a105 := Tryz.isAgg219
  z105 := Tryz.sizeOf219
  v105 := Tryz.zeroValue219
  t116 := Tryz.underlying191
  a116 := Tryz.isAgg191
  z116 := Tryz.sizeOf191
  t117 := Tryz.underlying192
  a117 := Tryz.isAgg192
  z117 := Tryz.sizeOf192
  v117 := Tryz.zeroValue192
  t119 := Tryz.underlying171
  a119 := Tryz.isAgg171
  z119 := Tryz.sizeOf171
  t124 := Tryz.underlying195
  a124 := Tryz.isAgg195
  z124 := Tryz.sizeOf195
  v124 := Tryz.zeroValue195
  t138 := Tryz.underlying173
  a138 := Tryz.isAgg173
  z138 := Tryz.sizeOf173
  v138 := Tryz.zeroValue173
  t139 := Tryz.underlying174
  a139 := Tryz.isAgg174
  z139 := Tryz.sizeOf174
  v139 := Tryz.zeroValue174
  g3 := by kernel_rfl
  g4 := by kernel_rfl }
def lays106_ren : Go.Shelf.Ren := ⟨fun | 106 => 96 | 213 => 143 | 265 => 182 | n => n, fun | 9 => 9 | 3 => 3 | n => n, fun | n => n⟩
theorem lays106 : Go.Proofs.Lays.n106 Tryz.prog lays106_ren := {
  mixed := by kernel_rfl
  f106 := Tryz.func96.trans (congrArg some (by kernel_rfl))
  f213 := Tryz.func143.trans (congrArg some (by kernel_rfl))
  f265 := Tryz.func182.trans (congrArg some (by kernel_rfl))
  t3 := Tryz.underlying3
  a3 := Tryz.isAgg3
  z3 := Tryz.sizeOf3
  v3 := Tryz.zeroValue3
  t9 := Tryz.underlying9
  a9 := Tryz.isAgg9
  z9 := Tryz.sizeOf9
  v9 := Tryz.zeroValue9 }
def lays103_ren : Go.Shelf.Ren := ⟨fun | 103 => 158 | 210 => 193 | 206 => 161 | n => n, fun | 9 => 9 | 4 => 4 | 24 => 196 | 3 => 3 | n => n, fun | n => n⟩
theorem lays103 : Go.Proofs.Lays.n103 Tryz.prog lays103_ren := {
  mixed := by kernel_rfl
  f103 := Tryz.func158.trans (congrArg some (by kernel_rfl))
  f206 := Tryz.func161.trans (congrArg some (by kernel_rfl))
  f210 := Tryz.func193.trans (congrArg some (by kernel_rfl))
  t3 := Tryz.underlying3
  a3 := Tryz.isAgg3
  z3 := Tryz.sizeOf3
  v3 := Tryz.zeroValue3
  t4 := Tryz.underlying4
  a4 := Tryz.isAgg4
  z4 := Tryz.sizeOf4
  v4 := Tryz.zeroValue4
  t9 := Tryz.underlying9
  a9 := Tryz.isAgg9
  z9 := Tryz.sizeOf9
  v9 := Tryz.zeroValue9
  t24 := Tryz.underlying196
  a24 := Tryz.isAgg196
  z24 := Tryz.sizeOf196
  v24 := Tryz.zeroValue196 }
def lays121_ren : Go.Shelf.Ren := ⟨fun | 121 => 46 | 214 => 87 | n => n, fun | 4 => 4 | 9 => 9 | n => n, fun | n => n⟩
theorem lays121 : Go.Proofs.Lays.n121 Tryz.prog lays121_ren := {
  mixed := by kernel_rfl
  f121 := Tryz.func46.trans (congrArg some (by kernel_rfl))
  f214 := Tryz.func87.trans (congrArg some (by kernel_rfl))
  t4 := Tryz.underlying4
  a4 := Tryz.isAgg4
  z4 := Tryz.sizeOf4
  v4 := Tryz.zeroValue4
  t9 := Tryz.underlying9
  a9 := Tryz.isAgg9
  z9 := Tryz.sizeOf9
  v9 := Tryz.zeroValue9 }
def laysM171_ren : Go.Shelf.Ren := ⟨fun | 171 => 17 | 243 => 25 | 246 => 36 | 283 => 76 | 284 => 77 | 285 => 78 | 286 => 79 | 129 => 129 | 317 => 128 | 318 => 130 | 319 => 131 | 320 => 132 | 337 => 167 | 338 => 168 | n => n, fun | 3 => 3 | 9 => 9 | 2 => 2 | 4 => 4 | 171 => 124 | 0 => 0 | 53 => 125 | 37 => 22 | 5 => 5 | 173 => 128 | 212 => 165 | 51 => 166 | 20 => 20 | 213 => 167 | 46 => 79 | 232 => 27 | 233 => 29 | n => n, fun | 17 => 0 | 18 => 4 | 19 => 5 | n => n⟩
theorem laysM171 : Go.Proofs.LaysM.n171 Tryz.prog laysM171_ren := {
  mixed := by kernel_rfl
  f129 := Tryz.func129.trans (congrArg some (by kernel_rfl))
  f171 := Tryz.func17.trans (congrArg some (by kernel_rfl))
  f243 := Tryz.func25.trans (congrArg some (by kernel_rfl))
  f246 := Tryz.func36.trans (congrArg some (by kernel_rfl))
  f283 := Tryz.func76.trans (congrArg some (by kernel_rfl))
  f284 := Tryz.func77.trans (congrArg some (by kernel_rfl))
  f285 := Tryz.func78.trans (congrArg some (by kernel_rfl))
  f286 := Tryz.func79.trans (congrArg some (by kernel_rfl))
  f317 := Tryz.func128.trans (congrArg some (by kernel_rfl))
  f318 := Tryz.func130.trans (congrArg some (by kernel_rfl))
  f319 := Tryz.func131.trans (congrArg some (by kernel_rfl))
  f320 := Tryz.func132.trans (congrArg some (by kernel_rfl))
  f337 := Tryz.func167.trans (congrArg some (by kernel_rfl))
  f338 := Tryz.func168.trans (congrArg some (by kernel_rfl))
  t0 := Tryz.underlying0
  a0 := Tryz.isAgg0
  z0 := Tryz.sizeOf0
  v0 := Tryz.zeroValue0
  t2 := Tryz.underlying2
  a2 := Tryz.isAgg2
  z2 := Tryz.sizeOf2
  v2 := Tryz.zeroValue2
  t3 := Tryz.underlying3
  a3 := Tryz.isAgg3
  z3 := Tryz.sizeOf3
  v3 := Tryz.zeroValue3
  t4 := Tryz.underlying4
  a4 := Tryz.isAgg4
  z4 := Tryz.sizeOf4
  v4 := Tryz.zeroValue4
  t5 := Tryz.underlying5
  a5 := Tryz.isAgg5
  z5 := Tryz.sizeOf5
  v5 := Tryz.zeroValue5
  t9 := Tryz.underlying9
  a9 := Tryz.isAgg9
  z9 := Tryz.sizeOf9
  v9 := Tryz.zeroValue9
  t20 := Tryz.underlying20
  a20 := Tryz.isAgg20
  z20 := Tryz.sizeOf20
  v20 := Tryz.zeroValue20
  t37 := Tryz.underlying22
  a37 := Tryz.isAgg22
  z37 := Tryz.sizeOf22
  v37 := Tryz.zeroValue22
  t46 := Tryz.underlying79
  a46 := Tryz.isAgg79
  z46 := Tryz.sizeOf79
  v46 := Tryz.zeroValue79
  t51 := Tryz.underlying166
  a51 := Tryz.isAgg166
  z51 := Tryz.sizeOf166
  v51 := Tryz.zeroValue166
  t53 := Tryz.underlying125
  a53 := Tryz.isAgg125
  z53 := Tryz.sizeOf125
  v53 := Tryz.zeroValue125
  t171 := Tryz.underlying124
  a171 := Tryz.isAgg124
  z171 := Tryz.sizeOf124
  v171 := Tryz.zeroValue124
  t173 := Tryz.underlying128
  a173 := Tryz.isAgg128
  z173 := Tryz.sizeOf128
  v173 := Tryz.zeroValue128
  t212 := Tryz.underlying165
  a212 := Tryz.isAgg165
  z212 := Tryz.sizeOf165
  v212 := Tryz.zeroValue165
  t213 := Tryz.underlying167
  a213 := Tryz.isAgg167
  z213 := Tryz.sizeOf167
  t232 := Tryz.underlying27
  a232 := Tryz.isAgg27
  z232 := Tryz.sizeOf27
  v232 := Tryz.zeroValue27
  t233 := Tryz.underlying29
  a233 := Tryz.isAgg29
  z233 := Tryz.sizeOf29
  v233 := Tryz.zeroValue29
  g17 := by kernel_rfl
  g18 := by kernel_rfl
  g19 := by kernel_rfl
  i0 := by kernel_rfl
  i2 := by kernel_rfl
  i3 := by kernel_rfl
  i4 := by kernel_rfl
  i5 := by kernel_rfl
  i9 := by kernel_rfl
  i20 := by kernel_rfl
  i37 := by kernel_rfl
  i46 := by kernel_rfl
  i51 := by kernel_rfl
  i53 := by kernel_rfl
  i171 := by kernel_rfl
  i173 := by kernel_rfl
  i212 := by kernel_rfl
  i232 := by kernel_rfl
  i233 := by kernel_rfl
  m17 := by kernel_rfl
  m18 := by kernel_rfl
  m19 := by kernel_rfl }
def laysC172_ren : Go.Shelf.Ren := ⟨fun | 172 => 149 | 244 => 187 | 245 => 188 | 247 => 204 | 279 => 205 | 280 => 206 | 281 => 207 | 282 => 208 | 287 => 217 | 316 => 218 | 171 => 17 | 205 => 219 | 321 => 222 | 322 => 223 | 243 => 25 | 246 => 36 | 283 => 76 | 284 => 77 | 285 => 78 | 286 => 79 | 129 => 129 | 317 => 128 | 318 => 130 | 319 => 131 | 320 => 132 | 337 => 167 | 338 => 168 | n => n, fun | 9 => 9 | 3 => 3 | 75 => 39 | 76 => 145 | 4 => 4 | 5 => 5 | 167 => 231 | 37 => 22 | 0 => 0 | 85 => 232 | 2 => 2 | 168 => 234 | 53 => 125 | 175 => 238 | 46 => 79 | 210 => 241 | 127 => 215 | 145 => 246 | 143 => 244 | 21 => 21 | 171 => 124 | 173 => 128 | 212 => 165 | 51 => 166 | 20 => 20 | 213 => 167 | 232 => 27 | 233 => 29 | 80 => 187 | n => n, fun | 15 => 6 | 16 => 7 | 17 => 0 | 18 => 4 | 19 => 5 | n => n⟩
theorem laysC172 : Go.Proofs.LaysC.n172 Tryz.prog laysC172_ren := {
  mixed := by kernel_rfl
  f129 := Tryz.func129.trans (congrArg some (by kernel_rfl))
  f171 := Tryz.func17.trans (congrArg some (by kernel_rfl))
  f172 := Tryz.func149.trans (congrArg some (by kernel_rfl))
  f205 := Tryz.func219.trans (congrArg some (by kernel_rfl))
  f243 := Tryz.func25.trans (congrArg some (by kernel_rfl))
  f244 := Tryz.func187.trans (congrArg some (by kernel_rfl))
  f245 := Tryz.func188.trans (congrArg some (by kernel_rfl))
  f246 := Tryz.func36.trans (congrArg some (by kernel_rfl))
  f247 := Tryz.func204.trans (congrArg some (by kernel_rfl))
  f279 := Tryz.func205.trans (congrArg some (by kernel_rfl))
  f280 := Tryz.func206.trans (congrArg some (by kernel_rfl))
  f281 := Tryz.func207.trans (congrArg some (by kernel_rfl))
  f282 := Tryz.func208.trans (congrArg some (by kernel_rfl))
  f283 := Tryz.func76.trans (congrArg some (by kernel_rfl))
  f284 := Tryz.func77.trans (congrArg some (by kernel_rfl))
  f285 := Tryz.func78.trans (congrArg some (by kernel_rfl))
  f286 := Tryz.func79.trans (congrArg some (by kernel_rfl))
  f287 := Tryz.func217.trans (congrArg some (by kernel_rfl))
  f316 := Tryz.func218.trans (congrArg some (by kernel_rfl))
  f317 := Tryz.func128.trans (congrArg some (by kernel_rfl))
  f318 := Tryz.func130.trans (congrArg some (by kernel_rfl))
  f319 := Tryz.func131.trans (congrArg some (by kernel_rfl))
  f320 := Tryz.func132.trans (congrArg some (by kernel_rfl))
  f321 := Tryz.func222.trans (congrArg some (by kernel_rfl))
  f322 := Tryz.func223.trans (congrArg some (by kernel_rfl))
  f337 := Tryz.func167.trans (congrArg some (by kernel_rfl))
  f338 := Tryz.func168.trans (congrArg some (by kernel_rfl))
  t0 := Tryz.underlying0
  a0 := Tryz.isAgg0
  z0 := Tryz.sizeOf0
  v0 := Tryz.zeroValue0
  t2 := Tryz.underlying2
  a2 := Tryz.isAgg2
  z2 := Tryz.sizeOf2
  v2 := Tryz.zeroValue2
  t3 := Tryz.underlying3
  a3 := Tryz.isAgg3
  z3 := Tryz.sizeOf3
  v3 := Tryz.zeroValue3
  t4 := Tryz.underlying4
  a4 := Tryz.isAgg4
  z4 := Tryz.sizeOf4
  v4 := Tryz.zeroValue4
  t5 := Tryz.underlying5
  a5 := Tryz.isAgg5
  z5 := Tryz.sizeOf5
  v5 := Tryz.zeroValue5
  t9 := Tryz.underlying9
  a9 := Tryz.isAgg9
  z9 := Tryz.sizeOf9
  v9 := Tryz.zeroValue9
  t20 := Tryz.underlying20
  a20 := Tryz.isAgg20
  z20 := Tryz.sizeOf20
  v20 := Tryz.zeroValue20
  t21 := Tryz.underlying21
  a21 := Tryz.isAgg21
  z21 := Tryz.sizeOf21
  v21 := Tryz.zeroValue21
  t37 := Tryz.underlying22
  a37 := Tryz.isAgg22
  z37 := Tryz.sizeOf22
  v37 := Tryz.zeroValue22
  t46 := Tryz.underlying79
  a46 := Tryz.isAgg79
  z46 := Tryz.sizeOf79
  v46 := Tryz.zeroValue79
  t51 := Tryz.underlying166
  a51 := Tryz.isAgg166
  z51 := Tryz.sizeOf166
  v51 := Tryz.zeroValue166
  t53 := Tryz.underlying125
  a53 := Tryz.isAgg125
  z53 := Tryz.sizeOf125
  v53 := Tryz.zeroValue125
  t75 := Tryz.underlying39
  a75 := Tryz.isAgg39
  z75 := Tryz.sizeOf39
  v75 := Tryz.zeroValue39
  t76 := Tryz.underlying145
  a76 := Tryz.isAgg145
  z76 := Tryz.sizeOf145
  v76 := Tryz.zeroValue145
  t85 := Tryz.underlying232
  a85 := Tryz.isAgg232
  z85 := Tryz.sizeOf232
  v85 := Tryz.zeroValue232
  t127 := Tryz.underlying215
  a127 := Tryz.isAgg215
  z127 := Tryz.sizeOf215
  v127 := Tryz.zeroValue215
  t143 := Tryz.underlying244
  a143 := Tryz.isAgg244
  z143 := Tryz.sizeOf244
  v143 := Tryz.zeroValue244
  t145 := Tryz.underlying246
  a145 := Tryz.isAgg246
  z145 := Tryz.sizeOf246
  v145 := Tryz.zeroValue246
  t167 := Tryz.underlying231
  a167 := Tryz.isAgg231
  z167 := Tryz.sizeOf231
  v167 := Tryz.zeroValue231
  t168 := Tryz.underlying234
  a168 := Tryz.isAgg234
  z168 := Tryz.sizeOf234
  v168 := Tryz.zeroValue234
  t171 := Tryz.underlying124
  a171 := Tryz.isAgg124
  z171 := Tryz.sizeOf124
  v171 := Tryz.zeroValue124
  t173 := Tryz.underlying128
  a173 := Tryz.isAgg128
  z173 := Tryz.sizeOf128
  v173 := Tryz.zeroValue128
  t175 := Tryz.underlying238
  a175 := Tryz.isAgg238
  z175 := Tryz.sizeOf238
  v175 := Tryz.zeroValue238
  t210 := Tryz.underlying241
  a210 := Tryz.isAgg241
  z210 := Tryz.sizeOf241
  v210 := Tryz.zeroValue241
  t212 := Tryz.underlying165
  a212 := Tryz.isAgg165
  z212 := Tryz.sizeOf165
  v212 := Tryz.zeroValue165
  t213 := Tryz.underlying167
  a213 := Tryz.isAgg167
  z213 := Tryz.sizeOf167
  t232 := Tryz.underlying27
  a232 := Tryz.isAgg27
  z232 := Tryz.sizeOf27
  v232 := Tryz.zeroValue27
  t233 := Tryz.underlying29
  a233 := Tryz.isAgg29
  z233 := Tryz.sizeOf29
  v233 := Tryz.zeroValue29
  g15 := by kernel_rfl
  g16 := by kernel_rfl
  g17 := by kernel_rfl
  g18 := by kernel_rfl
  g19 := by kernel_rfl
  t80 := Tryz.underlying187
  a80 := Tryz.isAgg187
  z80 := Tryz.sizeOf187
  v80 := Tryz.zeroValue187
  i0 := by kernel_rfl
  i2 := by kernel_rfl
  i3 := by kernel_rfl
  i4 := by kernel_rfl
  i5 := by kernel_rfl
  i9 := by kernel_rfl
  i20 := by kernel_rfl
  i21 := by kernel_rfl
  i37 := by kernel_rfl
  i46 := by kernel_rfl
  i51 := by kernel_rfl
  i53 := by kernel_rfl
  i75 := by kernel_rfl
  i76 := by kernel_rfl
  i80 := by kernel_rfl
  i85 := by kernel_rfl
  i127 := by kernel_rfl
  i143 := by kernel_rfl
  i145 := by kernel_rfl
  i167 := by kernel_rfl
  i168 := by kernel_rfl
  i171 := by kernel_rfl
  i173 := by kernel_rfl
  i175 := by kernel_rfl
  i210 := by kernel_rfl
  i212 := by kernel_rfl
  i232 := by kernel_rfl
  i233 := by kernel_rfl
  m15 := by kernel_rfl
  m16 := by kernel_rfl
  m17 := by kernel_rfl
  m18 := by kernel_rfl
  m19 := by kernel_rfl
  c0 := by kernel_rfl
  c2 := by kernel_rfl
  c3 := by kernel_rfl
  c4 := by kernel_rfl
  c5 := by kernel_rfl
  c9 := by kernel_rfl
  c20 := by kernel_rfl
  c21 := by kernel_rfl
  c37 := by kernel_rfl
  c46 := by kernel_rfl
  c51 := by kernel_rfl
  c53 := by kernel_rfl
  c75 := by kernel_rfl
  c76 := by kernel_rfl
  c80 := by kernel_rfl
  c85 := by kernel_rfl
  c127 := by kernel_rfl
  c143 := by kernel_rfl
  c145 := by kernel_rfl
  c167 := by kernel_rfl
  c168 := by kernel_rfl
  c171 := by kernel_rfl
  c173 := by kernel_rfl
  c175 := by kernel_rfl
  c210 := by kernel_rfl
  c212 := by kernel_rfl
  c213 := by kernel_rfl
  c232 := by kernel_rfl
  c233 := by kernel_rfl }
def lays101_ren : Go.Shelf.Ren := ⟨fun | 101 => 148 | 208 => 186 | 206 => 161 | n => n, fun | 9 => 9 | 4 => 4 | 3 => 3 | n => n, fun | n => n⟩
theorem lays101 : Go.Proofs.Lays.n101 Tryz.prog lays101_ren := {
  mixed := by kernel_rfl
  f101 := Tryz.func148.trans (congrArg some (by kernel_rfl))
  f206 := Tryz.func161.trans (congrArg some (by kernel_rfl))
  f208 := Tryz.func186.trans (congrArg some (by kernel_rfl))
  t3 := Tryz.underlying3
  a3 := Tryz.isAgg3
  z3 := Tryz.sizeOf3
  v3 := Tryz.zeroValue3
  t4 := Tryz.underlying4
  a4 := Tryz.isAgg4
  z4 := Tryz.sizeOf4
  v4 := Tryz.zeroValue4
  t9 := Tryz.underlying9
  a9 := Tryz.isAgg9
  z9 := Tryz.sizeOf9
  v9 := Tryz.zeroValue9 }
def lays102_ren : Go.Shelf.Ren := ⟨fun | 102 => 124 | 209 => 162 | 207 => 195 | n => n, fun | 9 => 9 | 4 => 4 | 3 => 3 | n => n, fun | n => n⟩
theorem lays102 : Go.Proofs.Lays.n102 Tryz.prog lays102_ren := {
  mixed := by kernel_rfl
  f102 := Tryz.func124.trans (congrArg some (by kernel_rfl))
  f207 := Tryz.func195.trans (congrArg some (by kernel_rfl))
  f209 := Tryz.func162.trans (congrArg some (by kernel_rfl))
  t3 := Tryz.underlying3
  a3 := Tryz.isAgg3
  z3 := Tryz.sizeOf3
  v3 := Tryz.zeroValue3
  t4 := Tryz.underlying4
  a4 := Tryz.isAgg4
  z4 := Tryz.sizeOf4
  v4 := Tryz.zeroValue4
  t9 := Tryz.underlying9
  a9 := Tryz.isAgg9
  z9 := Tryz.sizeOf9
  v9 := Tryz.zeroValue9 }
def lays197_ren : Go.Shelf.Ren := ⟨fun | 197 => 184 | 260 => 202 | n => n, fun | 9 => 9 | 21 => 21 | 3 => 3 | 4 => 4 | 5 => 5 | 105 => 219 | 119 => 171 | 0 => 0 | 46 => 79 | 139 => 174 | 138 => 173 | n => n, fun | 3 => 1 | 4 => 2 | n => n⟩
theorem lays197 : Go.Proofs.Lays.n197 Tryz.prog lays197_ren := {
  mixed := by kernel_rfl
  f197 := Tryz.func184.trans (congrArg some (by kernel_rfl))
  f260 := Tryz.func202.trans (congrArg some (by kernel_rfl))
  t0 := Tryz.underlying0
  a0 := Tryz.isAgg0
  z0 := Tryz.sizeOf0
  v0 := Tryz.zeroValue0
  t3 := Tryz.underlying3
  a3 := Tryz.isAgg3
  z3 := Tryz.sizeOf3
  v3 := Tryz.zeroValue3
  t4 := Tryz.underlying4
  a4 := Tryz.isAgg4
  z4 := Tryz.sizeOf4
  v4 := Tryz.zeroValue4
  t5 := Tryz.underlying5
  a5 := Tryz.isAgg5
  z5 := Tryz.sizeOf5
  v5 := Tryz.zeroValue5
  t9 := Tryz.underlying9
  a9 := Tryz.isAgg9
  z9 := Tryz.sizeOf9
  v9 := Tryz.zeroValue9
  t21 := Tryz.underlying21
  a21 := Tryz.isAgg21
  z21 := Tryz.sizeOf21
  v21 := Tryz.zeroValue21
  t46 := Tryz.underlying79
  a46 := Tryz.isAgg79
  z46 := Tryz.sizeOf79
  v46 := Tryz.zeroValue79
  t105 := Tryz.underlying219
  a105 := Tryz.isAgg219
  z105 := Tryz.sizeOf219
  v105 := Tryz.zeroValue219
  t119 := Tryz.underlying171
  a119 := Tryz.isAgg171
  z119 := Tryz.sizeOf171
  t138 := Tryz.underlying173
  a138 := Tryz.isAgg173
  z138 := Tryz.sizeOf173
  v138 := Tryz.zeroValue173
  t139 := Tryz.underlying174
  a139 := Tryz.isAgg174
  z139 := Tryz.sizeOf174
  v139 := Tryz.zeroValue174
  g3 := by kernel_rfl
  g4 := by kernel_rfl }
theorem Builder_Extra_169 : Builder.Extra Tryz.prog lays169_ren := {
  sizeBuilder := by kernel_rfl
  liesBuilder := by kernel_rfl
  t5 := Tryz.underlying5
  a5 := Tryz.isAgg5
  z5 := Tryz.sizeOf5
  v5 := Tryz.zeroValue5
  infoByte := by kernel_rfl
  cellsByte := by kernel_rfl
  sizeByte := by kernel_rfl
  neB5 := by decide }
open Go.RowKit in
theorem Builder_String_any (B b : Nat) (l : List UInt8) (w : World) (h : Lib.IsBuilder 184 5 B b (Lib.byteCells l) w) (hBw : B ≤ w.heap.size) :
    Calls Tryz.prog 141 #[.pointer (some ⟨b, 0, none⟩)] w fun e w' => e = .returned (.string ⟨l.toArray⟩) ∧ Below B w w' := Any.Builder_String_any lays169 Builder_Extra_169 B b l w h hBw
open Go.RowKit in
theorem strings_Compare (a b : ByteArray) (w : World) :
    Calls Tryz.prog 96 #[.string a, .string b] w fun e w' => e = .returned (.int .i64 (Lib.compareBytes a.data.toList b.data.toList)) ∧ w' = w := Any.strings_Compare lays106 a b w
open Go.RowKit in
theorem strings_CutPrefix (s p : ByteArray) (w : World) :
    Calls Tryz.prog 158 #[.string s, .string p] w fun e w' => e = .returned (.tuple #[.string ⟨(Lib.trimPrefix s.data.toList p.data.toList).toArray⟩, .bool (Lib.hasPrefix s.data.toList p.data.toList)]) ∧ w' = w := Any.strings_CutPrefix lays103 s p w
open Go.RowKit in
theorem strconv_FormatBool (b : Bool) (w : World) :
    Calls Tryz.prog 46 #[.bool b] w fun e w' => e = .returned (.string ⟨(Lib.formatBool b).toArray⟩) ∧ w' = w := Any.strconv_FormatBool lays121 b w
open Go.RowKit in
theorem Builder_String_any_k (B b : Nat) (l : List UInt8) (w : World) (h : Lib.IsBuilderF 184 5 B b (Lib.byteCells l) w) (hBw : B ≤ w.heap.size) :
    Calls Tryz.prog 141 #[.pointer (some ⟨b, 0, none⟩)] w fun e w' => e = .returned (.string ⟨l.toArray⟩) ∧ (Lib.IsBuilderF 184 5 B b (Lib.byteCells l) w' ∧ Below B w w' ∧ Lib.OthersKept 5 (some b) w w') := Any.Builder_String_any_k lays169 Builder_Extra_169 B b l w h hBw
open Go.RowKit Go.Sort Go.Lib in
theorem strconv_Itoa (n : Int) (h0 : -9223372036854775808 ≤ n) (h1 : n ≤ 9223372036854775807) (w : World) (htab : Lib.TabIs Tryz.prog w "internal/strconv.uint64pow10" .u64 Lib.pow10Tab) :
    Calls Tryz.prog 17 #[.int .i64 n] w fun e w' => e = .returned (.string ⟨(Lib.itoa n).toArray⟩) ∧ ∃ k os, w' = grow (w.drewN k) os := Any.strconv_Itoa laysM171 n h0 h1 w htab
open Go.RowKit in
theorem strconv_Atoi_ok (s : ByteArray) (hmax : s.size ≤ 9223372036854775806) (v : Int) (h : Lib.atoiAll s.data.toList = .ok v) (w : World) :
    Calls Tryz.prog 149 #[.string s] w fun e w' => e = .returned (.tuple #[.int .i64 v, .nilIface]) ∧ (w' = w ∨ ∃ t, w' = Lib.bytesWorld w 5 t) := Any.strconv_Atoi_ok laysC172 s hmax v h w
open Go.RowKit in
theorem strconv_Atoi_syntax (s : ByteArray) (hlim : s.size ≤ 281474976710656) (h : Lib.atoiAll s.data.toList = .«syntax») (ev : Value) (w : World) (hv : w.cell? ⟨6, 0, none⟩ = some ev) (hev : ev = .nilIface ∨ ∃ te pe, ev = .iface te pe) :
    Calls Tryz.prog 149 #[.string s] w fun e w' => ∃ N, e = .returned (.tuple #[.int .i64 (0), .iface 234 (.pointer (some ⟨N, 0, none⟩))]) ∧ w.heap.size ≤ N ∧ w'.heap[N]? = some (.cells #[.string ⟨#[65, 116, 111, 105]⟩, .string s, ev] 241 (0, 0)) ∧ Below w.heap.size w w' := Any.strconv_Atoi_syntax laysC172 s hlim h ev w hv hev
open Go.RowKit in
theorem strconv_Atoi_range (s : ByteArray) (hlim : s.size ≤ 281474976710656) (h : Lib.atoiAll s.data.toList = .range) (ev : Value) (w : World) (hv : w.cell? ⟨7, 0, none⟩ = some ev) (hev : ev = .nilIface ∨ ∃ te pe, ev = .iface te pe) :
    Calls Tryz.prog 149 #[.string s] w fun e w' => ∃ N, e = .returned (.tuple #[.int .i64 (Lib.atoiSat s.data.toList), .iface 234 (.pointer (some ⟨N, 0, none⟩))]) ∧ w.heap.size ≤ N ∧ w'.heap[N]? = some (.cells #[.string ⟨#[65, 116, 111, 105]⟩, .string s, ev] 241 (0, 0)) ∧ Below w.heap.size w w' := Any.strconv_Atoi_range laysC172 s hlim h ev w hv hev
open Go.RowKit Go.Lib in
theorem strings_TrimPrefix (s p : ByteArray) (w : World) :
    Calls Tryz.prog 148 #[.string s, .string p] w fun e w' => e = .returned (.string ⟨(Lib.trimPrefix s.data.toList p.data.toList).toArray⟩) ∧ w' = w := Any.strings_TrimPrefix lays101 s p w
open Go.RowKit Go.Lib in
theorem strings_TrimSuffix (s p : ByteArray) (w : World) (hs : s.size ≤ 9223372036854775807) :
    Calls Tryz.prog 124 #[.string s, .string p] w fun e w' => e = .returned (.string ⟨(Lib.trimSuffix s.data.toList p.data.toList).toArray⟩) ∧ w' = w := Any.strings_TrimSuffix lays102 s p w hs
open Go.RowKit Go.Lib in
theorem utf8_DecodeRuneInString (s : ByteArray) (w : World) (hT : Lib.Utf8Tabs 1 2 w) :
    Calls Tryz.prog 184 #[.string s] w fun e w' => e = .returned (.tuple #[.int .i32 (Lib.decodeGo s).1, .int .i64 (Lib.decodeGo s).2]) ∧ Below w.heap.size w w' := Any.utf8_DecodeRuneInString lays197 s w hT
end Go.Proofs.YtdhmonlhlfkjbaaGreatDoor

namespace Go.Proofs.YtdhmonlhlfkjbaaGreatDoor
open Go.RowKit

theorem hide1 {p : Prop} (h : p) : Hid p := h

def st (l : List UInt8) : ByteArray := ⟨l.toArray⟩
theorem st_data (l : List UInt8) : (st l).data.toList = l := rfl
def Rd (w : World) (g : Nat) (l : List UInt8) (d : Int) : Prop := w.heap[g]? = some (.cells #[.string (st l), .int .i64 d] 76 (0, 0))
structure Kg (g : Nat) (w w' : World) : Prop where
  os : w'.os = w.os
  tape : w'.tape = w.tape
  output : w'.output = w.output
  size : w.heap.size ≤ w'.heap.size
  block : ∀ k, k < w.heap.size → k ≠ g → w'.heap[k]? = w.heap[k]?
theorem Kg.refl (g : Nat) (w : World) : Kg g w w := ⟨rfl, rfl, rfl, Nat.le_refl _, fun _ _ _ => rfl⟩
theorem Kg.trans {g : Nat} {w w1 w2 : World} (h : Kg g w w1) (k : Kg g w1 w2) : Kg g w w2 :=
  ⟨k.os.trans h.os, k.tape.trans h.tape, k.output.trans h.output, Nat.le_trans h.size k.size, fun q hq hn => (k.block q (Nat.lt_of_lt_of_le hq h.size) hn).trans (h.block q hq hn)⟩
theorem Kg.of {g : Nat} {w w' : World} (h : Below w.heap.size w w') : Kg g w w' := ⟨h.os, h.tape, h.output, h.size, fun k hk _ => h.block k hk⟩
theorem Kg.row {g : Nat} {w : World} (c : Array Value) : Kg g w (w.setRow g c) := ⟨rfl, rfl, rfl, by simp [World.setRow], fun k _ hn => setRow_other w g k c hn⟩
theorem Rd.lt {w : World} {g : Nat} {l : List UInt8} {d : Int} (h : Rd w g l d) : g < w.heap.size := (Array.getElem?_eq_some_iff.1 h).1
theorem Rd.later {w w' : World} {g : Nat} {l : List UInt8} {d : Int} (h : Rd w g l d) (hb : Below w.heap.size w w') : Rd w' g l d := (hb.block g h.lt).trans h
theorem Rd.c0 {w : World} {g : Nat} {l : List UInt8} {d : Int} (h : Rd w g l d) : w.cell? ⟨g, 0, none⟩ = some (.string (st l)) := by simp [World.cell?, show w.heap[g]? = _ from h]
theorem Rd.c1 {w : World} {g : Nat} {l : List UInt8} {d : Int} (h : Rd w g l d) : w.cell? ⟨g, 1, none⟩ = some (.int .i64 d) := by simp [World.cell?, show w.heap[g]? = _ from h]
theorem Rd.fr {w : World} {g k : Nat} {l : List UInt8} {d : Int} (h : Rd w g l d) : w.frozen? ⟨g, k, none⟩ = false := by simp [World.frozen?, show w.heap[g]? = _ from h]
theorem Rd.set {w : World} {g : Nat} {l : List UInt8} {d : Int} (h : Rd w g l d) (m : List UInt8) : Rd (w.setCell ⟨g, 0, none⟩ (.string (st m))) g m d ∧ Kg g w (w.setCell ⟨g, 0, none⟩ (.string (st m))) := by
  have e : w.setCell ⟨g, 0, none⟩ (.string (st m)) = w.setRow g #[.string (st m), .int .i64 d] := by
    rw [setCell_eq_setRow w g 0 _ _ (0, 0) _ h]; rfl
  rw [e]
  exact ⟨setRow_heap w g _ _ _ _ h, Kg.row _⟩
def bk : List UInt8 := [32, 9, 10, 13]
def sk (l : List UInt8) : List UInt8 := l.dropWhile (bk.contains ·)
theorem trim_b (l : List UInt8) (w : World) : Calls Tryz.prog 97 #[.string (st l), .string ⟨#[32, 9, 10, 13]⟩] w fun e w' => e = .returned (.string (st (sk l))) ∧ Below w.heap.size w w' :=
  Go.Proofs.Any.strings_TrimLeft_laid lays161 (by kernel_rfl) (st l) ⟨#[32, 9, 10, 13]⟩ w (by decide) (fun j b h => by
    have hm := List.mem_of_getElem? h
    simp at hm
    rcases hm with rfl | rfl | rfl | rfl <;> decide)
set_option maxHeartbeats 4000000 in
theorem skip_d {w : World} {g : Nat} {l : List UInt8} {d : Int} (h : Rd w g l d) : Calls Tryz.prog 52 #[.pointer (some ⟨g, 0, none⟩)] w fun e w' => e = .returned (.tuple #[]) ∧ Rd w' g (sk l) d ∧ Kg g w w' := by
  have h0 := h.c0
  go_enter Tryz.func52, Tryz.ntmps52
  go_wp2_with fail
  refine (trim_b l w).mono ?_
  rintro e w1 ⟨rfl, hb⟩
  have h1 := h.later hb
  obtain ⟨h2, hk⟩ := h1.set (sk l)
  have hc := h1.c0
  have hf := h1.fr (k := 0)
  replace h2 := hide1 h2
  replace hk := hide1 ((Kg.of hb).trans hk)
  clear h1 hb h h0
  go_wp2
  exact bodyPost_end (results_none rfl _ _ _) rfl ⟨rfl, h2.out, hk.out⟩
def hp (p l : List UInt8) : Bool := p.isPrefixOf l
def tk (p l : List UInt8) : List UInt8 := if p.isPrefixOf l then l.drop p.length else l
theorem cut_p (l p : List UInt8) (w : World) : Calls Tryz.prog 158 #[.string (st l), .string (st p)] w fun e w' => e = .returned (.tuple #[.string (st (tk p l)), .bool (hp p l)]) ∧ w' = w := strings_CutPrefix (st l) (st p) w
set_option maxHeartbeats 4000000 in
theorem take_d {w : World} {g : Nat} {l p : List UInt8} {d : Int} (h : Rd w g l d) : Calls Tryz.prog 150 #[.pointer (some ⟨g, 0, none⟩), .string (st p)] w fun e w' => e = .returned (.bool (hp p l)) ∧ Rd w' g (tk p l) d ∧ Kg g w w' := by
  have h0 := h.c0
  have hf := h.fr (k := 0)
  obtain ⟨h2, hk⟩ := h.set (tk p l)
  replace h2 := hide1 h2
  replace hk := hide1 hk
  have hc := cut_p l p w
  generalize hp p l = b at *
  generalize tk p l = m at *
  clear h
  go_enter Tryz.func150, Tryz.ntmps150
  go_wp2_with fail
  refine hc.mono ?_
  rintro e w1 ⟨rfl, rfl⟩
  go_wp2
  go_ret
  exact ⟨rfl, h2.out, hk.out⟩
set_option maxHeartbeats 4000000 in
theorem sign_d {w : World} {g : Nat} {l p : List UInt8} {d : Int} (h : Rd w g l d) : Calls Tryz.prog 192 #[.pointer (some ⟨g, 0, none⟩), .string (st p)] w fun e w' => e = .returned (.bool (hp p (sk l))) ∧ Rd w' g (tk p (sk l)) d ∧ Kg g w w' := by
  go_enter Tryz.func192, Tryz.ntmps192
  go_wp2_with fail
  refine (skip_d h).mono ?_
  rintro e w1 ⟨rfl, h1, k1⟩
  go_wp2_with fail
  refine (take_d h1).mono ?_
  rintro e w2 ⟨rfl, h2, k2⟩
  replace h2 := hide1 h2
  replace k2 := hide1 (k1.trans k2)
  clear h1 k1 h
  go_wp2
  go_ret
  exact ⟨rfl, h2.out, k2.out⟩
theorem st_emp (l : List UInt8) : ((st l).toList == []) = l.isEmpty := by
  rw [ByteArray.toList_eq]
  show (l == []) = _
  cases l <;> rfl
set_option maxHeartbeats 4000000 in
theorem atEnd_d {w : World} {g : Nat} {l : List UInt8} {d : Int} (h : Rd w g l d) : Calls Tryz.prog 34 #[.pointer (some ⟨g, 0, none⟩)] w fun e w' => e = .returned (.bool (sk l).isEmpty) ∧ Rd w' g (sk l) d ∧ Kg g w w' := by
  have he := st_emp (sk l)
  have hs := skip_d h
  clear h
  generalize sk l = m at *
  go_enter Tryz.func34, Tryz.ntmps34
  go_wp2_with fail
  refine hs.mono ?_
  rintro e w1 ⟨rfl, h1, k1⟩
  have hc := h1.c0
  replace h1 := hide1 h1
  replace k1 := hide1 k1
  go_wp2
  go_ret
  refine ⟨?_, h1.out, k1.out⟩
  first | rfl | (rw [← he]; rfl) | simp [← he]
def fg (n : Nat) : Option Nat := if 48 ≤ n ∧ n ≤ 57 then some (n - 48) else if 97 ≤ n ∧ n ≤ 102 then some (n - 87) else if 65 ≤ n ∧ n ≤ 70 then some (n - 55) else none
set_option maxHeartbeats 4000000 in
theorem figure_d (n : Nat) (hn : n < 256) (w : World) : Calls Tryz.prog 225 #[.int .u8 (n : Nat)] w fun e w' => e = .returned (.tuple #[.int .i32 ((fg n).getD 0 : Nat), .bool (fg n).isSome]) ∧ w' = w := by
  go_enter Tryz.func225, Tryz.ntmps225
  go_wp2
  all_goals go_ret2
  all_goals refine ⟨?_, rfl⟩
  all_goals (unfold fg; repeat' split)
  all_goals first | (exfalso; omega) | rfl | (simp; omega)
abbrev Vt : TypeId := 55
theorem results_vt {fn : Func} {t u : Tmp} (h : fn.results = #[.cell t Vt, .tmp u]) (tmps : Array Value) {w : World} {b : Nat} {c : Array Value} (ht : tmps.getD t undef = .pointer (some ⟨b, 0, none⟩)) (hs : c.size = 5) (hg : w.heap[b]? = some (.cells c Vt (0, 0))) :
    (results fn tmps).run Tryz.prog w = .ok (.tuple #[.agg c, tmps.getD u undef]) w := by
  have hl := run_loadVar_row (P := Tryz.prog) w b Vt Vt c (0, 0) _ hg Tryz.underlying55 (by rfl) (by rw [hs]; kernel_rfl)
  have ht2 : tmps[t]?.getD undef = .pointer (some ⟨b, 0, none⟩) := by simpa using ht
  simp [results, h, ht2, asAddr, hl, Result.andThen]
theorem Kg.alloc {g : Nat} (w : World) (o : Obj) : Kg g w (w.alloc o) := ⟨rfl, rfl, rfl, by simp, fun k hk _ => by
  show (w.heap.push o)[k]? = _
  rw [Array.getElem?_push, if_neg (Nat.ne_of_lt hk)]⟩
theorem Rd.alloc {w : World} {g : Nat} {l : List UInt8} {d : Int} (h : Rd w g l d) (o : Obj) : Rd (w.alloc o) g l d := by
  have e : (w.alloc o).heap[g]? = w.heap[g]? := by
    show (w.heap.push o)[g]? = _
    rw [Array.getElem?_push, if_neg (Nat.ne_of_lt h.lt)]
  exact e.trans h
theorem Rd.own {w : World} {g b : Nat} {l : List UInt8} {d : Int} (h : Rd w g l d) (hn : b ≠ g) (c : Array Value) : Rd (w.setRow b c) g l d := (setRow_other w b g c (Ne.symm hn)).trans h
theorem Kg.own {w w1 : World} {g : Nat} (h : Kg g w w1) {b : Nat} (hb : w.heap.size ≤ b) (c : Array Value) : Kg g w (w1.setRow b c) :=
  ⟨h.os, h.tape, h.output, by simpa [World.setRow] using h.size, fun k hk hn => (setRow_other w1 b k c (by omega)).trans (h.block k hk hn)⟩
def zV : Array Value := #[.int .i64 0, .int .i64 0, .string ⟨#[]⟩, .slice none 0 0, .slice none 0 0]
theorem after_own {w w1 : World} {g : Nat} {l : List UInt8} {d : Int} (h : Rd w g l d) (o : Obj) (k : Kg g (w.alloc o) w1) : w1.heap[w.heap.size]? = some o := by
  have e : (w.alloc o).heap[w.heap.size]? = some o := by
    show (w.heap.push o)[w.heap.size]? = _
    rw [Array.getElem?_push, if_pos rfl]
  have hl := h.lt
  exact (k.block w.heap.size (by simp) (by omega)).trans e
set_option maxHeartbeats 4000000 in
theorem null_d {w : World} {g : Nat} {l : List UInt8} {d : Int} (h : Rd w g l d) : Calls Tryz.prog 99 #[.pointer (some ⟨g, 0, none⟩)] w fun e w' => e = .returned (.tuple #[.agg #[.int .i64 0, .int .i64 0, .string ⟨#[]⟩, .slice none 0 0, .slice none 0 0], .bool (hp [110, 117, 108, 108] l)]) ∧ Rd w' g (tk [110, 117, 108, 108] l) d ∧ Kg g w w' := by
  have hl := h.lt
  go_enter Tryz.func99, Tryz.ntmps99
  go_wp2_with fail
  refine (take_d (p := [110, 117, 108, 108]) (h.alloc _)).mono ?_
  rintro e w1 ⟨rfl, h1, k1⟩
  have hr := after_own h _ k1
  have h2 := hide1 (h1.own (b := w.heap.size) (by omega) #[.int .i64 0, .int .i64 0, .string ⟨#[]⟩, .slice none 0 0, .slice none 0 0])
  have k2 := hide1 (((Kg.alloc w _).trans k1).own (b := w.heap.size) (Nat.le_refl _) #[.int .i64 0, .int .i64 0, .string ⟨#[]⟩, .slice none 0 0, .slice none 0 0])
  have hz := hide1 (setRow_heap w1 w.heap.size _ #[.int .i64 0, .int .i64 0, .string ⟨#[]⟩, .slice none 0 0, .slice none 0 0] _ _ hr)
  replace h := hide1 h
  replace h1 := hide1 h1
  replace k1 := hide1 k1
  go_wp2_with (refine wpList_store_row rfl Vt (.tmp 2) (.tmp 4) rfl w.heap.size #[.int .i64 0, .int .i64 0, .string ⟨#[]⟩, .slice none 0 0, .slice none 0 0] rfl rfl Vt _ hr (by kernel_rfl) rfl (by kernel_rfl) ?_)
  refine bodyPost_ret (results_vt rfl _ rfl rfl hz.out) rfl ?_
  exact ⟨rfl, h2.out, k2.out⟩
set_option maxHeartbeats 4000000 in
theorem yes_d {w : World} {g : Nat} {l : List UInt8} {d : Int} (h : Rd w g l d) : Calls Tryz.prog 100 #[.pointer (some ⟨g, 0, none⟩)] w fun e w' => e = .returned (.tuple #[.agg #[.int .i64 1, .int .i64 1, .string ⟨#[]⟩, .slice none 0 0, .slice none 0 0], .bool (hp [116, 114, 117, 101] l)]) ∧ Rd w' g (tk [116, 114, 117, 101] l) d ∧ Kg g w w' := by
  have hl := h.lt
  go_enter Tryz.func100, Tryz.ntmps100
  go_wp2_with fail
  refine (take_d (p := [116, 114, 117, 101]) (h.alloc _)).mono ?_
  rintro e w1 ⟨rfl, h1, k1⟩
  have hr := after_own h _ k1
  have h2 := hide1 (h1.own (b := w.heap.size) (by omega) #[.int .i64 1, .int .i64 1, .string ⟨#[]⟩, .slice none 0 0, .slice none 0 0])
  have k2 := hide1 (((Kg.alloc w _).trans k1).own (b := w.heap.size) (Nat.le_refl _) #[.int .i64 1, .int .i64 1, .string ⟨#[]⟩, .slice none 0 0, .slice none 0 0])
  have hz := hide1 (setRow_heap w1 w.heap.size _ #[.int .i64 1, .int .i64 1, .string ⟨#[]⟩, .slice none 0 0, .slice none 0 0] _ _ hr)
  replace h := hide1 h
  replace h1 := hide1 h1
  replace k1 := hide1 k1
  go_wp2_with (refine wpList_store_row rfl Vt (.tmp 2) (.tmp 4) rfl w.heap.size #[.int .i64 1, .int .i64 1, .string ⟨#[]⟩, .slice none 0 0, .slice none 0 0] rfl rfl Vt _ hr (by kernel_rfl) rfl (by kernel_rfl) ?_)
  refine bodyPost_ret (results_vt rfl _ rfl rfl hz.out) rfl ?_
  exact ⟨rfl, h2.out, k2.out⟩
set_option maxHeartbeats 4000000 in
theorem no_d {w : World} {g : Nat} {l : List UInt8} {d : Int} (h : Rd w g l d) : Calls Tryz.prog 101 #[.pointer (some ⟨g, 0, none⟩)] w fun e w' => e = .returned (.tuple #[.agg #[.int .i64 1, .int .i64 0, .string ⟨#[]⟩, .slice none 0 0, .slice none 0 0], .bool (hp [102, 97, 108, 115, 101] l)]) ∧ Rd w' g (tk [102, 97, 108, 115, 101] l) d ∧ Kg g w w' := by
  have hl := h.lt
  go_enter Tryz.func101, Tryz.ntmps101
  go_wp2_with fail
  refine (take_d (p := [102, 97, 108, 115, 101]) (h.alloc _)).mono ?_
  rintro e w1 ⟨rfl, h1, k1⟩
  have hr := after_own h _ k1
  have h2 := hide1 (h1.own (b := w.heap.size) (by omega) #[.int .i64 1, .int .i64 0, .string ⟨#[]⟩, .slice none 0 0, .slice none 0 0])
  have k2 := hide1 (((Kg.alloc w _).trans k1).own (b := w.heap.size) (Nat.le_refl _) #[.int .i64 1, .int .i64 0, .string ⟨#[]⟩, .slice none 0 0, .slice none 0 0])
  have hz := hide1 (setRow_heap w1 w.heap.size _ #[.int .i64 1, .int .i64 0, .string ⟨#[]⟩, .slice none 0 0, .slice none 0 0] _ _ hr)
  replace h := hide1 h
  replace h1 := hide1 h1
  replace k1 := hide1 k1
  go_wp2_with (refine wpList_store_row rfl Vt (.tmp 2) (.tmp 4) rfl w.heap.size #[.int .i64 1, .int .i64 0, .string ⟨#[]⟩, .slice none 0 0, .slice none 0 0] rfl rfl Vt _ hr (by kernel_rfl) rfl (by kernel_rfl) ?_)
  refine bodyPost_ret (results_vt rfl _ rfl rfl hz.out) rfl ?_
  exact ⟨rfl, h2.out, k2.out⟩
theorem st_size (l : List UInt8) : (st l).size = l.length := rfl
theorem st_drop (l : List UInt8) (k : Nat) : (st l).extract k l.length = st (l.drop k) := by
  apply ByteArray.ext
  apply Array.toList_inj.1
  simp [st, ByteArray.data_extract]
  exact List.take_of_length_le (by simp)
theorem fg_lt {n k : Nat} (h : fg n = some k) : k < 16 := by
  unfold fg at h
  split at h
  · simp at h; omega
  · split at h
    · simp at h; omega
    · split at h
      · simp at h; omega
      · cases h
def f4 : Nat → Nat → List UInt8 → Option Nat
  | 0, c, _ => some c
  | _ + 1, _, [] => none
  | k + 1, c, b :: l => match fg b.toNat with
    | some n => f4 k (c * 16 + n) l
    | none => none
theorem f4_short : ∀ (k c : Nat) (l : List UInt8), l.length < k → f4 k c l = none
  | 0, _, _, h => absurd h (Nat.not_lt_zero _)
  | _ + 1, _, [], _ => rfl
  | k + 1, c, b :: l, h => by
    unfold f4
    split
    · exact f4_short k _ l (by simpa using h)
    · rfl
theorem f4_step {k c : Nat} {l : List UInt8} (j : Nat) (hj : j < l.length) : f4 (k + 1) c (l.drop j) = match fg (l[j]).toNat with
    | some n => f4 k (c * 16 + n) (l.drop (j + 1))
    | none => none := by
  rw [List.drop_eq_getElem_cons hj]
  rfl
set_option maxHeartbeats 4000000 in
theorem four_d {w : World} {g : Nat} {l : List UInt8} {d : Int} (h : Rd w g l d) : Calls Tryz.prog 224 #[.pointer (some ⟨g, 0, none⟩)] w fun e w' => e = .returned (.tuple #[.int .i32 ((f4 4 0 l).getD 0 : Nat), .bool (f4 4 0 l).isSome]) ∧ (∃ m, Rd w' g m d ∧ ((f4 4 0 l).isSome = true → m = l.drop 4)) ∧ Kg g w w' := by
  have h0 := h.c0
  have hf := h.fr (k := 0)
  obtain ⟨h2, k2⟩ := h.set (l.drop 4)
  replace h2 := hide1 h2
  replace k2 := hide1 k2
  have hs := st_size l
  by_cases hl : l.length < 4
  · have e := f4_short 4 0 l hl
    rw [e]
    have hlt : ((st l).size : Int) < 4 := by rw [hs]; omega
    replace h := hide1 h
    clear e
    go_enter Tryz.func224, Tryz.ntmps224
    go_wp2
    go_ret2
    exact ⟨rfl, ⟨l, h.out, fun e => nomatch e⟩, Kg.refl _ _⟩
  · have hlt : 4 ≤ ((st l).size : Int) := by rw [hs]; omega
    replace h := hide1 h
    go_enter Tryz.func224, Tryz.ntmps224
    go_wp2_with fail
    go_loopw [4, 14] (fun v i wr => ∃ k c : Nat, v = .int .i32 (c : Nat) ∧ i = .int .i64 (k : Nat) ∧ k ≤ 4 ∧ c < 16 ^ k ∧ f4 (4 - k) c (l.drop k) = f4 4 0 l ∧ wr = w) (fun _ i _ => 4 - (intOf i).toNat)
    case atStart => exact ⟨0, 0, rfl, rfl, by omega, by omega, rfl, rfl⟩
    case round =>
      obtain ⟨k, c, rfl, rfl, hk, hc, he, rfl⟩ := hrel
      by_cases hk4 : k < 4
      · have hkl : k < l.length := by omega
        have hc4 : c < 65536 := by
          have : 16 ^ k ≤ 16 ^ 3 := Nat.pow_le_pow_right (by omega) (by omega)
          omega
        have hfd := figure_d l[k].toNat (UInt8.toNat_lt _) wr
        have hst : f4 (4 - k) c (l.drop k) = match fg (l[k]).toNat with
            | some n => f4 (4 - (k + 1)) (c * 16 + n) (l.drop (k + 1))
            | none => none := by
          rw [show 4 - k = 4 - (k + 1) + 1 by omega]
          exact f4_step k hkl
        rw [he] at hst
        go_wp2_with fail
        refine (show Calls Tryz.prog 225 #[.int .u8 ((st l)[k].toNat : Nat)] wr _ from hfd).mono ?_
        rintro e w1 ⟨rfl, rfl⟩
        cases hq : fg (l[k]).toNat with
        | none =>
          rw [hq] at hst
          replace hst := hide1 hst
          clear hfd hq he
          go_wp2
          go_ret2
          rw [hst.out]
          exact ⟨rfl, ⟨l, h.out, fun e => nomatch e⟩, Kg.refl _ _⟩
        | some n =>
          have hn := fg_lt hq
          rw [hq] at hst
          replace hst := hide1 hst
          clear hfd hq he
          go_wp2
          go_roundw
          case rel => exact ⟨k + 1, c * 16 + n, rfl, rfl, by omega, by rw [Nat.pow_succ]; omega, hst.out.symm, trivial⟩
          case measure => simp [intOf]; omega
      · have hk' : k = 4 := by omega
        subst hk'
        have he' : f4 4 0 l = some c := he.symm
        replace he' := hide1 he'
        rw [← st_drop] at h2 k2
        clear he hc
        go_wp2
        go_ret2
        rw [he'.out]
        rw [st_drop] at *
        exact ⟨rfl, ⟨l.drop 4, h2.out, fun _ => rfl⟩, k2.out⟩
def AnR (g : Nat) (d : Int) (w : World) (o : Option (Nat × List UInt8)) (e : Ending) (w' : World) : Prop :=
  ∃ (x : Nat) (m : List UInt8), e = .returned (.tuple #[.int .i32 (x : Nat), .bool o.isSome]) ∧ Rd w' g m d ∧ Kg g w w' ∧ ∀ c r, o = some (c, r) → x = c ∧ m = r
theorem AnR.none {g : Nat} {d : Int} {w w' : World} {m : List UInt8} (x : Nat) (h : Rd w' g m d) (k : Kg g w w') : AnR g d w none (.returned (.tuple #[.int .i32 (x : Nat), .bool false])) w' := ⟨x, m, rfl, h, k, fun _ _ e => nomatch e⟩
theorem AnR.some {g : Nat} {d : Int} {w w' : World} {m : List UInt8} {x : Nat} (h : Rd w' g m d) (k : Kg g w w') : AnR g d w (some (x, m)) (.returned (.tuple #[.int .i32 (x : Nat), .bool true])) w' := ⟨x, m, rfl, h, k, fun _ _ e => by cases e; exact ⟨rfl, rfl⟩⟩
def cdd (l : List UInt8) : Option (Nat × List UInt8) := match f4 4 0 l with
  | none => none
  | some c => if c < 55296 ∨ 57343 < c then some (c, l.drop 4) else if 56319 < c then none else
    if hp [92, 117] (l.drop 4) then match f4 4 0 (tk [92, 117] (l.drop 4)) with
      | none => none
      | some x => if x < 56320 ∨ 57343 < x then none else some (65536 + (c - 55296) * 1024 + (x - 56320), (tk [92, 117] (l.drop 4)).drop 4)
    else none
set_option maxHeartbeats 8000000 in
theorem coded_n {w : World} {g : Nat} {l : List UInt8} {d : Int} (h : Rd w g l d) (hq : f4 4 0 l = none) : Calls Tryz.prog 220 #[.pointer (some ⟨g, 0, none⟩)] w (AnR g d w none) := by
  have h4 := four_d h
  rw [hq] at h4
  go_enter Tryz.func220, Tryz.ntmps220
  go_wp2_with fail
  refine h4.mono ?_
  rintro e w1 ⟨rfl, ⟨m, h1, -⟩, k1⟩
  have ha := hide1 (AnR.none 0 h1 k1)
  clear h h4 h1 k1
  go_wp2
  go_ret2
  exact ha.out
set_option maxHeartbeats 8000000 in
theorem coded_p {w : World} {g : Nat} {l : List UInt8} {d : Int} (h : Rd w g l d) {c : Nat} (hq : f4 4 0 l = some c) (hc1 : (c : Int) < 55296) : Calls Tryz.prog 220 #[.pointer (some ⟨g, 0, none⟩)] w (AnR g d w (some (c, l.drop 4))) := by
  have h4 := four_d h
  rw [hq] at h4
  go_enter Tryz.func220, Tryz.ntmps220
  go_wp2_with fail
  refine h4.mono ?_
  rintro e w1 ⟨rfl, ⟨m, h2, hm⟩, k1⟩
  cases hm rfl
  have ha := hide1 (AnR.some (x := c) h2 k1)
  clear h h4 h2 k1
  go_wp2
  go_ret2
  exact ha.out
set_option maxHeartbeats 8000000 in
theorem coded_q {w : World} {g : Nat} {l : List UInt8} {d : Int} (h : Rd w g l d) {c : Nat} (hq : f4 4 0 l = some c) (hc1 : 55296 ≤ (c : Int)) (hc2 : 57343 < (c : Int)) : Calls Tryz.prog 220 #[.pointer (some ⟨g, 0, none⟩)] w (AnR g d w (some (c, l.drop 4))) := by
  have h4 := four_d h
  rw [hq] at h4
  go_enter Tryz.func220, Tryz.ntmps220
  go_wp2_with fail
  refine h4.mono ?_
  rintro e w1 ⟨rfl, ⟨m, h2, hm⟩, k1⟩
  cases hm rfl
  have ha := hide1 (AnR.some (x := c) h2 k1)
  clear h h4 h2 k1
  have hd1 : decide ((c : Int) < 55296) = false := decide_eq_false (Int.not_lt.2 hc1)
  go_wp2
  go_ret2
  exact ha.out
set_option maxHeartbeats 8000000 in
theorem coded_l {w : World} {g : Nat} {l : List UInt8} {d : Int} (h : Rd w g l d) {c : Nat} (hq : f4 4 0 l = some c) (hc1 : 55296 ≤ (c : Int)) (hc2 : (c : Int) ≤ 57343) (hc3 : 56319 < (c : Int)) : Calls Tryz.prog 220 #[.pointer (some ⟨g, 0, none⟩)] w (AnR g d w none) := by
  have h4 := four_d h
  rw [hq] at h4
  go_enter Tryz.func220, Tryz.ntmps220
  go_wp2_with fail
  refine h4.mono ?_
  rintro e w1 ⟨rfl, ⟨m, h2, hm⟩, k1⟩
  have ha := hide1 (AnR.none 0 h2 k1)
  clear h h4 h2 k1
  have hd1 : decide ((c : Int) < 55296) = false := decide_eq_false (Int.not_lt.2 hc1)
  have hd2 : decide (57343 < (c : Int)) = false := decide_eq_false (Int.not_lt.2 hc2)
  go_wp2
  go_ret2
  exact ha.out
set_option maxHeartbeats 8000000 in
theorem coded_t {w : World} {g : Nat} {l : List UInt8} {d : Int} (h : Rd w g l d) {c : Nat} (hq : f4 4 0 l = some c) (hc1 : 55296 ≤ (c : Int)) (hc3 : (c : Int) ≤ 56319) (ht : hp [92, 117] (l.drop 4) = false) : Calls Tryz.prog 220 #[.pointer (some ⟨g, 0, none⟩)] w (AnR g d w none) := by
  have h4 := four_d h
  rw [hq] at h4
  have hd1 : decide ((c : Int) < 55296) = false := decide_eq_false (Int.not_lt.2 hc1)
  have hd2 : decide (57343 < (c : Int)) = false := decide_eq_false (by omega)
  have hd3 : decide (56319 < (c : Int)) = false := decide_eq_false (Int.not_lt.2 hc3)
  have hb2 : (c : Int) ≤ 57343 := by omega
  go_enter Tryz.func220, Tryz.ntmps220
  go_wp2_with fail
  refine h4.mono ?_
  rintro e w1 ⟨rfl, ⟨m, h1, hm⟩, k1⟩
  cases hm rfl
  go_wp2_with fail
  refine (show Calls Tryz.prog 150 #[.pointer (some ⟨g, 0, none⟩), .string (st [92, 117])] w1 _ from take_d h1).mono ?_
  rintro e w2 ⟨rfl, h2, k2⟩
  rw [ht]
  replace k2 := k1.trans k2
  have ha := hide1 (AnR.none 0 h2 k2)
  clear h h4 h1 h2 k1 k2
  go_wp2
  go_ret2
  exact ha.out
set_option maxHeartbeats 8000000 in
theorem coded_u {w : World} {g : Nat} {l : List UInt8} {d : Int} (h : Rd w g l d) {c : Nat} (hq : f4 4 0 l = some c) (hc1 : 55296 ≤ (c : Int)) (hc3 : (c : Int) ≤ 56319) (ht : hp [92, 117] (l.drop 4) = true) (hx : f4 4 0 (tk [92, 117] (l.drop 4)) = none) : Calls Tryz.prog 220 #[.pointer (some ⟨g, 0, none⟩)] w (AnR g d w none) := by
  have h4 := four_d h
  rw [hq] at h4
  have hd1 : decide ((c : Int) < 55296) = false := decide_eq_false (Int.not_lt.2 hc1)
  have hd2 : decide (57343 < (c : Int)) = false := decide_eq_false (by omega)
  have hd3 : decide (56319 < (c : Int)) = false := decide_eq_false (Int.not_lt.2 hc3)
  have hb2 : (c : Int) ≤ 57343 := by omega
  go_enter Tryz.func220, Tryz.ntmps220
  go_wp2_with fail
  refine h4.mono ?_
  rintro e w1 ⟨rfl, ⟨m, h1, hm⟩, k1⟩
  cases hm rfl
  go_wp2_with fail
  refine (show Calls Tryz.prog 150 #[.pointer (some ⟨g, 0, none⟩), .string (st [92, 117])] w1 _ from take_d h1).mono ?_
  rintro e w2 ⟨rfl, h2, k2⟩
  rw [ht]
  replace k2 := k1.trans k2
  have h5 := four_d h2
  rw [hx] at h5
  clear h h4 h1 k1 h2
  replace k2 := hide1 k2
  go_wp2_with fail
  refine h5.mono ?_
  rintro e w3 ⟨rfl, ⟨m3, h3, hm3⟩, k3⟩
  replace k3 := k2.out.trans k3
  have ha := hide1 (AnR.none 0 h3 k3)
  clear h5 h3 k3 k2
  go_wp2
  go_ret2
  exact ha.out
set_option maxHeartbeats 8000000 in
theorem coded_v {w : World} {g : Nat} {l : List UInt8} {d : Int} (h : Rd w g l d) {c : Nat} (hq : f4 4 0 l = some c) (hc1 : 55296 ≤ (c : Int)) (hc3 : (c : Int) ≤ 56319) (ht : hp [92, 117] (l.drop 4) = true) {x : Nat} (hx : f4 4 0 (tk [92, 117] (l.drop 4)) = some x) (hx1 : (x : Int) < 56320) : Calls Tryz.prog 220 #[.pointer (some ⟨g, 0, none⟩)] w (AnR g d w none) := by
  have h4 := four_d h
  rw [hq] at h4
  have hd1 : decide ((c : Int) < 55296) = false := decide_eq_false (Int.not_lt.2 hc1)
  have hd2 : decide (57343 < (c : Int)) = false := decide_eq_false (by omega)
  have hd3 : decide (56319 < (c : Int)) = false := decide_eq_false (Int.not_lt.2 hc3)
  have hb2 : (c : Int) ≤ 57343 := by omega
  go_enter Tryz.func220, Tryz.ntmps220
  go_wp2_with fail
  refine h4.mono ?_
  rintro e w1 ⟨rfl, ⟨m, h1, hm⟩, k1⟩
  cases hm rfl
  go_wp2_with fail
  refine (show Calls Tryz.prog 150 #[.pointer (some ⟨g, 0, none⟩), .string (st [92, 117])] w1 _ from take_d h1).mono ?_
  rintro e w2 ⟨rfl, h2, k2⟩
  rw [ht]
  replace k2 := k1.trans k2
  have h5 := four_d h2
  rw [hx] at h5
  clear h h4 h1 k1 h2
  replace k2 := hide1 k2
  go_wp2_with fail
  refine h5.mono ?_
  rintro e w3 ⟨rfl, ⟨m3, h3, hm3⟩, k3⟩
  replace k3 := k2.out.trans k3
  have ha := hide1 (AnR.none 0 h3 k3)
  clear h5 h3 k3 k2
  go_wp2
  go_ret2
  exact ha.out
set_option maxHeartbeats 8000000 in
theorem coded_w {w : World} {g : Nat} {l : List UInt8} {d : Int} (h : Rd w g l d) {c : Nat} (hq : f4 4 0 l = some c) (hc1 : 55296 ≤ (c : Int)) (hc3 : (c : Int) ≤ 56319) (ht : hp [92, 117] (l.drop 4) = true) {x : Nat} (hx : f4 4 0 (tk [92, 117] (l.drop 4)) = some x) (hx1 : 56320 ≤ (x : Int)) (hx2 : 57343 < (x : Int)) : Calls Tryz.prog 220 #[.pointer (some ⟨g, 0, none⟩)] w (AnR g d w none) := by
  have he1 : decide ((x : Int) < 56320) = false := decide_eq_false (Int.not_lt.2 hx1)
  have h4 := four_d h
  rw [hq] at h4
  have hd1 : decide ((c : Int) < 55296) = false := decide_eq_false (Int.not_lt.2 hc1)
  have hd2 : decide (57343 < (c : Int)) = false := decide_eq_false (by omega)
  have hd3 : decide (56319 < (c : Int)) = false := decide_eq_false (Int.not_lt.2 hc3)
  have hb2 : (c : Int) ≤ 57343 := by omega
  go_enter Tryz.func220, Tryz.ntmps220
  go_wp2_with fail
  refine h4.mono ?_
  rintro e w1 ⟨rfl, ⟨m, h1, hm⟩, k1⟩
  cases hm rfl
  go_wp2_with fail
  refine (show Calls Tryz.prog 150 #[.pointer (some ⟨g, 0, none⟩), .string (st [92, 117])] w1 _ from take_d h1).mono ?_
  rintro e w2 ⟨rfl, h2, k2⟩
  rw [ht]
  replace k2 := k1.trans k2
  have h5 := four_d h2
  rw [hx] at h5
  clear h h4 h1 k1 h2
  replace k2 := hide1 k2
  go_wp2_with fail
  refine h5.mono ?_
  rintro e w3 ⟨rfl, ⟨m3, h3, hm3⟩, k3⟩
  replace k3 := k2.out.trans k3
  have ha := hide1 (AnR.none 0 h3 k3)
  clear h5 h3 k3 k2
  go_wp2
  go_ret2
  exact ha.out
set_option maxHeartbeats 8000000 in
theorem coded_x {w : World} {g : Nat} {l : List UInt8} {d : Int} (h : Rd w g l d) {c : Nat} (hq : f4 4 0 l = some c) (hc1 : 55296 ≤ (c : Int)) (hc3 : (c : Int) ≤ 56319) (ht : hp [92, 117] (l.drop 4) = true) {x : Nat} (hx : f4 4 0 (tk [92, 117] (l.drop 4)) = some x) (hx1 : 56320 ≤ (x : Int)) (hx2 : (x : Int) ≤ 57343) : Calls Tryz.prog 220 #[.pointer (some ⟨g, 0, none⟩)] w (AnR g d w (some (65536 + (c - 55296) * 1024 + (x - 56320), (tk [92, 117] (l.drop 4)).drop 4))) := by
  have he1 : decide ((x : Int) < 56320) = false := decide_eq_false (Int.not_lt.2 hx1)
  have he2 : decide (57343 < (x : Int)) = false := decide_eq_false (Int.not_lt.2 hx2)
  have h4 := four_d h
  rw [hq] at h4
  have hd1 : decide ((c : Int) < 55296) = false := decide_eq_false (Int.not_lt.2 hc1)
  have hd2 : decide (57343 < (c : Int)) = false := decide_eq_false (by omega)
  have hd3 : decide (56319 < (c : Int)) = false := decide_eq_false (Int.not_lt.2 hc3)
  have hb2 : (c : Int) ≤ 57343 := by omega
  go_enter Tryz.func220, Tryz.ntmps220
  go_wp2_with fail
  refine h4.mono ?_
  rintro e w1 ⟨rfl, ⟨m, h1, hm⟩, k1⟩
  cases hm rfl
  go_wp2_with fail
  refine (show Calls Tryz.prog 150 #[.pointer (some ⟨g, 0, none⟩), .string (st [92, 117])] w1 _ from take_d h1).mono ?_
  rintro e w2 ⟨rfl, h2, k2⟩
  rw [ht]
  replace k2 := k1.trans k2
  have h5 := four_d h2
  rw [hx] at h5
  clear h h4 h1 k1 h2
  replace k2 := hide1 k2
  go_wp2_with fail
  refine h5.mono ?_
  rintro e w3 ⟨rfl, ⟨m3, h3, hm3⟩, k3⟩
  replace k3 := k2.out.trans k3
  cases hm3 rfl
  have ha := hide1 (AnR.some (x := 65536 + (c - 55296) * 1024 + (x - 56320)) h3 k3)
  have hv : ((65536 + (c - 55296) * 1024 + (x - 56320) : Nat) : Int) = 65536 + ((c : Int) - 55296) * 1024 + ((x : Int) - 56320) := by omega
  rw [hv] at ha
  clear h5 h3 k3 k2 hv
  go_wp2
  go_ret2
  exact ha.out
theorem coded_d {w : World} {g : Nat} {l : List UInt8} {d : Int} (h : Rd w g l d) : Calls Tryz.prog 220 #[.pointer (some ⟨g, 0, none⟩)] w (AnR g d w (cdd l)) := by
  unfold cdd
  cases hq : f4 4 0 l with
  | none => exact coded_n h hq
  | some c =>
    dsimp only
    by_cases h1 : c < 55296
    · rw [if_pos (.inl h1)]
      exact coded_p h hq (by omega)
    · by_cases h2 : 57343 < c
      · rw [if_pos (.inr h2)]
        exact coded_q h hq (by omega) (by omega)
      · rw [if_neg (by omega)]
        by_cases h3 : 56319 < c
        · rw [if_pos h3]
          exact coded_l h hq (by omega) (by omega) (by omega)
        · rw [if_neg h3]
          cases ht : hp [92, 117] (l.drop 4) with
          | false => exact coded_t h hq (by omega) (by omega) ht
          | true =>
            rw [if_pos rfl]
            cases hx : f4 4 0 (tk [92, 117] (l.drop 4)) with
            | none => exact coded_u h hq (by omega) (by omega) ht hx
            | some x =>
              dsimp only
              by_cases h4 : x < 56320
              · rw [if_pos (.inl h4)]
                exact coded_v h hq (by omega) (by omega) ht hx (by omega)
              · by_cases h5 : 57343 < x
                · rw [if_pos (.inr h5)]
                  exact coded_w h hq (by omega) (by omega) ht hx (by omega) (by omega)
                · rw [if_neg (by omega)]
                  exact coded_x h hq (by omega) (by omega) ht hx (by omega) (by omega)
def escN (n : Nat) (r : List UInt8) : Option (Nat × List UInt8) :=
  if n = 34 ∨ n = 92 ∨ n = 47 then some (n, r) else if n = 98 then some (8, r) else if n = 102 then some (12, r) else if n = 110 then some (10, r)
  else if n = 114 then some (13, r) else if n = 116 then some (9, r) else if n = 117 then cdd r else none
def esc : List UInt8 → Option (Nat × List UInt8)
  | [] => none
  | b :: r => escN b.toNat r
set_option maxHeartbeats 8000000 in
theorem escaped_0 {w : World} {g : Nat} {d : Int} (h : Rd w g [] d) : Calls Tryz.prog 209 #[.pointer (some ⟨g, 0, none⟩)] w (AnR g d w none) := by
  have h0 : w.cell? ⟨g, 0, none⟩ = some (.string ⟨#[]⟩) := h.c0
  have ha := hide1 (AnR.none 0 h (Kg.refl g w))
  clear h
  go_enter Tryz.func209, Tryz.ntmps209
  go_wp2
  go_ret2
  exact ha.out
theorem esc_fin {w : World} {g : Nat} {b : UInt8} {r : List UInt8} {d : Int} {o : Option (Nat × List UInt8)} {x : Nat} {v : Int} (h : Rd w g (b :: r) d) (ho : o = some (x, r)) (hv : v = (x : Nat)) :
    AnR g d w o (.returned (.tuple #[.int .i32 v, .bool true])) (w.setCell ⟨g, 0, none⟩ (.string ((st (b :: r)).extract 1 (st (b :: r)).size))) := by
  subst ho hv
  obtain ⟨h2, k2⟩ := h.set r
  rw [show (st (b :: r)).extract 1 (st (b :: r)).size = st r from st_drop (b :: r) 1]
  exact AnR.some h2 k2
theorem esc_non {w : World} {g : Nat} {b : UInt8} {r : List UInt8} {d : Int} {o : Option (Nat × List UInt8)} (h : Rd w g (b :: r) d) (ho : o = none) :
    AnR g d w o (.returned (.tuple #[.int .i32 0, .bool false])) (w.setCell ⟨g, 0, none⟩ (.string ((st (b :: r)).extract 1 (st (b :: r)).size))) := by
  subst ho
  obtain ⟨h2, k2⟩ := h.set r
  rw [show (st (b :: r)).extract 1 (st (b :: r)).size = st r from st_drop (b :: r) 1]
  exact AnR.none 0 h2 k2
set_option maxHeartbeats 8000000 in
theorem escaped_1 {w : World} {g : Nat} {b : UInt8} {r : List UInt8} {d : Int} (h : Rd w g (b :: r) d) : Calls Tryz.prog 209 #[.pointer (some ⟨g, 0, none⟩)] w (AnR g d w (escN b.toNat r)) := by
  have h0 := h.c0
  have hf := h.fr (k := 0)
  have hb : ((st (b :: r))[0]'(by rw [st_size]; exact Nat.succ_pos _)).toNat = b.toNat := rfl
  have hl := UInt8.toNat_lt b
  have hsz : 0 < (st (b :: r)).size := Nat.succ_pos _
  have hne : (st (b :: r)).toList.isEmpty = false := by rw [ByteArray.toList_eq]; rfl
  replace h := hide1 h
  go_enter Tryz.func209, Tryz.ntmps209
  go_wp2_with fail
  all_goals try simp only [beq_iff_eq, beq_eq_false_iff_ne, ne_eq] at *
  all_goals try (go_ret2; first | exact esc_fin (x := b.toNat) h.out (by unfold escN; (repeat' split) <;> first | rfl | (exfalso; omega)) rfl | exact esc_non h.out (by unfold escN; (repeat' split) <;> first | rfl | (exfalso; omega)) | exact esc_fin (x := 8) h.out (by unfold escN; (repeat' split) <;> first | rfl | (exfalso; omega)) rfl | exact esc_fin (x := 12) h.out (by unfold escN; (repeat' split) <;> first | rfl | (exfalso; omega)) rfl | exact esc_fin (x := 10) h.out (by unfold escN; (repeat' split) <;> first | rfl | (exfalso; omega)) rfl | exact esc_fin (x := 13) h.out (by unfold escN; (repeat' split) <;> first | rfl | (exfalso; omega)) rfl | exact esc_fin (x := 9) h.out (by unfold escN; (repeat' split) <;> first | rfl | (exfalso; omega)) rfl)
  obtain ⟨h2, k2⟩ := h.out.set r
  have ex : (st (b :: r)).extract 1 (st (b :: r)).size = st r := st_drop (b :: r) 1
  rw [ex]
  refine (coded_d h2).mono ?_
  rintro e w1 ⟨x, m, rfl, h3, k3, hxm⟩
  have he : escN b.toNat r = cdd r := by unfold escN; (repeat' split) <;> first | rfl | (exfalso; omega)
  have ha : Hid (AnR g d w (escN b.toNat r) (.returned (.tuple #[.int .i32 (x : Nat), .bool (cdd r).isSome])) w1) := hide1 (by rw [he]; exact ⟨x, m, rfl, h3, k2.trans k3, hxm⟩)
  clear h2 k2 h3 k3 he hxm
  go_wp2
  go_ret2
  exact ha.out
theorem escaped_d {w : World} {g : Nat} {l : List UInt8} {d : Int} (h : Rd w g l d) : Calls Tryz.prog 209 #[.pointer (some ⟨g, 0, none⟩)] w (AnR g d w (esc l)) := by
  cases l with
  | nil => exact escaped_0 h
  | cons b r => exact escaped_1 h
abbrev Tb (w : World) : Prop := Lib.Utf8Tabs 1 2 w
theorem Tb.kg {g : Nat} {w w' : World} (h : Tb w) (k : Kg g w w') (hg : 7 < g) : Tb w' := by
  have lt : ∀ {q o : Nat} {v : Value}, q ≠ g → w.cell? ⟨q, o, none⟩ = some v → w'.cell? ⟨q, o, none⟩ = some v := fun {q o v} hq hc => by
    have hl : q < w.heap.size := by
      rcases Nat.lt_or_ge q w.heap.size with h' | h'
      · exact h'
      · simp [World.cell?, Array.getElem?_eq_none h'] at hc
    simp only [World.cell?, k.block q hl hq] at hc ⊢
    exact hc
  exact ⟨fun c hc => lt (by omega) (h.1 c hc), fun i hi => ⟨lt (by omega) (h.2 i hi).1, lt (by omega) (h.2 i hi).2⟩⟩
theorem dec_le (s : ByteArray) : (Lib.decodeGo s).1 ≤ 1114111 := by
  unfold Lib.decodeGo
  split
  · simp
  · exact Lib.rune_le s 0
def pln (l : List UInt8) : Option (Nat × List UInt8) := if (Lib.decodeGo (st l)).1 < 32 ∨ (Lib.decodeGo (st l)).1 = 65533 ∧ (Lib.decodeGo (st l)).2 < 2 then none else some ((Lib.decodeGo (st l)).1, l.drop (Lib.decodeGo (st l)).2)
def ltr (l : List UInt8) : Option (Nat × List UInt8) := if hp [92] l then esc (tk [92] l) else pln l
theorem tk_no {p l : List UInt8} (h : hp p l = false) : tk p l = l := by
  unfold tk; unfold hp at h; rw [if_neg (by simp [h])]
set_option maxHeartbeats 8000000 in
theorem letter_e {w : World} {g : Nat} {l : List UInt8} {d : Int} (h : Rd w g l d) (ht : hp [92] l = true) : Calls Tryz.prog 189 #[.pointer (some ⟨g, 0, none⟩)] w (AnR g d w (esc (tk [92] l))) := by
  go_enter Tryz.func189, Tryz.ntmps189
  go_wp2_with fail
  refine (show Calls Tryz.prog 150 #[.pointer (some ⟨g, 0, none⟩), .string (st [92])] w _ from take_d h).mono ?_
  rintro e w1 ⟨rfl, h1, k1⟩
  rw [ht]
  go_wp2_with fail
  refine (escaped_d h1).mono ?_
  rintro e w2 ⟨x, m, rfl, h3, k3, hxm⟩
  have ha : Hid (AnR g d w (esc (tk [92] l)) (.returned (.tuple #[.int .i32 (x : Nat), .bool (esc (tk [92] l)).isSome])) w2) := hide1 ⟨x, m, rfl, h3, k1.trans k3, hxm⟩
  clear h h1 k1 h3 k3 hxm
  go_wp2
  go_ret2
  exact ha.out
set_option maxHeartbeats 8000000 in
theorem letter_p {w : World} {g : Nat} {l : List UInt8} {d : Int} (h : Rd w g l d) (hT : Tb w) (hg : 7 < g) (ht : hp [92] l = false) : Calls Tryz.prog 189 #[.pointer (some ⟨g, 0, none⟩)] w (AnR g d w (pln l)) := by
  go_enter Tryz.func189, Tryz.ntmps189
  go_wp2_with fail
  refine (show Calls Tryz.prog 150 #[.pointer (some ⟨g, 0, none⟩), .string (st [92])] w _ from take_d h).mono ?_
  rintro e w1 ⟨rfl, h1, k1⟩
  rw [ht]
  rw [tk_no ht] at h1
  have hT1 := hT.kg k1 hg
  have hc1 := h1.c0
  go_wp2_with fail
  refine (utf8_DecodeRuneInString (st l) w1 hT1).mono ?_
  rintro e w2 ⟨rfl, b2⟩
  have h2 := h1.later b2
  have k2 := k1.trans (Kg.of b2)
  have hc := dec_le (st l)
  have hn : (Lib.decodeGo (st l)).2 ≤ l.length := Lib.decodeGo_le_size (st l)
  have hn4 := Lib.decodeGo_le4 (st l)
  have hpl : pln l = if (Lib.decodeGo (st l)).1 < 32 ∨ (Lib.decodeGo (st l)).1 = 65533 ∧ (Lib.decodeGo (st l)).2 < 2 then none else some ((Lib.decodeGo (st l)).1, l.drop (Lib.decodeGo (st l)).2) := rfl
  generalize (Lib.decodeGo (st l)).1 = c at *
  generalize (Lib.decodeGo (st l)).2 = n at *
  have c2 := h2.c0
  have f2 := h2.fr (k := 0)
  have hsz := st_size l
  clear hT hT1 hc1 h1 h k1 b2
  by_cases q1 : (c : Int) < 32
  · rw [if_pos (.inl (by omega))] at hpl
    replace hpl := hide1 hpl
    have ha := hide1 (AnR.none 0 h2 k2)
    clear h2 k2
    go_wp2
    go_ret2
    rw [hpl.out]
    exact ha.out
  · have hd1 : decide ((c : Int) < 32) = false := decide_eq_false q1
    have q1' : 32 ≤ (c : Int) := by omega
    by_cases q2 : (c : Int) = 65533 ∧ (n : Int) < 2
    · rw [if_pos (.inr (by omega))] at hpl
      replace hpl := hide1 hpl
      have ha := hide1 (AnR.none 0 h2 k2)
      obtain ⟨q3, q4⟩ := q2
      have hd2 : ((c : Int) == 65533) = true := by simp [q3]
      clear h2 k2 q3
      go_wp2
      go_ret2
      rw [hpl.out]
      exact ha.out
    · rw [if_neg (by omega)] at hpl
      replace hpl := hide1 hpl
      have hnl : (n : Int) ≤ (l.length : Int) := by omega
      have ha : Hid (AnR g d w (some (c, l.drop n)) (.returned (.tuple #[.int .i32 (c : Nat), .bool true])) (w2.setCell ⟨g, 0, none⟩ (.string ((st l).extract n l.length)))) := hide1 (by
        obtain ⟨h3, k3⟩ := h2.set (l.drop n)
        rw [st_drop]
        exact AnR.some h3 (k2.trans k3))
      clear h2 k2
      by_cases q3 : (c : Int) = 65533
      · have q4 : 2 ≤ (n : Int) := by omega
        have hd2 : ((c : Int) == 65533) = true := by simp [q3]
        have hd3 : decide ((n : Int) < 2) = false := decide_eq_false (by omega)
        clear q3
        go_wp2
        go_ret2
        rw [hpl.out]
        exact ha.out
      · have hd2 : ((c : Int) == 65533) = false := by simp [q3]
        clear q3
        go_wp2
        go_ret2
        rw [hpl.out]
        exact ha.out
theorem letter_d {w : World} {g : Nat} {l : List UInt8} {d : Int} (h : Rd w g l d) (hT : Tb w) (hg : 7 < g) : Calls Tryz.prog 189 #[.pointer (some ⟨g, 0, none⟩)] w (AnR g d w (ltr l)) := by
  unfold ltr
  cases ht : hp [92] l with
  | true => exact letter_e h ht
  | false => exact letter_p h hT hg ht
def hwN (n : Nat) : Nat := if n = 110 then 99 else if n = 116 then 100 else if n = 102 then 101 else if n = 34 then 102
    else if n = 91 then 103 else if n = 123 then 104 else 98
def hw : List UInt8 → Nat
  | [] => 98
  | b :: _ => hwN b.toNat
theorem hw_fin {g : Nat} {w : World} {l : List UInt8} {k : Nat} (h : hw l = k) : Ending.returned (.func (.func k) #[.pointer (some ⟨g, 0, none⟩)] #[]) = Ending.returned (.func (.func (hw l)) #[.pointer (some ⟨g, 0, none⟩)] #[]) ∧ w = w := ⟨by rw [h], rfl⟩
set_option maxHeartbeats 8000000 in
theorem how_0 {w : World} {g : Nat} {d : Int} (h : Rd w g [] d) : Calls Tryz.prog 53 #[.pointer (some ⟨g, 0, none⟩)] w fun e w' => e = .returned (.func (.func (hw [])) #[.pointer (some ⟨g, 0, none⟩)] #[]) ∧ w' = w := by
  have h0 : w.cell? ⟨g, 0, none⟩ = some (.string ⟨#[]⟩) := h.c0
  clear h
  go_enter Tryz.func53, Tryz.ntmps53
  go_wp2
  go_ret
  exact hw_fin rfl
set_option maxHeartbeats 8000000 in
theorem how_1 {w : World} {g : Nat} {b : UInt8} {r : List UInt8} {d : Int} (h : Rd w g (b :: r) d) : Calls Tryz.prog 53 #[.pointer (some ⟨g, 0, none⟩)] w fun e w' => e = .returned (.func (.func (hw (b :: r))) #[.pointer (some ⟨g, 0, none⟩)] #[]) ∧ w' = w := by
  have h0 := h.c0
  have hf := h.fr (k := 0)
  have hb : ((st (b :: r))[0]'(by rw [st_size]; exact Nat.succ_pos _)).toNat = b.toNat := rfl
  have hsz : 0 < (st (b :: r)).size := Nat.succ_pos _
  have hne : (st (b :: r)).toList.isEmpty = false := by rw [ByteArray.toList_eq]; rfl
  replace h := hide1 h
  go_enter Tryz.func53, Tryz.ntmps53
  go_wp2_with fail
  all_goals try simp only [beq_iff_eq, beq_eq_false_iff_ne, ne_eq] at *
  all_goals go_ret
  all_goals exact hw_fin (show hwN b.toNat = _ by unfold hwN; (repeat' split) <;> first | rfl | (exfalso; omega))
theorem how_d {w : World} {g : Nat} {l : List UInt8} {d : Int} (h : Rd w g l d) : Calls Tryz.prog 53 #[.pointer (some ⟨g, 0, none⟩)] w fun e w' => e = .returned (.func (.func (hw l)) #[.pointer (some ⟨g, 0, none⟩)] #[]) ∧ w' = w := by
  cases l with
  | nil => exact how_0 h
  | cons b r => exact how_1 h
theorem hw_enter (l : List UInt8) (args : Array Value) (w : World) : (callFunc (hw l) args).run Tryz.prog w = .ok (.enter (hw l) args) w := by
  cases l with
  | nil => kernel_rfl
  | cons b r =>
    show (callFunc (hwN b.toNat) args).run Tryz.prog w = .ok (.enter (hwN b.toNat) args) w
    unfold hwN
    (repeat' split) <;> kernel_rfl
set_option maxHeartbeats 8000000 in
theorem value_d {w : World} {g : Nat} {l : List UInt8} {d : Int} (h : Rd w g l d) {A : Array Value → Bool → World → Prop}
    (hk : ∀ w1, Rd w1 g (sk l) d → Kg g (w.alloc (.cells zV Vt)) w1 → Calls Tryz.prog (hw (sk l)) #[.pointer (some ⟨g, 0, none⟩)] w1 fun e w' => ∃ c b, e = .returned (.tuple #[.agg c, .bool b]) ∧ c.size = 5 ∧ c.all (·.oneCell') = true ∧ Kg g w1 w' ∧ A c b w') :
    Calls Tryz.prog 33 #[.pointer (some ⟨g, 0, none⟩)] w fun e w' => ∃ c b w1, e = .returned (.tuple #[.agg c, .bool b]) ∧ c.size = 5 ∧ c.all (·.oneCell') = true ∧ Kg g (w.alloc (.cells zV Vt)) w1 ∧ A c b w1 ∧ w' = w1.setRow w.heap.size c := by
  have hs := skip_d (h.alloc (.cells zV Vt))
  go_enter Tryz.func33, Tryz.ntmps33
  go_wp2_with fail
  refine hs.mono ?_
  rintro e w1 ⟨rfl, h1, k1⟩
  have hk1 := hk w1 h1 k1
  have he := hw_enter (sk l)
  have hh := how_d h1
  generalize hw (sk l) = f at *
  go_wp2_with fail
  refine hh.mono ?_
  rintro e w2 ⟨rfl, rfl⟩
  replace h1 := hide1 h1
  go_wp2_with fail
  refine hk1.mono ?_
  rintro e w3 ⟨c, b, rfl, hc, ho, k3, hA⟩
  have k4 := k1.trans k3
  have hr := after_own h _ k4
  have hz := hide1 (setRow_heap w3 w.heap.size _ c _ _ hr)
  replace h := hide1 h
  replace k4 := hide1 k4
  replace hA := hide1 hA
  clear hk hs k1 k3 hk1 hh h1
  go_wp2_with (refine wpList_store_row rfl Vt (.tmp 2) (.tmp 11) rfl w.heap.size c rfl rfl Vt _ hr (by rw [hc]; kernel_rfl) hc.symm ho ?_)
  refine bodyPost_ret (results_vt rfl _ rfl hc hz.out) rfl ?_
  exact ⟨c, b, w3, rfl, hc, ho, k4.out, hA.out, rfl⟩
inductive T where
  | mk (k i : Int) (s : List UInt8) (l : List T) (p : List (List UInt8 × T))
theorem drop_while_le (p : UInt8 → Bool) (l : List UInt8) : (l.dropWhile p).length ≤ l.length := by
  induction l with
  | nil => simp
  | cons b r ih =>
    simp only [List.dropWhile_cons]
    split
    · simp only [List.length_cons]; omega
    · simp
theorem drop_while_twice (p : UInt8 → Bool) (l : List UInt8) : (l.dropWhile p).dropWhile p = l.dropWhile p := by
  induction l with
  | nil => simp
  | cons b r ih =>
    simp only [List.dropWhile_cons]
    split
    · exact ih
    · rename_i h; simp [h]
theorem sk_le (l : List UInt8) : (sk l).length ≤ l.length := drop_while_le _ l
theorem sk_sk (l : List UInt8) : sk (sk l) = sk l := drop_while_twice _ l
theorem tk_le (p l : List UInt8) : (tk p l).length ≤ l.length := by
  unfold tk; split <;> simp
theorem tk_lt {b : UInt8} {p l : List UInt8} (h : hp (b :: p) l = true) : (tk (b :: p) l).length < l.length := by
  unfold tk
  unfold hp at h
  rw [if_pos h]
  cases l with
  | nil => cases h
  | cons c r => simp; omega
theorem cdd_le {l r : List UInt8} {c : Nat} (h : cdd l = some (c, r)) : r.length ≤ l.length := by
  unfold cdd at h
  have e := tk_le [92, 117] (l.drop 4)
  split at h
  · cases h
  · split at h
    · cases h; simp
    · split at h
      · cases h
      · split at h
        · split at h
          · cases h
          · split at h
            · cases h
            · simp only [Option.some.injEq, Prod.mk.injEq] at h; obtain ⟨_, rfl⟩ := h; simp at e ⊢; omega
        · cases h
theorem esc_lt {l r : List UInt8} {c : Nat} (h : esc l = some (c, r)) : r.length < l.length := by
  cases l with
  | nil => cases h
  | cons b t =>
    have h : escN b.toNat t = some (c, r) := h
    have hr : r.length ≤ t.length := by
      unfold escN at h
      split at h
      · cases h; exact Nat.le_refl _
      · split at h
        · cases h; exact Nat.le_refl _
        · split at h
          · cases h; exact Nat.le_refl _
          · split at h
            · cases h; exact Nat.le_refl _
            · split at h
              · cases h; exact Nat.le_refl _
              · split at h
                · cases h; exact Nat.le_refl _
                · split at h
                  · exact cdd_le h
                  · cases h
    simp; omega
theorem pln_lt {l r : List UInt8} {c : Nat} (h : pln l = some (c, r)) : r.length < l.length := by
  unfold pln at h
  split at h
  · cases h
  · rename_i hn
    cases h
    cases l with
    | nil => exact absurd (.inr ⟨rfl, by decide⟩) hn
    | cons b t =>
      have : 1 ≤ (Lib.decodeGo (st (b :: t))).2 := by
        have hs : (st (b :: t)).size ≠ 0 := by rw [st_size]; simp
        unfold Lib.decodeGo
        rw [if_neg hs]
        exact Lib.decode_width_pos _ _ (by rw [st_size]; simp)
      simp; omega
theorem ltr_lt {l r : List UInt8} {c : Nat} (h : ltr l = some (c, r)) : r.length < l.length := by
  unfold ltr at h
  split at h
  · have := esc_lt h
    have := tk_le [92] l
    omega
  · exact pln_lt h
def enc (c : Nat) : List UInt8 := Lib.encodeRune (c : Int)
def ql : Nat → List UInt8 → List UInt8 → Option (List UInt8 × List UInt8)
  | n, out, l => if hp [34] l then some (out, tk [34] l) else match ltr l with
    | none => none
    | some (c, r) => match n with
      | 0 => none
      | n + 1 => ql n (out ++ enc c) r
def qt (l : List UInt8) : Option (List UInt8 × List UInt8) := if hp [34] l then ql l.length [] (tk [34] l) else none
theorem ql_end {n : Nat} {out l : List UInt8} (h : hp [34] l = true) : ql n out l = some (out, tk [34] l) := by
  unfold ql; rw [if_pos h]
theorem ql_non {n : Nat} {out l : List UInt8} (h : hp [34] l = false) (hl : ltr l = none) : ql n out l = none := by
  unfold ql; rw [if_neg (by simp [h]), hl]
theorem ql_go {n : Nat} {out l r : List UInt8} {c : Nat} (h : hp [34] l = false) (hl : ltr l = some (c, r)) : ql (n + 1) out l = ql n (out ++ enc c) r := by
  rw [ql, if_neg (by simp [h]), hl]
theorem ql_le : ∀ (n : Nat) {out l s r : List UInt8}, ql n out l = some (s, r) → r.length ≤ l.length
  | n, out, l, s, r, h => by
    cases hh : hp [34] l with
    | true => rw [ql_end hh] at h; cases h; exact tk_le _ _
    | false =>
      cases hl : ltr l with
      | none => rw [ql_non hh hl] at h; cases h
      | some x =>
        obtain ⟨c, q⟩ := x
        have := ltr_lt hl
        cases n with
        | zero => rw [ql, if_neg (by simp [hh]), hl] at h; cases h
        | succ n =>
          rw [ql_go hh hl] at h
          have := ql_le n h
          omega
theorem qt_le {l s r : List UInt8} (h : qt l = some (s, r)) : r.length ≤ l.length := by
  unfold qt at h
  split at h
  · have := ql_le _ h
    have := tk_le [34] l
    omega
  · cases h
def dg (b : UInt8) : Bool := 48 ≤ b.toNat && b.toNat ≤ 57
def dgs (l : List UInt8) : Nat := l.foldl (fun n b => 10 * n + (b.toNat - 48)) 0
def nmO (neg : Bool) (ds : List UInt8) : Option Int :=
  if ds = [] ∨ (1 < ds.length ∧ ds.head? = some 48) ∨ 9007199254740991 < dgs ds ∨ (neg = true ∧ dgs ds = 0) then none else some (if neg then - (dgs ds : Int) else (dgs ds : Int))
def nm (l : List UInt8) : Option (Int × List UInt8) :=
  (nmO (hp [45] l) ((tk [45] l).takeWhile dg)).map fun n => (n, (tk [45] l).dropWhile dg)
theorem nm_le {l r : List UInt8} {n : Int} (h : nm l = some (n, r)) : r.length ≤ l.length := by
  unfold nm at h
  have e := tk_le [45] l
  have e2 := drop_while_le dg (tk [45] l)
  cases hq : nmO (hp [45] l) ((tk [45] l).takeWhile dg) with
  | none => rw [hq] at h; cases h
  | some k => rw [hq] at h; cases h; omega
section
variable {α : Type}
def its (one : List UInt8 → Option (α × List UInt8)) (e : UInt8) : Nat → List α → List UInt8 → Option (List α × List UInt8)
  | n, xs, l => match one l with
    | none => none
    | some (x, r) => if hp [e] (sk r) then some (xs ++ [x], tk [e] (sk r)) else if hp [44] (sk r) then (match n with
      | 0 => none
      | n + 1 => its one e n (xs ++ [x]) (tk [44] (sk r))) else none
def rw' (one : List UInt8 → Option (α × List UInt8)) (b e : UInt8) (l : List UInt8) : Option (List α × List UInt8) :=
  if hp [b] (sk l) then (if hp [e] (sk (tk [b] (sk l))) then some ([], tk [e] (sk (tk [b] (sk l)))) else its one e l.length [] (sk (tk [b] (sk l)))) else none
variable {one : List UInt8 → Option (α × List UInt8)} {e : UInt8}
theorem its_non {n : Nat} {xs : List α} {l : List UInt8} (h : one l = none) : its one e n xs l = none := by
  unfold its; rw [h]
theorem its_end {n : Nat} {xs : List α} {l r : List UInt8} {x : α} (h : one l = some (x, r)) (he : hp [e] (sk r) = true) : its one e n xs l = some (xs ++ [x], tk [e] (sk r)) := by
  unfold its; rw [h]; simp only [he, if_true]
theorem its_bad {n : Nat} {xs : List α} {l r : List UInt8} {x : α} (h : one l = some (x, r)) (he : hp [e] (sk r) = false) (hc : hp [44] (sk r) = false) : its one e n xs l = none := by
  unfold its; rw [h]; simp [he, hc]
theorem its_go {n : Nat} {xs : List α} {l r : List UInt8} {x : α} (h : one l = some (x, r)) (he : hp [e] (sk r) = false) (hc : hp [44] (sk r) = true) : its one e (n + 1) xs l = its one e n (xs ++ [x]) (tk [44] (sk r)) := by
  rw [its, h]; simp [he, hc]
theorem its_le (ho : ∀ l x r, one l = some (x, r) → r.length ≤ l.length) : ∀ (n : Nat) {xs ys : List α} {l r : List UInt8}, its one e n xs l = some (ys, r) → r.length ≤ l.length
  | n, xs, ys, l, r, h => by
    cases h1 : one l with
    | none => rw [its_non h1] at h; cases h
    | some y =>
      obtain ⟨x, q⟩ := y
      have a := ho _ _ _ h1
      have b := sk_le q
      cases he : hp [e] (sk q) with
      | true =>
        rw [its_end h1 he] at h; cases h
        have := tk_le [e] (sk q)
        omega
      | false =>
        cases hc : hp [44] (sk q) with
        | false => rw [its_bad h1 he hc] at h; cases h
        | true =>
          cases n with
          | zero => rw [its, h1] at h; simp [he, hc] at h
          | succ n =>
            rw [its_go h1 he hc] at h
            have := its_le ho n h
            have := tk_le [44] (sk q)
            omega
theorem rw_le {b : UInt8} (ho : ∀ l x r, one l = some (x, r) → r.length ≤ l.length) {ys : List α} {l r : List UInt8} (h : rw' one b e l = some (ys, r)) : r.length ≤ l.length := by
  unfold rw' at h
  have a := sk_le l
  have c := tk_le [b] (sk l)
  have f := sk_le (tk [b] (sk l))
  split at h
  · split at h
    · cases h
      have := tk_le [e] (sk (tk [b] (sk l)))
      omega
    · have := its_le ho _ h
      omega
  · cases h
end
def pr (one : List UInt8 → Option (T × List UInt8)) (l : List UInt8) : Option ((List UInt8 × T) × List UInt8) := match qt (sk l) with
  | none => none
  | some (s, r) => if hp [58] (sk r) then (match one (tk [58] (sk r)) with
    | none => none
    | some (v, q) => some ((s, v), q)) else none
def onc (p : List (List UInt8)) : Bool := decide p.Nodup
def pv : Nat → List UInt8 → Option (T × List UInt8)
  | n, l => match sk l with
    | [] => none
    | b :: m =>
      if b.toNat = 110 then (if hp [110, 117, 108, 108] (b :: m) then some (.mk 0 0 [] [] [], tk [110, 117, 108, 108] (b :: m)) else none)
      else if b.toNat = 116 then (if hp [116, 114, 117, 101] (b :: m) then some (.mk 1 1 [] [] [], tk [116, 114, 117, 101] (b :: m)) else none)
      else if b.toNat = 102 then (if hp [102, 97, 108, 115, 101] (b :: m) then some (.mk 1 0 [] [] [], tk [102, 97, 108, 115, 101] (b :: m)) else none)
      else if b.toNat = 34 then (match qt (b :: m) with
        | none => none
        | some (s, r) => some (.mk 3 0 s [] [], r))
      else if b.toNat = 91 then (match n with
        | 0 => none
        | n + 1 => match rw' (pv n) 91 93 (b :: m) with
          | none => none
          | some (xs, r) => some (.mk 4 0 [] xs [], r))
      else if b.toNat = 123 then (match n with
        | 0 => none
        | n + 1 => match rw' (pr (pv n)) 123 125 (b :: m) with
          | none => none
          | some (ps, r) => if onc (ps.map (·.1)) then some (.mk 5 0 [] [] ps, r) else none)
      else match nm (b :: m) with
        | none => none
        | some (i, r) => some (.mk 2 i [] [] [], r)
theorem pr_le {one : List UInt8 → Option (T × List UInt8)} (ho : ∀ l x r, one l = some (x, r) → r.length ≤ l.length) {l r : List UInt8} {x : List UInt8 × T} (h : pr one l = some (x, r)) : r.length ≤ l.length := by
  unfold pr at h
  have a := sk_le l
  split at h
  · cases h
  · rename_i s q hq
    have b := qt_le hq
    have c := sk_le q
    have d := tk_le [58] (sk q)
    split at h
    · split at h
      · cases h
      · rename_i v t hv
        cases h
        have := ho _ _ _ hv
        omega
    · cases h
theorem pv_le : ∀ (n : Nat) (l : List UInt8) (x : T) (r : List UInt8), pv n l = some (x, r) → r.length ≤ l.length
  | n, l, x, r, h => by
    have a := sk_le l
    unfold pv at h
    generalize sk l = m at *
    cases m with
    | nil => cases h
    | cons b m =>
      simp only at h
      split at h
      · split at h
        · cases h; have := tk_le [110, 117, 108, 108] (b :: m); omega
        · cases h
      · split at h
        · split at h
          · cases h; have := tk_le [116, 114, 117, 101] (b :: m); omega
          · cases h
        · split at h
          · split at h
            · cases h; have := tk_le [102, 97, 108, 115, 101] (b :: m); omega
            · cases h
          · split at h
            · split at h
              · cases h
              · rename_i hq; cases h; have := qt_le hq; omega
            · split at h
              · cases n with
                | zero => cases h
                | succ n =>
                  simp only at h
                  split at h
                  · cases h
                  · rename_i hq; cases h; have := rw_le (pv_le n) hq; omega
              · split at h
                · cases n with
                  | zero => cases h
                  | succ n =>
                    simp only at h
                    split at h
                    · cases h
                    · rename_i hq
                      split at h
                      · cases h; have := rw_le (fun l x r => pr_le (pv_le n)) hq; omega
                      · cases h
                · split at h
                  · cases h
                  · rename_i hq; cases h; have := nm_le hq; omega
theorem dg_b {b : UInt8} (h : dg b = true) : 48 ≤ b.toNat ∧ b.toNat ≤ 57 := by
  unfold dg at h; simp at h; exact h
def dgA (a : Nat) (l : List UInt8) : Nat := l.foldl (fun n b => 10 * n + (b.toNat - 48)) a
theorem dgA_ge : ∀ (l : List UInt8) (a : Nat), a ≤ dgA a l
  | [], a => Nat.le_refl _
  | b :: r, a => by
    show a ≤ dgA (10 * a + (b.toNat - 48)) r
    have := dgA_ge r (10 * a + (b.toNat - 48))
    omega
theorem par_ok : ∀ (l : List UInt8) (a : Nat), (∀ b ∈ l, dg b = true) → Lib.parseUint10 a l = if dgA a l < 18446744073709551616 ∨ l = [] then .ok (dgA a l) else .range
  | [], a, _ => by simp [Lib.parseUint10, dgA]
  | b :: r, a, h => by
    obtain ⟨h1, h2⟩ := dg_b (h b (by simp))
    have hr := par_ok r (a * 10 + (b.toNat - 48)) (fun x hx => h x (by simp [hx]))
    have e : dgA a (b :: r) = dgA (a * 10 + (b.toNat - 48)) r := by rw [Nat.mul_comm]; rfl
    have hg := dgA_ge r (a * 10 + (b.toNat - 48))
    rw [Lib.parseUint10, if_pos ⟨h1, h2⟩, e]
    by_cases c1 : 1844674407370955162 ≤ a
    · rw [if_pos c1, if_neg]
      simp; omega
    · rw [if_neg c1]
      by_cases c2 : 18446744073709551616 ≤ a * 10 + (b.toNat - 48)
      · rw [if_pos c2, if_neg]
        simp; omega
      · rw [if_neg c2, hr]
        by_cases c3 : r = []
        · subst c3
          simp [dgA]; omega
        · simp [c3]
theorem dgs_snoc (l : List UInt8) (b : UInt8) : dgs (l ++ [b]) = 10 * dgs l + (b.toNat - 48) := by simp [dgs, List.foldl_append]
theorem dec_small {u : Nat} (h : u < 10) : Lib.decDigits u = [UInt8.ofNat (48 + u)] := by rw [Lib.decDigits, dif_pos h]
theorem dec_big {u : Nat} (h : ¬ u < 10) : Lib.decDigits u = Lib.decDigits (u / 10) ++ [UInt8.ofNat (48 + u % 10)] := by rw [Lib.decDigits, dif_neg h]
theorem dec_ne (u : Nat) : Lib.decDigits u ≠ [] := by
  by_cases h : u < 10
  · rw [dec_small h]; simp
  · rw [dec_big h]; simp
theorem dec_head : ∀ (n u : Nat), u ≤ n → 1 < (Lib.decDigits u).length → (Lib.decDigits u).head? ≠ some 48
  | n, u, hn, h => by
    by_cases hu : u < 10
    · rw [dec_small hu] at h; simp at h
    · rw [dec_big hu]
      by_cases h1 : u / 10 < 10
      · rw [dec_small h1]
        simp only [List.cons_append, List.head?_cons]
        intro e
        have e2 := congrArg UInt8.toNat (Option.some.inj e)
        have e3 : (UInt8.ofNat (48 + u / 10)).toNat = 48 + u / 10 := by simp [UInt8.toNat_ofNat']; omega
        rw [e3] at e2
        have : (48 : UInt8).toNat = 48 := rfl
        omega
      · cases n with
        | zero => omega
        | succ n =>
          have ih := dec_head n (u / 10) (by omega)
          have hl : 1 < (Lib.decDigits (u / 10)).length := by
            rw [dec_big h1]
            have := List.length_pos_iff.2 (dec_ne (u / 10 / 10))
            simp; omega
          have := ih hl
          cases hd : Lib.decDigits (u / 10) with
          | nil => exact absurd hd (dec_ne _)
          | cons x r => rw [hd] at this; simpa using this
theorem of_dg {b : UInt8} (h : dg b = true) : UInt8.ofNat (48 + (b.toNat - 48)) = b := by
  obtain ⟨h1, h2⟩ := dg_b h
  apply UInt8.toNat_inj.1
  simp [UInt8.toNat_ofNat']
  omega
theorem dgs_pos : ∀ (l : List UInt8) (a : Nat), 0 < a → 0 < dgA a l := fun l a h => Nat.lt_of_lt_of_le h (dgA_ge l a)
theorem dec_dgs (n : Nat) : ∀ (l : List UInt8), l.length ≤ n → (∀ b ∈ l, dg b = true) → l ≠ [] → ¬ (1 < l.length ∧ l.head? = some 48) → Lib.decDigits (dgs l) = l := by
  induction n with
  | zero => intro l h _ hne; cases l with
    | nil => exact absurd rfl hne
    | cons b r => simp at h
  | succ n ih =>
    intro l h hd hne hz
    obtain ⟨m, b, rfl⟩ : ∃ m b, l = m ++ [b] := ⟨l.dropLast, l.getLast hne, (List.dropLast_concat_getLast hne).symm⟩
    have hb := hd b (by simp)
    obtain ⟨h1, h2⟩ := dg_b hb
    rw [dgs_snoc]
    cases m with
    | nil =>
      have : dgs [] = 0 := rfl
      rw [this, dec_small (by omega)]
      simp only [List.nil_append, Nat.mul_zero, Nat.zero_add]
      rw [of_dg hb]
    | cons c r =>
      have hc := hd c (by simp)
      obtain ⟨g1, g2⟩ := dg_b hc
      have hc0 : c ≠ 48 := by
        intro e
        exact hz ⟨by simp, by simp [e]⟩
      have hc1 : 0 < c.toNat - 48 := by
        have : c.toNat ≠ 48 := fun e => hc0 (UInt8.toNat_inj.1 e)
        omega
      have hp : 0 < dgs (c :: r) := by
        show 0 < dgA (10 * 0 + (c.toNat - 48)) r
        exact dgs_pos _ _ (by omega)
      have ihm := ih (c :: r) (by simp at h ⊢; omega) (fun x hx => hd x (List.mem_append_left _ hx)) (by simp) (fun hh => hc0 (by simpa using hh.2))
      rw [dec_big (by omega), show (10 * dgs (c :: r) + (b.toNat - 48)) / 10 = dgs (c :: r) by omega, show (10 * dgs (c :: r) + (b.toNat - 48)) % 10 = b.toNat - 48 by omega, ihm, of_dg hb]
def nmB (s : List UInt8) : Option Int := match Lib.atoiAll s with
  | .ok n => if Lib.itoa n = s ∧ -9007199254740991 ≤ n ∧ n ≤ 9007199254740991 then some n else none
  | _ => none
theorem dec_iff {l : List UInt8} (hd : ∀ b ∈ l, dg b = true) (hne : l ≠ []) : Lib.decDigits (dgs l) = l ↔ ¬ (1 < l.length ∧ l.head? = some 48) := by
  refine ⟨fun h hz => ?_, dec_dgs _ l (Nat.le_refl _) hd hne⟩
  have := dec_head (dgs l) (dgs l) (Nat.le_refl _)
  rw [h] at this
  exact this hz.1 hz.2
theorem nmB_neg {ds : List UInt8} (hd : ∀ b ∈ ds, dg b = true) : nmB (45 :: ds) = nmO true ds := by
  unfold nmB Lib.atoiAll Lib.parseMag
  simp only [show (45 : UInt8).toNat = 45 from rfl, or_true, if_true]
  by_cases h0 : ds = []
  · subst h0; simp [nmO]
  · rw [if_neg h0, par_ok ds 0 hd]
    have he : dgA 0 ds = dgs ds := rfl
    rw [he]
    unfold nmO
    by_cases h1 : dgs ds < 18446744073709551616
    · rw [if_pos (.inl h1)]
      simp only [not_true, false_and, if_false, true_and]
      by_cases h2 : 9223372036854775808 < dgs ds
      · rw [if_pos h2, if_pos (by omega)]
      · rw [if_neg h2]
        simp only [if_true]
        by_cases h3 : dgs ds = 0
        · rw [if_neg, if_pos (.inr (.inr (.inr h3)))]
          intro ⟨h4, _⟩
          rw [h3] at h4
          simp [Lib.itoa, dec_small] at h4
        · have hi : Lib.itoa (-(dgs ds : Int)) = 45 :: Lib.decDigits (dgs ds) := by
            unfold Lib.itoa
            rw [if_pos (by omega)]
            congr 2
            omega
          simp only [hi, List.cons.injEq, true_and, dec_iff hd h0]
          by_cases h5 : 1 < ds.length ∧ ds.head? = some 48
          · rw [if_neg (by simp [h5]), if_pos (.inr (.inl h5))]
          · by_cases h6 : 9007199254740991 < dgs ds
            · rw [if_neg (by omega), if_pos (.inr (.inr (.inl h6)))]
            · rw [if_pos ⟨h5, by omega, by omega⟩, if_neg (by simp only [not_or]; exact ⟨h0, h5, h6, h3⟩)]
    · rw [if_neg (by simp [h1, h0]), if_pos (.inr (.inr (.inl (by omega))))]
theorem nmB_pos {ds : List UInt8} (hd : ∀ b ∈ ds, dg b = true) : nmB ds = nmO false ds := by
  cases hq : ds with
  | nil => rfl
  | cons b r =>
    rw [← hq]
    have h0 : ds ≠ [] := by rw [hq]; simp
    obtain ⟨g1, g2⟩ := dg_b (hd b (by rw [hq]; simp))
    have ha : Lib.atoiAll ds = match Lib.parseMag ds with
      | .syntax => .syntax
      | .range => .range
      | .ok u => if 9223372036854775808 ≤ u then .range else .ok (u : Int) := by
      rw [hq]
      unfold Lib.atoiAll
      have n1 : ¬ b.toNat = 43 := by omega
      have n2 : ¬ b.toNat = 45 := by omega
      simp only [n1, n2, or_self, if_false, not_false_eq_true, true_and, false_and]
      cases Lib.parseMag (b :: r) <;> rfl
    unfold nmB
    rw [ha]
    unfold Lib.parseMag
    rw [if_neg h0, par_ok ds 0 hd]
    have he : dgA 0 ds = dgs ds := rfl
    rw [he]
    unfold nmO
    by_cases h1 : dgs ds < 18446744073709551616
    · rw [if_pos (.inl h1)]
      simp only [Bool.false_eq_true, false_and, or_false, if_false]
      by_cases h2 : 9223372036854775808 ≤ dgs ds
      · rw [if_pos h2, if_pos (by omega)]
      · rw [if_neg h2]
        have hi : Lib.itoa (dgs ds : Int) = Lib.decDigits (dgs ds) := by
          unfold Lib.itoa
          rw [if_neg (by omega)]
          congr 1
        simp only [hi, dec_iff hd h0]
        by_cases h5 : 1 < ds.length ∧ ds.head? = some 48
        · rw [if_neg (by simp [h5]), if_pos (.inr (.inl h5))]
        · by_cases h6 : 9007199254740991 < dgs ds
          · rw [if_neg (by omega), if_pos (.inr (.inr h6))]
          · rw [if_pos ⟨h5, by omega, by omega⟩, if_neg (by simp only [not_or]; exact ⟨h0, h5, h6⟩)]
    · rw [if_neg (by simp [h1, h0]), if_pos (.inr (.inr (.inl (by omega))))]
def auH (k : List UInt8) (n : Nat) : List UInt8 := [68, 83, 83, 69, 118, 49, 32] ++ Lib.decDigits k.length ++ [32] ++ k ++ [32] ++ Lib.decDigits n ++ [32]
def auT (k p : List UInt8) : List UInt8 := auH k p.length ++ p
theorem au_ex : auT [97] [98, 99] = [68, 83, 83, 69, 118, 49, 32, 49, 32, 97, 32, 50, 32, 98, 99] := by
  unfold auT auH
  rw [show ([97] : List UInt8).length = 1 from rfl, show ([98, 99] : List UInt8).length = 2 from rfl, dec_small (by omega), dec_small (by omega)]; rfl
end Go.Proofs.YtdhmonlhlfkjbaaGreatDoor

namespace Go.Proofs.YtdhmonlhlfkjbaaGreatDoor
open Go.RowKit Go.Shelf
attribute [local go_sem] Oper.semAt_some

structure Kx (h : Nat) (P : Nat → Prop) (W W' : World) : Prop where
  size : W.heap.size ≤ W'.heap.size
  same : ∀ j o, W.heap[j]? = some o → (h ≤ j ∨ P j) → W'.heap[j]? = some o
theorem Kx.refl (h : Nat) (P : Nat → Prop) (W : World) : Kx h P W W := ⟨Nat.le_refl _, fun _ _ h _ => h⟩
theorem Kx.trans {h : Nat} {P : Nat → Prop} {A B C : World} (x : Kx h P A B) (y : Kx h P B C) : Kx h P A C := ⟨Nat.le_trans x.size y.size, fun j o h1 h2 => y.same j o (x.same j o h1 h2) h2⟩
theorem Kx.weak {h h' : Nat} {P P' : Nat → Prop} {A B : World} (x : Kx h P A B) (hP : ∀ j, h' ≤ j ∨ P' j → h ≤ j ∨ P j) : Kx h' P' A B := ⟨x.size, fun j o h1 h2 => x.same j o h1 (hP j h2)⟩
theorem Kx.below {h : Nat} {P : Nat → Prop} {A B : World} (x : Below A.heap.size A B) : Kx h P A B := ⟨x.size, fun j _ h1 _ => (x.block j (Array.getElem?_eq_some_iff.1 h1).1).trans h1⟩
theorem Kx.put {h j : Nat} {P : Nat → Prop} (W : World) (o : Obj) (hj : j < h) (hP : ¬ P j) : Kx h P W (W.putObj j o) := ⟨by simp [World.putObj], fun i o' h1 h2 => by
  rw [World.putObj_heap_other (by rintro rfl; rcases h2 with h2 | h2 <;> first | omega | exact hP h2)]; exact h1⟩

def SeqY (gf : Nat) (lb : Array Value) (xs : List (Value × Value)) (P : Nat → Prop) (w : World) : Prop :=
  ∀ (l : Nat) (J Jx : Nat → World → Prop) (W : World), Below w.heap.size w W → OwnFrom W.heap.size J → OwnFrom W.heap.size Jx →
    (∀ k (hk : k < xs.length) W1, J k W1 → YieldAt Fence.wide 3 Tryz.prog l #[xs[k].1, xs[k].2] W1 fun e W' =>
      (e = .returned (.bool true) ∧ J (k + 1) W' ∧ Kx W.heap.size P W1 W') ∨ (e = .returned (.bool false) ∧ Jx k W' ∧ Kx W.heap.size P W1 W')) →
    J 0 W → CallsIn Fence.wide 4 Tryz.prog gf (#[.func (.yield l) #[] #[]] ++ lb) W fun e W' => (∃ v, e = .returned v) ∧ (J xs.length W' ∨ ∃ k, k < xs.length ∧ Jx k W')

def outX (B : Nat) (P : Nat → Prop) (I : Nat → World → Prop) (Ix : Code → Nat → World → Prop) (k : Nat) (W : World) : Exit → Act → World → Prop
  | .normal, _, W' => Kx B P W W' ∧ I (k + 1) W'
  | .ret, _, W' => Kx B P W W' ∧ Ix .ret k W'
  | .exit id, _, W' => Kx B P W W' ∧ Ix (.exit id) k W'
  | _, _, _ => False

section
variable {P : Nat → Prop} {I : Nat → World → Prop} {Ix : Code → Nat → World → Prop} {B : Nat}
def Bk (B : Nat) (r : Loop) (W : World) : Prop := W.heap[B + 1]? = some (.loop r) ∧ W.heap[B]? = some (.deferred (some []))
theorem Bk.grown {r : Loop} {W W' : World} {row : Option Nat} (h : Bk B r W) (hg : W.grownBy W' row) (hr : ∀ x, row = some x → B + 2 ≤ x) : Bk B r W' :=
  ⟨(hg.block _ (Array.getElem?_eq_some_iff.1 h.1).1 (fun e => by have := hr _ e.symm; omega)).trans h.1, (hg.block _ (Array.getElem?_eq_some_iff.1 h.2).1 (fun e => by have := hr _ e.symm; omega)).trans h.2⟩
theorem Bk.put {r : Loop} {W : World} (h : Bk B r W) (r' : Loop) : Bk B r' (W.putObj (B + 1) (.loop r')) :=
  ⟨World.putObj_heap_same (Array.getElem?_eq_some_iff.1 h.1).1, (World.putObj_heap_other (by omega)).trans h.2⟩
theorem Bk.keeps {r : Loop} {W W' : World} (h : Bk B r W) (hk : Kx B P W W') : Bk B r W' := ⟨hk.same _ _ h.1 (.inl (by omega)), hk.same _ _ h.2 (.inl (by omega))⟩
theorem round_y {r : Loop} (hrs : r.state = .ready) (hrp : r.pending = none) (hP : ¬ P (B + 1)) (hI : OwnFrom B I) (hIx : ∀ c, OwnFrom B (Ix c)) {c : Value × Value} (hps : r.params.size = 2) (k : Nat) (hround : ∀ (l : Nat) (W : World) (Kq : Act → World → Prop), B + 2 ≤ W.heap.size → I k W → (∀ a' W', Below W.heap.size W W' → (∀ W2, (∀ j, j ≠ B + 1 → W2.heap[j]? = W'.heap[j]?) → W2.heap.size = W'.heap.size → I k W2 → r.body.wpIn (Fence.wide.inRound l) 3 Tryz.prog (outX B P I Ix k W2) a' W2) → Kq a' W') →
      r.assign.wpIn (Fence.wide.inRound l) 3 Tryz.prog (Exit.then Kq (fun _ _ _ => False)) { tmps := (r.params.zip #[c.1, c.2]).foldl (fun t (p, v) => t.setIfInBounds p v) r.tmps, defers := [] } W) (W : World) (hi : I k W) (hbk : Bk B r W) {R : Ending → World → Prop}
    (hR1 : ∀ W', I (k + 1) W' ∧ Bk B r W' → Kx (B + 2) P W W' → R (.returned (.bool true)) W')
    (hR2 : ∀ c W', Ix c k W' → Bk B { r with state := .done, pending := some c } W' → Kx (B + 2) P W W' → R (.returned (.bool false)) W') :
    YieldAt Fence.wide 3 Tryz.prog (B + 1) #[c.1, c.2] W R := by
  have hk : ∀ {A : World} {o : Obj}, Kx (B + 2) P A (A.putObj (B + 1) o) := fun {A o} => Kx.put A o (by omega) hP
  have hw : ∀ {A A' : World}, Kx B P A A' → Kx (B + 2) P A A' := fun h => h.weak (fun j hj => hj.imp (fun h => by omega) id)
  refine ⟨r.fn, _, r.assign, r.body, run_yield hbk.1 (by rw [hps]; rfl), roundIn_of_wpIn trivial (hround (B + 1) W _ (Array.getElem?_eq_some_iff.1 hbk.1).1 hi fun a' W0 hb0 hbody => ?_)⟩
  have hbk0 : Bk B r W0 := ⟨(hb0.block _ (Array.getElem?_eq_some_iff.1 hbk.1).1).trans hbk.1, (hb0.block _ (Array.getElem?_eq_some_iff.1 hbk.2).1).trans hbk.2⟩
  refine ⟨_, run_beginRound hbk0.1 hrs, ?_⟩
  have hi0 : I k W0 := hI k W W0 none hi ⟨hb0.os, hb0.tape, hb0.output, hb0.size, fun j hj _ => hb0.block j hj⟩ (fun _ e => by cases e)
  have hb2 := hbk0.put { r with state := .busy }
  have hi2 := hI.putObj (.loop { r with state := .busy }) hi0 (Nat.le_succ B) hbk0.1 rfl
  have k02 : Kx (B + 2) P W (W0.putObj (B + 1) (.loop { r with state := .busy })) := (Kx.below hb0).trans hk
  have back : ({ ({ r with state := .busy } : Loop) with state := .ready, pending := none } : Loop) = r := by cases r; simp_all
  refine wpIn_mono (hbody _ (fun j hj => World.putObj_heap_other hj) (by simp [World.putObj]) hi2) ?_
  rintro e a3 W3 hp
  cases e with
  | normal =>
    have hb3 := hb2.keeps hp.1
    have hr := run_endRound (P := Tryz.prog) none hb3.1
    simp only [Option.isNone_none, if_true] at hr
    rw [back] at hr
    have h4 := hI.putObj (.loop r) hp.2 (Nat.le_succ B) hb3.1 rfl
    exact ⟨_, _, hr, hR1 _ ⟨h4, hb3.put r⟩ ((k02.trans (hw hp.1)).trans hk)⟩
  | ret =>
    have hb3 := hb2.keeps hp.1
    have hr := run_endRound (P := Tryz.prog) (some .ret) hb3.1
    exact ⟨_, _, hr, hR2 .ret _ ((hIx _).putObj _ hp.2 (Nat.le_succ B) hb3.1 rfl) (hb3.put _) ((k02.trans (hw hp.1)).trans hk)⟩
  | exit id =>
    have hb3 := hb2.keeps hp.1
    have hr := run_endRound (P := Tryz.prog) (some (.exit id)) hb3.1
    exact ⟨_, _, hr, hR2 (.exit id) _ ((hIx _).putObj _ hp.2 (Nat.le_succ B) hb3.1 rfl) (hb3.put _) ((k02.trans (hw hp.1)).trans hk)⟩
  | goto t => exact hp.elim
  | panic ch => exact hp.elim
  | outgrown => exact hp.elim
end

theorem range_y {g : Operand} {p0 p1 : Tmp} {assign body : Code} {Q : Exit → Act → World → Prop} {a : Act} {w : World} {gf : Nat} {lb : Array Value} (hg : a.eval g = .func (.func gf) #[] lb) (eg : ∀ args w, (callFunc gf args).run Tryz.prog w = .ok (.enter gf args) w)
    {xs : List (Value × Value)} {P : Nat → Prop} (hseq : SeqY gf lb xs P w) (hP : ∀ j, P j → j < w.heap.size)
    (I : Nat → World → Prop) (Ix : Code → Nat → World → Prop) (hI : OwnFrom w.heap.size I) (hIx : ∀ c, OwnFrom w.heap.size (Ix c)) (h0 : I 0 w)
    (hround : ∀ (l k : Nat) (hk : k < xs.length) (W : World) (Kq : Act → World → Prop), w.heap.size + 2 ≤ W.heap.size → I k W → (∀ a' W', Below W.heap.size W W' → (∀ W2, (∀ j, j ≠ w.heap.size + 1 → W2.heap[j]? = W'.heap[j]?) → W2.heap.size = W'.heap.size → I k W2 → body.wpIn (Fence.wide.inRound l) 3 Tryz.prog (outX w.heap.size P I Ix k W2) a' W2) → Kq a' W') →
      assign.wpIn (Fence.wide.inRound l) 3 Tryz.prog (Exit.then Kq (fun _ _ _ => False)) { tmps := (a.tmps.setIfInBounds p0 xs[k].1).setIfInBounds p1 xs[k].2, defers := [] } W)
    (hdone : ∀ (D : Nat) (W : World), w.heap.size ≤ D → I xs.length W → W.heap[D]? = some (.deferred (some [])) → Q .normal { a with defers := { target := .collected D, args := #[] } :: a.defers } W)
    (hstop : ∀ (D : Nat) (c : Code) (k : Nat) (W : World), w.heap.size ≤ D → k < xs.length → Ix c k W → W.heap[D]? = some (.deferred (some [])) → c.wpIn Fence.wide 5 Tryz.prog Q { a with defers := { target := .collected D, args := #[] } :: a.defers } W) :
    (Code.rangeFunc g #[p0, p1] assign body).wpIn Fence.wide 5 Tryz.prog Q a w := by
  refine wpIn_rangeFunc ?_
  intro fn _
  generalize hr : ({ state := .ready, pending := none, fn := fn, tmps := a.tmps, params := #[p0, p1], assign := assign, body := body, defers := w.heap.size } : Loop) = r
  have hb0 : Bk w.heap.size r ((w.alloc (.deferred (some []))).alloc (.loop r)) := by
    refine ⟨?_, (Below.heap_alloc _ _ _ (by simp)).trans (World.alloc_heap_new w _)⟩
    have := World.alloc_heap_new (w.alloc (.deferred (some []))) (.loop r)
    rwa [World.size_alloc] at this
  have hi0 : I 0 ((w.alloc (.deferred (some []))).alloc (.loop r)) := hI.alloc _ (hI.alloc _ h0)
  have hbe : Below w.heap.size w ((w.alloc (.deferred (some []))).alloc (.loop r)) := ((Below.refl _ w).alloc (Nat.le_refl _) _).alloc (by simp) _
  have hsz : ((w.alloc (.deferred (some []))).alloc (.loop r)).heap.size = w.heap.size + 2 := by simp
  have hen := run_enterLoop_outer (P := Tryz.prog) (w := w) fn a.tmps #[p0, p1] assign body
  rw [hr] at hen
  generalize (w.alloc (.deferred (some []))).alloc (.loop r) = W1 at hb0 hi0 hbe hen hsz
  refine ⟨w.heap.size + 1, [{ target := .collected w.heap.size, args := #[] }], W1, { target := .fn (.func gf) lb, args := #[.func (.yield (w.heap.size + 1)) #[] #[]] }, W1, gf, #[.func (.yield (w.heap.size + 1)) #[] #[]] ++ lb, W1, hen, ?_, fun _ _ => trivial, ?_, fun _ => by omega, ?_⟩
  · simp only [resolve, hg]; simp [go_sem]
  · simp [invoke, go_sem, eg]
  · refine (hseq (w.heap.size + 1) (fun k W => I k W ∧ Bk w.heap.size r W) (fun k W => ∃ c, Ix c k W ∧ Bk w.heap.size { r with state := .done, pending := some c } W) W1 hbe ?_ ?_ ?_ ⟨hi0, hb0⟩).mono ?_
    · intro s A B row hs hg' hrow
      exact ⟨hI s A B row hs.1 hg' (fun x e => ⟨Nat.le_trans hbe.size (hrow x e).1, (hrow x e).2⟩), hs.2.grown hg' (fun x e => by have := (hrow x e).1; omega)⟩
    · rintro s A B row ⟨c, hc, hb⟩ hg' hrow
      exact ⟨c, hIx c s A B row hc hg' (fun x e => ⟨Nat.le_trans hbe.size (hrow x e).1, (hrow x e).2⟩), hb.grown hg' (fun x e => by have := (hrow x e).1; omega)⟩
    · intro k hk W hj
      subst hr
      rw [hsz]
      exact round_y rfl rfl (fun h => by have := hP _ h; omega) hI hIx rfl k (fun l W Kq hz hi hK => by simpa using hround l k hk W Kq hz hi hK) W hj.1 hj.2 (fun W' h1 h2 => .inl ⟨rfl, h1, h2⟩) (fun c W' h1 h2 h3 => .inr ⟨rfl, ⟨c, h1, h2⟩, h3⟩)
    · subst hr
      rintro e W2 ⟨⟨v, rfl⟩, (⟨hi, hb⟩ | ⟨k, hk, c, hi, hb⟩)⟩
      · exact ⟨none, _, run_endLoop hb.1 (by simp), hdone _ _ (Nat.le_refl _) (hI.putObj _ hi (Nat.le_succ _) hb.1 rfl) (hb.put _).2⟩
      · exact ⟨some c, _, run_endLoop hb.1 (by simp), hstop _ c k _ (Nat.le_refl _) hk ((hIx c).putObj _ hi (Nat.le_succ _) hb.1 rfl) (hb.put _).2⟩
end Go.Proofs.YtdhmonlhlfkjbaaGreatDoor

namespace Go.Proofs.YtdhmonlhlfkjbaaGreatDoor
open Go.RowKit

abbrev Pt : TypeId := 69
def RwA (F : Nat → Prop) (w : World) (_e : TypeId) (z : Nat) (v : Value) (cs : List (List Value)) : Prop :=
  (∀ c ∈ cs, c.length = z) ∧ ((∃ a cap, v = .slice a 0 cap ∧ cs = []) ∨
    ∃ (b o cap : Nat) (cur : Array Value) (fz : TypeId × (Nat × Nat)), v = .slice (some ⟨b, o, none⟩) cs.length cap ∧ F b ∧ w.heap[b]? = some (.cells cur fz.1 fz.2) ∧ o + cs.length * z ≤ cur.size ∧ (cur.toList.drop o).take (cs.length * z) = cs.flatten)
inductive VA (F : Nat → Prop) (w : World) : T → List Value → Prop
  | mk {k i : Int} {s : List UInt8} {l : List T} {p : List (List UInt8 × T)} {sl sp : Value} {cl cp : List (List Value)} :
    RwA F w Vt 5 sl cl → RwA F w Pt 6 sp cp → cl.length = l.length → cp.length = p.length →
    (∀ (j : Nat) (t : T) (c : List Value), l[j]? = some t → cl[j]? = some c → VA F w t c) →
    (∀ (j : Nat) (q : List UInt8 × T) (c : List Value), p[j]? = some q → cp[j]? = some c → c.head? = some (Value.string (st q.1))) →
    (∀ (j : Nat) (q : List UInt8 × T) (c : List Value), p[j]? = some q → cp[j]? = some c → VA F w q.2 c.tail) →
    VA F w (.mk k i s l p) [.int .i64 k, .int .i64 i, .string (st s), sl, sp]
theorem RwA.frame {F G : Nat → Prop} {w w' : World} {e : TypeId} {z : Nat} {v : Value} {cs : List (List Value)} (h : RwA F w e z v cs)
    (hk : ∀ k, F k → k < w.heap.size → w'.heap[k]? = w.heap[k]?) (hG : ∀ k, F k → k < w.heap.size → G k) : RwA G w' e z v cs := by
  obtain ⟨hl, h | ⟨b, o, cap, cur, fz, hv, hF, hb, h1, h2⟩⟩ := h
  · exact ⟨hl, .inl h⟩
  · have hb' := (Array.getElem?_eq_some_iff.1 hb).1
    exact ⟨hl, .inr ⟨b, o, cap, cur, fz, hv, hG b hF hb', (hk b hF hb').trans hb, h1, h2⟩⟩
theorem VA.frame {F G : Nat → Prop} {w w' : World} {t : T} {c : List Value} (h : VA F w t c)
    (hk : ∀ k, F k → k < w.heap.size → w'.heap[k]? = w.heap[k]?) (hG : ∀ k, F k → k < w.heap.size → G k) : VA G w' t c := by
  induction h with
  | mk h1 h2 e1 e2 _ h4 _ i1 i2 => exact .mk (h1.frame hk hG) (h2.frame hk hG) e1 e2 i1 h4 i2
theorem RwA.nil {F : Nat → Prop} {w : World} {e : TypeId} {z : Nat} : RwA F w e z (.slice none 0 0) [] := ⟨by simp, .inl ⟨none, 0, rfl, rfl⟩⟩
theorem VA.leaf {F : Nat → Prop} {w : World} (k i : Int) (s : List UInt8) : VA F w (.mk k i s [] []) [.int .i64 k, .int .i64 i, .string (st s), .slice none 0 0, .slice none 0 0] :=
  .mk .nil .nil rfl rfl (by simp) (by simp) (by simp)
theorem VA.len {F : Nat → Prop} {w : World} {t : T} {c : List Value} (h : VA F w t c) : c.length = 5 := by cases h; rfl
theorem RwA.one {F : Nat → Prop} {w : World} {e : TypeId} {z : Nat} {v : Value} {cs : List (List Value)} (h : RwA F w e z v cs) : ∃ a n cap, v = .slice a n cap := by
  obtain ⟨_, ⟨a, cap, h, _⟩ | ⟨b, o, cap, _, _, h, _⟩⟩ := h
  · exact ⟨_, _, _, h⟩
  · exact ⟨_, _, _, h⟩
theorem VA.one {F : Nat → Prop} {w : World} {t : T} {c : List Value} (h : VA F w t c) : c.all (·.oneCell') = true := by
  cases h with
  | mk h1 h2 =>
    obtain ⟨a, n, cap, rfl⟩ := h1.one
    obtain ⟨a2, n2, cap2, rfl⟩ := h2.one
    rfl
def AnV (g : Nat) (d : Int) (w : World) (o : Option (T × List UInt8)) (e : Ending) (w' : World) : Prop :=
  ∃ c m, e = .returned (.tuple #[.agg c, .bool o.isSome]) ∧ c.size = 5 ∧ c.all (·.oneCell') = true ∧ Rd w' g m d ∧ Kg g w w' ∧ ∀ t r, o = some (t, r) → m = r ∧ VA (w.heap.size ≤ ·) w' t c.toList
theorem AnV.of {g : Nat} {d : Int} {w w' : World} {o : Option (T × List UInt8)} {c : Array Value} {m : List UInt8} {b : Bool} (hb : b = o.isSome) (hs : c.size = 5) (ho : c.all (·.oneCell') = true) (h : Rd w' g m d) (k : Kg g w w')
    (hv : ∀ t r, o = some (t, r) → m = r ∧ VA (w.heap.size ≤ ·) w' t c.toList) : AnV g d w o (.returned (.tuple #[.agg c, .bool b])) w' := ⟨c, m, by rw [hb], hs, ho, h, k, hv⟩
end Go.Proofs.YtdhmonlhlfkjbaaGreatDoor

namespace Go.Proofs.YtdhmonlhlfkjbaaGreatDoor
open Go.Shelf Go.RowKit
def lays168_ren : Go.Shelf.Ren := ⟨fun | 168 => 190 | 240 => 177 | 242 => 210 | 276 => 200 | 278 => 221 | n => n, fun | 0 => 0 | 3 => 3 | 4 => 4 | 5 => 5 | 9 => 9 | 20 => 20 | 21 => 21 | 37 => 22 | 46 => 79 | 51 => 166 | 70 => 182 | 72 => 184 | 75 => 39 | 80 => 187 | 164 => 228 | n => n, fun | n => n⟩
theorem lays168 : Go.Proofs.Lays.n168 Tryz.prog lays168_ren := {
  mixed := by kernel_rfl
  f168 := Tryz.func190.trans (congrArg some (by kernel_rfl))
  f240 := Tryz.func177.trans (congrArg some (by kernel_rfl))
  f242 := Tryz.func210.trans (congrArg some (by kernel_rfl))
  f276 := Tryz.func200.trans (congrArg some (by kernel_rfl))
  f278 := Tryz.func221.trans (congrArg some (by kernel_rfl))
  t0 := Tryz.underlying0
  a0 := Tryz.isAgg0
  z0 := Tryz.sizeOf0
  v0 := Tryz.zeroValue0
  t3 := Tryz.underlying3
  a3 := Tryz.isAgg3
  z3 := Tryz.sizeOf3
  v3 := Tryz.zeroValue3
  t4 := Tryz.underlying4
  a4 := Tryz.isAgg4
  z4 := Tryz.sizeOf4
  v4 := Tryz.zeroValue4
  t5 := Tryz.underlying5
  a5 := Tryz.isAgg5
  z5 := Tryz.sizeOf5
  v5 := Tryz.zeroValue5
  t9 := Tryz.underlying9
  a9 := Tryz.isAgg9
  z9 := Tryz.sizeOf9
  v9 := Tryz.zeroValue9
  t20 := by kernel_rfl
  a20 := fun w => by kernel_rfl
  z20 := fun w => by kernel_rfl
  v20 := fun w => by kernel_rfl
  t21 := Tryz.underlying21
  a21 := Tryz.isAgg21
  z21 := Tryz.sizeOf21
  v21 := Tryz.zeroValue21
  t37 := Tryz.underlying22
  a37 := Tryz.isAgg22
  z37 := Tryz.sizeOf22
  v37 := Tryz.zeroValue22
  t46 := Tryz.underlying79
  a46 := Tryz.isAgg79
  z46 := Tryz.sizeOf79
  v46 := Tryz.zeroValue79
  t51 := Tryz.underlying166
  a51 := Tryz.isAgg166
  z51 := Tryz.sizeOf166
  v51 := Tryz.zeroValue166
  t70 := Tryz.underlying182
  a70 := Tryz.isAgg182
  z70 := Tryz.sizeOf182
  v70 := Tryz.zeroValue182
  t72 := Tryz.underlying184
  a72 := Tryz.isAgg184
  z72 := Tryz.sizeOf184
  v72 := Tryz.zeroValue184
  t75 := Tryz.underlying39
  a75 := Tryz.isAgg39
  z75 := Tryz.sizeOf39
  v75 := Tryz.zeroValue39
  t164 := Tryz.underlying228
  a164 := Tryz.isAgg228
  z164 := Tryz.sizeOf228
  v164 := Tryz.zeroValue228 }
theorem Builder_Extra_168 : Builder.Extra Tryz.prog lays168_ren := {
  sizeBuilder := by kernel_rfl
  liesBuilder := by kernel_rfl
  t5 := Tryz.underlying5
  a5 := Tryz.isAgg5
  z5 := Tryz.sizeOf5
  v5 := Tryz.zeroValue5
  infoByte := by kernel_rfl
  cellsByte := by kernel_rfl
  sizeByte := by kernel_rfl
  neB5 := by decide }
theorem Builder_WriteRune_k (B b : Nat) (bs : List Value) (r : Int) (hr0 : -2147483648 ≤ r) (hr1 : r ≤ 2147483647) (w : World) (h : Lib.IsBuilderF 184 5 B b bs w) (hlen : bs.length + 4 ≤ 140737488355328) (hBw : B ≤ w.heap.size) :
    Calls Tryz.prog 190 #[.pointer (some ⟨b, 0, none⟩), .int .i32 r] w fun e w' => e = .returned (.tuple #[.int .i64 (Lib.runeCells r).length, .nilIface]) ∧ (Lib.BuilderAtF 184 5 B b (.pointer (some ⟨b, 0, none⟩)) (bs ++ Lib.runeCells r) w' ∧ Below B w w' ∧ Lib.OthersKept 5 (some b) w w') := Any.Builder_WriteRune_k lays168 Builder_Extra_168 B b bs r hr0 hr1 w h hlen hBw
end Go.Proofs.YtdhmonlhlfkjbaaGreatDoor

namespace Go.Proofs.YtdhmonlhlfkjbaaGreatDoor
open Go.RowKit

abbrev Bt : TypeId := 184
abbrev Ut : TypeId := 5
theorem ownF_kept {w w' : World} {B : Nat} {e : TypeId} {v : Value} {n : Nat} {xs : List Value} (h : w.ownsRowF B e 1 v n xs) (hk : ∀ k, B ≤ k → k < w.heap.size → w'.heap[k]? = w.heap[k]?) : w'.ownsRowF B e 1 v n xs := by
  obtain ⟨hl, h | ⟨g, cap, cur, fz, hv, hB, hg, r⟩⟩ := h
  · exact ⟨hl, .inl h⟩
  · exact ⟨hl, .inr ⟨g, cap, cur, fz, hv, hB, (hk g hB (Array.getElem?_eq_some_iff.1 hg).1).trans hg, r⟩⟩
theorem bldA_kept {w w' : World} {T e : TypeId} {B b : Nat} {p : Value} {bs : List Value} (h : Lib.BuilderAtF T e B b p bs w) (hk : ∀ k, B ≤ k → k < w.heap.size → w'.heap[k]? = w.heap[k]?) : Lib.BuilderAtF T e B b p bs w' := by
  obtain ⟨hB, v, hb, ho, hn⟩ := h
  exact ⟨hB, v, (hk b hB (Array.getElem?_eq_some_iff.1 hb).1).trans hb, ownF_kept ho hk, hn⟩
theorem bld_kept {w w' : World} {T e : TypeId} {B b : Nat} {bs : List Value} (h : Lib.IsBuilderF T e B b bs w) (hk : ∀ k, B ≤ k → k < w.heap.size → w'.heap[k]? = w.heap[k]?) : Lib.IsBuilderF T e B b bs w' :=
  h.elim (fun h => .inl (bldA_kept h hk)) (fun h => .inr (bldA_kept h hk))
theorem bld_kg {w w' : World} {T e : TypeId} {g B b : Nat} {bs : List Value} (h : Lib.IsBuilderF T e B b bs w) (k : Kg g w w') (hg : g < B) : Lib.IsBuilderF T e B b bs w' :=
  bld_kept h fun q hq hs => k.block q hs (by omega)
theorem Kg.below {w0 w w' : World} {g B : Nat} (h : Kg g w0 w) (k : Below B w w') (hB : w0.heap.size ≤ B) : Kg g w0 w' :=
  ⟨k.os.trans h.os, k.tape.trans h.tape, k.output.trans h.output, Nat.le_trans h.size k.size, fun q hq hn => (k.block q (Nat.lt_of_lt_of_le hq hB)).trans (h.block q hq hn)⟩
theorem Rd.below {w w' : World} {g B : Nat} {l : List UInt8} {d : Int} (h : Rd w g l d) (k : Below B w w') (hB : g < B) : Rd w' g l d := (k.block g hB).trans h
theorem bld_new (w : World) : Lib.IsBuilderF Bt Ut w.heap.size w.heap.size [] (w.alloc (.cells #[.pointer none, .slice none 0 0] Bt)) :=
  .inl ⟨Nat.le_refl _, .slice none 0 0, by
    show (w.heap.push _)[w.heap.size]? = _
    rw [Array.getElem?_push, if_pos rfl], ⟨rfl, .inl ⟨rfl, rfl⟩⟩, by simp [Value.ownBlock]⟩
theorem enc_cells (c : Nat) : Lib.runeCells (c : Int) = Lib.byteCells (enc c) := (Lib.byteCells_encodeRune _).symm
theorem cells_app (a b : List UInt8) : Lib.byteCells (a ++ b) = Lib.byteCells a ++ Lib.byteCells b := by simp [Lib.byteCells]
theorem enc_len (c : Nat) : (enc c).length ≤ 4 := by
  have := (Lib.encodeRuneZ_length (c : Int)).2
  simpa [enc, Lib.encodeRune] using this
def AnQ (g : Nat) (d : Int) (w : World) (o : Option (List UInt8 × List UInt8)) (e : Ending) (w' : World) : Prop :=
  ∃ s m, e = .returned (.tuple #[.string (st s), .bool o.isSome]) ∧ Rd w' g m d ∧ Kg g w w' ∧ ∀ t r, o = some (t, r) → s = t ∧ m = r
theorem AnQ.none {g : Nat} {d : Int} {w w' : World} {m : List UInt8} (h : Rd w' g m d) (k : Kg g w w') : AnQ g d w none (.returned (.tuple #[.string ⟨#[]⟩, .bool false])) w' := ⟨[], m, rfl, h, k, fun _ _ e => nomatch e⟩
theorem AnQ.some {g : Nat} {d : Int} {w w' : World} {s m : List UInt8} (h : Rd w' g m d) (k : Kg g w w') : AnQ g d w (some (s, m)) (.returned (.tuple #[.string (st s), .bool true])) w' := ⟨s, m, rfl, h, k, fun _ _ e => by cases e; exact ⟨rfl, rfl⟩⟩
def lft (g : Nat) (w : World) : Nat := match w.heap[g]? with
  | some (Obj.cells c _ _) => (match c[0]? with
    | some (Value.string s) => s.size
    | _ => 0)
  | _ => 0
theorem Rd.lft {w : World} {g : Nat} {l : List UInt8} {d : Int} (h : Rd w g l d) : lft g w = l.length := by
  unfold Go.Proofs.YtdhmonlhlfkjbaaGreatDoor.lft; rw [show w.heap[g]? = _ from h]; rfl
theorem f4_c : ∀ (k c : Nat) (l : List UInt8) (n : Nat), f4 k c l = some n → n < (c + 1) * 16 ^ k
  | 0, c, _, n, h => by cases h; simp
  | k + 1, c, [], n, h => by cases h
  | k + 1, c, b :: l, n, h => by
    unfold f4 at h
    cases hq : fg b.toNat with
    | none => rw [hq] at h; cases h
    | some m =>
      rw [hq] at h
      have h1 := f4_c k (c * 16 + m) l n h
      have h2 := fg_lt hq
      have h3 : (c * 16 + m + 1) * 16 ^ k ≤ ((c + 1) * 16) * 16 ^ k := Nat.mul_le_mul_right _ (by omega)
      rw [Nat.pow_succ, Nat.mul_comm (16 ^ k) 16, ← Nat.mul_assoc]
      omega
theorem cdd_c {l r : List UInt8} {c : Nat} (h : cdd l = some (c, r)) : c ≤ 2147483647 := by
  unfold cdd at h
  split at h
  · cases h
  · rename_i n hn
    have := f4_c _ _ _ _ hn
    split at h
    · simp only [Option.some.injEq, Prod.mk.injEq] at h; omega
    · split at h
      · cases h
      · split at h
        · split at h
          · cases h
          · split at h
            · cases h
            · simp only [Option.some.injEq, Prod.mk.injEq] at h; omega
        · cases h
theorem esc_c {l r : List UInt8} {c : Nat} (h : esc l = some (c, r)) : c ≤ 2147483647 := by
  cases l with
  | nil => cases h
  | cons b t =>
    have h : escN b.toNat t = some (c, r) := h
    have hb := UInt8.toNat_lt b
    unfold escN at h
    split at h
    · simp only [Option.some.injEq, Prod.mk.injEq] at h; omega
    · split at h
      · simp only [Option.some.injEq, Prod.mk.injEq] at h; omega
      · split at h
        · simp only [Option.some.injEq, Prod.mk.injEq] at h; omega
        · split at h
          · simp only [Option.some.injEq, Prod.mk.injEq] at h; omega
          · split at h
            · simp only [Option.some.injEq, Prod.mk.injEq] at h; omega
            · split at h
              · simp only [Option.some.injEq, Prod.mk.injEq] at h; omega
              · split at h
                · exact cdd_c h
                · cases h
structure Ev (w : World) : Prop where
  tb : Tb w
  pw : Lib.TabIs Tryz.prog w "internal/strconv.uint64pow10" .u64 Lib.pow10Tab
  es : ∃ te pe, w.cell? ⟨6, 0, none⟩ = some (.iface te pe)
  er : ∃ te pe, w.cell? ⟨7, 0, none⟩ = some (.iface te pe)
theorem Ev.same {w w' : World} (h : Ev w) (hk : ∀ k, k < 8 → w'.heap[k]? = w.heap[k]?) : Ev w' := by
  have hc : ∀ k o, k < 8 → w'.cell? ⟨k, o, none⟩ = w.cell? ⟨k, o, none⟩ := fun k o h => by simp only [World.cell?, hk k h]
  obtain ⟨te, pe, h1⟩ := h.es
  obtain ⟨tr, pr, h2⟩ := h.er
  refine ⟨⟨fun c hc' => (hc 1 _ (by omega)).trans (h.tb.1 c hc'), fun i hi => ⟨(hc 2 _ (by omega)).trans (h.tb.2 i hi).1, (hc 2 _ (by omega)).trans (h.tb.2 i hi).2⟩⟩, ?_, ⟨te, pe, (hc _ _ (by decide)).trans h1⟩, ⟨tr, pr, (hc _ _ (by decide)).trans h2⟩⟩
  have hg : Tryz.prog.globalNamed "internal/strconv.uint64pow10" = some 0 := by kernel_rfl
  have := h.pw
  unfold Lib.TabIs World.var? at this ⊢
  rw [hg] at this ⊢
  simp only [Option.bind_some] at this ⊢
  rw [hk _ (by decide)]
  exact this
theorem Ev.kg {g : Nat} {w w' : World} (h : Ev w) (k : Kg g w w') (hg : 7 < g) (hs : g < w.heap.size) : Ev w' := h.same fun q hq => k.block q (by omega) (by omega)
theorem Ev.below {B : Nat} {w w' : World} (h : Ev w) (k : Below B w w') (hB : 7 < B) : Ev w' := h.same fun q hq => k.block q (by omega)
structure Qi (g : Nat) (d : Int) (w0 : World) (B N : Nat) (o : Option (List UInt8 × List UInt8)) (wr : World) (out l : List UInt8) (n : Nat) : Prop where
  rd : Rd wr g l d
  kg : Kg g w0 wr
  tb : Ev wr
  bl : Lib.IsBuilderF Bt Ut B B (Lib.byteCells out) wr
  le : l.length ≤ n
  eq : ql n out l = o
  sm : out.length + 4 * l.length ≤ N
theorem ltr_le {l r : List UInt8} {c : Nat} (h : ltr l = some (c, r)) : c ≤ 2147483647 := by
  unfold ltr at h
  split at h
  · exact esc_c h
  · unfold pln at h
    have := dec_le (st l)
    split at h
    · cases h
    · simp only [Option.some.injEq, Prod.mk.injEq] at h
      omega
theorem bld_lt {T e : TypeId} {B b : Nat} {bs : List Value} {w : World} (h : Lib.IsBuilderF T e B b bs w) : B ≤ b ∧ b < w.heap.size := by
  rcases h with ⟨hB, v, hb, _⟩ | ⟨hB, v, hb, _⟩ <;> exact ⟨hB, (Array.getElem?_eq_some_iff.1 hb).1⟩
theorem Qi.step {g : Nat} {d : Int} {w0 : World} {B N : Nat} {o : Option (List UInt8 × List UInt8)} {wr : World} {out l : List UInt8} {n : Nat} (h : Qi g d w0 B N o wr out l n) {w1 w2 : World} {c : Nat} {r : List UInt8} (hg : 7 < g) (hgB : g < B) (hB : w0.heap.size ≤ B)
    (hh : hp [34] l = false) (hl : ltr l = some (c, r)) (hr : Rd w1 g r d) (k1 : Kg g wr w1) (hA : Lib.BuilderAtF Bt Ut B B (.pointer (some ⟨B, 0, none⟩)) (Lib.byteCells out ++ Lib.runeCells c) w2) (hb : Below B w1 w2) :
    ∃ n', Qi g d w0 B N o w2 (out ++ enc c) r n' ∧ r.length < l.length := by
  have e := ltr_lt hl
  have hle := h.le
  have hsm := h.sm
  have h4 := enc_len c
  cases n with
  | zero => omega
  | succ n =>
    refine ⟨n, ⟨hr.below hb hgB, (h.kg.trans k1).below hb hB, (h.tb.kg k1 hg h.rd.lt).below hb (by omega), .inr (by rw [cells_app, ← enc_cells]; exact hA), by omega, ?_, ?_⟩, e⟩
    · rw [← h.eq, ql_go hh hl]
    · rw [List.length_append]; omega
set_option maxHeartbeats 8000000 in
theorem quoted_d {w : World} {g : Nat} {l : List UInt8} {d : Int} (h : Rd w g l d) (hT : Ev w) (hg : 7 < g) (hN : l.length ≤ 1000000) : Calls Tryz.prog 151 #[.pointer (some ⟨g, 0, none⟩)] w (AnQ g d w (qt l)) := by
  cases ht : hp [34] l with
  | false =>
    have hq : qt l = none := by unfold qt; rw [if_neg (by simp [ht])]
    rw [hq]
    go_enter Tryz.func151, Tryz.ntmps151
    go_wp2_with fail
    refine (show Calls Tryz.prog 150 #[.pointer (some ⟨g, 0, none⟩), .string (st [34])] w _ from take_d h).mono ?_
    rintro e w1 ⟨rfl, h1, k1⟩
    rw [ht]
    have ha := hide1 (AnQ.none h1 k1)
    clear h1 k1 h hT
    go_wp2
    go_ret2
    exact ha.out
  | true =>
    have hq : qt l = ql l.length [] (tk [34] l) := by unfold qt; rw [if_pos (by simp [ht])]
    have hle := tk_le [34] l
    go_enter Tryz.func151, Tryz.ntmps151
    go_wp2_with fail
    refine (show Calls Tryz.prog 150 #[.pointer (some ⟨g, 0, none⟩), .string (st [34])] w _ from take_d h).mono ?_
    rintro e w1 ⟨rfl, h1, k1⟩
    rw [ht]
    have hgs := h.lt
    have hs1 := k1.size
    have hgB : g < w1.heap.size := h1.lt
    have hi : Qi g d w w1.heap.size 4000000 (qt l) (w1.alloc (.cells #[.pointer none, .slice none 0 0] Bt)) [] (tk [34] l) l.length :=
      ⟨h1.alloc _, k1.trans (Kg.alloc _ _), (hT.kg k1 hg hgs).kg (Kg.alloc _ _) hg hgB, bld_new w1, hle, hq.symm, by simp; omega⟩
    replace hi := hide1 hi
    have hBs := hs1
    generalize qt l = o at *
    clear h h1 k1 hT hq hle
    go_wp2_with fail
    generalize w1.heap.size = B at *
    go_loopw [5] (fun _ wr => ∃ out m n, Hid (Qi g d w B 4000000 o wr out m n)) (fun _ wr => lft g wr)
    case atStart => exact ⟨_, _, _, hi⟩
    case round =>
      obtain ⟨out, m, n, hi⟩ := hrel
      have hlft := hi.out.rd.lft
      cases hh : hp [34] m with
      | true =>
        have hs := Builder_String_any_k B B out
        have ho := ql_end (n := n) (out := out) hh
        rw [hi.out.eq] at ho
        go_wp2_with fail
        refine (show Calls Tryz.prog 150 #[.pointer (some ⟨g, 0, none⟩), .string (st [34])] wr _ from take_d hi.out.rd).mono ?_
        rintro e w2 ⟨rfl, h2, k2⟩
        rw [hh]
        have hb := bld_kg hi.out.bl k2 hgB
        have kk := hi.out.kg.trans k2
        clear hi hlft
        go_wp2_with fail
        refine (hs w2 hb (Nat.le_of_lt (bld_lt hb).2)).mono ?_
        rintro e w3 ⟨rfl, -, b3, -⟩
        have ha : Hid (AnQ g d w o (.returned (.tuple #[.string ⟨out.toArray⟩, .bool true])) w3) := hide1 (by
          rw [ho]
          exact AnQ.some (h2.below b3 hgB) (kk.below b3 hBs))
        clear hs hb kk h2 k2 b3 ho
        go_wp2
        go_ret2
        exact ha.out
      | false =>
        have hrd : Rd wr g m d := hi.out.rd
        go_wp2_with fail
        refine (show Calls Tryz.prog 150 #[.pointer (some ⟨g, 0, none⟩), .string (st [34])] wr _ from take_d hrd).mono ?_
        rintro e w2 ⟨rfl, h2, k2⟩
        rw [hh]
        rw [tk_no hh] at h2
        have ev2 := hi.out.tb.kg k2 hg hrd.lt
        clear hrd
        go_wp2_with fail
        refine (letter_d h2 ev2.tb (by omega)).mono ?_
        rintro e w3 ⟨x, m3, rfl, h3, k3, hxm⟩
        have k23 := k2.trans k3
        cases hl : ltr m with
        | none =>
          have ho := ql_non (n := n) (out := out) hh hl
          rw [hi.out.eq] at ho
          have ha : Hid (AnQ g d w o (.returned (.tuple #[.string ⟨#[]⟩, .bool false])) w3) := hide1 (by
            rw [ho]
            exact AnQ.none h3 (hi.out.kg.trans k23))
          clear hi h2 k2 ev2 h3 k3 hxm k23 ho hl hh hlft
          go_wp2
          go_ret2
          exact ha.out
        | some xr =>
          obtain ⟨c, r⟩ := xr
          obtain ⟨rfl, rfl⟩ := hxm c r hl
          have hb3 := bld_kg hi.out.bl k23 hgB
          have hsm := hi.out.sm
          have hx := ltr_le hl
          have hbl : (Lib.byteCells out).length = out.length := by simp [Lib.byteCells]
          have hwr := Builder_WriteRune_k B B (Lib.byteCells out) (x : Int) (by omega) (by omega) w3 hb3 (by rw [hbl]; omega) (Nat.le_of_lt (bld_lt hb3).2)
          have hst := fun w4 hA hb4 => hi.out.step (w2 := w4) hg hgB hBs hh hl h3 k23 hA hb4
          replace hst := hide1 hst
          clear h2 k2 ev2 k3 hxm k23 hb3 hsm hbl hh hl
          replace h3 := hide1 h3
          go_wp2_with fail
          refine hwr.mono ?_
          rintro e w4 ⟨rfl, hA, b4, -⟩
          obtain ⟨n', q4, hlt⟩ := hst.out w4 hA b4
          have hl4 := q4.rd.lft
          replace q4 := hide1 q4
          clear hwr hst hA b4 hi h3
          go_wp2
          go_roundw
          case rel => exact ⟨_, _, _, q4⟩
          case measure => rw [hl4, hlft]; exact hlt
theorem AnV.box {g : Nat} {d : Int} {w w1 : World} {o : Option (T × List UInt8)} {c : Array Value} {m : List UInt8} {b : Bool} (hg : g < w.heap.size) (k1 : Kg g (w.alloc (.cells zV Vt)) w1) (h1 : Rd w1 g m d) (hs : c.size = 5) (ho : c.all (·.oneCell') = true) (hb : b = o.isSome)
    (hv : ∀ t r, o = some (t, r) → m = r ∧ VA (w.heap.size + 1 ≤ ·) w1 t c.toList) : AnV g d w o (.returned (.tuple #[.agg c, .bool b])) (w1.setRow w.heap.size c) := by
  refine AnV.of hb hs ho (h1.own (by omega) c) (((Kg.alloc w _).trans k1).own (Nat.le_refl _) c) fun t r e => ?_
  obtain ⟨h2, h3⟩ := hv t r e
  refine ⟨h2, h3.frame (fun k hk _ => setRow_other w1 _ k c ?_) (fun k hk _ => ?_)⟩
  · have : w.heap.size + 1 ≤ k := hk
    omega
  · have : w.heap.size + 1 ≤ k := hk
    show w.heap.size ≤ k
    omega
def qtV (l : List UInt8) : Option (T × List UInt8) := match qt l with
  | none => none
  | some (s, r) => some (.mk 3 0 s [] [], r)
theorem qtV_some (l : List UInt8) : (qtV l).isSome = (qt l).isSome := by
  unfold qtV; cases qt l <;> rfl
set_option maxHeartbeats 4000000 in
theorem text_d {w : World} {g : Nat} {l : List UInt8} {d : Int} (h : Rd w g l d) (hT : Ev w) (hg : 7 < g) (hN : l.length ≤ 1000000) : Calls Tryz.prog 102 #[.pointer (some ⟨g, 0, none⟩)] w (AnV g d w (qtV l)) := by
  have hl := h.lt
  go_enter Tryz.func102, Tryz.ntmps102
  go_wp2_with fail
  refine (quoted_d (h.alloc _) (hT.kg (Kg.alloc _ _) hg hl) hg hN).mono ?_
  rintro e w1 ⟨s, m, rfl, h1, k1, hsm⟩
  have hr := after_own h _ k1
  have hz := hide1 (setRow_heap w1 w.heap.size _ #[.int .i64 3, .int .i64 0, .string (st s), .slice none 0 0, .slice none 0 0] _ _ hr)
  have ha := hide1 (AnV.box (o := qtV l) (b := (qt l).isSome) (c := #[.int .i64 3, .int .i64 0, .string (st s), .slice none 0 0, .slice none 0 0]) hl k1 h1 rfl (by kernel_rfl) (qtV_some l).symm (fun t r e => by
    unfold qtV at e
    cases hq : qt l with
    | none => rw [hq] at e; cases e
    | some x =>
      obtain ⟨s', r'⟩ := x
      rw [hq] at e
      cases e
      obtain ⟨rfl, rfl⟩ := hsm _ _ hq
      exact ⟨rfl, VA.leaf 3 0 s⟩))
  replace h := hide1 h
  replace h1 := hide1 h1
  replace k1 := hide1 k1
  clear hsm hT
  go_wp2_with (refine wpList_store_row rfl Vt (.tmp 2) (.tmp 12) rfl w.heap.size #[.int .i64 3, .int .i64 0, .string (st s), .slice none 0 0, .slice none 0 0] rfl rfl Vt _ hr (by kernel_rfl) rfl (by kernel_rfl) ?_)
  refine bodyPost_ret (results_vt rfl _ rfl rfl hz.out) rfl ?_
  exact ha.out
def fgs : List UInt8 := [48, 49, 50, 51, 52, 53, 54, 55, 56, 57]
theorem fgs_dg (b : UInt8) : fgs.contains b = dg b := by
  unfold dg fgs
  simp only [List.contains_cons, List.contains_nil, Bool.or_false]
  have e : ∀ n : UInt8, (b == n) = decide (b.toNat = n.toNat) := fun n => by
    rw [Bool.eq_iff_iff]
    simp [UInt8.toNat_inj]
  simp only [e]
  rw [Bool.eq_iff_iff]
  simp only [Bool.or_eq_true, decide_eq_true_eq, Bool.and_eq_true, show (48 : UInt8).toNat = 48 from rfl, show (49 : UInt8).toNat = 49 from rfl, show (50 : UInt8).toNat = 50 from rfl, show (51 : UInt8).toNat = 51 from rfl, show (52 : UInt8).toNat = 52 from rfl, show (53 : UInt8).toNat = 53 from rfl, show (54 : UInt8).toNat = 54 from rfl, show (55 : UInt8).toNat = 55 from rfl, show (56 : UInt8).toNat = 56 from rfl, show (57 : UInt8).toNat = 57 from rfl]
  omega
theorem trim_f (l : List UInt8) (w : World) : Calls Tryz.prog 97 #[.string (st l), .string ⟨#[48, 49, 50, 51, 52, 53, 54, 55, 56, 57]⟩] w fun e w' => e = .returned (.string (st (l.dropWhile dg))) ∧ Below w.heap.size w w' := by
  have h := Go.Proofs.Any.strings_TrimLeft_laid lays161 (by kernel_rfl) (st l) ⟨#[48, 49, 50, 51, 52, 53, 54, 55, 56, 57]⟩ w (by decide) (fun j b h => by
    have hm := List.mem_of_getElem? h
    simp at hm
    rcases hm with rfl | rfl | rfl | rfl | rfl | rfl | rfl | rfl | rfl | rfl <;> decide)
  have e : l.dropWhile dg = l.dropWhile (fgs.contains ·) := by congr 1; funext b; exact (fgs_dg b).symm
  rw [e]
  exact h
def spl (l : List UInt8) : List UInt8 := (if hp [45] l then [45] else []) ++ (tk [45] l).takeWhile dg
theorem tk_hp {b : UInt8} {l : List UInt8} (h : hp [b] l = true) : l = b :: tk [b] l := by
  unfold tk
  unfold hp at h
  rw [if_pos h]
  cases l with
  | nil => cases h
  | cons c r => simp at h; simp [h]
theorem spl_all (l : List UInt8) : l = spl l ++ (tk [45] l).dropWhile dg := by
  unfold spl
  rw [List.append_assoc, List.takeWhile_append_dropWhile]
  cases h : hp [45] l with
  | true => exact tk_hp h
  | false => rw [tk_no h]; rfl
theorem trimS (l : List UInt8) : Lib.trimSuffix l ((tk [45] l).dropWhile dg) = spl l := by
  have e := spl_all l
  generalize spl l = a at *
  generalize (tk [45] l).dropWhile dg = b at *
  subst e
  unfold Lib.trimSuffix
  rw [if_pos]
  · simp
  · unfold Lib.hasSuffix
    simp
theorem nmB_spl (l : List UInt8) : nmB (spl l) = (nm l).map (·.1) := by
  unfold nm spl
  have hd : ∀ b ∈ (tk [45] l).takeWhile dg, dg b = true := fun b hb => by
    have := List.all_takeWhile (l := tk [45] l) (p := dg)
    exact List.all_eq_true.1 this b hb
  cases h : hp [45] l with
  | true => rw [if_pos rfl, List.singleton_append, nmB_neg hd]; cases nmO true ((tk [45] l).takeWhile dg) <;> rfl
  | false => rw [if_neg (by simp), List.nil_append, nmB_pos hd]; cases nmO false ((tk [45] l).takeWhile dg) <;> rfl
def nmV (l : List UInt8) : Option (T × List UInt8) := match nm l with
  | none => none
  | some (i, r) => some (.mk 2 i [] [] [], r)
theorem nm_rest {l r : List UInt8} {i : Int} (h : nm l = some (i, r)) : r = (tk [45] l).dropWhile dg := by
  unfold nm at h
  cases hq : nmO (hp [45] l) ((tk [45] l).takeWhile dg) with
  | none => rw [hq] at h; cases h
  | some k => rw [hq] at h; cases h; rfl
theorem nmV_of {l : List UInt8} {F : Nat → Prop} {w : World} {v : Int} (hb : ∀ i, (nm l).map (·.1) = some i → i = v) : ∀ t r, nmV l = some (t, r) → (tk [45] l).dropWhile dg = r ∧ VA F w t [.int .i64 2, .int .i64 v, .string ⟨#[]⟩, .slice none 0 0, .slice none 0 0] := by
  intro t r e
  unfold nmV at e
  cases hq : nm l with
  | none => rw [hq] at e; cases e
  | some x =>
    obtain ⟨i, r'⟩ := x
    rw [hq] at e
    cases e
    have := hb i (by rw [hq]; rfl)
    subst this
    exact ⟨(nm_rest hq).symm, VA.leaf 2 i []⟩
theorem nmV_some (l : List UInt8) : (nmV l).isSome = (nmB (spl l)).isSome := by
  rw [nmB_spl]; unfold nmV; cases nm l <;> rfl
set_option maxHeartbeats 4000000 in
theorem inRange_d (n : Int) (w : World) : Calls Tryz.prog 83 #[.int .i64 n] w fun e w' => e = .returned (.bool (decide (-9007199254740991 ≤ n ∧ n ≤ 9007199254740991))) ∧ w' = w := by
  by_cases h1 : -9007199254740991 ≤ n
  · by_cases h2 : n ≤ 9007199254740991
    · have e : decide (-9007199254740991 ≤ n ∧ n ≤ 9007199254740991) = true := decide_eq_true ⟨h1, h2⟩
      rw [e]
      have d1 : decide (-9007199254740991 ≤ n) = true := decide_eq_true h1
      have d2 : decide (n ≤ 9007199254740991) = true := decide_eq_true h2
      clear e
      go_enter Tryz.func83, Tryz.ntmps83
      go_wp2
      go_ret
      exact ⟨rfl, rfl⟩
    · have e : decide (-9007199254740991 ≤ n ∧ n ≤ 9007199254740991) = false := decide_eq_false fun h => h2 h.2
      rw [e]
      have d1 : decide (-9007199254740991 ≤ n) = true := decide_eq_true h1
      have d2 : decide (n ≤ 9007199254740991) = false := decide_eq_false h2
      clear e
      go_enter Tryz.func83, Tryz.ntmps83
      go_wp2
      go_ret
      exact ⟨rfl, rfl⟩
  · have e : decide (-9007199254740991 ≤ n ∧ n ≤ 9007199254740991) = false := decide_eq_false fun h => h1 h.1
    rw [e]
    have d1 : decide (-9007199254740991 ≤ n) = false := decide_eq_false h1
    clear e
    go_enter Tryz.func83, Tryz.ntmps83
    go_wp2
    go_ret
    exact ⟨rfl, rfl⟩
def AtO (s : List UInt8) : Option Int := match Lib.atoiAll s with
  | .ok v => some v
  | _ => none
theorem atoi_d (s : List UInt8) (hs : s.length ≤ 1000000) {w : World} (hT : Ev w) : Calls Tryz.prog 149 #[.string (st s)] w fun e w' => ∃ v ev, e = .returned (.tuple #[.int .i64 v, ev]) ∧ Below w.heap.size w w' ∧ -9223372036854775808 ≤ v ∧ v ≤ 9223372036854775807 ∧ ((AtO s = some v ∧ ev = .nilIface) ∨ (AtO s = none ∧ ∃ N, ev = .iface 234 (.pointer (some ⟨N, 0, none⟩)))) := by
  have hz : (st s).size = s.length := st_size s
  cases hq : Lib.atoiAll s with
  | ok v =>
    obtain ⟨b0, b1⟩ := Lib.atoiAll_bounds hq
    refine (strconv_Atoi_ok (st s) (by omega) v hq w).mono ?_
    rintro e w' ⟨rfl, hW⟩
    refine ⟨v, _, rfl, ?_, b0, b1, .inl ⟨by unfold AtO; rw [hq], rfl⟩⟩
    rcases hW with rfl | ⟨t, rfl⟩
    · exact Below.refl _ _
    · exact Lib.bytesWorld_below _ _ _
  | «syntax» =>
    obtain ⟨te, pe, h1⟩ := hT.es
    refine (strconv_Atoi_syntax (st s) (by omega) hq _ w h1 (.inr ⟨te, pe, rfl⟩)).mono ?_
    rintro e w' ⟨N, rfl, -, -, hb⟩
    exact ⟨0, _, rfl, hb, by omega, by omega, .inr ⟨by unfold AtO; rw [hq], N, rfl⟩⟩
  | range =>
    obtain ⟨te, pe, h1⟩ := hT.er
    have hb := Lib.atoiSat_bounds s
    refine (strconv_Atoi_range (st s) (by omega) hq _ w h1 (.inr ⟨te, pe, rfl⟩)).mono ?_
    rintro e w' ⟨N, rfl, -, -, hw⟩
    exact ⟨_, _, rfl, hw, hb.1, hb.2, .inr ⟨by unfold AtO; rw [hq], N, rfl⟩⟩
theorem nmB_at (s : List UInt8) : nmB s = match AtO s with
    | some n => if Lib.itoa n = s ∧ -9007199254740991 ≤ n ∧ n ≤ 9007199254740991 then some n else none
    | none => none := by
  unfold nmB AtO
  cases Lib.atoiAll s <;> rfl
theorem Kg.grow {g : Nat} {w w' : World} (h : ∃ k os, w' = Go.Sort.grow (w.drewN k) os) : Kg g w w' := by
  obtain ⟨k, os, rfl⟩ := h
  refine ⟨rfl, rfl, rfl, ?_, fun q hq _ => ?_⟩
  · simp [Go.Sort.grow]
  · show (w.heap ++ os)[q]? = w.heap[q]?
    rw [Array.getElem?_append_left hq]
theorem below_grow {w w' : World} (h : ∃ k os, w' = Go.Sort.grow (w.drewN k) os) : Below w.heap.size w w' := by
  obtain ⟨k, os, rfl⟩ := h
  refine ⟨rfl, rfl, rfl, ?_, fun q hq => ?_⟩
  · simp [Go.Sort.grow]
  · show (w.heap ++ os)[q]? = w.heap[q]?
    rw [Array.getElem?_append_left hq]
theorem trimP (l : List UInt8) (w : World) : Calls Tryz.prog 148 #[.string (st l), .string (st [45])] w fun e w' => e = .returned (.string (st (tk [45] l))) ∧ w' = w := strings_TrimPrefix (st l) (st [45]) w
theorem trimX (l : List UInt8) (hl : l.length ≤ 1000000) (w : World) : Calls Tryz.prog 124 #[.string (st l), .string (st ((tk [45] l).dropWhile dg))] w fun e w' => e = .returned (.string (st (spl l))) ∧ w' = w := by
  have h := strings_TrimSuffix (st l) (st ((tk [45] l).dropWhile dg)) w (by rw [st_size]; omega)
  have e : (⟨(Lib.trimSuffix (st l).data.toList (st ((tk [45] l).dropWhile dg)).data.toList).toArray⟩ : ByteArray) = st (spl l) := by
    rw [st_data, st_data, trimS]; rfl
  rw [e] at h
  exact h
theorem spl_le (l : List UInt8) : (spl l).length ≤ l.length := by
  have := congrArg List.length (spl_all l)
  rw [List.length_append] at this
  omega
theorem st_eq (a b : List UInt8) : ((st a).toList == (st b).toList) = decide (a = b) := by
  rw [ByteArray.toList_eq, ByteArray.toList_eq, st_data, st_data, Bool.eq_iff_iff]
  simp
set_option maxHeartbeats 8000000 in
theorem number_d {w : World} {g : Nat} {l : List UInt8} {d : Int} (h : Rd w g l d) (hT : Ev w) (hg : 7 < g) (hN : l.length ≤ 1000000) : Calls Tryz.prog 98 #[.pointer (some ⟨g, 0, none⟩)] w (AnV g d w (nmV l)) := by
  have hl := h.lt
  have hN2 := spl_le l
  have ha0 := h.alloc (.cells zV Vt)
  have c0 : (w.alloc (.cells #[.int .i64 0, .int .i64 0, .string ⟨#[]⟩, .slice none 0 0, .slice none 0 0] 55)).cell? ⟨g, 0, none⟩ = some (.string (st l)) := ha0.c0
  have e0 := hT.kg (Kg.alloc w (.cells zV Vt)) hg hl
  go_enter Tryz.func98, Tryz.ntmps98
  go_wp2_with fail
  refine (show Calls Tryz.prog 148 #[.string (st l), .string (st [45])] _ _ from trimP l _).mono ?_
  rintro e w1 ⟨rfl, rfl⟩
  go_wp2_with fail
  refine (trim_f (tk [45] l) _).mono ?_
  rintro e w1 ⟨rfl, b1⟩
  have r1 := ha0.later b1
  have k1 : Kg g (w.alloc (.cells zV Vt)) w1 := Kg.of b1
  have e1 := e0.kg k1 hg ha0.lt
  have c1 := r1.c0
  have f1 := r1.fr (k := 0)
  have hX := trimX l hN
  obtain ⟨r2, k2⟩ := r1.set ((tk [45] l).dropWhile dg)
  have e2 := e1.kg k2 hg r1.lt
  have hnr := fun F wv v => nmV_of (l := l) (F := F) (w := wv) (v := v)
  generalize hbe : (tk [45] l).dropWhile dg = be at *
  clear hbe
  clear b1 e0 ha0 c0
  replace r1 := hide1 r1
  replace k1 := hide1 (k1.trans k2)
  replace hnr := hide1 hnr
  replace e1 := hide1 e1
  go_wp2_with fail
  refine (hX w1).mono ?_
  rintro e w2 ⟨rfl, rfl⟩
  replace r2 := hide1 r2
  replace k2 := hide1 k2
  have hA := atoi_d (spl l) (by omega) e2
  replace e2 := hide1 e2
  replace hN := hide1 hN
  replace hN2 := hide1 hN2
  clear hX
  go_wp2_with fail
  refine hA.mono ?_
  rintro e w3 ⟨v, ev, rfl, b3, v0, v1, hev⟩
  have r3 := hide1 (r2.out.later b3)
  have k3 := hide1 (k1.out.trans (Kg.of b3))
  have e3 := hide1 (e2.out.kg (Kg.of b3) hg r2.out.lt)
  clear hA b3 r1 r2 k2 k1 e2 e1
  have hr := after_own h _ k3.out
  rcases hev with ⟨hat, rfl⟩ | ⟨hat, N, rfl⟩
  · have hI := strconv_Itoa v v0 v1 w3 e3.out.pw
    have hnb := nmB_at (spl l)
    rw [hat] at hnb
    have hse := st_eq (Lib.itoa v) (spl l)
    have hst : (⟨(Lib.itoa v).toArray⟩ : ByteArray) = st (Lib.itoa v) := rfl
    rw [hst] at hI
    have hall : ∀ w4 (b : Bool), Kg g w3 w4 → Rd w4 g be d → b = (nmB (spl l)).isSome → (∀ i, nmB (spl l) = some i → i = v) → AnV g d w (nmV l) (.returned (.tuple #[.agg #[.int .i64 2, .int .i64 v, .string ⟨#[]⟩, .slice none 0 0, .slice none 0 0], .bool b])) (w4.setRow w.heap.size #[.int .i64 2, .int .i64 v, .string ⟨#[]⟩, .slice none 0 0, .slice none 0 0]) := fun w4 b k4 r4 hb hv =>
      AnV.box hl (k3.out.trans k4) r4 rfl (by kernel_rfl) (by rw [nmV_some]; exact hb) (hnr.out _ w4 v (fun i hi => hv i (by rw [nmB_spl]; exact hi)))
    have hrr : ∀ w4, Kg g w3 w4 → w4.heap[w.heap.size]? = _ := fun w4 k4 => after_own h _ (k3.out.trans k4)
    replace hall := hide1 hall
    replace hrr := hide1 hrr
    have hn1 : Lib.itoa v = spl l → nmB (spl l) = if -9007199254740991 ≤ v ∧ v ≤ 9007199254740991 then some v else none := fun heq => by
      rw [hnb]
      simp only [heq, true_and]
    have hn2 : ¬ Lib.itoa v = spl l → nmB (spl l) = none := fun heq => by
      rw [hnb]
      simp only [heq, false_and, if_false]
    clear hnb
    generalize Lib.itoa v = iv at *
    replace h := hide1 h
    clear hnr hat
    by_cases heq : iv = spl l
    · have hq : ((st iv).toList == (st (spl l)).toList) = true := by rw [hse]; exact decide_eq_true heq
      have hv := inRange_d v
      have hnb2 := hide1 (hn1 heq)
      clear hse hn1 hn2 heq
      go_wp2_with fail
      refine hI.mono ?_
      rintro e w4 ⟨rfl, hW⟩
      have b4 := below_grow hW
      have k4 : Kg g w3 w4 := Kg.of b4
      have r4 := r3.out.later b4
      have hr4 := hrr.out w4 k4
      have hz := hide1 (setRow_heap w4 w.heap.size _ #[.int .i64 2, .int .i64 v, .string ⟨#[]⟩, .slice none 0 0, .slice none 0 0] _ _ hr4)
      have ha := hide1 (hall.out w4 (decide (-9007199254740991 ≤ v ∧ v ≤ 9007199254740991)) k4 r4 (by
        rw [hnb2.out]
        split
        · rename_i hc; simp [hc]
        · rename_i hc; simp [hc]) (fun i hi => by
        rw [hnb2.out] at hi
        split at hi
        · cases hi; rfl
        · cases hi))
      clear hI hW b4 k4 r4 hrr hall r3 k3 e3 hr
      go_wp2_with fail
      refine (hv w4).mono ?_
      rintro e w5 ⟨rfl, rfl⟩
      generalize decide (-9007199254740991 ≤ v ∧ v ≤ 9007199254740991) = b5 at *
      clear hv
      go_wp2_with (refine wpList_store_row rfl Vt (.tmp 2) (.tmp 30) rfl w.heap.size #[.int .i64 2, .int .i64 v, .string ⟨#[]⟩, .slice none 0 0, .slice none 0 0] rfl rfl Vt _ hr4 (by kernel_rfl) rfl (by kernel_rfl) ?_)
      refine bodyPost_ret (results_vt rfl _ rfl rfl hz.out) rfl ?_
      exact ha.out
    · have hq : ((st iv).toList == (st (spl l)).toList) = false := by rw [hse]; exact decide_eq_false heq
      have hnb2 := hide1 (hn2 heq)
      clear hse hn1 hn2
      replace heq := hide1 heq
      go_wp2_with fail
      refine hI.mono ?_
      rintro e w4 ⟨rfl, hW⟩
      have b4 := below_grow hW
      have k4 : Kg g w3 w4 := Kg.of b4
      have r4 := r3.out.later b4
      have hr4 := hrr.out w4 k4
      have hz := hide1 (setRow_heap w4 w.heap.size _ #[.int .i64 2, .int .i64 v, .string ⟨#[]⟩, .slice none 0 0, .slice none 0 0] _ _ hr4)
      have ha := hide1 (hall.out w4 false k4 r4 (by rw [hnb2.out]; rfl) (fun i hi => by rw [hnb2.out] at hi; cases hi))
      clear hI hW b4 k4 r4 hrr hall r3 k3 e3 hr
      go_wp2_with (refine wpList_store_row rfl Vt (.tmp 2) (.tmp 30) rfl w.heap.size #[.int .i64 2, .int .i64 v, .string ⟨#[]⟩, .slice none 0 0, .slice none 0 0] rfl rfl Vt _ hr4 (by kernel_rfl) rfl (by kernel_rfl) ?_)
      refine bodyPost_ret (results_vt rfl _ rfl rfl hz.out) rfl ?_
      exact ha.out
  · have hnb : nmB (spl l) = none := by rw [nmB_at, hat]
    have ha := hide1 (AnV.box (o := nmV l) (b := false) (c := #[.int .i64 2, .int .i64 v, .string ⟨#[]⟩, .slice none 0 0, .slice none 0 0]) hl k3.out r3.out rfl (by kernel_rfl) (by rw [nmV_some, hnb]; rfl) (fun t r e => by
      have := nmV_some l
      rw [e, hnb] at this
      cases this))
    have hz := hide1 (setRow_heap w3 w.heap.size _ #[.int .i64 2, .int .i64 v, .string ⟨#[]⟩, .slice none 0 0, .slice none 0 0] _ _ hr)
    clear r3 k3 e3 hnr hat hnb
    replace h := hide1 h
    go_wp2_with (refine wpList_store_row rfl Vt (.tmp 2) (.tmp 30) rfl w.heap.size #[.int .i64 2, .int .i64 v, .string ⟨#[]⟩, .slice none 0 0, .slice none 0 0] rfl rfl Vt _ hr (by kernel_rfl) rfl (by kernel_rfl) ?_)
    refine bodyPost_ret (results_vt rfl _ rfl rfl hz.out) rfl ?_
    exact ha.out
theorem Rd.set1 {w : World} {g : Nat} {l : List UInt8} {d : Int} (h : Rd w g l d) (d' : Int) : Rd (w.setCell ⟨g, 1, none⟩ (.int .i64 d')) g l d' ∧ Kg g w (w.setCell ⟨g, 1, none⟩ (.int .i64 d')) := by
  have e : w.setCell ⟨g, 1, none⟩ (.int .i64 d') = w.setRow g #[.string (st l), .int .i64 d'] := by
    rw [setCell_eq_setRow w g 1 _ _ (0, 0) _ h]; rfl
  rw [e]
  exact ⟨setRow_heap w g _ _ _ _ h, Kg.row _⟩
def Bx (w : World) (q g : Nat) : Prop := w.heap[q]? = some (.cells #[.pointer (some ⟨g, 0, none⟩)] 93 (0, 0))
theorem Bx.cell {w : World} {q g : Nat} (h : Bx w q g) : w.cell? ⟨q, 0, none⟩ = some (.pointer (some ⟨g, 0, none⟩)) := by simp [World.cell?, show w.heap[q]? = _ from h]
theorem Bx.lt {w : World} {q g : Nat} (h : Bx w q g) : q < w.heap.size := (Array.getElem?_eq_some_iff.1 h).1
theorem Bx.kg {w w' : World} {q g : Nat} (h : Bx w q g) (k : Kg g w w') (hn : q ≠ g) : Bx w' q g := (k.block q h.lt hn).trans h
set_option maxHeartbeats 4000000 in
theorem back_d {w : World} {g q : Nat} {l : List UInt8} {d : Nat} (h : Rd w g l ((d : Int) + 1)) (hq : Bx w q g) (hd : d ≤ 8) (u : FrameMode) :
    CallsD Tryz.prog 191 #[.pointer (some ⟨q, 0, none⟩)] u w fun e u' w' => u' = u ∧ (e = .returned (.tuple #[]) ∧ w' = w.setCell ⟨g, 1, none⟩ (.int .i64 (d : Nat))) := by
  have c0 := hq.cell
  have c1 := h.c1
  have f1 := h.fr (k := 1)
  replace h := hide1 h
  replace hq := hide1 hq
  go_enter_d Tryz.func191, Tryz.ntmps191
  go_wp2
  refine bodyPost_end (results_none rfl _ _ _) rfl ⟨rfl, ?_⟩
  first
  | rfl
  | (congr 2; omega)
  | (congr 2; simp)
theorem row_leave {fn : Func} (hfn : fn.results = #[.tmp 8]) {w : World} {g q : Nat} {l : List UInt8} {d : Nat} {tmps : Array Value} {v : Bool} {R : Ending → World → Prop} (h : Rd w g l ((d : Int) + 1)) (hq : Bx w q g) (hd : d ≤ 8) (ht : tmps.getD 8 undef = .bool v)
    (hR : R (.returned (.bool v)) (w.setCell ⟨g, 1, none⟩ (.int .i64 (d : Nat)))) :
    Leaves Tryz.prog fn tmps R [{ target := .fn (.func 191) #[.pointer (some ⟨q, 0, none⟩)], args := #[] }] .returning w := by
  refine leaves_cons (by simp) (f := 191) (args := #[.pointer (some ⟨q, 0, none⟩)]) (by kernel_rfl) ?_
  refine (back_d h hq hd _).mono ?_
  rintro e u' w' ⟨rfl, rfl, rfl⟩
  refine ⟨_, ?_, hR⟩
  have ht2 : tmps[8]?.getD undef = .bool v := by simpa using ht
  simp [results, hfn, ht2]
def rwD {α : Type} (one : List UInt8 → Option (α × List UInt8)) (b e : UInt8) (d : Nat) (l : List UInt8) : Option (List α × List UInt8) := if 8 ≤ d then none else rw' one b e l
section
variable {α : Type} {one : List UInt8 → Option (α × List UInt8)} {I : List α → World → Prop} {J : World → Prop} {g : Nat}
def AnW (I : List α → World → Prop) (J : World → Prop) (g : Nat) (d : Int) (o : Option (List α × List UInt8)) (e : Ending) (w' : World) : Prop :=
  ∃ m, e = .returned (.bool o.isSome) ∧ Rd w' g m d ∧ J w' ∧ ∀ xs r, o = some (xs, r) → m = r ∧ I xs w'
structure Wi (one : List UInt8 → Option (α × List UInt8)) (I : List α → World → Prop) (g : Nat) (e : UInt8) (d N q : Nat) (o : Option (List α × List UInt8)) (wr : World) (xs : List α) (m : List UInt8) (n : Nat) : Prop where
  rd : Rd wr g m ((d : Int) + 1)
  bx : Bx wr q g
  iv : I xs wr
  le : m.length ≤ n
  ln : xs.length + m.length ≤ N
  eq : its one e n xs m = o
set_option maxHeartbeats 8000000 in
theorem row_d {K : Nat} {cap : Array Value} (he : ∀ args w, (callFunc K args).run Tryz.prog w = .ok (.enter K args) w)
    (hI : ∀ xs w w', I xs w → Kg g w w' → I xs w') (hJ : ∀ w w', J w → Kg g w w' → J w') (hIJ : ∀ xs w, I xs w → J w)
    (hle : ∀ l x r, one l = some (x, r) → r.length ≤ l.length) {b e : UInt8} {w : World} {l : List UInt8} {d : Nat} (hd : d ≤ 8) (h : Rd w g l (d : Nat)) (hw : I [] w)
    (hone : d < 8 → ∀ xs m w, Rd w g m ((d : Int) + 1) → I xs w → xs.length + m.length ≤ l.length → Calls Tryz.prog K cap w fun ed w' => ∃ m', ed = .returned (.bool (one m).isSome) ∧ Rd w' g m' ((d : Int) + 1) ∧ (∀ q, q < w.heap.size → q ≠ g → Bx w q g → Bx w' q g) ∧ J w' ∧ ∀ x r, one m = some (x, r) → m' = r ∧ I (xs ++ [x]) w') :
    Calls Tryz.prog 152 #[.pointer (some ⟨g, 0, none⟩), .string (st [b]), .string (st [e]), .func (.func K) #[] cap] w (AnW I J g (d : Nat) (rwD one b e d l)) := by
  have hgl := h.lt
  have c1 : (w.alloc (.cells #[.pointer (some ⟨g, 0, none⟩)] 93)).cell? ⟨g, 1, none⟩ = some (.int .i64 (d : Nat)) := (h.alloc _).c1
  have f1 : (w.alloc (.cells #[.pointer (some ⟨g, 0, none⟩)] 93)).frozen? ⟨g, 1, none⟩ = false := (h.alloc _).fr
  obtain ⟨h2, k2⟩ := h.set1 ((d : Int) + 1)
  have hsz : (w.setCell ⟨g, 1, none⟩ (.int .i64 ((d : Int) + 1))).heap.size = w.heap.size := by simp
  have hb2 : Bx ((w.setCell ⟨g, 1, none⟩ (.int .i64 ((d : Int) + 1))).alloc (.cells #[.pointer (some ⟨g, 0, none⟩)] 93)) w.heap.size g := by
    show ((w.setCell ⟨g, 1, none⟩ (.int .i64 ((d : Int) + 1))).heap.push _)[w.heap.size]? = _
    rw [← hsz, Array.getElem?_push, if_pos rfl]
  have i2 := hI _ _ _ (hI _ _ _ hw k2) (Kg.alloc _ (.cells #[.pointer (some ⟨g, 0, none⟩)] 93))
  replace h2 := h2.alloc (.cells #[.pointer (some ⟨g, 0, none⟩)] 93)
  have c2 : ((w.setCell ⟨g, 1, none⟩ (.int .i64 ((d : Int) + 1))).alloc (.cells #[.pointer (some ⟨g, 0, none⟩)] 93)).cell? ⟨g, 1, none⟩ = some (.int .i64 ((d : Int) + 1)) := h2.c1
  replace h2 := hide1 h2
  replace hb2 := hide1 hb2
  replace i2 := hide1 i2
  replace h := hide1 h
  replace hw := hide1 hw
  replace hone := hide1 hone
  replace hI := hide1 hI
  replace hIJ := hide1 hIJ
  replace hJ := hide1 hJ
  replace hle := hide1 hle
  clear hsz k2
  by_cases hd8 : 8 ≤ d
  · have hd9 : (8 : Int) < (d : Int) + 1 := by omega
    have ho : rwD one b e d l = none := by unfold rwD; rw [if_pos hd8]
    rw [ho]
    have j2 := hide1 (hIJ.out _ _ i2.out)
    go_enter_defers Tryz.func152, Tryz.ntmps152
    go_wp2
    obtain ⟨h3, k3⟩ := h2.out.set1 (d : Int)
    refine row_leave rfl h2.out hb2.out hd rfl ⟨l, rfl, h3, hJ.out _ _ j2.out k3, fun _ _ e => nomatch e⟩
  · have hd9 : (d : Int) + 1 ≤ 8 := by omega
    have ho : rwD one b e d l = rw' one b e l := by unfold rwD; rw [if_neg hd8]
    rw [ho]
    clear ho
    have hsl := sk_le l
    have htl := tk_le [b] (sk l)
    have hsl2 := sk_le (tk [b] (sk l))
    generalize hro : rw' one b e l = o
    unfold rw' at hro
    go_enter_defers Tryz.func152, Tryz.ntmps152
    go_wp2_with fail
    refine (sign_d h2.out).mono ?_
    rintro ed w3 ⟨rfl, h3, k3⟩
    have hb3 := hb2.out.kg k3 (by omega)
    have i3 := hI.out _ _ _ i2.out k3
    have c3 := hb3.cell
    have hqg : w.heap.size ≠ g := by omega
    generalize w.heap.size = q at *
    replace hb3 := hide1 hb3
    replace i3 := hide1 i3
    clear h2 hb2 i2 c2 c1 f1 k3 h hw
    cases hb1 : hp [b] (sk l) with
    | false =>
      rw [if_neg (by simp [hb1])] at hro
      obtain ⟨h4, k4⟩ := h3.set1 (d : Int)
      have ha : Hid (AnW I J g (d : Nat) o (.returned (.bool false)) (w3.setCell ⟨g, 1, none⟩ (.int .i64 (d : Nat)))) := hide1 (by rw [← hro]; exact ⟨_, rfl, h4, hJ.out _ _ (hIJ.out _ _ i3.out) k4, fun _ _ e => nomatch e⟩)
      replace h3 := hide1 h3
      clear h4 k4 hb1 hro
      go_wp2
      exact row_leave rfl h3.out hb3.out hd rfl ha.out
    | true =>
      rw [if_pos hb1] at hro
      clear hb1
      generalize tk [b] (sk l) = l1 at *
      go_wp2_with fail
      refine (sign_d h3).mono ?_
      rintro ed w4 ⟨rfl, h4, k4⟩
      have hb4 := hb3.out.kg k4 hqg
      have i4 := hI.out _ _ _ i3.out k4
      have c4 := hb4.cell
      replace hb4 := hide1 hb4
      replace i4 := hide1 i4
      clear h3 hb3 i3 c3 k4
      cases he1 : hp [e] (sk l1) with
      | true =>
        rw [if_pos he1] at hro
        obtain ⟨h5, k5⟩ := h4.set1 (d : Int)
        have ha : Hid (AnW I J g (d : Nat) o (.returned (.bool true)) (w4.setCell ⟨g, 1, none⟩ (.int .i64 (d : Nat)))) := hide1 (by rw [← hro]; exact ⟨_, rfl, h5, hJ.out _ _ (hIJ.out _ _ i4.out) k5, fun _ _ e => by cases e; exact ⟨rfl, hI.out _ _ _ i4.out k5⟩⟩)
        replace h4 := hide1 h4
        clear h5 k5 he1 hro
        go_wp2
        exact row_leave rfl h4.out hb4.out hd rfl ha.out
      | false =>
        rw [if_neg (by simp [he1])] at hro
        rw [tk_no he1] at h4
        have hi : Hid (Wi one I g e d l.length q o w4 [] (sk l1) l.length) := hide1 ⟨h4, hb4.out, i4.out, by omega, by simp; omega, hro⟩
        clear he1 h4 hb4 i4 c4 hro hsl hsl2 htl
        go_wp2_with fail
        go_loopw [32] (fun _ wr => ∃ xs m n, Hid (Wi one I g e d l.length q o wr xs m n)) (fun _ wr => lft g wr)
        case atStart => exact ⟨_, _, _, hi⟩
        case round =>
          obtain ⟨xs, m, n, hi⟩ := hrel
          have hlft := hi.out.rd.lft
          have hc := hone.out (by omega) xs m wr hi.out.rd hi.out.iv hi.out.ln
          go_wp2_with fail
          refine hc.mono ?_
          rintro ed w5 ⟨m5, rfl, h5, hbk, j5, hx⟩
          have hb5 := hbk q hi.out.bx.lt hqg hi.out.bx
          have c5 := hb5.cell
          clear hc hbk
          cases h1 : one m with
          | none =>
            have ho := its_non (e := e) (n := n) (xs := xs) h1
            rw [hi.out.eq] at ho
            obtain ⟨h6, k6⟩ := h5.set1 (d : Int)
            have ha : Hid (AnW I J g (d : Nat) o (.returned (.bool false)) (w5.setCell ⟨g, 1, none⟩ (.int .i64 (d : Nat)))) := hide1 (by rw [ho]; exact ⟨_, rfl, h6, hJ.out _ _ j5 k6, fun _ _ e => nomatch e⟩)
            replace h5 := hide1 h5
            replace hb5 := hide1 hb5
            clear h6 k6 ho h1 hx hi j5 hlft
            go_wp2
            exact row_leave rfl h5.out hb5.out hd rfl ha.out
          | some y =>
            obtain ⟨x, r⟩ := y
            obtain ⟨rfl, i5⟩ := hx x r h1
            clear hx
            go_wp2_with fail
            refine (sign_d h5).mono ?_
            rintro ed w6 ⟨rfl, h6, k6⟩
            have hb6 := hb5.kg k6 hqg
            have i6 := hI.out _ _ _ i5 k6
            have c6 := hb6.cell
            cases he1 : hp [e] (sk m5) with
            | true =>
              have ho := its_end (n := n) (xs := xs) h1 he1
              rw [hi.out.eq] at ho
              obtain ⟨h7, k7⟩ := h6.set1 (d : Int)
              have ha : Hid (AnW I J g (d : Nat) o (.returned (.bool true)) (w6.setCell ⟨g, 1, none⟩ (.int .i64 (d : Nat)))) := hide1 (by rw [ho]; exact ⟨_, rfl, h7, hJ.out _ _ (hIJ.out _ _ i6) k7, fun _ _ e => by cases e; exact ⟨rfl, hI.out _ _ _ i6 k7⟩⟩)
              replace h6 := hide1 h6
              replace hb6 := hide1 hb6
              clear h7 k7 ho h1 he1 hi i6 i5 h5 hb5 k6 j5 c5 hlft
              go_wp2
              exact row_leave rfl h6.out hb6.out hd rfl ha.out
            | false =>
              rw [tk_no he1] at h6
              clear h5 hb5 i5 j5 c5 k6
              go_wp2_with fail
              refine (show Calls Tryz.prog 192 #[.pointer (some ⟨g, 0, none⟩), .string (st [44])] w6 _ from sign_d h6).mono ?_
              rintro ed w7 ⟨rfl, h7, k7⟩
              have hb7 := hb6.kg k7 hqg
              have i7 := hI.out _ _ _ i6 k7
              have c7 := hb7.cell
              rw [sk_sk] at h7 ⊢
              cases hc1 : hp [44] (sk m5) with
              | false =>
                have ho := its_bad (n := n) (xs := xs) h1 he1 hc1
                rw [hi.out.eq] at ho
                obtain ⟨h8, k8⟩ := h7.set1 (d : Int)
                have ha : Hid (AnW I J g (d : Nat) o (.returned (.bool false)) (w7.setCell ⟨g, 1, none⟩ (.int .i64 (d : Nat)))) := hide1 (by rw [ho]; exact ⟨_, rfl, h8, hJ.out _ _ (hIJ.out _ _ i7) k8, fun _ _ e => nomatch e⟩)
                replace h7 := hide1 h7
                replace hb7 := hide1 hb7
                clear h8 k8 ho h1 he1 hc1 hi i7 i6 h6 hb6 k7 c6 hlft
                go_wp2
                exact row_leave rfl h7.out hb7.out hd rfl ha.out
              | true =>
                have a1 := hle.out _ _ _ h1
                have a2 := sk_le m5
                have a3 := tk_lt hc1
                have a4 := hi.out.le
                have a5 := hi.out.ln
                have a6 := h7.lft
                cases n with
                | zero => omega
                | succ n =>
                  have hi2 : Hid (Wi one I g e d l.length q o w7 (xs ++ [x]) (tk [44] (sk m5)) n) := hide1 ⟨h7, hb7, i7, by omega, by rw [List.length_append, List.length_singleton]; omega, by rw [← hi.out.eq, its_go h1 he1 hc1]⟩
                  have hlt : (tk [44] (sk m5)).length < m.length := by omega
                  clear hi h7 hb7 i7 h6 hb6 i6 k7 c6 c7 h1 he1 hc1 a1 a2 a3 a4 a5
                  go_wp2
                  go_roundw
                  case rel => exact ⟨_, _, _, hi2⟩
                  case measure => rw [a6, hlft]; exact hlt
end
structure Lq (g B qr qa qb : Nat) (w0 : World) : Prop where
  hg : 7 < g
  g0 : g < w0.heap.size
  r0 : w0.heap.size ≤ qr
  a0 : w0.heap.size ≤ qa
  b0 : w0.heap.size ≤ qb
  r1 : qr < B
  a1 : qa < B
  b1 : qb < B
  ab : qa ≠ qb
  rb : qr ≠ qb
structure Ls (Pc : List Value → Prop) (SL EL : TypeId) (z g B qr qa qb : Nat) (w0 : World) (v : Value) (cs : List (List Value)) (w : World) : Prop where
  bx : Bx w qr g
  kg : Kg g w0 w
  ev : Ev w
  an : w.heap[qa]? = some (.cells zV Vt (0, 0))
  bb : w.heap[qb]? = some (.cells #[v] SL (0, 0))
  row : w.ownsRow B EL z v cs.length cs.flatten
  bs : B ≤ w.heap.size
  ln : ∀ c ∈ cs, c.length = z ∧ Pc c
structure ApE (SL EL : TypeId) (z B n qb : Nat) (v0 : Value) (xs0 : List Value) (c : Array Value) (w1 w : World) (v : Value) : Prop where
  os : w.os = w1.os
  tp : w.tape = w1.tape
  ou : w.output = w1.output
  hs : w1.heap.size ≤ w.heap.size
  fr : ∀ k, k < w1.heap.size → k ≠ qb → some k ≠ v0.ownBlock → w.heap[k]? = w1.heap[k]?
  gb : ∃ gb cap, v = .slice (some ⟨gb, 0, none⟩) (n + 1) cap ∧ (some gb = v0.ownBlock ∨ w1.heap.size ≤ gb)
  row : w.ownsRow B EL z v (n + 1) (xs0 ++ c.toList)
  bb : w.heap[qb]? = some (.cells #[v] SL (0, 0))
section
variable {Pc : List Value → Prop} {SL EL : TypeId} {z g B qr qa qb : Nat} {w0 w w' : World} {v v' : Value} {cs : List (List Value)} {c : Array Value}
theorem own_kept {w w' : World} {B : Nat} {e : TypeId} {z : Nat} {v : Value} {n : Nat} {xs : List Value} (h : w.ownsRow B e z v n xs) (hk : ∀ k, v.ownBlock = some k → w'.heap[k]? = w.heap[k]?) : w'.ownsRow B e z v n xs := by
  obtain ⟨hl, h | ⟨g, cap, cur, hv, hB, hg, r⟩⟩ := h
  · exact ⟨hl, .inl h⟩
  · exact ⟨hl, .inr ⟨g, cap, cur, hv, hB, (hk g (by rw [hv]; rfl)).trans hg, r⟩⟩
theorem Ls.step (h : Ls Pc SL EL z g B qr qa qb w0 v cs w) (q : Lq g B qr qa qb w0) (k : Kg g w w') : Ls Pc SL EL z g B qr qa qb w0 v cs w' := by
  have h1 := q.g0; have h2 := q.r0; have h3 := q.a0; have h4 := q.b0; have h5 := q.r1; have h6 := q.a1; have h7 := q.b1; have h8 := h.bs
  refine ⟨h.bx.kg k (by omega), h.kg.trans k, h.ev.kg k q.hg (by omega), (k.block qa (by omega) (by omega)).trans h.an, (k.block qb (by omega) (by omega)).trans h.bb, own_kept h.row fun b e => k.block b (h.row.lt b e).2 ?_, Nat.le_trans h8 k.size, h.ln⟩
  have := (h.row.lt b e).1
  omega
theorem Ls.put (h : Ls Pc SL EL z g B qr qa qb w0 v cs w) (q : Lq g B qr qa qb w0) (e : ApE SL EL z B cs.length qb v cs.flatten c w w' v') (hc : c.size = z ∧ Pc c.toList) : Ls Pc SL EL z g B qr qa qb w0 v' (cs ++ [c.toList]) w' := by
  have h1 := q.g0; have h2 := q.r0; have h3 := q.a0; have h4 := q.b0; have h5 := q.r1; have h6 := q.a1; have h7 := q.b1; have h8 := h.bs; have hg := q.hg
  have low : ∀ k, k < B → some k ≠ v.ownBlock := fun k hk e => by
    have := (h.row.lt k e.symm).1
    omega
  have kk : ∀ k, k < B → k ≠ qb → w'.heap[k]? = w.heap[k]? := fun k hk hn => e.fr k (by omega) hn (low k hk)
  refine ⟨(kk qr h5 q.rb).trans h.bx, ?_, h.ev.same fun k hk => kk k (by omega) (by omega), (kk qa h6 q.ab).trans h.an, e.bb, ?_, Nat.le_trans h8 e.hs, ?_⟩
  · exact ⟨e.os.trans h.kg.os, e.tp.trans h.kg.tape, e.ou.trans h.kg.output, Nat.le_trans h.kg.size e.hs, fun k hk hn => (kk k (by omega) (by omega)).trans (h.kg.block k hk hn)⟩
  · have := e.row
    rw [List.length_append, List.length_singleton, List.flatten_append, List.flatten_singleton]
    exact this
  · intro x hx
    rcases List.mem_append.1 hx with hx | hx
    · exact h.ln x hx
    · rw [List.mem_singleton.1 hx]; exact ⟨by simpa using hc.1, hc.2⟩
theorem VA.put {t : T} {x : List Value} (q : Lq g B qr qa qb w0) (e : ApE SL EL z B cs.length qb v cs.flatten c w w' v') (hv : VA (fun k => B ≤ k ∧ some k ≠ v.ownBlock) w t x) : VA (fun k => B ≤ k ∧ some k ≠ v'.ownBlock) w' t x := by
  have h7 := q.b1
  obtain ⟨gb, cap, rfl, hgb⟩ := e.gb
  refine hv.frame (fun k hk hs => e.fr k hs (by have := hk.1; omega) hk.2) (fun k hk hs => ⟨hk.1, fun e2 => ?_⟩)
  have : k = gb := by simpa [Value.ownBlock] using e2
  subst this
  rcases hgb with e | e
  · exact hk.2 e
  · omega
end
def PA (F : Nat → Prop) (w : World) (q : List UInt8 × T) (c : List Value) : Prop := c.head? = some (.string (st q.1)) ∧ VA F w q.2 c.tail
def AnP (g : Nat) (d : Int) (w : World) (o : Option ((List UInt8 × T) × List UInt8)) (e : Ending) (w' : World) : Prop :=
  ∃ c m, e = .returned (.tuple #[.agg c, .bool o.isSome]) ∧ c.size = 6 ∧ c.all (·.oneCell') = true ∧ Rd w' g m d ∧ Kg g w w' ∧ ∀ t r, o = some (t, r) → m = r ∧ PA (w.heap.size ≤ ·) w' t c.toList
def Nmd (c : List Value) : Prop := ∃ s : List UInt8, c.head? = some (.string (st s)) ∧ s.length ≤ 4000000
theorem results_pt {fn : Func} {t u : Tmp} (h : fn.results = #[.cell t Pt, .tmp u]) (tmps : Array Value) {w : World} {b : Nat} {c : Array Value} (ht : tmps.getD t undef = .pointer (some ⟨b, 0, none⟩)) (hs : c.size = 6) (hg : w.heap[b]? = some (.cells c Pt (0, 0))) :
    (results fn tmps).run Tryz.prog w = .ok (.tuple #[.agg c, tmps.getD u undef]) w := by
  have hl := run_loadVar_row (P := Tryz.prog) w b Pt Pt c (0, 0) _ hg Tryz.underlying69 (by rfl) (by rw [hs]; kernel_rfl)
  have ht2 : tmps[t]?.getD undef = .pointer (some ⟨b, 0, none⟩) := by simpa using ht
  simp [results, h, ht2, asAddr, hl, Result.andThen]
theorem arr5 {c : Array Value} (h : c.size = 5) : ∃ a b d e f, c = #[a, b, d, e, f] := by
  refine ⟨c[0], c[1], c[2], c[3], c[4], ?_⟩
  apply Array.ext
  · exact h
  · intro i h1 h2
    have hi : i < 5 := by omega
    match i, hi with
    | 0, _ | 1, _ | 2, _ | 3, _ | 4, _ => simp
    | _ + 5, hi => exact absurd hi (by omega)
def zP : Array Value := #[.string ⟨#[]⟩, .int .i64 0, .int .i64 0, .string ⟨#[]⟩, .slice none 0 0, .slice none 0 0]
theorem ql_len : ∀ (n : Nat) {out l s r : List UInt8}, ql n out l = some (s, r) → s.length ≤ out.length + 4 * l.length
  | n, out, l, s, r, h => by
    cases hh : hp [34] l with
    | true => rw [ql_end hh] at h; cases h; omega
    | false =>
      cases hl : ltr l with
      | none => rw [ql_non hh hl] at h; cases h
      | some x =>
        obtain ⟨c, q⟩ := x
        have := ltr_lt hl
        have := enc_len c
        cases n with
        | zero => rw [ql, if_neg (by simp [hh]), hl] at h; cases h
        | succ n =>
          rw [ql_go hh hl] at h
          have := ql_len n h
          rw [List.length_append] at this
          omega
theorem qt_len {l s r : List UInt8} (h : qt l = some (s, r)) : s.length ≤ 4 * l.length := by
  unfold qt at h
  split at h
  · have := ql_len _ h
    have := tk_le [34] l
    simp at *
    omega
  · cases h
set_option maxHeartbeats 8000000 in
set_option maxRecDepth 100000 in
theorem pair_d {one : List UInt8 → Option (T × List UInt8)} {w : World} {g : Nat} {l : List UInt8} {d : Int} (h : Rd w g l d) (hT : Ev w) (hg : 7 < g) (hN : l.length ≤ 1000000)
    (hone : ∀ m w1, Rd w1 g m d → Ev w1 → m.length ≤ l.length → Calls Tryz.prog 33 #[.pointer (some ⟨g, 0, none⟩)] w1 (AnV g d w1 (one m))) :
    Calls Tryz.prog 155 #[.pointer (some ⟨g, 0, none⟩)] w fun e w' => AnP g d w (pr one l) e w' ∧ ∀ c b, e = .returned (.tuple #[.agg c, .bool b]) → Nmd c.toList := by
  have hl := h.lt
  have hsl := sk_le l
  have h0 := h.alloc (.cells zP Pt)
  have e0 := hT.kg (Kg.alloc w (.cells zP Pt)) hg hl
  have hal : (w.alloc (.cells zP Pt)).heap[w.heap.size]? = some (.cells zP Pt (0, 0)) := by
    show (w.heap.push _)[w.heap.size]? = _
    rw [Array.getElem?_push, if_pos rfl]
  have hkeep : ∀ w', Kg g (w.alloc (.cells zP Pt)) w' → w'.heap[w.heap.size]? = some (.cells zP Pt (0, 0)) := fun w' k => (k.block _ (by simp) (by omega)).trans hal
  have hfail : ∀ w' m, Kg g (w.alloc (.cells zP Pt)) w' → Rd w' g m d → pr one l = none → AnP g d w (pr one l) (.returned (.tuple #[.agg zP, .bool false])) (w'.setRow w.heap.size zP) ∧ ∀ c b, Ending.returned (.tuple #[.agg zP, .bool false]) = .returned (.tuple #[.agg c, .bool b]) → Nmd c.toList := fun w' m k r ho => by
    rw [ho]
    refine ⟨⟨zP, m, rfl, rfl, by kernel_rfl, r.own (by omega) _, ((Kg.alloc w _).trans k).own (Nat.le_refl _) _, fun _ _ e => nomatch e⟩, fun c b e => ?_⟩
    cases e
    exact ⟨[], rfl, by simp⟩
  generalize hpo : pr one l = o at *
  unfold pr at hpo
  go_enter Tryz.func155, Tryz.ntmps155
  go_wp2_with fail
  refine (skip_d h0).mono ?_
  rintro e w1 ⟨rfl, h1, k1⟩
  have e1 := e0.kg k1 hg h0.lt
  clear h0 e0 hal
  replace hkeep := hide1 hkeep
  replace hfail := hide1 hfail
  replace h := hide1 h
  go_wp2_with fail
  refine (quoted_d h1 e1 hg (by omega)).mono ?_
  rintro e w2 ⟨s, m, rfl, h2, k2, hsm⟩
  have k12 := hide1 (k1.trans k2)
  have e2 := hide1 (e1.kg k2 hg h1.lt)
  clear k1 k2 h1 e1
  cases hq : qt (sk l) with
  | none =>
    rw [hq] at hpo
    have hf := hide1 (hfail.out w2 m k12.out h2 hpo.symm)
    have hr := hkeep.out w2 k12.out
    have hz := hide1 (setRow_heap w2 w.heap.size _ zP _ _ hr)
    clear hfail hkeep k12 e2 hsm hq hpo h2 hT
    go_wp2_with (refine wpList_store_row rfl Pt (.tmp 2) (.tmp 21) rfl w.heap.size zP rfl rfl Pt _ hr (by kernel_rfl) rfl (by kernel_rfl) ?_)
    refine bodyPost_ret (results_pt rfl _ rfl rfl hz.out) rfl ?_
    exact hf.out
  | some x =>
    obtain ⟨s', r'⟩ := x
    obtain ⟨rfl, rfl⟩ := hsm s' r' hq
    rw [hq] at hpo
    have hsn := qt_len hq
    have hml := qt_le hq
    clear hsm hq hT
    go_wp2_with fail
    refine (show Calls Tryz.prog 192 #[.pointer (some ⟨g, 0, none⟩), .string (st [58])] w2 _ from sign_d h2).mono ?_
    rintro e w3 ⟨rfl, h3, k3⟩
    have k13 := hide1 (k12.out.trans k3)
    have e3 := hide1 (e2.out.kg k3 hg h2.lt)
    clear k12 e2 h2 k3
    have hsl2 := sk_le m
    have htl := tk_le [58] (sk m)
    cases hc : hp [58] (sk m) with
    | false =>
      have hpn : none = o := by rw [← hpo]; simp [hc]
      have hf := hide1 (hfail.out w3 _ k13.out h3 hpn.symm)
      have hr := hkeep.out w3 k13.out
      have hz := hide1 (setRow_heap w3 w.heap.size _ zP _ _ hr)
      clear hfail hkeep k13 e3 hpo h3 hpn hc
      go_wp2_with (refine wpList_store_row rfl Pt (.tmp 2) (.tmp 21) rfl w.heap.size zP rfl rfl Pt _ hr (by kernel_rfl) rfl (by kernel_rfl) ?_)
      refine bodyPost_ret (results_pt rfl _ rfl rfl hz.out) rfl ?_
      exact hf.out
    | true =>
      simp only [hc, if_true] at hpo
      have hcal := hone (tk [58] (sk m)) w3 h3 e3.out (by omega)
      clear hfail hone hc
      go_wp2_with fail
      refine hcal.mono ?_
      rintro e w4 ⟨c, m4, rfl, hcs, hco, h4, k4, hv⟩
      have k14 := hide1 (k13.out.trans k4)
      have hs3 := k13.out.size
      have hs4 := k4.size
      have hos : (one (tk [58] (sk m))).isSome = o.isSome := by
        rw [← hpo]
        cases one (tk [58] (sk m)) <;> rfl
      rw [hos]
      have hgl4 := h4.lt
      have hsz0 : w.heap.size < w4.heap.size := by
        have : (w.alloc (.cells zP Pt)).heap.size = w.heap.size + 1 := by simp
        omega
      obtain ⟨c0, c1, c2, c3, c4, rfl⟩ := arr5 hcs
      have hr4 : (w4.alloc (.cells #[.int .i64 0, .int .i64 0, .string ⟨#[]⟩, .slice none 0 0, .slice none 0 0] Vt)).heap[w4.heap.size]? = some (.cells #[.int .i64 0, .int .i64 0, .string ⟨#[]⟩, .slice none 0 0, .slice none 0 0] Vt (0, 0)) := by
        show (w4.heap.push _)[w4.heap.size]? = _
        rw [Array.getElem?_push, if_pos rfl]
      have h5 := setRow_heap _ w4.heap.size _ #[c0, c1, c2, c3, c4] _ _ hr4
      have hal5 : ∀ k, k < w4.heap.size → ((w4.alloc (.cells #[.int .i64 0, .int .i64 0, .string ⟨#[]⟩, .slice none 0 0, .slice none 0 0] Vt)).setRow w4.heap.size #[c0, c1, c2, c3, c4]).heap[k]? = w4.heap[k]? := fun k hk => (setRow_other _ _ k _ (by omega)).trans (by
        show (w4.heap.push _)[k]? = _
        rw [Array.getElem?_push, if_neg (by omega)])
      have hr5 := (hal5 _ hsz0).trans (hkeep.out w4 k14.out)
      have hz := setRow_heap _ w.heap.size _ #[.string (st s), c0, c1, c2, c3, c4] _ _ hr5
      have l0 : ((w4.alloc (.cells #[.int .i64 0, .int .i64 0, .string ⟨#[]⟩, .slice none 0 0, .slice none 0 0] 55)).setRow w4.heap.size #[c0, c1, c2, c3, c4]).cell? ⟨w4.heap.size, 0, none⟩ = some c0 := by simp only [World.cell?, show ((w4.alloc (.cells #[.int .i64 0, .int .i64 0, .string ⟨#[]⟩, .slice none 0 0, .slice none 0 0] 55)).setRow w4.heap.size #[c0, c1, c2, c3, c4]).heap[w4.heap.size]? = _ from h5]; rfl
      have l1 : ((w4.alloc (.cells #[.int .i64 0, .int .i64 0, .string ⟨#[]⟩, .slice none 0 0, .slice none 0 0] 55)).setRow w4.heap.size #[c0, c1, c2, c3, c4]).cell? ⟨w4.heap.size, 1, none⟩ = some c1 := by simp only [World.cell?, show ((w4.alloc (.cells #[.int .i64 0, .int .i64 0, .string ⟨#[]⟩, .slice none 0 0, .slice none 0 0] 55)).setRow w4.heap.size #[c0, c1, c2, c3, c4]).heap[w4.heap.size]? = _ from h5]; rfl
      have l2 : ((w4.alloc (.cells #[.int .i64 0, .int .i64 0, .string ⟨#[]⟩, .slice none 0 0, .slice none 0 0] 55)).setRow w4.heap.size #[c0, c1, c2, c3, c4]).cell? ⟨w4.heap.size, 2, none⟩ = some c2 := by simp only [World.cell?, show ((w4.alloc (.cells #[.int .i64 0, .int .i64 0, .string ⟨#[]⟩, .slice none 0 0, .slice none 0 0] 55)).setRow w4.heap.size #[c0, c1, c2, c3, c4]).heap[w4.heap.size]? = _ from h5]; rfl
      have l3 : ((w4.alloc (.cells #[.int .i64 0, .int .i64 0, .string ⟨#[]⟩, .slice none 0 0, .slice none 0 0] 55)).setRow w4.heap.size #[c0, c1, c2, c3, c4]).cell? ⟨w4.heap.size, 3, none⟩ = some c3 := by simp only [World.cell?, show ((w4.alloc (.cells #[.int .i64 0, .int .i64 0, .string ⟨#[]⟩, .slice none 0 0, .slice none 0 0] 55)).setRow w4.heap.size #[c0, c1, c2, c3, c4]).heap[w4.heap.size]? = _ from h5]; rfl
      have l4 : ((w4.alloc (.cells #[.int .i64 0, .int .i64 0, .string ⟨#[]⟩, .slice none 0 0, .slice none 0 0] 55)).setRow w4.heap.size #[c0, c1, c2, c3, c4]).cell? ⟨w4.heap.size, 4, none⟩ = some c4 := by simp only [World.cell?, show ((w4.alloc (.cells #[.int .i64 0, .int .i64 0, .string ⟨#[]⟩, .slice none 0 0, .slice none 0 0] 55)).setRow w4.heap.size #[c0, c1, c2, c3, c4]).heap[w4.heap.size]? = _ from h5]; rfl
      have ha : AnP g d w o (.returned (.tuple #[.agg #[.string (st s), c0, c1, c2, c3, c4], .bool o.isSome])) (((w4.alloc (.cells #[.int .i64 0, .int .i64 0, .string ⟨#[]⟩, .slice none 0 0, .slice none 0 0] Vt)).setRow w4.heap.size #[c0, c1, c2, c3, c4]).setRow w.heap.size #[.string (st s), c0, c1, c2, c3, c4]) := by
        refine ⟨_, m4, rfl, rfl, ?_, ?_, ?_, fun t r e => ?_⟩
        · simpa [Value.oneCell'] using hco
        · exact ((h4.alloc _).own (by omega) _).own (by omega) _
        · exact ((((Kg.alloc w _).trans k14.out).trans (Kg.alloc _ _)).own (by omega) _).own (by omega) _
        · rw [e] at hpo
          cases hq1 : one (tk [58] (sk m)) with
          | none => rw [hq1] at hpo; cases hpo
          | some y =>
            obtain ⟨tv, tr⟩ := y
            rw [hq1] at hpo
            cases hpo
            obtain ⟨e1, e2⟩ := hv tv r hq1
            refine ⟨e1, rfl, e2.frame (fun k hk hs => (setRow_other _ _ k _ ?_).trans (hal5 k hs)) (fun k hk _ => ?_)⟩
            · have : w3.heap.size ≤ k := hk
              have : (w.alloc (.cells zP Pt)).heap.size = w.heap.size + 1 := by simp
              omega
            · have : w3.heap.size ≤ k := hk
              have : (w.alloc (.cells zP Pt)).heap.size = w.heap.size + 1 := by simp
              show w.heap.size ≤ k
              omega
      have hnm : Nmd [.string (st s), c0, c1, c2, c3, c4] := ⟨s, rfl, by omega⟩
      replace ha := hide1 ha
      replace hz := hide1 hz
      replace hco := hide1 hco
      replace hnm := hide1 hnm
      clear hkeep k13 k14 e3 hpo hv h4 k4 h3 hal5 hos hcal
      replace h5 := hide1 h5
      go_wp2_with (first | refine wpList_store_row rfl Vt (.tmp 6) (.tmp 25) rfl w4.heap.size #[c0, c1, c2, c3, c4] rfl rfl Vt _ hr4 (by kernel_rfl) rfl hco.out ?_ | refine wpList_store_row rfl Pt (.tmp 2) (.tmp 29) rfl w.heap.size #[.string (st s), c0, c1, c2, c3, c4] rfl rfl Pt _ hr5 (by kernel_rfl) rfl (by simpa [Value.oneCell'] using hco.out) ?_)
      refine bodyPost_ret (results_pt rfl _ rfl rfl hz.out) rfl ?_
      refine ⟨ha.out, fun c b e => ?_⟩
      cases e
      exact hnm.out
end Go.Proofs.YtdhmonlhlfkjbaaGreatDoor
