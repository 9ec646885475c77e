/- Plain number theory, without any program: the order of the curve's base point, 2^252 + 27742317777372353535851937790883648493, is prime. No conditions. -/
import Derived.Test.YtidhffaphbiapaaNum
namespace Go.Proofs.Ytidhffaphbiapaa.Num

theorem r11 : IsP 11 := isP_of_tr 11 8 (by decide +kernel) (by decide +kernel)
theorem r23 : IsP 23 := isP_of_tr 23 9 (by decide +kernel) (by decide +kernel)
theorem r409477 : IsP 409477 := isP_of_tr 409477 644 (by decide +kernel) (by decide +kernel)
theorem gr14741173 : Gen 14741173 2 := lucas_pw 14741173 2 24 [2, 2, 3, 3, 409477] (by decide +kernel) (by
  intro q hq
  simp only [List.mem_cons, List.not_mem_nil, or_false] at hq
  rcases hq with rfl | rfl | rfl | rfl | rfl
  · exact p2
  · exact p2
  · exact p3
  · exact p3
  · exact r409477) (by decide +kernel) (by decide +kernel) (by decide +kernel) (by decide +kernel)
theorem r14741173 : IsP 14741173 := gr14741173.prime (by decide +kernel)
theorem gr58964693 : Gen 58964693 2 := lucas_pw 58964693 2 26 [2, 2, 14741173] (by decide +kernel) (by
  intro q hq
  simp only [List.mem_cons, List.not_mem_nil, or_false] at hq
  rcases hq with rfl | rfl | rfl
  · exact p2
  · exact p2
  · exact r14741173) (by decide +kernel) (by decide +kernel) (by decide +kernel) (by decide +kernel)
theorem r58964693 : IsP 58964693 := gr58964693.prime (by decide +kernel)
theorem r30703 : IsP 30703 := isP_of_tr 30703 180 (by decide +kernel) (by decide +kernel)
theorem r82163 : IsP 82163 := isP_of_tr 82163 291 (by decide +kernel) (by decide +kernel)
theorem r132667 : IsP 132667 := isP_of_tr 132667 369 (by decide +kernel) (by decide +kernel)
theorem r137849 : IsP 137849 := isP_of_tr 137849 376 (by decide +kernel) (by decide +kernel)
theorem gr3044861653 : Gen 3044861653679985063343 5 := lucas_pw 3044861653679985063343 5 72 [2, 3, 11, 30703, 82163, 132667, 137849] (by decide +kernel) (by
  intro q hq
  simp only [List.mem_cons, List.not_mem_nil, or_false] at hq
  rcases hq with rfl | rfl | rfl | rfl | rfl | rfl | rfl
  · exact p2
  · exact p3
  · exact r11
  · exact r30703
  · exact r82163
  · exact r132667
  · exact r137849) (by decide +kernel) (by decide +kernel) (by decide +kernel) (by decide +kernel)
theorem r3044861653 : IsP 3044861653679985063343 := gr3044861653.prime (by decide +kernel)
theorem gr1982114232 : Gen 198211423230930754013084525763697 5 := lucas_pw 198211423230930754013084525763697 5 108 [2, 2, 2, 2, 3, 23, 58964693, 3044861653679985063343] (by decide +kernel) (by
  intro q hq
  simp only [List.mem_cons, List.not_mem_nil, or_false] at hq
  rcases hq with rfl | rfl | rfl | rfl | rfl | rfl | rfl | rfl
  · exact p2
  · exact p2
  · exact p2
  · exact p2
  · exact p3
  · exact r23
  · exact r58964693
  · exact r3044861653) (by decide +kernel) (by decide +kernel) (by decide +kernel) (by decide +kernel)
theorem r1982114232 : IsP 198211423230930754013084525763697 := gr1982114232.prime (by decide +kernel)
theorem r269 : IsP 269 := isP_of_tr 269 21 (by decide +kernel) (by decide +kernel)
theorem r73 : IsP 73 := isP_of_tr 73 13 (by decide +kernel) (by decide +kernel)
theorem r307 : IsP 307 := isP_of_tr 307 22 (by decide +kernel) (by decide +kernel)
theorem r5879 : IsP 5879 := isP_of_tr 5879 81 (by decide +kernel) (by decide +kernel)
theorem gr292386187 : Gen 292386187 2 := lucas_pw 292386187 2 29 [2, 3, 3, 3, 3, 307, 5879] (by decide +kernel) (by
  intro q hq
  simp only [List.mem_cons, List.not_mem_nil, or_false] at hq
  rcases hq with rfl | rfl | rfl | rfl | rfl | rfl | rfl
  · exact p2
  · exact p3
  · exact p3
  · exact p3
  · exact p3
  · exact r307
  · exact r5879) (by decide +kernel) (by decide +kernel) (by decide +kernel) (by decide +kernel)
theorem r292386187 : IsP 292386187 := gr292386187.prime (by decide +kernel)
theorem gr213441916511 : Gen 213441916511 13 := lucas_pw 213441916511 13 38 [2, 5, 73, 292386187] (by decide +kernel) (by
  intro q hq
  simp only [List.mem_cons, List.not_mem_nil, or_false] at hq
  rcases hq with rfl | rfl | rfl | rfl
  · exact p2
  · exact p5
  · exact r73
  · exact r292386187) (by decide +kernel) (by decide +kernel) (by decide +kernel) (by decide +kernel)
theorem r213441916511 : IsP 213441916511 := gr213441916511.prime (by decide +kernel)
theorem r1361 : IsP 1361 := isP_of_tr 1361 41 (by decide +kernel) (by decide +kernel)
theorem r2851 : IsP 2851 := isP_of_tr 2851 58 (by decide +kernel) (by decide +kernel)
theorem r41 : IsP 41 := isP_of_tr 41 11 (by decide +kernel) (by decide +kernel)
theorem r43 : IsP 43 := isP_of_tr 43 11 (by decide +kernel) (by decide +kernel)
theorem r531581 : IsP 531581 := isP_of_tr 531581 734 (by decide +kernel) (by decide +kernel)
theorem r1224481 : IsP 1224481 := isP_of_tr 1224481 1111 (by decide +kernel) (by decide +kernel)
theorem gr1257559732178653 : Gen 1257559732178653 2 := lucas_pw 1257559732178653 2 51 [2, 2, 3, 7, 23, 531581, 1224481] (by decide +kernel) (by
  intro q hq
  simp only [List.mem_cons, List.not_mem_nil, or_false] at hq
  rcases hq with rfl | rfl | rfl | rfl | rfl | rfl | rfl
  · exact p2
  · exact p2
  · exact p3
  · exact p7
  · exact r23
  · exact r531581
  · exact r1224481) (by decide +kernel) (by decide +kernel) (by decide +kernel) (by decide +kernel)
theorem r1257559732178653 : IsP 1257559732178653 := gr1257559732178653.prime (by decide +kernel)
theorem gr4434155615661930479 : Gen 4434155615661930479 17 := lucas_pw 4434155615661930479 17 62 [2, 41, 43, 1257559732178653] (by decide +kernel) (by
  intro q hq
  simp only [List.mem_cons, List.not_mem_nil, or_false] at hq
  rcases hq with rfl | rfl | rfl | rfl
  · exact p2
  · exact r41
  · exact r43
  · exact r1257559732178653) (by decide +kernel) (by decide +kernel) (by decide +kernel) (by decide +kernel)
theorem r4434155615661930479 : IsP 4434155615661930479 := gr4434155615661930479.prime (by decide +kernel)
theorem gr1720545939 : Gen 172054593956031949258510691 2 := lucas_pw 172054593956031949258510691 2 88 [2, 5, 1361, 2851, 4434155615661930479] (by decide +kernel) (by
  intro q hq
  simp only [List.mem_cons, List.not_mem_nil, or_false] at hq
  rcases hq with rfl | rfl | rfl | rfl | rfl
  · exact p2
  · exact p5
  · exact r1361
  · exact r2851
  · exact r4434155615661930479) (by decide +kernel) (by decide +kernel) (by decide +kernel) (by decide +kernel)
theorem r1720545939 : IsP 172054593956031949258510691 := gr1720545939.prime (by decide +kernel)
theorem gr1975733030 : Gen 19757330305831588566944191468367130476339 2 := lucas_pw 19757330305831588566944191468367130476339 2 134 [2, 269, 213441916511, 172054593956031949258510691] (by decide +kernel) (by
  intro q hq
  simp only [List.mem_cons, List.not_mem_nil, or_false] at hq
  rcases hq with rfl | rfl | rfl | rfl
  · exact p2
  · exact r269
  · exact r213441916511
  · exact r1720545939) (by decide +kernel) (by decide +kernel) (by decide +kernel) (by decide +kernel)
theorem r1975733030 : IsP 19757330305831588566944191468367130476339 := gr1975733030.prime (by decide +kernel)
theorem gr2766026242 : Gen 276602624281642239937218680557139826668747 2 := lucas_pw 276602624281642239937218680557139826668747 2 138 [2, 7, 19757330305831588566944191468367130476339] (by decide +kernel) (by
  intro q hq
  simp only [List.mem_cons, List.not_mem_nil, or_false] at hq
  rcases hq with rfl | rfl | rfl
  · exact p2
  · exact p7
  · exact r1975733030) (by decide +kernel) (by decide +kernel) (by decide +kernel) (by decide +kernel)
theorem r2766026242 : IsP 276602624281642239937218680557139826668747 := gr2766026242.prime (by decide +kernel)
theorem gr7237005577 : Gen 7237005577332262213973186563042994240857116359379907606001950938285454250989 2 := lucas_pw 7237005577332262213973186563042994240857116359379907606001950938285454250989 2 253 [2, 2, 3, 11, 198211423230930754013084525763697, 276602624281642239937218680557139826668747] (by decide +kernel) (by
  intro q hq
  simp only [List.mem_cons, List.not_mem_nil, or_false] at hq
  rcases hq with rfl | rfl | rfl | rfl | rfl | rfl
  · exact p2
  · exact p2
  · exact p3
  · exact r11
  · exact r1982114232
  · exact r2766026242) (by decide +kernel) (by decide +kernel) (by decide +kernel) (by decide +kernel)
theorem r7237005577 : IsP 7237005577332262213973186563042994240857116359379907606001950938285454250989 := gr7237005577.prime (by decide +kernel)
end Go.Proofs.Ytidhffaphbiapaa.Num
