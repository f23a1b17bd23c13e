/-
  The primes of the curve and of its twist: each shown by a certificate. No program is named here.
-/
import Derived.Test.YtdhoegkphhekfabDoorCvNumTh
namespace Go.Proofs.YtdhoegkphhekfabDoor.Cv

theorem small (n : Nat) (h2 : 2 ≤ n) (h : (List.range n).all (fun m => decide (m < 2) || decide (n % m ≠ 0)) = true) : Pr n := by
  refine ⟨h2, fun m hm => ?_⟩
  have hle := Nat.le_of_dvd (by omega) hm
  by_cases hn : m = n
  · exact .inr hn
  · have := List.all_eq_true.1 h m (List.mem_range.2 (by omega))
    have h0 : n % m = 0 := Nat.mod_eq_zero_of_dvd hm
    have hp : 0 < m := Nat.pos_of_dvd_of_pos hm (by omega)
    simp [h0] at this
    omega
theorem pr991 : Pr 991 := small 991 (by decide) (by decide +kernel)
theorem pr103 : Pr 103 := small 103 (by decide) (by decide +kernel)
theorem pr8574133 : Pr 8574133 := pockD (q := 991) (M := 8652) (q' := 103) (M' := 83244) (a := 2) (a' := 2) (f := 24) pr991 pr103 (by decide) (by decide +kernel) (by decide +kernel) (by decide +kernel) (by decide +kernel) (by decide +kernel) (by decide +kernel) (by decide +kernel) (by decide +kernel) (by decide)
theorem pr127 : Pr 127 := small 127 (by decide) (by decide +kernel)
theorem pr_19195195_16 : Pr 1919519569386763 := pockD (q := 8574133) (M := 223873314) (q' := 127) (M' := 15114327318006) (a := 2) (a' := 2) (f := 51) pr8574133 pr127 (by decide) (by decide +kernel) (by decide +kernel) (by decide +kernel) (by decide +kernel) (by decide +kernel) (by decide +kernel) (by decide +kernel) (by decide +kernel) (by decide)
theorem pr419 : Pr 419 := small 419 (by decide) (by decide +kernel)
theorem pr97 : Pr 97 := small 97 (by decide) (by decide +kernel)
theorem pr569003 : Pr 569003 := pockD (q := 419) (M := 1358) (q' := 97) (M' := 5866) (a := 2) (a' := 2) (f := 20) pr419 pr97 (by decide) (by decide +kernel) (by decide +kernel) (by decide +kernel) (by decide +kernel) (by decide +kernel) (by decide +kernel) (by decide +kernel) (by decide +kernel) (by decide)
theorem pr_27733206_10 : Pr 2773320623 := pockC (q := 569003) (M := 4874) (a := 2) (f := 32) pr569003 (by decide +kernel) (by decide +kernel) (by decide +kernel) (by decide +kernel) (by decide +kernel) (by decide)
theorem pr_72106336_11 : Pr 72106336199 := pockC (q := 2773320623) (M := 26) (a := 2) (f := 37) pr_27733206_10 (by decide +kernel) (by decide +kernel) (by decide +kernel) (by decide +kernel) (by decide +kernel) (by decide)
theorem pr_75445702_35 : Pr 75445702479781427272750846543864801 := pockD (q := 1919519569386763) (M := 39304471641247389600) (q' := 72106336199) (M' := 1046311689884858398375200) (a := 2) (a' := 2) (f := 116) pr_19195195_16 pr_72106336_11 (by decide) (by decide +kernel) (by decide +kernel) (by decide +kernel) (by decide +kernel) (by decide +kernel) (by decide +kernel) (by decide +kernel) (by decide +kernel) (by decide)
theorem pr1723 : Pr 1723 := small 1723 (by decide) (by decide +kernel)
theorem pr430751 : Pr 430751 := pockC (q := 1723) (M := 250) (a := 2) (f := 19) pr1723 (by decide +kernel) (by decide +kernel) (by decide +kernel) (by decide +kernel) (by decide +kernel) (by decide)
theorem pr173 : Pr 173 := small 173 (by decide) (by decide +kernel)
theorem pr4153 : Pr 4153 := pockC (q := 173) (M := 24) (a := 2) (f := 13) pr173 (by decide +kernel) (by decide +kernel) (by decide +kernel) (by decide +kernel) (by decide +kernel) (by decide)
theorem pr_31757755_17 : Pr 31757755568855353 := pockD (q := 430751) (M := 73726481352) (q' := 4153) (M' := 7646943310584) (a := 2) (a' := 2) (f := 55) pr430751 pr4153 (by decide) (by decide +kernel) (by decide +kernel) (by decide +kernel) (by decide +kernel) (by decide +kernel) (by decide +kernel) (by decide +kernel) (by decide +kernel) (by decide)
theorem pr_74058212_71 : Pr 74058212732561358302231226437062788676166966415465897661863160754340907 := pockD (q := 75445702479781427272750846543864801) (M := 981609426360740691344999861639072106) (q' := 31757755568855353) (M' := 2331972502653487852620185443007392165117953542933313402) (a := 2) (a' := 2) (f := 236) pr_75445702_35 pr_31757755_17 (by decide) (by decide +kernel) (by decide +kernel) (by decide +kernel) (by decide +kernel) (by decide +kernel) (by decide +kernel) (by decide +kernel) (by decide +kernel) (by decide)
theorem pr_57896044_77 : Pr 57896044618658097711785492504343953926634992332820282019728792003956564819949 := pockC (q := 74058212732561358302231226437062788676166966415465897661863160754340907) (M := 781764) (a := 2) (f := 255) pr_74058212_71 (by decide +kernel) (by decide +kernel) (by decide +kernel) (by decide +kernel) (by decide +kernel) (by decide)
theorem pr17 : Pr 17 := small 17 (by decide) (by decide +kernel)
theorem pr5 : Pr 5 := small 5 (by decide) (by decide +kernel)
theorem pr2551 : Pr 2551 := pockD (q := 17) (M := 150) (q' := 5) (M' := 510) (a := 2) (a' := 2) (f := 12) pr17 pr5 (by decide) (by decide +kernel) (by decide +kernel) (by decide +kernel) (by decide +kernel) (by decide +kernel) (by decide +kernel) (by decide +kernel) (by decide +kernel) (by decide)
theorem pr1224481 : Pr 1224481 := pockC (q := 2551) (M := 480) (a := 2) (f := 21) pr2551 (by decide +kernel) (by decide +kernel) (by decide +kernel) (by decide +kernel) (by decide +kernel) (by decide)
theorem pr73 : Pr 73 := small 73 (by decide) (by decide +kernel)
theorem pr3797 : Pr 3797 := pockC (q := 73) (M := 52) (a := 2) (f := 12) pr73 (by decide +kernel) (by decide +kernel) (by decide +kernel) (by decide +kernel) (by decide +kernel) (by decide)
theorem pr531581 : Pr 531581 := pockC (q := 3797) (M := 140) (a := 2) (f := 20) pr3797 (by decide +kernel) (by decide +kernel) (by decide +kernel) (by decide +kernel) (by decide +kernel) (by decide)
theorem pr_12575597_16 : Pr 1257559732178653 := pockD (q := 1224481) (M := 1027014492) (q' := 531581) (M' := 2365697292) (a := 2) (a' := 2) (f := 51) pr1224481 pr531581 (by decide) (by decide +kernel) (by decide +kernel) (by decide +kernel) (by decide +kernel) (by decide +kernel) (by decide +kernel) (by decide +kernel) (by decide +kernel) (by decide)
theorem pr_44341556_19 : Pr 4434155615661930479 := pockC (q := 1257559732178653) (M := 3526) (a := 2) (f := 62) pr_12575597_16 (by decide +kernel) (by decide +kernel) (by decide +kernel) (by decide +kernel) (by decide +kernel) (by decide)
theorem pr_17205459_27 : Pr 172054593956031949258510691 := pockC (q := 4434155615661930479) (M := 38802110) (a := 2) (f := 88) pr_44341556_19 (by decide +kernel) (by decide +kernel) (by decide +kernel) (by decide +kernel) (by decide +kernel) (by decide)
theorem pr_19757330_41 : Pr 19757330305831588566944191468367130476339 := pockC (q := 172054593956031949258510691) (M := 114831751082918) (a := 2) (f := 134) pr_17205459_27 (by decide +kernel) (by decide +kernel) (by decide +kernel) (by decide +kernel) (by decide +kernel) (by decide)
theorem pr_27660262_42 : Pr 276602624281642239937218680557139826668747 := pockC (q := 19757330305831588566944191468367130476339) (M := 14) (a := 2) (f := 138) pr_19757330_41 (by decide +kernel) (by decide +kernel) (by decide +kernel) (by decide +kernel) (by decide +kernel) (by decide)
theorem pr_72370055_76 : Pr 7237005577332262213973186563042994240857116359379907606001950938285454250989 := pockC (q := 276602624281642239937218680557139826668747) (M := 26163907866482859529727157400808004) (a := 2) (f := 253) pr_27660262_42 (by decide +kernel) (by decide +kernel) (by decide +kernel) (by decide +kernel) (by decide +kernel) (by decide)
theorem pr307 : Pr 307 := small 307 (by decide) (by decide +kernel)
theorem pr28859 : Pr 28859 := pockC (q := 307) (M := 94) (a := 2) (f := 15) pr307 (by decide +kernel) (by decide +kernel) (by decide +kernel) (by decide +kernel) (by decide +kernel) (by decide)
theorem pr19 : Pr 19 := small 19 (by decide) (by decide +kernel)
theorem pr2281 : Pr 2281 := pockD (q := 19) (M := 120) (q' := 5) (M' := 456) (a := 2) (a' := 2) (f := 12) pr19 pr5 (by decide) (by decide +kernel) (by decide +kernel) (by decide +kernel) (by decide +kernel) (by decide +kernel) (by decide +kernel) (by decide +kernel) (by decide +kernel) (by decide)
theorem pr_51710039_13 : Pr 5171003929967 := pockD (q := 28859) (M := 179181674) (q' := 2281) (M' := 2266989886) (a := 2) (a' := 2) (f := 43) pr28859 pr2281 (by decide) (by decide +kernel) (by decide +kernel) (by decide +kernel) (by decide +kernel) (by decide +kernel) (by decide +kernel) (by decide +kernel) (by decide +kernel) (by decide)
theorem pr_22561162_20 : Pr 22561162540501040539 := pockC (q := 5171003929967) (M := 4363014) (a := 2) (f := 65) pr_51710039_13 (by decide +kernel) (by decide +kernel) (by decide +kernel) (by decide +kernel) (by decide +kernel) (by decide)
theorem pr61 : Pr 61 := small 61 (by decide) (by decide +kernel)
theorem pr11 : Pr 11 := small 11 (by decide) (by decide +kernel)
theorem pr8053 : Pr 8053 := pockD (q := 61) (M := 132) (q' := 11) (M' := 732) (a := 2) (a' := 2) (f := 13) pr61 pr11 (by decide) (by decide +kernel) (by decide +kernel) (by decide +kernel) (by decide +kernel) (by decide +kernel) (by decide +kernel) (by decide +kernel) (by decide +kernel) (by decide)
theorem pr23 : Pr 23 := small 23 (by decide) (by decide +kernel)
theorem pr3911 : Pr 3911 := pockD (q := 23) (M := 170) (q' := 17) (M' := 230) (a := 2) (a' := 2) (f := 12) pr23 pr17 (by decide) (by decide +kernel) (by decide +kernel) (by decide +kernel) (by decide +kernel) (by decide +kernel) (by decide +kernel) (by decide +kernel) (by decide +kernel) (by decide)
theorem pr_10132662_13 : Pr 1013266244677 := pockD (q := 8053) (M := 125824692) (q' := 3911) (M' := 259081116) (a := 2) (a' := 2) (f := 40) pr8053 pr3911 (by decide) (by decide +kernel) (by decide +kernel) (by decide +kernel) (by decide +kernel) (by decide +kernel) (by decide +kernel) (by decide +kernel) (by decide +kernel) (by decide)
theorem pr_20385258_42 : Pr 203852586375664218368381551393371968928013 := pockD (q := 22561162540501040539) (M := 9035553288077017678308) (q' := 1013266244677) (M' := 201183635048107748313396499356) (a := 2) (a' := 2) (f := 138) pr_22561162_20 pr_10132662_13 (by decide) (by decide +kernel) (by decide +kernel) (by decide +kernel) (by decide +kernel) (by decide +kernel) (by decide +kernel) (by decide +kernel) (by decide +kernel) (by decide)
theorem pr_10471907_48 : Pr 104719073621178708975837602950775180438320278101 := pockC (q := 203852586375664218368381551393371968928013) (M := 513700) (a := 2) (f := 157) pr_20385258_42 (by decide +kernel) (by decide +kernel) (by decide +kernel) (by decide +kernel) (by decide +kernel) (by decide)
theorem pr_27413359_53 : Pr 27413359092552162435694767700453926735143482401279781 := pockC (q := 104719073621178708975837602950775180438320278101) (M := 261780) (a := 2) (f := 175) pr_10471907_48 (by decide +kernel) (by decide +kernel) (by decide +kernel) (by decide +kernel) (by decide +kernel) (by decide)
theorem pr_14474011_77 : Pr 14474011154664524427946373126085988481603263447650325797860494125407373907997 := pockC (q := 27413359092552162435694767700453926735143482401279781) (M := 527991155910437724961516) (a := 2) (f := 253) pr_27413359_53 (by decide +kernel) (by decide +kernel) (by decide +kernel) (by decide +kernel) (by decide +kernel) (by decide)
end Go.Proofs.YtdhoegkphhekfabDoor.Cv
