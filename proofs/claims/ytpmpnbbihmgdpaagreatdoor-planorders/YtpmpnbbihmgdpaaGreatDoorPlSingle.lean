/- plan: single. -/
import Derived.Test.YtpmpnbbihmgdpaaGreatDoorPlSmall
import Derived.Test.YtpmpnbbihmgdpaaGreatDoorCtAsc
import Derived.Test.YtpmpnbbihmgdpaaGreatDoorCtChk
import Derived.Deep.RegionHeld3
set_option maxHeartbeats 2000000
set_option maxRecDepth 100000
namespace Go.Proofs.YtpmpnbbihmgdpaaGreatDoor
section
open Sv
noncomputable def amS (its : List It) (name : ByteArray) (rng : List Span) : Nat := bitsN (amongF its name rng)
theorem amS_test (its : List It) (name : ByteArray) (rng : List Span) (i : Nat) : (amS its name rng).testBit i = decide (i ∈ amongF its name rng) := bitsN_test _ _
theorem amS_lt (its : List It) (name : ByteArray) (rng : List Span) : amS its name rng < 2 ^ its.length := bitsN_lt _ _ (amongF_lt its name rng)
theorem amS_lt24 (its : List It) (name : ByteArray) (rng : List Span) (h : its.length <= 24) : amS its name rng < 16777216 :=
 Nat.lt_of_lt_of_le (amS_lt its name rng) (Nat.pow_le_pow_right (n := 2) (by decide) h)
def ownN (its : List It) (x : Ln) : Nat := (ctNumb its x.it).toNat
noncomputable def singleB (its : List It) (set : Nat) : Bool := decide (set < 2 ^ its.length) && its.all fun x => decide (cntB (set &&& amS its x.name anyF) <= 1)
noncomputable def keepsB (its : List It) (x : Ln) (set : Nat) : Bool :=
 if x.kind = 4 then decide (set &&& amS its x.name x.rng ≠ 0)
 else if x.kind = 2 then decide (set &&& 2 ^ ownN its x = 0) || decide (set &&& amS its x.other x.rng ≠ 0)
 else if x.kind = 3 then decide (set &&& 2 ^ ownN its x = 0) || decide (set &&& amS its x.other x.rng = 0)
 else true
noncomputable def badF (its : List It) (ls : List Ln) (set : Nat) : Option Nat := ls.findIdx? fun x => !keepsB its x set
def fitsG : Option Nat -> Bool × Int
 | some n => (false, (n : Int))
 | none => (true, -1)
noncomputable def fitsF (its : List It) (ls : List Ln) (set : Nat) : Bool × Int :=
 if singleB its set = false then (false, -2) else fitsG (badF its ls set)
theorem missF_none : ∀ (ls : List Ln) (i : Nat) (its : List It), missF ls i its = none -> ∀ x ∈ ls, x.pair -> x.it ∈ its
 | [], i, its, _, x, hx, _ => by cases hx
 | y :: r, i, its, h, x, hx, hp => by
  unfold missF at h
  split at h
  ·cases h
  ·rename_i hn
   rcases List.mem_cons.1 hx with rfl | hx
   ·exact Classical.byContradiction fun hc => hn ⟨hp, hc⟩
   ·exact missF_none r (i + 1) its h x hx hp
theorem newF_pair {ls : List Ln} {its : List It} (h : newF ls = .ok its) : ∀ x ∈ ls, x.pair -> x.it ∈ its := by
 unfold newF at h
 split at h
 ·cases h
 ·split at h
  ·cases h
  ·split at h
   ·cases h
   ·rename_i hm
    cases h
    exact missF_none _ _ _ hm
theorem numb_some {its : List It} {x : It} (h : x ∈ its) : ∃ k : Nat, k < its.length /\ ctNumb its x = (k : Int) /\ its.getD k default = x := by
 unfold ctNumb
 cases hf : its.findIdx? (fun y => decide (x = y)) with
 | none =>
  rw [List.findIdx?_eq_none_iff] at hf
  have := hf x h
  simp at this
 | some k =>
  obtain ⟨h1, h2, _⟩ := List.findIdx?_eq_some_iff_getElem.1 hf
  refine ⟨k, h1, rfl, ?_⟩
  rw [List.getD_eq_getElem?_getD, List.getElem?_eq_getElem h1]
  simpa using (of_decide_eq_true h2).symm
theorem own_pair {ls : List Ln} {its : List It} (h : newF ls = .ok its) {x : Ln} (hx : x ∈ ls) (hp : x.pair) : ctNumb its x.it = (ownN its x : Int) /\ ownN its x < its.length /\ its.getD (ownN its x) default = x.it := by
 obtain ⟨k, h1, h2, h3⟩ := numb_some (newF_pair h x hx hp)
 unfold ownN
 rw [h2]
 exact ⟨by simp, by simpa using h1, by simpa using h3⟩
noncomputable def needP (its : List It) (ls : List Ln) : Nat -> List Nat
 | 0 => List.replicate its.length 0
 | n + 1 => if (ls.getD n default).kind = 2 then
   (needP its ls n).set (ownN its (ls.getD n default)) ((needP its ls n).getD (ownN its (ls.getD n default)) 0 ||| (amS its (ls.getD n default).other (ls.getD n default).rng &&& (18446744073709551615 - 2 ^ ownN its (ls.getD n default))))
  else needP its ls n
noncomputable def needF (its : List It) (ls : List Ln) : List Nat := needP its ls ls.length
theorem needP_len (its : List It) (ls : List Ln) : ∀ n, (needP its ls n).length = its.length
 | 0 => by simp [needP]
 | n + 1 => by
  unfold needP
  split
  ·rw [List.length_set, needP_len its ls n]
  ·exact needP_len its ls n
def ordGo (nd : List Nat) : Nat -> List Nat -> Nat -> List Nat -> Option (List Nat)
 | 0, _, _, out => some out
 | f + 1, wait, left, out => if wait = [] then some out else match wait.findIdx? (fun i => decide (nd.getD i 0 &&& left = 0)) with
  | none => none
  | some j => ordGo nd f (wait.eraseIdx j) (left &&& (18446744073709551615 - 2 ^ wait.getD j 0)) (out ++ [wait.getD j 0])
noncomputable def ordF (its : List It) (ls : List Ln) (set : Nat) : Option (List Nat) := ordGo (needF its ls) (itemsP set 24).length (itemsP set 24) set []
end
section
open Go.RowKit Go.Deep Sv
theorem ptake_snoc (A : List Nat) (i : Nat) (h : i < A.length) : A.take (i + 1) = A.take i ++ [A.getD i 0] := by
 rw [List.take_add_one, List.getD_eq_getElem?_getD, List.getElem?_eq_getElem h]; rfl
theorem natS_at (A : List Nat) (i : Nat) (h : i < A.length) : (natS A).getD i 0 = ((A.getD i 0 : Nat) : Int) := by
 simp [natS, List.getD_eq_getElem?_getD, h]
theorem pget_mem (A : List Nat) (i : Nat) (h : i < A.length) : A.getD i 0 ∈ A := by
 rw [List.getD_eq_getElem?_getD, List.getElem?_eq_getElem h]; exact List.getElem_mem h
theorem bitsN_24 (A : List Nat) (n : Nat) (hn : n <= 24) (h : ∀ x ∈ A, x < n) : bitsN A < 16777216 :=
 Nat.lt_of_lt_of_le (bitsN_lt A n h) (Nat.pow_le_pow_right (n := 2) (by decide) hn)
theorem or_u64 (a b : Nat) (ha : a < 18446744073709551616) (hb : b < 18446744073709551616) : bits BinOp.or IntKind.u64 (a : Int) (b : Int) = ((a ||| b : Nat) : Int) := bits_or_u64_nat a b ha hb
theorem pamong_c (bk : Nat) (ls : List Ln) (its : List It) (name : ByteArray) (rng : List Span) (hr : Rg rng) (v : Value) (w : World) (h : CatAt w bk ls its) (hl : its.length <= 24) (hn : name.size <= 100000) (hv : SpAt w v rng) :
  Calls Tryz.prog 143 #[.pointer (some ⟨bk, 0, none⟩), .string name, .agg #[v]] w fun e w' => e = .returned (.int .u64 (amS its name rng : Int)) /\ Below w.heap.size w w' := by
 obtain ⟨va, vc, rfl⟩ := hv.form
 have hbx : Below w.heap.size w (w.alloc (.cells #[.slice va rng.length vc] 96)) := (Below.refl _ w).alloc (Nat.le_refl _) _
 have HAM0 := among_c bk ls its name rng hr (.slice va rng.length vc) _ (h.below hbx (Nat.le_refl _)) (by omega) hn (hv.below hbx (Nat.le_refl _))
 have kr := Blk.new w 96 #[.slice va rng.length vc]
 have HLT := Lib.hid (amongF_lt its name rng)
 have hAl := amongF_len its name rng
 have HBX := Lib.hid hbx
 unfold amS
 have HJ : Hid (∀ W (k : Nat), k < 64 -> Calls Tryz.prog 91 #[.int .i64 (k : Int)] W fun e w' => e = .returned (.int .u64 ((2 ^ k : Nat) : Int)) /\ w' = W) := fun W k hk => just_c k hk W
 generalize amongF its name rng = A at *
 clear h hn hv hr hbx
 go_enter Tryz.func143, Tryz.ntmps143
 go_upto_region 2 with fail
 generalize w.alloc (.cells #[.slice va rng.length vc] 96) = W0 at *
 have d0 : W0.cell? ⟨w.heap.size, 0, none⟩ = some (.slice va rng.length vc) := kr.cell 0
 have HAM := Lib.hid HAM0
 clear HAM0 kr
 go_wp2_with fail
 refine HAM.out.mono ?_
 rintro e w1 ⟨v', rfl, hown, hb1⟩
 obtain ⟨oa, oc, rfl, -⟩ := row_form hown
 have HIN : Hid (IntsIn w1 oa (natS A)) := ints_row (B := W0.heap.size) (c := oc) (by rw [natS_len]; exact hown)
 have HB1 : Hid (Below w.heap.size w w1) := HBX.out.trans (hb1.mono HBX.out.size)
 clear hown hb1 HAM d0 HBX
 go_wp2_with fail
 go_loopw [7, 15] (fun oV iV wr => ∃ i : Nat, i <= A.length /\ iV = .int .i64 (i : Int) /\ oV = .int .u64 ((bitsN (A.take i) : Nat) : Int) /\ wr = w1) (fun _ iV _ => A.length - (intOf iV).toNat)
 case atStart => exact ⟨0, Nat.zero_le _, rfl, rfl, rfl⟩
 case round =>
  obtain ⟨i, hil, rfl, rfl, rfl⟩ := hrel
  by_cases hlt : i < A.length
  ·obtain ⟨ad, rfl, had, c1⟩ := HIN.out i (by rw [natS_len]; exact hlt)
   rw [natS_at A i hlt] at c1
   have hx := HLT.out _ (pget_mem A i hlt)
   have HTK : Hid (bitsN (A.take (i + 1)) = bitsN (A.take i) ||| 2 ^ A.getD i 0) := by show _ = _; rw [ptake_snoc A i hlt, bitsN_snoc]
   have hbn := bitsN_24 (A.take i) its.length hl (fun x hx => HLT.out x (List.mem_of_mem_take hx))
   generalize bitsN (A.take i) = B at *
   generalize A.getD i 0 = x at *
   have hor := or_u64 B (2 ^ x) (by omega) (pow_64 x (by omega))
   have HJi := Lib.hid (HJ.out wr x (by omega))
   rw [<- HTK.out] at hor
   have hii0 : (0 : Int) <= (i : Int) := by omega
   have hii1 : (i : Int) < (A.length : Int) := by omega
   obtain ⟨ab, ao, asp⟩ := ad
   clear HTK
   obtain ⟨B2, hB2⟩ : ∃ B2, bitsN (A.take (i + 1)) = B2 := ⟨_, rfl⟩
   rw [hB2] at hor
   have HB2 := Lib.hid hB2
   clear hB2
   go_wp2_with fail
   refine HJi.out.mono ?_
   rintro e w2 ⟨rfl, rfl⟩
   generalize (2 ^ x : Nat) = P2 at *
   clear HJi
   go_wp2
   go_roundw
   case rel => exact ⟨i + 1, hlt, by go_num, by rw [HB2.out], by first | rfl | trivial⟩
   case measure => simp [intOf]; omega
  ·obtain rfl : i = A.length := by omega
   rw [List.take_length]
   go_wp2
   go_ret
   exact ⟨rfl, HB1.out⟩
theorem pown_c (bk : Nat) (ls : List Ln) (its : List It) (x : Ln) (ra : Option Addr) (rc : Nat) (w : World) (h : CatAt w bk ls its) (hl : its.length <= 24) (hk : ctNumb its x.it = (ownN its x : Int)) (hlt : ownN its x < its.length) :
  Calls Tryz.prog 145 #[.pointer (some ⟨bk, 0, none⟩), .agg #[.int .i64 x.kind, .string x.name, .int .i64 x.a, .int .i64 x.b, .int .i64 x.c, .string x.other, .slice ra x.rng.length rc]] w fun e w' => e = .returned (.int .u64 ((2 ^ ownN its x : Nat) : Int)) /\ Below w.heap.size w w' := by
 have hbx := below_new w (.cells #[.int .i64 x.kind, .string x.name, .int .i64 x.a, .int .i64 x.b, .int .i64 x.c, .string x.other, .slice ra x.rng.length rc] 98)
 have kx := Blk.new w 98 #[.int .i64 x.kind, .string x.name, .int .i64 x.a, .int .i64 x.b, .int .i64 x.c, .string x.other, .slice ra x.rng.length rc]
 have HN0 := number_c bk ls its x.name x.a x.b x.c _ (h.below hbx (Nat.le_refl _)) (by omega)
 have e : (⟨x.name, x.a, x.b, x.c⟩ : It) = x.it := rfl
 rw [e, hk] at HN0
 have HN := Lib.hid HN0
 have HJ : Hid (∀ W, Calls Tryz.prog 91 #[.int .i64 (ownN its x : Int)] W fun e w' => e = .returned (.int .u64 ((2 ^ ownN its x : Nat) : Int)) /\ w' = W) := fun W => just_c _ (by omega) W
 have HBX := Lib.hid hbx
 clear HN0 e hbx h
 generalize ownN its x = o at *
 generalize (2 ^ o : Nat) = P2 at *
 go_enter Tryz.func145, Tryz.ntmps145
 go_upto_region 1 with fail
 generalize w.alloc (.cells #[.int .i64 x.kind, .string x.name, .int .i64 x.a, .int .i64 x.b, .int .i64 x.c, .string x.other, .slice ra x.rng.length rc] 98) = W0 at *
 have c1 : W0.cell? ⟨w.heap.size, 1, none⟩ = some (.string x.name) := kx.cell 1
 have c2 : W0.cell? ⟨w.heap.size, 2, none⟩ = some (.int .i64 x.a) := kx.cell 2
 have c3 : W0.cell? ⟨w.heap.size, 3, none⟩ = some (.int .i64 x.b) := kx.cell 3
 have c4 : W0.cell? ⟨w.heap.size, 4, none⟩ = some (.int .i64 x.c) := kx.cell 4
 clear kx hk
 go_wp2_with fail
 refine HN.out.mono ?_
 rintro e w1 ⟨rfl, hb1⟩
 have HB1 : Hid (Below w.heap.size w w1) := HBX.out.trans (hb1.mono HBX.out.size)
 clear hb1 HN c1 c2 c3 c4
 go_wp2_with fail
 refine (HJ.out w1).mono ?_
 rintro e w2 ⟨rfl, rfl⟩
 clear HJ
 go_wp2
 go_ret
 exact ⟨rfl, HB1.out⟩
end
section
open Go.RowKit Go.Deep Sv
structure KH (bk : Nat) (ls : List Ln) (its : List It) (x : Ln) (ra : Option Addr) (rc : Nat) (set : Nat) (w : World) : Prop where
 cat : CatAt w bk ls its
 len : its.length <= 24
 n1 : x.name.size <= 100000
 n2 : x.other.size <= 100000
 sp : SpAt w (.slice ra x.rng.length rc) x.rng
 rg : Rg x.rng
 s : set < 18446744073709551616
theorem cast_ne (n : Nat) (h : ¬ n = 0) : ¬ (n : Int) = 0 := by omega
theorem cast_neb (n : Nat) (h : ¬ n = 0) : ((n : Int) != 0) = true := by simpa using h
theorem cast_eqb (n : Nat) (h : ¬ n = 0) : ((n : Int) == 0) = false := by simpa using h
theorem cast_eq (n : Nat) (h : n = 0) : (n : Int) = 0 := by omega
theorem keeps_root (bk : Nat) (ls : List Ln) (its : List It) (x : Ln) (ra : Option Addr) (rc : Nat) (set : Nat) (w : World) (hh : KH bk ls its x ra rc set w) (hk : x.kind = 4) :
  Calls Tryz.prog 83 #[.pointer (some ⟨bk, 0, none⟩), .agg #[.int .i64 x.kind, .string x.name, .int .i64 x.a, .int .i64 x.b, .int .i64 x.c, .string x.other, .slice ra x.rng.length rc], .int .u64 (set : Int)] w fun e w' => e = .returned (.bool (keepsB its x set)) /\ Below w.heap.size w w' := by
 obtain ⟨h, hl, hn1, hn2, hsp, hr, hs⟩ := hh
 have hbx := below_new w (.cells #[.int .i64 x.kind, .string x.name, .int .i64 x.a, .int .i64 x.b, .int .i64 x.c, .string x.other, .slice ra x.rng.length rc] 98)
 have kx := Blk.new w 98 #[.int .i64 x.kind, .string x.name, .int .i64 x.a, .int .i64 x.b, .int .i64 x.c, .string x.other, .slice ra x.rng.length rc]
 have HBX := Lib.hid hbx
 have HAM := Lib.hid (pamong_c bk ls its x.name x.rng hr (.slice ra x.rng.length rc) _ (h.below hbx (Nat.le_refl _)) hl hn1 (hsp.below hbx (Nat.le_refl _)))
 have ham := amS_lt24 its x.name x.rng hl
 have hand := and_u64 set (amS its x.name x.rng) hs (by omega)
 unfold keepsB
 rw [if_pos hk]
 generalize amS its x.name x.rng = A at *
 generalize set &&& A = Q at *
 have HK := Lib.hid hk
 clear hk
 clear h hsp hr hn1 hn2 hbx
 go_enter Tryz.func83, Tryz.ntmps83
 go_upto_region 1 with fail
 generalize w.alloc (.cells #[.int .i64 x.kind, .string x.name, .int .i64 x.a, .int .i64 x.b, .int .i64 x.c, .string x.other, .slice ra x.rng.length rc] 98) = W0 at *
 have c0 : W0.cell? ⟨w.heap.size, 0, none⟩ = some (.int .i64 x.kind) := kx.cell 0
 have c1 : W0.cell? ⟨w.heap.size, 1, none⟩ = some (.string x.name) := kx.cell 1
 have c6 : W0.cell? ⟨w.heap.size, 6, none⟩ = some (.slice ra x.rng.length rc) := kx.cell 6
 rw [HK.out] at c0
 clear kx HK
 go_wp2_with fail
 refine HAM.out.mono ?_
 rintro e w1 ⟨rfl, hb1⟩
 have HB1 : Hid (Below w.heap.size w w1) := HBX.out.trans (hb1.mono HBX.out.size)
 clear hb1 HAM c0 c1 c6
 by_cases hq : Q = 0
 ·have hqi := cast_eq Q hq
  have HQ : Hid (decide (Q ≠ 0) = false) := decide_eq_false (fun h => h hq)
  clear hq
  go_wp2
  go_ret
  exact ⟨by rw [HQ.out]; rfl, HB1.out⟩
 ·have hqi := cast_ne Q hq
  have hqb := cast_neb Q hq
  have hqc := cast_eqb Q hq
  have HQ : Hid (decide (Q ≠ 0) = true) := decide_eq_true hq
  clear hq
  go_wp2
  go_ret
  exact ⟨by rw [HQ.out]; rfl, HB1.out⟩
theorem keeps_needs (bk : Nat) (ls : List Ln) (its : List It) (x : Ln) (ra : Option Addr) (rc : Nat) (set : Nat) (w : World) (hh : KH bk ls its x ra rc set w) (hk : x.kind = 2) (hk1 : ctNumb its x.it = (ownN its x : Int)) (hlt : ownN its x < its.length) :
  Calls Tryz.prog 83 #[.pointer (some ⟨bk, 0, none⟩), .agg #[.int .i64 x.kind, .string x.name, .int .i64 x.a, .int .i64 x.b, .int .i64 x.c, .string x.other, .slice ra x.rng.length rc], .int .u64 (set : Int)] w fun e w' => e = .returned (.bool (keepsB its x set)) /\ Below w.heap.size w w' := by
 obtain ⟨h, hl, hn1, hn2, hsp, hr, hs⟩ := hh
 have hbx := below_new w (.cells #[.int .i64 x.kind, .string x.name, .int .i64 x.a, .int .i64 x.b, .int .i64 x.c, .string x.other, .slice ra x.rng.length rc] 98)
 have kx := Blk.new w 98 #[.int .i64 x.kind, .string x.name, .int .i64 x.a, .int .i64 x.b, .int .i64 x.c, .string x.other, .slice ra x.rng.length rc]
 have HBX := Lib.hid hbx
 have HOW := Lib.hid (pown_c bk ls its x ra rc _ (h.below hbx (Nat.le_refl _)) hl hk1 hlt)
 have HAM : Hid (∀ W, Below (w.alloc (.cells #[.int .i64 x.kind, .string x.name, .int .i64 x.a, .int .i64 x.b, .int .i64 x.c, .string x.other, .slice ra x.rng.length rc] 98)).heap.size (w.alloc (.cells #[.int .i64 x.kind, .string x.name, .int .i64 x.a, .int .i64 x.b, .int .i64 x.c, .string x.other, .slice ra x.rng.length rc] 98)) W -> Calls Tryz.prog 143 #[.pointer (some ⟨bk, 0, none⟩), .string x.other, .agg #[.slice ra x.rng.length rc]] W fun e w' => e = .returned (.int .u64 (amS its x.other x.rng : Int)) /\ Below W.heap.size W w') := fun W hb =>
  pamong_c bk ls its x.other x.rng hr (.slice ra x.rng.length rc) W ((h.below hbx (Nat.le_refl _)).below hb (Nat.le_refl _)) hl hn2 ((hsp.below hbx (Nat.le_refl _)).below hb (Nat.le_refl _))
 have ham := amS_lt24 its x.other x.rng hl
 have hand := and_u64 set (amS its x.other x.rng) hs (by omega)
 have hano := and_u64 set (2 ^ ownN its x) hs (pow_64 _ (by omega))
 unfold keepsB
 rw [if_neg (by omega), if_pos hk]
 generalize amS its x.other x.rng = A at *
 generalize (2 ^ ownN its x : Nat) = O at *
 generalize set &&& O = R at *
 generalize set &&& A = Q at *
 have HK := Lib.hid hk
 clear hk1 hlt hk
 clear h hsp hr hn1 hn2 hbx
 go_enter Tryz.func83, Tryz.ntmps83
 go_upto_region 1 with fail
 generalize w.alloc (.cells #[.int .i64 x.kind, .string x.name, .int .i64 x.a, .int .i64 x.b, .int .i64 x.c, .string x.other, .slice ra x.rng.length rc] 98) = W0 at *
 have c0 : W0.cell? ⟨w.heap.size, 0, none⟩ = some (.int .i64 x.kind) := kx.cell 0
 have c1 : W0.cell? ⟨w.heap.size, 1, none⟩ = some (.string x.name) := kx.cell 1
 have c2 : W0.cell? ⟨w.heap.size, 2, none⟩ = some (.int .i64 x.a) := kx.cell 2
 have c3 : W0.cell? ⟨w.heap.size, 3, none⟩ = some (.int .i64 x.b) := kx.cell 3
 have c4 : W0.cell? ⟨w.heap.size, 4, none⟩ = some (.int .i64 x.c) := kx.cell 4
 have c5 : W0.cell? ⟨w.heap.size, 5, none⟩ = some (.string x.other) := kx.cell 5
 have c6 : W0.cell? ⟨w.heap.size, 6, none⟩ = some (.slice ra x.rng.length rc) := kx.cell 6
 have K0 := Lib.hid kx
 rw [HK.out] at c0 HOW
 clear kx HK
 go_wp2_with fail
 refine HOW.out.mono ?_
 rintro e w1 ⟨rfl, hb1⟩
 have HB1 : Hid (Below w.heap.size w w1) := HBX.out.trans (hb1.mono HBX.out.size)
 have HA1 := Lib.hid (HAM.out w1 hb1)
 have k1 := K0.out.below hb1 K0.out.lt
 clear hb1 HAM HOW K0 c0 c1 c2 c3 c4 c5 c6
 by_cases hp : R = 0
 ·have hpi := cast_eq R hp
  have HP : Hid (decide (R = 0) = true) := decide_eq_true hp
  clear hp k1 HA1
  go_wp2
  go_ret
  exact ⟨by rw [HP.out, Bool.true_or]; rfl, HB1.out⟩
 ·have hpi := cast_ne R hp
  have hpb := cast_neb R hp
  have hpc := cast_eqb R hp
  have HP : Hid (decide (R = 0) = false) := decide_eq_false hp
  clear hp
  have e5 : w1.cell? ⟨w.heap.size, 5, none⟩ = some (.string x.other) := k1.cell 5
  have e6 : w1.cell? ⟨w.heap.size, 6, none⟩ = some (.slice ra x.rng.length rc) := k1.cell 6
  clear k1
  go_wp2_with fail
  refine HA1.out.mono ?_
  rintro e w2 ⟨rfl, hb2⟩
  have HB2 : Hid (Below w.heap.size w w2) := HB1.out.trans (hb2.mono HB1.out.size)
  clear hb2 HA1 e5 e6
  by_cases hq : Q = 0
  ·have hqi := cast_eq Q hq
   have HQ : Hid (decide (Q ≠ 0) = false) := decide_eq_false (fun h => h hq)
   clear hq
   go_wp2
   go_ret
   exact ⟨by rw [HP.out, Bool.false_or, HQ.out]; rfl, HB2.out⟩
  ·have hqi := cast_ne Q hq
   have hqb := cast_neb Q hq
   have hqc := cast_eqb Q hq
   have HQ : Hid (decide (Q ≠ 0) = true) := decide_eq_true hq
   clear hq
   go_wp2
   go_ret
   exact ⟨by rw [HP.out, Bool.false_or, HQ.out]; rfl, HB2.out⟩
theorem keeps_clash (bk : Nat) (ls : List Ln) (its : List It) (x : Ln) (ra : Option Addr) (rc : Nat) (set : Nat) (w : World) (hh : KH bk ls its x ra rc set w) (hk : x.kind = 3) (hk1 : ctNumb its x.it = (ownN its x : Int)) (hlt : ownN its x < its.length) :
  Calls Tryz.prog 83 #[.pointer (some ⟨bk, 0, none⟩), .agg #[.int .i64 x.kind, .string x.name, .int .i64 x.a, .int .i64 x.b, .int .i64 x.c, .string x.other, .slice ra x.rng.length rc], .int .u64 (set : Int)] w fun e w' => e = .returned (.bool (keepsB its x set)) /\ Below w.heap.size w w' := by
 obtain ⟨h, hl, hn1, hn2, hsp, hr, hs⟩ := hh
 have hbx := below_new w (.cells #[.int .i64 x.kind, .string x.name, .int .i64 x.a, .int .i64 x.b, .int .i64 x.c, .string x.other, .slice ra x.rng.length rc] 98)
 have kx := Blk.new w 98 #[.int .i64 x.kind, .string x.name, .int .i64 x.a, .int .i64 x.b, .int .i64 x.c, .string x.other, .slice ra x.rng.length rc]
 have HBX := Lib.hid hbx
 have HOW := Lib.hid (pown_c bk ls its x ra rc _ (h.below hbx (Nat.le_refl _)) hl hk1 hlt)
 have HAM : Hid (∀ W, Below (w.alloc (.cells #[.int .i64 x.kind, .string x.name, .int .i64 x.a, .int .i64 x.b, .int .i64 x.c, .string x.other, .slice ra x.rng.length rc] 98)).heap.size (w.alloc (.cells #[.int .i64 x.kind, .string x.name, .int .i64 x.a, .int .i64 x.b, .int .i64 x.c, .string x.other, .slice ra x.rng.length rc] 98)) W -> Calls Tryz.prog 143 #[.pointer (some ⟨bk, 0, none⟩), .string x.other, .agg #[.slice ra x.rng.length rc]] W fun e w' => e = .returned (.int .u64 (amS its x.other x.rng : Int)) /\ Below W.heap.size W w') := fun W hb =>
  pamong_c bk ls its x.other x.rng hr (.slice ra x.rng.length rc) W ((h.below hbx (Nat.le_refl _)).below hb (Nat.le_refl _)) hl hn2 ((hsp.below hbx (Nat.le_refl _)).below hb (Nat.le_refl _))
 have ham := amS_lt24 its x.other x.rng hl
 have hand := and_u64 set (amS its x.other x.rng) hs (by omega)
 have hano := and_u64 set (2 ^ ownN its x) hs (pow_64 _ (by omega))
 unfold keepsB
 rw [if_neg (by omega), if_neg (by omega), if_pos hk]
 generalize amS its x.other x.rng = A at *
 generalize (2 ^ ownN its x : Nat) = O at *
 generalize set &&& O = R at *
 generalize set &&& A = Q at *
 have HK := Lib.hid hk
 clear hk1 hlt hk
 clear h hsp hr hn1 hn2 hbx
 go_enter Tryz.func83, Tryz.ntmps83
 go_upto_region 1 with fail
 generalize w.alloc (.cells #[.int .i64 x.kind, .string x.name, .int .i64 x.a, .int .i64 x.b, .int .i64 x.c, .string x.other, .slice ra x.rng.length rc] 98) = W0 at *
 have c0 : W0.cell? ⟨w.heap.size, 0, none⟩ = some (.int .i64 x.kind) := kx.cell 0
 have c1 : W0.cell? ⟨w.heap.size, 1, none⟩ = some (.string x.name) := kx.cell 1
 have c2 : W0.cell? ⟨w.heap.size, 2, none⟩ = some (.int .i64 x.a) := kx.cell 2
 have c3 : W0.cell? ⟨w.heap.size, 3, none⟩ = some (.int .i64 x.b) := kx.cell 3
 have c4 : W0.cell? ⟨w.heap.size, 4, none⟩ = some (.int .i64 x.c) := kx.cell 4
 have c5 : W0.cell? ⟨w.heap.size, 5, none⟩ = some (.string x.other) := kx.cell 5
 have c6 : W0.cell? ⟨w.heap.size, 6, none⟩ = some (.slice ra x.rng.length rc) := kx.cell 6
 have K0 := Lib.hid kx
 rw [HK.out] at c0 HOW
 clear kx HK
 go_wp2_with fail
 refine HOW.out.mono ?_
 rintro e w1 ⟨rfl, hb1⟩
 have HB1 : Hid (Below w.heap.size w w1) := HBX.out.trans (hb1.mono HBX.out.size)
 have HA1 := Lib.hid (HAM.out w1 hb1)
 have k1 := K0.out.below hb1 K0.out.lt
 clear hb1 HAM HOW K0 c0 c1 c2 c3 c4 c5 c6
 by_cases hp : R = 0
 ·have hpi := cast_eq R hp
  have HP : Hid (decide (R = 0) = true) := decide_eq_true hp
  clear hp k1 HA1
  go_wp2
  go_ret
  exact ⟨by rw [HP.out, Bool.true_or]; rfl, HB1.out⟩
 ·have hpi := cast_ne R hp
  have hpb := cast_neb R hp
  have hpc := cast_eqb R hp
  have HP : Hid (decide (R = 0) = false) := decide_eq_false hp
  clear hp
  have e5 : w1.cell? ⟨w.heap.size, 5, none⟩ = some (.string x.other) := k1.cell 5
  have e6 : w1.cell? ⟨w.heap.size, 6, none⟩ = some (.slice ra x.rng.length rc) := k1.cell 6
  clear k1
  go_wp2_with fail
  refine HA1.out.mono ?_
  rintro e w2 ⟨rfl, hb2⟩
  have HB2 : Hid (Below w.heap.size w w2) := HB1.out.trans (hb2.mono HB1.out.size)
  clear hb2 HA1 e5 e6
  by_cases hq : Q = 0
  ·have hqi := cast_eq Q hq
   have HQ : Hid (decide (Q = 0) = true) := decide_eq_true hq
   clear hq
   go_wp2
   go_ret
   exact ⟨by rw [HP.out, Bool.false_or, HQ.out]; rfl, HB2.out⟩
  ·have hqi := cast_ne Q hq
   have hqb := cast_neb Q hq
   have hqc := cast_eqb Q hq
   have HQ : Hid (decide (Q = 0) = false) := decide_eq_false hq
   clear hq
   go_wp2
   go_ret
   exact ⟨by rw [HP.out, Bool.false_or, HQ.out]; rfl, HB2.out⟩
theorem keeps_else (bk : Nat) (ls : List Ln) (its : List It) (x : Ln) (ra : Option Addr) (rc : Nat) (set : Nat) (w : World) (hh : KH bk ls its x ra rc set w) (h2 : ¬ x.kind = 2) (h3 : ¬ x.kind = 3) (h4 : ¬ x.kind = 4) :
  Calls Tryz.prog 83 #[.pointer (some ⟨bk, 0, none⟩), .agg #[.int .i64 x.kind, .string x.name, .int .i64 x.a, .int .i64 x.b, .int .i64 x.c, .string x.other, .slice ra x.rng.length rc], .int .u64 (set : Int)] w fun e w' => e = .returned (.bool (keepsB its x set)) /\ Below w.heap.size w w' := by
 obtain ⟨h, hl, hn1, hn2, hsp, hr, hs⟩ := hh
 have hbx := below_new w (.cells #[.int .i64 x.kind, .string x.name, .int .i64 x.a, .int .i64 x.b, .int .i64 x.c, .string x.other, .slice ra x.rng.length rc] 98)
 have kx := Blk.new w 98 #[.int .i64 x.kind, .string x.name, .int .i64 x.a, .int .i64 x.b, .int .i64 x.c, .string x.other, .slice ra x.rng.length rc]
 have HBX := Lib.hid hbx
 unfold keepsB
 rw [if_neg h4, if_neg h2, if_neg h3]
 clear h hsp hr hn1 hn2 hbx
 go_enter Tryz.func83, Tryz.ntmps83
 go_upto_region 1 with fail
 generalize w.alloc (.cells #[.int .i64 x.kind, .string x.name, .int .i64 x.a, .int .i64 x.b, .int .i64 x.c, .string x.other, .slice ra x.rng.length rc] 98) = W0 at *
 have c0 : W0.cell? ⟨w.heap.size, 0, none⟩ = some (.int .i64 x.kind) := kx.cell 0
 clear kx
 go_wp2
 go_ret
 exact ⟨rfl, HBX.out⟩
theorem keeps_c (bk : Nat) (ls : List Ln) (its : List It) (hN : newF ls = .ok its) (x : Ln) (hx : x ∈ ls) (ra : Option Addr) (rc : Nat) (set : Nat) (w : World) (h : CatAt w bk ls its) (hsp : SpAt w (.slice ra x.rng.length rc) x.rng) (hr : Rg x.rng) (hs : set < 18446744073709551616) :
  Calls Tryz.prog 83 #[.pointer (some ⟨bk, 0, none⟩), .agg #[.int .i64 x.kind, .string x.name, .int .i64 x.a, .int .i64 x.b, .int .i64 x.c, .string x.other, .slice ra x.rng.length rc], .int .u64 (set : Int)] w fun e w' => e = .returned (.bool (keepsB its x set)) /\ Below w.heap.size w w' := by
 obtain ⟨hl, -, hck⟩ := newF_ok hN
 obtain ⟨hn1, hn2⟩ := check_names (hck x hx)
 by_cases h4 : x.kind = 4
 ·exact keeps_root bk ls its x ra rc set w ⟨h, hl, hn1, hn2, hsp, hr, hs⟩ h4
 ·by_cases h2 : x.kind = 2
  ·obtain ⟨a, b, -⟩ := own_pair hN hx (Or.inl h2)
   exact keeps_needs bk ls its x ra rc set w ⟨h, hl, hn1, hn2, hsp, hr, hs⟩ h2 a b
  ·by_cases h3 : x.kind = 3
   ·obtain ⟨a, b, -⟩ := own_pair hN hx (Or.inr h3)
    exact keeps_clash bk ls its x ra rc set w ⟨h, hl, hn1, hn2, hsp, hr, hs⟩ h3 a b
   ·exact keeps_else bk ls its x ra rc set w ⟨h, hl, hn1, hn2, hsp, hr, hs⟩ h2 h3 h4
end
section
open Go.RowKit Go.Deep Sv
theorem single_no (bk : Nat) (ls : List Ln) (its : List It) (set : Nat) (w : World) (h : CatAt w bk ls its) (hl : its.length <= 24) (hlt : ¬ set < 2 ^ its.length) :
  Calls Tryz.prog 82 #[.pointer (some ⟨bk, 0, none⟩), .int .u64 (set : Int)] w fun e w' => e = .returned (.bool (singleB its set)) /\ Below w.heap.size w w' := by
 have HI := Lib.hid (items_c bk ls its w h (by omega))
 have hz : ¬ (set : Int) / 2 ^ its.length = 0 := fun e => by
  have : set / 2 ^ its.length = 0 := by
   have e2 : ((set / 2 ^ its.length : Nat) : Int) = (set : Int) / 2 ^ its.length := by simp
   omega
  exact hlt ((shr_zero_iff _ _).1 this)
 have HB : Hid (singleB its set = false) := by show _ = _; unfold singleB; rw [decide_eq_false hlt, Bool.false_and]
 rw [HB.out]
 clear h hlt
 go_enter Tryz.func82, Tryz.ntmps82
 go_wp2_with fail
 refine HI.out.mono ?_
 rintro e w1 ⟨v', rfl, hown, hb1⟩
 obtain ⟨ia, ic, rfl, -⟩ : ∃ a c, v' = .slice a its.length c /\ True := by obtain ⟨a, c, e, _⟩ := (rowAt_own hown).form; exact ⟨a, c, e, trivial⟩
 have HB1 := Lib.hid hb1
 clear hown hb1 HI
 go_wp2
 go_ret
 exact ⟨rfl, HB1.out⟩
theorem single_yes (bk : Nat) (ls : List Ln) (its : List It) (set : Nat) (w : World) (h : CatAt w bk ls its) (hl : its.length <= 24) (hnm : ∀ x ∈ its, x.name.size <= 100000) (hlt : set < 2 ^ its.length) :
  Calls Tryz.prog 82 #[.pointer (some ⟨bk, 0, none⟩), .int .u64 (set : Int)] w fun e w' => e = .returned (.bool (singleB its set)) /\ Below w.heap.size w w' := by
 have hs : set < 16777216 := Nat.lt_of_lt_of_le hlt (Nat.pow_le_pow_right (n := 2) (by decide) hl)
 have HI := Lib.hid (items_c bk ls its w h (by omega))
 have hz : (set : Int) / 2 ^ its.length = 0 := by
  have e2 : ((set / 2 ^ its.length : Nat) : Int) = (set : Int) / 2 ^ its.length := by simp
  have := (shr_zero_iff set its.length).2 hlt
  omega
 have HNM := Lib.hid hnm
 have HCAT := Lib.hid h
 have HSB : Hid (singleB its set = its.all fun x => decide (cntB (set &&& amS its x.name anyF) <= 1)) := by show _ = _; unfold singleB; rw [decide_eq_true hlt, Bool.true_and]
 have HANY : Hid (∀ W, Calls Tryz.prog 144 #[] W fun e w' => ∃ a' c', e = .returned (.agg #[.slice a' anyF.length c']) /\ SpAt w' (.slice a' anyF.length c') anyF /\ Below W.heap.size W w') := fun W => (any_any W).mono fun e w' ⟨v', he, hs, hn, hb⟩ => by obtain ⟨a', c', rfl⟩ := hs.form; exact ⟨a', c', he, hs, hb⟩
 have HAM : Hid (∀ (W : World) (nm : ByteArray) (va : Option Addr) (vc : Nat), Below w.heap.size w W -> nm.size <= 100000 -> SpAt W (.slice va anyF.length vc) anyF -> Calls Tryz.prog 143 #[.pointer (some ⟨bk, 0, none⟩), .string nm, .agg #[.slice va anyF.length vc]] W fun e w' => e = .returned (.int .u64 (amS its nm anyF : Int)) /\ Below W.heap.size W w') := fun W nm va vc hb hn hsp =>
  pamong_c bk ls its nm anyF rg_any (.slice va anyF.length vc) W (h.below hb (Nat.le_refl _)) hl hn hsp
 have HON : Hid (∀ (W : World) (q : Nat), q < 16777216 -> Calls Tryz.prog 142 #[.int .u64 (q : Int)] W fun e w' => e = .returned (.int .i64 (cntB q : Int)) /\ w' = W) := fun W q hq => ones_any q hq W
 clear h hlt hnm
 go_enter Tryz.func82, Tryz.ntmps82
 go_wp2_with fail
 refine HI.out.mono ?_
 rintro e w1 ⟨v', rfl, hown, hb1⟩
 obtain ⟨ia, ic, rfl, -⟩ : ∃ a c, v' = .slice a its.length c /\ True := by obtain ⟨a, c, e, _⟩ := (rowAt_own hown).form; exact ⟨a, c, e, trivial⟩
 have HIT : Hid (ItsAt w1 (.slice ia its.length ic) its) := rowAt_own hown
 have HB1 := Lib.hid hb1
 clear hown hb1 HI
 go_wp2_with fail
 go_loopw [17] (fun iV wr => ∃ i : Nat, i <= its.length /\ iV = .int .i64 (i : Int) /\ (∀ j, j < i -> cntB (set &&& amS its (its.getD j default).name anyF) <= 1) /\ Below w1.heap.size w1 wr) (fun iV _ => its.length - (intOf iV).toNat)
 case atStart => exact ⟨0, Nat.zero_le _, rfl, fun j hj => by omega, Below.refl _ _⟩
 case round =>
  obtain ⟨i, hil, rfl, hall, hbr⟩ := hrel
  have HALL := Lib.hid hall
  have HBR := Lib.hid hbr
  clear hall
  by_cases hlt : i < its.length
  ·obtain ⟨g, cap', e, hg, c0, c1, c2, c3⟩ := (show ItsAt wr _ its from HIT.out.below hbr (Nat.le_refl _)).at i hlt
   simp at e
   obtain ⟨rfl, rfl⟩ := e
   have hii0 : (0 : Int) <= (i : Int) := by omega
   have hii1 : (i : Int) < (its.length : Int) := by omega
   have hnm := HNM.out (its.getD i default) (by rw [List.getD_eq_getElem?_getD, List.getElem?_eq_getElem hlt]; exact List.getElem_mem hlt)
   have HX : Hid (∃ x, its.getD i default = x) := ⟨_, rfl⟩
   obtain ⟨x, hx⟩ := HX.out
   rw [hx] at c0 c1 c2 c3 hnm
   have HXE := Lib.hid hx
   have hbn := below_new wr (.cells #[.string x.name, .int .i64 x.a, .int .i64 x.b, .int .i64 x.c] 182)
   have kx := Blk.new wr 182 #[.string x.name, .int .i64 x.a, .int .i64 x.b, .int .i64 x.c]
   have HBN : Hid (Below w1.heap.size w1 (wr.alloc (.cells #[.string x.name, .int .i64 x.a, .int .i64 x.b, .int .i64 x.c] 182))) := hbr.trans (hbn.mono hbr.size)
   have hNw : (wr.alloc (.cells #[.string x.name, .int .i64 x.a, .int .i64 x.b, .int .i64 x.c] 182)).heap.size = wr.heap.size + 1 := by simp
   clear hbr hbn hx HX
   go_upto_region 7 with fail
   generalize wr.alloc (.cells #[.string x.name, .int .i64 x.a, .int .i64 x.b, .int .i64 x.c] 182) = W6 at *
   generalize wr.heap.size = bx at *
   have hxl := kx.lt
   have SC : Hid (∀ W, Below W6.heap.size W6 W -> W.cell? ⟨bx, 0, none⟩ = some (.string x.name)) := fun W h => (kx.below h hxl).cell 0
   have D0 : Below W6.heap.size W6 W6.drew := (Below.refl _ _).drew
   have HAq : Hid (∀ (W : World) (va : Option Addr) (vc : Nat), Below W6.heap.size W6 W -> SpAt W (.slice va anyF.length vc) anyF -> Calls Tryz.prog 143 #[.pointer (some ⟨bk, 0, none⟩), .string x.name, .agg #[.slice va anyF.length vc]] W fun e w' => e = .returned (.int .u64 (amS its x.name anyF : Int)) /\ Below W.heap.size W w') := fun W va vc hb hsp => HAM.out W x.name va vc (HB1.out.trans ((HBN.out.trans (hb.mono HBN.out.size)).mono HB1.out.size)) hnm hsp
   have ham := amS_lt24 its x.name anyF hl
   have hand := and_u64 set (amS its x.name anyF) (by omega) (by omega)
   have hq24 : set &&& amS its x.name anyF < 16777216 := Nat.lt_of_le_of_lt Nat.and_le_left hs
   obtain ⟨A, hA⟩ : ∃ A, amS its x.name anyF = A := ⟨_, rfl⟩
   rw [hA] at HAq ham hand hq24
   have HAE := Lib.hid hA
   obtain ⟨Q, hQ⟩ : ∃ Q, set &&& A = Q := ⟨_, rfl⟩
   rw [hQ] at hand hq24
   have HQE := Lib.hid hQ
   have HOQ : Hid (∀ (W : World), Calls Tryz.prog 142 #[.int .u64 (Q : Int)] W fun e w' => e = .returned (.int .i64 (cntB Q : Int)) /\ w' = W) := fun W => HON.out W Q hq24
   have HANQ := Lib.hid HANY.out
   clear hA hQ c0 c1 c2 c3 kx hnm
   obtain ⟨C, hC⟩ : ∃ C, cntB Q = C := ⟨_, rfl⟩
   rw [hC] at HOQ
   have HCE := Lib.hid hC
   clear hC
   go_region_held3 (fun W => W.cell? ⟨bx, 0, none⟩ = some (.string x.name)) (first | exact SC.out _ D0 | exact SC.out _ D1 | exact SC.out _ D2)
    (first
     | ((with_reducible refine (HANQ.out _).mono ?_); rintro e x1 ⟨a1, q1, rfl, hsp1, hb1'⟩; have D1 : Below W6.heap.size W6 x1 := D0.trans (hb1'.mono D0.size); clear HANQ D0 hb1')
     | ((with_reducible refine (HAq.out _ _ _ D1 hsp1).mono ?_); rintro e x2 ⟨rfl, hb2'⟩; have D2 : Below W6.heap.size W6 x2 := D1.trans (hb2'.mono D1.size); clear HAq D1 hb2' hsp1)
     | ((with_reducible refine (HOQ.out _).mono ?_); rintro e x3 ⟨rfl, hw3⟩; rw [hw3]; clear HOQ hw3))
   have HB3 : Hid (Below w1.heap.size w1 x2) := HBN.out.trans (D2.mono HBN.out.size)
   clear SC D2 HBN HANY HAM HON hand
   by_cases hc : C <= 1
   ·have HNX : Hid (∀ j, j < i + 1 -> cntB (set &&& amS its (its.getD j default).name anyF) <= 1) := fun j hj => by
     rcases Nat.lt_succ_iff_lt_or_eq.1 hj with e | e
     ·exact HALL.out j e
     ·rw [e, HXE.out, HAE.out, HQE.out, HCE.out]; exact hc
    go_wp2
    go_roundw
    case rel => exact ⟨i + 1, hlt, by go_num, HNX.out, HB3.out⟩
    case measure => simp [intOf]; omega
   ·have hci : (1 : Int) < (C : Int) := by omega
    have HSB1 : Hid (singleB its set = false) := by
     show _ = _
     rw [HSB.out, List.all_eq_false]
     refine ⟨x, by rw [<- HXE.out, List.getD_eq_getElem?_getD, List.getElem?_eq_getElem hlt]; exact List.getElem_mem hlt, ?_⟩
     rw [HAE.out, HQE.out, HCE.out]
     simpa using hc
    have HB4 : Hid (Below w.heap.size w x2) := HB1.out.trans (HB3.out.mono HB1.out.size)
    clear hc
    go_wp2
    go_ret
    exact ⟨by rw [HSB1.out]; rfl, HB4.out⟩
  ·have hni : ¬ (i : Int) < (its.length : Int) := by omega
   have HSB1 : Hid (singleB its set = true) := by
    show _ = _
    rw [HSB.out, List.all_eq_true]
    intro x hx
    obtain ⟨j, hj, rfl⟩ := List.getElem_of_mem hx
    have := HALL.out j (by omega)
    rw [List.getD_eq_getElem?_getD, List.getElem?_eq_getElem hj] at this
    exact decide_eq_true this
   have HB2 : Hid (Below w.heap.size w wr) := HB1.out.trans (HBR.out.mono HB1.out.size)
   clear hbr HBR
   go_wp2
   go_ret
   exact ⟨by rw [HSB1.out]; rfl, HB2.out⟩
theorem single_c (bk : Nat) (ls : List Ln) (its : List It) (set : Nat) (w : World) (h : CatAt w bk ls its) (hl : its.length <= 24) (hnm : ∀ x ∈ its, x.name.size <= 100000) :
  Calls Tryz.prog 82 #[.pointer (some ⟨bk, 0, none⟩), .int .u64 (set : Int)] w fun e w' => e = .returned (.bool (singleB its set)) /\ Below w.heap.size w w' := by
 by_cases hlt : set < 2 ^ its.length
 ·exact single_yes bk ls its set w h hl hnm hlt
 ·exact single_no bk ls its set w h hl hlt
end
end Go.Proofs.YtpmpnbbihmgdpaaGreatDoor
