/- What the rules of a catalog are as clauses: plain. -/
import Derived.Shelf.SlGeneric
import Derived.Shelf.SlicesE.Clone
import Derived.Shelf.SlicesG.Delete
import Derived.Test.YtpmpnbbihmgdpaaGreatDoorProg
import Derived.Test.YtpmpnbbihmgdpaaGreatDoorClSearch
import Derived.Lib.OwnBridge
import Derived.Test.YtpmpnbbihmgdpaaGreatDoorRsSaid
import Derived.Test.YtpmpnbbihmgdpaaGreatDoorRsTwelve
import Derived.Test.YtpmpnbbihmgdpaaGreatDoorClTold
set_option maxHeartbeats 2000000
set_option maxRecDepth 100000
namespace Go.Proofs
open Go.Shelf
def Tryz.clnInts_ren : Go.Shelf.Ren := ⟨fun | 41 => 47 | n => n, fun | 22 => 31 | 23 => 3 | 4 => 4 | n => n, fun | n => n⟩
theorem Tryz.clnInts : Go.Proofs.SlLaysE0.n41 Tryz.prog Tryz.clnInts_ren := {
 mixed := by kernel_rfl
 f41 := ⟨Tryz.f47.name, by decide, Tryz.func47.trans (congrArg some (by kernel_rfl))⟩
 t4 := Tryz.underlying4
 a4 := Tryz.isAgg4
 z4 := Tryz.sizeOf4
 v4 := Tryz.zeroValue4
 t22 := Tryz.underlying31
 a22 := Tryz.isAgg31
 z22 := Tryz.sizeOf31
 v22 := Tryz.zeroValue31 }
def Tryz.delInt_ren : Go.Shelf.Ren := ⟨fun | 45 => 49 | n => n, fun | 22 => 31 | 23 => 3 | 3 => 3 | 4 => 4 | 0 => 0 | n => n, fun | n => n⟩
theorem Tryz.delInt : Go.Proofs.SlLaysN.n45 Tryz.prog Tryz.delInt_ren := {
 mixed := by kernel_rfl
 f45 := ⟨Tryz.f49.name, by decide, Tryz.func49.trans (congrArg some (by kernel_rfl))⟩
 t0 := Tryz.underlying0
 a0 := Tryz.isAgg0
 z0 := Tryz.sizeOf0
 v0 := Tryz.zeroValue0
 t3 := Tryz.underlying3
 a3 := Tryz.isAgg3
 z3 := Tryz.sizeOf3
 v3 := Tryz.zeroValue3
 t4 := Tryz.underlying4
 a4 := Tryz.isAgg4
 z4 := Tryz.sizeOf4
 v4 := Tryz.zeroValue4
 t22 := Tryz.underlying31
 a22 := Tryz.isAgg31
 z22 := Tryz.sizeOf31
 v22 := Tryz.zeroValue31
 t23 := Tryz.underlying3
 a23 := Tryz.isAgg3
 z23 := Tryz.sizeOf3
 v23 := Tryz.zeroValue3
 i23 := by kernel_rfl }
end Go.Proofs
namespace Go.Proofs.YtpmpnbbihmgdpaaGreatDoor
section
open Go.RowKit Go.Deep Sv
theorem clone_ints (c : List Int) (a : Option Addr) (cap : Nat) (w : World) (hp : PlA a) (hi : IntsIn w a c) (hl : c.length <= 100000) (h0 : a = none -> c = []) :
  Calls Tryz.prog 47 #[.slice a c.length cap] w fun e w' => ∃ v', e = .returned v' /\ w'.ownsRow w.heap.size 3 1 v' c.length (icells c) /\ Below w.heap.size w w' := by
 obtain ⟨i0, hin, hz0, hz1, hz2⟩ := info_parts infoInt
 cases a with
 | none =>
  obtain rfl := h0 rfl
  exact (AnyE.slices_Clone_nil Tryz.clnInts 0 cap w).mono fun e w' ⟨he, hw⟩ => ⟨_, he, World.ownsRow_nil _ _ _ _, by rw [hw]; exact Below.refl _ _⟩
 | some ad =>
  obtain ⟨b, o, sp⟩ := ad
  obtain rfl : sp = none := hp _ rfl
  refine (AnyE.slices_Clone Tryz.clnInts i0 _ 1 8 hin hz0 hz1 hz2 rfl (by decide) Tryz.sizeOf3 b o c.length cap (icells c) w (by rw [icells_length]; omega) (by unfold maxLen; omega) (by omega) (fun j u hu => ?_) (fun u hu => by obtain ⟨y, _, rfl⟩ := List.mem_map.1 hu; rfl)).mono fun e w' ⟨v', he, h1, _, h3⟩ => ⟨v', he, h1, h3⟩
  have hj : j < c.length := by have := (List.getElem?_eq_some_iff.1 hu).1; rwa [icells_length] at this
  rw [icells_at c j hj] at hu
  obtain ⟨ad, h1, _, h4⟩ := hi j hj
  cases h1
  rw [<- hu]
  rwa [add_plain] at h4
theorem del_ints (c : List Int) (i : Nat) (v : Value) (B : Nat) (w : World) (hv : w.ownsRow B 3 1 v c.length (icells c)) (hi : i < c.length) :
  Calls Tryz.prog 49 #[v, .int .i64 (i : Int), .int .i64 ((i + 1 : Nat) : Int)] w fun e w' => ∃ v', e = .returned v' /\ w'.ownsRow B 3 1 v' (c.eraseIdx i).length (icells (c.eraseIdx i)) /\ Below B w w' := by
 have hv' : w.ownsRow B 3 1 v c.length (c.map (Value.int .i64)) := hv
 obtain ⟨g, cap, rfl, hb, hlt, hn, hm, hl', hH⟩ := Lib.holds_of_ownsRow hv' (fun e => by
  rcases hv.2 with ⟨_, h⟩ | ⟨g, cap, cur, e', _⟩
  ·omega
  ·rw [e] at e'; cases e')
 refine (AnyG.slices_Delete_int Tryz.delInt g 0 cap i (i + 1) c w hH hn (by unfold maxLen at hm; omega) (by omega) (by omega)).mono ?_
 rintro e w' ⟨rfl, q, rfl⟩
 have e1 : i + 1 - i = 1 := by omega
 rw [e1]
 have e2 : (c.take i ++ c.drop (i + 1) ++ List.replicate 1 0).take (c.length - 1) = c.eraseIdx i := by
  rw [List.eraseIdx_eq_take_drop_succ, List.take_append_of_le_length (by simp; omega), List.take_of_length_le (by simp; omega)]
 have hlen : (c.eraseIdx i).length = c.length - 1 := List.length_eraseIdx_of_lt hi
 have h := Lib.ownsRow_putRow (q := q) (k := c.length - 1) (ys := c.take i ++ c.drop (i + 1) ++ List.replicate 1 0) hv' (by simp; omega) (by omega)
 rw [e2] at h
 rw [hlen]
 exact ⟨_, rfl, h, Lib.below_putRow (Below.refl _ _) hb⟩
end
section
open Go.RowKit Go.Deep Sv
def coreGo (can : List Nat -> Bool) : Nat -> List Nat -> List Nat
 | 0, left => left
 | i + 1, left => coreGo can i (if can (left.eraseIdx i) then left else left.eraseIdx i)
theorem natI_erase (l : List Nat) (i : Nat) : natI (l.eraseIdx i) = (natI l).eraseIdx i := by
 unfold natI
 rw [List.eraseIdx_eq_take_drop_succ, List.eraseIdx_eq_take_drop_succ, List.map_append, List.map_take, List.map_drop]
theorem core_c (can : List Nat -> Bool) (bk : Nat) (ls : List Ln) (its : List It) (w : World) (h : CatAt w bk ls its) (hl : its.length <= 24) (hll : ls.length <= 120) (hnm : ∀ x ∈ ls, x.name.size <= 100000 /\ x.other.size <= 100000) (hP : (ofL its ls).length <= 200) (hc : ∀ x ∈ ofL its ls, x.2.length <= 1000)
  (hck : ∀ l, (checkF (its.length : Nat) (ctOnly (ofL its ls) (inF ls.length l))).1 = 0) (hE : ∀ l b er, CanE its.length (ctOnly (ofL its ls) (inF ls.length l)) b er -> b = can l /\ er = .nilIface) :
  Calls Tryz.prog 14 #[.pointer (some ⟨bk, 0, none⟩)] w fun e w' => ((can (saidF ls) = true /\ e = .returned (.tuple #[.slice none 0 0, .iface 34 (.int .i64 8)])) \/ (can (saidF ls) = false /\ ∃ a c, e = .returned (.tuple #[.slice a (coreGo can (saidF ls).length (saidF ls)).length c, .nilIface]) /\ IntsIn w' a (natI (coreGo can (saidF ls).length (saidF ls))))) /\ Below w.heap.size w w' := by
 have HSA := Lib.hid (said_c bk ls its w h hl hll hnm hP)
 have HLT : Hid (∀ x ∈ saidF ls, x < ls.length) := saidP_lt ls ls.length
 have hsl : (saidF ls).length <= ls.length := saidP_len ls ls.length
 have HCC : Hid (∀ (W : World) (cv fv : Value) (l : List Nat) (la : Option Addr) (lc : Nat) (sa : Option Addr) (sn sc : Nat), RS w.heap.size W cv fv ((ofL its ls).map Prod.snd) ((ofL its ls).map Prod.fst) -> IntsIn W la (natI l) -> (∀ x ∈ l, x < ls.length) -> l.length <= 100000 ->
   Calls Tryz.prog 48 #[.agg #[.int .i64 (its.length : Int), cv, fv, .slice sa sn sc, .int .i64 (ls.length : Int)], .slice la l.length lc] W fun e w' => e = .returned (.tuple #[.bool (can l), .nilIface]) /\ Below W.heap.size W w') := fun W cv fv l la lc sa sn sc h1 h2 h3 h4 => by
  refine (can_c w.heap.size its.length (ofL its ls) cv fv ls.length l la lc sa sn sc W h1 h2 h3 (by omega) h4 (by omega) hc (hck l)).mono ?_
  rintro e w' ⟨b, er, rfl, hcan, hb⟩
  obtain ⟨rfl, rfl⟩ := hE l b er hcan
  exact ⟨rfl, hb⟩
 clear h hnm hc hck hE
 generalize ofL its ls = P at *
 go_enter Tryz.func14, Tryz.ntmps14
 go_wp2_with fail
 refine HSA.out.mono ?_
 rintro e w1 ⟨cv, fv, lv, rfl, hrs, hrow, hb1⟩
 obtain ⟨ca, cc, rfl, -⟩ : ∃ a c, cv = .slice a P.length c /\ True := by obtain ⟨cs, h1, _⟩ := hrs.crow; obtain ⟨a, c, e, _⟩ := (rowAt_own h1).form; exact ⟨a, c, by simpa using e, trivial⟩
 obtain ⟨fa, fc, rfl, -⟩ : ∃ a c, fv = .slice a P.length c /\ True := by obtain ⟨a, c, e, _⟩ := (rowAt_own hrs.frow).form; exact ⟨a, c, by simpa using e, trivial⟩
 obtain ⟨sa, sc, hv, hq1, hq2, hq3, hq4⟩ := intsK_own hrow
 rw [natI_len] at hv
 subst hv
 have hbn := below_new w1 (.cells #[.int .i64 (its.length : Int), .slice ca P.length cc, .slice fa P.length fc, .slice sa (saidF ls).length sc, .int .i64 (ls.length : Int)] 111)
 have kr := Blk.new w1 111 #[.int .i64 (its.length : Int), .slice ca P.length cc, .slice fa P.length fc, .slice sa (saidF ls).length sc, .int .i64 (ls.length : Int)]
 have HRS := Lib.hid (hrs.new hbn)
 have HIN := Lib.hid (hq3.ints.below hbn)
 have HB2 := Lib.hid (hb1.trans (hbn.mono hb1.size))
 have hns : sa = none -> natI (saidF ls) = [] := fun e => by
  cases hx : natI (saidF ls) with
  | nil => rfl
  | cons y c => rw [hx] at hq3; obtain ⟨ad, h, _⟩ := hq3 0 (by simp); rw [e] at h; cases h
 have hnl := natI_len (saidF ls)
 have HCL := Lib.hid (fun W hi => clone_ints (natI (saidF ls)) sa sc W hq4 hi (by omega) hns)
 clear hrs hrow hb1 hbn hq1 hq2 hq3 hq4 hns HSA
 rw [hnl] at HCL
 go_upto_region 4 with fail
 generalize w1.alloc (.cells #[.int .i64 (its.length : Int), .slice ca P.length cc, .slice fa P.length fc, .slice sa (saidF ls).length sc, .int .i64 (ls.length : Int)] 111) = W2 at *
 generalize w1.heap.size = b4 at *
 have y3 : W2.cell? ⟨b4, 3, none⟩ = some (.slice sa (saidF ls).length sc) := kr.cell 3
 have HCL2 := Lib.hid (HCL.out W2 HIN.out)
 clear HCL HIN
 go_wp2_with fail
 refine HCL2.out.mono ?_
 rintro e w3 ⟨v3, rfl, hrow3, hb3⟩
 rw [<- natI_len (saidF ls)] at hrow3
 obtain ⟨la, lc, hv, -, -, hi3, hp3⟩ := intsK_own hrow3
 rw [natI_len] at hv
 subst hv
 have kr3 := kr.below hb3 kr.lt
 have e0 : w3.cell? ⟨b4, 0, none⟩ = some (.int .i64 (its.length : Int)) := kr3.cell 0
 have e1 : w3.cell? ⟨b4, 1, none⟩ = some (.slice ca P.length cc) := kr3.cell 1
 have e2 : w3.cell? ⟨b4, 2, none⟩ = some (.slice fa P.length fc) := kr3.cell 2
 have e3 : w3.cell? ⟨b4, 3, none⟩ = some (.slice sa (saidF ls).length sc) := kr3.cell 3
 have e4 : w3.cell? ⟨b4, 4, none⟩ = some (.int .i64 (ls.length : Int)) := kr3.cell 4
 have HCA := Lib.hid (HCC.out w3 _ _ (saidF ls) la lc sa (saidF ls).length sc (HRS.out.new hb3) hi3.ints HLT.out (by omega))
 have HB3 : Hid (Below w.heap.size w w3) := HB2.out.trans (hb3.mono HB2.out.size)
 have HR3 : Hid (w3.ownsRow w.heap.size 3 1 (.slice la (saidF ls).length lc) (natI (saidF ls)).length (icells (natI (saidF ls)))) := ownsRow_base hrow3 HB2.out.size
 have KR := Lib.hid kr3
 have HRS3 := Lib.hid (HRS.out.new hb3)
 clear hrow3 hb3 hi3 hp3 kr kr3 HRS HB2 HCL2 y3
 cases hcan : can (saidF ls) with
 | true =>
  rw [hcan] at HCA
  go_wp2_with fail
  refine HCA.out.mono ?_
  rintro e w4 ⟨rfl, hb4⟩
  have HB4 := Lib.hid (HB3.out.trans (hb4.mono HB3.out.size))
  clear hb4 HCA e0 e1 e2 e3 e4
  go_wp2
  go_ret2
  exact ⟨Or.inl ⟨hcan, rfl⟩, HB4.out⟩
 | false =>
  rw [hcan] at HCA
  go_wp2_with fail
  refine HCA.out.mono ?_
  rintro e w4 ⟨rfl, hb4⟩
  have HB4 := Lib.hid (HB3.out.trans (hb4.mono HB3.out.size))
  have HR4 := Lib.hid (row_new' HR3.out hb4)
  have KR4 := Lib.hid (KR.out.below hb4 KR.out.lt)
  have HRS4 := Lib.hid (HRS3.out.new hb4)
  clear hb4 HCA e0 e1 e2 e3 e4 HB3 HR3 KR HRS3
  go_wp2_with fail
  go_loopw [6, 8] (fun lV iV wr => ∃ (k : Nat) (left : List Nat) (la : Option Addr) (lc : Nat), lV = .slice la left.length lc /\ k <= left.length /\ iV = .int .i64 ((k : Int) - 1) /\ coreGo can k left = coreGo can (saidF ls).length (saidF ls) /\ (∀ x ∈ left, x < ls.length) /\ left.length <= ls.length /\ wr.ownsRow w.heap.size 3 1 (.slice la left.length lc) (natI left).length (icells (natI left)) /\ Below w4.heap.size w4 wr) (fun _ iV _ => (intOf iV + 1).toNat)
  case atStart => exact ⟨(saidF ls).length, saidF ls, la, lc, rfl, Nat.le_refl _, by go_num, rfl, HLT.out, hsl, HR4.out, Below.refl _ _⟩
  case round =>
   clear HR4
   obtain ⟨k, left, la, lc, rfl, hk, rfl, hgo, hlt, hll2, hrow, hbr⟩ := hrel
   cases k with
   | zero =>
    obtain ⟨a', c', hv, -, -, hi5, -⟩ := intsK_own hrow
    rw [natI_len] at hv
    simp at hv
    obtain ⟨rfl, rfl⟩ := hv
    have HIN := Lib.hid hi5.ints
    have HB5 := Lib.hid (HB4.out.trans (hbr.mono HB4.out.size))
    have HGO := Lib.hid hgo
    clear hi5 hbr hrow hgo
    go_wp2
    go_ret2
    refine ⟨Or.inr ⟨hcan, la, lc, ?_, ?_⟩, HB5.out⟩
    ·rw [<- HGO.out]; rfl
    ·rw [<- HGO.out]; exact HIN.out
   | succ j =>
    have hj1 : ((j + 1 : Nat) : Int) - 1 = (j : Int) := by omega
    rw [hj1]
    have hj0 : (0 : Int) <= (j : Int) := by omega
    have hj2 : IntKind.i64.wrap ((j : Int) + 1) = ((j + 1 : Nat) : Int) := by rw [IntKind.wrap_i64]; omega
    obtain ⟨a', c', hv, -, -, hi5, hp5⟩ := intsK_own hrow
    rw [natI_len] at hv
    simp at hv
    obtain ⟨rfl, rfl⟩ := hv
    have hns : la = none -> natI left = [] := fun e => by
     cases hx : natI left with
     | nil => rfl
     | cons y c => rw [hx] at hi5; obtain ⟨ad, h, _⟩ := hi5 0 (by simp); rw [e] at h; cases h
    have hnl2 := natI_len left
    have HCL := Lib.hid (clone_ints (natI left) la lc wr hp5 hi5.ints (by omega) hns)
    rw [hnl2] at HCL
    have HBR := Lib.hid hbr
    have HROW := Lib.hid hrow
    have HLT2 := Lib.hid hlt
    have HGO := Lib.hid hgo
    clear hns hi5 hp5 hj1 hbr hrow hlt hgo
    go_wp2_with fail
    refine HCL.out.mono ?_
    rintro e w6 ⟨v6, rfl, hrow6, hb6⟩
    rw [<- natI_len left] at hrow6
    have HDE := Lib.hid (del_ints (natI left) j v6 wr.heap.size w6 hrow6 (by omega))
    have HB6 : Hid (Below wr.heap.size wr w6) := hb6
    clear HCL hrow6 hb6
    go_wp2_with fail
    refine HDE.out.mono ?_
    rintro e w7 ⟨v7, rfl, hrow7, hb7⟩
    rw [<- natI_erase] at hrow7
    obtain ⟨oa, oc, hv, -, -, hi7, -⟩ := intsK_own hrow7
    rw [natI_len] at hv
    subst hv
    have hb8 : Below wr.heap.size wr w7 := HB6.out.trans hb7
    have hb9 : Below w4.heap.size w4 w7 := HBR.out.trans (hb8.mono HBR.out.size)
    have kr7 := KR4.out.below hb9 KR4.out.lt
    have e0 : w7.cell? ⟨b4, 0, none⟩ = some (.int .i64 (its.length : Int)) := kr7.cell 0
    have e1 : w7.cell? ⟨b4, 1, none⟩ = some (.slice ca P.length cc) := kr7.cell 1
    have e2 : w7.cell? ⟨b4, 2, none⟩ = some (.slice fa P.length fc) := kr7.cell 2
    have e3 : w7.cell? ⟨b4, 3, none⟩ = some (.slice sa (saidF ls).length sc) := kr7.cell 3
    have e4 : w7.cell? ⟨b4, 4, none⟩ = some (.int .i64 (ls.length : Int)) := kr7.cell 4
    have hel : (left.eraseIdx j).length = left.length - 1 := List.length_eraseIdx_of_lt (by omega)
    have hlt7 : ∀ x ∈ left.eraseIdx j, x < ls.length := fun x hx => HLT2.out x (List.mem_of_mem_eraseIdx hx)
    have HCA := Lib.hid (HCC.out w7 _ _ (left.eraseIdx j) oa oc sa (saidF ls).length sc (HRS4.out.new hb9) hi7.ints hlt7 (by omega))
    have HLT7 := Lib.hid hlt7
    have HEL := Lib.hid hel
    have hj3 : IntKind.i64.wrap ((j : Int) - 1) = (j : Int) - 1 := by rw [IntKind.wrap_i64]; omega
    have HR7 : Hid (w7.ownsRow w.heap.size 3 1 (.slice oa (left.eraseIdx j).length oc) (natI (left.eraseIdx j)).length (icells (natI (left.eraseIdx j)))) := ownsRow_base hrow7 (Nat.le_trans HB4.out.size HBR.out.size)
    have HRL := Lib.hid (row_new' HROW.out hb8)
    have HB9 := Lib.hid hb9
    clear hrow7 hb7 hi7 hb8 hb9 kr7 hlt7 HDE HB6 HBR HROW hel
    cases hcn : can (left.eraseIdx j) with
    | true =>
     rw [hcn] at HCA
     have HG2 : Hid (coreGo can j left = coreGo can (saidF ls).length (saidF ls)) := by show _ = _; rw [<- HGO.out]; show _ = coreGo can j _; rw [hcn]; rfl
     clear hcn HGO
     go_wp2_with fail
     refine HCA.out.mono ?_
     rintro e w8 ⟨rfl, hb8⟩
     have HR8 := Lib.hid (row_new' HRL.out hb8)
     have HB10 := Lib.hid (HB9.out.trans (hb8.mono HB9.out.size))
     clear hb8 HCA e0 e1 e2 e3 e4 HRL HR7 HB9
     go_wp2
     go_roundw
     case rel => exact ⟨j, left, la, lc, rfl, by omega, by go_num, HG2.out, HLT2.out, hll2, HR8.out, HB10.out⟩
     case measure => simp [intOf]
    | false =>
     rw [hcn] at HCA
     have HG2 : Hid (coreGo can j (left.eraseIdx j) = coreGo can (saidF ls).length (saidF ls)) := by show _ = _; rw [<- HGO.out]; show _ = coreGo can j _; rw [hcn]; rfl
     clear hcn HGO
     go_wp2_with fail
     refine HCA.out.mono ?_
     rintro e w8 ⟨rfl, hb8⟩
     have HR8 := Lib.hid (row_new' HR7.out hb8)
     have HB10 := Lib.hid (HB9.out.trans (hb8.mono HB9.out.size))
     clear hb8 HCA e0 e1 e2 e3 e4 HRL HR7 HB9
     go_wp2
     go_roundw
     case rel => exact ⟨j, left.eraseIdx j, oa, oc, rfl, by rw [HEL.out]; omega, by go_num, HG2.out, HLT7.out, by rw [HEL.out]; omega, HR8.out, HB10.out⟩
     case measure => simp [intOf]
end
section
open Go.RowKit Go.Deep Sv
noncomputable def satB (l : List (List Int)) : Bool := @decide (∃ vals, SatL vals l) (Classical.propDecidable _)
theorem satB_true {l : List (List Int)} : satB l = true ↔ ∃ vals, SatL vals l := by unfold satB; exact @decide_eq_true_iff _ (Classical.propDecidable _)
theorem satB_false {l : List (List Int)} : satB l = false ↔ ∀ vals, ¬ SatL vals l := by
 rw [<- Bool.not_eq_true, satB_true]
 exact ⟨fun h v hv => h ⟨v, hv⟩, fun h ⟨v, hv⟩ => h v hv⟩
theorem satB_sub {l m : List (List Int)} (h : ∀ c ∈ l, c ∈ m) (hm : satB m = true) : satB l = true := by
 obtain ⟨v, hv⟩ := satB_true.1 hm
 exact satB_true.2 ⟨v, fun c hc => hv c (h c hc)⟩
theorem canE_sat {v : Nat} {l : List (List Int)} {b : Bool} {er : Value} (hv : v <= 24) (hl : LitsL v l) (hn : ∀ r, Run v l st0 r -> r ≠ .limit) (h : CanE v l b er) : b = satB l /\ er = .nilIface := by
 obtain ⟨r, hr, h⟩ := h
 obtain ⟨h1, h2⟩ := run_inv hv hl hr (good0 v) (inv0 l)
 rcases h with ⟨t, rfl, rfl, rfl⟩ | ⟨p, rfl, rfl, rfl⟩ | ⟨rfl, -, -⟩
 ·obtain ⟨ds, -, hli, hco, -, hall⟩ := h2 t rfl
  refine ⟨(satB_true.2 ⟨numF t 24, fun c hc => ?_⟩).symm, rfl⟩
  obtain ⟨x, hx, ht⟩ := hall c hc
  exact ⟨x, hx, numF_sat hli hco hv x ht⟩
 ·exact ⟨(satB_false.2 (h1 p rfl)).symm, rfl⟩
 ·exact absurd rfl (hn _ hr)
theorem told_sub {m : Nat} {a b : List Nat} (h : ∀ x ∈ a, x ∈ b) {f : Int} (ht : ctTold (inF m a) f = true) : ctTold (inF m b) f = true := by
 unfold ctTold at *
 by_cases h1 : f = -1
 ·simp [h1]
 ·by_cases h0 : 0 <= f
  ·obtain ⟨k, rfl⟩ := Int.eq_ofNat_of_zero_le h0
   by_cases hk : k < m
   ·have e1 := inF_at a hk
    have e2 := inF_at b hk
    simp only [Int.toNat_natCast] at *
    simp_all
   ·simp [List.getD_eq_getElem?_getD, inF, hk, h1] at ht
  ·simp [h1, h0] at ht
theorem only_sub {P : List (Int × List Int)} {m : Nat} {a b : List Nat} (h : ∀ x ∈ a, x ∈ b) : ∀ c ∈ ctOnly P (inF m a), c ∈ ctOnly P (inF m b) := by
 intro c hc
 unfold ctOnly at *
 obtain ⟨x, hx, rfl⟩ := List.mem_map.1 hc
 obtain ⟨h1, h2⟩ := List.mem_filter.1 hx
 exact List.mem_map.2 ⟨x, List.mem_filter.2 ⟨h1, told_sub h h2⟩, rfl⟩
theorem erase_erase_mem {l : List Nat} {k i x : Nat} (hki : k <= i) (h : x ∈ (l.eraseIdx k).eraseIdx i) : x ∈ l.eraseIdx (i + 1) := by
 rw [List.mem_eraseIdx_iff_getElem] at *
 obtain ⟨j, hj, hne, rfl⟩ := h
 have hlen := List.length_eraseIdx_le l k
 rw [List.getElem_eraseIdx]
 split
 ·exact ⟨j, by omega, by omega, rfl⟩
 ·have : j < l.length - 1 \/ l.length <= k := by
   rw [List.length_eraseIdx] at hj
   split at hj <;> omega
  refine ⟨j + 1, ?_, by omega, rfl⟩
  rcases this with h | h
  ·omega
  ·omega
theorem coreGo_ok {can : List Nat -> Bool} (hmono : ∀ a b, (∀ x ∈ a, x ∈ b) -> can b = true -> can a = true) : ∀ (k : Nat) (left : List Nat), can left = false -> k <= left.length -> (∀ i, k <= i -> i < left.length -> can (left.eraseIdx i) = true) ->
  can (coreGo can k left) = false /\ (coreGo can k left).Sublist left /\ ∀ i, i < (coreGo can k left).length -> can ((coreGo can k left).eraseIdx i) = true
 | 0, left, h0, _, h2 => ⟨h0, List.Sublist.refl _, fun i hi => h2 i (Nat.zero_le _) hi⟩
 | k + 1, left, h0, h1, h2 => by
  unfold coreGo
  cases hc : can (left.eraseIdx k) with
  | true =>
   rw [if_pos rfl]
   refine coreGo_ok hmono k left h0 (by omega) (fun i hi hl => ?_)
   by_cases e : i = k
   ·rw [e]; exact hc
   ·exact h2 i (by omega) hl
  | false =>
   rw [if_neg (by simp)]
   have hlen : (left.eraseIdx k).length = left.length - 1 := List.length_eraseIdx_of_lt (by omega)
   obtain ⟨q1, q2, q3⟩ := coreGo_ok hmono k (left.eraseIdx k) hc (by omega) (fun i hi hl => hmono _ _ (fun x hx => erase_erase_mem hi hx) (h2 (i + 1) (by omega) (by omega)))
   exact ⟨q1, q2.trans (List.eraseIdx_sublist left k), q3⟩
theorem saidP_asc (ls : List Ln) (i : Nat) : (saidP ls i).Pairwise (· < ·) := List.Pairwise.filter _ List.pairwise_lt_range
end
section
open Go.RowKit Go.Deep Sv
theorem gathF_names : ∀ (ls : List Ln) (i : Nat) (its out : List It), namesN its <= 8 -> gathF ls i its = .ok out -> namesN out <= 8
 | [], i, its, out, h0, h => by cases h; exact h0
 | x :: r, i, its, out, h0, h => by
  rw [gathF] at h
  split at h
  ·cases h
  ·split at h
   ·split at h
    ·cases h
    ·split at h
     ·cases h
     ·rename_i hx
      exact gathF_names r (i + 1) _ out (by omega) h
   ·exact gathF_names r (i + 1) its out h0 h
theorem miss_mem : ∀ (ls : List Ln) (i : Nat) (its : List It), missF ls i its = none -> ∀ x ∈ ls, x.pair -> x.it ∈ its
 | [], _, _, _, x, hx, _ => by cases hx
 | y :: r, i, its, h, x, hx, hp => by
  unfold missF at h
  split at h
  ·cases h
  ·rename_i hy
   rcases List.mem_cons.1 hx with rfl | hx
   ·exact Classical.byContradiction fun e => hy ⟨hp, e⟩
   ·exact miss_mem r (i + 1) its h x hx hp
theorem new_more {ls : List Ln} {its : List It} (h : newF ls = .ok its) : (∀ x ∈ ls, x.pair -> x.it ∈ its) /\ ∃ g : List It, namesN g <= 8 /\ its.Perm g := by
 unfold newF at h
 split at h
 ·cases h
 ·split at h
  ·cases h
  ·rename_i g hg
   split at h
   ·cases h
   ·rename_i hm
    cases h
    exact ⟨miss_mem ls 0 _ hm, g, gathF_names ls 0 [] g (by decide) hg, sortF_perm g⟩
def nameI (its : List It) (i : Nat) : ByteArray := (its.getD i default).name
theorem names_apart {its : List It} (h : Asc its) {i j : Nat} (hij : i < j) (hj : j < its.length) (hne : nameI its j ≠ nameI its (j - 1)) : nameI its i ≠ nameI its j := by
 intro e
 by_cases h1 : i = j - 1
 ·exact hne (h1 ▸ e.symm)
 ·have a1 := cmp_names (asc_at h (i := i) (j := j - 1) (by omega) (by omega))
  have a2 := cmp_names (asc_at h (i := j - 1) (j := j) hj (by omega))
  unfold nameI at *
  rcases a2 with a2 | a2
  ·exact hne a2.symm
  ·rcases a1 with a1 | a1
   ·exact hne (by rw [<- a1, e])
   ·rw [e] at a1
    have := cb_anti (its.getD j default).name.data.toList (its.getD (j - 1) default).name.data.toList
    omega
theorem news_le {ls : List Ln} {its : List It} (h : newF ls = .ok its) : (newsN (nameI its) its.length).length <= 8 := by
 have ha := (new_asc h).1
 obtain ⟨-, g, hg, hp⟩ := new_more h
 refine Nat.le_trans ?_ hg
 unfold namesN
 have hn : ((newsN (nameI its) its.length).map (nameI its)).Nodup := by
  have hlt : ∀ x ∈ newsN (nameI its) its.length, x < its.length /\ ¬ (x ≠ 0 /\ nameI its x = nameI its (x - 1)) := fun x hx => by
   unfold newsN at hx
   have := List.mem_filter.1 hx
   exact ⟨List.mem_range.1 this.1, of_decide_eq_true this.2⟩
  have hasc : (newsN (nameI its) its.length).Pairwise (· < ·) := List.Pairwise.filter _ List.pairwise_lt_range
  show List.Pairwise _ _
  rw [List.pairwise_map]
  refine (List.pairwise_iff_getElem.2 fun i j hi hj hij => ?_)
  have hlt2 := List.pairwise_iff_getElem.1 hasc i j hi hj hij
  have hj2 := hlt _ (List.getElem_mem hj)
  exact names_apart ha hlt2 hj2.1 (fun e => hj2.2 ⟨by omega, e⟩)
 have hle := nodup_le (m := (g.map It.name).eraseDups) hn (fun x hx => by
  obtain ⟨i, hi, rfl⟩ := List.mem_map.1 hx
  unfold newsN at hi
  have hil := List.mem_range.1 (List.mem_filter.1 hi).1
  rw [List.mem_eraseDups]
  refine List.mem_map.2 ⟨its.getD i default, hp.mem_iff.1 ?_, rfl⟩
  rw [List.getD_eq_getElem?_getD, List.getElem?_eq_getElem hil]
  exact List.getElem_mem hil)
 rw [List.length_map] at hle
 exact hle
theorem numb_lt {its : List It} {x : It} (h : x ∈ its) : 0 <= ctNumb its x /\ ctNumb its x < its.length := by
 unfold ctNumb
 cases hf : its.findIdx? (fun y => decide (x = y)) with
 | none =>
  rw [List.findIdx?_eq_none_iff] at hf
  have := hf x h
  simp at this
 | some i =>
  rw [List.findIdx?_eq_some_iff_getElem] at hf
  obtain ⟨hi, _⟩ := hf
  exact ⟨by simp, by simpa using hi⟩
theorem among_lits (its : List It) (nm : ByteArray) (rng : List Span) : Lits its.length ((amongF its nm rng).map fun (k : Nat) => ((k : Int) + 1)) := fun x hx => by
 obtain ⟨k, hk, rfl⟩ := List.mem_map.1 hx
 have := amongF_lt its nm rng k hk
 rw [litB_iff]
 omega
theorem ofL_fine {ls : List Ln} {its : List It} (h : newF ls = .ok its) : ∀ x ∈ ofL its ls, Lits its.length x.2 /\ x.2.length <= 48 := by
 intro x hx
 have hl := (newF_ok h).1
 rcases List.mem_append.1 hx with hx | hx
 ·obtain ⟨k, hk, hx⟩ := List.mem_flatMap.1 hx
  obtain ⟨j, hj, hx⟩ := List.mem_flatMap.1 hx
  have hk' := List.mem_range.1 hk
  have hj' := List.mem_range.1 hj
  unfold pr0 at hx
  split at hx
  ·rw [List.mem_singleton] at hx
   subst hx
   refine ⟨fun y hy => ?_, by simp⟩
   simp only [List.mem_cons, List.not_mem_nil, or_false] at hy
   rw [litB_iff]
   unfold notF1 at hy
   rcases hy with rfl | rfl <;> omega
  ·cases hx
 ·obtain ⟨n, hn, hx⟩ := List.mem_flatMap.1 hx
  have hn' := List.mem_range.1 hn
  have hmem : ls.getD n default ∈ ls := by rw [List.getD_eq_getElem?_getD, List.getElem?_eq_getElem hn']; exact List.getElem_mem hn'
  have hpair := (new_more h).1 _ hmem
  generalize ls.getD n default = X at *
  have l1 := amongF_len its X.name X.rng
  have l2 := amongF_len its X.other X.rng
  unfold lineC at hx
  split at hx
  ·rw [List.mem_singleton] at hx
   subst hx
   exact ⟨among_lits _ _ _, by simp; omega⟩
  ·split at hx
   ·rename_i hk
    rw [List.mem_singleton] at hx
    subst hx
    have hnb := numb_lt (hpair (Or.inl hk))
    refine ⟨fun y hy => ?_, by simp; omega⟩
    rcases List.mem_cons.1 hy with rfl | hy
    ·rw [litB_iff]; unfold notF1; omega
    ·exact among_lits _ _ _ y hy
   ·split at hx
    ·rename_i hk
     obtain ⟨k, hk2, rfl⟩ := List.mem_map.1 hx
     have hnb := numb_lt (hpair (Or.inr hk))
     have hka := amongF_lt its X.other X.rng k hk2
     refine ⟨fun y hy => ?_, by simp⟩
     simp only [List.mem_cons, List.not_mem_nil, or_false] at hy
     rw [litB_iff]
     unfold notF1 at hy
     rcases hy with rfl | rfl <;> omega
    ·cases hx
theorem only_lenR (P : List (Int × List Int)) (bs : List Bool) : (ctOnly P bs).length <= P.length := by
 unfold ctOnly
 rw [List.length_map]
 exact List.length_filter_le _ _
theorem only_mem {P : List (Int × List Int)} {bs : List Bool} {c : List Int} (h : c ∈ ctOnly P bs) : ∃ x ∈ P, x.2 = c := by
 unfold ctOnly at h
 obtain ⟨x, hx, rfl⟩ := List.mem_map.1 h
 exact ⟨x, (List.mem_filter.1 hx).1, rfl⟩
theorem only_lits {ls : List Ln} {its : List It} (h : newF ls = .ok its) (bs : List Bool) : LitsL its.length (ctOnly (ofL its ls) bs) := fun c hc => by
 obtain ⟨x, hx, rfl⟩ := only_mem hc
 exact (ofL_fine h x hx).1
theorem only_check {ls : List Ln} {its : List It} (h : newF ls = .ok its) (hP : (ofL its ls).length <= 200) (bs : List Bool) : (checkF (its.length : Nat) (ctOnly (ofL its ls) bs)).1 = 0 := by
 have hl := (newF_ok h).1
 rw [checkF_ok (by omega) (by omega) (Nat.le_trans (only_lenR _ _) hP) (fun j hj => ?_)]
 have hm : (ctOnly (ofL its ls) bs).getD j [] ∈ ctOnly (ofL its ls) bs := by rw [List.getD_eq_getElem?_getD, List.getElem?_eq_getElem hj]; exact List.getElem_mem hj
 obtain ⟨x, hx, e⟩ := only_mem hm
 obtain ⟨h1, h2⟩ := ofL_fine h x hx
 rw [<- e]
 unfold badC
 rw [Bool.or_eq_false_iff]
 refine ⟨by simp; omega, ?_⟩
 rw [List.any_eq_false]
 intro y hy
 simp [h1 y hy]
theorem only_pairs (its : List It) (ls : List Ln) (bs : List Bool) (i j : Nat) (hij : i < j) (hj : j < its.length) (e : nameI its i = nameI its j) : [-((i : Int) + 1), -((j : Int) + 1)] ∈ ctOnly (ofL its ls) bs := by
 unfold ctOnly
 refine List.mem_map.2 ⟨(-1, [-((i : Int) + 1), -((j : Int) + 1)]), List.mem_filter.2 ⟨List.mem_append.2 (Or.inl ?_), by simp [ctTold]⟩, rfl⟩
 refine List.mem_flatMap.2 ⟨j, List.mem_range.2 hj, List.mem_flatMap.2 ⟨i, List.mem_range.2 hij, ?_⟩⟩
 unfold pr0
 unfold nameI at e
 rw [if_pos e]
 simp [notF1]
theorem canE_lines {ls : List Ln} {its : List It} (h : newF ls = .ok its) (hv : its.length <= 12) (bs : List Bool) {b : Bool} {er : Value} (hc : CanE its.length (ctOnly (ofL its ls) bs) b er) : b = satB (ctOnly (ofL its ls) bs) /\ er = .nilIface :=
 canE_sat (by omega) (only_lits h bs) (fun _ hr => twelve_not_limit (nameI its) hv (only_lits h bs) (news_le h) (only_pairs its ls bs) hr) hc
theorem ofL_from (its : List It) (ls : List Ln) : ∀ x ∈ ofL its ls, x.1 = -1 \/ ∃ n : Nat, n < ls.length /\ x.1 = (n : Int) := by
 intro x hx
 rcases List.mem_append.1 hx with hx | hx
 ·obtain ⟨k, _, hx⟩ := List.mem_flatMap.1 hx
  obtain ⟨j, _, hx⟩ := List.mem_flatMap.1 hx
  unfold pr0 at hx
  split at hx
  ·rw [List.mem_singleton] at hx
   subst hx
   exact Or.inl rfl
  ·cases hx
 ·obtain ⟨n, hn, hx⟩ := List.mem_flatMap.1 hx
  refine Or.inr ⟨n, List.mem_range.1 hn, ?_⟩
  unfold lineC at hx
  split at hx
  ·rw [List.mem_singleton] at hx
   subst hx
   rfl
  ·split at hx
   ·rw [List.mem_singleton] at hx
    subst hx
    rfl
   ·split at hx
    ·obtain ⟨k, _, rfl⟩ := List.mem_map.1 hx
     rfl
    ·cases hx
theorem only_wide (its : List It) (ls : List Ln) (l : List Nat) {m : Nat} (hm : ls.length <= m) : ctOnly (ofL its ls) (inF m l) = ctOnly (ofL its ls) (inF ls.length l) := by
 unfold ctOnly
 congr 1
 refine List.filter_congr fun x hx => ?_
 rcases ofL_from its ls x hx with h | ⟨n, hn, h⟩
 ·simp [ctTold, h]
 ·simp only [ctTold, h, Int.toNat_natCast]
  rw [inF_at l hn, inF_at l (show n < m by omega)]
end
end Go.Proofs.YtpmpnbbihmgdpaaGreatDoor
