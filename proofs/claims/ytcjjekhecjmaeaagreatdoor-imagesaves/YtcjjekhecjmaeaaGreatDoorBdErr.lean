/- Handles, variables and rooms that there are not; and ends, of which all is known at once. -/
import Derived.Test.YtcjjekhecjmaeaaGreatDoorImRefMain
import Derived.Test.YtcjjekhecjmaeaaGreatDoorBdOpsW
import Derived.Test.YtcjjekhecjmaeaaGreatDoorBdFree
set_option maxHeartbeats 4000000
set_option maxRecDepth 100000
namespace Go.Proofs.YtcjjekhecjmaeaaGreatDoor
section
open Go.RowKit Go.Maps
theorem four_new (w : World) (o0 o1 o2 o3 : Obj) : ((((w.alloc o0).alloc o1).alloc o2).alloc o3).heap.size = w.heap.size + 4 /\ ((((w.alloc o0).alloc o1).alloc o2).alloc o3).heap[w.heap.size]? = some o0 /\ ((((w.alloc o0).alloc o1).alloc o2).alloc o3).heap[w.heap.size + 1]? = some o1 /\ ((((w.alloc o0).alloc o1).alloc o2).alloc o3).heap[w.heap.size + 2]? = some o2 /\ ((((w.alloc o0).alloc o1).alloc o2).alloc o3).heap[w.heap.size + 3]? = some o3 /\ Below w.heap.size w ((((w.alloc o0).alloc o1).alloc o2).alloc o3) := by
 have b1 := below_new w o0
 have b2 := b1.alloc b1.size o1
 have b3 := b2.alloc b2.size o2
 have b4 := b3.alloc b3.size o3
 have z1 : (w.alloc o0).heap.size = w.heap.size + 1 := World.size_alloc _ _
 have z2 : ((w.alloc o0).alloc o1).heap.size = w.heap.size + 2 := by rw [World.size_alloc, z1]
 have z3 : (((w.alloc o0).alloc o1).alloc o2).heap.size = w.heap.size + 3 := by rw [World.size_alloc, z2]
 have k0 := (MapKept.heap_alloc w o0).1
 have k1 := (MapKept.heap_alloc (w.alloc o0) o1).1
 have k2 := (MapKept.heap_alloc ((w.alloc o0).alloc o1) o2).1
 have k3 := (MapKept.heap_alloc (((w.alloc o0).alloc o1).alloc o2) o3).1
 rw [z1] at k1
 rw [z2] at k2
 rw [z3] at k3
 have c1 := below_new (w.alloc o0) o1
 have c2 := below_new ((w.alloc o0).alloc o1) o2
 have c3 := below_new (((w.alloc o0).alloc o1).alloc o2) o3
 exact ⟨by rw [World.size_alloc, z3], (c3.block _ (by omega)).trans ((c2.block _ (by omega)).trans ((c1.block _ (by omega)).trans k0)), (c3.block _ (by omega)).trans ((c2.block _ (by omega)).trans k1), (c3.block _ (by omega)).trans k2, k3, b4⟩
theorem cell_heap {W : World} {k : Nat} {x : Value} {t : TypeId} (h : W.heap[k]? = some (.cells #[x] t)) : W.cell? ⟨k, 0, none⟩ = some x /\ W.frozen? ⟨k, 0, none⟩ = false := ⟨by simp [World.cell?, h], by simp [World.frozen?, h]⟩
section
variable {vars : Nat} {ns : List Nd}
theorem rimage_any (hg : Good vars ns) (h6 : vars <= 6) (hl : ns.length <= 5000) (h : Int) (hh : hasB ns h = true) (w : World) (hT : Tab10 w) (g : Nat) (hb : BoolsAt w g (tabH vars ns h)) :
  Calls Tryz.prog 19 #[.slice (some ⟨g, 0, none⟩) (2 ^ vars) (2 ^ vars), .int .i64 (vars : Int)] w fun e w' => e = .returned (.string ⟨(imgF vars ns (postF ns 25 h []) h).toArray⟩) /\ Below w.heap.size w w' := by
 obtain ⟨z4, k0, k1, k2, k3, b4⟩ := four_new w (.cells #[.int .i64 (vars : Int)] 3) (.cells #[.string ⟨#[]⟩] 9) (.cells #[.slice none 0 0] 25) (.cells #[.func (.func 50) #[] #[.pointer (some ⟨w.heap.size, 0, none⟩), .pointer (some ⟨w.heap.size + 1 + 1, 0, none⟩), .pointer (some ⟨w.heap.size + 1 + 1 + 1, 0, none⟩), .pointer (some ⟨w.heap.size + 1, 0, none⟩)]] 104)
 obtain ⟨P1, P2, P3⟩ := post_ok hg.ranked 25 h [] ⟨fun x hx => (by cases hx), List.nodup_nil, fun x hx => (by cases hx)⟩ hh (by have := (topOf_le hg.ranked h).1; omega)
 obtain ⟨W4, hW4⟩ : ∃ W4, W4 = ((((w.alloc (.cells #[.int .i64 (vars : Int)] 3)).alloc (.cells #[.string ⟨#[]⟩] 9)).alloc (.cells #[.slice none 0 0] 25)).alloc (.cells #[.func (.func 50) #[] #[.pointer (some ⟨w.heap.size, 0, none⟩), .pointer (some ⟨w.heap.size + 1 + 1, 0, none⟩), .pointer (some ⟨w.heap.size + 1 + 1 + 1, 0, none⟩), .pointer (some ⟨w.heap.size + 1, 0, none⟩)]] 104)) := ⟨_, rfl⟩
 have hst : (store ⟨w.heap.size + 1 + 1 + 1, 0, none⟩ (.func (.func 50) #[] #[.pointer (some ⟨w.heap.size, 0, none⟩), .pointer (some ⟨w.heap.size + 1 + 1, 0, none⟩), .pointer (some ⟨w.heap.size + 1 + 1 + 1, 0, none⟩), .pointer (some ⟨w.heap.size + 1, 0, none⟩)])).run Tryz.prog ((((w.alloc (.cells #[.int .i64 (vars : Int)] 3)).alloc (.cells #[.string ⟨#[]⟩] 9)).alloc (.cells #[.slice none 0 0] 25)).alloc (.cells #[.nilFunc] 104)) = .ok () W4 := by
  obtain ⟨-, -, -, -, j3, -⟩ := four_new w (.cells #[.int .i64 (vars : Int)] 3) (.cells #[.string ⟨#[]⟩] 9) (.cells #[.slice none 0 0] 25) (.cells #[.nilFunc] 104)
  rw [show w.heap.size + 3 = w.heap.size + 1 + 1 + 1 from rfl] at j3
  rw [run_store _ _ _ _ _ (by rfl), (cell_heap j3).1, (cell_heap j3).2, hW4]
  go_simp
 rw [<- hW4] at z4 k0 k1 k2 k3 b4
 have hRS : RSt W4 vars ns w.heap.size (w.heap.size + 1 + 1) (w.heap.size + 1 + 1 + 1) (w.heap.size + 1) [] [] (.slice none 0 0) :=
  ⟨by simp [World.cell?, k0], k2, by simp [World.cell?, k3], k1, ⟨World.ownsRow_nil _ _ _ _, rfl, fun t ht => (by cases ht), fun g hg => (by cases hg), fun g hg => (by cases hg), fun j h1 h2 => (by cases h1)⟩, ⟨by omega, by omega⟩, ⟨by omega, by omega, by omega, by omega, by omega⟩, fun k hk => by simp [Value.ownBlock] at hk, fun x hx => (by cases hx)⟩
 have hRB : RB w.heap.size w W4 (w.heap.size + 1 + 1) (w.heap.size + 1) (.slice none 0 0) := ⟨fun W hW => hT.below hW, b4, by omega, ⟨by omega, by omega⟩, fun k hk => by simp [Value.ownBlock] at hk⟩
 have hgl := hb.lt
 have HWK : Hid (Calls Tryz.prog 50 #[.slice (some ⟨g, 0, none⟩) (2 ^ vars) (2 ^ vars), .int .i64 0, .pointer (some ⟨w.heap.size, 0, none⟩), .pointer (some ⟨w.heap.size + 1 + 1, 0, none⟩), .pointer (some ⟨w.heap.size + 1 + 1 + 1, 0, none⟩), .pointer (some ⟨w.heap.size + 1, 0, none⟩)] W4 (ROut vars ns w.heap.size (w.heap.size + 1 + 1) (w.heap.size + 1 + 1 + 1) (w.heap.size + 1) (postF ns 25 h []) h (.slice none 0 0) W4)) :=
  rwalk_any hg h6 hl 24 h [] [] (.slice none 0 0) W4 g 0 hRB hRS ⟨fun x hx => (by cases hx), List.nodup_nil, fun x hx => (by cases hx)⟩ hh (hb.new b4) (by omega) (by omega) (by simp [Value.ownBlock]) (Nat.zero_le _) (by have := (topOf_le hg.ranked h).1; omega) (by have := (topOf_le hg.ranked h).1; omega)
 have cf4 := hRS.cf
 have hdl := listed_len P1
 have hnb := numD_bd P2
 have HLL : Hid (∀ x ∈ postF ns 25 h [], (lineF ns (postF ns 25 h []) x).length <= 91) := fun x hx => line_len hg.ranked P1 (by omega) hx
 have HRB := Lib.hid hRB
 have HB4 := Lib.hid b4
 have HT := Lib.hid hT
 clear hRS hRB P1 P2 P3 z4 k0 k1 k2 k3 b4 hh hg hT hb hgl
 unfold ROut at HWK
 clear hW4
 generalize hD : postF ns 25 h [] = D at *
 have p6 := pow_le6 h6
 generalize 2 ^ vars = n at *
 go_enter Tryz.func19, Tryz.ntmps19
 go_wp2_with fail
 refine HWK.out.mono ?_
 rintro e w5 ⟨gs, dv, rfl, hS5, hF5⟩
 have hB5 : Below w.heap.size w w5 := (HRB.out.fr hF5).below
 have hgl : gs.length = D.length := by have := hS5.tabs.len; rwa [List.length_map] at this
 obtain ⟨a5, c5, hdv, -⟩ := row1_form hS5.tabs.row
 rw [hgl] at hdv
 subst hdv
 have cv5 := hS5.cv
 have cd5 := hS5.d0
 have cb5 := hS5.b0
 have l5 := hS5.lt
 have m5 := hS5.dlt
 have HB5 := Lib.hid hB5
 have hFL : (D.flatMap (lineF ns D)).length <= 91 * D.length := flat_len (fun x hx => HLL.out x hx)
 have hR3 : ∀ y ∈ [(vars : Int), (D.length : Int), numD D h], -9223372036854775808 <= y /\ y <= 9223372036854775807 := fun y hy => by
  simp at hy
  omega
 have hTL := told_len _ (by simp) hR3
 have HTD : Hid (∀ W, Below w5.heap.size w5 W -> w5.heap.size < W.heap.size -> (∀ j (hj : j < 3), W.cell? ⟨w5.heap.size, j, none⟩ = some (.int .i64 ([(vars : Int), (D.length : Int), numD D h][j]'hj))) -> Calls Tryz.prog 13 #[.slice (some ⟨w5.heap.size, 0, none⟩) 3 3] W fun e w' => e = .returned (.string ⟨(toldF [(vars : Int), (D.length : Int), numD D h]).toArray⟩) /\ Below W.heap.size W w') := fun W hW hz hc =>
  rtold_any [(vars : Int), (D.length : Int), numD D h] (by simp) (by simp) hR3 w5.heap.size 3 W (HT.out.below (HB5.out.trans (hW.mono HB5.out.size))) hz (fun j hj => hc j hj)
 have HIM : Hid (imgF vars ns D h = bodyF vars ns D h ++ ([115, 117, 109, 32] ++ toldF [(sumF (bodyF vars ns D h) : Int)] ++ [10])) := rfl
 have HBD : Hid (bodyF vars ns D h = [115, 112, 97, 99, 101, 32] ++ toldF [(vars : Int), (D.length : Int), numD D h] ++ [10] ++ D.flatMap (lineF ns D)) := rfl
 have hd5 : D.length <= 5000 := by omega
 clear hS5 hF5 hgl hB5 HWK HRB HB4 hst cf4 hR3 HLL hD
 generalize hxr : numD D h = xr at *
 generalize toldF [(vars : Int), (D.length : Int), xr] = TL at *
 generalize D.flatMap (lineF ns D) = FL at *
 have hszT : (⟨TL.toArray⟩ : ByteArray).size = TL.length := by show TL.toArray.size = _; simp
 have hszF : (⟨FL.toArray⟩ : ByteArray).size = FL.length := by show FL.toArray.size = _; simp
 have HBN := Lib.hid (below_new w5 (.cells #[.int .i64 (vars : Int), .int .i64 (D.length : Int), .int .i64 xr] 3))
 have HTDX := Lib.hid (HTD.out (w5.alloc (.cells #[.int .i64 (vars : Int), .int .i64 (D.length : Int), .int .i64 xr] 3)).drew HBN.out.drew (by show _ < (World.alloc _ _).heap.size; simp) (fun j hj => by
  show World.cell? (w5.alloc _) _ = _
  match j, hj with
  | 0, _ => simp
  | 1, _ => simp
  | 2, _ => simp))
 have HCW : Hid (∀ W, Below w5.heap.size w5 W -> W.cell? ⟨w.heap.size, 0, none⟩ = some (.int .i64 (vars : Int)) /\ W.cell? ⟨w.heap.size + 1 + 1, 0, none⟩ = some (.slice a5 D.length c5) /\ W.cell? ⟨w.heap.size + 1, 0, none⟩ = some (.string ⟨FL.toArray⟩)) := fun W hW =>
  ⟨(hW.cell (p := ⟨w.heap.size, 0, none⟩) l5.1).trans cv5, (hW.cell (p := ⟨w.heap.size + 1 + 1, 0, none⟩) m5.1).trans cd5, (hW.cell (p := ⟨w.heap.size + 1, 0, none⟩) m5.2).trans cb5⟩
 have HSTR : Hid ((⟨#[115, 112, 97, 99, 101, 32]⟩ : ByteArray) ++ ⟨TL.toArray⟩ ++ ⟨#[10]⟩ ++ ⟨FL.toArray⟩ = ⟨(bodyF vars ns D h).toArray⟩) := by
  rw [HBD.out]
  apply ByteArray.ext
  simp [ByteArray.data_append]
 have hBDL : (bodyF vars ns D h).length <= 1000000 := by
  rw [HBD.out]; simp only [List.length_append, List.length_cons, List.length_nil]; omega
 generalize bodyF vars ns D h = BD at *
 generalize hIQ : imgF vars ns D h = IM at *
 have HIQ := Lib.hid hIQ
 clear hIQ
 clear HTD
 go_upto_region 6 with fail
 go_cut [9] (fun sv wx => sv = .string ⟨BD.toArray⟩ /\ Below w5.heap.size w5 wx)
 case first =>
  go_region_with (go_at_call 13; refine HTDX.out.mono ?_; rintro e w' ⟨rfl, hbx⟩; have hbw := HBN.out.drew.trans (hbx.mono HBN.out.drew.size); have cvx := (HCW.out w' hbw).1; have cdx := (HCW.out w' hbw).2.1; have cbx := (HCW.out w' hbw).2.2; skip)
  all_goals
   go_wp2_with fail
   go_meet
   case rel => exact ⟨by rw [HSTR.out], hbw⟩
 case rest =>
 obtain ⟨rfl, hb6⟩ := hcut
 obtain ⟨w6, hw6⟩ : ∃ w6, w6 = wc := ⟨_, rfl⟩
 subst hw6
 have hB6 := HB5.out.trans (hb6.mono HB5.out.size)
 have HSM := Lib.hid (rsum_any BD hBDL w6)
 have hslt := sumF_lt BD
 have hbA := below_new w6 (.cells #[.int .i64 (sumF BD : Int)] 3)
 have HSO : ∀ y ∈ [(sumF BD : Int)], -9223372036854775808 <= y /\ y <= 9223372036854775807 := fun y hy => by
  rw [List.mem_singleton] at hy; subst hy; omega
 have HTD2 := Lib.hid (rtold_any [(sumF BD : Int)] (by simp) (by simp) HSO w6.heap.size 1 _ (HT.out.below (hB6.trans (hbA.mono hB6.size))) (by simp) (fun j hj => by
  simp at hj; subst hj; simp))
 have hTL2 := told_len _ (by simp) HSO
 have HBB := Lib.hid (hB6.trans (hbA.mono hB6.size))
 have hszB : (⟨BD.toArray⟩ : ByteArray).size = BD.length := by show BD.toArray.size = _; simp
 clear hbA hB6 hb6 HSO HTDX HCW HBN HSTR HB5 cv5 cd5 cb5
 generalize toldF [(sumF BD : Int)] = T2 at *
 have hsz2 : (⟨T2.toArray⟩ : ByteArray).size = T2.length := by show T2.toArray.size = _; simp
 have HFS : Hid ((⟨BD.toArray⟩ : ByteArray) ++ ⟨#[115, 117, 109, 32]⟩ ++ ⟨T2.toArray⟩ ++ ⟨#[10]⟩ = ⟨IM.toArray⟩) := by
  rw [HIM.out]
  apply ByteArray.ext
  simp [ByteArray.data_append]
 go_wp2_with fail
 refine HSM.out.mono ?_
 rintro e w7 ⟨rfl, rfl⟩
 go_wp2_with fail
 refine HTD2.out.mono ?_
 rintro e w8 ⟨rfl, hb8⟩
 have HB8 := Lib.hid (HBB.out.trans (hb8.mono HBB.out.size))
 clear hb8
 go_wp2_with fail
 go_ret
 exact ⟨by rw [HIQ.out, <- HFS.out]; rfl, HB8.out⟩
end
end
section
open Go.RowKit Go.Maps
section
variable {B s b : Nat} {O : Nat -> Prop} {F : FuncId} {op : Bool} {vars : Nat} {room : Int} {ns : List Nd} {w w' : World}
theorem present_no (hS : SpaceAt B w s b O vars room ns) (hl : ns.length <= 90000) (bf : Nat) {cp : Nat} (fs : List Int) (hF : IntsAt w bf fs) (hfl : fs.length <= 1000) (hno : ∃ x ∈ fs, hasB ns x = false) :
  Calls Tryz.prog 34 #[.pointer (some ⟨s, 0, none⟩), .slice (some ⟨bf, 0, none⟩) fs.length cp] w fun e w' => e = .returned (.iface 54 (.int .i64 7)) /\ w = w' := by
 have c0 := hS.c0
 have HS := Lib.hid hS
 have HF := Lib.hid hF
 have HN := Lib.hid hno
 clear hS hF hno
 go_enter Tryz.func34, Tryz.ntmps34
 go_wp2_with fail
 go_loop [9] (fun i => ∃ k : Nat, k <= fs.length /\ i = .int .i64 (k : Int) /\ ∀ j (h : j < fs.length), j < k -> hasB ns fs[j] = true) (fun i => fs.length - (intOf i).toNat)
 case atStart => exact ⟨0, Nat.zero_le _, rfl, fun j _ h => by omega⟩
 case round =>
  obtain ⟨k, hk, rfl, hpre⟩ := hrel
  have HPRE := Lib.hid hpre
  clear hpre
  by_cases hlt : k < fs.length
  ·have ck := HF.out.cells k hlt
   have HH := Lib.hid (spHas HS.out fs[k] (HF.out.ok _ (List.getElem_mem hlt)) hl)
   cases hh : hasB ns fs[k] with
   | true =>
    rw [hh] at HH
    have HHH := Lib.hid hh
    clear hh
    generalize hfk : fs[k] = x at *
    have HFK := Lib.hid hfk
    clear hfk
    go_wp2_with fail
    refine HH.out.mono ?_
    rintro e w' ⟨rfl, rfl⟩
    clear HH
    go_wp2
    go_round
    case rel =>
     refine ⟨k + 1, by omega, by go_num, fun j h hj => ?_⟩
     by_cases e : j = k
     ·subst e; rw [HFK.out]; exact HHH.out
     ·exact HPRE.out j h (by omega)
    case measure => simp [intOf]; omega
   | false =>
    rw [hh] at HH
    clear hh
    generalize fs[k] = x at *
    go_wp2_with fail
    refine HH.out.mono ?_
    rintro e w' ⟨rfl, rfl⟩
    clear HH
    go_wp2
    go_ret
    exact ⟨rfl, rfl⟩
  ·exfalso
   obtain ⟨x, hx, hf⟩ := HN.out
   obtain ⟨j, hj, rfl⟩ := List.getElem_of_mem hx
   have := HPRE.out j hj (by omega)
   rw [hf] at this
   cases this
theorem variable_no (hS : SpaceAt B w s b O vars room ns) (v : Int) (h : v < 0 \/ (vars : Int) <= v) :
  Calls Tryz.prog 95 #[.pointer (some ⟨s, 0, none⟩), .int .i64 v] w fun e w' => e = .returned (.iface 54 (.int .i64 2)) /\ w = w' := by
 have c1 := hS.c1
 clear hS
 by_cases h0 : v < 0
 ·clear h
  go_enter Tryz.func95, Tryz.ntmps95
  go_wp2
  go_ret
  exact ⟨rfl, rfl⟩
 ·have h1 : (vars : Int) <= v := by omega
  clear h
  go_enter Tryz.func95, Tryz.ntmps95
  go_wp2
  go_ret
  exact ⟨rfl, rfl⟩
end
end
end Go.Proofs.YtcjjekhecjmaeaaGreatDoor
