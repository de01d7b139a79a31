/- What Load makes of bytes. Plain: no memory. -/
import Derived.Test.YtcjjekhecjmaeaaGreatDoorImPost
import Derived.Test.YtcjjekhecjmaeaaGreatDoorBdOps
import Derived.Test.YtcjjekhecjmaeaaGreatDoorBdFree
import Derived.Test.YtcjjekhecjmaeaaGreatDoorImLayP
import Derived.Test.YtcjjekhecjmaeaaGreatDoorImCut
set_option maxHeartbeats 4000000
set_option maxRecDepth 100000
namespace Go.Proofs.YtcjjekhecjmaeaaGreatDoor
section
open Go.RowKit Go.Maps Go.Shelf
def lineF (ns : List Nd) (D : List Int) (x : Int) : List UInt8 := toldF [(nd ns (pl x)).v, numD D (nd ns (pl x)).l, numD D (nd ns (pl x)).h] ++ [10]
def headF (vars : Nat) (D : List Int) (h : Int) : List UInt8 := [115, 112, 97, 99, 101, 32] ++ toldF [(vars : Int), (D.length : Int), numD D h] ++ [10]
def bodyF (vars : Nat) (ns : List Nd) (D : List Int) (h : Int) : List UInt8 := headF vars D h ++ D.flatMap (lineF ns D)
def imgF (vars : Nat) (ns : List Nd) (D : List Int) (h : Int) : List UInt8 := bodyF vars ns D h ++ ([115, 117, 109, 32] ++ toldF [(sumF (bodyF vars ns D h) : Int)] ++ [10])
theorem told_len (l : List Int) (hl : l.length <= 3) (hr : ∀ x ∈ l, -9223372036854775808 <= x /\ x <= 9223372036854775807) : (toldF l).length <= 90 := by
  have := join_len l hr
  unfold toldF; omega
theorem nd_v {ns : List Nd} (hr : Ranked ns) {x : Int} (ht : topOf ns x ≠ 24) : 0 <= (nd ns (pl x)).v /\ (nd ns (pl x)).v < 24 := by
  obtain ⟨-, -, h3, -⟩ := node_at ht
  have h1 := (topOf_le hr x).1
  have h2 := top_lt hr ht
  omega
theorem line_ok {ns : List Nd} (hr : Ranked ns) {D : List Int} (hD : Listed ns D) (hl : D.length <= 5000) {x : Int} (hx : x ∈ D) : ∀ y ∈ [(nd ns (pl x)).v, numD D (nd ns (pl x)).l, numD D (nd ns (pl x)).h], -9223372036854775808 <= y /\ y <= 9223372036854775807 := by
  have h1 := nd_v hr (hD.node x hx)
  have h2 := numD_bd (hD.kid x hx).1
  have h3 := numD_bd (hD.kid x hx).2
  intro y hy
  simp at hy
  rcases hy with rfl | rfl | rfl <;> omega
theorem line_len {ns : List Nd} (hr : Ranked ns) {D : List Int} (hD : Listed ns D) (hl : D.length <= 5000) {x : Int} (hx : x ∈ D) : (lineF ns D x).length <= 91 := by
  have := told_len _ (by simp) (line_ok hr hD hl hx)
  unfold lineF; rw [List.length_append]; simp; omega
theorem flat_len {f : Int -> List UInt8} : ∀ {l : List Int}, (∀ x ∈ l, (f x).length <= 91) -> (l.flatMap f).length <= 91 * l.length
  | [], _ => by simp
  | x :: l, h => by
    have h1 := h x (List.mem_cons_self ..)
    have h2 := flat_len (l := l) (fun y hy => h y (List.mem_cons_of_mem _ hy))
    rw [List.flatMap_cons, List.length_append, List.length_cons]; omega
section
variable {A : Nat} {w : World} {s b : Nat} {O : Nat -> Prop} {vars : Nat} {room : Int} {ns : List Nd}
theorem ent_cells {B : Nat} {W : World} {v : Value} {D : List Int} (h : W.ownsRow B 102 3 v D.length (entL ns D)) (k : Nat) (hk : k < D.length) :
    ∃ g c, v = .slice (some ⟨g, 0, none⟩) D.length c /\ g < W.heap.size /\ B <= g /\ W.cell? ⟨g, k * 3, none⟩ = some (.int .i64 (nd ns (pl D[k])).v) /\ W.cell? ⟨g, k * 3 + 1, none⟩ = some (.int .i64 (numD D (nd ns (pl D[k])).l)) /\ W.cell? ⟨g, k * 3 + 2, none⟩ = some (.int .i64 (numD D (nd ns (pl D[k])).h)) := by
  have hcell : ∀ f, f < 3 -> (entL ns D)[k * 3 + f]? = (ent ns D D[k])[f]? := by
    unfold entL
    have key : ∀ (l : List Int) (k f : Nat) (hk : k < l.length), f < 3 -> (l.flatMap (ent ns D))[k * 3 + f]? = (ent ns D l[k])[f]? := by
      intro l
      induction l with
      | nil => intro k f hk; simp at hk
      | cons x l ih =>
        intro k f hk hf
        have e3 : (ent ns D x).length = 3 := rfl
        cases k with
        | zero => rw [List.flatMap_cons, List.getElem?_append_left (by rw [e3]; omega)]; simp
        | succ k =>
          rw [List.flatMap_cons, List.getElem?_append_right (by rw [e3]; omega), e3, show (k + 1) * 3 + f - 3 = k * 3 + f by omega]
          have := ih k f (by simpa using hk) hf
          simpa using this
    exact fun f hf => key D k f hk hf
  rcases h.2 with ⟨h1, h2⟩ | ⟨g, cap, cur, h1, h2, h3, h4⟩
  · omega
  · have hlt := (Array.getElem?_eq_some_iff.1 h3).1
    have hc : ∀ j u, (entL ns D)[j]? = some u -> W.cell? ⟨g, j, none⟩ = some u := fun j u hu => by
      have := h.cells (g := g) (by rw [h1]; rfl) j u hu
      have had : (⟨g, 0, none⟩ : Addr).add j = ⟨g, j, none⟩ := by unfold Addr.add; split <;> simp_all
      rw [had] at this; exact this
    exact ⟨g, cap, h1, hlt, h2, hc _ _ (hcell 0 (by omega)), hc _ _ (hcell 1 (by omega)), hc _ _ (hcell 2 (by omega))⟩
theorem save_any (hS : SpaceAt A w s b O vars room ns) (hr : Ranked ns) (hl : ns.length <= 5000) (hv : vars <= 24) (hT : Tab10 w) (h : Int) (hh : hasB ns h = true) :
    Calls Tryz.prog 18 #[.pointer (some ⟨s, 0, none⟩), .int .i64 h] w fun e w' => ∃ v, e = .returned (.tuple #[v, .nilIface]) /\ RowM w' w.heap.size v (imgF vars ns (postF ns 25 h []) h) /\ Below w.heap.size w w' := by
  have hI := has_i64 hh (by omega)
  have c0 := hS.c0
  have HH := Lib.hid (spHas hS h hI (by omega))
  rw [hh] at HH
  have HL := Lib.hid (listed_any hS hr hl h hh)
  have HV : Hid (∀ W, Below w.heap.size w W -> Calls Tryz.prog 27 #[.pointer (some ⟨s, 0, none⟩)] W fun e w' => e = .returned (.int .i64 (vars : Int)) /\ W = w') := fun W hW => vars_any (hS.new hW)
  have HT := Lib.hid hT
  obtain ⟨hD, hiD, -⟩ := post_ok hr 25 h [] ⟨fun x hx => (by cases hx), List.nodup_nil, fun x hx => (by cases hx)⟩ hh (by have := (topOf_le hr h).1; omega)
  have hDl := listed_len hD
  have hLO := fun x hx => line_ok hr hD (by omega) (x := x) hx
  have hLL := fun x hx => line_len hr hD (by omega) (x := x) hx
  have hnb := numD_bd hiD
  have HR := Lib.hid hr
  clear hS hh hI hT hr
  generalize postF ns 25 h [] = D at *
  have hHO : ∀ y ∈ [(vars : Int), (D.length : Int), numD D h], -9223372036854775808 <= y /\ y <= 9223372036854775807 := by
    intro y hy
    simp at hy
    rcases hy with rfl | rfl | rfl <;> omega
  have hTL := told_len _ (by simp) hHO
  obtain ⟨xr, hxr⟩ : ∃ x, x = numD D h := ⟨_, rfl⟩
  have HXR := Lib.hid hxr
  rw [<- hxr] at HL
  have HLO := Lib.hid hLO
  have HLL := Lib.hid hLL
  have HHO := Lib.hid hHO
  have HDD := Lib.hid hD
  clear hnb hiD hLO hLL hD hHO hxr
  go_enter Tryz.func18, Tryz.ntmps18
  go_wp2_with fail
  refine HH.out.mono ?_
  rintro e w1 ⟨rfl, rfl⟩
  clear HH
  go_wp2_with fail
  refine HL.out.mono ?_
  rintro e w2 ⟨vn, rfl, hrow, hb2⟩
  go_wp2_with fail
  obtain ⟨an, cn, rfl⟩ : ∃ a c, vn = .slice a D.length c := by
    rcases hrow.2 with ⟨h1, h2⟩ | ⟨g, cap, cur, h1, -⟩
    · exact ⟨none, 0, by rw [h1, h2]⟩
    · exact ⟨_, _, h1⟩
  have hb3 := below_new w2 (.cells #[.int .i64 (vars : Int), .int .i64 (D.length : Int), .int .i64 xr] 3)
  have HTD := itold_any [(vars : Int), (D.length : Int), numD D h] (by simp) (by simp) HHO.out w2.heap.size 3 (w2.alloc (.cells #[.int .i64 (vars : Int), .int .i64 (D.length : Int), .int .i64 xr] 3)) (HT.out.below (hb2.trans (hb3.mono hb2.size))) (by simp) (fun j hj => by
    rw [HXR.out]
    simp at hj
    rcases (by omega : j = 0 \/ j = 1 \/ j = 2) with rfl | rfl | rfl <;> simp)
  have HTD := Lib.hid HTD
  have HB2 := Lib.hid hb2
  have HB3 := Lib.hid (hb2.trans (hb3.mono hb2.size))
  have HRW := Lib.hid hrow
  have hd5 : D.length <= 5000 := by omega
  refine (HV.out _ hb2).mono ?_
  rintro e w3 ⟨rfl, rfl⟩
  generalize hTT : toldF [(vars : Int), (D.length : Int), numD D h] = T at *
  have HTT := Lib.hid hTT
  clear hTT hrow hb3 hb2 HV HL
  go_wp2_with fail
  refine HTD.out.mono ?_
  rintro e w4 ⟨rfl, hb4⟩
  have HB4 := Lib.hid (HB3.out.trans (hb4.mono HB3.out.size))
  have hsz : (⟨T.toArray⟩ : ByteArray).size = T.length := by show T.toArray.size = _; simp
  obtain ⟨v5, w5, hcv, hM5, hb5⟩ := conv_new w4 (⟨#[115, 112, 97, 99, 101, 32]⟩ ++ ⟨T.toArray⟩ ++ ⟨#[10]⟩) (by
    rw [ByteArray.size_append, ByteArray.size_append, hsz]
    show 6 + T.length + 1 <= _
    omega)
  have eH : (⟨#[115, 112, 97, 99, 101, 32]⟩ ++ ⟨T.toArray⟩ ++ ⟨#[10]⟩ : ByteArray).data.toList = headF vars D h := by
    unfold headF; rw [HTT.out]; simp [ByteArray.data_append]
  rw [eH] at hM5
  have hw4 := HB4.out.size
  have hw42 : w2.heap.size <= w4.heap.size := by have := hb4.size; simp at this; omega
  have hb25 : Below w2.heap.size w2 w5 := ((below_new w2 (.cells #[.int .i64 (vars : Int), .int .i64 (D.length : Int), .int .i64 xr] 3)).trans (hb4.mono (by simp))).trans (hb5.mono hw42)
  have HM5 := Lib.hid (hM5.base hw42)
  have HB25 := Lib.hid hb25
  have hHL : (headF vars D h).length <= 97 := by
    unfold headF; rw [HTT.out, List.length_append, List.length_append]; simp; omega
  have HBW2 := HB2.out.size
  clear hb4 HTD HB3 eH hM5 hb25 hb5
  go_upto_region 5 with fail
  clear hcv
  go_wp2_with fail
  go_loopw [8, 48] (fun ov iv wr => ∃ k : Nat, k <= D.length /\ iv = .int .i64 (k : Int) /\ RowM wr w2.heap.size ov (headF vars D h ++ (D.take k).flatMap (lineF ns D)) /\ Below w2.heap.size w2 wr) (fun _ iv _ => D.length - (intOf iv).toNat)
  case atStart => exact ⟨0, Nat.zero_le _, rfl, by rw [List.take_zero]; simpa using HM5.out, HB25.out⟩
  case round =>
    obtain ⟨k, hk, rfl, hM, hB⟩ := hrel
    have HM := Lib.hid hM
    have HB := Lib.hid hB
    clear HM5 HB25 hM hB
    have hFL : ((D.take k).flatMap (lineF ns D)).length <= 91 * D.length := by
      have h1 := flat_len (l := D.take k) (f := lineF ns D) (fun x hx => HLL.out x (List.mem_of_mem_take hx))
      have h2 : (D.take k).length <= D.length := by rw [List.length_take]; omega
      omega
    by_cases hlt : k < D.length
    · have i1 : (k : Int) < (D.length : Int) := by omega
      obtain ⟨g, cn', e, hg1, hg2, q0, q1, q2⟩ := ent_cells HRW.out k hlt
      injection e with e1 e2 e3
      subst e1
      subst e3
      clear e2
      have p0 := (HB.out.cell (p := ⟨g, k * 3, none⟩) hg1).trans q0
      have p1 := (HB.out.cell (p := ⟨g, k * 3 + 1, none⟩) hg1).trans q1
      have p2 := (HB.out.cell (p := ⟨g, k * 3 + 2, none⟩) hg1).trans q2
      have hx : D[k] ∈ D := List.getElem_mem hlt
      have hok := HLO.out _ hx
      have hlen := told_len _ (by simp) hok
      have hTK : (D.take (k + 1)).flatMap (lineF ns D) = (D.take k).flatMap (lineF ns D) ++ lineF ns D D[k] := by
        rw [List.take_succ_eq_append_getElem hlt, List.flatMap_append]; simp
      have HTK := Lib.hid hTK
      have HOK := Lib.hid hok
      have hLF : lineF ns D D[k] = toldF [(nd ns (pl D[k])).v, numD D (nd ns (pl D[k])).l, numD D (nd ns (pl D[k])).h] ++ [10] := rfl
      have HLF := Lib.hid hLF
      generalize lineF ns D D[k] = LK at *
      generalize (nd ns (pl D[k])).v = n1 at *
      generalize numD D (nd ns (pl D[k])).l = n2 at *
      generalize numD D (nd ns (pl D[k])).h = n3 at *
      clear q0 q1 q2 hok hx hTK hLF
      have hbA := below_new wr (.cells #[.int .i64 n1, .int .i64 n2, .int .i64 n3] 102)
      have hbB := hbA.alloc hbA.size (.cells #[.int .i64 n1, .int .i64 n2, .int .i64 n3] 3)
      have hwr := HB.out.size
      have hzA : (wr.alloc (.cells #[.int .i64 n1, .int .i64 n2, .int .i64 n3] 102)).heap.size = wr.heap.size + 1 := World.size_alloc _ _
      have HTB : Tab10 ((wr.alloc (.cells #[.int .i64 n1, .int .i64 n2, .int .i64 n3] 102)).alloc (.cells #[.int .i64 n1, .int .i64 n2, .int .i64 n3] 3)) := HT.out.below (HB2.out.trans ((HB.out.trans (hbB.mono hwr)).mono HBW2))
      have HTD := Lib.hid (itold_any [n1, n2, n3] (by simp) (by simp) HOK.out (wr.heap.size + 1) 3 _ HTB (by rw [World.size_alloc, hzA]; omega) (fun j hj => by
        have h3 := cell3 (wr.alloc (.cells #[.int .i64 n1, .int .i64 n2, .int .i64 n3] 102)) (.int .i64 n1) (.int .i64 n2) (.int .i64 n3) 3
        rw [hzA] at h3
        simp at hj
        rcases (by omega : j = 0 \/ j = 1 \/ j = 2) with rfl | rfl | rfl
        · exact h3.1
        · exact h3.2.1
        · exact h3.2.2.1))
      have HBB := Lib.hid (HB.out.trans (hbB.mono hwr))
      have HMB : Hid (∀ W, Below wr.heap.size wr W -> RowM W w2.heap.size u8 (headF vars D h ++ (D.take k).flatMap (lineF ns D))) := fun W hW => HM.out.below hW
      have HBR := Lib.hid hbB
      generalize hLk : toldF [n1, n2, n3] = TL at *
      have hszL : (⟨TL.toArray⟩ : ByteArray).size = TL.length := by show TL.toArray.size = _; simp
      clear hLk hbA hbB HTB hg1 hg2 HRW
      go_wp2_with fail
      refine HTD.out.mono ?_
      rintro e w6 ⟨rfl, hb6⟩
      have hM6 := HMB.out w6 (HBR.out.trans (hb6.mono HBR.out.size))
      have hB6 := HBB.out.trans (hb6.mono HBB.out.size)
      have HB6 := Lib.hid hB6
      have HM6 := Lib.hid hM6
      have hz6 : w2.heap.size <= w6.heap.size := hB6.size
      clear hb6 hB6 hM6 HTD HMB HBR
      go_wp2_with (at_builtin; refine wpl_append_text rfl _ _ rfl w2.heap.size _ _ rfl HM6.out _ rfl ?a1 ?a2 ?_)
      case a1 =>
        rw [ByteArray.size_append, hszL, List.length_append]
        show _ + (TL.length + 1) <= _
        omega
      case a2 => exact hz6
      intro v7 w7 hM7 hg7
      have eL : TL ++ [10] = LK := HLF.out.symm
      rw [eL, <- HTK.out] at hM7
      have hB7 : Below w2.heap.size w2 w7 := HB6.out.grown hg7 hz6 (fun j hj => by
        obtain ⟨g7, e7, h7, -⟩ := HM6.out.own
        rw [hj] at e7
        cases e7
        exact h7)
      have HM7 := Lib.hid hM7
      have HB7 := Lib.hid hB7
      clear hM7 hB7 hg7 eL HM6 HB6 HM HB HTK HLF
      go_wp2
      go_roundw
      case rel => first | exact ⟨k + 1, by omega, by go_num, HM7.out, HB7.out⟩ | ((repeat apply Exists.intro); exact ⟨⟨k + 1, by omega, by go_num, HM7.out, HB7.out⟩, rfl⟩)
      case measure => simp [intOf]; omega
    · obtain rfl : D.length = k := by omega
      rw [List.take_length] at HM hFL
      have eB : headF vars D h ++ D.flatMap (lineF ns D) = bodyF vars ns D h := rfl
      have hBL : (bodyF vars ns D h).length <= 97 + 91 * D.length := by unfold bodyF; rw [List.length_append]; omega
      rw [eB] at HM
      have HSM := Lib.hid (sum_any (bodyF vars ns D h) (by omega) u8 wr HM.out.bytes)
      have hbA := below_new wr (.cells #[.int .i64 (sumF (bodyF vars ns D h) : Int)] 3)
      have hwr := HB.out.size
      have hslt := sumF_lt (bodyF vars ns D h)
      have HSO : ∀ y ∈ [(sumF (bodyF vars ns D h) : Int)], -9223372036854775808 <= y /\ y <= 9223372036854775807 := fun y hy => by
        rw [List.mem_singleton] at hy; subst hy; omega
      have HTB : Tab10 (wr.alloc (.cells #[.int .i64 (sumF (bodyF vars ns D h) : Int)] 3)) := HT.out.below (HB2.out.trans ((HB.out.trans (hbA.mono hwr)).mono HBW2))
      have HTD := Lib.hid (itold_any [(sumF (bodyF vars ns D h) : Int)] (by simp) (by simp) HSO wr.heap.size 1 _ HTB (by simp) (fun j hj => by
        simp at hj; subst hj; simp))
      have hTL2 := told_len _ (by simp) HSO
      have HIM : Hid (imgF vars ns D h = bodyF vars ns D h ++ ([115, 117, 109, 32] ++ toldF [(sumF (bodyF vars ns D h) : Int)] ++ [10])) := rfl
      have HBR := Lib.hid hbA
      have HBB := Lib.hid (HB.out.trans (hbA.mono hwr))
      have HMB : Hid (∀ W, Below wr.heap.size wr W -> RowM W w2.heap.size u8 (bodyF vars ns D h)) := fun W hW => HM.out.below hW
      clear hbA HTB HSO hFL eB HM HB HRW
      generalize hIQ : imgF vars ns D h = IM at *
      have HIQ := Lib.hid hIQ
      clear hIQ
      generalize hTl : toldF [(sumF (bodyF vars ns D h) : Int)] = TL at *
      generalize sumF (bodyF vars ns D h) = sm at *
      generalize bodyF vars ns D h = BD at *
      have hszL : (⟨TL.toArray⟩ : ByteArray).size = TL.length := by show TL.toArray.size = _; simp
      clear hTl
      go_wp2_with fail
      refine HSM.out.mono ?_
      rintro e w5 ⟨rfl, rfl⟩
      go_wp2_with fail
      refine HTD.out.mono ?_
      rintro e w6 ⟨rfl, hb6⟩
      have hM6 := HMB.out w6 (HBR.out.trans (hb6.mono HBR.out.size))
      have hB6 := HBB.out.trans (hb6.mono HBB.out.size)
      have HB6 := Lib.hid hB6
      have HM6 := Lib.hid hM6
      have hz6 : w2.heap.size <= w6.heap.size := hB6.size
      clear hb6 hB6 hM6 HTD HMB HBR HSM
      go_wp2_with (at_builtin; refine wpl_append_text rfl _ _ rfl w2.heap.size _ _ rfl HM6.out _ rfl ?b1 ?b2 ?_)
      case b1 =>
        rw [ByteArray.size_append, ByteArray.size_append, hszL]
        show _ + (4 + TL.length + 1) <= _
        omega
      case b2 => exact hz6
      intro v7 w7 hM7 hg7
      have eL : BD ++ 115 :: 117 :: 109 :: 32 :: (TL ++ [10]) = IM := by rw [HIM.out]; simp
      rw [eL] at hM7
      have hB7 : Below w2.heap.size w2 w7 := HB6.out.grown hg7 hz6 (fun j hj => by
        obtain ⟨g7, e7, h7, -⟩ := HM6.out.own
        rw [hj] at e7
        cases e7
        exact h7)
      have HFIN : Hid (RowM w7 w.heap.size v7 IM /\ Below w.heap.size w w7) := ⟨hM7.base HBW2, HB2.out.trans (hB7.mono HBW2)⟩
      clear hM7 hB7 hg7 eL HM6 HB6 HIM
      go_wp2
      go_ret2
      exact ⟨v7, rfl, by rw [HIQ.out]; exact HFIN.out⟩
end
end
section
open Go.RowKit Go.Maps
theorem cutF_le {l : List UInt8} {v t : Nat} {N : List (List UInt8)} (h : cutF l = some (v, t, N)) : v <= 24 /\ t <= 9223372036854775807 /\ N.length <= l.length /\ (∀ p ∈ N, p.length <= l.length) /\ 2 <= l.length /\ (N.map (fun p => p.length + 1)).sum <= l.length := by
  unfold cutF at h
  split at h
  · rename_i h1
    split at h
    · rename_i h2
      split at h
      · rename_i v' n t' h3
        split at h
        · rename_i h4
          obtain ⟨rfl, rfl, rfl⟩ : v' = v /\ t' = t /\ ((splitL 10 (l.take (l.length - 1))).drop 1).dropLast = N := by simpa using h
          have hs := splitL_sum 10 (l.take (l.length - 1))
          have hm : ∀ p ∈ ((splitL 10 (l.take (l.length - 1))).drop 1).dropLast, p ∈ splitL 10 (l.take (l.length - 1)) := fun p hp => List.mem_of_mem_drop (List.dropLast_subset _ hp)
          have h5 := (threeF_le h3).2.2.2
          have hlt : (l.take (l.length - 1)).length = l.length - 1 := by rw [List.length_take]; omega
          rw [hlt] at hs
          have hle : ∀ (L : List (List UInt8)), L.length <= (L.map (fun p => p.length + 1)).sum := by
            intro L
            induction L with
            | nil => simp
            | cons x L ih => rw [List.map_cons, List.sum_cons, List.length_cons]; omega
          have hdl : ∀ (L : List (List UInt8)), (L.dropLast.map (fun p => p.length + 1)).sum <= (L.map (fun p => p.length + 1)).sum := by
            intro L
            induction L with
            | nil => simp
            | cons x L ih =>
              cases L with
              | nil => simp
              | cons y L => rw [List.dropLast_cons_cons, List.map_cons, List.sum_cons, List.map_cons, List.sum_cons]; omega
          have hd1 : ∀ (L : List (List UInt8)), ((L.drop 1).map (fun p => p.length + 1)).sum <= (L.map (fun p => p.length + 1)).sum := by
            intro L
            cases L with
            | nil => simp
            | cons x L => rw [List.drop_one, List.tail_cons, List.map_cons, List.sum_cons]; omega
          have e1 := hdl ((splitL 10 (l.take (l.length - 1))).drop 1)
          have e2 := hd1 (splitL 10 (l.take (l.length - 1)))
          have e3 := hle ((splitL 10 (l.take (l.length - 1))).drop 1).dropLast
          refine ⟨h4.1, (threeF_le h3).2.2.1, by omega, fun p hp => ?_, ?_, by omega⟩
          · have := split_le (hm p hp)
            omega
          · have h6 : ∀ (L : List (List UInt8)), 11 <= (L.headD []).length -> 12 <= (L.map (fun p => p.length + 1)).sum := by
              intro L
              cases L with
              | nil => simp
              | cons x L => intro h; rw [List.map_cons, List.sum_cons]; simp at h; omega
            have h7 := h6 (splitL 10 (l.take (l.length - 1))) (by rw [List.length_drop] at h5; omega)
            omega
        · cases h
      · cases h
    · cases h
  · cases h
open Classical in
noncomputable def loadF (l : List UInt8) (room : Int) : Except Int (Nat × List Nd × Int) :=
  match cutF l with
  | none => .error 3
  | some (v, t, N) => if 0 <= room /\ room <= 4000 then (match laidF v room N [] [0, 1] with
    | .error x => .error x
    | .ok (ns, H) => if t < H.length /\ imgF v ns (postF ns 25 (H.getD t 0) []) (H.getD t 0) = l then .ok (v, ns, H.getD t 0) else .error 3)
   else .error 2
theorem load_none {l : List UInt8} {room : Int} (h : cutF l = none) : loadF l room = .error 3 := by unfold loadF; rw [h]
section
variable {l : List UInt8} {room : Int} {v t : Nat} {N : List (List UInt8)} (h : cutF l = some (v, t, N))
include h
theorem load_room (hr : ¬ (0 <= room /\ room <= 4000)) : loadF l room = .error 2 := by unfold loadF; rw [h]; exact if_neg hr
theorem load_laid (hr : 0 <= room /\ room <= 4000) : loadF l room = match laidF v room N [] [0, 1] with
    | .error x => .error x
    | .ok (ns, H) => if t < H.length /\ imgF v ns (postF ns 25 (H.getD t 0) []) (H.getD t 0) = l then .ok (v, ns, H.getD t 0) else .error 3 := by
  conv => lhs; unfold loadF
  rw [h]; exact if_pos hr
theorem load_err (hr : 0 <= room /\ room <= 4000) {x : Int} (hx : laidF v room N [] [0, 1] = .error x) : loadF l room = .error x := by
  rw [load_laid h hr, hx]
theorem load_form (hr : 0 <= room /\ room <= 4000) {ns : List Nd} {H : List Int} (hx : laidF v room N [] [0, 1] = .ok (ns, H)) (hn : ¬ (t < H.length /\ imgF v ns (postF ns 25 (H.getD t 0) []) (H.getD t 0) = l)) : loadF l room = .error 3 := by
  rw [load_laid h hr, hx]; exact if_neg hn
theorem load_ok (hr : 0 <= room /\ room <= 4000) {ns : List Nd} {H : List Int} (hx : laidF v room N [] [0, 1] = .ok (ns, H)) (hn : t < H.length /\ imgF v ns (postF ns 25 (H.getD t 0) []) (H.getD t 0) = l) : loadF l room = .ok (v, ns, H.getD t 0) := by
  rw [load_laid h hr, hx]; exact if_pos hn
end
theorem load_fine {l : List UInt8} {room : Int} {v : Nat} {ns : List Nd} {h : Int} (hl : loadF l room = .ok (v, ns, h)) : v <= 24 /\ 0 <= room /\ room <= 4000 /\ FullN ns /\ hasB ns h = true /\ (ns.length : Int) <= room /\ imgF v ns (postF ns 25 h []) h = l := by
  unfold loadF at hl
  split at hl
  · cases hl
  · rename_i v' t N hc
    obtain ⟨h1, h2, h3, h4, h5, h6⟩ := cutF_le hc
    split at hl
    · rename_i hr
      split at hl
      · cases hl
      · rename_i ns' H hH
        split at hl
        · rename_i hn
          obtain ⟨rfl, rfl, rfl⟩ : v' = v /\ ns' = ns /\ H.getD t 0 = h := by simpa using hl
          obtain ⟨i1, i2, i3⟩ := laidF_ok h1 hr.2 N (LayInv.start v' hr.1) hH
          exact ⟨h1, hr.1, hr.2, i1.full, i1.has _ (getD_mem hn.1), i1.room, hn.2⟩
        · cases hl
    · cases hl
end
end Go.Proofs.YtcjjekhecjmaeaaGreatDoor
