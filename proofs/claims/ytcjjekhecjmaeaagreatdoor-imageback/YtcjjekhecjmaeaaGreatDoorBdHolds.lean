/- Holds. -/
import Derived.Test.YtcjjekhecjmaeaaGreatDoorImBackP
import Derived.Test.YtcjjekhecjmaeaaGreatDoorBdNode
import Derived.WalkSmall
import Derived.Test.YtcjjekhecjmaeaaGreatDoorBdWithout
set_option maxHeartbeats 2000000
set_option maxRecDepth 100000
namespace Go.Proofs.YtcjjekhecjmaeaaGreatDoor
section
open Go.RowKit Go.Maps Num
section
variable {ns : List Nd} {D : List Int} {vars : Nat}
def lineT (ns : List Nd) (D : List Int) (x : Int) : List UInt8 := toldF [(nd ns (pl x)).v, numD D (nd ns (pl x)).l, numD D (nd ns (pl x)).h]
theorem split_lines (hr : Ranked ns) (hD : Listed ns D) {s : List UInt8} (hs : (10 : UInt8) ∉ s) : ∀ (E : List Int), (∀ x ∈ E, x ∈ D) -> splitL 10 (E.flatMap (lineF ns D) ++ s) = E.map (lineT ns D) ++ [s] := by
  intro E
  induction E with
  | nil => intro _; exact splitL_none hs
  | cons x E ih =>
    intro hE
    have h1 : (10 : UInt8) ∉ lineT ns D x := line_no hr hD (hE x (List.mem_cons_self ..))
    have e : (x :: E).flatMap (lineF ns D) ++ s = lineT ns D x ++ 10 :: (E.flatMap (lineF ns D) ++ s) := by
      rw [List.flatMap_cons]; unfold lineF lineT; simp
    rw [e, splitL_app _ h1, ih (fun y hy => hE y (List.mem_cons_of_mem _ hy))]
    rfl
theorem cutF_of {l x : List UInt8} {R : List (List UInt8)} {v n t : Nat} (h1 : 1 <= l.length) (h2 : l.drop (l.length - 1) = [10]) (hs : splitL 10 (l.take (l.length - 1)) = x :: R) (h4 : x.take 6 = headW) (h3 : threeF (x.drop 6) = some (v, n, t)) (hv : v <= 24) (hn : (n : Int) = ((x :: R).length : Int) - 2) : cutF l = some (v, t, R.dropLast) := by
  unfold cutF; rw [if_pos ⟨h1, h2⟩, hs, if_pos (show ((x :: R).headD []).take 6 = headW from h4)]
  show (match threeF (x.drop 6) with | some (v, n, t) => _ | none => none) = _
  rw [h3]
  exact if_pos ⟨hv, hn⟩
theorem end_take (X : List UInt8) (b : UInt8) : (X ++ [b]).take ((X ++ [b]).length - 1) = X /\ (X ++ [b]).drop ((X ++ [b]).length - 1) = [b] := by
  rw [List.length_append, List.length_singleton, Nat.add_sub_cancel]
  exact ⟨List.take_left, List.drop_left⟩
theorem cut_img (hr : Ranked ns) (hD : Listed ns D) {h : Int} (hi : InD D h) (hv : vars <= 24) (hl : D.length <= 5000) : cutF (imgF vars ns D h) = some (vars, (numD D h).toNat, D.map (lineT ns D)) := by
  obtain ⟨t, ht⟩ := numD_nat hi
  have hb := numD_bd hi
  have h1 : (10 : UInt8) ∉ toldF [(vars : Int), (D.length : Int), numD D h] := by rw [ht]; exact told3_no _ _ _
  have h2 : (10 : UInt8) ∉ toldF [(sumF (bodyF vars ns D h) : Int)] := told1_no _
  have hs : (10 : UInt8) ∉ [115, 117, 109, 32] ++ toldF [(sumF (bodyF vars ns D h) : Int)] := by simp [h2]
  have hh : (10 : UInt8) ∉ headW ++ toldF [(vars : Int), (D.length : Int), numD D h] := by simp [headW, h1]
  have e1 : imgF vars ns D h = ((headW ++ toldF [(vars : Int), (D.length : Int), numD D h]) ++ 10 :: (D.flatMap (lineF ns D) ++ ([115, 117, 109, 32] ++ toldF [(sumF (bodyF vars ns D h) : Int)]))) ++ [10] := by
    unfold imgF
    conv => lhs; lhs; unfold bodyF headF
    simp [headW]
  have h3 := three_told (a := vars) (b := D.length) (c := t) (by omega) (by omega) (by omega)
  generalize ([115, 117, 109, 32] ++ toldF [(sumF (bodyF vars ns D h) : Int)] : List UInt8) = S at *
  generalize imgF vars ns D h = I at *
  have e2 : I.take (I.length - 1) = (headW ++ toldF [(vars : Int), (D.length : Int), numD D h]) ++ 10 :: (D.flatMap (lineF ns D) ++ S) := by rw [e1]; exact (end_take _ _).1
  have e3 : I.drop (I.length - 1) = [10] := by rw [e1]; exact (end_take _ _).2
  have e4 : splitL 10 (I.take (I.length - 1)) = (headW ++ toldF [(vars : Int), (D.length : Int), numD D h]) :: (D.map (lineT ns D) ++ [S]) := by
    rw [e2, splitL_app _ hh, split_lines hr hD hs D (fun _ h => h)]
  have e5 : 1 <= I.length := by rw [e1]; simp
  have e6 := cutF_of (v := vars) (n := D.length) (t := t) e5 e3 e4 (by simp [headW]) (by
    rw [show (headW ++ toldF [(vars : Int), (D.length : Int), numD D h]).drop 6 = toldF [(vars : Int), (D.length : Int), numD D h] by simp [headW], ht]
    exact h3) hv (by simp; omega)
  rw [e6, List.dropLast_concat, ht]
  rfl
def upTo (n : Nat) : List Int := (List.range n).map fun i : Nat => (i : Int)
theorem upTo_len (n : Nat) : (upTo n).length = n := by simp [upTo]
theorem upTo_at {n i : Nat} (h : i < n) : (upTo n).getD i 0 = (i : Int) := by simp [upTo, List.getD_eq_getElem?_getD, h]
theorem upTo_succ (n : Nat) : upTo (n + 1) = upTo n ++ [(n : Int)] := by simp [upTo, List.range_succ]
theorem laid_step {vars : Nat} {room : Int} {t : List UInt8} {ts : List (List UInt8)} {C : List Nd} {H : List Int} {v l h : Nat} (e : threeF t = some (v, l, h)) (ho : okLine vars C H v l h) (hq : (C.length : Int) < room) :
    laidF vars room (t :: ts) C H = laidF vars room ts (makeF C (ndOf H v l h)).1 (H ++ [(makeF C (ndOf H v l h)).2]) := by
  rw [laidF, e]; exact (if_pos ho).trans (if_pos (.inr hq))
theorem laid_copy (hg : Good vars ns) (hD : Listed ns D) (hB : Behind ns D) (hv : vars <= 24) {room : Int} (hr : room <= 4000) (hroom : (D.length : Int) <= room) : ∀ (m k : Nat), k + m = D.length -> LayInv vars room ((D.take k).map (cpN ns D)) (upTo (k + 2)) ->
    laidF vars room ((D.drop k).map (lineT ns D)) ((D.take k).map (cpN ns D)) (upTo (k + 2)) = .ok (D.map (cpN ns D), upTo (D.length + 2)) /\ LayInv vars room (D.map (cpN ns D)) (upTo (D.length + 2)) := by
  intro m
  induction m with
  | zero =>
    intro k hk hi
    obtain rfl : k = D.length := by omega
    rw [List.take_length] at hi ⊢
    rw [List.drop_length]
    exact ⟨by simp [laidF], hi⟩
  | succ m ih =>
    intro k hk hi
    have hkD : k < D.length := by omega
    obtain ⟨x, hx⟩ : ∃ x, x = D[k] := ⟨_, rfl⟩
    have hxD : x ∈ D := by rw [hx]; exact List.getElem_mem hkD
    have ht := hD.node x hxD
    obtain ⟨n1, n2, n3, n4⟩ := node_at ht
    have hv1 := nd_v hg.ranked ht
    have hv2 := hg.vars _ n2 hv1.2
    have hki := hB k hkD
    rw [<- hx] at hki
    have hkd := hD.kid x hxD
    have hlh := hg.red _ n2 hv1.2
    obtain ⟨a, ha⟩ : ∃ a : Nat, (nd ns (pl x)).v = (a : Int) := ⟨(nd ns (pl x)).v.toNat, by omega⟩
    obtain ⟨b, hb⟩ := numD_nat hkd.1
    obtain ⟨c, hc⟩ := numD_nat hkd.2
    have hD2 : D = D.take k ++ D.drop k := (List.take_append_drop k D).symm
    have hlen : (D.take k).length = k := by rw [List.length_take]; omega
    have pb : numD (D.take k) (nd ns (pl x)).l = (b : Int) := by rw [<- hb]; conv => rhs; rw [hD2]
                                                                 exact (numD_app hki.1).symm
    have pc : numD (D.take k) (nd ns (pl x)).h = (c : Int) := by rw [<- hc]; conv => rhs; rw [hD2]
                                                                 exact (numD_app hki.2).symm
    have bb := numD_bd hki.1
    have bc := numD_bd hki.2
    rw [pb, hlen] at bb
    rw [pc, hlen] at bc
    have hPn : ∀ y ∈ D.take k, topOf ns y ≠ 24 := fun y hy => hD.node y (List.mem_of_mem_take hy)
    have tb := cp_top (D := D) hPn hki.1
    have tc := cp_top (D := D) hPn hki.2
    rw [pb] at tb
    rw [pc] at tc
    have kk := kids hg.ranked ht
    have hok : okLine vars ((D.take k).map (cpN ns D)) (upTo (k + 2)) a b c := by
      refine ⟨by omega, fun e => hlh (numD_inj hD hkd.1 hkd.2 (by rw [hb, hc, e])), ⟨by rw [upTo_len]; omega, ?_⟩, ⟨by rw [upTo_len]; omega, ?_⟩⟩
      · rw [upTo_at (by omega), tb]; omega
      · rw [upTo_at (by omega), tc]; omega
    have h3 : threeF (lineT ns D x) = some (a, b, c) := by
      unfold lineT
      rw [ha, hb, hc]
      exact three_told (by omega) (by omega) (by omega)
    have hnd : ndOf (upTo (k + 2)) a b c = cpN ns D x := by
      unfold ndOf cpN
      rw [upTo_at (by omega), upTo_at (by omega), ha, hb, hc]
    have hClen : ((D.take k).map (cpN ns D)).length = k := by rw [List.length_map, hlen]
    have hq : (((D.take k).map (cpN ns D)).length : Int) < room := by rw [hClen]; omega
    have hst := hi.step hv hr hok (.inr hq)
    have hmk : makeF ((D.take k).map (cpN ns D)) (ndOf (upTo (k + 2)) a b c) = ((D.take (k + 1)).map (cpN ns D), ((k + 2 : Nat) : Int)) := by
      rw [hi.full.make, if_neg, hnd, hClen]
      · have : D.take (k + 1) = D.take k ++ [x] := by rw [List.take_succ_eq_append_getElem hkD, hx]
        rw [this, List.map_append]
        congr 1
        omega
      · intro hlt
        have h5 := idx_at hlt
        obtain ⟨q, hqe⟩ : ∃ q, q = idx ((D.take k).map (cpN ns D)) (ndOf (upTo (k + 2)) a b c) := ⟨_, rfl⟩
        rw [<- hqe] at h5 hlt
        have hj : q < (D.take k).length := by rw [List.length_map] at hlt; exact hlt
        rw [nd_map hj, hnd] at h5
        have h6 : (D.take k)[q] ∈ D.take k := List.getElem_mem _
        generalize (D.take k)[q] = y at h5 h6
        have hyD := List.mem_of_mem_take h6
        obtain ⟨m1, m2, m3, m4⟩ := node_at (hD.node y hyD)
        have hky := hD.kid y hyD
        have hvy := nd_v hg.ranked (hD.node y hyD)
        have e1 := congrArg Nd.v h5
        have e2 := numD_inj hD hky.1 hkd.1 (congrArg Nd.l h5)
        have e3 := numD_inj hD hky.2 hkd.2 (congrArg Nd.h h5)
        have e4 := hg.once _ _ m2 n2 hvy.2 (nd_eq e1 e2 e3)
        have e5 : y = x := by omega
        have hnd' := hD.nodup
        rw [hD2, List.nodup_append] at hnd'
        refine hnd'.2.2 y h6 x ?_ e5
        rw [hx, List.drop_eq_getElem_cons hkD]
        exact List.mem_cons_self ..
    rw [hmk] at hst
    simp only at hst
    rw [show upTo (k + 2) ++ [((k + 2 : Nat) : Int)] = upTo (k + 1 + 2) from (upTo_succ _).symm] at hst
    have hih := ih (k + 1) (by omega) hst
    rw [List.drop_eq_getElem_cons hkD, List.map_cons, <- hx, laid_step h3 hok hq, hmk]
    simp only
    rw [show upTo (k + 2) ++ [((k + 2 : Nat) : Int)] = upTo (k + 1 + 2) from (upTo_succ _).symm]
    exact hih
theorem load_img (hg : Good vars ns) (hv : vars <= 24) {h : Int} (hh : hasB ns h = true) (hl : (postF ns 25 h []).length <= 4000) :
    loadF (imgF vars ns (postF ns 25 h []) h) 4000 = .ok (vars, (postF ns 25 h []).map (cpN ns (postF ns 25 h [])), numD (postF ns 25 h []) h) := by
  have hr := hg.ranked
  have h0 : Listed ns [] := ⟨fun x hx => (by cases hx), List.nodup_nil, fun x hx => (by cases hx)⟩
  have ht := (topOf_le hr h).1
  obtain ⟨hD, hiD, -⟩ := post_ok hr 25 h [] h0 hh (by omega)
  have hB := post_behind hr 25 h [] h0 (fun k hk => (by simp at hk)) hh (by omega)
  have hP := cp_post hD 25 h [] hiD (fun x hx => by cases hx)
  rw [List.map_nil] at hP
  obtain ⟨D, hDe⟩ : ∃ D, D = postF ns 25 h [] := ⟨_, rfl⟩
  rw [<- hDe] at hD hiD hB hl hP ⊢
  have hL := laid_copy hg hD hB hv (room := 4000) (by omega) (by omega) D.length 0 (by omega) (LayInv.start vars (by omega))
  have hb := numD_bd hiD
  have e0 : (upTo (D.length + 2)).getD (numD D h).toNat 0 = numD D h := by rw [upTo_at (by omega)]; omega
  rw [load_ok (cut_img hr hD hiD hv (by omega)) ⟨by omega, by omega⟩ (ns := D.map (cpN ns D)) (H := upTo (D.length + 2)) hL.1 ⟨by rw [upTo_len]; omega, ?_⟩, e0]
  rw [e0, hP]
  exact cp_img hD vars hiD
theorem copy_good (hg : Good vars ns) (hv : vars <= 24) {h : Int} (hh : hasB ns h = true) (hl : (postF ns 25 h []).length <= 4000) : Good vars ((postF ns 25 h []).map (cpN ns (postF ns 25 h []))) := by
  have hr := hg.ranked
  have h0 : Listed ns [] := ⟨fun x hx => (by cases hx), List.nodup_nil, fun x hx => (by cases hx)⟩
  have ht := (topOf_le hr h).1
  obtain ⟨hD, hiD, -⟩ := post_ok hr 25 h [] h0 hh (by omega)
  have hf := (load_fine (load_img hg hv hh hl)).2.2.2.1
  obtain ⟨D, hDe⟩ : ∃ D, D = postF ns 25 h [] := ⟨_, rfl⟩
  rw [<- hDe] at hD hf ⊢
  have hat : ∀ i (hi : i < D.length), nd (D.map (cpN ns D)) i = cpN ns D D[i] := fun i hi => nd_map hi
  refine ⟨hf.ranked, fun i j hi hj hvi e => ?_, fun i hi hvi => ?_, fun i hi hvi => ?_, fun i hi hvi => absurd (hf.full i hi) hvi⟩
  · rw [List.length_map] at hi hj
    rw [hat i hi, hat j hj] at e
    have mi := List.getElem_mem hi
    have mj := List.getElem_mem hj
    obtain ⟨m1, m2, m3, m4⟩ := node_at (hD.node _ mi)
    obtain ⟨n1, n2, n3, n4⟩ := node_at (hD.node _ mj)
    have e0 := congrArg Nd.v e
    have e2 := numD_inj hD (hD.kid _ mi).1 (hD.kid _ mj).1 (congrArg Nd.l e)
    have e3 := numD_inj hD (hD.kid _ mi).2 (hD.kid _ mj).2 (congrArg Nd.h e)
    have e4 := hg.once _ _ m2 n2 (nd_v hr (hD.node _ mi)).2 (nd_eq (a := nd ns (pl D[i])) (b := nd ns (pl D[j])) e0 e2 e3)
    have e5 : D[i] = D[j] := by omega
    have q1 := hD.nodup.idxOf_getElem i hi
    have q2 := hD.nodup.idxOf_getElem j hj
    rw [e5] at q1; omega
  · rw [List.length_map] at hi
    rw [hat i hi]
    have mi := List.getElem_mem hi
    obtain ⟨m1, m2, m3, m4⟩ := node_at (hD.node _ mi)
    intro e
    exact hg.red _ m2 (nd_v hr (hD.node _ mi)).2 (numD_inj hD (hD.kid _ mi).1 (hD.kid _ mi).2 e)
  · rw [List.length_map] at hi
    rw [hat i hi]
    have mi := List.getElem_mem hi
    obtain ⟨m1, m2, m3, m4⟩ := node_at (hD.node _ mi)
    exact hg.vars _ m2 (nd_v hr (hD.node _ mi)).2
theorem copy_sem (hg : Good vars ns) {h : Int} (hh : hasB ns h = true) (f : Nat -> Bool) : sem ((postF ns 25 h []).map (cpN ns (postF ns 25 h []))) (numD (postF ns 25 h []) h) f = sem ns h f := by
  have hr := hg.ranked
  have ht := (topOf_le hr h).1
  obtain ⟨hD, hiD, -⟩ := post_ok hr 25 h [] ⟨fun x hx => (by cases hx), List.nodup_nil, fun x hx => (by cases hx)⟩ hh (by omega)
  exact cp_sem hD f 24 h hiD
end
end
section
open Go.RowKit Go.Maps
def bitsF (n : Nat) : Nat -> Bool := fun i => n.testBit i
theorem shr_bit (vals v : Nat) (hv : vals < 18446744073709551616) : (bits BinOp.and IntKind.u64 ((vals : Int) / 2 ^ v) 1 == 1) = bitsF vals v := by
  have e : (vals : Int) / 2 ^ v = ((vals / 2 ^ v : Nat) : Int) := by simp
  have hd : vals / 2 ^ v <= vals := Nat.div_le_self _ _
  generalize hm : vals / 2 ^ v = m at *
  rw [e, and_one_u64 _ (by omega) (by omega)]
  have hb : bitsF vals v = decide (m % 2 = 1) := by unfold bitsF; rw [Nat.testBit_eq_decide_div_mod_eq, hm]
  rw [hb, Bool.eq_iff_iff]
  simp
  omega
end
section
open Go.RowKit Go.Maps
section
variable {B s b : Nat} {O : Nat -> Prop} {vars : Nat} {room : Int} {ns : List Nd} {w w' : World}
theorem holds_any (h : SpaceAt B w s b O vars room ns) (hg : Good vars ns) (hl : ns.length <= 90000) (x : Int) (hx : hasB ns x = true) (vals : Nat) (hvals : vals < 18446744073709551616) :
    Calls Tryz.prog 28 #[.pointer (some ⟨s, 0, none⟩), .int .i64 x, .int .u64 (vals : Int)] w fun e w' => e = .returned (.tuple #[.bool (sem ns x (bitsF vals)), .nilIface]) /\ Below w.heap.size w w' := by
  have hi := has_i64 hx (by omega)
  have HP := present_any (cp := 1) (h.new (below_new w (.cells #[.int .i64 x] 3))) (by omega) w.heap.size [x] (ints1 w x hi) (by simp) (fun y hy => by rw [List.mem_singleton] at hy; subst hy; exact hx)
  rw [show [x].length = 1 from rfl] at HP
  have HPR := Lib.hid HP
  have hb := below_new w (.cells #[.int .i64 x] 3)
  have HGT : Hid (∀ (y : Int) (W : World), hasB ns y = true -> Below w.heap.size w W -> Calls Tryz.prog 59 #[.pointer (some ⟨b, 0, none⟩), .int .i64 y] W fun e w' => e = .returned (.tuple #[.agg #[.int .i64 (getOf ns y).v, .int .i64 (getOf ns y).l, .int .i64 (getOf ns y).h], .bool (decide (topOf ns y ≠ 24))]) /\ Below W.heap.size W w') := fun y W hy hW => spGet (h.new hW) y (has_i64 hy (by omega)) hl
  have HC : Hid (∀ W, Below w.heap.size w W -> W.cell? ⟨s, 0, none⟩ = some (.pointer (some ⟨b, 0, none⟩))) := fun W hW => (h.new hW).c0
  have HG := Lib.hid hg
  have c0 := HC.out _ hb
  have HB := Lib.hid hb
  have G0 := Lib.hid (HGT.out x _ hx hb)
  have HX := Lib.hid hx
  clear HP h hg hb hx
  generalize hge : getOf ns x = gn at *
  generalize htp : decide (topOf ns x ≠ 24) = tb at *
  obtain ⟨gv, gl, gh⟩ := gn
  have HGE := Lib.hid hge
  have HTP := Lib.hid htp
  clear hge htp
  simp only at G0
  go_enter Tryz.func28, Tryz.ntmps28
  go_wp2_with fail
  refine HPR.out.mono ?_
  rintro e w1 ⟨rfl, rfl⟩
  clear HPR
  go_wp2_with fail
  refine G0.out.mono ?_
  rintro e w2 ⟨rfl, hb2⟩
  have hb3 : Below w.heap.size w w2 := HB.out.trans (hb2.mono HB.out.size)
  have T0 := Lib.hid (tri_new w2 gv gl gh 102)
  have B4 := Lib.hid (hb3.alloc hb3.size (.cells #[.int .i64 gv, .int .i64 gl, .int .i64 gh] 102))
  clear G0 hb2 hb3 c0
  go_wp2_with fail
  go_loopw [1, 9, 10] (fun hV nV okV wr => ∃ (y : Int) (p : Nat), hV = .int .i64 y /\ nV = .pointer (some ⟨p, 0, none⟩) /\ okV = .bool (decide (topOf ns y ≠ 24)) /\ Tri wr p (getOf ns y).v (getOf ns y).l (getOf ns y).h /\ hasB ns y = true /\ sem ns y (bitsF vals) = sem ns x (bitsF vals) /\ Below w.heap.size w wr)
    (fun hV _ _ _ => (24 - topOf ns (intOf hV)).toNat)
  case atStart =>
    refine ⟨x, w2.heap.size, rfl, rfl, by rw [HTP.out], by rw [HGE.out]; exact T0.out, HX.out, rfl, B4.out⟩
  case round =>
    obtain ⟨y, p, rfl, rfl, rfl, hT, hy, hsm, hbr⟩ := hrel
    clear T0 B4
    by_cases ht : topOf ns y = 24
    · have dt : decide (topOf ns y ≠ 24) = false := by simp [ht]
      rw [dt]
      have hres : sem ns x (bitsF vals) = (y == 1) := by
        rw [<- hsm, sem_end ht]
        by_cases e : y = 1 <;> simp [e]
      have HRES := Lib.hid hres
      clear dt hres hsm hT ht
      go_wp2
      go_ret2
      exact ⟨by rw [HRES.out]; rfl, hbr⟩
    · have hr := HG.out.ranked
      have hk := kids hr ht
      have hgn : getOf ns y = nd ns (pl y) := by unfold getOf; rw [if_neg ht]; rfl
      rw [hgn] at hT
      have ht0 := (topOf_le hr y).1
      have htl := top_lt hr ht
      have hgv : (nd ns (pl y)).v = topOf ns y := (node_at ht).2.2.1.symm
      have hsn := sem_node hr ht (bitsF vals)
      rw [hgv] at hT
      have dt : decide (topOf ns y ≠ 24) = true := by simp [ht]
      rw [dt]
      generalize hty : topOf ns y = ty at *
      have HTY := Lib.hid hty
      clear hty
      obtain ⟨v, rfl⟩ : ∃ v : Nat, ty = (v : Int) := ⟨ty.toNat, by omega⟩
      have q0 := hT.c0
      have q1 := hT.c1
      have q2 := hT.c2
      have HTT := Lib.hid hT
      have hbx := below_new wr (.cells #[.int .i64 (v : Int), .int .i64 (nd ns (pl y)).l, .int .i64 (nd ns (pl y)).h] 102)
      have hbx' := hbr.trans (hbx.mono hbr.size)
      have yc := HC.out _ hbx'
      have HBX := Lib.hid hbx'
      have TX := Lib.hid (tri_new wr (v : Int) (nd ns (pl y)).l (nd ns (pl y)).h 102)
      have hsb := shr_bit vals v hvals
      have hvt : ((v : Int)).toNat = v := by omega
      rw [hvt] at hsn
      have HSN := Lib.hid (hsn.symm.trans hsm)
      have bx0 : wr.heap.size < (wr.alloc (.cells #[.int .i64 (v : Int), .int .i64 (nd ns (pl y)).l, .int .i64 (nd ns (pl y)).h] 102)).heap.size := by simp
      have KL := Lib.hid hk.2.1
      have KH := Lib.hid hk.2.2.2
      have k1 := hk.1
      have k2 := hk.2.2.1
      clear hT hsm hsn hk hgn hgv dt hbx hbx' hvt
      generalize (nd ns (pl y)).l = lo at *
      generalize (nd ns (pl y)).h = hi' at *
      cases hbit : bitsF vals v with
      | true =>
        rw [hbit] at hsb
        have HSN' : Hid (sem ns hi' (bitsF vals) = sem ns x (bitsF vals)) := by have := HSN.out; rw [hbit, if_pos rfl] at this; exact this
        have G1 := Lib.hid (HGT.out hi' _ KH.out HBX.out)
        clear hbit HSN
        go_wp2_with fail
        refine G1.out.mono ?_
        rintro e w5 ⟨rfl, hb5⟩
        have t5 := TX.out.new hb5
        have z0 := t5.c0
        have z1 := t5.fz 0
        have t6 := t5.set0 (getOf ns hi').v
        have z2 := t6.c1
        have z3 := t6.fz 1
        have t7 := t6.set1 (getOf ns hi').l
        have z4 := t7.c2
        have z5 := t7.fz 2
        have T8 := Lib.hid (t7.set2 (getOf ns hi').h)
        have hb6 := HBX.out.trans (hb5.mono HBX.out.size)
        have hws := hbr.size
        have HB8 : Hid (Below w.heap.size w (((w5.setCell ⟨wr.heap.size, 0, none⟩ (.int .i64 (getOf ns hi').v)).setCell ⟨wr.heap.size, 1, none⟩ (.int .i64 (getOf ns hi').l)).setCell ⟨wr.heap.size, 2, none⟩ (.int .i64 (getOf ns hi').h))) := ((hb6.setCell hws _).setCell hws _).setCell hws _
        clear t5 t6 t7 hb6 hb5 G1
        generalize hgy : getOf ns hi' = gy at *
        obtain ⟨g0, g1, g2⟩ := gy
        have HGY := Lib.hid hgy
        clear hgy
        simp only at z2 z4 T8 HB8 z3 z5
        go_wp2
        go_roundw
        case rel => exact ⟨hi', wr.heap.size, rfl, rfl, by simp, by rw [HGY.out]; exact T8.out, KH.out, HSN'.out, HB8.out⟩
        case measure =>
          show (24 - topOf ns hi').toNat < (24 - topOf ns y).toNat
          rw [HTY.out]; omega
      | false =>
        rw [hbit] at hsb
        have HSN' : Hid (sem ns lo (bitsF vals) = sem ns x (bitsF vals)) := by have := HSN.out; rw [hbit, if_neg (by simp)] at this; exact this
        have G1 := Lib.hid (HGT.out lo _ KL.out HBX.out)
        clear hbit HSN
        go_wp2_with fail
        refine G1.out.mono ?_
        rintro e w5 ⟨rfl, hb5⟩
        have t5 := TX.out.new hb5
        have z0 := t5.c0
        have z1 := t5.fz 0
        have t6 := t5.set0 (getOf ns lo).v
        have z2 := t6.c1
        have z3 := t6.fz 1
        have t7 := t6.set1 (getOf ns lo).l
        have z4 := t7.c2
        have z5 := t7.fz 2
        have T8 := Lib.hid (t7.set2 (getOf ns lo).h)
        have hb6 := HBX.out.trans (hb5.mono HBX.out.size)
        have hws := hbr.size
        have HB8 : Hid (Below w.heap.size w (((w5.setCell ⟨wr.heap.size, 0, none⟩ (.int .i64 (getOf ns lo).v)).setCell ⟨wr.heap.size, 1, none⟩ (.int .i64 (getOf ns lo).l)).setCell ⟨wr.heap.size, 2, none⟩ (.int .i64 (getOf ns lo).h))) := ((hb6.setCell hws _).setCell hws _).setCell hws _
        clear t5 t6 t7 hb6 hb5 G1
        generalize hgy : getOf ns lo = gy at *
        obtain ⟨g0, g1, g2⟩ := gy
        have HGY := Lib.hid hgy
        clear hgy
        simp only at z2 z4 T8 HB8 z3 z5
        go_wp2
        go_roundw
        case rel => exact ⟨lo, wr.heap.size, rfl, rfl, by simp, by rw [HGY.out]; exact T8.out, KL.out, HSN'.out, HB8.out⟩
        case measure =>
          show (24 - topOf ns lo).toNat < (24 - topOf ns y).toNat
          rw [HTY.out]; omega
end
end
end Go.Proofs.YtcjjekhecjmaeaaGreatDoor
