/- Tables. -/
import Derived.Test.YtcjjekhecjmaeaaGreatDoorImRefW
set_option maxHeartbeats 8000000
set_option maxRecDepth 100000
namespace Go.Proofs.YtcjjekhecjmaeaaGreatDoor
open Go.RowKit Go.Maps
theorem tables_any (vars : Nat) (hv0 : 0 < vars) (hv6 : vars <= 6) (xs : List Quad) (a : Option Addr) (cap : Nat) (w : World) (hx : ∀ i, i < xs.length -> ∃ ad, a = some ad /\ QuadAt w ad i (qd xs i)) (hxl : xs.length <= 25) :
  Calls Tryz.prog 33 #[.int .i64 (vars : Int), .slice a xs.length cap] w fun e w' => ∃ v gs, e = .returned v /\ TabsAt w.heap.size w' v (2 ^ vars) gs ((funT vars [fun _ => false, fun _ => true] xs).map (tabOf vars)) /\ Below w.heap.size w w' := by
 have p6 := pow_le6 hv6
 have HX := Lib.hid hx
 have HM : ∀ W, (Instr.makeSlice 43 (.int .i64 ((2 ^ vars : Nat) : Int)) (.int .i64 ((2 ^ vars : Nat) : Int))).run Tryz.prog W = .ok (.slice (some ⟨W.heap.size, 0, none⟩) (2 ^ vars) (2 ^ vars)) (W.alloc (.cells (madeCells #[.bool false] (2 ^ vars)) 4)) := make_tab (2 ^ vars) p6
 have HST := Lib.hid (fun g0 g1 hg => start_new w.drew (B := w.heap.size) (Nat.le_refl _) (2 ^ vars) p6 g0 g1 hg)
 have hw : wrap64 ((2 : Int) ^ vars) = ((2 ^ vars : Nat) : Int) := by
  have e : ((2 : Int) ^ vars) = ((2 ^ vars : Nat) : Int) := by simp
  rw [e]; generalize 2 ^ vars = z at *; unfold wrap64; omega
 generalize hn : 2 ^ vars = n at *
 clear hx
 go_enter Tryz.func33, Tryz.ntmps33
 go_wp2_with fail
 simp only [hw]
 go_cut [6] (fun oV wx => ∃ g0 g1 go, oV = .slice (some ⟨go, 0, none⟩) 2 2 /\ Start w.heap.size wx n g0 g1 go (List.replicate n false) /\ Below w.heap.size w wx)
 case first =>
  go_region_held3 (fun _ => True) (trivial) (fail)
  all_goals
   go_wp2_with fail
   go_meet
   case rel => exact ⟨_, _, _, rfl, HST.out _ _ (by first | exact .inl ⟨rfl, by simp⟩ | exact .inr ⟨by simp, rfl⟩), (((below_new w _).alloc (below_new w _).size _).alloc ((below_new w _).alloc (below_new w _).size _).size _).drew⟩
 case rest =>
  obtain ⟨g0, g1, go, rfl, hst, hbl⟩ := hcut
  clear HST HM
  have HS0 := Lib.hid hst
  have HB0 := Lib.hid hbl
  have c1 : ∀ X, Kept (fun j => j = g1) wc X -> X.cell? ⟨go, 1, none⟩ = some (.slice (some ⟨g1, 0, none⟩) n n) := fun X hk => by
   have h1 := HS0.out.row.cellAt 1 (by omega)
   have h2 := (hk.cell (a := ⟨go, 1, none⟩) (HS0.out.row.lt go rfl).2 HS0.out.n1).trans h1
   rw [h2]; rfl
  have C1 := Lib.hid c1
  clear hst hbl c1
  go_wp2_with fail
  go_loopw [27] (fun iV wr => ∃ k : Nat, k <= n /\ iV = .int .i64 (k : Int) /\ Kept (fun j => j = g1) wc wr /\ wr.ownsRow w.heap.size 4 1 (.slice (some ⟨g1, 0, none⟩) n n) n (mcells (partT (List.replicate n true) n k))) (fun iV _ => n - (intOf iV).toNat)
  case atStart => exact ⟨0, Nat.zero_le _, rfl, Kept.refl _ _, by rw [partT_zero]; exact HS0.out.t1⟩
  case round =>
   obtain ⟨k, hk, rfl, hkp, hrow⟩ := hrel
   by_cases hlt : k < n
   ·have i1 : (k : Int) < (n : Int) := by omega
    have o1 := C1.out wr hkp
    have fm := hrow.frozenAt k
    have cm := hrow.cellAt k (by omega)
    rw [mcells_at _ k (by rw [partT_len (by simp) hk]; exact hlt)] at cm
    have hr3 := (hrow.stored k (.bool true)).1
    rw [mcells_setB, partT_set (by simp) hlt true (by simp)] at hr3
    have hk3 : Kept (fun j => j = g1) wr (wr.setCell ⟨g1, k, none⟩ (.bool true)) := Kept.setCell _ _ _ rfl
    have HR3 := Lib.hid hr3
    have HK3 := Lib.hid (hkp.trans hk3)
    clear hr3 hk3 hrow hkp
    go_wp2
    go_roundw
    case rel => exact ⟨k + 1, by omega, by go_num, HK3.out, HR3.out⟩
    case measure => simp [intOf]; omega
   ·as_aux_lemma =>
     obtain rfl : n = k := by omega
     rw [partT_full (by simp)] at hrow
     have htb : Start w.heap.size wr n g0 g1 go (List.replicate n true) := ⟨HS0.out.t0.kept hkp HS0.out.n01, hrow, ownsRow_kept HS0.out.row hkp (fun j hj => by
      have : go = j := by simpa [Value.ownBlock] using hj
      subst this; exact HS0.out.n1), HS0.out.b0, HS0.out.n01, HS0.out.n0, HS0.out.n1⟩
     have hb1 : Below w.heap.size w wr := HB0.out.trans (hkp.below HB0.out.size (fun j e => by rw [e]; exact (HS0.out.t1.lt _ rfl).1))
     have HTB := Lib.hid (htb.tabs hn)
     have HB1 := Lib.hid hb1
     clear htb hb1 hrow hkp HS0 HB0 C1 hlt hk
     have HT : Hid (∀ k, k < xs.length -> funT vars [fun _ => false, fun _ => true] (xs.take (k + 1)) = roundT vars (funT vars [fun _ => false, fun _ => true] (xs.take k)) (qd xs k)) := fun k hk => by
      rw [List.take_succ_eq_append_getElem hk, funT_snoc]
      congr 1
      unfold qd; simp [List.getD_eq_getElem?_getD, List.getElem?_eq_getElem hk]
     have HL : Hid (∀ k, k <= xs.length -> (funT vars [fun _ => false, fun _ => true] (xs.take k)).length = k + 2) := fun k hk => by
      rw [funT_len, List.length_take]; simp; omega
     go_wp2_with fail
     go_loopw [6, 38] (fun oV iV wr2 => ∃ (k : Nat) (gs : List Nat), k <= xs.length /\ iV = .int .i64 (k : Int) /\ TabsAt w.heap.size wr2 oV n gs ((funT vars [fun _ => false, fun _ => true] (xs.take k)).map (tabOf vars)) /\ Below w.heap.size w wr2) (fun _ iV _ => xs.length - (intOf iV).toNat)
     case atStart => exact ⟨0, [g0, g1], Nat.zero_le _, rfl, HTB.out, HB1.out⟩
     case round =>
      obtain ⟨k, gs, hk, rfl, htab, hbel⟩ := hrel
      clear HTB HB1
      obtain ⟨w0, rfl⟩ : ∃ w0, w0 = wr := ⟨wr, rfl⟩
      by_cases hlt : k < xs.length
      ·as_aux_lemma =>
        have HTK := Lib.hid (HT.out k hlt)
        have hTl := HL.out k hk
        obtain ⟨T, hTe⟩ : ∃ T, T = funT vars [fun _ => false, fun _ => true] (xs.take k) := ⟨_, rfl⟩
        rw [<- hTe] at htab hTl HTK
        obtain ⟨N, hNe⟩ : ∃ N, N = k + 2 := ⟨_, rfl⟩
        rw [<- hNe] at hTl
        obtain ⟨ad, rfl, hq0⟩ := HX.out k hlt
        obtain ⟨hqb, q0, q1, q2, q3, qok⟩ := hq0.below hbel hq0.lt
        obtain ⟨q, hqe⟩ : ∃ q, q = qd xs k := ⟨_, rfl⟩
        rw [<- hqe] at q0 q1 q2 q3 HTK
        obtain ⟨go2, c2, ga, gb, gc, p1, p2, p3, v1, v2, t, fA, fB, fC, L, rfl, hrf⟩ := round_facts hn hv0 hv6 (by omega) (by omega) hTl htab q
        obtain ⟨qa, qb, qc, qd'⟩ := q
        simp only at q0 q1 q2 q3
        have HRF := Lib.hid hrf
        have HTAB := Lib.hid htab
        have HBEL := Lib.hid hbel
        have P1 : Hid (∀ W, Calls Tryz.prog 72 #[.int .i64 qb, .int .i64 (N : Int)] W fun e w' => e = .returned (.int .i64 (p1 : Int)) /\ W = w') := hrf.P1
        have P2 : Hid (∀ W, Calls Tryz.prog 72 #[.int .i64 qc, .int .i64 (N : Int)] W fun e w' => e = .returned (.int .i64 (p2 : Int)) /\ W = w') := hrf.P2
        have P3 : Hid (∀ W, Calls Tryz.prog 72 #[.int .i64 qd', .int .i64 (N : Int)] W fun e w' => e = .returned (.int .i64 (p3 : Int)) /\ W = w') := hrf.P3
        have P4 : Hid (∀ W, Calls Tryz.prog 72 #[.int .i64 qc, .int .i64 (vars : Int)] W fun e w' => e = .returned (.int .i64 (v2 : Int)) /\ W = w') := hrf.P4
        have i1 : (k : Int) < (xs.length : Int) := by omega
        have l1 := hrf.l1
        have l2 := hrf.l2
        have l3 := hrf.l3
        have j1 : (p1 : Int) < (N : Int) := by omega
        have j2 : (p2 : Int) < (N : Int) := by omega
        have j3 : (p3 : Int) < (N : Int) := by omega
        have hbx := below_new w0 (.cells #[.int .i64 qa, .int .i64 qb, .int .i64 qc, .int .i64 qd'] 80)
        obtain ⟨x0, x1, x2, x3⟩ := cell4 w0 (.int .i64 qa) (.int .i64 qb) (.int .i64 qc) (.int .i64 qd') 80
        have bl : w0.heap.size < (w0.alloc (.cells #[.int .i64 qa, .int .i64 qb, .int .i64 qc, .int .i64 qd'] 80)).heap.size := by simp
        have y1 := (hbx.cell (p := ⟨go2, p1, none⟩) hrf.gl).trans hrf.o1
        have y2 := (hbx.cell (p := ⟨go2, p2, none⟩) hrf.gl).trans hrf.o2
        have y3 := (hbx.cell (p := ⟨go2, p3, none⟩) hrf.gl).trans hrf.o3
        have HBX := Lib.hid hbx
        have hN1 : N <= 27 := by omega
        have hk1 : k <= 25 := by omega
        have HNE := Lib.hid hNe
        have HTLN := Lib.hid hTl
        clear hNe hrf htab hbel hbx hqe hTe hTl qok hq0 HT HL HX l1 l2 l3
        go_wp2_with fail
        clear q0 q1 q2 q3
        generalize (w0.alloc (.cells #[.int .i64 qa, .int .i64 qb, .int .i64 qc, .int .i64 qd'] 80)) = W1 at *
        have SA : W1.drew.cell? ⟨w0.heap.size, 1, none⟩ = some (.int .i64 qb) /\ W1.drew.cell? ⟨w0.heap.size, 2, none⟩ = some (.int .i64 qc) /\ W1.drew.cell? ⟨w0.heap.size, 3, none⟩ = some (.int .i64 qd') /\ W1.drew.cell? ⟨go2, p1, none⟩ = some (.slice (some ⟨ga, 0, none⟩) n n) /\ W1.drew.cell? ⟨go2, p2, none⟩ = some (.slice (some ⟨gb, 0, none⟩) n n) /\ W1.drew.cell? ⟨go2, p3, none⟩ = some (.slice (some ⟨gc, 0, none⟩) n n) := ⟨x1, x2, x3, y1, y2, y3⟩
        go_region_held3 (fun X => X.cell? ⟨w0.heap.size, 1, none⟩ = some (.int .i64 qb) /\ X.cell? ⟨w0.heap.size, 2, none⟩ = some (.int .i64 qc) /\ X.cell? ⟨w0.heap.size, 3, none⟩ = some (.int .i64 qd') /\ X.cell? ⟨go2, p1, none⟩ = some (.slice (some ⟨ga, 0, none⟩) n n) /\ X.cell? ⟨go2, p2, none⟩ = some (.slice (some ⟨gb, 0, none⟩) n n) /\ X.cell? ⟨go2, p3, none⟩ = some (.slice (some ⟨gc, 0, none⟩) n n)) (exact SA)
         (first
          | (go_at_call 72; with_reducible refine (P1.out _).mono ?_; rintro e wz ⟨rfl, rfl⟩)
          | (go_at_call 72; with_reducible refine (P2.out _).mono ?_; rintro e wz ⟨rfl, rfl⟩)
          | (go_at_call 72; with_reducible refine (P3.out _).mono ?_; rintro e wz ⟨rfl, rfl⟩))
        have HB1 := Lib.hid (HBX.out.drew)
        have z2 : W1.drew.cell? ⟨w0.heap.size, 2, none⟩ = some (.int .i64 qc) := x2
        have HXC : Hid (w0.heap.size < W1.drew.heap.size /\ W1.drew.cell? ⟨w0.heap.size, 0, none⟩ = some (.int .i64 qa) /\ W1.drew.cell? ⟨w0.heap.size, 1, none⟩ = some (.int .i64 qb) /\ W1.drew.cell? ⟨w0.heap.size, 2, none⟩ = some (.int .i64 qc) /\ W1.drew.cell? ⟨w0.heap.size, 3, none⟩ = some (.int .i64 qd')) := ⟨bl, x0, x1, x2, x3⟩
        clear SA x0 x1 x2 x3 y1 y2 y3 P1 P2 P3 j1 j2 j3 HBX bl
        generalize W1.drew = W2 at *
        obtain ⟨i0, hi0, hz0, hz1, hz2⟩ := info_parts infoBool
        go_wp2_with (first
         | (go_at_call 72; refine (P4.out _).mono ?_; rintro e wz ⟨rfl, rfl⟩)
         | (at_make; refine wpList_make_full _ rfl _ _ 43 rfl w.heap.size 4 i0 (.bool false) 1 Tryz.underlying43 hi0 hz0 hz1 .i64 .i64 _ _ n rfl rfl ?c1 ?c2 ?c3 ?c4 ?c5 ?_))
        case c1 => rfl
        case c2 => rfl
        case c3 => rw [hz2]; omega
        case c4 => unfold maxLen; omega
        case c5 => have := HB1.out.size; have := HBEL.out.size; omega
        intro w3 hown hgrow
        rw [mcells_made] at hown
        have hb3 : Below W2.heap.size W2 w3 := (Below.refl _ _).grown hgrow (Nat.le_refl _) (fun k hk => by cases hk)
        obtain ⟨bl2, x0', x1', x2', x3'⟩ := HXC.out
        have x0 := (hb3.cell (p := ⟨w0.heap.size, 0, none⟩) bl2).trans x0'
        have x1 := (hb3.cell (p := ⟨w0.heap.size, 1, none⟩) bl2).trans x1'
        have x2 := (hb3.cell (p := ⟨w0.heap.size, 2, none⟩) bl2).trans x2'
        have x3 := (hb3.cell (p := ⟨w0.heap.size, 3, none⟩) bl2).trans x3'
        have hbw : Below w0.heap.size w0 w3 := HB1.out.trans (hb3.mono HB1.out.size)
        have s3 : W2.heap.size < w3.heap.size := (hown.lt _ rfl).2
        have HXC3 : Hid (∀ X, Kept (fun j => j = W2.heap.size) w3 X -> X.cell? ⟨w0.heap.size, 0, none⟩ = some (.int .i64 qa) /\ X.cell? ⟨w0.heap.size, 1, none⟩ = some (.int .i64 qb) /\ X.cell? ⟨w0.heap.size, 2, none⟩ = some (.int .i64 qc) /\ X.cell? ⟨w0.heap.size, 3, none⟩ = some (.int .i64 qd')) := fun X hX => by
         have hne : w0.heap.size ≠ W2.heap.size := by omega
         have hlt3 : w0.heap.size < w3.heap.size := by omega
         exact ⟨(hX.cell (a := ⟨w0.heap.size, 0, none⟩) hlt3 hne).trans x0, (hX.cell (a := ⟨w0.heap.size, 1, none⟩) hlt3 hne).trans x1, (hX.cell (a := ⟨w0.heap.size, 2, none⟩) hlt3 hne).trans x2, (hX.cell (a := ⟨w0.heap.size, 3, none⟩) hlt3 hne).trans x3⟩
        have HABC : Hid (∀ X, Kept (fun j => j = W2.heap.size) w3 X -> ∀ j, j < n -> X.cell? ⟨ga, j, none⟩ = some (.bool (fA j)) /\ X.cell? ⟨gb, j, none⟩ = some (.bool (fB j)) /\ X.cell? ⟨gc, j, none⟩ = some (.bool (fC j))) := fun X hX j hj => by
         have h1 := HRF.out.al
         have h2 := HRF.out.bl
         have h3 := HRF.out.cl
         exact ⟨(hX.cell (a := ⟨ga, j, none⟩) (by show ga < _; omega) (by show ga ≠ _; omega)).trans ((hbw.cell (p := ⟨ga, j, none⟩) h1).trans (HRF.out.cA j hj)), (hX.cell (a := ⟨gb, j, none⟩) (by show gb < _; omega) (by show gb ≠ _; omega)).trans ((hbw.cell (p := ⟨gb, j, none⟩) h2).trans (HRF.out.cB j hj)), (hX.cell (a := ⟨gc, j, none⟩) (by show gc < _; omega) (by show gc ≠ _; omega)).trans ((hbw.cell (p := ⟨gc, j, none⟩) h3).trans (HRF.out.cC j hj))⟩
        have HOWN := Lib.hid hown
        have HBW := Lib.hid hbw
        have hbx2 : w0.heap.size ≠ W2.heap.size := by omega
        have hw3 : IntKind.i64.wrap ((2 : Int) ^ v2) = (2 : Int) ^ v2 := by
         have e : ((2 : Int) ^ v2) = ((2 ^ v2 : Nat) : Int) := by simp
         have h1 : 2 ^ v2 <= 64 := Nat.pow_le_pow_right (n := 2) (by omega) (show v2 <= 6 by have := HRF.out.lv2; omega)
         rw [e]; generalize 2 ^ v2 = z at *; exact IntWalk.i64_in _ ⟨by omega, by omega⟩
        have HW3 := Lib.hid hw3
        clear hw3
        have hw2 : wrap64 ((2 : Int) ^ v2) = (2 : Int) ^ v2 := by
         have e : ((2 : Int) ^ v2) = ((2 ^ v2 : Nat) : Int) := by simp
         have h1 : 2 ^ v2 <= 64 := Nat.pow_le_pow_right (n := 2) (by omega) (show v2 <= 6 by have := HRF.out.lv2; omega)
         rw [e]; generalize 2 ^ v2 = z at *; unfold wrap64; omega
        have P5 : Hid (∀ W, Calls Tryz.prog 72 #[.int .i64 qb, .int .i64 (vars : Int)] W fun e w' => e = .returned (.int .i64 (v1 : Int)) /\ W = w') := HRF.out.P5
        have P9 : Hid (∀ W, Calls Tryz.prog 72 #[.int .i64 qa, .int .i64 9] W fun e w' => e = .returned (.int .i64 (t : Int)) /\ W = w') := HRF.out.P9
        clear hown hgrow hbw x0 x1 x2 x3 x0' x1' x2' x3' HXC z2 P4 hi0 hz0 hz1 hz2 hb3 HB1
        go_wp2_with fail
        go_loopw [72] (fun iV ws => ∃ j : Nat, j <= n /\ iV = .int .i64 (j : Int) /\ Kept (fun j => j = W2.heap.size) w3 ws /\ ws.ownsRow w.heap.size 4 1 (.slice (some ⟨W2.heap.size, 0, none⟩) n n) n (mcells (partT L n j))) (fun iV _ => n - (intOf iV).toNat)
        case atStart => exact ⟨0, Nat.zero_le _, rfl, Kept.refl _ _, by rw [partT_zero]; exact HOWN.out⟩
        case round =>
         obtain ⟨j, hj, rfl, hkp, hrow⟩ := hrel
         by_cases hjn : j < n
         ·as_aux_lemma =>
           have LJ : j < L.length := by rw [HRF.out.Ll]; exact hjn
           obtain ⟨on, hon⟩ : ∃ on, on = j ||| 1 <<< v2 := ⟨_, rfl⟩
           obtain ⟨off, hoff⟩ : ∃ off, off = offN j v2 := ⟨_, rfl⟩
           obtain ⟨eon, lon, eoff, loff⟩ := HRF.out.offs j hjn
           have U0 : Hid (t = 0 -> L[j] = (bitsF j v1 == oddB qc)) := fun h => HRF.out.V0 h j LJ
           have U1 : Hid (t = 1 -> L[j] = !(fA j)) := fun h => HRF.out.V1 h j LJ
           have U2 : Hid (t = 2 -> L[j] = (fA j && fB j)) := fun h => HRF.out.V2 h j LJ
           have U3 : Hid (t = 3 -> L[j] = (fA j || fB j)) := fun h => HRF.out.V3 h j LJ
           have U4 : Hid (t = 4 -> L[j] = (fA j != fB j)) := fun h => HRF.out.V4 h j LJ
           have U5 : Hid (t = 5 -> L[j] = if fA j = true then fB j else fC j) := fun h => HRF.out.V5 h j LJ
           have U6 : Hid (t = 6 -> L[j] = fA (if oddB qd' then on else off)) := fun h => by rw [hon, hoff]; exact HRF.out.V6 h j LJ
           have U7 : Hid (t = 7 -> L[j] = (fA off || fA on)) := fun h => by rw [hon, hoff]; exact HRF.out.V7 h j LJ
           have U8 : Hid (t = 8 -> L[j] = (fA off && fA on)) := fun h => by rw [hon, hoff]; exact HRF.out.V8 h j LJ
           have BIT := Lib.hid (HRF.out.bit j hjn)
           rw [<- hon] at eon lon
           rw [<- hoff] at eoff loff
           have i2 : (j : Int) < (n : Int) := by omega
           have ion : (on : Int) < (n : Int) := by omega
           have ioff : (off : Int) < (n : Int) := by omega
           obtain ⟨x0, x1, x2, x3⟩ := HXC3.out _ hkp
           obtain ⟨aj, bj, cj⟩ := HABC.out _ hkp j hjn
           have aon := (HABC.out _ hkp _ lon).1
           have aoff := (HABC.out _ hkp _ loff).1
           have fm := hrow.frozenAt j
           have cm := hrow.cellAt j (by omega)
           rw [mcells_at _ j (by rw [partT_len HRF.out.Ll hj]; exact hjn)] at cm
           have HS : Hid (∀ b, L[j] = b -> Kept (fun j => j = W2.heap.size) w3 (wr.setCell ⟨W2.heap.size, j, none⟩ (.bool b)).drew /\ (wr.setCell ⟨W2.heap.size, j, none⟩ (.bool b)).drew.ownsRow w.heap.size 4 1 (.slice (some ⟨W2.heap.size, 0, none⟩) n n) n (mcells (partT L n (j + 1)))) := fun b hb => store_tab_drew HRF.out.Ll hjn hrow hkp (Below.refl _ _) b hb
           have HS2 : Hid (∀ b' b, L[j] = b -> Kept (fun j => j = W2.heap.size) w3 ((wr.drew.setCell ⟨W2.heap.size, j, none⟩ (.bool b')).setCell ⟨W2.heap.size, j, none⟩ (.bool b)) /\ ((wr.drew.setCell ⟨W2.heap.size, j, none⟩ (.bool b')).setCell ⟨W2.heap.size, j, none⟩ (.bool b)).ownsRow w.heap.size 4 1 (.slice (some ⟨W2.heap.size, 0, none⟩) n n) n (mcells (partT L n (j + 1)))) := fun b' b hb => store_tab2 HRF.out.Ll hjn hrow hkp (Below.refl _ _).drew b' b hb
           have HSD : Hid (∀ b, L[j] = b -> Kept (fun j => j = W2.heap.size) w3 (wr.drew.setCell ⟨W2.heap.size, j, none⟩ (.bool b)).drew /\ (wr.drew.setCell ⟨W2.heap.size, j, none⟩ (.bool b)).drew.ownsRow w.heap.size 4 1 (.slice (some ⟨W2.heap.size, 0, none⟩) n n) n (mcells (partT L n (j + 1)))) := fun b hb => store_tab_drew HRF.out.Ll hjn hrow hkp (Below.refl _ _).drew b hb
           have gal : ga < w3.heap.size := by have := HRF.out.al; have := HBW.out.size; omega
           have gne : ga ≠ W2.heap.size := by have := HRF.out.al; omega
           have lv1 := HRF.out.lv1
           have lv1' : v1 <= 6 := by omega
           have lv2' : v2 <= 6 := by have := HRF.out.lv2; omega
           have lt9 := HRF.out.lt9
           have hs3 := hkp.size
           clear hrow hkp hon hoff
           go_wp2_with fail
           go_region_held3 (fun _ => True) (trivial) (fail)
           simp only [HW3.out, eon, eoff]
           clear eon eoff hw2
           have hcases : t = 0 \/ t = 1 \/ t = 2 \/ t = 3 \/ t = 4 \/ t = 5 \/ t = 6 \/ t = 7 \/ t = 8 := by omega
           obtain rfl | rfl | rfl | rfl | rfl | rfl | rfl | rfl | rfl := hcases
           ·as_aux_lemma =>
             have UU := Lib.hid (U0.out rfl)
             clear U0 U1 U2 U3 U4 U5 U6 U7 U8
             have SB : wr.drew.drew.cell? ⟨w0.heap.size, 1, none⟩ = some (.int .i64 qb) /\ wr.drew.drew.cell? ⟨w0.heap.size, 2, none⟩ = some (.int .i64 qc) := ⟨x1, x2⟩
             have SC : ∀ b, (wr.drew.drew.setCell ⟨W2.heap.size, j, none⟩ (.bool b)).cell? ⟨w0.heap.size, 1, none⟩ = some (.int .i64 qb) /\ (wr.drew.drew.setCell ⟨W2.heap.size, j, none⟩ (.bool b)).cell? ⟨w0.heap.size, 2, none⟩ = some (.int .i64 qc) := fun b => ⟨(World.cell?_setCell_far _ _ _ _ (Ne.symm hbx2)).trans x1, (World.cell?_setCell_far _ _ _ _ (Ne.symm hbx2)).trans x2⟩
             have SCH := Lib.hid SC
             clear SC
             go_wp2_with (go_at_call 72; refine (P9.out _).mono ?_; rintro e wz ⟨rfl, rfl⟩)
             go_region_held3 (fun X => X.cell? ⟨w0.heap.size, 1, none⟩ = some (.int .i64 qb) /\ X.cell? ⟨w0.heap.size, 2, none⟩ = some (.int .i64 qc)) (first | exact SB | exact SCH.out _)
              (first
               | (go_at_call 72; with_reducible refine (P5.out _).mono ?_; rintro e wz ⟨rfl, rfl⟩))
             all_goals
              go_wp2_with fail
              go_roundw
              case rel => exact ⟨j + 1, by omega, by go_num, (HSD.out _ (by rw [UU.out, <- BIT.out]; rfl)).1, (HSD.out _ (by rw [UU.out, <- BIT.out]; rfl)).2⟩
              case measure => simp [intOf]; omega
           ·as_aux_lemma =>
             have UU := Lib.hid (U1.out rfl)
             clear U0 U1 U2 U3 U4 U5 U6 U7 U8
             go_wp2_with (go_at_call 72; refine (P9.out _).mono ?_; rintro e wz ⟨rfl, rfl⟩)
             go_roundw
             case rel => exact ⟨j + 1, by omega, by go_num, (HS.out _ (UU.out)).1, (HS.out _ (UU.out)).2⟩
             case measure => simp [intOf]; omega
           ·as_aux_lemma =>
             have UU := Lib.hid (U2.out rfl)
             clear U0 U1 U2 U3 U4 U5 U6 U7 U8
             cases hfa : fA j
             all_goals
              rw [hfa] at aj
              go_wp2_with (go_at_call 72; refine (P9.out _).mono ?_; rintro e wz ⟨rfl, rfl⟩)
              go_roundw
              case rel => exact ⟨j + 1, by omega, by go_num, (HS.out _ (by rw [UU.out, hfa]; rfl)).1, (HS.out _ (by rw [UU.out, hfa]; rfl)).2⟩
              case measure => simp [intOf]; omega
           ·as_aux_lemma =>
             have UU := Lib.hid (U3.out rfl)
             clear U0 U1 U2 U3 U4 U5 U6 U7 U8
             cases hfa : fA j
             all_goals
              rw [hfa] at aj
              go_wp2_with (go_at_call 72; refine (P9.out _).mono ?_; rintro e wz ⟨rfl, rfl⟩)
              go_roundw
              case rel => exact ⟨j + 1, by omega, by go_num, (HS.out _ (by rw [UU.out, hfa]; rfl)).1, (HS.out _ (by rw [UU.out, hfa]; rfl)).2⟩
              case measure => simp [intOf]; omega
           ·as_aux_lemma =>
             have UU := Lib.hid (U4.out rfl)
             clear U0 U1 U2 U3 U4 U5 U6 U7 U8
             have SB : wr.drew.drew.cell? ⟨ga, j, none⟩ = some (.bool (fA j)) /\ wr.drew.drew.cell? ⟨gb, j, none⟩ = some (.bool (fB j)) := ⟨aj, bj⟩
             have gbn : gb ≠ W2.heap.size := by have := HRF.out.bl; omega
             have SC : ∀ b, (wr.drew.drew.setCell ⟨W2.heap.size, j, none⟩ (.bool b)).cell? ⟨ga, j, none⟩ = some (.bool (fA j)) /\ (wr.drew.drew.setCell ⟨W2.heap.size, j, none⟩ (.bool b)).cell? ⟨gb, j, none⟩ = some (.bool (fB j)) := fun b => ⟨(World.cell?_setCell_far _ _ _ _ (Ne.symm gne)).trans aj, (World.cell?_setCell_far _ _ _ _ (Ne.symm gbn)).trans bj⟩
             have SCH := Lib.hid SC
             clear SC
             go_wp2_with (go_at_call 72; refine (P9.out _).mono ?_; rintro e wz ⟨rfl, rfl⟩)
             go_region_held3 (fun X => X.cell? ⟨ga, j, none⟩ = some (.bool (fA j)) /\ X.cell? ⟨gb, j, none⟩ = some (.bool (fB j))) (first | exact SB | exact SCH.out _) (fail)
             all_goals
              go_wp2_with fail
              go_roundw
              case rel => exact ⟨j + 1, by omega, by go_num, (HSD.out _ (UU.out)).1, (HSD.out _ (UU.out)).2⟩
              case measure => simp [intOf]; omega
           ·as_aux_lemma =>
             have UU := Lib.hid (U5.out rfl)
             clear U0 U1 U2 U3 U4 U5 U6 U7 U8
             cases hfa : fA j
             ·rw [hfa] at aj
              go_wp2_with (go_at_call 72; refine (P9.out _).mono ?_; rintro e wz ⟨rfl, rfl⟩)
              go_roundw
              case rel => exact ⟨j + 1, by omega, by go_num, (HS.out _ (by rw [UU.out, hfa]; rfl)).1, (HS.out _ (by rw [UU.out, hfa]; rfl)).2⟩
              case measure => simp [intOf]; omega
             ·rw [hfa] at aj
              cases hfb : fB j
              all_goals
               rw [hfb] at bj
               go_wp2_with (go_at_call 72; refine (P9.out _).mono ?_; rintro e wz ⟨rfl, rfl⟩)
               go_roundw
               case rel => exact ⟨j + 1, by omega, by go_num, (HS.out _ (by rw [UU.out, hfa, hfb]; rfl)).1, (HS.out _ (by rw [UU.out, hfa, hfb]; rfl)).2⟩
               case measure => simp [intOf]; omega
           ·as_aux_lemma =>
             have UU := Lib.hid (U6.out rfl)
             clear U0 U1 U2 U3 U4 U5 U6 U7 U8
             by_cases ho : (Int.tmod qd' 2 != 0) = true
             ·have e6 : L[j] = fA on := by rw [UU.out]; unfold oddB; rw [ho]; rfl
              have x3s : (wr.setCell ⟨W2.heap.size, j, none⟩ (.bool (fA off))).cell? ⟨w0.heap.size, 3, none⟩ = some (.int .i64 qd') := (World.cell?_setCell_far _ _ _ _ (Ne.symm hbx2)).trans x3
              have aons : (wr.setCell ⟨W2.heap.size, j, none⟩ (.bool (fA off))).cell? ⟨ga, on, none⟩ = some (.bool (fA on)) := (World.cell?_setCell_far _ _ _ _ (Ne.symm gne)).trans aon
              have cms : (wr.setCell ⟨W2.heap.size, j, none⟩ (.bool (fA off))).cell? ⟨W2.heap.size, j, none⟩ = some (.bool (fA off)) := World.cell?_setCell_same _ _ _ cm
              have fms : (wr.setCell ⟨W2.heap.size, j, none⟩ (.bool (fA off))).frozen? ⟨W2.heap.size, j, none⟩ = false := by rw [World.frozen?_setCell]; exact fm
              have E6 := Lib.hid e6
              clear e6
              go_wp2_with (go_at_call 72; refine (P9.out _).mono ?_; rintro e wz ⟨rfl, rfl⟩)
              go_roundw
              case rel => exact ⟨j + 1, by omega, by go_num, (HS2.out _ _ E6.out).1, (HS2.out _ _ E6.out).2⟩
              case measure => simp [intOf]; omega
             ·have ho' : (Int.tmod qd' 2 != 0) = false := by simpa using ho
              have e6 : L[j] = fA off := by rw [UU.out]; unfold oddB; rw [ho']; rfl
              have x3s : (wr.setCell ⟨W2.heap.size, j, none⟩ (.bool (fA off))).cell? ⟨w0.heap.size, 3, none⟩ = some (.int .i64 qd') := (World.cell?_setCell_far _ _ _ _ (Ne.symm hbx2)).trans x3
              have E6 := Lib.hid e6
              clear e6 ho
              go_wp2_with (go_at_call 72; refine (P9.out _).mono ?_; rintro e wz ⟨rfl, rfl⟩)
              go_roundw
              case rel => exact ⟨j + 1, by omega, by go_num, (HS.out _ E6.out).1, (HS.out _ E6.out).2⟩
              case measure => simp [intOf]; omega
           ·as_aux_lemma =>
             have UU := Lib.hid (U7.out rfl)
             clear U0 U1 U2 U3 U4 U5 U6 U7 U8
             cases hfa : fA off
             all_goals
              rw [hfa] at aoff
              go_wp2_with (go_at_call 72; refine (P9.out _).mono ?_; rintro e wz ⟨rfl, rfl⟩)
              go_roundw
              case rel => exact ⟨j + 1, by omega, by go_num, (HS.out _ (by rw [UU.out, hfa]; rfl)).1, (HS.out _ (by rw [UU.out, hfa]; rfl)).2⟩
              case measure => simp [intOf]; omega
           ·as_aux_lemma =>
             have UU := Lib.hid (U8.out rfl)
             clear U0 U1 U2 U3 U4 U5 U6 U7 U8
             cases hfa : fA off
             all_goals
              rw [hfa] at aoff
              go_wp2_with (go_at_call 72; refine (P9.out _).mono ?_; rintro e wz ⟨rfl, rfl⟩)
              go_roundw
              case rel => exact ⟨j + 1, by omega, by go_num, (HS.out _ (by rw [UU.out, hfa]; rfl)).1, (HS.out _ (by rw [UU.out, hfa]; rfl)).2⟩
              case measure => simp [intOf]; omega
         ·as_aux_lemma =>
           obtain rfl : n = j := by omega
           rw [partT_full HRF.out.Ll] at hrow
           have hgl : gs.length = N := by have := HTAB.out.row.1; exact HTAB.out.len.trans (by rw [List.length_map]; exact HTLN.out)
           have htw := (HTAB.out.new HBW.out).kept hkp (fun j hj => by have := (HTAB.out.row.lt j hj).2; omega) (fun g hg => by have := HTAB.out.lt g hg; omega)
           have hbl := bools_row hrow HRF.out.Ll
           obtain ⟨i0, hin, hz0, hz1, hz2⟩ := info_parts infoTable
           have HRC : Hid (wr.ownsRow w.heap.size 43 1 (.slice (some ⟨go2, 0, none⟩) N c2) N (tcells n gs)) := by have := htw.row; rw [hgl] at this; exact this
           have hbk : Below w.heap.size w wr := (HBEL.out.trans (HBW.out.mono HBEL.out.size)).trans (hkp.below (by have := HBEL.out.size; have := HBW.out.size; omega) (fun j e => by rw [e]; have := HBEL.out.size; have := HBW.out.size; omega))
           have HTW := Lib.hid htw
           have HBL := Lib.hid hbl
           have HBK := Lib.hid hbk
           have HGL := Lib.hid hgl
           have hwr := hbk.size
           clear htw hbl hbk hgl hrow hkp hjn hj
           go_wp2_with (at_builtin; refine wpList_append_own_at _ rfl _ _ 25 rfl w.heap.size 43 i0 (.slice none 0 0) 1 24 Tryz.underlying25 hin hz0 hz1 hz2 rfl (by decide) _ _ _ rfl (HRC.out.alloc _) ⟨wr.heap.size, 0, none⟩ 1 1 [.slice (some ⟨W2.heap.size, 0, none⟩) n n] rfl rfl ?c1 ?c2 ?c3 ?c4 ?c5 ?_)
           case c1 => exact cell_one_new _ _ _
           case c2 => intro u hu; simp at hu; subst hu; rfl
           case c3 => unfold maxLen; omega
           case c4 => omega
           case c5 => show w.heap.size <= (World.alloc _ _).heap.size; simp; omega
           intro v7 w7 hown7 hgrow7 _ hloc7
           have hk7 : Kept (fun j => (Value.slice (some ⟨go2, 0, none⟩) N c2).ownBlock = some j) wr w7 := (Kept.alloc _ wr _).andThen (Kept.of_grown hgrow7 (fun i h => h)) (fun i h _ => h)
           have hsn := HTW.out.snoc HGL.out HBL.out HRF.out.Ll (by have := HBEL.out.size; omega) (fun e => by have := (HTAB.out.row.lt _ e).2; omega) hk7 hown7 hloc7 (by simp)
           have hb7 : Below w.heap.size w w7 := HBK.out.trans (hk7.below hwr (fun j e => (HRC.out.lt j e).1))
           have HSN := Lib.hid hsn
           have HB7 := Lib.hid hb7
           clear hsn hb7 hk7 hown7 hgrow7 hloc7
           go_wp2
           go_roundw
           case rel => exact ⟨k + 1, gs ++ [W2.heap.size], by omega, by go_num, by rw [HTK.out, HRF.out.next]; exact HSN.out, HB7.out⟩
           case measure => simp [intOf]; omega
      ·obtain rfl : xs.length = k := by omega
       rw [List.take_length] at htab
       obtain ⟨go2, c2, rfl, -⟩ := htab.form (by rw [htab.len, List.length_map, funT_len]; simp; omega)
       have HTAB := Lib.hid htab
       have HBEL := Lib.hid hbel
       clear htab hbel HT HL HX
       go_wp2
       go_ret
       exact ⟨_, _, rfl, HTAB.out, HBEL.out⟩
end Go.Proofs.YtcjjekhecjmaeaaGreatDoor
