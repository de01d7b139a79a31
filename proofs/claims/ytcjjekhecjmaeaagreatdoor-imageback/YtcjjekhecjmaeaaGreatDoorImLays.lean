/- laid: the nodes of lines, in a space. -/
import Derived.Test.YtcjjekhecjmaeaaGreatDoorImLayP
import Derived.Test.YtcjjekhecjmaeaaGreatDoorQuads
import Derived.Test.YtcjjekhecjmaeaaGreatDoorBdFunW
import Derived.Test.YtcjjekhecjmaeaaGreatDoorImFix
set_option maxHeartbeats 4000000
set_option maxRecDepth 100000
namespace Go.Proofs.YtcjjekhecjmaeaaGreatDoor
open Go.RowKit Go.Maps
structure LS (A : Nat) (W0 : World) (s b : Nat) (O0 O : Nat -> Prop) (vars : Nat) (room : Int) (ns : List Nd) (H : List Int) (g c : Nat) (w : World) : Prop where
 space : SpaceAt A w s b O vars room ns
 moves : Moves O0 O W0 w
 row : w.ownsRow W0.heap.size 3 1 (.slice (some ⟨g, 0, none⟩) H.length c) H.length (icells H)
 sb : Blk w W0.heap.size 23 #[.pointer (some ⟨s, 0, none⟩)]
 pb : Blk w (W0.heap.size + 2) 24 #[.slice (some ⟨g, 0, none⟩) H.length c]
 o0 : ¬ O W0.heap.size
 o2 : ¬ O (W0.heap.size + 2)
 og : ¬ O g
 n0 : g ≠ W0.heap.size
 n2 : g ≠ W0.heap.size + 2
 ss : s < W0.heap.size
section
variable {A : Nat} {W0 w w' : World} {s b : Nat} {O0 O O' : Nat -> Prop} {vars : Nat} {room : Int} {ns ns' : List Nd} {H : List Int} {g c : Nat}
theorem LS.glt (h : LS A W0 s b O0 O vars room ns H g c w) : W0.heap.size <= g /\ g < w.heap.size := h.row.lt g rfl
theorem LS.moved (h : LS A W0 s b O0 O vars room ns H g c w) (hs : SpaceAt A w' s b O' vars room ns') (hm : Moves O O' w w') : LS A W0 s b O0 O' vars room ns' H g c w' := by
 have hg := h.glt
 refine ⟨hs, h.moves.trans hm, ownsRow_kept h.row hm.kept (fun j hj => ?_), (hm.kept.block _ h.sb.lt h.o0).trans h.sb, (hm.kept.block _ h.pb.lt h.o2).trans h.pb, hm.beside h.sb.lt h.o0, hm.beside h.pb.lt h.o2, hm.beside hg.2 h.og, h.n0, h.n2, h.ss⟩
 have : g = j := by simpa [Value.ownBlock] using hj
 subst this; exact h.og
theorem LS.new (h : LS A W0 s b O0 O vars room ns H g c w) (hb : Below w.heap.size w w') : LS A W0 s b O0 O vars room ns H g c w' := h.moved (h.space.new hb) (Moves.of_below O hb)
theorem LS.cell (h : LS A W0 s b O0 O vars room ns H g c w) (j : Nat) (hj : j < H.length) : w.cell? ⟨g, j, none⟩ = some (.int .i64 H[j]) := by
 have := h.row.cellAt j (by simpa using hj)
 rwa [icells_at H j hj] at this
theorem LS.old (h : LS A W0 s b O0 O vars room ns H g c w) {a : Addr} (hlt : a.block < W0.heap.size) (hn : ¬ O0 a.block) : w.cell? a = W0.cell? a := h.moves.cell hlt hn
theorem LS.start (hS : SpaceAt A W0 s b O0 vars room []) (_hA : A <= W0.heap.size) : LS A W0 s b O0 O0 vars room [] [0, 1] (W0.heap.size + 1) 2 (((W0.alloc (.cells #[.pointer (some ⟨s, 0, none⟩)] 23)).alloc (.cells #[.int .i64 0, .int .i64 1] 3)).alloc (.cells #[.slice (some ⟨W0.heap.size + 1, 0, none⟩) 2 2] 24)) := by
 have b1 := below_new W0 (.cells #[.pointer (some ⟨s, 0, none⟩)] 23)
 have b2 := b1.alloc b1.size (.cells #[.int .i64 0, .int .i64 1] 3)
 have b3 := b2.alloc b2.size (.cells #[.slice (some ⟨W0.heap.size + 1, 0, none⟩) 2 2] 24)
 have z1 : (W0.alloc (.cells #[.pointer (some ⟨s, 0, none⟩)] 23)).heap.size = W0.heap.size + 1 := World.size_alloc _ _
 have z2 : ((W0.alloc (.cells #[.pointer (some ⟨s, 0, none⟩)] 23)).alloc (.cells #[.int .i64 0, .int .i64 1] 3)).heap.size = W0.heap.size + 2 := by rw [World.size_alloc, z1]
 have k0 := ((Blk.new W0 23 #[.pointer (some ⟨s, 0, none⟩)]).alloc (.cells #[.int .i64 0, .int .i64 1] 3)).alloc (.cells #[.slice (some ⟨W0.heap.size + 1, 0, none⟩) 2 2] 24)
 have k2 := Blk.new ((W0.alloc (.cells #[.pointer (some ⟨s, 0, none⟩)] 23)).alloc (.cells #[.int .i64 0, .int .i64 1] 3)) 24 #[.slice (some ⟨W0.heap.size + 1, 0, none⟩) 2 2]
 rw [z2] at k2
 have r := (built_row (W0.alloc (.cells #[.pointer (some ⟨s, 0, none⟩)] 23)) (B := W0.heap.size) (by rw [z1]; omega) #[.int .i64 0, .int .i64 1] 3 (by simp [maxLen])).alloc (.cells #[.slice (some ⟨W0.heap.size + 1, 0, none⟩) 2 2] 24)
 rw [z1] at r
 exact ⟨hS.new b3, Moves.of_below O0 b3, r, k0, k2, hS.old (Nat.le_refl _), hS.old (by omega), hS.old (by omega), by omega, by omega, hS.slt⟩
end
theorem laid_cons {vars : Nat} {room : Int} {t : List UInt8} {ts : List (List UInt8)} {ns : List Nd} {H : List Int} {v l h : Nat} (e : threeF t = some (v, l, h)) :
  (¬ okLine vars ns H v l h -> laidF vars room (t :: ts) ns H = .error 3) /\ (okLine vars ns H v l h -> ¬ (idx ns (ndOf H v l h) < ns.length \/ (ns.length : Int) < room) -> laidF vars room (t :: ts) ns H = .error 12) /\ (okLine vars ns H v l h -> (idx ns (ndOf H v l h) < ns.length \/ (ns.length : Int) < room) -> laidF vars room (t :: ts) ns H = laidF vars room ts (makeF ns (ndOf H v l h)).1 (H ++ [(makeF ns (ndOf H v l h)).2])) := by
 refine ⟨fun h1 => ?_, fun h1 h2 => ?_, fun h1 h2 => ?_⟩
 ·rw [laidF, e]; exact if_neg h1
 ·rw [laidF, e]; exact (if_pos h1).trans (if_neg h2)
 ·rw [laidF, e]; exact (if_pos h1).trans (if_pos h2)
theorem LS.leads {A : Nat} {W0 W : World} {s b : Nat} {O0 O : Nat -> Prop} {vars : Nat} {room : Int} {ns : List Nd} {H : List Int} {g c : Nat} (hls : LS A W0 s b O0 O vars room ns H g c W) (hl : ns.length <= 90000) (hH : ∀ x ∈ H, hasB ns x = true) (v n m : Nat) :
  Calls Tryz.prog 89 #[.int .i64 (v : Int), .int .i64 (n : Int), .pointer (some ⟨W0.heap.size + 2, 0, none⟩), .pointer (some ⟨W0.heap.size, 0, none⟩)] (W.drewN m) fun e w' => e = .returned (.bool (decide (n < H.length /\ (v : Int) < topOf ns (H.getD n 0)))) /\ ∃ m', w' = W.drewN m' := by
 have hd := hls.new (below_drewN W.heap.size W m)
 refine (leads_any hd.space hl H hH g c (W0.heap.size + 2) W0.heap.size v n (hd.pb.cell 0) (hd.sb.cell 0) hd.cell).mono ?_
 rintro e w' ⟨h1, m', rfl⟩
 exact ⟨h1, m + m', World.drewN_drewN _ _ _⟩
def LaidR (A : Nat) (W0 : World) (s b : Nat) (O0 : Nat -> Prop) (vars : Nat) (room : Int) (L : List (List UInt8)) (e : Ending) (w' : World) : Prop :=
 (∃ x, laidF vars room L [] [0, 1] = .error x /\ e = .returned (.tuple #[.slice none 0 0, .iface 54 (.int .i64 x)]) /\ ∃ O', Moves O0 O' W0 w') \/
 ∃ (ns : List Nd) (H : List Int) (g c : Nat) (O' : Nat -> Prop), laidF vars room L [] [0, 1] = .ok (ns, H) /\ LayInv vars room ns H /\ e = .returned (.tuple #[.slice (some ⟨g, 0, none⟩) H.length c, .nilIface]) /\ LS A W0 s b O0 O' vars room ns H g c w'
section
variable {A : Nat} {w : World} {s b : Nat} {O : Nat -> Prop} {vars : Nat} {room : Int}
theorem laid_any (hS : SpaceAt A w s b O vars room []) (hv : vars <= 24) (h0 : 0 <= room) (hr : room <= 4000) (hA : A <= w.heap.size) (L : List (List UInt8)) (hLl : L.length <= 50000) (hLb : ∀ p ∈ L, p.length <= 50000) (g o cp : Nat) (hg : g < w.heap.size) (hgO : ¬ O g) (hcell : ∀ j (h : j < L.length), w.cell? ⟨g, o + j, none⟩ = some (strV L[j]))
  (n : Int) (hm : w.cell? ⟨2, 0, none⟩ = some (.int .i64 n)) (hmg : 2 < w.heap.size) (hmO : ¬ O 2) :
  Calls Tryz.prog 55 #[.pointer (some ⟨s, 0, none⟩), .slice (some ⟨g, o, none⟩) L.length cp] w fun e w' => LaidR A w s b O vars room L e w' := by
 have HST := Lib.hid (LS.start hS hA)
 have HIN := Lib.hid (LayInv.start vars h0)
 have HCE := Lib.hid hcell
 have HMX := Lib.hid hm
 have HLB := Lib.hid hLb
 obtain ⟨N, hN⟩ : ∃ N, N = L.length := ⟨_, rfl⟩
 rw [<- hN] at hLl ⊢
 have HN := Lib.hid hN
 clear hcell hm hS hN hLb
 go_enter Tryz.func55, Tryz.ntmps55
 go_wp2_with fail
 go_loopw [21] (fun i wr => ∃ (k : Nat) (ns : List Nd) (H : List Int) (O1 : Nat -> Prop) (g1 c1 : Nat), k <= N /\ i = .int .i64 (k : Int) /\ laidF vars room (L.drop k) ns H = laidF vars room L [] [0, 1] /\ LayInv vars room ns H /\ H.length = k + 2 /\ LS A w s b O O1 vars room ns H g1 c1 wr) (fun i _ => N - (intOf i).toNat)
 case atStart => exact ⟨0, [], [0, 1], O, w.heap.size + 1, 2, Nat.zero_le _, rfl, rfl, HIN.out, rfl, HST.out⟩
 case round =>
  obtain ⟨k, ns, H, O1, g1, c1, hk, rfl, hlf, hinv, hHl, hls⟩ := hrel
  have HLF := Lib.hid hlf
  have HIV := Lib.hid hinv
  have HHL := Lib.hid hHl
  have HLS := Lib.hid hls
  clear HST HIN hlf hinv hHl hls
  by_cases hlt : k < N
  ·have hkL : k < L.length := by have := HN.out; omega
   have cw : wr.cell? ⟨g, o + k, none⟩ = some (strV L[k]) := (HLS.out.old (a := ⟨g, o + k, none⟩) hg hgO).trans (HCE.out k hkL)
   have i1 : (k : Int) < (N : Int) := by omega
   have HTH : Hid (Calls Tryz.prog 88 #[strV L[k]] wr fun e w' => ThreeR L[k] e /\ Below wr.heap.size wr w') := three_any L[k] (HLB.out _ (List.getElem_mem hkL)) n wr ((HLS.out.old (a := ⟨2, 0, none⟩) hmg hmO).trans HMX.out) (Nat.lt_of_lt_of_le hmg HLS.out.moves.size)
   have HDR : Hid (L.drop k = L[k] :: L.drop (k + 1)) := List.drop_eq_getElem_cons hkL
   generalize L[k] = t at *
   go_wp2_with fail
   refine HTH.out.mono ?_
   rintro e w1 ⟨⟨a, b', c', q, rfl, hy1, hy0⟩, hb1⟩
   have hbx := hb1.alloc hb1.size (.cells #[.int .i64 a, .int .i64 b', .int .i64 c'] 152)
   have qb := Blk.new w1 152 #[.int .i64 a, .int .i64 b', .int .i64 c']
   have hxl : w1.heap.size < (w1.alloc (.cells #[.int .i64 a, .int .i64 b', .int .i64 c'] 152)).heap.size := by simp
   have HB1 := Lib.hid hbx
   have HY1 := Lib.hid hy1
   have HY0 := Lib.hid hy0
   have QB := Lib.hid qb
   clear hy1 hy0 hb1 cw HTH hbx qb
   go_wp2_with fail
   obtain ⟨W1, hW1⟩ : ∃ W, W = (w1.alloc (.cells #[.int .i64 a, .int .i64 b', .int .i64 c'] 152)) := ⟨_, rfl⟩
   rw [<- hW1] at HB1 QB hxl
   rw [<- hW1]
   clear hW1
   have S0 : W1.cell? ⟨w1.heap.size, 0, none⟩ = some (.int .i64 a) /\ W1.cell? ⟨w1.heap.size, 1, none⟩ = some (.int .i64 b') /\ W1.cell? ⟨w1.heap.size, 2, none⟩ = some (.int .i64 c') := ⟨QB.out.cell 0, QB.out.cell 1, QB.out.cell 2⟩
   go_region_held3 (fun X => X.cell? ⟨w1.heap.size, 0, none⟩ = some (.int .i64 a) /\ X.cell? ⟨w1.heap.size, 1, none⟩ = some (.int .i64 b') /\ X.cell? ⟨w1.heap.size, 2, none⟩ = some (.int .i64 c')) (exact S0) (fail)
   have HB2 : Hid (Below wr.heap.size wr W1.drew) := HB1.out.drew
   clear S0 QB hxl HB1
   generalize W1.drew = W2 at *
   have HS2 := Lib.hid (HLS.out.new HB2.out)
   clear HLS HB2
   cases q with
   | false =>
    have hx := HY0.out rfl
    have herr : laidF vars room L [] [0, 1] = .error 3 := by
     rw [<- HLF.out, HDR.out, laidF, hx]
    have HER := Lib.hid herr
    clear hx herr HLF HDR HY1 HY0
    go_wp2
    go_ret2
    exact .inl ⟨3, HER.out, rfl, O1, HS2.out.moves⟩
   | true =>
   obtain ⟨v, l, h, rfl, rfl, rfl, h3⟩ := HY1.out rfl
   have hstep := laid_cons (vars := vars) (room := room) (ts := L.drop (k + 1)) (ns := ns) (H := H) h3
   rw [<- HDR.out, HLF.out] at hstep
   have HSTP := Lib.hid hstep
   have hrm := HIV.out.room
   have hle := threeF_le h3
   have HVA : Hid (Calls Tryz.prog 27 #[.pointer (some ⟨s, 0, none⟩)] W2 fun e w' => e = .returned (.int .i64 (vars : Int)) /\ W2 = w') := vars_any HS2.out.space
   have HLE : Hid (∀ (n m : Nat), Calls Tryz.prog 89 #[.int .i64 (v : Int), .int .i64 (n : Int), .pointer (some ⟨w.heap.size + 2, 0, none⟩), .pointer (some ⟨w.heap.size, 0, none⟩)] (W2.drewN m) fun e w' => e = .returned (.bool (decide (n < H.length /\ (v : Int) < topOf ns (H.getD n 0)))) /\ ∃ m', w' = W2.drewN m') := fun n m => HS2.out.leads (by omega) HIV.out.has v n m
   clear hstep HLF HDR HY1 HY0 h3
   obtain ⟨Q, hQ1, hQ2⟩ : ∃ Q : Bool, (Q = true -> ¬ okLine vars ns H v l h) /\ (Q = false -> okLine vars ns H v l h) := by
    by_cases ho : okLine vars ns H v l h
    ·exact ⟨false, (fun e => by cases e), fun _ => ho⟩
    ·exact ⟨true, fun _ => ho, (fun e => by cases e)⟩
   have HQ1 := Lib.hid hQ1
   have HQ2 := Lib.hid hQ2
   clear hQ1 hQ2
   have cs2 : W2.cell? ⟨w.heap.size, 0, none⟩ = some (.pointer (some ⟨s, 0, none⟩)) := HS2.out.sb.cell 0
   go_upto_region 8 with fail
   go_cut [62] (fun q wx => q = .bool Q /\ ∃ m, wx = W2.drewN m)
   case first =>
    by_cases q1 : v < vars
    ·have d1 : decide (vars <= v) = false := decide_eq_false (by omega)
     by_cases q2 : l = h
     ·obtain rfl : Q = true := by
       cases Q with
       | true => rfl
       | false => exact absurd q2 (HQ2.out rfl).2.1
      have d2 : (l == h) = true := by simp [q2]
      have d3 : ((l : Int) == (h : Int)) = true := by simp [q2]
      clear q1 q2 HLE
      go_wp2_with fail
      refine HVA.out.mono ?_
      rintro e wz ⟨rfl, rfl⟩
      go_wp2_with fail
      go_meet
      case rel => exact ⟨rfl, 0, rfl⟩
     ·have d2 : (l == h) = false := by simp; omega
      have d3 : ((l : Int) == (h : Int)) = false := by simp; omega
      by_cases q3 : l < H.length /\ (v : Int) < topOf ns (H.getD l 0)
      ·have HL1 : Hid (∀ (m : Nat), Calls Tryz.prog 89 #[.int .i64 (v : Int), .int .i64 (l : Int), .pointer (some ⟨w.heap.size + 2, 0, none⟩), .pointer (some ⟨w.heap.size, 0, none⟩)] (W2.drewN m) fun e w' => e = .returned (.bool true) /\ ∃ m', w' = W2.drewN m') := fun m => by have := HLE.out l m; rwa [decide_eq_true q3] at this
       by_cases q4 : h < H.length /\ (v : Int) < topOf ns (H.getD h 0)
       ·have HL2 : Hid (∀ (m : Nat), Calls Tryz.prog 89 #[.int .i64 (v : Int), .int .i64 (h : Int), .pointer (some ⟨w.heap.size + 2, 0, none⟩), .pointer (some ⟨w.heap.size, 0, none⟩)] (W2.drewN m) fun e w' => e = .returned (.bool true) /\ ∃ m', w' = W2.drewN m') := fun m => by have := HLE.out h m; rwa [decide_eq_true q4] at this
        obtain rfl : Q = false := by
         cases Q with
         | false => rfl
         | true => exact absurd ⟨q1, q2, q3, q4⟩ (HQ1.out rfl)
        clear q1 q2 q3 q4 HLE
        go_wp2_with fail
        refine HVA.out.mono ?_
        rintro e wz ⟨rfl, rfl⟩
        go_wp2_with fail
        refine (HL1.out 0).mono ?_
        rintro e wz ⟨rfl, m1, rfl⟩
        go_wp2_with fail
        refine (HL2.out m1).mono ?_
        rintro e wz ⟨rfl, m2, rfl⟩
        go_wp2_with fail
        go_meet
        case rel => exact ⟨rfl, m2, rfl⟩
       ·have HL2 : Hid (∀ (m : Nat), Calls Tryz.prog 89 #[.int .i64 (v : Int), .int .i64 (h : Int), .pointer (some ⟨w.heap.size + 2, 0, none⟩), .pointer (some ⟨w.heap.size, 0, none⟩)] (W2.drewN m) fun e w' => e = .returned (.bool false) /\ ∃ m', w' = W2.drewN m') := fun m => by have := HLE.out h m; rwa [decide_eq_false q4] at this
        obtain rfl : Q = true := by
         cases Q with
         | true => rfl
         | false => exact absurd (HQ2.out rfl).2.2.2 q4
        clear q1 q2 q3 q4 HLE
        go_wp2_with fail
        refine HVA.out.mono ?_
        rintro e wz ⟨rfl, rfl⟩
        go_wp2_with fail
        refine (HL1.out 0).mono ?_
        rintro e wz ⟨rfl, m1, rfl⟩
        go_wp2_with fail
        refine (HL2.out m1).mono ?_
        rintro e wz ⟨rfl, m2, rfl⟩
        go_wp2_with fail
        go_meet
        case rel => exact ⟨rfl, m2, rfl⟩
      ·have HL1 : Hid (∀ (m : Nat), Calls Tryz.prog 89 #[.int .i64 (v : Int), .int .i64 (l : Int), .pointer (some ⟨w.heap.size + 2, 0, none⟩), .pointer (some ⟨w.heap.size, 0, none⟩)] (W2.drewN m) fun e w' => e = .returned (.bool false) /\ ∃ m', w' = W2.drewN m') := fun m => by have := HLE.out l m; rwa [decide_eq_false q3] at this
       obtain rfl : Q = true := by
        cases Q with
        | true => rfl
        | false => exact absurd (HQ2.out rfl).2.2.1 q3
       clear q1 q2 q3 HLE
       go_wp2_with fail
       refine HVA.out.mono ?_
       rintro e wz ⟨rfl, rfl⟩
       go_wp2_with fail
       refine (HL1.out 0).mono ?_
       rintro e wz ⟨rfl, m1, rfl⟩
       go_wp2_with fail
       go_meet
       case rel => exact ⟨rfl, m1, rfl⟩
    ·have d1 : decide (vars <= v) = true := decide_eq_true (by omega)
     obtain rfl : Q = true := by
      cases Q with
      | true => rfl
      | false => exact absurd (HQ2.out rfl).1 q1
     clear q1 HLE
     go_wp2_with fail
     refine HVA.out.mono ?_
     rintro e wz ⟨rfl, rfl⟩
     go_wp2_with fail
     go_meet
     case rel => exact ⟨rfl, 0, rfl⟩
   case rest =>
    obtain ⟨rfl, m, hwc⟩ := hcut
    have hls3 : LS A w s b O O1 vars room ns H g1 c1 wc := by rw [hwc]; exact HS2.out.new (below_drewN W2.heap.size W2 m)
    have HS3 := Lib.hid hls3
    clear HS2 hwc hls3 cs2 HLE HVA
    cases Q with
    | true =>
     have HER : Hid (laidF vars room L [] [0, 1] = .error 3) := HSTP.out.1 (HQ1.out rfl)
     clear HSTP HQ1 HQ2 HIV
     go_wp2
     go_ret2
     exact .inl ⟨3, HER.out, rfl, O1, HS3.out.moves⟩
    | false =>
    have ho := HQ2.out rfl
    have HO := Lib.hid ho
    clear HQ1 HQ2
    have hok := ho.ok hv HIV.out.has (by omega)
    have hft := ho.fit hv HIV.out.has
    have hll := ho.2.2.1.1
    have hlh := ho.2.2.2.1
    have HMK : Hid (∀ X, Below wc.heap.size wc X -> Calls Tryz.prog 90 #[.pointer (some ⟨b, 0, none⟩), .agg #[.int .i64 (v : Int), .int .i64 (H.getD l 0), .int .i64 (H.getD h 0)]] X fun e w' => (idx ns (ndOf H v l h) < ns.length \/ (ns.length : Int) < room -> e = .returned (.tuple #[.int .i64 (makeF ns (ndOf H v l h)).2, .nilIface]) /\ ∃ O', SpaceAt A w' s b O' vars room (makeF ns (ndOf H v l h)).1 /\ Moves O1 O' X w') /\ (¬ (idx ns (ndOf H v l h) < ns.length \/ (ns.length : Int) < room) -> e = .returned (.tuple #[.int .i64 0, .iface 54 (.int .i64 12)]) /\ Below X.heap.size X w')) := fun X hX => lmake_any (HS3.out.space.new hX) HIV.out.full (by omega) (Nat.le_trans hA (Nat.le_trans HS3.out.moves.size hX.size)) (ndOf H v l h) hok hft
    have s0 : wc.cell? ⟨w.heap.size, 0, none⟩ = some (.pointer (some ⟨s, 0, none⟩)) := HS3.out.sb.cell 0
    have s1 : wc.cell? ⟨s, 0, none⟩ = some (.pointer (some ⟨b, 0, none⟩)) := HS3.out.space.c0
    have s2 : wc.cell? ⟨w.heap.size + 2, 0, none⟩ = some (.slice (some ⟨g1, 0, none⟩) H.length c1) := HS3.out.pb.cell 0
    have s3 : wc.cell? ⟨g1, l, none⟩ = some (.int .i64 (H.getD l 0)) := by
     rw [HS3.out.cell l hll]; simp [List.getD_eq_getElem?_getD, hll]
    have s4 : wc.cell? ⟨g1, h, none⟩ = some (.int .i64 (H.getD h 0)) := by
     rw [HS3.out.cell h hlh]; simp [List.getD_eq_getElem?_getD, hlh]
    have S0 : wc.cell? ⟨w.heap.size, 0, none⟩ = some (.pointer (some ⟨s, 0, none⟩)) /\ wc.cell? ⟨s, 0, none⟩ = some (.pointer (some ⟨b, 0, none⟩)) /\ wc.cell? ⟨w.heap.size + 2, 0, none⟩ = some (.slice (some ⟨g1, 0, none⟩) H.length c1) /\ wc.cell? ⟨g1, l, none⟩ = some (.int .i64 (H.getD l 0)) /\ wc.cell? ⟨g1, h, none⟩ = some (.int .i64 (H.getD h 0)) := ⟨s0, s1, s2, s3, s4⟩
    have SS : Hid (∀ O' X w', Below wc.heap.size wc X -> Moves O1 O' X w' -> w'.cell? ⟨w.heap.size, 0, none⟩ = some (.pointer (some ⟨s, 0, none⟩)) /\ w'.cell? ⟨s, 0, none⟩ = some (.pointer (some ⟨b, 0, none⟩)) /\ w'.cell? ⟨w.heap.size + 2, 0, none⟩ = some (.slice (some ⟨g1, 0, none⟩) H.length c1) /\ w'.cell? ⟨g1, l, none⟩ = some (.int .i64 (H.getD l 0)) /\ w'.cell? ⟨g1, h, none⟩ = some (.int .i64 (H.getD h 0))) := fun O' X w' hX hM => by
     have hm := (Moves.of_below O1 hX).trans hM
     exact ⟨(hm.cell (a := ⟨w.heap.size, 0, none⟩) HS3.out.sb.lt HS3.out.o0).trans s0, (hm.cell (a := ⟨s, 0, none⟩) HS3.out.space.slt HS3.out.space.sO).trans s1, (hm.cell (a := ⟨w.heap.size + 2, 0, none⟩) HS3.out.pb.lt HS3.out.o2).trans s2, (hm.cell (a := ⟨g1, l, none⟩) HS3.out.glt.2 HS3.out.og).trans s3, (hm.cell (a := ⟨g1, h, none⟩) HS3.out.glt.2 HS3.out.og).trans s4⟩
    have i2 : (l : Int) < (H.length : Int) := by omega
    have i3 : (h : Int) < (H.length : Int) := by omega
    clear s0 s1 s2 s3 s4 hok hft ho
    by_cases hq : idx ns (ndOf H v l h) < ns.length \/ (ns.length : Int) < room
    ·have hlf2 := HSTP.out.2.2 HO.out hq
     have hinv2 := HIV.out.step hv hr HO.out hq
     have HMF : Hid (∀ X, Below wc.heap.size wc X -> Calls Tryz.prog 90 #[.pointer (some ⟨b, 0, none⟩), .agg #[.int .i64 (v : Int), .int .i64 (H.getD l 0), .int .i64 (H.getD h 0)]] X fun e w' => e = .returned (.tuple #[.int .i64 (makeF ns (ndOf H v l h)).2, .nilIface]) /\ ∃ O', SpaceAt A w' s b O' vars room (makeF ns (ndOf H v l h)).1 /\ Moves O1 O' X w') := fun X hX => (HMK.out X hX).mono fun e w' h => h.1 hq
     have hhx : hasB (makeF ns (ndOf H v l h)).1 (makeF ns (ndOf H v l h)).2 = true := hinv2.has _ (by simp)
     have hix : I64 (makeF ns (ndOf H v l h)).2 := has_i64 hhx (by have := hinv2.room; omega)
     obtain ⟨ix1, ix2⟩ := hix
     generalize makeF ns (ndOf H v l h) = mk at *
     obtain ⟨ns2, x⟩ := mk
     simp only at hlf2 hinv2 HMF ix1 ix2
     have HLF2 := Lib.hid hlf2
     have HIV2 := Lib.hid hinv2
     clear HMK hq HSTP HO HIV hlf2 hinv2 hhx hrm
     generalize H.getD l 0 = xl at *
     generalize H.getD h 0 = xh at *
     obtain ⟨HL, hHLe⟩ : ∃ HL, HL = H.length := ⟨_, rfl⟩
     rw [<- hHLe] at S0 SS i2 i3
     have HHE := Lib.hid hHLe
     clear hHLe
     go_upto_region 10 with fail
     go_region_held3 (fun X => X.cell? ⟨w.heap.size, 0, none⟩ = some (.pointer (some ⟨s, 0, none⟩)) /\ X.cell? ⟨s, 0, none⟩ = some (.pointer (some ⟨b, 0, none⟩)) /\ X.cell? ⟨w.heap.size + 2, 0, none⟩ = some (.slice (some ⟨g1, 0, none⟩) HL c1) /\ X.cell? ⟨g1, l, none⟩ = some (.int .i64 xl) /\ X.cell? ⟨g1, h, none⟩ = some (.int .i64 xh)) (first | exact S0 | exact hsk)
      (first
       | (go_at_call 90; with_reducible refine (HMF.out _ (Below.refl _ _).drew).mono ?_; rintro e w4 ⟨rfl, O4, hs4, mv4⟩; have hsk := SS.out O4 _ _ (Below.refl _ _).drew mv4))
     have HS4 := Lib.hid (HS3.out.moved hs4 ((Moves.of_below O1 (Below.refl wc.heap.size wc).drew).trans mv4))
     clear hsk hs4 mv4 SS S0 HS3
     obtain ⟨i0, hin, hz0, hz1, hz2⟩ := info_parts infoInt
     have c6 : w4.cell? ⟨w.heap.size + 2, 0, none⟩ = some (.slice (some ⟨g1, 0, none⟩) HL c1) := by rw [HHE.out]; exact HS4.out.pb.cell 0
     have HRC : Hid (w4.ownsRow w.heap.size 3 1 (.slice (some ⟨g1, 0, none⟩) HL c1) HL (icells H)) := by
      show World.ownsRow _ _ _ _ _ _ _
      rw [HHE.out]; exact HS4.out.row
     have hsw := HS4.out.moves.size
     have hHL2 : HL <= 60000 := by have := HHE.out; have := HHL.out; omega
     go_wp2_with (at_builtin; refine wpList_append_own_at _ rfl _ _ 24 rfl w.heap.size 3 i0 (.int .i64 0) 1 8 Tryz.underlying24 hin hz0 hz1 hz2 rfl (by decide) _ _ _ rfl (HRC.out.alloc _) ⟨w4.heap.size, 0, none⟩ 1 1 [.int .i64 x] rfl rfl ?c1 ?c2 ?c3 ?c4 ?c5 ?_)
     case c1 => exact cell_one_new _ _ _
     case c2 => intro u hu; simp at hu; subst hu; rfl
     case c3 => unfold maxLen; omega
     case c4 => omega
     case c5 => show w.heap.size <= (World.alloc _ _).heap.size; simp; omega
     intro v7 w7 hown7 hgrow7 _ hloc7
     have hk7 : Kept (fun j => (Value.slice (some ⟨g1, 0, none⟩) HL c1).ownBlock = some j) w4 w7 := (Kept.alloc _ w4 _).andThen (Kept.of_grown hgrow7 (fun i h => h)) (fun i h _ => h)
     have hic : icells (H ++ [x]) = icells H ++ [.int .i64 x] := by simp [icells]
     have hl7 : (H ++ [x]).length = HL + 1 := by rw [HHE.out]; simp
     obtain ⟨g7, c7, rfl, hg7, hg7b⟩ : ∃ g7 c7, v7 = .slice (some ⟨g7, 0, none⟩) (HL + 1) c7 /\ g7 < w7.heap.size /\ (g7 = g1 \/ w4.heap.size <= g7) := by
      rcases hown7.2 with ⟨-, h2⟩ | ⟨gg, cpp, cur, h2, h3, h4, -⟩
      ·omega
      ·refine ⟨_, _, h2, (Array.getElem?_eq_some_iff.1 h4).1, ?_⟩
       subst h2
       rcases hloc7 with h | h
       ·left; simpa [Value.ownBlock] using h
       ·right
        have e5 : gg = (w4.alloc (.cells #[.int .i64 x] 3)).heap.size := by simpa [Value.ownBlock] using h
        rw [e5, World.size_alloc]; omega
     rw [<- hic, <- hl7] at hown7
     have hr1 := HS4.out.glt
     have hs7 := HS4.out.space.kept hk7 (fun j ho hj => by
      have : g1 = j := by simpa [Value.ownBlock] using hj
      subst this; exact HS4.out.og ho) (fun hj => by
      have : g1 = s := by simpa [Value.ownBlock] using hj
      have := HS4.out.ss
      omega)
     have hm7 : Moves O O4 w w7 := ⟨HS4.out.moves.kept.andThen hk7 (fun i hi hlt => by
      have : g1 = i := by simpa [Value.ownBlock] using hi
      omega), HS4.out.moves.own⟩
     have hb0 : Blk w7 w.heap.size 23 #[.pointer (some ⟨s, 0, none⟩)] := (hk7.block _ HS4.out.sb.lt (fun e => by
      have e6 : g1 = w.heap.size := by simpa [Value.ownBlock] using e
      exact HS4.out.n0 e6)).trans HS4.out.sb
     have hb2 : Blk w7 (w.heap.size + 2) 24 #[.slice (some ⟨g1, 0, none⟩) H.length c1] := (hk7.block _ HS4.out.pb.lt (fun e => by
      have e6 : g1 = w.heap.size + 2 := by simpa [Value.ownBlock] using e
      exact HS4.out.n2 e6)).trans HS4.out.pb
     have h2lt := HS4.out.pb.lt
     have n70 : g7 ≠ w.heap.size := by
      rcases hg7b with e | e
      ·rw [e]; exact HS4.out.n0
      ·omega
     have n72 : g7 ≠ w.heap.size + 2 := by
      rcases hg7b with e | e
      ·rw [e]; exact HS4.out.n2
      ·omega
     have og7 : ¬ O4 g7 := by
      rcases hg7b with e | e
      ·rw [e]; exact HS4.out.og
      ·exact fun ho => by have := (HS4.out.space.own g7 ho).2; omega
     have o2 := HS4.out.o2
     have o0 := HS4.out.o0
     have hss := HS4.out.ss
     have n02 : w.heap.size ≠ w.heap.size + 2 := by omega
     have hkS : Kept (fun j => j = w.heap.size + 2) w7 (w7.setCell ⟨w.heap.size + 2, 0, none⟩ (.slice (some ⟨g7, 0, none⟩) (HL + 1) c7)) := Kept.setCell w7 ⟨w.heap.size + 2, 0, none⟩ _ rfl
     have hLS8 : LS A w s b O O4 vars room ns2 (H ++ [x]) g7 c7 (w7.setCell ⟨w.heap.size + 2, 0, none⟩ (.slice (some ⟨g7, 0, none⟩) (HL + 1) c7)) := by
      refine ⟨hs7.kept hkS (fun j ho hj => by subst hj; exact o2 ho) (fun e => by omega), ⟨hm7.kept.andThen hkS (fun i hi hlt => by omega), hm7.own⟩, ?_, hb0.other n02, ?_, o0, o2, og7, n70, n72, hss⟩
      ·rw [hl7]
       refine ownsRow_kept (by rw [hl7] at hown7; exact hown7) hkS (fun j hj e => ?_)
       have : g7 = j := by simpa [Value.ownBlock] using hj
       subst this; exact n72 e
      ·rw [hl7]
       exact hb2.set (i := 0) (v := .slice (some ⟨g7, 0, none⟩) (HL + 1) c7)
     have HLS8 := Lib.hid hLS8
     have c7c : w7.cell? ⟨w.heap.size + 2, 0, none⟩ = some (.slice (some ⟨g1, 0, none⟩) H.length c1) := hb2.cell 0
     have f7c := hb2.frozen 0
     have HH8 : Hid ((H ++ [x]).length = k + 1 + 2) := by
      show _ = _
      have := HHE.out; have := HHL.out; omega
     clear hLS8 hkS n02 hss o0 o2 og7 n72 n70 h2lt hb2 hb0 hm7 hs7 hr1 hown7 hgrow7 hloc7 hk7 hic hl7 hg7 hg7b HRC HS4 HHE HHL
     go_wp2
     go_roundw
     case rel => first | exact ⟨k + 1, ns2, H ++ [x], O4, g7, c7, by omega, by go_num, HLF2.out.symm, HIV2.out, HH8.out, HLS8.out⟩ | ((repeat apply Exists.intro); exact ⟨⟨k + 1, ns2, H ++ [x], O4, g7, c7, by omega, by go_num, HLF2.out.symm, HIV2.out, HH8.out, HLS8.out⟩, rfl⟩)
     case measure => simp [intOf]; omega
    ·have HER : Hid (laidF vars room L [] [0, 1] = .error 12) := HSTP.out.2.1 HO.out hq
     have HMF : Hid (∀ X, Below wc.heap.size wc X -> Calls Tryz.prog 90 #[.pointer (some ⟨b, 0, none⟩), .agg #[.int .i64 (v : Int), .int .i64 (H.getD l 0), .int .i64 (H.getD h 0)]] X fun e w' => e = .returned (.tuple #[.int .i64 0, .iface 54 (.int .i64 12)]) /\ Below X.heap.size X w') := fun X hX => (HMK.out X hX).mono fun e w' h => h.2 hq
     clear HMK hq HSTP HO HIV
     generalize H.getD l 0 = xl at *
     generalize H.getD h 0 = xh at *
     generalize hHL : H.length = HL at *
     go_upto_region 10 with fail
     go_region_held3 (fun X => X.cell? ⟨w.heap.size, 0, none⟩ = some (.pointer (some ⟨s, 0, none⟩)) /\ X.cell? ⟨s, 0, none⟩ = some (.pointer (some ⟨b, 0, none⟩)) /\ X.cell? ⟨w.heap.size + 2, 0, none⟩ = some (.slice (some ⟨g1, 0, none⟩) HL c1) /\ X.cell? ⟨g1, l, none⟩ = some (.int .i64 xl) /\ X.cell? ⟨g1, h, none⟩ = some (.int .i64 xh)) (first | exact S0 | exact hsk)
      (first
       | (go_at_call 90; with_reducible refine (HMF.out _ (Below.refl _ _).drew).mono ?_; rintro e w4 ⟨rfl, hb4⟩; have hsk := SS.out O1 _ _ (Below.refl _ _).drew (Moves.of_below O1 hb4)))
     have HMV : Hid (Moves O O1 w w4) := HS3.out.moves.trans (Moves.of_below O1 ((Below.refl wc.heap.size wc).drew.trans (hb4.mono (Nat.le_refl _))))
     clear hsk hb4 SS S0 HS3
     go_wp2
     go_ret2
     exact .inl ⟨12, HER.out, rfl, O1, HMV.out⟩
  ·obtain rfl : k = N := by omega
   have hend : laidF vars room L [] [0, 1] = .ok (ns, H) := by
    rw [<- HLF.out, List.drop_of_length_le (by rw [HN.out]; exact Nat.le_refl _)]; rfl
   have HEN := Lib.hid hend
   have c6 : wr.cell? ⟨w.heap.size + 2, 0, none⟩ = some (.slice (some ⟨g1, 0, none⟩) H.length c1) := HLS.out.pb.cell 0
   clear hend
   go_wp2
   go_ret2
   exact .inr ⟨ns, H, g1, c1, O1, HEN.out, HIV.out, rfl, HLS.out⟩
end
end Go.Proofs.YtcjjekhecjmaeaaGreatDoor
