/- An arena as it lies in memory; Top, Has, Get, Len. -/
import Derived.Test.YtcjjekhecjmaeaaGreatDoorCnBase
import Derived.Test.YtcjjekhecjmaeaaGreatDoorCnOf
import Derived.WalkKit
import Derived.RangeFuncBound
import Derived.Test.YtcjjekhecjmaeaaGreatDoorArBase
set_option maxHeartbeats 1000000
set_option maxRecDepth 100000
namespace Go.Proofs.YtcjjekhecjmaeaaGreatDoor
section
open Go.RowKit Num Go.Sort
theorem cmp_any (va vb : Value) (a b : List Nat) (w : World) (ha : Dig .u64 w va a) (hb : Dig .u64 w vb b) (na : ∀ i, dig a i < 1000000000) (nb : ∀ i, dig b i < 1000000000) (la : a.length <= 10000) (lb : b.length <= 10000) :
  Calls Tryz.prog 29 #[.agg #[va], .agg #[vb]] w fun e w' => e = .returned (.int .i64 (cmpN (val 1000000000 a) (val 1000000000 b))) /\ Below w.heap.size w w' := by
 obtain ⟨aa, ca, eva, hca, hcella⟩ := id ha
 obtain ⟨ab, cb, evb, hcb, hcellb⟩ := id hb
 subst eva evb
 clear hcella hcellb hca hcb
 obtain ⟨n, hn, hna, hnb, hln⟩ : ∃ n : Nat, max (a.length : Int) (b.length : Int) = (n : Int) /\ a.length <= n /\ b.length <= n /\ n <= 10000 := ⟨max a.length b.length, by omega, by omega, by omega, by omega⟩
 go_enter Tryz.func29, Tryz.ntmps29
 go_wp2_with fail
 clear hn
 go_loopw [17] (fun i wr => ∃ k : Nat, k <= n /\ i = .int .i64 k /\ (∀ j, n - k <= j -> j < n -> dig a j = dig b j) /\ Below (w.heap.size + 2) ((w.alloc (.cells #[.slice aa a.length ca] 30)).alloc (.cells #[.slice ab b.length cb] 30)) wr)
   (fun i _ => n - (intOf i).toNat)
 case atStart => exact ⟨0, Nat.zero_le _, rfl, fun j h1 h2 => by omega, Below.refl _ _⟩
 case round =>
  obtain ⟨k, hk, rfl, heq, hbel⟩ := hrel
  have HE : Hid (∀ j, n - k <= j -> j < n -> dig a j = dig b j) := heq
  clear heq
  have hbw : Below w.heap.size w wr := (((Below.refl _ _).alloc (Nat.le_refl _) _).alloc (by simp) _).trans (hbel.mono (by omega))
  by_cases hlt : k < n
  ·have c0 : wr.cell? ⟨w.heap.size, 0, none⟩ = some (.slice aa a.length ca) := (hbel.cell (p := ⟨w.heap.size, 0, none⟩) (by simp)).trans (by simp)
   have c1 : wr.cell? ⟨w.heap.size + 1, 0, none⟩ = some (.slice ab b.length cb) := (hbel.cell (p := ⟨w.heap.size + 1, 0, none⟩) (by simp)).trans (by simp)
   have k0 := cell_regrown c0
   have k1 := cell_regrown c1
   have cA : ∀ d os, Calls Tryz.prog 60 #[.agg #[.slice aa a.length ca], .int .i64 ((n : Int) - 1 - k)] (grow (redrawn wr d) os) fun e w'' => e = .returned (.int .u64 ((dig a (n - 1 - k) : Nat) : Int)) /\ ∃ p : Regrown, w'' = grow (redrawn wr p.d) p.os := fun d os => by
    have := digit_int _ a ((n : Int) - 1 - k) (grow (redrawn wr d) os) (ha.below (hbw.trans ((below_regrown wr d os).mono hbw.size))) (by omega) (by omega) (by omega)
    rw [show ((n : Int) - 1 - k).toNat = n - 1 - k by omega] at this
    exact Calls.regrown_of this
   have cB : ∀ d os, Calls Tryz.prog 60 #[.agg #[.slice ab b.length cb], .int .i64 ((n : Int) - 1 - k)] (grow (redrawn wr d) os) fun e w'' => e = .returned (.int .u64 ((dig b (n - 1 - k) : Nat) : Int)) /\ ∃ p : Regrown, w'' = grow (redrawn wr p.d) p.os := fun d os => by
    have := digit_int _ b ((n : Int) - 1 - k) (grow (redrawn wr d) os) (hb.below (hbw.trans ((below_regrown wr d os).mono hbw.size))) (by omega) (by omega) (by omega)
    rw [show ((n : Int) - 1 - k).toNat = n - 1 - k by omega] at this
    exact Calls.regrown_of this
   have hx := na (n - 1 - k)
   have hy := nb (n - 1 - k)
   have hlt' : (k : Int) < n := by omega
   have e1 : IntKind.i64.wrap ((n : Int) - 1) = (n : Int) - 1 := w64 (by omega) (by omega)
   have e2 : IntKind.i64.wrap ((n : Int) - 1 - k) = (n : Int) - 1 - k := w64 (by omega) (by omega)
   go_wp2_with fail
   refine wp_region_quiet_below mixed (by kernel_rfl) ?_
   repeat (quiet_step (first | (go_at_call_of 60 aa; exact cA _ _) | (go_at_call_of 60 ab; exact cB _ _)))
   refine wpQuiet_nil ?_
   intro _ hw'
   obtain ⟨⟨dq, osq⟩, hw''⟩ := hw'
   subst hw''
   clear cA cB k0 k1
   have hgr : Below w.heap.size w (grow (redrawn wr dq) osq) := hbw.trans ((below_regrown wr dq osq).mono hbw.size)
   generalize hdx : dig a (n - 1 - k) = x at *
   generalize hdy : dig b (n - 1 - k) = y at *
   have HX : Hid (dig a (n - 1 - k) = x) := hdx
   have HY : Hid (dig b (n - 1 - k) = y) := hdy
   clear hdx hdy
   go_wp2
   ·go_ret
    refine ⟨ret_int ?_, hgr⟩
    have hxy : x < y := by assumption
    exact (cmpN_lt (cmp_lt na hna hnb (t := n - 1 - k) (by omega) (by rw [HX.out, HY.out]; exact hxy) (fun i h1 h2 => HE.out i (by omega) h2))).symm
   ·go_ret
    refine ⟨ret_int ?_, hgr⟩
    have hxy : y < x := by assumption
    exact (cmpN_gt (cmp_lt nb hnb hna (t := n - 1 - k) (by omega) (by rw [HX.out, HY.out]; exact hxy) (fun i h1 h2 => (HE.out i (by omega) h2).symm))).symm
   ·go_roundw
    case rel =>
     refine ⟨k + 1, by omega, by go_num, fun j h1 h2 => ?_, hbel.trans ((below_regrown wr dq osq).mono (by have := hbel.size; simpa using this))⟩
     by_cases hj : j = n - 1 - k
     ·rw [hj, HX.out, HY.out]; omega
     ·exact HE.out j (by omega) h2
    case measure => simp [intOf]; omega
  ·obtain rfl : k = n := by omega
   go_wp2
   go_ret
   refine ⟨ret_int ?_, hbw⟩
   rw [cmp_eq hna hnb (fun i h => HE.out i (by omega) h), cmpN_eq]
end
section
open Go.RowKit Num Go.Sort
theorem fits_cmp {v v1 : Value} {a ds1 : List Nat} {w W : World} (ha : Dig .u64 w v a) (na : ∀ i, dig a i < 1000000000) (la : a.length <= 10000) (hd1 : Dig .u64 W v1 ds1) (hn1 : Norm 1000000000 ds1) (hv1 : val 1000000000 ds1 = 9223372036854775807) (hb : Below w.heap.size w W) :
  Calls Tryz.prog 29 #[.agg #[v], .agg #[v1]] W fun e w' => e = .returned (.int .i64 (cmpN (val 1000000000 a) 9223372036854775807)) /\ Below W.heap.size W w' := by
 have h3 : ds1.length <= 3 := norm_len (by omega) hn1 (by rw [hv1]; omega)
 have := cmp_any v v1 a ds1 W (ha.below hb) hd1 na hn1.small la (by omega)
 rwa [hv1] at this
theorem fits_any (v : Value) (a : List Nat) (w : World) (ha : Dig .u64 w v a) (na : ∀ i, dig a i < 1000000000) (la : a.length <= 10000) :
  Calls Tryz.prog 161 #[.agg #[v]] w fun e w' => (val 1000000000 a <= 9223372036854775807 -> e = .returned (.tuple #[.int .i64 (val 1000000000 a : Nat), .bool true])) /\ (9223372036854775807 < val 1000000000 a -> e = .returned (.tuple #[.int .i64 0, .bool false])) /\ Below w.heap.size w w' := by
 obtain ⟨aa, ca, eva, hca, hcella⟩ := id ha
 subst eva
 go_enter Tryz.func161, Tryz.ntmps161
 go_upto_region 1 with fail
 go_cut [10] (fun c wx => c = .bool (decide (9223372036854775807 < val 1000000000 a)) /\ Below (w.heap.size + 1) (w.alloc (.cells #[.slice aa a.length ca] 30)) wx)
 case first =>
  go_region_with (first
   | (go_at_call 108; refine (of_any _ _ (by omega) (by omega)).mono ?_; rintro e w1 ⟨v1, rfl, ds1, hd1, hn1, hv1, hb1⟩; have hbw : Below w.heap.size w w1 := (((Below.refl _ _).alloc (Nat.le_refl _) _).drew).trans (hb1.mono (by simp)); have hc1 : w1.cell? ⟨w.heap.size, 0, none⟩ = some (.slice aa a.length ca) := (hb1.cell (p := ⟨w.heap.size, 0, none⟩) (by simp)).trans (by simp))
   | (go_at_call 29; refine (fits_cmp ha na la hd1 hn1 hv1 hbw).mono ?_; rintro e w2 ⟨rfl, hb2⟩; have hbx : Below (w.heap.size + 1) (w.alloc (.cells #[.slice aa a.length ca] 30)) w2 := ((Below.refl _ _).drew.trans (hb1.mono (by simp))).trans (hb2.mono (by have := hb1.size; simp at this; omega))))
  all_goals
   go_wp2_with fail
   go_meet
   case rel => exact ⟨congrArg Value.bool (cmpN_pos _ _), hbx⟩
 case rest =>
  obtain ⟨rfl, hbel⟩ := hcut
  have hbw : Below w.heap.size w wc := ((Below.refl _ _).alloc (Nat.le_refl _) _).trans (hbel.mono (by omega))
  by_cases hbig : 9223372036854775807 < val 1000000000 a
  ·have hd : decide (9223372036854775807 < val 1000000000 a) = true := by simp [hbig]
   rw [hd]
   have HB : Hid (9223372036854775807 < val 1000000000 a) := hbig
   clear hd hbig
   go_wp2
   go_ret2
   exact ⟨fun h => by have := HB.out; omega, fun _ => rfl, hbw⟩
  ·have hd : decide (9223372036854775807 < val 1000000000 a) = false := by simp [hbig]
   rw [hd]
   have HB : Hid (val 1000000000 a <= 9223372036854775807) := by show _ <= _; omega
   clear hd hbig
   have c0 : wc.cell? ⟨w.heap.size, 0, none⟩ = some (.slice aa a.length ca) := (hbel.cell (p := ⟨w.heap.size, 0, none⟩) (by simp)).trans (by simp)
   go_wp2_with fail
   go_loop [5, 15] (fun o i => ∃ k t : Nat, k <= a.length /\ i = .int .i64 k /\ o = .int .i64 t /\ val 1000000000 a = t * 1000000000 ^ (a.length - k) + S 1000000000 (dig a) (a.length - k)) (fun _ i => a.length - (intOf i).toNat)
   case atStart => exact ⟨0, 0, Nat.zero_le _, rfl, rfl, by simp [val]⟩
   case round =>
    obtain ⟨k, t, hk, rfl, rfl, hval⟩ := hrel
    by_cases hlt : k < a.length
    ·obtain ⟨b, off, haa, hbb, hcl⟩ := hcella (a.length - 1 - k) (by omega)
     subst haa
     have hcl' : wc.cell? ⟨b, off + (a.length - 1 - k), none⟩ = some (.int .u64 ((dig a (a.length - 1 - k) : Nat) : Int)) := (hbw.cell (p := ⟨b, off + (a.length - 1 - k), none⟩) hbb).trans hcl
     have hval2 := hval
     rw [show a.length - k = (a.length - 1 - k) + 1 by omega] at hval2
     have hst := fits_step hval2
     have hle := fits_le (by omega) hst
     have HV := HB.out
     have hdd := na (a.length - 1 - k)
     have HS : Hid (val 1000000000 a = (t * 1000000000 + dig a (a.length - 1 - k)) * 1000000000 ^ (a.length - 1 - k) + S 1000000000 (dig a) (a.length - 1 - k)) := hst
     have hle2 : t * 1000000000 + dig a (a.length - 1 - k) <= 9223372036854775807 := by omega
     clear hst hval2 hval hcl hle HV
     have e1 : ((a.length : Int) - 1 - k).toNat = a.length - 1 - k := by omega
     generalize hD : dig a (a.length - 1 - k) = D at *
     have HD : Hid (dig a (a.length - 1 - k) = D) := hD
     clear hD
     go_wp2
     go_round
     case rel =>
      refine ⟨k + 1, t * 1000000000 + D, by omega, by go_num, by go_num, ?_⟩
      rw [show a.length - (k + 1) = a.length - 1 - k by omega]
      exact HS.out
     case measure => simp [intOf]; omega
    ·obtain rfl : k = a.length := by omega
     have HT : Hid (val 1000000000 a = t) := by show _ = _; simpa [S] using hval
     clear hval
     go_wp2
     go_ret2
     refine ⟨fun _ => ?_, fun h => by have := HB.out; omega, hbw⟩
     rw [HT.out]
     rfl
end
section
open Go.RowKit
def Blk (W : World) (b : Nat) (t : TypeId) (cs : Array Value) : Prop := W.heap[b]? = some (.cells cs t (0, 0))
theorem Blk.lt {W : World} {b : Nat} {t : TypeId} {cs : Array Value} (h : Blk W b t cs) : b < W.heap.size := (Array.getElem?_eq_some_iff.1 h).1
theorem Blk.cell {W : World} {b : Nat} {t : TypeId} {cs : Array Value} (h : Blk W b t cs) (i : Nat) : W.cell? ⟨b, i, none⟩ = cs[i]? := by
 simp [World.cell?, show W.heap[b]? = _ from h]
theorem Blk.frozen {W : World} {b : Nat} {t : TypeId} {cs : Array Value} (h : Blk W b t cs) (i : Nat) : W.frozen? ⟨b, i, none⟩ = false := by simp [World.frozen?, show W.heap[b]? = _ from h]
theorem Blk.new (W : World) (t : TypeId) (cs : Array Value) : Blk (W.alloc (.cells cs t)) W.heap.size t cs := World.alloc_heap_new W _
theorem Blk.kept {W W' : World} {row : Option Nat} {b : Nat} {t : TypeId} {cs : Array Value} (h : Blk W b t cs) (hg : W.grownBy W' row) (hne : some b ≠ row) : Blk W' b t cs := (hg.block b h.lt hne).trans h
theorem Blk.alloc {W : World} {b : Nat} {t : TypeId} {cs : Array Value} (h : Blk W b t cs) (o : Obj) : Blk (W.alloc o) b t cs := h.kept (World.grownBy_alloc W o none) (by simp)
theorem Blk.below {B : Nat} {W W' : World} {b : Nat} {t : TypeId} {cs : Array Value} (h : Blk W b t cs) (hb : Below B W W') (hB : b < B) : Blk W' b t cs := (hb.block b hB).trans h
theorem Blk.other {W : World} {b b' i : Nat} {t : TypeId} {cs : Array Value} {v : Value} (h : Blk W b t cs) (hne : b ≠ b') : Blk (W.setCell ⟨b', i, none⟩ v) b t cs := (Below.heap_setCell _ _ _ b hne).trans h
theorem Blk.put {W : World} {b l : Nat} {t : TypeId} {cs : Array Value} {o' : Obj} (h : Blk W b t cs) (hne : b ≠ l) : Blk (W.putObj l o') b t cs := (World.putObj_heap_other hne).trans h
theorem Blk.set {W : World} {b i : Nat} {t : TypeId} {cs : Array Value} {v : Value} (h : Blk W b t cs) : Blk (W.setCell ⟨b, i, none⟩ v) b t (cs.setIfInBounds i v) := by
 obtain ⟨hlt, hk⟩ := Array.getElem?_eq_some_iff.1 h
 show (W.heap.modify b _)[b]? = _
 rw [Array.getElem?_eq_getElem (by rw [Array.size_modify]; exact hlt), Array.getElem_modify_self, hk]
 rfl
theorem Blk.drew {W : World} {b : Nat} {t : TypeId} {cs : Array Value} (h : Blk W b t cs) : Blk W.drew b t cs := h
end
section
open Go.RowKit Go.Maps
def ncells (ns : List Nd) : List Value := ns.flatMap fun n => [.int .i64 n.v, .int .i64 n.l, .int .i64 n.h]
def nd (ns : List Nd) (i : Nat) : Nd := ns.getD i ⟨0, 0, 0⟩
theorem nd_at (ns : List Nd) (i : Nat) (h : i < ns.length) : nd ns i = ns[i] := by unfold nd; simp [List.getD_eq_getElem?_getD, List.getElem?_eq_getElem h]
theorem ncells_append (a b : List Nd) : ncells (a ++ b) = ncells a ++ ncells b := by simp [ncells]
theorem ncells_at : ∀ (ns : List Nd) (i : Nat), i < ns.length -> (ncells ns)[i * 3]? = some (.int .i64 (nd ns i).v) /\ (ncells ns)[i * 3 + 1]? = some (.int .i64 (nd ns i).l) /\ (ncells ns)[i * 3 + 2]? = some (.int .i64 (nd ns i).h)
 | [], i, h => by simp at h
 | n :: ns, 0, _ => by simp [ncells, nd]
 | n :: ns, i + 1, h => by
  have ih := ncells_at ns i (by simpa using h)
  have e : nd (n :: ns) (i + 1) = nd ns i := by simp [nd]
  rw [e]
  have e2 : ∀ j, (ncells (n :: ns))[j + 3]? = (ncells ns)[j]? := fun j => by
   show ([Value.int .i64 n.v, .int .i64 n.l, .int .i64 n.h] ++ ncells ns)[j + 3]? = _
   rw [List.getElem?_append_right (by simp)]; simp
  rw [show (i + 1) * 3 = i * 3 + 3 by omega, show i * 3 + 3 + 1 = (i * 3 + 1) + 3 by omega, show i * 3 + 3 + 2 = (i * 3 + 2) + 3 by omega, e2, e2, e2]
  exact ih
def Own (b bm : Nat) (v : Value) (k : Nat) : Prop := k = b \/ k = bm \/ v.ownBlock = some k
structure ArenaAt (B : Nat) (w : World) (b bm : Nat) (v : Value) (ns : List Nd) (L : List (Nd × Int)) (room next : Int) : Prop where
 lt : b < w.heap.size
 croom : w.cell? ⟨b, 0, none⟩ = some (.int .i64 room)
 cnodes : w.cell? ⟨b, 1, none⟩ = some v
 cmap : w.cell? ⟨b, 2, none⟩ = some (.map (some bm))
 cnext : w.cell? ⟨b, 3, none⟩ = some (.int .i64 next)
 froz : ∀ i, w.frozen? ⟨b, i, none⟩ = false
 row : w.ownsRow B 102 3 v ns.length (ncells ns)
 hmap : ∃ D, w.ownsMap Tryz.prog 102 (plainElem Tryz.prog 3) bm L.length D /\ Rep Nd.Ok Nd.lit (fun x : Int => .lit (.int .i64 x)) D L
 d1 : v.ownBlock ≠ some b
 d2 : bm ≠ b
 d3 : v.ownBlock ≠ some bm
 B1 : B <= b
 B2 : B <= bm
section
variable {B b bm : Nat} {w w' : World} {v : Value} {ns : List Nd} {L : List (Nd × Int)} {room next : Int}
theorem ownsRow_kept {S : Nat -> Prop} {e : TypeId} {size n : Nat} {xs : List Value} (h : w.ownsRow B e size v n xs) (hk : Kept S w w') (hn : ∀ k, v.ownBlock = some k -> ¬ S k) : w'.ownsRow B e size v n xs := by
 refine ⟨h.1, ?_⟩
 rcases h.2 with h1 | ⟨g, cap, cur, h1, h2, h3, h4⟩
 ·exact .inl h1
 ·refine .inr ⟨g, cap, cur, h1, h2, ?_, h4⟩
  have hlt : g < w.heap.size := by
   by_cases hl : g < w.heap.size
   ·exact hl
   ·rw [Array.getElem?_eq_none (by omega)] at h3; simp at h3
  rw [hk.block g hlt (hn g (by rw [h1]; rfl))]; exact h3
theorem ownsMap_kept {S : Nat -> Prop} {k : TypeId} {R : Value -> Option (DataW Unit × List MemPlace)} {n : Nat} {D : DataW Unit} (h : w.ownsMap Tryz.prog k R bm n D) (hk : Kept S w w') (hn : ¬ S bm) : w'.ownsMap Tryz.prog k R bm n D := by
 have hlt := h.lt
 obtain ⟨es, clock, h1, h2⟩ := h
 exact ⟨es, clock, (hk.block bm hlt hn).trans h1, h2⟩
theorem ArenaAt.kept {S : Nat -> Prop} (h : ArenaAt B w b bm v ns L room next) (hk : Kept S w w') (hn : ∀ k, Own b bm v k -> ¬ S k) : ArenaAt B w' b bm v ns L room next := by
 have hb := hn b (.inl rfl)
 obtain ⟨D, hD, hR⟩ := h.hmap
 exact ⟨Nat.lt_of_lt_of_le h.lt hk.size, (hk.cell (a := ⟨b, 0, none⟩) h.lt hb).trans h.croom, (hk.cell (a := ⟨b, 1, none⟩) h.lt hb).trans h.cnodes, (hk.cell (a := ⟨b, 2, none⟩) h.lt hb).trans h.cmap, (hk.cell (a := ⟨b, 3, none⟩) h.lt hb).trans h.cnext, fun i => (hk.frozen (a := ⟨b, i, none⟩) h.lt hb).trans (h.froz i),
  ownsRow_kept h.row hk (fun k hv => hn k (.inr (.inr hv))), ⟨D, ownsMap_kept hD hk (hn bm (.inr (.inl rfl))), hR⟩, h.d1, h.d2, h.d3, h.B1, h.B2⟩
theorem ArenaAt.form (h : ArenaAt B w b bm v ns L room next) : ∃ a cap, v = .slice a ns.length cap /\ (ns.length ≠ 0 -> ∃ g, a = some ⟨g, 0, none⟩ /\ B <= g /\ g < w.heap.size) := by
 rcases h.row.2 with ⟨h1, h2⟩ | ⟨g, cap, cur, h1, hB, _, h2, _⟩
 ·exact ⟨none, 0, by rw [h1, h2], fun h => absurd h2 h⟩
 ·exact ⟨_, cap, h1, fun _ => ⟨g, rfl, hB, (h.row.lt g (by rw [h1]; rfl)).2⟩⟩
end
def topOf (ns : List Nd) (h : Int) : Int := if 2 <= h /\ h < 2 + (ns.length : Int) then (nd ns (h - 2).toNat).v else 24
theorem top_any {B b bm : Nat} {w : World} {v : Value} {ns : List Nd} {L : List (Nd × Int)} {room next : Int} (hA : ArenaAt B w b bm v ns L room next) (h : Int) (hi : I64 h) (hl : ns.length <= 1000000) :
  Calls Tryz.prog 37 #[.pointer (some ⟨b, 0, none⟩), .int .i64 h] w fun e w' => e = .returned (.int .i64 (topOf ns h)) /\ w = w' := by
 obtain ⟨hi0, hi1⟩ := hi
 obtain ⟨a, cap, rfl, hg⟩ := hA.form
 have cn := hA.cnodes
 have HR := Lib.hid hA.row
 have HG := Lib.hid hg
 clear hA hg
 unfold topOf
 by_cases hc : 2 <= h /\ h < 2 + (ns.length : Int)
 ·rw [if_pos hc]
  obtain ⟨h2, h3⟩ := hc
  obtain ⟨i, e2⟩ : ∃ i : Nat, h - 2 = (i : Int) := ⟨(h - 2).toNat, by omega⟩
  obtain ⟨g, rfl, -⟩ := HG.out (by omega)
  have e1 : (h - 2).toNat = i := by omega
  rw [e1]
  have hil : i < ns.length := by omega
  have ci := HR.out.cellAt (i * 3) (by omega)
  rw [(ncells_at ns i hil).1] at ci
  generalize (nd ns i).v = x at *
  clear e1 HR HG
  go_enter Tryz.func37, Tryz.ntmps37
  go_wp2
  go_ret
  exact ⟨rfl, rfl⟩
 ·rw [if_neg hc]
  by_cases h2 : h < 2
  ·clear hc HR HG
   go_enter Tryz.func37, Tryz.ntmps37
   go_wp2
   go_ret
   exact ⟨rfl, rfl⟩
  ·have h3 : 2 + (ns.length : Int) <= h := by omega
   clear hc HR HG
   go_enter Tryz.func37, Tryz.ntmps37
   go_wp2
   go_ret
   exact ⟨rfl, rfl⟩
end
end Go.Proofs.YtcjjekhecjmaeaaGreatDoor
