/- ImageBit: all arguments. -/
import Derived.Test.YtcjjekhecjmaeaaGreatDoorImLoad
import Derived.Test.YtcjjekhecjmaeaaGreatDoorBdHolds
import Derived.Test.YtcjjekhecjmaeaaGreatDoorBdTruth
set_option maxHeartbeats 4000000
set_option maxRecDepth 100000
namespace Go.Proofs.YtcjjekhecjmaeaaGreatDoor
section
open Go.RowKit Go.Maps
theorem img_len {vars : Nat} {ns : List Nd} {D : List Int} {h : Int} (hv : vars <= 24) (hr : Ranked ns) (hD : Listed ns D) (hi : InD D h) (hl : D.length <= 5000) : (imgF vars ns D h).length <= 91 * D.length + 400 := by
 have hnb := numD_bd hi
 have hHO : ∀ y ∈ [(vars : Int), (D.length : Int), numD D h], -9223372036854775808 <= y /\ y <= 9223372036854775807 := by
  intro y hy
  simp at hy
  rcases hy with rfl | rfl | rfl <;> omega
 have h1 := told_len _ (by simp) hHO
 have hslt := sumF_lt (bodyF vars ns D h)
 have hSO : ∀ y ∈ [(sumF (bodyF vars ns D h) : Int)], -9223372036854775808 <= y /\ y <= 9223372036854775807 := fun y hy => by
  rw [List.mem_singleton] at hy; subst hy; omega
 have h2 := told_len _ (by simp) hSO
 have h3 := flat_len (l := D) (f := lineF ns D) (fun x hx => line_len hr hD hl hx)
 have h4 : (imgF vars ns D h).length = (bodyF vars ns D h).length + (4 + (toldF [(sumF (bodyF vars ns D h) : Int)]).length + 1) := by unfold imgF; simp; omega
 have h5 : (bodyF vars ns D h).length = 6 + (toldF [(vars : Int), (D.length : Int), numD D h]).length + 1 + (D.flatMap (lineF ns D)).length := by
  unfold bodyF headF; rw [List.length_append]; simp; omega
 omega
theorem bytes_set {l : List UInt8} {i : Nat} {b : UInt8} : (Lib.byteCells l).set i (.int .u8 (b.toNat : Int)) = Lib.byteCells (l.set i b) := by
 simp [Lib.byteCells, List.map_set]
theorem bit_seen {vars : Nat} {ns : List Nd} {D : List Int} {h : Int} {k : Nat} {b : UInt8} (hk : k < (imgF vars ns D h).length) (hb : (imgF vars ns D h)[k] ≠ b) (room : Int) : ∃ x, loadF ((imgF vars ns D h).set k b) room = .error x := by
 cases e : loadF ((imgF vars ns D h).set k b) room with
 | error x => exact ⟨x, rfl⟩
 | ok r =>
  obtain ⟨v, ns', h'⟩ := r
  have h1 := (load_fine e).2.2.2.2.2.2
  have h2 := img_two (vars := vars) (ns := ns) (D := D) (h := h) (vars' := v) (ns' := ns') (D' := postF ns' 25 h' []) (h' := h') (i := k) (fun j hj => by
   rw [h1, List.getElem?_set_ne (fun e => hj e.symm)])
  rw [h1] at h2
  have h3 : (imgF vars ns D h)[k]? = ((imgF vars ns D h).set k b)[k]? := by rw [<- h2]
  rw [List.getElem?_set_self hk, List.getElem?_eq_getElem hk] at h3
  exact absurd (Option.some.inj h3) hb
theorem bit_walk (vars : Nat) (hv0 : 0 < vars) (hv6 : vars <= 6) (xs : List Quad) (va : Value) (at' : Int) (tb : UInt8) (w : World) (hx : ArgQuads w va xs) (hxl : xs.length <= 25) (hT : Tab10 w) (n : Int) (hm : w.cell? ⟨2, 0, none⟩ = some (.int .i64 n)) (hmg : 2 < w.heap.size) :
  Calls Tryz.prog 7 #[.int .i64 (vars : Int), va, .int .i64 at', .int .u8 (tb.toNat : Int)] w fun e w' => e = .returned (.bool true) /\ Below w.heap.size w w' := by
 have HSP := Lib.hid (space_yes vars hv0 hv6 xs va w hx hxl)
 obtain ⟨hsem, hlen, hal⟩ := fun_ok hv0 hv6 xs [] [0, 1] _ (sems_start (good_nil vars)) (by simp) (by simp; omega)
 have hne : 0 < (funF vars ([], [0, 1]) xs).2.length := by rw [hal]; simp; omega
 have HI64 : Hid (∀ x ∈ (funF vars ([], [0, 1]) xs).2, I64 x) := fun x hx => has_i64 (hsem.has x hx) (by simp at hlen; omega)
 have HH : Hid (∀ x ∈ (funF vars ([], [0, 1]) xs).2, hasB (funF vars ([], [0, 1]) xs).1 x = true) := hsem.has
 have HG := Lib.hid hsem.good
 unfold SpaceOut at HSP
 obtain ⟨a0, c0, rfl, -⟩ := hx
 have HT := Lib.hid hT
 have HM := Lib.hid hm
 clear hsem hT hm
 generalize funF vars ([], [0, 1]) xs = r at *
 obtain ⟨ns, al⟩ := r
 simp only at HSP HG hlen hal hne HI64 HH
 have h27 : al.length <= 27 := by rw [hal]; simp; omega
 have hl0 : ns.length <= 1575 := by simp at hlen; omega
 clear hal hlen
 go_enter Tryz.func7, Tryz.ntmps7
 go_wp2_with fail
 refine HSP.out.mono ?_
 rintro e w1 ⟨s, b, O, a, c, rfl, hS, hrow, hap, hO, hb1⟩
 have HTR := Lib.hid (truth_any w1)
 obtain ⟨ga, rfl, hIA, -⟩ := ints_of_row hrow (by omega) HI64.out
 have SP : Hid (∀ W, Below w1.heap.size w1 W -> SpaceAt w.heap.size W s b O vars 4000 ns) := fun W hW => hS.new hW
 obtain ⟨m, hmm⟩ : ∃ m, al.length = m + 1 := ⟨al.length - 1, by omega⟩
 have hml : m < al.length := by omega
 have CL : Hid (∀ W, Below w1.heap.size w1 W -> W.cell? ⟨ga, m, none⟩ = some (.int .i64 al[m])) := fun W hW => (hW.cell (p := ⟨ga, m, none⟩) hIA.lt).trans (hIA.cells _ hml)
 have hhas := HH.out _ (List.getElem_mem hml)
 have HB1 := Lib.hid hb1
 clear HSP hS hrow hap hO hb1 hIA HI64 HH
 generalize al[m] = x at *
 rw [hmm]
 have i1 : (m : Int) < ((m + 1 : Nat) : Int) := by omega
 have i2 : (m : Int) < (m : Int) + 1 := by omega
 have i3 : (m : Int) + 1 - 1 = (m : Int) := by omega
 have hm27 : m <= 27 := by omega
 clear hmm hml h27 hne
 go_wp2_with fail
 refine HTR.out.mono ?_
 rintro e w2 ⟨rfl, hb2⟩
 have HB2 := Lib.hid (HB1.out.trans (hb2.mono HB1.out.size))
 have cl := CL.out w2 hb2
 have HSV := Lib.hid (save_any (SP.out w2 hb2) HG.out.ranked (by omega) (by omega) (HT.out.below HB2.out) x hhas)
 clear HTR hb2 SP CL
 go_wp2_with fail
 refine HSV.out.mono ?_
 rintro e w3 ⟨v3, rfl, hM3, hb3⟩
 obtain ⟨a3, c3, rfl⟩ := hM3.form
 have HB3 := Lib.hid (HB2.out.trans (hb3.mono HB2.out.size))
 have hil : 0 < (imgF vars ns (postF ns 25 x []) x).length := by unfold imgF; simp only [List.length_append, List.length_cons, List.length_nil]; omega
 have hih : (imgF vars ns (postF ns 25 x []) x).length <= 900000 := by
  obtain ⟨hD, hiD, -⟩ := post_ok HG.out.ranked 25 x [] ⟨fun x hx => (by cases hx), List.nodup_nil, fun x hx => (by cases hx)⟩ hhas (by have := (topOf_le HG.out.ranked x).1; omega)
  have h1 := listed_len hD
  have h2 := img_len (vars := vars) (by omega) HG.out.ranked hD hiD (by omega)
  omega
 have HBS : Hid (∀ k b (hk : k < (imgF vars ns (postF ns 25 x []) x).length), (imgF vars ns (postF ns 25 x []) x)[k] ≠ b -> ∃ y, loadF ((imgF vars ns (postF ns 25 x []) x).set k b) 4000 = .error y) := fun k b hk h => bit_seen hk h 4000
 have HBY := Lib.hid hM3.bytes
 clear HSV hM3 hb3 cl
 clear HG hhas
 generalize imgF vars ns (postF ns 25 x []) x = IM at *
 obtain ⟨ag, rfl⟩ : ∃ ag, a3 = some ⟨ag, 0, none⟩ := by
  obtain ⟨a', c', e1, e2⟩ := HBY.out
  obtain ⟨g', e3, -⟩ := e2 0 hil
  cases e1
  exact ⟨g', e3⟩
 have hbc : ∀ j u, (Lib.byteCells IM)[j]? = some u -> w3.cell? (Addr.add ⟨ag, 0, none⟩ j) = some u := fun j u hj => by
  obtain ⟨a', c', e1, e2⟩ := HBY.out
  cases e1
  have hjl : j < IM.length := by
   have := (List.getElem?_eq_some_iff.1 hj).1
   rwa [Lib.byteCells_length] at this
  obtain ⟨g', e3, -, e4⟩ := e2 j hjl
  cases e3
  have had : (⟨ag, 0, none⟩ : Addr).add j = ⟨ag, j, none⟩ := by unfold Addr.add; split <;> simp_all
  rw [had, e4, <- hj]
  simp [Lib.byteCells, hjl]
 have hagl : ag < w3.heap.size := by
  obtain ⟨a', c', e1, e2⟩ := HBY.out
  obtain ⟨g', e3, e4, -⟩ := e2 0 hil
  cases e1; cases e3
  exact e4
 obtain ⟨L, hL⟩ : ∃ L, L = IM.length := ⟨_, rfl⟩
 have HL := Lib.hid hL
 rw [<- hL] at hil hih ⊢
 have i5 : ¬ (L : Int) = 0 := by omega
 have i6 : ¬ L = 0 := by omega
 have HBC := Lib.hid hbc
 clear hL hbc HBY
 have HR0 := Lib.hid (built_row w3 (B := w.heap.size) HB3.out.size #[] 5 (by simp [maxLen]))
 have hb4 := below_new w3 (.cells #[] 5)
 have HB4 := Lib.hid hb4
 obtain ⟨i0, hin, hz0, hz1, hz2⟩ := info_parts infoU8
 go_wp2_with (at_builtin; refine wpList_append_own_at _ rfl _ _ 49 rfl w.heap.size 5 i0 (.int .u8 0) 1 1 Tryz.underlying49 hin hz0 hz1 hz2 rfl (by decide) _ _ _ rfl HR0.out ⟨ag, 0, none⟩ L c3 (Lib.byteCells IM) rfl ?c0 ?c1 ?c2 ?c3 ?c4 ?c5 ?_)
 case c0 => rw [Lib.byteCells_length, <- HL.out]; simp
 case c1 => exact fun j u hj => (hb4.cell (p := Addr.add ⟨ag, 0, none⟩ j) (show (Addr.add ⟨ag, 0, none⟩ j).block < w3.heap.size from by rw [show (Addr.add ⟨ag, 0, none⟩ j).block = ag from by unfold Addr.add; split <;> rfl]; exact hagl)).trans (HBC.out j u hj)
 case c2 =>
  intro u hu
  simp only [Lib.byteCells, List.mem_map] at hu
  obtain ⟨b0, -, rfl⟩ := hu
  rfl
 case c3 => unfold maxLen; simp; omega
 case c4 => simp; omega
 case c5 => exact Nat.le_trans HB3.out.size hb4.size
 intro v5 w5 hown5 hgrow5 _ _
 have hown : w5.ownsRow w.heap.size 5 1 v5 L (Lib.byteCells IM) := by simpa using hown5
 have hb5 : Below w.heap.size w w5 := (HB3.out.trans (hb4.mono HB3.out.size)).grown hgrow5 (Nat.le_trans HB3.out.size hb4.size) (fun j hj => by
  have : w3.heap.size = j := by simpa [Value.ownBlock] using hj
  have := HB3.out.size
  omega)
 have HB5 := Lib.hid hb5
 obtain ⟨g5, c5, cur5, rfl, hg5, hh5, hs5⟩ : ∃ g c cur, v5 = .slice (some ⟨g, 0, none⟩) L c /\ w.heap.size <= g /\ w5.heap[g]? = some (.cells cur 5 (0, 0)) /\ L <= c := by
  rcases hown.2 with ⟨-, h2⟩ | ⟨g, cap, cur, h1, h2, h3, h4, -⟩
  ·omega
  ·exact ⟨g, cap, cur, h1, h2, h3, h4⟩
 have PK := Lib.hid (pick_any at' L hil (by omega) w5)
 have hk := pickV_lt at' hil
 obtain ⟨k, hkk⟩ : ∃ k, k = pickV at' L := ⟨_, rfl⟩
 rw [<- hkk] at PK hk
 have hkI : k < IM.length := by have := HL.out; omega
 have hrow5 : w5.ownsRow w.heap.size 5 1 (.slice (some ⟨g5, 0, none⟩) L c5) L (Lib.byteCells IM) := hown
 have hc5 : w5.cell? ⟨g5, k, none⟩ = some (.int .u8 (IM[k].toNat : Int)) := by
  rw [hrow5.cellAt k (by omega)]
  simp [Lib.byteCells, hkI]
 have hf5 : w5.frozen? ⟨g5, k, none⟩ = false := by simp [World.frozen?, hh5]
 have hlt5 : g5 < w5.heap.size := (Array.getElem?_eq_some_iff.1 hh5).1
 have hst5 := (hrow5.stored k (.int .u8 (tb.toNat : Int))).1
 rw [bytes_set] at hst5
 have HST := Lib.hid hst5
 have HM5 := Lib.hid ((HB5.out.cell (p := ⟨2, 0, none⟩) hmg).trans HM.out)
 have HT5 := Lib.hid (HT.out.below HB5.out)
 have ki : (k : Int) < (L : Int) := by omega
 clear hown5 hgrow5 hown hb5 hkk hh5 hrow5 hst5 HR0 HB4 hb4 HBC
 go_wp2_with fail
 refine PK.out.mono ?_
 rintro e w6 ⟨rfl, rfl⟩
 by_cases hq : IM[k] = tb
 ·have hqi : ((IM[k].toNat : Int) == (tb.toNat : Int)) = true := by rw [hq]; simp
  generalize (IM[k].toNat : Int) = z1 at *
  generalize (tb.toNat : Int) = z2 at *
  clear hq
  go_wp2
  go_ret
  exact ⟨rfl, HB5.out⟩
 ·obtain ⟨y, hy⟩ := HBS.out k tb hkI hq
  have HY := Lib.hid hy
  have hqi : ((IM[k].toNat : Int) == (tb.toNat : Int)) = false := by
   have : IM[k].toNat ≠ tb.toNat := fun h => hq (UInt8.toNat_inj.1 h)
   simp; omega
  have hbS : Below w.heap.size w (w5.setCell ⟨g5, k, none⟩ (.int .u8 (tb.toNat : Int))) := HB5.out.setCell (p := ⟨g5, k, none⟩) hg5 _
  have hLs : (IM.set k tb).length = L := by rw [List.length_set]; exact HL.out.symm
  have hmS : (w5.setCell ⟨g5, k, none⟩ (.int .u8 (tb.toNat : Int))).cell? ⟨2, 0, none⟩ = some (.int .i64 n) := (hbS.cell (p := ⟨2, 0, none⟩) hmg).trans HM.out
  have HBA : Hid (∀ W, Below (w5.setCell ⟨g5, k, none⟩ (.int .u8 (tb.toNat : Int))).heap.size (w5.setCell ⟨g5, k, none⟩ (.int .u8 (tb.toNat : Int))) W -> (convert 49 9 (.slice (some ⟨g5, 0, none⟩) L c5)).run Tryz.prog W = .ok (strV (IM.set k tb)) W) := fun W hW => by
   have := BytesAt.of_row (l := IM.set k tb) (v := .slice (some ⟨g5, 0, none⟩) L c5) (by rw [hLs]; exact HST.out)
   exact conv_bytes (this.below hW) (by rw [hLs]; exact hil)
  have HLD : Hid (Calls Tryz.prog 21 #[.slice (some ⟨g5, 0, none⟩) L c5, .int .i64 4000] (w5.setCell ⟨g5, k, none⟩ (.int .u8 (tb.toNat : Int))) fun e w' => (∃ x, e = .returned (.tuple #[.pointer none, .int .i64 0, .iface 54 (.int .i64 x)])) /\ Below w.heap.size w w') := by
   by_cases h20 : L <= 20000
   ·have h1 := load_any (IM.set k tb) (by omega) (some ⟨g5, 0, none⟩) c5 4000 (w5.setCell ⟨g5, k, none⟩ (.int .u8 (tb.toNat : Int))) (HT.out.below hbS) n hmS (Nat.lt_of_lt_of_le hmg hbS.size) (by rw [hLs]; exact HBA.out)
    rw [hLs] at h1
    refine h1.mono ?_
    rintro e w' ⟨hlr, hb⟩
    refine ⟨?_, hbS.trans (hb.mono hbS.size)⟩
    rcases hlr with ⟨x, -, rfl⟩ | ⟨v', ns', h', s', b', O', h2, -⟩
    ·exact ⟨x, rfl⟩
    ·rw [HY.out] at h2; cases h2
   ·refine (load_limit _ L c5 (by omega) 4000 _).mono ?_
    rintro e w' ⟨rfl, rfl⟩
    exact ⟨⟨4, rfl⟩, hbS⟩
  clear hbS hmS hLs hy HBS HBA hq
  generalize (IM[k].toNat : Int) = z1 at *
  generalize (tb.toNat : Int) = z2 at *
  go_wp2_with fail
  refine HLD.out.mono ?_
  rintro e w7 ⟨⟨x, rfl⟩, hb7⟩
  have HB7 := Lib.hid hb7
  clear HLD hb7
  go_wp2
  go_ret
  exact ⟨rfl, HB7.out⟩
end
section
open Go.RowKit Go.Maps
theorem bit_no (vars : Int) (xs : List Quad) (va : Value) (at' : Int) (z : Int) (w : World) (hx : ArgQuads w va xs) (hn : xs.length <= 9223372036854775807) (h : vars < 1 \/ 6 < vars \/ 25 < xs.length) :
  Calls Tryz.prog 7 #[.int .i64 vars, va, .int .i64 at', .int .u8 z] w fun e w' => e = .returned (.bool true) /\ Below w.heap.size w w' := by
 obtain ⟨a, c, rfl, -⟩ := hx
 have HS := Lib.hid (space_no vars a xs.length c h hn w)
 clear h
 go_enter Tryz.func7, Tryz.ntmps7
 go_wp2_with fail
 refine HS.out.mono ?_
 rintro e w1 ⟨rfl, rfl⟩
 go_wp2_with fail
 go_ret
 exact ⟨rfl, Below.refl _ _⟩
theorem bit_any (vars : Int) (xs : List Quad) (va : Value) (at' : Int) (tb : UInt8) (w : World) (ht : Tab10 w) (n : Int) (hm : w.cell? ⟨2, 0, none⟩ = some (.int .i64 n)) (hmg : 2 < w.heap.size) (hx : ArgQuads w va xs) (hn : xs.length <= 9223372036854775807) :
  Calls Tryz.prog 7 #[.int .i64 vars, va, .int .i64 at', .int .u8 (tb.toNat : Int)] w fun e w' => e = .returned (.bool true) /\ Below w.heap.size w w' := by
 by_cases h : vars < 1 \/ 6 < vars \/ 25 < xs.length
 ·exact bit_no vars xs va at' _ w hx hn h
 ·obtain ⟨k, rfl⟩ : ∃ k : Nat, vars = (k : Int) := ⟨vars.toNat, by omega⟩
  exact bit_walk k (by omega) (by omega) xs va at' tb w hx (by omega) ht n hm hmg
end
end Go.Proofs.YtcjjekhecjmaeaaGreatDoor
