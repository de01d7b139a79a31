/- plan: needed. -/
import Derived.Test.YtpmpnbbihmgdpaaGreatDoorPlRFits
import Derived.Test.YtpmpnbbihmgdpaaGreatDoorSvTurns
import Derived.Test.YtpmpnbbihmgdpaaGreatDoorCtAsc
import Derived.Laws.BitsAllLaws
import Derived.Laws.MakeOwn
import Derived.Deep.RegionHeld3
set_option maxHeartbeats 4000000
set_option maxRecDepth 100000
namespace Go.Proofs.YtpmpnbbihmgdpaaGreatDoor
section
open Go.RowKit Go.Deep Sv
theorem pgetI_mem (xs : List Int) (k : Nat) (h : k < xs.length) : xs.getD k 0 ∈ xs := by
  rw [List.getD_eq_getElem?_getD, List.getElem?_eq_getElem h]; exact List.getElem_mem h
theorem phas_any (xs : List Int) (x : Int) (a : Option Addr) (cap : Nat) (w : World) (hI : IntsIn w a xs) (hm : xs.length <= 9223372036854775807) :
    Calls Tryz.prog 86 #[.slice a xs.length cap, .int .i64 x] w fun e w' => e = .returned (.bool (decide (x ∈ xs))) /\ w = w' := by
  have HI := Lib.hid hI
  clear hI
  go_enter Tryz.func86, Tryz.ntmps86
  go_wp2_with fail
  go_loop [9] (fun kV => ∃ k : Nat, k <= xs.length /\ kV = .int .i64 (k : Int) /\ ∀ j, j < k -> xs.getD j 0 ≠ x) (fun kV => xs.length - (intOf kV).toNat)
  case atStart => exact ⟨0, Nat.zero_le _, rfl, fun j h => by omega⟩
  case round =>
    obtain ⟨k, hk, rfl, h1⟩ := hrel
    have H1 := Lib.hid h1
    clear h1
    by_cases hlt : k < xs.length
    · obtain ⟨ad, rfl, hl, hc⟩ := HI.out k hlt
      have hmem := pgetI_mem xs k hlt
      generalize hy : xs.getD k 0 = y at *
      have HY := Lib.hid hy
      clear hy
      by_cases he : x = y
      · subst he
        have HM : Hid (decide (x ∈ xs) = true) := decide_eq_true hmem
        clear hmem
        go_wp2
        go_ret
        exact ⟨by rw [HM.out]; rfl, rfl⟩
      · have he' : (x == y) = false := by simpa using he
        clear hmem
        go_wp2
        go_round
        case rel => exact ⟨k + 1, hlt, by go_num, fun j hj => (by
          rcases Nat.lt_succ_iff_lt_or_eq.1 hj with e | e
          · exact H1.out j e
          · rw [e, HY.out]; exact fun h => he h.symm)⟩
        case measure => simp [intOf]; omega
    · obtain rfl : k = xs.length := by omega
      have HM : Hid (decide (x ∈ xs) = false) := decide_eq_false fun hm => by
        obtain ⟨j, hj, e⟩ := List.getElem_of_mem hm
        refine H1.out j hj ?_
        rw [List.getD_eq_getElem?_getD, List.getElem?_eq_getElem hj]; exact e
      go_wp2
      go_ret
      exact ⟨by rw [HM.out]; rfl, rfl⟩
noncomputable def needL (its : List It) (x : Ln) (i k : Nat) : Bool := decide (x.kind = 2) && (decide (i ≠ k) && (decide (ctNumb its x.it = (i : Int)) && decide (k ∈ amongF its x.other x.rng)))
noncomputable def needB (its : List It) (ls : List Ln) (i k : Nat) : Bool := ls.any fun x => needL its x i k
theorem natS_mem (A : List Nat) (k : Nat) : decide ((k : Int) ∈ natS A) = decide (k ∈ A) := by
  congr 1
  unfold natS
  rw [List.mem_map]
  exact propext ⟨fun ⟨a, h, e⟩ => by obtain rfl : a = k := by omega
                                     exact h, fun h => ⟨k, h, rfl⟩⟩
theorem rneeds_c (ls : List Ln) (its : List It) (hN : newF ls = .ok its) (b2 b8 i k : Nat) (la : Option Addr) (lc : Nat) (ia : Option Addr) (ic : Nat) (w : World) (hb8 : b8 < w.heap.size) (c2 : w.cell? ⟨b2, 0, none⟩ = some (.slice la ls.length lc)) (c8 : w.cell? ⟨b8, 0, none⟩ = some (.slice ia its.length ic)) (hL : RLs w (.slice la ls.length lc) ls) (hI : ItsAt w (.slice ia its.length ic) its) :
    Calls Tryz.prog 85 #[.int .i64 (i : Int), .int .i64 (k : Int), .pointer (some ⟨b2, 0, none⟩), .pointer (some ⟨b8, 0, none⟩)] w fun e w' => e = .returned (.bool (needB its ls i k)) /\ Below w.heap.size w w' := by
  obtain ⟨hl, hll, -⟩ := newF_ok hN
  have HRA : Hid (∀ name rng, ramP its name rng its.length = amongF its name rng) := fun name rng => ramP_among (new_asc hN).1 name rng
  have HL := Lib.hid hL
  have HI := Lib.hid hI
  have C8 : Hid (∀ W, Below w.heap.size w W -> W.cell? ⟨b8, 0, none⟩ = some (.slice ia its.length ic)) := fun W hb => (hb.cell (p := ⟨b8, 0, none⟩) hb8).trans c8
  clear hL hI hN
  go_enter Tryz.func85, Tryz.ntmps85
  go_wp2_with fail
  go_loopw [11] (fun qV wr => ∃ q : Nat, q <= ls.length /\ qV = .int .i64 (q : Int) /\ (∀ j, j < q -> needL its (ls.getD j default) i k = false) /\ Below w.heap.size w wr) (fun qV _ => ls.length - (intOf qV).toNat)
  case atStart => exact ⟨0, Nat.zero_le _, rfl, fun j h => by omega, Below.refl _ _⟩
  case round =>
    obtain ⟨q, hql, rfl, hall, hbr⟩ := hrel
    have HALL := Lib.hid hall
    clear hall
    by_cases hlt : q < ls.length
    · have hq0 : (0 : Int) <= (q : Int) := by omega
      have hq1 : (q : Int) < (ls.length : Int) := by omega
      obtain ⟨g, cap', ra, rc, e, hg, hns, hrg, c0, c1, d2, c3, c4, c5, c6⟩ := (HL.out.below hbr (Nat.le_refl _)).at q hlt
      simp at e
      obtain ⟨rfl, rfl⟩ := e
      obtain ⟨x, hxe⟩ : ∃ x, ls.getD q default = x := ⟨_, rfl⟩
      rw [hxe] at hns hrg c0 c1 d2 c3 c4 c5 c6
      have HXE := Lib.hid hxe
      have hb6 := below_new wr (.cells #[.int .i64 x.kind, .string x.name, .int .i64 x.a, .int .i64 x.b, .int .i64 x.c, .string x.other, .slice ra (tp x.rng).length rc] 54)
      have kx := Blk.new wr 54 #[.int .i64 x.kind, .string x.name, .int .i64 x.a, .int .i64 x.b, .int .i64 x.c, .string x.other, .slice ra (tp x.rng).length rc]
      have HB6 : Hid (Below w.heap.size w (wr.alloc (.cells #[.int .i64 x.kind, .string x.name, .int .i64 x.a, .int .i64 x.b, .int .i64 x.c, .string x.other, .slice ra (tp x.rng).length rc] 54))) := hbr.trans (hb6.mono hbr.size)
      have HNS := Lib.hid (hns.below hb6 (Nat.le_refl _))
      clear hns hxe hb6 hbr
      go_upto_region 4 with fail
      generalize wr.alloc (.cells #[.int .i64 x.kind, .string x.name, .int .i64 x.a, .int .i64 x.b, .int .i64 x.c, .string x.other, .slice ra (tp x.rng).length rc] 54) = W6 at *
      generalize wr.heap.size = bx at *
      clear c0 c1 d2 c3 c4 c5 c6 hg
      have x0 : W6.cell? ⟨bx, 0, none⟩ = some (.int .i64 x.kind) := kx.cell 0
      have x1 : W6.cell? ⟨bx, 1, none⟩ = some (.string x.name) := kx.cell 1
      have x2 : W6.cell? ⟨bx, 2, none⟩ = some (.int .i64 x.a) := kx.cell 2
      have x3 : W6.cell? ⟨bx, 3, none⟩ = some (.int .i64 x.b) := kx.cell 3
      have x4 : W6.cell? ⟨bx, 4, none⟩ = some (.int .i64 x.c) := kx.cell 4
      have z8 := C8.out W6 HB6.out
      have HNX : Hid (needL its x i k = false -> ∀ j, j < q + 1 -> needL its (ls.getD j default) i k = false) := fun h j hj => by
        rcases Nat.lt_succ_iff_lt_or_eq.1 hj with e | e
        · exact HALL.out j e
        · rw [e, HXE.out]; exact h
      by_cases hk2 : x.kind = 2
      · by_cases hik : i = k
        · have HND : Hid (needL its x i k = false) := by show _ = _; unfold needL; rw [decide_eq_false (p := i ≠ k) (by simpa using hik)]; simp
          have hd : ((i : Int) != (k : Int)) = false := by simp [hik]
          rw [hk2] at x0
          clear hik hk2 kx
          go_wp2
          go_roundw
          case rel => exact ⟨q + 1, hlt, by go_num, HNX.out HND.out, HB6.out⟩
          case measure => simp [intOf]; omega
        · have hd : ((i : Int) != (k : Int)) = true := by simp; omega
          have HNU := Lib.hid (rnumof_any its x.it (.slice ia its.length ic) W6 (HI.out.below HB6.out (Nat.le_refl _)) (by omega))
          rw [hk2] at x0
          have KX := Lib.hid kx
          have HK2 := Lib.hid hk2
          have HIK := Lib.hid hik
          clear hk2 hik kx
          go_wp2_with fail
          refine HNU.out.mono ?_
          rintro e w7 ⟨rfl, hb7⟩
          have HB7 : Hid (Below w.heap.size w w7) := HB6.out.trans (hb7.mono HB6.out.size)
          have k7 := KX.out.below hb7 KX.out.lt
          have y5 : w7.cell? ⟨bx, 5, none⟩ = some (.string x.other) := k7.cell 5
          have y6 : w7.cell? ⟨bx, 6, none⟩ = some (.slice ra (tp x.rng).length rc) := k7.cell 6
          have z7 := C8.out w7 HB7.out
          have HNS7 := Lib.hid (HNS.out.below hb7 (Nat.le_refl _))
          clear hb7 HNU KX k7 HNS x0 x1 x2 x3 x4 z8
          by_cases hnm : ctNumb its x.it = (i : Int)
          · have HAM0 := ramong_any its x.other x.rng hrg (.slice ia its.length ic) (.slice ra (tp x.rng).length rc) w7 (HI.out.below HB7.out (Nat.le_refl _)) (by omega) HNS7.out
            rw [HRA.out] at HAM0
            have hal := amongF_len its x.other x.rng
            have HNL : Hid (needL its x i k = decide (k ∈ amongF its x.other x.rng)) := by show _ = _; unfold needL; rw [decide_eq_true HK2.out, decide_eq_true (p := i ≠ k) HIK.out, decide_eq_true hnm]; rfl
            obtain ⟨A, hA⟩ : ∃ A, amongF its x.other x.rng = A := ⟨_, rfl⟩
            rw [hA] at HAM0 hal HNL
            have HAM := Lib.hid HAM0
            rw [hnm]
            clear hA HAM0 hnm
            go_wp2_with fail
            refine HAM.out.mono ?_
            rintro e w8 ⟨v8, rfl, hown, hb8'⟩
            obtain ⟨aa, ac, rfl, -⟩ := row_form hown
            have HHA0 := phas_any (natS A) (k : Int) aa ac w8 (ints_row (B := w7.heap.size) (c := ac) (by rw [natS_len]; exact hown)) (by rw [natS_len]; omega)
            rw [natS_len, natS_mem, <- HNL.out] at HHA0
            have HHA := Lib.hid HHA0
            have HB8 : Hid (Below w.heap.size w w8) := HB7.out.trans (hb8'.mono HB7.out.size)
            clear hown hb8' HAM HHA0 HB7 y5 y6 z7
            go_wp2_with fail
            refine HHA.out.mono ?_
            rintro e w9 ⟨rfl, rfl⟩
            cases hnl : needL its x i k with
            | true =>
              have HNB : Hid (needB its ls i k = true) := by
                show _ = _
                unfold needB
                rw [List.any_eq_true]
                exact ⟨x, HXE.out ▸ lget_mem ls q hlt, hnl⟩
              clear hnl HHA
              go_wp2
              go_ret
              exact ⟨by rw [HNB.out]; rfl, HB8.out⟩
            | false =>
              have HND := Lib.hid hnl
              clear hnl HHA
              go_wp2
              go_roundw
              case rel => exact ⟨q + 1, hlt, by go_num, HNX.out HND.out, HB8.out⟩
              case measure => simp [intOf]; omega
          · have HND : Hid (needL its x i k = false) := by show _ = _; unfold needL; rw [decide_eq_false hnm]; simp
            have hnb : (ctNumb its x.it == (i : Int)) = false := by simpa using hnm
            clear y5 y6 z7
            generalize ctNumb its x.it = NN at *
            go_wp2
            go_roundw
            case rel => exact ⟨q + 1, hlt, by go_num, HNX.out HND.out, HB7.out⟩
            case measure => simp [intOf]; omega
      · have HND : Hid (needL its x i k = false) := by show _ = _; unfold needL; rw [decide_eq_false hk2]; simp
        have hd : (x.kind == 2) = false := by simpa using hk2
        clear kx
        go_wp2
        go_roundw
        case rel => exact ⟨q + 1, hlt, by go_num, HNX.out HND.out, HB6.out⟩
        case measure => simp [intOf]; omega
    · obtain rfl : q = ls.length := by omega
      have HNB : Hid (needB its ls i k = false) := by
        show _ = _
        unfold needB
        rw [List.any_eq_false]
        intro y hy
        obtain ⟨j, hj, rfl⟩ := List.getElem_of_mem hy
        have := HALL.out j hj
        rw [List.getD_eq_getElem?_getD, List.getElem?_eq_getElem hj] at this
        simpa using this
      have HBR := Lib.hid hbr
      clear hbr
      go_wp2
      go_ret
      exact ⟨by rw [HNB.out]; rfl, HBR.out⟩
end
section
open Go.RowKit Go.Deep Sv
def NdB (W : World) (g : Nat) (l : List Nat) : Prop := ∃ cur, Blk W g 69 cur /\ cur.size = l.length /\ ∀ j, j < l.length -> cur[j]? = some (.int .u64 ((l.getD j 0 : Nat) : Int))
theorem NdB.below {W W' : World} {g : Nat} {l : List Nat} (h : NdB W g l) (hb : Below W.heap.size W W') : NdB W' g l := by
  obtain ⟨cur, h1, h2⟩ := h
  exact ⟨cur, h1.below hb h1.lt, h2⟩
theorem NdB.lt {W : World} {g : Nat} {l : List Nat} (h : NdB W g l) : g < W.heap.size := by obtain ⟨cur, h1, _⟩ := h; exact h1.lt
theorem NdB.cell {W : World} {g : Nat} {l : List Nat} (h : NdB W g l) {n : Nat} (hn : n < l.length) : W.cell? ⟨g, n, none⟩ = some (.int .u64 ((l.getD n 0 : Nat) : Int)) := by
  obtain ⟨cur, h1, _, h3⟩ := h
  exact (h1.cell n).trans (h3 n hn)
theorem NdB.frozen {W : World} {g : Nat} {l : List Nat} (h : NdB W g l) (n : Nat) : W.frozen? ⟨g, n, none⟩ = false := by
  obtain ⟨cur, h1, _⟩ := h
  exact h1.frozen n
theorem NdB.set {W : World} {g : Nat} {l : List Nat} (h : NdB W g l) (n x : Nat) : NdB (W.setCell ⟨g, n, none⟩ (.int .u64 (x : Int))) g (l.set n x) := by
  obtain ⟨cur, h1, h2, h3⟩ := h
  refine ⟨_, h1.set, by rw [Array.size_setIfInBounds, List.length_set, h2], fun j hj => ?_⟩
  rw [List.length_set] at hj
  rw [Array.getElem?_setIfInBounds, List.getD_eq_getElem?_getD, List.getElem?_set]
  by_cases e : n = j
  · subst e
    rw [if_pos rfl, if_pos (by omega), if_pos rfl, if_pos (by omega)]
    simp
  · rw [if_neg e, if_neg e, h3 j hj, List.getD_eq_getElem?_getD]
theorem made_u (m i : Nat) (h : i < m) : (madeCells #[.int .u64 0] m)[i]? = some (.int .u64 0) := by
  simp [madeCells, h, Nat.mod_one]
theorem ndB_made {W : World} {g m : Nat} {cur : Array Value} (h1 : Blk W g 69 cur) (h2 : cur.size = m) (h3 : cur.toList.take m = (madeCells #[.int .u64 0] m).toList) : NdB W g (List.replicate m 0) := by
  refine ⟨cur, h1, by simpa using h2, fun j hj => ?_⟩
  simp only [List.length_replicate] at hj
  have e := congrArg (fun l => l[j]?) h3
  simp only [List.getElem?_take, if_pos hj] at e
  rw [Array.getElem?_toList, Array.getElem?_toList, made_u m j hj] at e
  rw [e]
  simp [List.getD_eq_getElem?_getD, hj]
theorem infoUint : (Tryz.prog.info? 69).map (fun i => (i.zero, i.size, i.bytes)) = some (some (.int .u64 0), 1, 8) := by kernel_rfl
theorem needP_lt (its : List It) (ls : List Ln) (hl : its.length <= 24) : ∀ n, ∀ k, (needP its ls n).getD k 0 < 16777216
  | 0, k => by
    unfold needP
    rw [List.getD_eq_getElem?_getD, List.getElem?_replicate]
    split <;> simp
  | n + 1, k => by
    unfold needP
    have ih := needP_lt its ls hl n
    split
    · rw [List.getD_eq_getElem?_getD, List.getElem?_set]
      split
      · split
        · have a1 := ih (ownN its (ls.getD n default))
          have a2 := amS_lt24 its (ls.getD n default).other (ls.getD n default).rng hl
          have a3 := Nat.lt_of_le_of_lt (Nat.and_le_left (n := amS its (ls.getD n default).other (ls.getD n default).rng) (m := 18446744073709551615 - 2 ^ ownN its (ls.getD n default))) a2
          exact Nat.or_lt_two_pow (n := 24) a1 a3
        · simp
      · rw [<- List.getD_eq_getElem?_getD]; exact ih k
    · exact ih k
theorem needed_c (bk : Nat) (ls : List Ln) (its : List It) (hN : newF ls = .ok its) (w : World) (h : CatAt w bk ls its) :
    Calls Tryz.prog 87 #[.pointer (some ⟨bk, 0, none⟩)] w fun e w' => ∃ g, e = .returned (.slice (some ⟨g, 0, none⟩) its.length its.length) /\ w.heap.size <= g /\ NdB w' g (needF its ls) /\ Below w.heap.size w w' := by
  obtain ⟨hl, hll, hck⟩ := newF_ok hN
  obtain ⟨i0, hin, hz0, hz1, hz2⟩ := info_parts infoUint
  have HI := Lib.hid (items_c bk ls its w h (by omega))
  have HCAT := Lib.hid h
  obtain ⟨lv0, iv0, bm, hk0, ⟨vs, hvs, hlv0⟩, hit0, hmp0⟩ := h
  have HVS := Lib.hid hvs
  have HL0 : Hid (∀ W, Below w.heap.size w W -> Calls Tryz.prog 38 #[.pointer (some ⟨bk, 0, none⟩)] W fun e w' => ∃ v', e = .returned v' /\ w'.ownsRow W.heap.size 98 7 v' ls.length (lnCells ls vs) /\ Below W.heap.size W w') := fun W hb => lines_v bk bm lv0 iv0 ls vs W (hk0.below hb hk0.lt) (hvs.below hb (Nat.le_refl _)) (hlv0.below hb (Nat.le_refl _)) (by omega)
  have HN := Lib.hid hN
  have HCK := Lib.hid hck
  clear hN hck hk0 hvs hlv0 hit0 hmp0
  go_enter Tryz.func87, Tryz.ntmps87
  go_wp2_with fail
  refine HI.out.mono ?_
  rintro e w1 ⟨v', rfl, hown, hb1⟩
  obtain ⟨ia, ic, rfl, -⟩ : ∃ a c, v' = .slice a its.length c /\ True := by obtain ⟨a, c, e, _⟩ := (rowAt_own hown).form; exact ⟨a, c, e, trivial⟩
  have HB1 := Lib.hid hb1
  clear hown hb1 HI
  have hmi : (0 : Int) <= (its.length : Int) := by omega
  go_wp2_with (at_make; refine wpList_make_full _ rfl _ _ 57 rfl w1.heap.size 69 i0 (.int .u64 0) 1 Tryz.underlying57 hin hz0 hz1 .i64 .i64 _ _ its.length rfl rfl ?c1 ?c2 ?c3 ?c4 ?c5 ?_)
  case c1 => rfl
  case c2 => rfl
  case c3 => rw [hz2]; omega
  case c4 => unfold maxLen; omega
  case c5 => omega
  intro w5 hown hgrow
  have hb5 : Below w1.heap.size w1 w5 := (Below.refl _ _).grown hgrow (Nat.le_refl _) (fun k hk => by cases hk)
  have hbo : NdB w5 w1.heap.size (needP its ls 0) := by
    rcases hown.2 with ⟨e, _⟩ | ⟨g, cap, cur, e, _, hg, _, _, hsz, htk⟩
    · cases e
    · cases e
      exact ndB_made hg (by omega) (by simpa using htk)
  have HBO := Lib.hid hbo
  have HB5 : Hid (Below w.heap.size w w5) := HB1.out.trans (hb5.mono HB1.out.size)
  have HLN := Lib.hid (HL0.out w5 HB5.out)
  have hg0 := HB1.out.size
  have hg5 := HBO.out.lt
  clear hown hgrow hbo hb5
  generalize w1.heap.size = g at *
  go_wp2_with fail
  refine HLN.out.mono ?_
  rintro e w6 ⟨lv, rfl, hlv, hb6⟩
  obtain ⟨la, lc, rfl⟩ : ∃ a c, lv = .slice a ls.length c := by obtain ⟨a, c, e, _⟩ := (rowAt_own hlv).form; exact ⟨a, c, e⟩
  have HLV := Lib.hid hlv
  have HNB := Lib.hid (HBO.out.below hb6)
  have HB6 : Hid (Below w.heap.size w w6) := HB5.out.trans (hb6.mono HB5.out.size)
  clear hlv hb6 HLN HBO HB5 HL0
  generalize w5.heap.size = B5 at *
  go_wp2_with fail
  go_loopw [13] (fun iV wr => ∃ i : Nat, i <= ls.length /\ iV = .int .i64 (i : Int) /\ NdB wr g (needP its ls i) /\ wr.ownsRow B5 98 7 (.slice la ls.length lc) ls.length (lnCells ls vs) /\ Below w.heap.size w wr) (fun iV _ => ls.length - (intOf iV).toNat)
  case atStart => exact ⟨0, Nat.zero_le _, rfl, HNB.out, HLV.out, HB6.out⟩
  case round =>
    clear HNB HLV HB6
    obtain ⟨i, hil, rfl, hnb, hrow, hbr⟩ := hrel
    by_cases hlt : i < ls.length
    · have hii0 : (0 : Int) <= (i : Int) := by omega
      have hii1 : (i : Int) < (ls.length : Int) := by omega
      have hlns : LnsAt wr (.slice la ls.length lc) ls := ⟨vs, HVS.out.below hbr (Nat.le_refl _), rowAt_own hrow⟩
      obtain ⟨gg, cap', rv, e, hg, hsp, hrg, c0, c1, c2, c3, c4, c5, c6⟩ := hlns.at i hlt
      simp at e
      obtain ⟨rfl, rfl⟩ := e
      have HXM := Lib.hid (lget_mem ls i hlt)
      have HNS : Hid (needP its ls (i + 1) = if (ls.getD i default).kind = 2 then (needP its ls i).set (ownN its (ls.getD i default)) ((needP its ls i).getD (ownN its (ls.getD i default)) 0 ||| (amS its (ls.getD i default).other (ls.getD i default).rng &&& (18446744073709551615 - 2 ^ ownN its (ls.getD i default)))) else needP its ls i) := rfl
      have hnl := needP_len its ls i
      have HNLT := Lib.hid (needP_lt its ls hl i)
      obtain ⟨x, hxe⟩ : ∃ x, ls.getD i default = x := ⟨_, rfl⟩
      rw [hxe] at hsp hrg c0 c1 c2 c3 c4 c5 HXM HNS
      obtain ⟨ra, rc, rfl⟩ := hsp.form
      have hb6 := below_new wr (.cells #[.int .i64 x.kind, .string x.name, .int .i64 x.a, .int .i64 x.b, .int .i64 x.c, .string x.other, .slice ra x.rng.length rc] 98)
      have kx := Blk.new wr 98 #[.int .i64 x.kind, .string x.name, .int .i64 x.a, .int .i64 x.b, .int .i64 x.c, .string x.other, .slice ra x.rng.length rc]
      have HB6 : Hid (Below w.heap.size w (wr.alloc (.cells #[.int .i64 x.kind, .string x.name, .int .i64 x.a, .int .i64 x.b, .int .i64 x.c, .string x.other, .slice ra x.rng.length rc] 98))) := hbr.trans (hb6.mono hbr.size)
      have HSP := Lib.hid (hsp.below hb6 (Nat.le_refl _))
      have HNB := Lib.hid (hnb.below hb6)
      have hgb := hnb.lt
      have HROW := Lib.hid (row_new' hrow hb6)
      clear hsp hxe hb6 hbr hnb hrow hlns
      go_upto_region 5 with fail
      generalize wr.alloc (.cells #[.int .i64 x.kind, .string x.name, .int .i64 x.a, .int .i64 x.b, .int .i64 x.c, .string x.other, .slice ra x.rng.length rc] 98) = W6 at *
      generalize wr.heap.size = bx at *
      clear c0 c1 c2 c3 c4 c5 c6 hg
      have x0 : W6.cell? ⟨bx, 0, none⟩ = some (.int .i64 x.kind) := kx.cell 0
      by_cases hk : x.kind = 2
      · rw [if_pos hk] at HNS
        obtain ⟨ho1, ho2, -⟩ := own_pair HN.out HXM.out (Or.inl hk)
        obtain ⟨hn1, hn2⟩ := check_names (HCK.out x HXM.out)
        have HNU : Hid (∀ W, Below W6.heap.size W6 W -> Calls Tryz.prog 39 #[.pointer (some ⟨bk, 0, none⟩), .string x.name, .agg #[.int .i64 x.a, .int .i64 x.b, .int .i64 x.c]] W fun e w' => e = .returned (.int .i64 (ownN its x : Int)) /\ Below W.heap.size W w') := fun W hb => by
          have := number_c bk ls its x.name x.a x.b x.c W (HCAT.out.below (HB6.out.trans (hb.mono HB6.out.size)) (Nat.le_refl _)) (by omega)
          rw [show (⟨x.name, x.a, x.b, x.c⟩ : It) = x.it from rfl, ho1] at this
          exact this
        have HAM : Hid (∀ W, Below W6.heap.size W6 W -> Calls Tryz.prog 143 #[.pointer (some ⟨bk, 0, none⟩), .string x.other, .agg #[.slice ra x.rng.length rc]] W fun e w' => e = .returned (.int .u64 (amS its x.other x.rng : Int)) /\ Below W.heap.size W w') := fun W hb =>
          pamong_c bk ls its x.other x.rng hrg (.slice ra x.rng.length rc) W (HCAT.out.below (HB6.out.trans (hb.mono HB6.out.size)) (Nat.le_refl _)) hl hn2 (HSP.out.below hb (Nat.le_refl _))
        have HOW : Hid (∀ W, Below W6.heap.size W6 W -> Calls Tryz.prog 145 #[.pointer (some ⟨bk, 0, none⟩), .agg #[.int .i64 2, .string x.name, .int .i64 x.a, .int .i64 x.b, .int .i64 x.c, .string x.other, .slice ra x.rng.length rc]] W fun e w' => e = .returned (.int .u64 ((2 ^ ownN its x : Nat) : Int)) /\ Below W.heap.size W w') := fun W hb => by
          have := pown_c bk ls its x ra rc W (HCAT.out.below (HB6.out.trans (hb.mono HB6.out.size)) (Nat.le_refl _)) hl ho1 ho2
          rw [hk] at this
          exact this
        have ham := amS_lt24 its x.other x.rng hl
        have hpw := pow_64 (ownN its x) (by omega)
        have han := u64_andNot_nat (amS its x.other x.rng) (2 ^ ownN its x) (by omega) hpw
        have hnd := HNLT.out (ownN its x)
        have ha3 := Nat.lt_of_le_of_lt (Nat.and_le_left (n := amS its x.other x.rng) (m := 18446744073709551615 - 2 ^ ownN its x)) ham
        have hor := or_u64 ((needP its ls i).getD (ownN its x) 0) (amS its x.other x.rng &&& (18446744073709551615 - 2 ^ ownN its x)) (by omega) (by omega)
        have hxl := kx.lt
        have SC : Hid (∀ W, Below W6.heap.size W6 W -> W.cell? ⟨bx, 0, none⟩ = some (.int .i64 2) /\ W.cell? ⟨bx, 1, none⟩ = some (.string x.name) /\ W.cell? ⟨bx, 2, none⟩ = some (.int .i64 x.a) /\ W.cell? ⟨bx, 3, none⟩ = some (.int .i64 x.b) /\ W.cell? ⟨bx, 4, none⟩ = some (.int .i64 x.c) /\ W.cell? ⟨bx, 5, none⟩ = some (.string x.other) /\ W.cell? ⟨bx, 6, none⟩ = some (.slice ra x.rng.length rc)) := fun W hb => ⟨by rw [<- hk]; exact (kx.below hb hxl).cell 0, (kx.below hb hxl).cell 1, (kx.below hb hxl).cell 2, (kx.below hb hxl).cell 3, (kx.below hb hxl).cell 4, (kx.below hb hxl).cell 5, (kx.below hb hxl).cell 6⟩
        have HCY : Hid (∀ W, Below W6.heap.size W6 W -> W.cell? ⟨g, ownN its x, none⟩ = some (.int .u64 (((needP its ls i).getD (ownN its x) 0 : Nat) : Int))) := fun W hb => (HNB.out.below hb).cell (by omega)
        have HSE : Hid (∀ W o v, Below W6.heap.size W6 W -> (W.setCell ⟨g, o, none⟩ v).cell? ⟨bx, 0, none⟩ = some (.int .i64 2) /\ (W.setCell ⟨g, o, none⟩ v).cell? ⟨bx, 1, none⟩ = some (.string x.name) /\ (W.setCell ⟨g, o, none⟩ v).cell? ⟨bx, 2, none⟩ = some (.int .i64 x.a) /\ (W.setCell ⟨g, o, none⟩ v).cell? ⟨bx, 3, none⟩ = some (.int .i64 x.b) /\ (W.setCell ⟨g, o, none⟩ v).cell? ⟨bx, 4, none⟩ = some (.int .i64 x.c) /\ (W.setCell ⟨g, o, none⟩ v).cell? ⟨bx, 5, none⟩ = some (.string x.other) /\ (W.setCell ⟨g, o, none⟩ v).cell? ⟨bx, 6, none⟩ = some (.slice ra x.rng.length rc)) := fun W o v hb => by
          obtain ⟨q0, q1, q2, q3, q4, q5, q6⟩ := SC.out W hb
          have hne : bx ≠ g := by omega
          exact ⟨(cell_set_other hne).trans q0, (cell_set_other hne).trans q1, (cell_set_other hne).trans q2, (cell_set_other hne).trans q3, (cell_set_other hne).trans q4, (cell_set_other hne).trans q5, (cell_set_other hne).trans q6⟩
        have HFZ : Hid (∀ W, Below W6.heap.size W6 W -> W.frozen? ⟨g, ownN its x, none⟩ = false) := fun W hb => (HNB.out.below hb).frozen _
        have HEND : Hid (∀ W, Below W6.heap.size W6 W -> NdB (W.setCell ⟨g, ownN its x, none⟩ (.int .u64 (((needP its ls i).getD (ownN its x) 0 ||| (amS its x.other x.rng &&& (18446744073709551615 - 2 ^ ownN its x)) : Nat) : Int))) g (needP its ls (i + 1)) /\ (W.setCell ⟨g, ownN its x, none⟩ (.int .u64 (((needP its ls i).getD (ownN its x) 0 ||| (amS its x.other x.rng &&& (18446744073709551615 - 2 ^ ownN its x)) : Nat) : Int))).ownsRow B5 98 7 (.slice (some ⟨gg, 0, none⟩) ls.length lc) ls.length (lnCells ls vs) /\ Below w.heap.size w (W.setCell ⟨g, ownN its x, none⟩ (.int .u64 (((needP its ls i).getD (ownN its x) 0 ||| (amS its x.other x.rng &&& (18446744073709551615 - 2 ^ ownN its x)) : Nat) : Int)))) := fun W hb => by
          rw [HNS.out]
          exact ⟨(HNB.out.below hb).set _ _, row_setLow (row_new' HROW.out hb) hg5, (HB6.out.trans (hb.mono HB6.out.size)).setCell (p := ⟨g, ownN its x, none⟩) hg0 _⟩
        have D0 : Below W6.heap.size W6 W6.drew := (Below.refl _ _).drew
        have ho3 : (ownN its x : Int) < (its.length : Int) := by omega
        have ho0 : (0 : Int) <= (ownN its x : Int) := by omega
        rw [hk] at x0
        clear hk kx HNS hnd ha3 hpw ho1 ho2 hn1 hn2 HNLT
        generalize (needP its ls i).getD (ownN its x) 0 = N0 at *
        generalize (2 ^ ownN its x : Nat) = P2 at *
        generalize amS its x.other x.rng = AM at *
        generalize AM &&& (18446744073709551615 - P2) = AN at *
        generalize N0 ||| AN = NO at *
        generalize ownN its x = o at *
        go_upto_region 6 with fail
        clear x0
        refine wp_region_noPanic ?_
        refine wp_region_held_drew (S := (fun W => W.cell? ⟨bx, 0, none⟩ = some (.int .i64 2) /\ W.cell? ⟨bx, 1, none⟩ = some (.string x.name) /\ W.cell? ⟨bx, 2, none⟩ = some (.int .i64 x.a) /\ W.cell? ⟨bx, 3, none⟩ = some (.int .i64 x.b) /\ W.cell? ⟨bx, 4, none⟩ = some (.int .i64 x.c) /\ W.cell? ⟨bx, 5, none⟩ = some (.string x.other) /\ W.cell? ⟨bx, 6, none⟩ = some (.slice ra x.rng.length rc))) (by kernel_rfl) (SC.out _ D0) (fun hHeld => ?_)
        refine wpAnyH_take (i := 0) (oi := ⟨_, _, _, _, _, _⟩) (v := ?_) rfl (by as_aux_lemma => kernel_rfl) (by as_aux_lemma => kernel_rfl) (by as_aux_lemma => kernel_rfl) (fun _ _ _ h => h) (Or.inl ⟨by rfl, ?_⟩) (by assumption) ?_
        rotate_left
        · (intro w hSw; (try dsimp only at hSw); first | (go_simp; done) | (go_simp; with_reducible rfl))
        try simp only [Act.put, List.setIfInBounds_toArray, List.set_cons_zero, List.set_cons_succ]
        refine wpAnyH_take (i := 1) (oi := ⟨_, _, _, _, _, _⟩) (v := ?_) rfl (by as_aux_lemma => kernel_rfl) (by as_aux_lemma => kernel_rfl) (by as_aux_lemma => kernel_rfl) (fun _ _ _ h => h) (Or.inl ⟨by rfl, ?_⟩) (by assumption) ?_
        rotate_left
        · (intro w hSw; (try dsimp only at hSw); first | (go_simp; done) | (go_simp; with_reducible rfl))
        try simp only [Act.put, List.setIfInBounds_toArray, List.set_cons_zero, List.set_cons_succ]
        refine wpAnyH_take (i := 2) (oi := ⟨_, _, _, _, _, _⟩) (v := ?_) rfl (by as_aux_lemma => kernel_rfl) (by as_aux_lemma => kernel_rfl) (by as_aux_lemma => kernel_rfl) (fun _ _ _ h => h) (Or.inl ⟨by rfl, ?_⟩) (by assumption) ?_
        rotate_left
        · (intro w hSw; (try dsimp only at hSw); first | (go_simp; done) | (go_simp; with_reducible rfl))
        try simp only [Act.put, List.setIfInBounds_toArray, List.set_cons_zero, List.set_cons_succ]
        refine wpAnyH_take (i := 3) (oi := ⟨_, _, _, _, _, _⟩) (v := ?_) rfl (by as_aux_lemma => kernel_rfl) (by as_aux_lemma => kernel_rfl) (by as_aux_lemma => kernel_rfl) (fun _ _ _ h => h) (Or.inl ⟨by rfl, ?_⟩) (by assumption) ?_
        rotate_left
        · (intro w hSw; (try dsimp only at hSw); first | (go_simp; done) | (go_simp; with_reducible rfl))
        try simp only [Act.put, List.setIfInBounds_toArray, List.set_cons_zero, List.set_cons_succ]
        refine wpAnyH_take (i := 4) (oi := ⟨_, _, _, _, _, _⟩) (v := ?_) rfl (by as_aux_lemma => kernel_rfl) (by as_aux_lemma => kernel_rfl) (by as_aux_lemma => kernel_rfl) (fun _ _ _ h => h) (Or.inl ⟨by rfl, ?_⟩) (by assumption) ?_
        rotate_left
        · (intro w hSw; (try dsimp only at hSw); first | (go_simp; done) | (go_simp; with_reducible rfl))
        try simp only [Act.put, List.setIfInBounds_toArray, List.set_cons_zero, List.set_cons_succ]
        refine wpAnyH_take (i := 5) (oi := ⟨_, _, _, _, _, _⟩) (v := ?_) rfl (by as_aux_lemma => kernel_rfl) (by as_aux_lemma => kernel_rfl) (by as_aux_lemma => kernel_rfl) (fun _ _ _ h => h) (Or.inl ⟨by rfl, ?_⟩) (by assumption) ?_
        rotate_left
        · (intro w hSw; (try dsimp only at hSw); first | (go_simp; done) | (go_simp; with_reducible rfl))
        try simp only [Act.put, List.setIfInBounds_toArray, List.set_cons_zero, List.set_cons_succ]
        refine wpAnyH_take (i := 9) (oi := ⟨_, _, _, _, _, _⟩) (v := ?_) rfl (by as_aux_lemma => kernel_rfl) (by as_aux_lemma => kernel_rfl) (by as_aux_lemma => kernel_rfl) (fun _ _ _ h => h) (Or.inl ⟨by rfl, ?_⟩) (by assumption) ?_
        rotate_left
        · (intro w hSw; (try dsimp only at hSw); first | (go_simp; done) | (go_simp; with_reducible rfl))
        try simp only [Act.put, List.setIfInBounds_toArray, List.set_cons_zero, List.set_cons_succ]
        refine wpAnyH_take (i := 10) (oi := ⟨_, _, _, _, _, _⟩) (v := ?_) rfl (by as_aux_lemma => kernel_rfl) (by as_aux_lemma => kernel_rfl) (by as_aux_lemma => kernel_rfl) (fun _ _ _ h => h) (Or.inl ⟨by rfl, ?_⟩) (by assumption) ?_
        rotate_left
        · (intro w hSw; (try dsimp only at hSw); first | (go_simp; done) | (go_simp; with_reducible rfl))
        try simp only [Act.put, List.setIfInBounds_toArray, List.set_cons_zero, List.set_cons_succ]
        refine wpAnyH_take (i := 11) (oi := ⟨_, _, _, _, _, _⟩) (v := ?_) rfl (by as_aux_lemma => kernel_rfl) (by as_aux_lemma => kernel_rfl) (by as_aux_lemma => kernel_rfl) (fun _ _ _ h => h) (Or.inl ⟨by rfl, ?_⟩) (by assumption) ?_
        rotate_left
        · (intro w hSw; (try dsimp only at hSw); first | (go_simp; done) | (go_simp; with_reducible rfl))
        try simp only [Act.put, List.setIfInBounds_toArray, List.set_cons_zero, List.set_cons_succ]
        refine wpAnyH_take (i := 12) (oi := ⟨_, _, _, _, _, _⟩) (v := ?_) rfl (by as_aux_lemma => kernel_rfl) (by as_aux_lemma => kernel_rfl) (by as_aux_lemma => kernel_rfl) (fun _ _ _ h => h) (Or.inl ⟨by rfl, ?_⟩) (by assumption) ?_
        rotate_left
        · (intro w hSw; (try dsimp only at hSw); first | (go_simp; done) | (go_simp; with_reducible rfl))
        try simp only [Act.put, List.setIfInBounds_toArray, List.set_cons_zero, List.set_cons_succ]
        refine wpAnyH_take (i := 13) (oi := ⟨_, _, _, _, _, _⟩) (v := ?_) rfl (by as_aux_lemma => kernel_rfl) (by as_aux_lemma => kernel_rfl) (by as_aux_lemma => kernel_rfl) (fun _ _ _ h => h) (Or.inl ⟨by rfl, ?_⟩) (by assumption) ?_
        rotate_left
        · (intro w hSw; (try dsimp only at hSw); first | (go_simp; done) | (go_simp; with_reducible rfl))
        try simp only [Act.put, List.setIfInBounds_toArray, List.set_cons_zero, List.set_cons_succ]
        refine wpAnyH_take (i := 15) (oi := ⟨_, _, _, _, _, _⟩) (v := ?_) rfl (by as_aux_lemma => kernel_rfl) (by as_aux_lemma => kernel_rfl) (by as_aux_lemma => kernel_rfl) (fun _ _ _ h => h) (Or.inl ⟨by rfl, ?_⟩) (by assumption) ?_
        rotate_left
        · (intro w hSw; (try dsimp only at hSw); first | (go_simp; done) | (go_simp; with_reducible rfl))
        try simp only [Act.put, List.setIfInBounds_toArray, List.set_cons_zero, List.set_cons_succ]
        refine wpAnyH_take (i := 16) (oi := ⟨_, _, _, _, _, _⟩) (v := ?_) rfl (by as_aux_lemma => kernel_rfl) (by as_aux_lemma => kernel_rfl) (by as_aux_lemma => kernel_rfl) (fun _ _ _ h => h) (Or.inl ⟨by rfl, ?_⟩) (by assumption) ?_
        rotate_left
        · (intro w hSw; (try dsimp only at hSw); first | (go_simp; done) | (go_simp; with_reducible rfl))
        try simp only [Act.put, List.setIfInBounds_toArray, List.set_cons_zero, List.set_cons_succ]
        refine wpAnyH_ready (rs := [6]) (by as_aux_lemma => kernel_rfl) (by simp) ?_
        refine AllReadyH.cons (o := ⟨_, _, _, _, _, _⟩) rfl (fun K hK => ?_) AllReadyH.nil
        go_simp
        refine (HNU.out _ D0).mono ?_
        rintro e y1 ⟨rfl, hbq⟩
        have D1 : Below W6.heap.size W6 y1 := D0.trans (hbq.mono D0.size)
        have cy1 := HCY.out _ D1
        clear HNU D0 hbq
        try simp only
        refine hK.out _ _ ?_ (fun hNew => ?_)
        · exact SC.out _ D1
        clear hK K
        replace hHeld := hNew
        clear hNew
        try simp only [Act.put, List.setIfInBounds_toArray, List.set_cons_zero, List.set_cons_succ]
        refine wpAnyH_take (i := 7) (oi := ⟨_, _, _, _, _, _⟩) (v := ?_) rfl (by as_aux_lemma => kernel_rfl) (by as_aux_lemma => kernel_rfl) (by as_aux_lemma => kernel_rfl) (fun _ _ _ h => h) (Or.inl ⟨by rfl, ?_⟩) (by assumption) ?_
        rotate_left
        · (intro w hSw; (try dsimp only at hSw); first | (go_simp; done) | (go_simp; with_reducible rfl))
        try simp only [Act.put, List.setIfInBounds_toArray, List.set_cons_zero, List.set_cons_succ]
        refine wpAnyH_ready (rs := [8, 14]) (by as_aux_lemma => kernel_rfl) (by simp) ?_
        refine AllReadyH.cons (o := ⟨_, _, _, _, _, _⟩) rfl (fun K hK => ?_) (AllReadyH.cons (o := ⟨_, _, _, _, _, _⟩) rfl (fun K hK => ?_) AllReadyH.nil)
        · go_simp
          refine hK.out _ _ ?_ (fun hNew => ?_)
          · exact hHeld
          clear hK K
          replace hHeld := hNew
          clear hNew
          try simp only [Act.put, List.setIfInBounds_toArray, List.set_cons_zero, List.set_cons_succ]
          refine wpAnyH_ready (rs := [14]) (by as_aux_lemma => kernel_rfl) (by simp) ?_
          refine AllReadyH.cons (o := ⟨_, _, _, _, _, _⟩) rfl (fun K hK => ?_) AllReadyH.nil
          go_simp
          refine (HAM.out _ D1).mono ?_
          rintro e y2 ⟨rfl, hbq⟩
          have D2 : Below W6.heap.size W6 y2 := D1.trans (hbq.mono D1.size)
          have cy2 := HCY.out _ D2
          clear HAM D1 hbq
          try simp only
          refine hK.out _ _ ?_ (fun hNew => ?_)
          · exact SC.out _ D2
          clear hK K
          replace hHeld := hNew
          clear hNew
          try simp only [Act.put, List.setIfInBounds_toArray, List.set_cons_zero, List.set_cons_succ]
          refine wpAnyH_ready (rs := [17]) (by as_aux_lemma => kernel_rfl) (by simp) ?_
          refine AllReadyH.cons (o := ⟨_, _, _, _, _, _⟩) rfl (fun K hK => ?_) AllReadyH.nil
          go_simp
          refine (HOW.out _ D2).mono ?_
          rintro e y3 ⟨rfl, hbq⟩
          have D3 : Below W6.heap.size W6 y3 := D2.trans (hbq.mono D2.size)
          have cy3 := HCY.out _ D3
          have fz := HFZ.out _ D3
          clear HOW D2 hbq
          try simp only
          refine hK.out _ _ ?_ (fun hNew => ?_)
          · exact SC.out _ D3
          clear hK K
          replace hHeld := hNew
          clear hNew
          try simp only [Act.put, List.setIfInBounds_toArray, List.set_cons_zero, List.set_cons_succ]
          refine wpAnyH_take (i := 18) (oi := ⟨_, _, _, _, _, _⟩) (v := ?_) rfl (by as_aux_lemma => kernel_rfl) (by as_aux_lemma => kernel_rfl) (by as_aux_lemma => kernel_rfl) (fun _ _ _ h => h) (Or.inl ⟨by rfl, ?_⟩) (by assumption) ?_
          rotate_left
          · (intro w hSw; (try dsimp only at hSw); first | (go_simp; done) | (go_simp; with_reducible rfl))
          try simp only [Act.put, List.setIfInBounds_toArray, List.set_cons_zero, List.set_cons_succ]
          refine wpAnyH_take (i := 19) (oi := ⟨_, _, _, _, _, _⟩) (v := ?_) rfl (by as_aux_lemma => kernel_rfl) (by as_aux_lemma => kernel_rfl) (by as_aux_lemma => kernel_rfl) (fun _ _ _ h => h) (Or.inl ⟨by rfl, ?_⟩) (by assumption) ?_
          rotate_left
          · (intro w hSw; (try dsimp only at hSw); first | (go_simp; done) | (go_simp; with_reducible rfl))
          try simp only [Act.put, List.setIfInBounds_toArray, List.set_cons_zero, List.set_cons_succ]
          refine wpAnyH_take (i := 20) (oi := ⟨_, _, _, _, _, _⟩) (v := ?_) rfl (by as_aux_lemma => kernel_rfl) (by as_aux_lemma => kernel_rfl) (by as_aux_lemma => kernel_rfl) (fun _ _ _ h => h) (Or.inl ⟨by rfl, ?_⟩) (by assumption) ?_
          rotate_left
          · (intro w hSw; (try dsimp only at hSw); first | (go_simp; done) | (go_simp; with_reducible rfl))
          try simp only [Act.put, List.setIfInBounds_toArray, List.set_cons_zero, List.set_cons_succ]
          refine wpAnyH_ready (rs := [21]) (by as_aux_lemma => kernel_rfl) (by simp) ?_
          refine AllReadyH.cons (o := ⟨_, _, _, _, _, _⟩) rfl (fun K hK => ?_) AllReadyH.nil
          go_simp
          refine hK.out _ _ ?_ (fun hNew => ?_)
          · exact HSE.out _ _ _ D3
          clear hK K
          replace hHeld := hNew
          clear hNew
          try simp only [Act.put, List.setIfInBounds_toArray, List.set_cons_zero, List.set_cons_succ]
          refine wpAnyH_done (by kernel_rfl) (NoPanic.normal ?_) _
          as_aux_lemma =>
            clear hHeld
            have HE := Lib.hid (HEND.out _ D3)
            clear cy3 fz D3 HEND HSE HFZ HCY SC
            go_wp2
            go_roundw
            case rel => exact ⟨i + 1, hlt, by go_num, HE.out⟩
            case measure => simp [intOf]; omega
        · go_simp
          refine (HAM.out _ D1).mono ?_
          rintro e y2 ⟨rfl, hbq⟩
          have D2 : Below W6.heap.size W6 y2 := D1.trans (hbq.mono D1.size)
          have cy2 := HCY.out _ D2
          clear HAM D1 hbq
          try simp only
          refine hK.out _ _ ?_ (fun hNew => ?_)
          · exact SC.out _ D2
          clear hK K
          replace hHeld := hNew
          clear hNew
          try simp only [Act.put, List.setIfInBounds_toArray, List.set_cons_zero, List.set_cons_succ]
          refine wpAnyH_ready (rs := [8, 17]) (by as_aux_lemma => kernel_rfl) (by simp) ?_
          refine AllReadyH.cons (o := ⟨_, _, _, _, _, _⟩) rfl (fun K hK => ?_) (AllReadyH.cons (o := ⟨_, _, _, _, _, _⟩) rfl (fun K hK => ?_) AllReadyH.nil)
          · go_simp
            refine hK.out _ _ ?_ (fun hNew => ?_)
            · exact hHeld
            clear hK K
            replace hHeld := hNew
            clear hNew
            try simp only [Act.put, List.setIfInBounds_toArray, List.set_cons_zero, List.set_cons_succ]
            refine wpAnyH_ready (rs := [17]) (by as_aux_lemma => kernel_rfl) (by simp) ?_
            refine AllReadyH.cons (o := ⟨_, _, _, _, _, _⟩) rfl (fun K hK => ?_) AllReadyH.nil
            go_simp
            refine (HOW.out _ D2).mono ?_
            rintro e y3 ⟨rfl, hbq⟩
            have D3 : Below W6.heap.size W6 y3 := D2.trans (hbq.mono D2.size)
            have cy3 := HCY.out _ D3
            have fz := HFZ.out _ D3
            clear HOW D2 hbq
            try simp only
            refine hK.out _ _ ?_ (fun hNew => ?_)
            · exact SC.out _ D3
            clear hK K
            replace hHeld := hNew
            clear hNew
            try simp only [Act.put, List.setIfInBounds_toArray, List.set_cons_zero, List.set_cons_succ]
            refine wpAnyH_take (i := 18) (oi := ⟨_, _, _, _, _, _⟩) (v := ?_) rfl (by as_aux_lemma => kernel_rfl) (by as_aux_lemma => kernel_rfl) (by as_aux_lemma => kernel_rfl) (fun _ _ _ h => h) (Or.inl ⟨by rfl, ?_⟩) (by assumption) ?_
            rotate_left
            · (intro w hSw; (try dsimp only at hSw); first | (go_simp; done) | (go_simp; with_reducible rfl))
            try simp only [Act.put, List.setIfInBounds_toArray, List.set_cons_zero, List.set_cons_succ]
            refine wpAnyH_take (i := 19) (oi := ⟨_, _, _, _, _, _⟩) (v := ?_) rfl (by as_aux_lemma => kernel_rfl) (by as_aux_lemma => kernel_rfl) (by as_aux_lemma => kernel_rfl) (fun _ _ _ h => h) (Or.inl ⟨by rfl, ?_⟩) (by assumption) ?_
            rotate_left
            · (intro w hSw; (try dsimp only at hSw); first | (go_simp; done) | (go_simp; with_reducible rfl))
            try simp only [Act.put, List.setIfInBounds_toArray, List.set_cons_zero, List.set_cons_succ]
            refine wpAnyH_take (i := 20) (oi := ⟨_, _, _, _, _, _⟩) (v := ?_) rfl (by as_aux_lemma => kernel_rfl) (by as_aux_lemma => kernel_rfl) (by as_aux_lemma => kernel_rfl) (fun _ _ _ h => h) (Or.inl ⟨by rfl, ?_⟩) (by assumption) ?_
            rotate_left
            · (intro w hSw; (try dsimp only at hSw); first | (go_simp; done) | (go_simp; with_reducible rfl))
            try simp only [Act.put, List.setIfInBounds_toArray, List.set_cons_zero, List.set_cons_succ]
            refine wpAnyH_ready (rs := [21]) (by as_aux_lemma => kernel_rfl) (by simp) ?_
            refine AllReadyH.cons (o := ⟨_, _, _, _, _, _⟩) rfl (fun K hK => ?_) AllReadyH.nil
            go_simp
            refine hK.out _ _ ?_ (fun hNew => ?_)
            · exact HSE.out _ _ _ D3
            clear hK K
            replace hHeld := hNew
            clear hNew
            try simp only [Act.put, List.setIfInBounds_toArray, List.set_cons_zero, List.set_cons_succ]
            refine wpAnyH_done (by kernel_rfl) (NoPanic.normal ?_) _
            as_aux_lemma =>
              clear hHeld
              have HE := Lib.hid (HEND.out _ D3)
              clear cy3 fz D3 HEND HSE HFZ HCY SC
              go_wp2
              go_roundw
              case rel => exact ⟨i + 1, hlt, by go_num, HE.out⟩
              case measure => simp [intOf]; omega
          · go_simp
            refine (HOW.out _ D2).mono ?_
            rintro e y3 ⟨rfl, hbq⟩
            have D3 : Below W6.heap.size W6 y3 := D2.trans (hbq.mono D2.size)
            have cy3 := HCY.out _ D3
            have fz := HFZ.out _ D3
            clear HOW D2 hbq
            try simp only
            refine hK.out _ _ ?_ (fun hNew => ?_)
            · exact SC.out _ D3
            clear hK K
            replace hHeld := hNew
            clear hNew
            try simp only [Act.put, List.setIfInBounds_toArray, List.set_cons_zero, List.set_cons_succ]
            refine wpAnyH_take (i := 18) (oi := ⟨_, _, _, _, _, _⟩) (v := ?_) rfl (by as_aux_lemma => kernel_rfl) (by as_aux_lemma => kernel_rfl) (by as_aux_lemma => kernel_rfl) (fun _ _ _ h => h) (Or.inl ⟨by rfl, ?_⟩) (by assumption) ?_
            rotate_left
            · (intro w hSw; (try dsimp only at hSw); first | (go_simp; done) | (go_simp; with_reducible rfl))
            try simp only [Act.put, List.setIfInBounds_toArray, List.set_cons_zero, List.set_cons_succ]
            refine wpAnyH_ready (rs := [8]) (by as_aux_lemma => kernel_rfl) (by simp) ?_
            refine AllReadyH.cons (o := ⟨_, _, _, _, _, _⟩) rfl (fun K hK => ?_) AllReadyH.nil
            go_simp
            refine hK.out _ _ ?_ (fun hNew => ?_)
            · exact hHeld
            clear hK K
            replace hHeld := hNew
            clear hNew
            try simp only [Act.put, List.setIfInBounds_toArray, List.set_cons_zero, List.set_cons_succ]
            refine wpAnyH_take (i := 19) (oi := ⟨_, _, _, _, _, _⟩) (v := ?_) rfl (by as_aux_lemma => kernel_rfl) (by as_aux_lemma => kernel_rfl) (by as_aux_lemma => kernel_rfl) (fun _ _ _ h => h) (Or.inl ⟨by rfl, ?_⟩) (by assumption) ?_
            rotate_left
            · (intro w hSw; (try dsimp only at hSw); first | (go_simp; done) | (go_simp; with_reducible rfl))
            try simp only [Act.put, List.setIfInBounds_toArray, List.set_cons_zero, List.set_cons_succ]
            refine wpAnyH_take (i := 20) (oi := ⟨_, _, _, _, _, _⟩) (v := ?_) rfl (by as_aux_lemma => kernel_rfl) (by as_aux_lemma => kernel_rfl) (by as_aux_lemma => kernel_rfl) (fun _ _ _ h => h) (Or.inl ⟨by rfl, ?_⟩) (by assumption) ?_
            rotate_left
            · (intro w hSw; (try dsimp only at hSw); first | (go_simp; done) | (go_simp; with_reducible rfl))
            try simp only [Act.put, List.setIfInBounds_toArray, List.set_cons_zero, List.set_cons_succ]
            refine wpAnyH_ready (rs := [21]) (by as_aux_lemma => kernel_rfl) (by simp) ?_
            refine AllReadyH.cons (o := ⟨_, _, _, _, _, _⟩) rfl (fun K hK => ?_) AllReadyH.nil
            go_simp
            refine hK.out _ _ ?_ (fun hNew => ?_)
            · exact HSE.out _ _ _ D3
            clear hK K
            replace hHeld := hNew
            clear hNew
            try simp only [Act.put, List.setIfInBounds_toArray, List.set_cons_zero, List.set_cons_succ]
            refine wpAnyH_done (by kernel_rfl) (NoPanic.normal ?_) _
            as_aux_lemma =>
              clear hHeld
              have HE := Lib.hid (HEND.out _ D3)
              clear cy3 fz D3 HEND HSE HFZ HCY SC
              go_wp2
              go_roundw
              case rel => exact ⟨i + 1, hlt, by go_num, HE.out⟩
              case measure => simp [intOf]; omega
      · rw [if_neg hk] at HNS
        have HNB2 : Hid (NdB W6 g (needP its ls (i + 1))) := by show NdB _ _ _; rw [HNS.out]; exact HNB.out
        clear HNS kx
        go_wp2
        go_roundw
        case rel => exact ⟨i + 1, hlt, by go_num, HNB2.out, HROW.out, HB6.out⟩
        case measure => simp [intOf]; omega
    · obtain rfl : i = ls.length := by omega
      have HNB := Lib.hid hnb
      have HBR := Lib.hid hbr
      clear hnb hrow hbr
      go_wp2
      go_ret
      exact ⟨g, rfl, hg0, HNB.out, HBR.out⟩
end
end Go.Proofs.YtpmpnbbihmgdpaaGreatDoor
