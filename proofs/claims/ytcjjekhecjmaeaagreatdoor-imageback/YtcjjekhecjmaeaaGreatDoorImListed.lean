/- listed: its walk, and listed itself. -/
import Derived.Test.YtcjjekhecjmaeaaGreatDoorImWalk
import Derived.Deep.AppendLies
set_option maxHeartbeats 8000000
set_option maxRecDepth 100000
namespace Go.Proofs.YtcjjekhecjmaeaaGreatDoor
open Go.RowKit Go.Maps
theorem listed_len {ns : List Nd} {D : List Int} (h : Listed ns D) : D.length <= ns.length := by
 have := h.nodup.length_le_of_subset (l₂ := (List.range ns.length).map (fun i : Nat => 2 + (i : Int))) (fun x hx => by
  obtain ⟨h1, h2, -, h4⟩ := node_at (h.node x hx)
  exact List.mem_map.2 ⟨pl x, List.mem_range.2 h2, h4.symm⟩)
 simpa using this
section
variable {B A : Nat} {w w' w'' : World} {s b : Nat} {O : Nat -> Prop} {vars : Nat} {room : Int} {ns : List Nd} {nb sb fb ob bm : Nat} {D D' : List Int} {v v' v'' : Value}
def LOut (B A s b : Nat) (O : Nat -> Prop) (vars : Nat) (room : Int) (ns : List Nd) (nb sb fb ob bm : Nat) (D' : List Int) (h : Int) (v : Value) (w : World) (e : Ending) (w' : World) : Prop :=
 ∃ v', e = .returned (.int .i64 (numD D' h)) /\ NumSt B A w' s b O vars room ns nb sb fb ob bm D' v' /\ Fr ob bm v w w' v'
theorem walk_there (hS : NumSt B A w s b O vars room ns nb sb fb ob bm D v) (h : Int) (hi : InD D h) :
  Calls Tryz.prog 84 #[.int .i64 h, .pointer (some ⟨nb, 0, none⟩), .pointer (some ⟨sb, 0, none⟩), .pointer (some ⟨fb, 0, none⟩), .pointer (some ⟨ob, 0, none⟩)] w (LOut B A s b O vars room ns nb sb fb ob bm D h v w) := by
 obtain ⟨Dm, m1, m2⟩ := hS.map
 have hlk := ilook_found m1 m2 (numL_mem hi)
 have cn := hS.cn
 have HS := Lib.hid hS
 clear hS m1 m2
 simp only at hlk
 unfold LOut
 generalize numD D h = x at *
 go_enter Tryz.func84, Tryz.ntmps84
 go_wp2
 go_ret
 exact ⟨v, rfl, HS.out, Fr.refl⟩
theorem put3_1 {W : World} {nk : Nat} {a x c y : Value} {t : TypeId} (h : W.heap[nk]? = some (.cells #[a, x, c] t)) : (W.setCell ⟨nk, 1, none⟩ y).heap[nk]? = some (.cells #[a, y, c] t) := by
 obtain ⟨hlt, hk⟩ := Array.getElem?_eq_some_iff.1 h
 show (W.heap.modify nk _)[nk]? = _
 rw [Array.getElem?_eq_getElem (by rw [Array.size_modify]; exact hlt), Array.getElem_modify_self, hk]
 rfl
theorem put3_2 {W : World} {nk : Nat} {a x c y : Value} {t : TypeId} (h : W.heap[nk]? = some (.cells #[a, x, c] t)) : (W.setCell ⟨nk, 2, none⟩ y).heap[nk]? = some (.cells #[a, x, y] t) := by
 obtain ⟨hlt, hk⟩ := Array.getElem?_eq_some_iff.1 h
 show (W.heap.modify nk _)[nk]? = _
 rw [Array.getElem?_eq_getElem (by rw [Array.size_modify]; exact hlt), Array.getElem_modify_self, hk]
 rfl
theorem Fr.put {nk i : Nat} {y : Value} (h : Fr ob bm v w w' v') (hn : w.heap.size <= nk) : Fr ob bm v w (w'.setCell ⟨nk, i, none⟩ y) v' :=
 ⟨h.kept.andThen (Kept.setCell (S := fun k => k = nk) w' ⟨nk, i, none⟩ y rfl) (fun j e hlt => by have e' : j = nk := e; omega), h.own⟩
theorem beside {nk : Nat} (hS : NumSt B A w s b O vars room ns nb sb fb ob bm D v) (hn : w.heap.size <= nk) : B <= nk /\ nk ≠ nb /\ nk ≠ sb /\ nk ≠ fb /\ nk ≠ ob /\ nk ≠ bm /\ v.ownBlock ≠ some nk := by
 obtain ⟨l1, l2, l3, l4⟩ := hS.lt
 have := hS.olt
 have := hS.hB
 exact ⟨by omega, by omega, by omega, by omega, by omega, by omega, fun e => by have := (hS.row.lt nk e).2; omega⟩
theorem beside_fr {nk : Nat} (hS : NumSt B A w s b O vars room ns nb sb fb ob bm D v) (hn : w.heap.size <= nk) (hl : v'.ownBlock ≠ some nk) : ¬ Wr ob bm v' nk := fun e => by
 obtain ⟨b1, b2, b3, b4, b5, b6, b7⟩ := beside hS hn
 rcases e with e | e | e
 ·exact b5 e
 ·exact b6 e
 ·exact hl e
theorem walk_node (hr : Ranked ns) (hl : ns.length <= 5000) (d : Nat)
  (IH : ∀ (h : Int) (D : List Int) (v : Value) (w : World), NumSt B A w s b O vars room ns nb sb fb ob bm D v -> Listed ns D -> hasB ns h = true -> 24 <= topOf ns h + d -> Calls Tryz.prog 84 #[.int .i64 h, .pointer (some ⟨nb, 0, none⟩), .pointer (some ⟨sb, 0, none⟩), .pointer (some ⟨fb, 0, none⟩), .pointer (some ⟨ob, 0, none⟩)] w (LOut B A s b O vars room ns nb sb fb ob bm (postF ns d h D) h v w))
  (h : Int) (D : List Int) (v : Value) (w : World) (hS : NumSt B A w s b O vars room ns nb sb fb ob bm D v) (hD : Listed ns D) (hh : hasB ns h = true) (ht : 24 <= topOf ns h + (d + 1 : Nat)) (hn : ¬ (topOf ns h = 24 \/ h ∈ D)) :
  Calls Tryz.prog 84 #[.int .i64 h, .pointer (some ⟨nb, 0, none⟩), .pointer (some ⟨sb, 0, none⟩), .pointer (some ⟨fb, 0, none⟩), .pointer (some ⟨ob, 0, none⟩)] w (LOut B A s b O vars room ns nb sb fb ob bm (postF ns (d + 1) h D) h v w) := by
 have ht24 : topOf ns h ≠ 24 := fun e => hn (.inl e)
 obtain ⟨k1, k2, k3, k4⟩ := kids hr ht24
 have hI := has_i64 hh (by omega)
 obtain ⟨n1, n2, n3, n4⟩ := node_at ht24
 have hni : ¬ InD D h := fun e => by
  rcases e with e | e | e
  ·omega
  ·omega
  ·exact hn (.inr e)
 obtain ⟨Dm, m1, m2⟩ := hS.map
 have hlk := ilook_none m1 m2 hI (fun hm => hni ((numL_keys D h).1 hm))
 have cn := hS.cn
 have cs := hS.cs
 have s0 := hS.space.c0
 have hG := spGet hS.space h hI (by omega)
 have hgo : getOf ns h = nd ns (pl h) := by unfold getOf; rw [if_neg ht24]; rfl
 have dt : decide (topOf ns h ≠ 24) = true := by simp [ht24]
 rw [hgo, dt] at hG
 obtain ⟨P1, P2, P3⟩ := post_ok hr d _ D hD k2 (by omega)
 obtain ⟨Q1, Q2, Q3⟩ := post_ok hr d _ _ P1 k4 (by omega)
 have hpost : postF ns (d + 1) h D = postF ns d (nd ns (pl h)).h (postF ns d (nd ns (pl h)).l D) ++ [h] := by
  rw [show postF ns (d + 1) h D = _ from rfl]
  unfold postF
  rw [if_neg hn]
  cases d <;> rfl
 have hn2 : h ∉ postF ns d (nd ns (pl h)).h (postF ns d (nd ns (pl h)).l D) := fun hm => by
  rcases Q3 h hm with hm | hm
  ·rcases P3 h hm with hm | hm
   ·exact hn (.inr hm)
   ·omega
  ·omega
 rw [hpost]
 have IL := Lib.hid (fun W v (hW : NumSt B A W s b O vars room ns nb sb fb ob bm D v) => IH _ D v W hW hD k2 (by omega))
 have IHH := Lib.hid (fun W v (hW : NumSt B A W s b O vars room ns nb sb fb ob bm (postF ns d (nd ns (pl h)).l D) v) => IH _ _ v W hW P1 k4 (by omega))
 have hlR : InD (postF ns d (nd ns (pl h)).h (postF ns d (nd ns (pl h)).l D)) (nd ns (pl h)).l := P2.mono (fun x hx => post_mono hx)
 have hnl : numD (postF ns d (nd ns (pl h)).l D) (nd ns (pl h)).l = numD (postF ns d (nd ns (pl h)).h (postF ns d (nd ns (pl h)).l D)) (nd ns (pl h)).l := by
  obtain ⟨E, e⟩ := post_pre (ns := ns) d (nd ns (pl h)).h (postF ns d (nd ns (pl h)).l D)
  rw [e, numD_app P2]
 have hent : ent ns (postF ns d (nd ns (pl h)).h (postF ns d (nd ns (pl h)).l D)) h = [.int .i64 (nd ns (pl h)).v, .int .i64 (numD (postF ns d (nd ns (pl h)).l D) (nd ns (pl h)).l), .int .i64 (numD (postF ns d (nd ns (pl h)).h (postF ns d (nd ns (pl h)).l D)) (nd ns (pl h)).h)] := by
  unfold ent; rw [hnl]
 have hsnoc := entL_snoc Q1 hlR Q2 (h := h)
 rw [hent] at hsnoc
 have hnum := numD_new (by omega) (by omega) hn2
 have hput := numL_put (D := postF ns d (nd ns (pl h)).h (postF ns d (nd ns (pl h)).l D)) (h := h) (fun e => by
  rcases e with e | e | e
  ·omega
  ·omega
  ·exact hn2 e)
 have hlen := listed_len Q1
 generalize postF ns d (nd ns (pl h)).h (postF ns d (nd ns (pl h)).l D) = R at *
 generalize postF ns d (nd ns (pl h)).l D = L at *
 have HSN := Lib.hid hsnoc
 have HNUM := Lib.hid hnum
 have HPUT := Lib.hid hput
 have HS := Lib.hid hS
 have HI := Lib.hid hI
 generalize nd ns (pl h) = nn at *
 obtain ⟨nv, nl, nh⟩ := nn
 simp only at hG IL IHH hnl hlR HSN
 unfold Nd.val at hG
 have HG := Lib.hid hG
 clear hG hgo dt P1 P2 P3 Q1 Q2 Q3 hn2 hpost hent hnl hlR hsnoc hnum hput k1 k2 k3 k4 n1 n2 n3 n4 hni hD hh ht hn ht24 m1 m2 hI IH
 unfold LOut at IL IHH
 generalize numD L nl = xl at *
 generalize numD R nh = xh at *
 go_enter Tryz.func84, Tryz.ntmps84
 go_wp2_with fail
 refine HG.out.mono ?_
 rintro e w1 ⟨rfl, hb1⟩
 have hS1 := HS.out.new hb1
 have hz1 := hb1.size
 have hbn := below_new w1 (.cells #[.int .i64 nv, .int .i64 nl, .int .i64 nh] 102)
 obtain ⟨q0, q1, q2, q3⟩ := cell3 w1 (.int .i64 nv) (.int .i64 nl) (.int .i64 nh) 102
 have hnk : (w1.alloc (.cells #[.int .i64 nv, .int .i64 nl, .int .i64 nh] 102)).heap[w1.heap.size]? = some (.cells #[.int .i64 nv, .int .i64 nl, .int .i64 nh] 102) := MapKept.heap_alloc w1 _ |>.1
 have hS2 := hS1.new hbn
 have hF2 : Fr ob bm v w (w1.alloc (.cells #[.int .i64 nv, .int .i64 nl, .int .i64 nh] 102)) v := Fr.of_below (hb1.trans (hbn.mono hz1))
 have hnl2 : w1.heap.size < (w1.alloc (.cells #[.int .i64 nv, .int .i64 nl, .int .i64 nh] 102)).heap.size := by simp
 have cf2 := hS2.cf
 have hkz : w.heap.size <= w1.heap.size := hz1
 have HS2 := Lib.hid hS2
 have HF2 := Lib.hid hF2
 have HNK := Lib.hid hnk
 clear hS1 hS2 hF2 hnk hbn hb1 HG cn cs s0
 go_upto_region 5 with fail
 generalize (w1.alloc (.cells #[.int .i64 nv, .int .i64 nl, .int .i64 nh] 102)) = w2 at *
 generalize w1.heap.size = nk at *
 clear q0 q2 q3
 go_wp2_with fail
 refine (IL.out w2 v HS2.out).mono ?_
 rintro e w3 ⟨v3, rfl, hS3, hF3⟩
 obtain ⟨x1, x2, x3, x4, x5, x6, x7⟩ := beside HS.out hkz
 have o3 : v3.ownBlock ≠ some nk := fun e => by
  rcases hF3.own nk e with e | e
  ·exact x7 e
  ·omega
 have hnk3 : w3.heap[nk]? = some (.cells #[.int .i64 nv, .int .i64 nl, .int .i64 nh] 102) := (hF3.kept.block nk hnl2 (beside_fr HS.out hkz x7)).trans HNK.out
 have c31 : w3.cell? ⟨nk, 1, none⟩ = some (.int .i64 nl) := by simp [World.cell?, hnk3]
 have f31 : w3.frozen? ⟨nk, 1, none⟩ = false := by simp [World.frozen?, hnk3]
 have hnk4 : (w3.setCell ⟨nk, 1, none⟩ (.int .i64 xl)).heap[nk]? = some (.cells #[.int .i64 nv, .int .i64 xl, .int .i64 nh] 102) := put3_1 hnk3
 have hS4 : NumSt B A (w3.setCell ⟨nk, 1, none⟩ (.int .i64 xl)) s b O vars room ns nb sb fb ob bm L v3 := hS3.kept (Kept.setCell (S := fun k => k = nk) w3 ⟨nk, 1, none⟩ _ rfl) (fun k e => by have e' : k = nk := e; subst e'; exact ⟨x1, x2, x3, x4, x5, x6, o3⟩)
 have hF4 := (HF2.out.trans hF3).put (nk := nk) (i := 1) (y := .int .i64 xl) hkz
 have z4 : nk < (w3.setCell ⟨nk, 1, none⟩ (.int .i64 xl)).heap.size := (Array.getElem?_eq_some_iff.1 hnk4).1
 have c42 : (w3.setCell ⟨nk, 1, none⟩ (.int .i64 xl)).cell? ⟨nk, 2, none⟩ = some (.int .i64 nh) := by simp [World.cell?, hnk4]
 have cf4 := hS4.cf
 go_upto_region 6 with fail
 generalize (w3.setCell ⟨nk, 1, none⟩ (.int .i64 xl)) = w4 at *
 go_wp2_with fail
 refine (IHH.out w4 v3 hS4).mono ?_
 rintro e w5 ⟨v5, rfl, hS5, hF5⟩
 have o5 : v5.ownBlock ≠ some nk := fun e => by
  rcases hF5.own nk e with e | e
  ·exact o3 e
  ·omega
 have hnk5 : w5.heap[nk]? = some (.cells #[.int .i64 nv, .int .i64 xl, .int .i64 nh] 102) := (hF5.kept.block nk z4 (beside_fr HS.out hkz o3)).trans hnk4
 have c52 : w5.cell? ⟨nk, 2, none⟩ = some (.int .i64 nh) := by simp [World.cell?, hnk5]
 have f52 : w5.frozen? ⟨nk, 2, none⟩ = false := by simp [World.frozen?, hnk5]
 have hnk6 : (w5.setCell ⟨nk, 2, none⟩ (.int .i64 xh)).heap[nk]? = some (.cells #[.int .i64 nv, .int .i64 xl, .int .i64 xh] 102) := put3_2 hnk5
 have hS6 : NumSt B A (w5.setCell ⟨nk, 2, none⟩ (.int .i64 xh)) s b O vars room ns nb sb fb ob bm R v5 := hS5.kept (Kept.setCell (S := fun k => k = nk) w5 ⟨nk, 2, none⟩ _ rfl) (fun k e => by have e' : k = nk := e; subst e'; exact ⟨x1, x2, x3, x4, x5, x6, o5⟩)
 have hF6 : Fr ob bm v w (w5.setCell ⟨nk, 2, none⟩ (.int .i64 xh)) v5 := (hF4.trans hF5).put hkz
 go_upto_region 7 with fail
 generalize (w5.setCell ⟨nk, 2, none⟩ (.int .i64 xh)) = w6 at *
 have e0 : w6.cell? ⟨nk, 0, none⟩ = some (.int .i64 nv) := by simp [World.cell?, hnk6]
 have e1 : w6.cell? ⟨nk, 1, none⟩ = some (.int .i64 xl) := by simp [World.cell?, hnk6]
 have e2 : w6.cell? ⟨nk, 2, none⟩ = some (.int .i64 xh) := by simp [World.cell?, hnk6]
 have co6 := hS6.c0
 obtain ⟨i0, hin, hz0, hz1', hz2⟩ := info_parts infoNode
 have HS6 := Lib.hid hS6
 have HF6 := Lib.hid hF6
 have hrow7 := row3_new hS6.row (below_new w6 (.cells #[.int .i64 nv, .int .i64 xl, .int .i64 xh] 102))
 have hB7 : B <= (w6.alloc (.cells #[.int .i64 nv, .int .i64 xl, .int .i64 xh] 102)).heap.size := by have := hS6.hB; simp; omega
 have HNEWS : ∀ j u, ([.int .i64 nv, .int .i64 xl, .int .i64 xh] : List Value)[j]? = some u -> (w6.alloc (.cells #[.int .i64 nv, .int .i64 xl, .int .i64 xh] 102)).cell? ((⟨w6.heap.size, 0, none⟩ : Addr).add j) = some u := World.news_of_block (cs := #[.int .i64 nv, .int .i64 xl, .int .i64 xh]) (MapKept.heap_alloc w6 _).1
 have HONE : ∀ u ∈ ([.int .i64 nv, .int .i64 xl, .int .i64 xh] : List Value), u.oneCell' = true := fun u hu => by
  simp at hu
  rcases hu with rfl | rfl | rfl <;> rfl
 have HR7 := Lib.hid hrow7
 have HB7 := Lib.hid hB7
 have HNW := Lib.hid HNEWS
 have HON := Lib.hid HONE
 clear hS3 hF3 hS4 hS5 hF5 hS6 hF6 hrow7 hB7 HNEWS HONE c31 f31 c42 cf4 c52 f52 hnk3 hnk4 hnk5 hnk6 hF4 z4 o3 o5 x1 x2 x3 x4 x5 x6 x7
 go_wp2_with (at_builtin; refine wpList_append_own_at _ rfl _ _ 98 rfl B 102 i0 (.agg #[.int .i64 0, .int .i64 0, .int .i64 0]) 3 24 Tryz.underlying98 hin hz0 hz1' hz2 rfl (by decide) _ _ _ rfl HR7.out ⟨w6.heap.size, 0, none⟩ 1 1 [.int .i64 nv, .int .i64 xl, .int .i64 xh] rfl rfl HNW.out HON.out ?a1 ?a2 ?a3 ?_)
 case a1 => unfold maxLen; omega
 case a2 => omega
 case a3 => exact HB7.out
 intro v8 w8 hown8 hgrow8 _ hloc8
 obtain ⟨a8, d8, rfl⟩ : ∃ a d, v8 = .slice a (R.length + 1) d := by
  rcases hown8.2 with ⟨h1, h2⟩ | ⟨g, cap, cur, h1, -⟩
  ·omega
  ·exact ⟨_, _, h1⟩
 rw [<- HSN.out] at hown8
 have hk8 : Kept (fun k => v5.ownBlock = some k) w6 w8 := (Kept.alloc (fun k => v5.ownBlock = some k) w6 _).trans (Kept.of_grown hgrow8 (fun i e => e))
 have hlc : ∀ k, (Value.slice a8 (R.length + 1) d8).ownBlock = some k -> v5.ownBlock = some k \/ w6.heap.size <= k := fun k hk => by
  rcases hloc8 with e | e
  ·exact .inl (by rw [<- e]; exact hk)
  ·rw [hk] at e
   cases e
   exact .inr (by simp)
 have hown8' : w8.ownsRow B 102 3 (.slice a8 (R.length + 1) d8) (R ++ [h]).length (entL ns (R ++ [h])) := by
  rw [List.length_append, List.length_singleton]; exact hown8
 have ov6 : v5.ownBlock ≠ some ob := fun e => (HS6.out.own _ e).2.2.2.1 rfl
 have b8 : w8.heap[ob]? = some (.cells #[v5] 98) := (hk8.block ob HS6.out.olt ov6).trans HS6.out.co
 have c8 : w8.cell? ⟨ob, 0, none⟩ = some v5 := by simp [World.cell?, b8]
 have f8 : w8.frozen? ⟨ob, 0, none⟩ = false := by simp [World.frozen?, b8]
 have cn9 : (w8.setCell ⟨ob, 0, none⟩ (.slice a8 (R.length + 1) d8)).cell? ⟨nb, 0, none⟩ = some (.map (some bm)) := by
  rw [World.cell?_setCell_far _ _ _ _ (fun e => HS6.out.ne.1 e.symm)]
  exact (hk8.cell (a := ⟨nb, 0, none⟩) HS6.out.lt.1 (fun e => (HS6.out.own _ e).1 rfl)).trans HS6.out.cn
 obtain ⟨Dm, m1, m2⟩ := HS6.out.map
 have hk9 : Kept (fun k => v5.ownBlock = some k \/ k = ob) w6 (w8.setCell ⟨ob, 0, none⟩ (.slice a8 (R.length + 1) d8)) := (hk8.mono (fun k e => .inl e)).trans (Kept.setCell _ _ _ (.inr rfl))
 have hm9 : (w8.setCell ⟨ob, 0, none⟩ (.slice a8 (R.length + 1) d8)).ownsMap Tryz.prog 3 (plainElem Tryz.prog 3) bm (numL R).length Dm := ownsMap_kept m1 hk9 (fun e => by
  rcases e with e | e
  ·exact (HS6.out.own _ e).2.2.2.2 rfl
  ·exact HS6.out.ne.2.2.2.1 e)
 have hsz9 : (Maps.size Dm : Int) = ((R.length + 2 : Nat) : Int) := by rw [m2.size, numL_len]
 obtain ⟨w10, D10, hput, p1, p2, p3⟩ := istore hm9 m2 (by rw [numL_len]; omega) HI.out (x := 2 + (R.length : Int)) ⟨by omega, by omega⟩
 rw [HPUT.out] at p1 p2
 obtain ⟨hSF, hFF⟩ := NumSt.grow HS6.out hk8 hown8' hlc rfl p3 ⟨D10, p1, p2⟩
 have HFIN : Hid (LOut B A s b O vars room ns nb sb fb ob bm (R ++ [h]) h v w (.returned (.int .i64 (2 + (R.length : Int)))) w10) := ⟨_, by rw [HNUM.out], hSF, HF6.out.trans hFF⟩
 have hl5 : R.length <= 5000 := by omega
 have hx2 : (2 + (R.length : Int)) = (Maps.size Dm : Int) := by omega
 rw [hx2] at hput
 have HX2 := Lib.hid hx2
 clear hown8 hown8' hgrow8 hloc8 hk8 hlc hk9 m1 m2 p1 p2 p3 hSF hFF HS6 HF6 b8 e0 e1 e2 co6 ov6 HS2 HF2 HNK HS hx2 hsz9
 go_wp2_with (at_len; refine wpList_len_own _ rfl _ 147 rfl 3 3 Tryz.underlying147 _ bm _ Dm rfl hm9 ?_)
 go_ret
 rw [<- HX2.out]
 exact HFIN.out
theorem walk_any (hr : Ranked ns) (hl : ns.length <= 5000) : ∀ (d : Nat) (h : Int) (D : List Int) (v : Value) (w : World), NumSt B A w s b O vars room ns nb sb fb ob bm D v -> Listed ns D -> hasB ns h = true -> 24 <= topOf ns h + d -> Calls Tryz.prog 84 #[.int .i64 h, .pointer (some ⟨nb, 0, none⟩), .pointer (some ⟨sb, 0, none⟩), .pointer (some ⟨fb, 0, none⟩), .pointer (some ⟨ob, 0, none⟩)] w (LOut B A s b O vars room ns nb sb fb ob bm (postF ns d h D) h v w)
 | 0, h, D, v, w, hS, _, hh, ht => by
  have h24 := (topOf_le hr h).2
  exact walk_there hS h (by
   rcases hasB_cases hh with e | e | e
   ·exact .inl e
   ·exact .inr (.inl e)
   ·omega)
 | d + 1, h, D, v, w, hS, hD, hh, ht => by
  by_cases c : topOf ns h = 24 \/ h ∈ D
  ·have e : postF ns (d + 1) h D = D := by unfold postF; rw [if_pos c]
   rw [e]
   exact walk_there hS h (by
    rcases c with c | c
    ·rcases hasB_cases hh with e | e | e
     ·exact .inl e
     ·exact .inr (.inl e)
     ·omega
    ·exact .inr (.inr c))
  ·exact walk_node hr hl d (fun h D v w h1 h2 h3 h4 => walk_any hr hl d h D v w h1 h2 h3 h4) h D v w hS hD hh ht c
end
end Go.Proofs.YtcjjekhecjmaeaaGreatDoor
