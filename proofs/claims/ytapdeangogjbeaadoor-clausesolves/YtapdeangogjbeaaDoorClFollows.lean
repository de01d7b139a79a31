/- Follows. -/
import Derived.Test.YtapdeangogjbeaaDoorClBlk
namespace Go.Proofs.YtapdeangogjbeaaDoor
open Go.RowKit Go.Deep

/-- What is assumed, told in order, each once; none: it may not be. -/
def assumeF (v : Int) : List Int → List Int → Option (List Int)
  | told, [] => some told
  | told, x :: xs => if litB v x = true ∧ -x ∉ told then (if x ∈ told then assumeF v told xs else assumeF v (told ++ [x]) xs) else none

/-- What Follows has in memory. -/
structure FS (w wr : World) (nb : Nat) (tV : Value) (v : Int) (told : List Int) : Prop where
  row : wr.ownsRow w.heap.size 3 1 tV told.length (icells told)
  blk : Blk wr nb 68 (tvl told).toArray
  below : Below w.heap.size w wr
  cons : Cons told
  lits : Lits v told
  few : told.length + free told ≤ 24
  nbB : w.heap.size ≤ nb

section
variable {w wr wr' : World} {nb : Nat} {tV : Value} {v : Int} {told : List Int}
theorem FS.new (h : FS w wr nb tV v told) (hb : Below wr.heap.size wr wr') : FS w wr' nb tV v told :=
  ⟨row_new h.row hb, h.blk.below hb h.blk.lt, h.below.trans (hb.mono h.below.size), h.cons, h.lits, h.few, h.nbB⟩
theorem FS.vals (h : FS w wr nb tV v told) : ValsAt wr ⟨nb, 0, none⟩ told := vals_of (pre := []) (post := []) (by simpa using h.blk)

/-- Behind tell: the block has one more, the row not yet. -/
structure FS1 (w wr : World) (nb : Nat) (tV : Value) (v : Int) (told : List Int) (x : Int) : Prop where
  row : wr.ownsRow w.heap.size 3 1 tV told.length (icells told)
  blk : Blk wr nb 68 (tvl (told ++ [x])).toArray
  below : Below w.heap.size w wr
  cons : Cons (told ++ [x])
  lits : Lits v (told ++ [x])
  few : (told ++ [x]).length + free (told ++ [x]) ≤ 24
  nbB : w.heap.size ≤ nb
theorem FS.tell (h : FS w wr nb tV v told) {x : Int} (hv : v ≤ 24) (hx : litB v x = true) (h0 : x ∉ told) (h1 : -x ∉ told) : FS1 w (wr.setCell ((⟨nb, 0, none⟩ : Addr).add (tellAt x)) (.int .i8 (tellV x))) nb tV v told x := by
  have hl := lit_24 hv hx
  have hb := blk_tell (pre := []) (post := []) hl h1 (by simpa using h.blk)
  have hne : tV.ownBlock ≠ some nb := Lib.ownBlock_ne h.row h.blk (by decide)
  refine ⟨ownsRow_setCell_other h.row (by rw [addr_block]; exact hne) _, by simpa using hb, h.below.setCell (by rw [addr_block]; exact h.nbB) _, cons_tell h.cons (litB_iff.1 hx).1 h1, lits_tell h.lits hx, ?_, h.nbB⟩
  have := free_tell hl h0 h1
  have := h.few
  simp
  omega
theorem FS1.app {x : Int} {v' : Value} (h : FS1 w wr nb tV v told x) (o : Obj) (hown : wr'.ownsRow w.heap.size 3 1 v' (told.length + 1) (icells told ++ [.int .i64 x])) (hg : (wr.alloc o).grownBy wr' tV.ownBlock) : FS w wr' nb v' v (told ++ [x]) := by
  have hne : tV.ownBlock ≠ some nb := Lib.ownBlock_ne h.row h.blk (by decide)
  rw [← icells_snoc] at hown
  refine ⟨by simpa using hown, (h.blk.alloc o).kept hg (fun e => hne e.symm), ?_, h.cons, h.lits, h.few, h.nbB⟩
  exact (h.below.alloc h.below.size o).grown hg (by have := h.below.size; simp; omega) (fun k hk => (h.row.lt k hk).1)
end

theorem cell_lit (w : World) (x : Int) (t : TypeId) : ∀ (j : Nat) (u : Value), [Value.int .i64 x][j]? = some u → (w.alloc (.cells #[.int .i64 x] t)).cell? ((⟨w.heap.size, 0, none⟩ : Addr).add j) = some u := by
  intro j u hu
  cases j with
  | zero => simp at hu; subst hu; rw [add_plain]; simp
  | succ j => simp at hu
theorem one_lit (x : Int) : ∀ u ∈ [Value.int .i64 x], u.oneCell' = true := by
  intro u hu
  rw [List.mem_singleton] at hu
  subst hu
  rfl

def FollowsR (v : Int) (l : List (List Int)) (assume : List Int) (e : Ending) (w' : World) : Prop :=
  ((checkF v l).1 ≠ 0 ∧ ∃ er, e = .returned (.tuple #[.slice none 0 0, .int .i64 0, er]) ∧ ErrIs w' er (checkF v l).1 (checkF v l).2) ∨
  ((checkF v l).1 = 0 ∧ assumeF v [] assume = none ∧ e = .returned (.tuple #[.slice none 0 0, .int .i64 0, .iface 29 (.int .i64 1)])) ∨
  ((checkF v l).1 = 0 ∧ ∃ told t b a c, assumeF v [] assume = some told ∧ Spread l told t b ∧ e = .returned (.tuple #[.slice a t.length c, .int .i64 b, .nilIface]) ∧ IntsIn w' a t ∧ Cons told ∧ Lits v told ∧ t.length ≤ 24)

theorem check_fine {v : Int} {l : List (List Int)} (h : (checkF v l).1 = 0) : 0 ≤ v ∧ v ≤ 24 ∧ l.length ≤ 200 ∧ LitsL v l ∧ checkF v l = (0, -1) ∧ ∀ c ∈ l, c.length ≤ 48 := by
  unfold checkF at h ⊢
  by_cases h1 : v < 0 ∨ 24 < v
  · rw [if_pos h1] at h; cases h
  · by_cases h2 : 200 < l.length
    · rw [if_neg h1, if_pos h2] at h; cases h
    · rw [if_neg h1, if_neg h2] at h ⊢
      cases h3 : l.findIdx? (badC v) with
      | some i =>
        rw [h3] at h
        simp only [codeC] at h
        split at h <;> omega
      | none =>
        rw [List.findIdx?_eq_none_iff] at h3
        refine ⟨by omega, by omega, by omega, fun c hc x hx => ?_, rfl, fun c hc => ?_⟩
        · have := h3 c hc
          unfold badC at this
          rw [Bool.or_eq_false_iff, List.any_eq_false] at this
          simpa using this.2 x hx
        · have := h3 c hc
          unfold badC at this
          rw [Bool.or_eq_false_iff] at this
          have := of_decide_eq_false this.1
          omega

theorem Spread.det {l : List (List Int)} {told t t' : List Int} {b b' : Int} (h : Spread l told t b) (h' : Spread l told t' b') : t = t' ∧ b = b' := by
  induction h with
  | stop e => obtain ⟨rfl, rfl⟩ := h'.at_stop e; exact ⟨rfl, rfl⟩
  | step e hx _ ih => exact ih (h'.at_step e hx)

theorem fs_start {w w1 : World} {v : Int} (hb : Below w.heap.size w w1) : FS w (w1.alloc (.cells (tvl []).toArray 68)) w1.heap.size (.slice none 0 0) v [] :=
  ⟨World.ownsRow_nil _ _ _ _, Blk.new _ _ _, hb.alloc hb.size _, cons_nil, lits_nil v, by decide, hb.size⟩

theorem drop_cons {α : Type} {l : List α} {k : Nat} {d : α} (h : k < l.length) : l.drop k = l.getD k d :: l.drop (k + 1) := by
  rw [List.drop_eq_getElem_cons h, List.getD_eq_getElem?_getD, List.getElem?_eq_getElem h]; rfl

set_option maxRecDepth 100000 in
set_option maxHeartbeats 4000000 in
theorem follows_any (v : Int) (l : List (List Int)) (a : Option Addr) (cap : Nat) (am : List Int) (a2 : Option Addr) (cap2 : Nat) (w : World) (hI : ClsIn w a l) (hm : l.length ≤ 9223372036854775807) (hI2 : IntsIn w a2 am) (hm2 : am.length ≤ 9223372036854775807) :
    Calls Tryd.prog 17 #[.int .i64 v, .slice a l.length cap, .slice a2 am.length cap2] w fun e w' => FollowsR v l am e w' ∧ Below w.heap.size w w' := by
  obtain ⟨i0, hin, hz0, hz1, hz2⟩ := info_parts infoInt
  have HCH := Lib.hid (check_any v l a cap w hI hm)
  have HI := Lib.hid hI
  have HI2 := Lib.hid hI2
  clear hI hI2
  go_enter Tryd.func17, Tryd.ntmps17
  go_wp2_with fail
  refine HCH.out.mono ?_
  rintro e w1 ⟨er, rfl, her, hb1⟩
  clear HCH
  by_cases hz : (checkF v l).1 = 0
  · have hz' := hz
    obtain ⟨hv0, hv1, hl200, hls, hck, hcl⟩ := check_fine hz
    obtain rfl : er = .nilIface := by
      rcases her with h | h | h
      · exact h.2.2
      · exact absurd hz h.1
      · exact absurd hz h.1
    have HZ := Lib.hid hz
    have HLS := Lib.hid hls
    have HB1 := Lib.hid hb1
    clear her hz hz' hls hck hcl hb1
    go_wp2_with fail
    go_loopw [11, 24] (fun tV kV wr => ∃ (k : Nat) (told : List Int), k ≤ am.length ∧ kV = .int .i64 (k : Int) ∧ FS w wr w1.heap.size tV v told ∧ assumeF v told (am.drop k) = assumeF v [] am) (fun _ kV _ => am.length - (intOf kV).toNat)
    case atStart => exact ⟨0, [], Nat.zero_le _, rfl, fs_start HB1.out, rfl⟩
    case round =>
      obtain ⟨k, told, hk, rfl, hfs, has⟩ := hrel
      obtain ⟨ra, rc, rfl, -, -⟩ := row_form hfs.row
      have HFS := Lib.hid hfs
      have HAS := Lib.hid has
      clear hfs has
      by_cases hlt : k < am.length
      · obtain ⟨ad, rfl, hl', hc⟩ := HI2.out.below HFS.out.below k hlt
        have HD := Lib.hid (drop_cons (d := 0) hlt)
        have HL := Lib.hid (literal_any (am.getD k 0) v hv0 hv1 wr)
        generalize hx : am.getD k 0 = x at *
        clear hx
        have HARG : Hid (litB v x = false ∨ -x ∈ told → assumeF v [] am = none) := fun h => by
          rw [← HAS.out, HD.out]
          unfold assumeF
          rw [if_neg]
          rintro ⟨h1, h2⟩
          rcases h with h | h
          · rw [h] at h1; cases h1
          · exact h2 h
        have HOLD : Hid (litB v x = true → x ∈ told → assumeF v told (am.drop (k + 1)) = assumeF v [] am) := fun h h2 => by
          rw [← HAS.out, HD.out]
          conv => rhs; unfold assumeF
          rw [if_pos ⟨h, HFS.out.cons x h2⟩, if_pos h2]
        have HNEW : Hid (litB v x = true → x ∉ told → -x ∉ told → assumeF v (told ++ [x]) (am.drop (k + 1)) = assumeF v [] am) := fun h h2 h3 => by
          rw [← HAS.out, HD.out]
          conv => rhs; unfold assumeF
          rw [if_pos ⟨h, h3⟩, if_neg h2]
        clear HAS HD
        cases hb : litB v x with
        | false =>
          rw [hb] at HL
          have HR := Lib.hid (HARG.out (Or.inl hb))
          clear hb HARG HOLD HNEW
          go_wp2_with (go_at_call 25; refine HL.out.mono ?_; rintro e w2 ⟨rfl, rfl⟩)
          refine bodyPost_ret (v := .tuple #[.slice none 0 0, .int .i64 0, .iface 29 (.int .i64 1)]) (by simp [results, Tryd.results17, go_sem]) rfl ?_
          exact ⟨Or.inr (Or.inl ⟨HZ.out, HR.out, rfl⟩), HFS.out.below⟩
        | true =>
          rw [hb] at HL
          have hl24 := lit_24 hv1 hb
          have HSD := side_any ⟨w1.heap.size, 0, none⟩ told HFS.out.cons x hl24 wr HFS.out.vals
          have hsb := side_bound told x
          have hs0 := side_zero (told := told) (x := x)
          have hs1 := side_one (told := told) (x := x)
          have hs2 := side_ge HFS.out.cons (x := x)
          have HLB := Lib.hid hb
          clear hb
          generalize sideF told x = s at *
          rcases hsb with rfl | rfl | rfl
          · have HR := Lib.hid (HARG.out (Or.inr (Classical.byContradiction fun h => by have := hs2.2 h; omega)))
            have HSS := Lib.hid HSD
            clear HARG HOLD HNEW HSD hs0 hs1 hs2 hl24
            go_wp2_with (first | (go_at_call 25; refine HL.out.mono ?_; rintro e w2 ⟨rfl, rfl⟩) | (go_at_call 32; refine HSS.out.mono ?_; rintro e w2 ⟨rfl, rfl⟩))
            refine bodyPost_ret (v := .tuple #[.slice none 0 0, .int .i64 0, .iface 29 (.int .i64 1)]) (by simp [results, Tryd.results17, go_sem]) rfl ?_
            exact ⟨Or.inr (Or.inl ⟨HZ.out, HR.out, rfl⟩), HFS.out.below⟩
          · obtain ⟨n1, n2⟩ := hs0.1 rfl
            have HR := Lib.hid (HNEW.out HLB.out n1 n2)
            have HT := Lib.hid (tell_any ⟨w1.heap.size, 0, none⟩ told x hl24 wr HFS.out.vals)
            have hf1 := HFS.out.tell hv1 HLB.out n1 n2
            have HF1 := Lib.hid hf1
            have HSS := Lib.hid HSD
            clear HARG HOLD HNEW HSD hs0 hs1 hs2 hl24 n1 n2 hf1
            go_wp2_with (first | (go_at_call 25; refine HL.out.mono ?_; rintro e w2 ⟨rfl, rfl⟩) | (go_at_call 32; refine HSS.out.mono ?_; rintro e w2 ⟨rfl, rfl⟩) | fail)
            refine HT.out.mono ?_
            rintro e w2 ⟨rfl, hw2⟩
            have hf2 := HF1.out
            rw [← hw2] at hf2
            have hws := hf2.below.size
            have hlen : told.length ≤ 24 := by have := HFS.out.few; omega
            have HF2 := Lib.hid hf2
            have hrow := Lib.hid hf2.row
            clear hf2 hw2 HT HF1 HL HSS
            go_wp2_with (at_builtin; refine wpList_append_own_at _ rfl _ _ 34 rfl w.heap.size 3 i0 (.int .i64 0) 1 8 Tryd.underlying34 hin hz0 hz1 hz2 rfl (by decide) _ _ _ rfl (hrow.out.alloc _) ⟨w2.heap.size, 0, none⟩ 1 1 [.int .i64 x] rfl rfl ?c1 ?c2 ?c3 ?c4 ?c5 ?_)
            case c1 => exact cell_lit _ _ _
            case c2 => exact one_lit _
            case c3 => unfold maxLen; omega
            case c4 => omega
            case c5 => simp; omega
            intro v7 w7 hown7 hgrow7 _ _
            have HF7 := Lib.hid (HF2.out.app _ hown7 hgrow7)
            clear hown7 hgrow7 HF2 hrow
            go_wp2
            go_roundw
            case rel => exact ⟨k + 1, told ++ [x], hlt, by go_num, HF7.out, HR.out⟩
            case measure => simp [intOf]; omega
          · have HR := Lib.hid (HOLD.out HLB.out (hs1.1 (by omega)))
            have HSS := Lib.hid HSD
            clear HARG HOLD HNEW HSD hs0 hs1 hs2 hl24
            go_wp2_with (first | (go_at_call 25; refine HL.out.mono ?_; rintro e w2 ⟨rfl, rfl⟩) | (go_at_call 32; refine HSS.out.mono ?_; rintro e w2 ⟨rfl, rfl⟩))
            go_roundw
            case rel => exact ⟨k + 1, told, hlt, by go_num, HFS.out, HR.out⟩
            case measure => simp [intOf]; omega
      · obtain rfl : k = am.length := by omega
        have has := HAS.out
        rw [List.drop_length, show assumeF v told [] = some told from rfl] at has
        obtain ⟨t, b, hsp⟩ := spread_ex hv1 HLS.out (free told) told (Nat.le_refl _) HFS.out.cons HFS.out.lits
        have HDONE : Hid (assumeF v [] am = some told ∧ Spread l told t b ∧ Cons told ∧ Lits v told) := ⟨has.symm, hsp, HFS.out.cons, HFS.out.lits⟩
        have HSP := Lib.hid hsp
        have h24 : LitsL 24 l := fun c hc x hx => lit_24 hv1 (HLS.out c hc x hx)
        have HL24 := Lib.hid h24
        clear has hsp h24 HAS
        go_wp2_with fail
        go_loopg [11] 24 (fun n tV wr => ∃ told' : List Int, FS w wr w1.heap.size tV v told' ∧ Spread l told' t b ∧ free told' ≤ n)
        case atStart => exact ⟨told, HFS.out, HSP.out, by have := HFS.out.few; omega⟩
        case round =>
          obtain ⟨told', hfs, hsp', hfr⟩ := hrel
          obtain ⟨ra', rc', rfl, -, -⟩ := row_form hfs.row
          have HN := Lib.hid (next_any ⟨w1.heap.size, 0, none⟩ told' hfs.cons l HL24.out a cap wr hfs.vals (HI.out.below hfs.below) hm)
          have HFS' := Lib.hid hfs
          have HSP' := Lib.hid hsp'
          have hlen : told'.length ≤ 24 := by have := hfs.few; omega
          clear hfs hsp'
          generalize hnx : nextF told' l = r at *
          have HNX := Lib.hid hnx
          clear hnx
          obtain ⟨i, x⟩ := r
          simp only at HN
          by_cases hx0 : x = 0
          · subst hx0
            have HEND := Lib.hid (HSP'.out.at_stop HNX.out)
            go_wp2_with fail
            refine HN.out.mono ?_
            rintro e w2 ⟨rfl, hb2⟩
            have HF2 := Lib.hid (HFS'.out.new hb2)
            clear hb2 HN
            go_wp2
            refine bodyPost_ret (v := .tuple #[.slice ra' told'.length rc', .int .i64 i, .nilIface]) (by simp [results, Tryd.results17, go_sem]) rfl ?_
            obtain ⟨rfl, rfl⟩ := HEND.out
            exact ⟨Or.inr (Or.inr ⟨HZ.out, told, _, _, ra', rc', HDONE.out.1, HDONE.out.2.1, rfl, ints_row HF2.out.row, HDONE.out.2.2.1, HDONE.out.2.2.2, hlen⟩), HF2.out.below⟩
          · have HST := Lib.hid (HSP'.out.at_step HNX.out hx0)
            obtain ⟨q1, q2, q3, -, -⟩ := next_step HLS.out HFS'.out.cons HFS'.out.lits HNX.out hx0
            have hl24 := lit_24 hv1 q1
            have hft := free_tell hl24 q2 q3
            have HQ : Hid (litB v x = true ∧ x ∉ told' ∧ -x ∉ told' ∧ litB 24 x = true) := ⟨q1, q2, q3, hl24⟩
            have hx1 : (x == 0) = false := by simpa using hx0
            clear q1 q2 q3 hl24
            go_wp2_with fail
            refine HN.out.mono ?_
            rintro e w2 ⟨rfl, hb2⟩
            have hf2 := HFS'.out.new hb2
            have HT := Lib.hid (tell_any ⟨w1.heap.size, 0, none⟩ told' x HQ.out.2.2.2 w2 hf2.vals)
            have HF3 := Lib.hid (hf2.tell hv1 HQ.out.1 HQ.out.2.1 HQ.out.2.2.1)
            clear hb2 HN hf2
            go_wp2_with fail
            refine HT.out.mono ?_
            rintro e w3 ⟨rfl, hw3⟩
            have hf3 := HF3.out
            rw [← hw3] at hf3
            have hws := hf3.below.size
            have HF4 := Lib.hid hf3
            have hrow := Lib.hid hf3.row
            clear hf3 hw3 HT HF3
            go_wp2_with (at_builtin; refine wpList_append_own_at _ rfl _ _ 34 rfl w.heap.size 3 i0 (.int .i64 0) 1 8 Tryd.underlying34 hin hz0 hz1 hz2 rfl (by decide) _ _ _ rfl (hrow.out.alloc _) ⟨w3.heap.size, 0, none⟩ 1 1 [.int .i64 x] rfl rfl ?c1 ?c2 ?c3 ?c4 ?c5 ?_)
            case c1 => exact cell_lit _ _ _
            case c2 => exact one_lit _
            case c3 => unfold maxLen; omega
            case c4 => omega
            case c5 => simp; omega
            intro v7 w7 hown7 hgrow7 _ _
            have HF7 := Lib.hid (HF4.out.app _ hown7 hgrow7)
            clear hown7 hgrow7 HF4 hrow
            go_wp2
            go_roundg (free (told' ++ [x]))
            case rel => exact ⟨told' ++ [x], HF7.out, HST.out, Nat.le_refl _⟩
            case measure => omega
  · have HZ := Lib.hid hz
    have HER := Lib.hid her
    have HB1 := Lib.hid hb1
    have hnn : ∃ t u, er = .iface t u := by
      rcases her with h | h | ⟨_, b, _, h, _⟩
      · exact absurd h.1 hz
      · exact ⟨_, _, h.2.2⟩
      · exact ⟨_, _, h⟩
    obtain ⟨t, u, rfl⟩ := hnn
    clear her hz hb1
    go_wp2
    refine bodyPost_ret (v := .tuple #[.slice none 0 0, .int .i64 0, .iface t u]) (by simp [results, Tryd.results17, go_sem]) rfl ?_
    exact ⟨Or.inl ⟨HZ.out, _, rfl, HER.out⟩, HB1.out⟩
end Go.Proofs.YtapdeangogjbeaaDoor
