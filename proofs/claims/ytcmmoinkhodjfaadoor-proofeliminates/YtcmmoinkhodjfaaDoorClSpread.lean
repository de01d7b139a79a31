/- The reference's has and spread. -/
import Derived.Test.YtcmmoinkhodjfaaDoorClLeft
import Derived.Test.YtcmmoinkhodjfaaDoorClWithin
import Derived.ScopeJumps
import Derived.Laws.OwnMore
namespace Go.Proofs.YtcmmoinkhodjfaaDoor
open Go.RowKit Go.Deep

set_option maxRecDepth 100000 in
set_option maxHeartbeats 1000000 in
theorem has_any (xs : List Int) (x : Int) (a : Option Addr) (cap : Nat) (w : World) (hI : IntsIn w a xs) (hm : xs.length ≤ 9223372036854775807) :
    Calls Tryd.prog 25 #[.slice a xs.length cap, .int .i64 x] w fun e w' => e = .returned (.bool (decide (x ∈ xs))) ∧ w = w' := by
  have HI := Lib.hid hI
  clear hI
  go_enter Tryd.func25, Tryd.ntmps25
  go_wp2_with fail
  go_loop [9] (fun kV => ∃ k : Nat, k ≤ xs.length ∧ kV = .int .i64 (k : Int) ∧ ∀ j, j < k → xs.getD j 0 ≠ x) (fun kV => xs.length - (intOf kV).toNat)
  case atStart => exact ⟨0, Nat.zero_le _, rfl, fun j h => by omega⟩
  case round =>
    obtain ⟨k, hk, rfl, h1⟩ := hrel
    have H1 := Lib.hid h1
    clear h1
    by_cases hlt : k < xs.length
    · obtain ⟨ad, rfl, hl, hc⟩ := HI.out k hlt
      have hmem := getD_mem (d := 0) hlt
      generalize hy : xs.getD k 0 = y at *
      have HY := Lib.hid hy
      clear hy
      by_cases he : x = y
      · subst he
        have HM : Hid (decide (x ∈ xs) = true) := decide_eq_true hmem
        clear hmem
        go_wp2
        go_ret
        exact ⟨by rw [HM.out]; rfl, rfl⟩
      · have he' : (x == y) = false := by simpa using he
        clear hmem
        go_wp2
        go_round
        case rel => exact ⟨k + 1, hlt, by go_num, fun j hj => (by
          rcases Nat.lt_succ_iff_lt_or_eq.1 hj with e | e
          · exact H1.out j e
          · rw [e, HY.out]; exact fun h => he h.symm)⟩
        case measure => simp [intOf]; omega
    · obtain rfl : k = xs.length := by omega
      have HM : Hid (decide (x ∈ xs) = false) := decide_eq_false fun hm => by
        obtain ⟨j, hj, e⟩ := List.getElem_of_mem hm
        refine H1.out j hj ?_
        rw [List.getD_eq_getElem?_getD, List.getElem?_eq_getElem hj]; exact e
      go_wp2
      go_ret
      exact ⟨by rw [HM.out]; rfl, rfl⟩

section
variable {P : Program} {a : Act} {w : World} {Q : Exit → Act → World → Prop}
theorem wp_scope_head {b : Code} (l : Nat) (J : Act → World → Prop) (μ : Act → World → Nat) (h0 : J a w) (pass : ∀ a w, J a w → b.wp P (Exit.jump l (fun a' w' => J a' w' ∧ μ a' w' < μ a w) Q) a w) : (Code.scope ((Code.label l).seq b)).wp P Q a w :=
  wp_scope_jumps l J μ (rest := Code.skip.seq b) (by simp [findLabel]) (wp_seq (wp_label (wp_mono (pass a w h0) (fun e a' w' h => by
    cases e with
    | goto l' => exact ⟨h.1, h.2.1⟩
    | _ => exact h)))) (fun a w hJ => wp_seq (wp_skip (pass a w hJ)))

theorem step_app {ops : Array Oper} {o : Oper} {K : Act → World → Prop} {E : Prop} (hgd : o.guard = none) (s x : Operand) (t : TypeId)
    (ho : o.op = .call { callee := .builtin .append, args := #[s, x], argTypes := #[t, t] }) (v u : Value) (hs : a.eval s = v) (hx : a.eval x = u) {R : Value → World → Prop} (hrun : ∃ v' w', (Builtin.append_ #[t, t] o.type #[v, u]).run P w = .ok v' w' ∧ R v' w')
    (h : ∀ v' w', R v' w' → K (a.put o.dst v') w') : if Region.wanted o (yielded ops a.tmps) = true then Oper.wp P o a w K Q else E := by
  have hw : Region.wanted o (yielded ops a.tmps) = true := by simp [Region.wanted, hgd]
  rw [if_pos hw]
  obtain ⟨v', w', hr, hR⟩ := hrun
  unfold Oper.wp execOp
  simp only [ho, resolve, invoke, builtin, Sem.run_bind, Sem.run_pure, Result.andThen_ok, List.map_toArray, List.map_cons, List.map_nil, hs, hx, hr]
  exact h v' w' hR
end

/-- All that is told, onto an empty row. -/
theorem app_told {W : World} {H k : Nat} {told : List Int} {ta : Option Addr} {tc : Nat} (ty : TypeId) (hrow : W.ownsRow H 3 1 (.slice (some ⟨k, 0, none⟩) 0 0) 0 []) (hT : IntsIn W ta told) (hn : ta = none → tc = 0) (hlen : told.length ≤ 24) (hH : H ≤ W.heap.size) :
    ∃ v' W', (Builtin.append_ #[22, 22] ty #[.slice (some ⟨k, 0, none⟩) 0 0, .slice ta told.length tc]).run Tryd.prog W = .ok v' W' ∧ (W'.ownsRow H 3 1 v' told.length (icells told) ∧ W.grownBy W' (some k)) := by
  obtain ⟨i0, hin, hz0, hz1, hz2⟩ := info_parts infoInt
  cases ta with
  | none =>
    obtain rfl : told = [] := by
      cases told with
      | nil => rfl
      | cons c l => obtain ⟨ad, e, _⟩ := hT 0 (by simp); cases e
    obtain rfl := hn rfl
    exact ⟨_, _, run_append_owned_none W H 22 ty 3 i0 1 Tryd.underlying22 hin _ 0 [] hrow, hrow, ⟨rfl, rfl, rfl, Nat.le_refl _, fun _ _ _ => rfl⟩⟩
  | some ad =>
    obtain ⟨v', W', h1, h2, h3, -, -⟩ := run_append_own_at (P := Tryd.prog) W H 22 ty 3 i0 (.int .i64 0) 1 8 Tryd.underlying22 hin hz0 hz1 hz2 rfl (by decide) _ 0 [] hrow ad told.length tc (icells told) (by rw [icells_length, Nat.mul_one]) (fun j u hu => by
      have hj : j < told.length := by have := (List.getElem?_eq_some_iff.1 hu).1; rw [icells_length] at this; exact this
      obtain ⟨ad', e, _, hc⟩ := hT j hj
      obtain rfl := Option.some.inj e
      rw [hc, ← icells_at _ _ hj]; exact hu) (fun u hu => by obtain ⟨x, _, rfl⟩ := List.mem_map.1 hu; rfl) (by unfold maxLen; omega) (by omega) hH
    exact ⟨v', W', h1, by simpa using h2, h3⟩
theorem app_one {W : World} {H kc : Nat} {told : List Int} {x : Int} {v : Value} (ty : TypeId) (hrow : W.ownsRow H 3 1 v told.length (icells told)) (hc : W.cell? ⟨kc, 0, none⟩ = some (.int .i64 x)) (hlen : told.length ≤ 24) (hH : H ≤ W.heap.size) :
    ∃ v' W', (Builtin.append_ #[22, 22] ty #[v, .slice (some ⟨kc, 0, none⟩) 1 1]).run Tryd.prog W = .ok v' W' ∧ (W'.ownsRow H 3 1 v' (told ++ [x]).length (icells (told ++ [x])) ∧ W.grownBy W' v.ownBlock) := by
  obtain ⟨i0, hin, hz0, hz1, hz2⟩ := info_parts infoInt
  obtain ⟨v', W', h1, h2, h3, -, -⟩ := run_append_own_at (P := Tryd.prog) W H 22 ty 3 i0 (.int .i64 0) 1 8 Tryd.underlying22 hin hz0 hz1 hz2 rfl (by decide) _ _ _ hrow ⟨kc, 0, none⟩ 1 1 [.int .i64 x] rfl (fun j u hu => by
    cases j with
    | zero => simp at hu; subst hu; rw [add_plain]; exact hc
    | succ j => simp at hu) (fun u hu => by rw [List.mem_singleton] at hu; subst hu; rfl) (by unfold maxLen; omega) (by omega) hH
  exact ⟨v', W', h1, by rw [icells_snoc]; simpa using h2, h3⟩

def lenV : Value → Nat
  | .slice _ n _ => n
  | _ => 0
/-- Where it lies: where what was handed in lies, or in a new block. -/
def Loc (H : Nat) (a0 : Option Addr) (t0 : List Int) (ta : Option Addr) (told : List Int) : Prop := (ta = a0 ∧ told = t0) ∨ ∃ p : Addr, ta = some p ∧ H ≤ p.block
/-- What lies there at the label. -/
structure Lab (w W : World) (v : Nat) (l : List (List Int)) (a0 : Option Addr) (t0 told t : List Int) (b : Int) (ta : Option Addr) (tc : Nat) : Prop where
  ints : IntsIn W ta told
  nil : ta = none → tc = 0
  cons : Cons told
  lits : Lits v told
  few : told.length + free told ≤ 24
  sp : Spread l told t b
  below : Below w.heap.size w W
  loc : Loc w.heap.size a0 t0 ta told
theorem Lab.new {w W W' : World} {v : Nat} {l : List (List Int)} {a0 : Option Addr} {t0 told t : List Int} {b : Int} {ta : Option Addr} {tc : Nat} (h : Lab w W v l a0 t0 told t b ta tc) (hb : Below W.heap.size W W') : Lab w W' v l a0 t0 told t b ta tc :=
  ⟨h.ints.below hb, h.nil, h.cons, h.lits, h.few, h.sp, h.below.trans (hb.mono h.below.size), h.loc⟩
def AtLab (w : World) (v : Nat) (l : List (List Int)) (a0 : Option Addr) (t0 : List Int) (a : Option Addr) (cap : Nat) (t : List Int) (b : Int) (A : Act) (W : World) : Prop :=
  ∃ (told : List Int) (ta : Option Addr) (tc : Nat) (u2 u3 u4 u5 u6 u7 u8 u9 u10 u11 u12 u13 u14 u15 u16 u17 u18 u19 u20 u21 u22 u23 u24 u25 u26 u27 u28 u29 u30 u31 u32 u33 u34 u35 u36 u37 u38 u39 u40 u41 u42 u43 u44 u45 u46 u47 u48 u49 u50 u51 u52 u53 u54 u55 u56 u57 u58 u59 u60 u61 u62 u63 u64 : Value), A = { tmps := #[.slice a l.length cap, .slice ta told.length tc, u2, u3, u4, u5, u6, u7, u8, u9, u10, u11, u12, u13, u14, u15, u16, u17, u18, u19, u20, u21, u22, u23, u24, u25, u26, u27, u28, u29, u30, u31, u32, u33, u34, u35, u36, u37, u38, u39, u40, u41, u42, u43, u44, u45, u46, u47, u48, u49, u50, u51, u52, u53, u54, u55, u56, u57, u58, u59, u60, u61, u62, u63, u64], defers := [] } ∧ Lab w W v l a0 t0 told t b ta tc

def SpreadAns (H : Nat) (a0 : Option Addr) (t0 t : List Int) (b : Int) (e : Ending) (w' : World) : Prop := ∃ ta tc, e = .returned (.tuple #[.slice ta t.length tc, .int .i64 b]) ∧ IntsIn w' ta t ∧ (ta = none → tc = 0) ∧ Loc H a0 t0 ta t

set_option maxRecDepth 100000 in
set_option maxHeartbeats 1500000 in
theorem spread_big (v : Nat) (hv : v ≤ 24) (l : List (List Int)) (hls : LitsL v l) (a : Option Addr) (cap : Nat) (told : List Int) (a2 : Option Addr) (cap2 : Nat) (w : World) (hI : ClsIn w a l) (hm : l.length ≤ 9223372036854775807) (hT : IntsIn w a2 told) (hn : a2 = none → cap2 = 0) (hco : Cons told) (hli : Lits v told) (hfew : told.length + free told ≤ 24) (t : List Int) (b : Int) (hsp : Spread l told t b) :
    Calls Tryd.prog 38 #[.slice a l.length cap, .slice a2 told.length cap2] w fun e w' => SpreadAns w.heap.size a2 told t b e w' ∧ Below w.heap.size w w' := by
  have H0 : Hid (Lab w w v l a2 told told t b a2 cap2) := ⟨hT, hn, hco, hli, hfew, hsp, Below.refl _ _, Or.inl ⟨rfl, rfl⟩⟩
  have HI := Lib.hid hI
  have HLS := Lib.hid hls
  clear hT hn hco hli hfew hsp hI hls
  go_enter Tryd.func38, Tryd.ntmps38
  go_wp2_with fail
  refine wp_scope_head 0 (AtLab w v l a2 told a cap t b) (fun A _ => 24 - lenV (A.tmps.getD 1 undef)) ?_ ?_
  · exact ⟨told, a2, cap2, _, _, _, _, _, _, _, _, _, _, _, _, _, _, _, _, _, _, _, _, _, _, _, _, _, _, _, _, _, _, _, _, _, _, _, _, _, _, _, _, _, _, _, _, _, _, _, _, _, _, _, _, _, _, _, _, _, _, _, _, _, _, _, rfl, H0.out⟩
  · rintro A W ⟨told', ta, tc, u2, u3, u4, u5, u6, u7, u8, u9, u10, u11, u12, u13, u14, u15, u16, u17, u18, u19, u20, u21, u22, u23, u24, u25, u26, u27, u28, u29, u30, u31, u32, u33, u34, u35, u36, u37, u38, u39, u40, u41, u42, u43, u44, u45, u46, u47, u48, u49, u50, u51, u52, u53, u54, u55, u56, u57, u58, u59, u60, u61, u62, u63, u64, rfl, hLab⟩
    clear H0
    have HL := Lib.hid hLab
    have hlen : told'.length ≤ 24 := by have := hLab.few; omega
    clear hLab
    go_wp2_with fail
    go_loopw [1, 14] (fun tV kV wr => ∃ k : Nat, k ≤ l.length ∧ kV = .int .i64 (k : Int) ∧ tV = .slice ta told'.length tc ∧ (∀ j, j < k → (onlyF told' (l.getD j [])).2 = false) ∧ Lab w wr v l a2 told told' t b ta tc) (fun _ kV _ => l.length - (intOf kV).toNat)
    case atStart => exact ⟨0, Nat.zero_le _, rfl, rfl, fun j h => by omega, HL.out⟩
    case round =>
      obtain ⟨k, hk, rfl, rfl, h1, hlr⟩ := hrel
      obtain ⟨wo, rfl⟩ : ∃ wo, wo = wr := ⟨_, rfl⟩
      have H1 := Lib.hid h1
      have HLR := Lib.hid hlr
      clear h1 hlr HL
      by_cases hlt : k < l.length
      · obtain ⟨ad, a', cap', rfl, hl', hc, g1, g2, g3⟩ := HI.out.below HLR.out.below k hlt
        have hclit := HLS.out _ (getD_mem (d := []) hlt)
        have HON := Lib.hid (only_left (c := l.getD k []) HLR.out.cons)
        have HNX : Hid ((onlyF told' (l.getD k [])).2 = true → nextF told' l = ((k : Int), (onlyF told' (l.getD k [])).1)) := fun h => nextF_hit H1.out hlt h
        generalize hcc : l.getD k [] = c at *
        have HCC := Lib.hid hcc
        have HG3 := Lib.hid g3
        have HCL := Lib.hid hclit
        clear g3 hcc hclit
        go_wp2_with fail
        go_loopw [8, 9, 21] (fun lV hV jV wr2 => ∃ (j : Nat), j ≤ c.length ∧ jV = .int .i64 (j : Int) ∧ hV = .bool (leftF told' (c.take j)).2 ∧ wr2.ownsRow wo.heap.size 3 1 lV (leftF told' (c.take j)).1.length (icells (leftF told' (c.take j)).1) ∧ Below wo.heap.size wo wr2) (fun _ _ jV _ => c.length - (intOf jV).toNat)
        case atStart => exact ⟨0, Nat.zero_le _, rfl, rfl, World.ownsRow_nil _ _ _ _, Below.refl _ _⟩
        case round =>
          obtain ⟨wr2, rfl⟩ : ∃ wr2, wr2 = wr := ⟨_, rfl⟩
          obtain ⟨j, hj, rfl, rfl, hrow, hb2⟩ := hrel
          obtain ⟨la, lc, rfl, -, -⟩ := row_form hrow
          have HLI := Lib.hid (ints_row hrow)
          have HROW := Lib.hid hrow
          have HB2 := Lib.hid hb2
          have hll := leftF_len told' (c.take j)
          have hll48 := left_small (told := told') (c := c.take j) (fun x hx => lit_24 (by omega) (HCL.out x (List.mem_of_mem_take hx)))
          have hws := hb2.size
          rw [List.length_take] at hll
          clear hrow hb2
          by_cases hjl : j < c.length
          · obtain ⟨ad2, rfl, hl2, hc2⟩ := HG3.out.below HB2.out j hjl
            have hlx := litB_iff.1 (HCL.out _ (getD_mem (d := 0) hjl))
            have HSN := Lib.hid (show leftF told' (c.take (j + 1)) = leftS told' (leftF told' (c.take j)) (c.getD j 0) by rw [take_succ' hjl, leftF_snoc])
            generalize hx : c.getD j 0 = x at *
            have HH1 := has_any told' x ta tc wr2 (HLR.out.ints.below HB2.out) (by omega)
            have HH2 := has_any told' (-x) ta tc wr2 (HLR.out.ints.below HB2.out) (by omega)
            have HH3 := has_any (leftF told' (c.take j)).1 x la lc wr2 HLI.out (by omega)
            clear hx
            obtain ⟨hx1, hx2, hx3⟩ := hlx
            generalize hlf : leftF told' (c.take j) = r at *
            obtain ⟨left, holds⟩ := r
            simp only at *
            clear hlf
            have hn24 : (x : Int) ≤ 24 := by omega
            have hn25 : (-24 : Int) ≤ x := by omega
            by_cases q1 : x ∈ told'
            · rw [decide_eq_true q1] at HH1
              have HA := Lib.hid HH1
              have HE := Lib.hid (show leftF told' (c.take (j + 1)) = (left, true) by rw [HSN.out]; unfold leftS; rw [if_pos q1])
              clear HH1 HH2 HH3 HSN q1
              go_wp2_with fail
              refine HA.out.mono ?_
              rintro e w3 ⟨rfl, rfl⟩
              go_wp2
              go_roundw
              case rel => exact ⟨j + 1, hjl, by go_num, by rw [HE.out], by rw [HE.out]; exact HROW.out, HB2.out⟩
              case measure => simp [intOf]; omega
            · rw [decide_eq_false q1] at HH1
              have HA := Lib.hid HH1
              by_cases q2 : -x ∈ told'
              · rw [decide_eq_true q2] at HH2
                have HA2 := Lib.hid HH2
                have HE := Lib.hid (show leftF told' (c.take (j + 1)) = (left, holds) by rw [HSN.out]; unfold leftS; rw [if_neg q1, if_neg (fun h => h.1 q2)])
                clear HH1 HH2 HH3 HSN q1 q2
                go_wp2_with fail
                refine HA.out.mono ?_
                rintro e w3 ⟨rfl, rfl⟩
                go_wp2_with fail
                refine HA2.out.mono ?_
                rintro e w3 ⟨rfl, rfl⟩
                go_wp2
                go_roundw
                case rel => exact ⟨j + 1, hjl, by go_num, by rw [HE.out], by rw [HE.out]; exact HROW.out, HB2.out⟩
                case measure => simp [intOf]; omega
              · rw [decide_eq_false q2] at HH2
                have HA2 := Lib.hid HH2
                by_cases q3 : x ∈ left
                · rw [decide_eq_true q3] at HH3
                  have HA3 := Lib.hid HH3
                  have HE := Lib.hid (show leftF told' (c.take (j + 1)) = (left, holds) by rw [HSN.out]; unfold leftS; rw [if_neg q1, if_neg (fun h => h.2 q3)])
                  clear HH1 HH2 HH3 HSN q1 q2 q3
                  go_wp2_with fail
                  refine HA.out.mono ?_
                  rintro e w3 ⟨rfl, rfl⟩
                  go_wp2_with fail
                  refine HA2.out.mono ?_
                  rintro e w3 ⟨rfl, rfl⟩
                  go_wp2_with fail
                  refine HA3.out.mono ?_
                  rintro e w3 ⟨rfl, rfl⟩
                  go_wp2
                  go_roundw
                  case rel => exact ⟨j + 1, hjl, by go_num, by rw [HE.out], by rw [HE.out]; exact HROW.out, HB2.out⟩
                  case measure => simp [intOf]; omega
                · rw [decide_eq_false q3] at HH3
                  have HA3 := Lib.hid HH3
                  have HE := Lib.hid (show leftF told' (c.take (j + 1)) = (left ++ [x], holds) by rw [HSN.out]; unfold leftS; rw [if_neg q1, if_pos ⟨q2, q3⟩])
                  clear HH1 HH2 HH3 HSN q1 q2 q3
                  obtain ⟨i0, hin, hz0, hz1, hz2⟩ := info_parts infoInt
                  go_wp2_with fail
                  refine HA.out.mono ?_
                  rintro e w3 ⟨rfl, rfl⟩
                  go_wp2_with fail
                  refine HA2.out.mono ?_
                  rintro e w3 ⟨rfl, rfl⟩
                  go_wp2_with fail
                  refine HA3.out.mono ?_
                  rintro e w3 ⟨rfl, rfl⟩
                  go_wp2_with (first | (at_builtin; refine wpList_append_own_at _ rfl _ _ 22 rfl wo.heap.size 3 i0 (.int .i64 0) 1 8 Tryd.underlying22 hin hz0 hz1 hz2 rfl (by decide) _ _ _ rfl (HROW.out.alloc _) ⟨wr2.heap.size, 0, none⟩ 1 1 [.int .i64 x] rfl rfl ?c1 ?c2 ?c3 ?c4 ?c5 ?_))
                  case c1 => exact cell_lit _ _ _
                  case c2 => exact one_lit _
                  case c3 => unfold maxLen; omega
                  case c4 => omega
                  case c5 => simp; omega
                  intro v7 w7 hown7 hgrow7 _ _
                  have HO7 := Lib.hid (show w7.ownsRow wo.heap.size 3 1 v7 (left ++ [x]).length (icells (left ++ [x])) by rw [icells_snoc]; simpa using hown7)
                  have HB7 : Hid (Below wo.heap.size wo w7) := (HB2.out.alloc hws _).grown hgrow7 (by simp; omega) (fun k hk => (HROW.out.lt k hk).1)
                  clear hown7 hgrow7
                  go_wp2
                  go_roundw
                  case rel => exact ⟨j + 1, hjl, by go_num, by rw [HE.out], by rw [HE.out]; exact HO7.out, HB7.out⟩
                  case measure => simp [intOf]; omega
          · obtain rfl : j = c.length := by omega
            rw [List.take_length] at *
            generalize hlf : leftF told' c = r at *
            obtain ⟨left, holds⟩ := r
            simp only at *
            have HLF := Lib.hid hlf
            clear hlf HG3
            cases holds with
            | true =>
              have HFF := Lib.hid (show (onlyF told' c).2 = false by rw [HON.out]; simp)
              clear HON HNX
              go_wp2
              go_roundw
              case rel => exact ⟨k + 1, hlt, by go_num, rfl, fun i hi => (by
                rcases Nat.lt_succ_iff_lt_or_eq.1 hi with e | e
                · exact H1.out i e
                · rw [e, HCC.out, HFF.out]), HLR.out.new HB2.out⟩
              case measure => simp [intOf]; omega
            | false =>
              by_cases hl1 : 1 < left.length
              · have HFF := Lib.hid (show (onlyF told' c).2 = false by rw [HON.out]; simp [hl1])
                clear HON HNX
                generalize left.length = ll at *
                go_wp2
                go_roundw
                case rel => exact ⟨k + 1, hlt, by go_num, rfl, fun i hi => (by
                  rcases Nat.lt_succ_iff_lt_or_eq.1 hi with e | e
                  · exact H1.out i e
                  · rw [e, HCC.out, HFF.out]), HLR.out.new HB2.out⟩
                case measure => simp [intOf]; omega
              · by_cases hl0 : left.length = 0
                · have hon : onlyF told' c = (0, true) := by rw [HON.out, if_neg (by simp [hl1]), if_pos hl0]
                  have hnx := HNX.out (by rw [hon])
                  rw [hon] at hnx
                  have HEND := Lib.hid (HLR.out.sp.at_stop hnx)
                  have HLX := Lib.hid (HLR.out.new HB2.out)
                  clear HON HNX hon hnx
                  rw [hl0] at *
                  go_wp2
                  simp only [Exit.jump]
                  go_ret2
                  obtain ⟨rfl, rfl⟩ := HEND.out
                  exact ⟨⟨ta, tc, rfl, HLX.out.ints, HLX.out.nil, HLX.out.loc⟩, HLX.out.below⟩
                · obtain ⟨x, rfl⟩ : ∃ x, left = [x] := by
                    match left, hl0, hl1 with
                    | [x], _, _ => exact ⟨x, rfl⟩
                    | [], h, _ => exact absurd rfl h
                    | _ :: _ :: _, _, h => exact absurd (by simp) h
                  have hon : onlyF told' c = (x, true) := by rw [HON.out, if_neg (by simp), if_neg (by simp)]; rfl
                  have hnx : nextF told' l = ((k : Int), x) := by
                    have h := HNX.out (by rw [hon])
                    rw [hon] at h
                    exact h
                  obtain ⟨gl, gcap, hform, hgB, hgl⟩ := HROW.out.form (by simp)
                  have hla : la = some ⟨gl, 0, none⟩ := by injection hform
                  subst hla
                  have cx : wr2.cell? ⟨gl, 0, none⟩ = some (.int .i64 x) := by
                    obtain ⟨ad3, e3, _, c3⟩ := HLI.out 0 (by simp)
                    obtain rfl := Option.some.inj e3
                    simpa [Addr.add] using c3
                  have hx0 : x ≠ 0 := by
                    have hm := (left_is told' c).left x
                    rw [HLF.out] at hm
                    exact (litB_iff.1 (HCL.out x (hm.1 (by simp)).1)).1
                  have HSTEP := Lib.hid (HLR.out.sp.at_step hnx hx0)
                  obtain ⟨p1, p2, p3, p4, p5⟩ := next_step HLS.out HLR.out.cons HLR.out.lits hnx hx0
                  have hft := free_tell (lit_24 (by omega) p1) p2 p3
                  have hfw := HLR.out.few
                  have HNEW : Hid (∀ (W4 : World) (v4 : Value), W4.ownsRow wr2.heap.size 3 1 v4 (told' ++ [x]).length (icells (told' ++ [x])) → Below wr2.heap.size wr2 W4 → ∃ ta4 tc4, v4 = .slice ta4 (told' ++ [x]).length tc4 ∧ Lab w W4 v l a2 told (told' ++ [x]) t b ta4 tc4) := fun W4 v4 hr4 hb4 => by
                    have hsz := HLR.out.below.size
                    have hloc4 : ∀ {ta4 tc4}, W4.ownsRow wr2.heap.size 3 1 (.slice ta4 (told' ++ [x]).length tc4) (told' ++ [x]).length (icells (told' ++ [x])) → Loc w.heap.size a2 told ta4 (told' ++ [x]) := fun {ta4 tc4} h4 => by
                      obtain ⟨g4, c4, e4, hg4, _⟩ := h4.form (by simp)
                      injection e4 with e5
                      exact Or.inr ⟨_, e5, by show _ ≤ g4; omega⟩
                    obtain ⟨ta4, tc4, rfl, -, -⟩ := row_form hr4
                    refine ⟨ta4, tc4, rfl, ints_row hr4, fun e => ?_, p4, p5, by simp; omega, HSTEP.out, (HLR.out.below.trans (HB2.out.mono HLR.out.below.size)).trans (hb4.mono (by have := HLR.out.below.size; omega)), hloc4 hr4⟩
                    subst e
                    rcases hr4.2 with ⟨e, e0⟩ | ⟨g, cc, cur, e, _⟩
                    · simp at e0
                    · cases e
                  have HTI : Hid (∀ X, Below wr2.heap.size wr2 X → IntsIn X ta told') := fun X hX => (HLR.out.ints.below HB2.out).below hX
                  have hnil := Lib.hid HLR.out.nil
                  clear HON HNX hon hnx p1 p2 p3 p4 p5 hform HLI HSTEP
                  obtain ⟨H, hH⟩ : ∃ H, H = wr2.heap.size := ⟨_, rfl⟩
                  have bA := below_new wr2 (.cells #[] 3)
                  have bC := below_new wr2 (.cells #[.int .i64 x] 3)
                  have bAC : Below wr2.heap.size wr2 ((wr2.alloc (.cells #[] 3)).alloc (.cells #[.int .i64 x] 3)) := bA.alloc bA.size _
                  have bCA : Below wr2.heap.size wr2 ((wr2.alloc (.cells #[.int .i64 x] 3)).alloc (.cells #[] 3)) := bC.alloc bC.size _
                  have kS : Hid (∀ X, Below wr2.heap.size wr2 X → X.cell? ⟨gl, 0, none⟩ = some (.int .i64 x)) := fun X hX => (hX.cell (p := ⟨gl, 0, none⟩) hgl).trans cx
                  have s0 := kS.out _ ((Below.refl wr2.heap.size wr2).drew)
                  have sA := kS.out _ bA.drew
                  have sC := kS.out _ bC.drew
                  have sAC := kS.out _ bAC.drew
                  have sCA := kS.out _ bCA.drew
                  have eA := World.ownsRow_lit (base := wr2.heap.size) (e := 3) (size := 1) wr2 #[] 0 (Nat.le_refl _) (by decide) rfl
                  have rA : Hid ((wr2.alloc (.cells #[] 3)).drew.ownsRow wr2.heap.size 3 1 (.slice (some ⟨wr2.heap.size, 0, none⟩) 0 0) 0 []) := eA.drew
                  have rAC : Hid (((wr2.alloc (.cells #[] 3)).alloc (.cells #[.int .i64 x] 3)).drew.ownsRow wr2.heap.size 3 1 (.slice (some ⟨wr2.heap.size, 0, none⟩) 0 0) 0 []) := (eA.alloc _).drew
                  have eCA := World.ownsRow_lit (base := wr2.heap.size) (e := 3) (size := 1) (wr2.alloc (.cells #[.int .i64 x] 3)) #[] 0 (by simp) (by decide) rfl
                  rw [World.size_alloc] at eCA
                  have rCA : Hid (((wr2.alloc (.cells #[.int .i64 x] 3)).alloc (.cells #[] 3)).drew.ownsRow wr2.heap.size 3 1 (.slice (some ⟨wr2.heap.size + 1, 0, none⟩) 0 0) 0 []) := eCA.drew
                  have cAC : ((wr2.alloc (.cells #[] 3)).alloc (.cells #[.int .i64 x] 3)).drew.cell? ⟨wr2.heap.size + 1, 0, none⟩ = some (.int .i64 x) := by simp
                  have cCA : ((wr2.alloc (.cells #[.int .i64 x] 3)).alloc (.cells #[] 3)).drew.cell? ⟨wr2.heap.size, 0, none⟩ = some (.int .i64 x) := by
                    rw [World.cell?_drew, World.cell?_alloc_lt _ _ ⟨wr2.heap.size, 0, none⟩ (by simp)]; simp
                  have zA : wr2.heap.size ≤ (wr2.alloc (.cells #[] 3)).drew.heap.size := bA.drew.size
                  have zAC : wr2.heap.size + 1 < ((wr2.alloc (.cells #[] 3)).alloc (.cells #[.int .i64 x] 3)).drew.heap.size := by show _ < (World.alloc _ _).heap.size; simp
                  have zCA : wr2.heap.size + 1 < ((wr2.alloc (.cells #[.int .i64 x] 3)).alloc (.cells #[] 3)).drew.heap.size := by show _ < (World.alloc _ _).heap.size; simp
                  have HZ : Hid (_ ∧ _ ∧ _) := ⟨zA, zAC, zCA⟩
                  have zAC' := Lib.hid (Nat.le_of_lt (Nat.lt_of_succ_lt zAC))
                  have zCA' := Lib.hid (Nat.le_of_lt (Nat.lt_of_succ_lt zCA))
                  have zCA2 := Lib.hid (Nat.lt_of_succ_lt zCA)
                  have hr12 : Hid (∀ k, some wr2.heap.size = some k → wr2.heap.size ≤ k) := fun k hk => by injection hk; omega
                  have hr3 : Hid (∀ k, some (wr2.heap.size + 1) = some k → wr2.heap.size ≤ k) := fun k hk => by injection hk; omega
                  have ne1 : Hid (some (wr2.heap.size + 1) ≠ some wr2.heap.size) := by show some (wr2.heap.size + 1) ≠ some wr2.heap.size; simp
                  have ne2 : Hid (some wr2.heap.size ≠ some (wr2.heap.size + 1)) := by show some wr2.heap.size ≠ some (wr2.heap.size + 1); simp
                  have HBX : Hid (_ ∧ _ ∧ _) := ⟨bA.drew, bAC.drew, bCA.drew⟩
                  have HCX : Hid (_ ∧ _) := ⟨cAC, cCA⟩
                  clear bA bC bAC bCA eA eCA cAC cCA zA zAC zCA hH
                  go_wp2_with fail
                  go_region_held3 (fun X => X.cell? ⟨gl, 0, none⟩ = some (.int .i64 x)) (first | exact s0 | exact sA | exact sC | exact sAC | exact sCA | exact s1 | exact s2 | exact s3)
                    (first
                      | ((refine step_app (by rfl) _ _ 22 (by rfl) (.slice (some ⟨wr2.heap.size, 0, none⟩) 0 0) (.slice ta told'.length tc) (by rfl) (by rfl) (app_told _ rA.out (HTI.out _ HBX.out.1) hnil.out hlen HZ.out.1) ?_; rintro v1 W1 ⟨hr1, hg1⟩; obtain ⟨ra1, rc1, rfl, -, -⟩ := row_form hr1; have b1 := HBX.out.1.grown hg1 HZ.out.1 hr12.out; have s1 := kS.out _ b1; have s2 := kS.out _ (b1.alloc b1.size (.cells #[.int .i64 x] 3)); have b2 := b1.alloc b1.size (.cells #[.int .i64 x] 3)))
                      | ((refine step_app (by rfl) _ _ 22 (by rfl) (.slice (some ⟨wr2.heap.size, 0, none⟩) 0 0) (.slice ta told'.length tc) (by rfl) (by rfl) (app_told _ rAC.out (HTI.out _ HBX.out.2.1) hnil.out hlen zAC'.out) ?_; rintro v1 W1 ⟨hr1, hg1⟩; obtain ⟨ra1, rc1, rfl, -, -⟩ := row_form hr1; have b1 := HBX.out.2.1.grown hg1 zAC'.out hr12.out; have s1 := kS.out _ b1; have kc := (hg1.cell_far ⟨wr2.heap.size + 1, 0, none⟩ HZ.out.2.1 ne1.out).trans HCX.out.1))
                      | ((refine step_app (by rfl) _ _ 22 (by rfl) (.slice (some ⟨wr2.heap.size + 1, 0, none⟩) 0 0) (.slice ta told'.length tc) (by rfl) (by rfl) (app_told _ rCA.out (HTI.out _ HBX.out.2.2) hnil.out hlen zCA'.out) ?_; rintro v1 W1 ⟨hr1, hg1⟩; obtain ⟨ra1, rc1, rfl, -, -⟩ := row_form hr1; have b1 := HBX.out.2.2.grown hg1 zCA'.out hr3.out; have s1 := kS.out _ b1; have kc := (hg1.cell_far ⟨wr2.heap.size, 0, none⟩ zCA2.out ne2.out).trans HCX.out.2))
                      | ((refine step_app (by rfl) _ _ 22 (by rfl) (.slice ra1 told'.length rc1) (.slice (some ⟨W1.heap.size, 0, none⟩) 1 1) (by rfl) (by rfl) (app_one _ (hr1.alloc _) (cell1_0 W1 (.int .i64 x) 3) hlen b2.size) ?_; rintro v4 W4 ⟨hr4, hg4⟩; have b4 := b2.grown hg4 b2.size (fun k hk => (hr1.lt k hk).1); have s3 := kS.out _ b4))
                      | ((refine step_app (by rfl) _ _ 22 (by rfl) (.slice ra1 told'.length rc1) (.slice (some ⟨wr2.heap.size + 1, 0, none⟩) 1 1) (by rfl) (by rfl) (app_one _ hr1 kc hlen b1.size) ?_; rintro v4 W4 ⟨hr4, hg4⟩; have b4 := b1.grown hg4 b1.size (fun k hk => (hr1.lt k hk).1); have s3 := kS.out _ b4))
                      | ((refine step_app (by rfl) _ _ 22 (by rfl) (.slice ra1 told'.length rc1) (.slice (some ⟨wr2.heap.size, 0, none⟩) 1 1) (by rfl) (by rfl) (app_one _ hr1 kc hlen b1.size) ?_; rintro v4 W4 ⟨hr4, hg4⟩; have b4 := b1.grown hg4 b1.size (fun k hk => (hr1.lt k hk).1); have s3 := kS.out _ b4)))
                  all_goals
                    obtain ⟨ta4, tc4, rfl, hlab4⟩ := HNEW.out W4 v4 hr4 b4
                    have HL4 := Lib.hid hlab4
                    clear hlab4 hr4 hg4 b4 hr1 hg1 HNEW
                    go_wp2
                    refine wp_goto ?_
                    show 0 = 0 ∧ _
                    refine ⟨rfl, ⟨told' ++ [x], ta4, tc4, _, _, _, _, _, _, _, _, _, _, _, _, _, _, _, _, _, _, _, _, _, _, _, _, _, _, _, _, _, _, _, _, _, _, _, _, _, _, _, _, _, _, _, _, _, _, _, _, _, _, _, _, _, _, _, _, _, _, _, _, _, _, _, rfl, HL4.out⟩, ?_⟩
                    show 24 - (told' ++ [x]).length < 24 - told'.length
                    rw [List.length_append, List.length_singleton]
                    omega
      · obtain rfl : k = l.length := by omega
        have HR : Hid (nextF told' l = (-1, 0)) := nextF_none H1.out
        have HEND := Lib.hid (HLR.out.sp.at_stop HR.out)
        go_wp2
        simp only [Exit.jump]
        go_ret2
        obtain ⟨rfl, rfl⟩ := HEND.out
        exact ⟨⟨ta, tc, rfl, HLR.out.ints, HLR.out.nil, HLR.out.loc⟩, HLR.out.below⟩
theorem spread_any (v : Nat) (hv : v ≤ 24) (l : List (List Int)) (hls : LitsL v l) (_ : ∀ c ∈ l, c.length ≤ 48) (a : Option Addr) (cap : Nat) (told : List Int) (a2 : Option Addr) (cap2 : Nat) (w : World) (hI : ClsIn w a l) (hm : l.length ≤ 9223372036854775807) (hT : IntsIn w a2 told) (hn : a2 = none → cap2 = 0) (hco : Cons told) (hli : Lits v told) (hfew : told.length + free told ≤ 24) (t : List Int) (b : Int) (hsp : Spread l told t b) :
    Calls Tryd.prog 38 #[.slice a l.length cap, .slice a2 told.length cap2] w fun e w' => SpreadAns w.heap.size a2 told t b e w' ∧ Below w.heap.size w w' :=
  spread_big v hv l hls a cap told a2 cap2 w hI hm hT hn hco hli hfew t b hsp
end Go.Proofs.YtcmmoinkhodjfaaDoor
