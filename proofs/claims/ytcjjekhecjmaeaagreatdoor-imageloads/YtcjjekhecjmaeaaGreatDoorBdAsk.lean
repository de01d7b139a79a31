/- What was worked out, in a map by three handles; begin, ite, xor. -/
import Derived.Test.YtcjjekhecjmaeaaGreatDoorBdMakes
import Derived.Test.YtcjjekhecjmaeaaGreatDoorBdAt
set_option maxHeartbeats 1000000
set_option maxRecDepth 100000
namespace Go.Proofs.YtcjjekhecjmaeaaGreatDoor
section
open Go.RowKit
def numD (D : List Int) (h : Int) : Int := if h = 0 \/ h = 1 then h else 2 + (D.idxOf h : Int)
def postF (ns : List Nd) : Nat -> Int -> List Int -> List Int
 | 0, _, D => D
 | d + 1, h, D => if topOf ns h = 24 \/ h ∈ D then D else postF ns d (nd ns (pl h)).h (postF ns d (nd ns (pl h)).l D) ++ [h]
def InD (D : List Int) (h : Int) : Prop := h = 0 \/ h = 1 \/ h ∈ D
theorem InD.mono {D E : List Int} {h : Int} (hi : InD D h) (he : ∀ x ∈ D, x ∈ E) : InD E h := by
 rcases hi with h | h | h
 ·exact .inl h
 ·exact .inr (.inl h)
 ·exact .inr (.inr (he _ h))
structure Listed (ns : List Nd) (D : List Int) : Prop where
 node : ∀ x ∈ D, topOf ns x ≠ 24
 nodup : D.Nodup
 kid : ∀ x ∈ D, InD D (nd ns (pl x)).l /\ InD D (nd ns (pl x)).h
theorem idxOf_app {D E : List Int} {h : Int} (hm : h ∈ D) : (D ++ E).idxOf h = D.idxOf h := by rw [List.idxOf_append, if_pos hm]
theorem numD_app {D E : List Int} {h : Int} (hi : InD D h) : numD (D ++ E) h = numD D h := by
 unfold numD
 split
 ·rfl
 ·rename_i hn
  have hm : h ∈ D := by
   rcases hi with e | e | e
   ·exact absurd (.inl e) hn
   ·exact absurd (.inr e) hn
   ·exact e
  rw [idxOf_app hm]
theorem numD_new {D : List Int} {h : Int} (h0 : h ≠ 0) (h1 : h ≠ 1) (hn : h ∉ D) : numD (D ++ [h]) h = 2 + (D.length : Int) := by
 unfold numD
 rw [if_neg (by omega), List.idxOf_append, if_neg hn]
 simp
theorem numD_mem {D : List Int} {h : Int} (hm : h ∈ D) (h0 : h ≠ 0) (h1 : h ≠ 1) : 2 <= numD D h /\ numD D h < 2 + (D.length : Int) := by
 unfold numD
 rw [if_neg (by omega)]
 have := List.idxOf_lt_length_of_mem hm
 omega
theorem numD_bd {D : List Int} {h : Int} (hi : InD D h) : 0 <= numD D h /\ numD D h < 2 + (D.length : Int) := by
 rcases hi with rfl | rfl | hm
 ·unfold numD; simp; omega
 ·unfold numD; simp; omega
 ·by_cases e : h = 0 \/ h = 1
  ·unfold numD; rw [if_pos e]; omega
  ·have := numD_mem hm (by omega) (by omega); omega
section
variable {ns : List Nd}
theorem post_pre : ∀ (d : Nat) (h : Int) (D : List Int), ∃ E, postF ns d h D = D ++ E
 | 0, _, D => ⟨[], by simp [postF]⟩
 | d + 1, h, D => by
  unfold postF
  split
  ·exact ⟨[], by simp⟩
  ·obtain ⟨E1, e1⟩ := post_pre d (nd ns (pl h)).l D
   obtain ⟨E2, e2⟩ := post_pre d (nd ns (pl h)).h (D ++ E1)
   exact ⟨E1 ++ (E2 ++ [h]), by rw [e1, e2]; simp⟩
theorem post_mono {d : Nat} {h : Int} {D : List Int} {x : Int} (hx : x ∈ D) : x ∈ postF ns d h D := by
 obtain ⟨E, e⟩ := post_pre (ns := ns) d h D
 rw [e]; exact List.mem_append_left _ hx
theorem post_ok (hr : Ranked ns) : ∀ (d : Nat) (h : Int) (D : List Int), Listed ns D -> hasB ns h = true -> 24 <= topOf ns h + d -> Listed ns (postF ns d h D) /\ InD (postF ns d h D) h /\ ∀ x ∈ postF ns d h D, x ∈ D \/ topOf ns h <= topOf ns x
 | 0, h, D, hD, hh, ht => by
  have h24 := (topOf_le hr h).2
  refine ⟨hD, ?_, fun x hx => .inl hx⟩
  rcases hasB_cases hh with e | e | e
  ·exact .inl e
  ·exact .inr (.inl e)
  ·omega
 | d + 1, h, D, hD, hh, ht => by
  unfold postF
  by_cases c : topOf ns h = 24 \/ h ∈ D
  ·rw [if_pos c]
   refine ⟨hD, ?_, fun x hx => .inl hx⟩
   rcases c with c | c
   ·rcases hasB_cases hh with e | e | e
    ·exact .inl e
    ·exact .inr (.inl e)
    ·omega
   ·exact .inr (.inr c)
  ·rw [if_neg c]
   have ht24 : topOf ns h ≠ 24 := fun e => c (.inl e)
   obtain ⟨k1, k2, k3, k4⟩ := kids hr ht24
   obtain ⟨l1, l2, l3⟩ := post_ok hr d _ D hD k2 (by omega)
   obtain ⟨r1, r2, r3⟩ := post_ok hr d _ _ l1 k4 (by omega)
   have hn : h ∉ postF ns d (nd ns (pl h)).h (postF ns d (nd ns (pl h)).l D) := fun hm => by
    rcases r3 h hm with hm | hm
    ·rcases l3 h hm with hm | hm
     ·exact c (.inr hm)
     ·omega
    ·omega
   have hlR : InD (postF ns d (nd ns (pl h)).h (postF ns d (nd ns (pl h)).l D)) (nd ns (pl h)).l := l2.mono (fun x hx => post_mono hx)
   generalize postF ns d (nd ns (pl h)).h (postF ns d (nd ns (pl h)).l D) = R at *
   refine ⟨⟨fun x hx => ?_, ?_, fun x hx => ?_⟩, .inr (.inr (by simp)), fun x hx => ?_⟩
   ·rcases List.mem_append.1 hx with hx | hx
    ·exact r1.node x hx
    ·rw [List.mem_singleton] at hx; subst hx; exact ht24
   ·rw [List.nodup_append]
    exact ⟨r1.nodup, by simp, fun a ha b hb e => by rw [List.mem_singleton] at hb; subst hb; subst e; exact hn ha⟩
   ·rcases List.mem_append.1 hx with hx | hx
    ·have := r1.kid x hx
     exact ⟨this.1.mono (fun y hy => List.mem_append_left _ hy), this.2.mono (fun y hy => List.mem_append_left _ hy)⟩
    ·rw [List.mem_singleton] at hx; subst hx
     exact ⟨hlR.mono (fun y hy => List.mem_append_left _ hy), r2.mono (fun y hy => List.mem_append_left _ hy)⟩
   ·rcases List.mem_append.1 hx with hx | hx
    ·rcases r3 x hx with hx | hx
     ·rcases l3 x hx with hx | hx
      ·exact .inl hx
      ·exact .inr (by omega)
     ·exact .inr (by omega)
    ·rw [List.mem_singleton] at hx; subst hx; exact .inr (Int.le_refl _)
end
end
section
open Go.RowKit Go.Maps
section
variable {B s b : Nat} {O : Nat -> Prop} {vars : Nat} {room : Int} {ns : List Nd} {w : World}
theorem present_any (hS : SpaceAt B w s b O vars room ns) (hl : ns.length <= 90000) (bf : Nat) {cp : Nat} (fs : List Int) (hF : IntsAt w bf fs) (hfl : fs.length <= 1000) (hall : ∀ x ∈ fs, hasB ns x = true) :
  Calls Tryz.prog 34 #[.pointer (some ⟨s, 0, none⟩), .slice (some ⟨bf, 0, none⟩) fs.length cp] w fun e w' => e = .returned .nilIface /\ w = w' := by
 have c0 := hS.c0
 have HS := Lib.hid hS
 have HF := Lib.hid hF
 have HA := Lib.hid hall
 clear hS hF hall
 go_enter Tryz.func34, Tryz.ntmps34
 go_wp2_with fail
 go_loop [9] (fun i => ∃ k : Nat, k <= fs.length /\ i = .int .i64 (k : Int)) (fun i => fs.length - (intOf i).toNat)
 case atStart => exact ⟨0, Nat.zero_le _, rfl⟩
 case round =>
  obtain ⟨k, hk, rfl⟩ := hrel
  by_cases hlt : k < fs.length
  ·have ck := HF.out.cells k hlt
   have HH := Lib.hid (spHas HS.out fs[k] (HF.out.ok _ (List.getElem_mem hlt)) hl)
   rw [HA.out _ (List.getElem_mem hlt)] at HH
   generalize fs[k] = x at *
   go_wp2_with fail
   refine HH.out.mono ?_
   rintro e w' ⟨rfl, rfl⟩
   clear HH
   go_wp2
   go_round
   case rel => exact ⟨k + 1, by omega, by go_num⟩
   case measure => simp [intOf]; omega
  ·go_wp2
   go_ret
   exact ⟨rfl, rfl⟩
end
end
section
open Go.RowKit Go.Maps
theorem Rep.put_over {α β : Type} [DecidableEq α] {ok : α -> Prop} {kl : α -> Lit} {el : β -> DataW Unit} {D : DataW Unit} {L : List (α × β)} (h : Rep ok kl el D L) (inj : ∀ a b, ok a -> ok b -> kl a = kl b -> a = b) (key : ∀ a, WideAt.IsKeyLit (kl a)) {a : α} (b : β) (hm : a ∈ L.map Prod.fst) :
  Rep ok kl el (D.put (kl a) (el b)) (L.map fun q => if q.1 = a then (q.1, b) else q) := by
 have hk : (L.map fun q => if q.1 = a then (q.1, b) else q).map Prod.fst = L.map Prod.fst := by
  rw [List.map_map]; apply List.map_congr_left; intro q _; simp only [Function.comp]; split <;> rfl
 obtain ⟨p0, hp0, rfl⟩ := List.mem_map.1 hm
 have ha := h.oks p0 hp0
 have hne : ∀ c, ok c -> c ≠ p0.1 -> kl c ≠ kl p0.1 := fun c hc hca e => hca (inj c p0.1 hc ha e)
 refine ⟨h.tidy.put (key _) _, ?_, ?_, ?_, ?_, ?_, by rw [hk]; exact h.nodup⟩
 ·rw [size_put h.tidy, (h.has p0.1 ha).2 hm]; simp [h.size]
 ·intro q hq
  obtain ⟨r, hr, rfl⟩ := List.mem_map.1 hq
  have := h.oks r hr
  split <;> exact this
 ·intro c hc
  rw [hk]
  by_cases e : c = p0.1
  ·rw [e, has_put_same h.tidy.isMap (key _)]; simp only [true_iff]; exact hm
  ·rw [has_put_other (hne c hc e)]; exact h.has c hc
 ·intro x hx
  have hex : ∃ r ∈ L, x = kl r.1 := by
   by_cases e : x = kl p0.1
   ·exact ⟨p0, hp0, e⟩
   ·rw [has_put_other e] at hx; exact h.all x hx
  obtain ⟨r, hr, e⟩ := hex
  exact ⟨_, List.mem_map_of_mem hr, by rw [e]; split <;> rfl⟩
 ·intro q hq z
  obtain ⟨r, hr, rfl⟩ := List.mem_map.1 hq
  by_cases e : r.1 = p0.1
  ·rw [if_pos e]; show (D.put (kl p0.1) (el b)).atKey (kl r.1) z = el b
   rw [e]; exact atKey_put_same h.tidy.isMap (key _) _ _
  ·rw [if_neg e, atKey_put_other (hne r.1 (h.oks r hr) e)]; exact h.at' r hr z
section
variable {w : World} {bm n : Nat} {D : DataW Unit} {L : List (Nd × Int)}
end
structure WorkAt (B : Nat) (w : World) (wk dm s : Nat) (F : FuncId) (m : List (Nd × Int)) : Prop where
 lt : wk < w.heap.size
 c0 : w.cell? ⟨wk, 0, none⟩ = some (.pointer (some ⟨s, 0, none⟩))
 c1 : w.cell? ⟨wk, 1, none⟩ = some (.func (.func F) #[] #[])
 c2 : w.cell? ⟨wk, 2, none⟩ = some (.map (some dm))
 hmap : ∃ D, w.ownsMap Tryz.prog 172 (plainElem Tryz.prog 3) dm m.length D /\ Rep Nd.Ok Nd.lit (fun x : Int => .lit (.int .i64 x)) D m
 d : dm ≠ wk
 Bd : B <= dm
 Bw : B <= wk
section
variable {B wk dm s : Nat} {F : FuncId} {m m' : List (Nd × Int)} {w w' : World}
theorem WorkAt.kept {S : Nat -> Prop} (h : WorkAt B w wk dm s F m) (hk : Kept S w w') (h1 : ¬ S wk) (h2 : ¬ S dm) : WorkAt B w' wk dm s F m := by
 obtain ⟨D, hD, hR⟩ := h.hmap
 exact ⟨Nat.lt_of_lt_of_le h.lt hk.size, (hk.cell (a := ⟨wk, 0, none⟩) h.lt h1).trans h.c0, (hk.cell (a := ⟨wk, 1, none⟩) h.lt h1).trans h.c1, (hk.cell (a := ⟨wk, 2, none⟩) h.lt h1).trans h.c2, ⟨D, ownsMap_kept hD hk h2, hR⟩, h.d, h.Bd, h.Bw⟩
theorem WorkAt.new (h : WorkAt B w wk dm s F m) (hb : Below w.heap.size w w') : WorkAt B w' wk dm s F m := h.kept (Kept.of_below hb (fun _ => False)) (fun h => h) (fun h => h)
theorem WorkAt.dlt (h : WorkAt B w wk dm s F m) : dm < w.heap.size := by obtain ⟨D, hD, -⟩ := h.hmap; exact hD.lt
end
end
end Go.Proofs.YtcjjekhecjmaeaaGreatDoor
