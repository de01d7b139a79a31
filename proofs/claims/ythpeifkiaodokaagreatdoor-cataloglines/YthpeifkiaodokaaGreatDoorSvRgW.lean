/- The reference: RangeOr, RangeAnd, RangeNot. -/
import Derived.Test.YthpeifkiaodokaaGreatDoorSvMix
namespace Go.Proofs.YthpeifkiaodokaaGreatDoor
open Go.RowKit Sv

theorem ent_or1 : ∀ args w, (callFunc 71 args).run Tryz.prog w = .ok (.enter 71 args) w := by intro args w; kernel_rfl
theorem ent_and1 : ∀ args w, (callFunc 72 args).run Tryz.prog w = .ok (.enter 72 args) w := by intro args w; kernel_rfl
theorem ent_not1 : ∀ args w, (callFunc 73 args).run Tryz.prog w = .ok (.enter 73 args) w := by intro args w; kernel_rfl
set_option maxRecDepth 100000 in
theorem or1_any (x y : Bool) (W : World) : Calls Tryz.prog 71 #[.bool x, .bool y] W fun e w' => e = .returned (.bool (x || y)) ∧ w' = W := by
  cases x
  · go_enter Tryz.func71, Tryz.ntmps71
    go_wp2
    go_ret
    exact ⟨rfl, rfl⟩
  · go_enter Tryz.func71, Tryz.ntmps71
    go_wp2
    go_ret
    exact ⟨rfl, rfl⟩
set_option maxRecDepth 100000 in
theorem and1_any (x y : Bool) (W : World) : Calls Tryz.prog 72 #[.bool x, .bool y] W fun e w' => e = .returned (.bool (x && y)) ∧ w' = W := by
  cases x
  · go_enter Tryz.func72, Tryz.ntmps72
    go_wp2
    go_ret
    exact ⟨rfl, rfl⟩
  · go_enter Tryz.func72, Tryz.ntmps72
    go_wp2
    go_ret
    exact ⟨rfl, rfl⟩
set_option maxRecDepth 100000 in
theorem not1_any (x y : Bool) (W : World) : Calls Tryz.prog 73 #[.bool x, .bool y] W fun e w' => e = .returned (.bool (!x)) ∧ w' = W := by
  go_enter Tryz.func73, Tryz.ntmps73
  go_wp2
  go_ret
  exact ⟨rfl, rfl⟩

theorem tp_small {l : List Span} (h : Rg l) : (tp l).length ≤ 1000000000 := by have := rg_len h; rw [tp_len]; omega
set_option maxRecDepth 100000 in
theorem ror_any (l m : List Span) (hl : Rg l) (hm : Rg m) (v u : Value) (w : World) (hv : NsAt w v (tp l)) (hu : NsAt w u (tp m)) :
    Calls Tryz.prog 18 #[v, u] w (NsOut w (tp (orr l m))) := by
  have H := Lib.hid (mix_any (tp l) (tp m) v u 71 (fun x y => x || y) w hv hu (tp_small hl) (tp_small hm) ent_or1 or1_any)
  rw [mix_or hl hm] at H
  obtain ⟨a, c, rfl⟩ := hv.form
  obtain ⟨a', c', rfl⟩ := hu.form
  clear hv hu
  generalize (tp l).length = n1 at *
  generalize (tp m).length = n2 at *
  generalize tp (orr l m) = R at *
  go_enter Tryz.func18, Tryz.ntmps18
  go_wp2_with fail
  refine H.out.mono ?_
  rintro e w' ⟨b, d, rfl, h1, h2, h3⟩
  have H1 := Lib.hid h1
  have H2 := Lib.hid h2
  have H3 := Lib.hid h3
  clear h1 h2 h3
  go_wp2
  go_ret
  exact ⟨b, d, rfl, H1.out, H2.out, H3.out⟩
set_option maxRecDepth 100000 in
theorem rand_any (l m : List Span) (hl : Rg l) (hm : Rg m) (v u : Value) (w : World) (hv : NsAt w v (tp l)) (hu : NsAt w u (tp m)) :
    Calls Tryz.prog 19 #[v, u] w (NsOut w (tp (nd l m))) := by
  have H := Lib.hid (mix_any (tp l) (tp m) v u 72 (fun x y => x && y) w hv hu (tp_small hl) (tp_small hm) ent_and1 and1_any)
  rw [mix_and hl hm] at H
  obtain ⟨a, c, rfl⟩ := hv.form
  obtain ⟨a', c', rfl⟩ := hu.form
  clear hv hu
  generalize (tp l).length = n1 at *
  generalize (tp m).length = n2 at *
  generalize tp (nd l m) = R at *
  go_enter Tryz.func19, Tryz.ntmps19
  go_wp2_with fail
  refine H.out.mono ?_
  rintro e w' ⟨b, d, rfl, h1, h2, h3⟩
  have H1 := Lib.hid h1
  have H2 := Lib.hid h2
  have H3 := Lib.hid h3
  clear h1 h2 h3
  go_wp2
  go_ret
  exact ⟨b, d, rfl, H1.out, H2.out, H3.out⟩
set_option maxRecDepth 100000 in
theorem rnot_any (l : List Span) (hl : Rg l) (v : Value) (w : World) (hv : NsAt w v (tp l)) :
    Calls Tryz.prog 20 #[v] w (NsOut w (tp (nt l))) := by
  have H := Lib.hid (mix_any (tp l) [] v (.slice none 0 0) 73 (fun x _ => !x) w hv (nsAt_nil w) (tp_small hl) (Nat.zero_le _) ent_not1 not1_any)
  rw [mix_not hl] at H
  obtain ⟨a, c, rfl⟩ := hv.form
  clear hv
  generalize (tp l).length = n1 at *
  generalize tp (nt l) = R at *
  go_enter Tryz.func20, Tryz.ntmps20
  go_wp2_with fail
  refine H.out.mono ?_
  rintro e w' ⟨b, d, rfl, h1, h2, h3⟩
  have H1 := Lib.hid h1
  have H2 := Lib.hid h2
  have H3 := Lib.hid h3
  clear h1 h2 h3
  go_wp2
  go_ret
  exact ⟨b, d, rfl, H1.out, H2.out, H3.out⟩
end Go.Proofs.YthpeifkiaodokaaGreatDoor
