/- Bytes as an argument. -/
import Derived.Test.YtcjjekhecjmaeaaGreatDoorImLaid
import Derived.Test.YtcjjekhecjmaeaaGreatDoorImLoadL
namespace Go.Proofs.YtcjjekhecjmaeaaGreatDoor
open Go.ChangeShapes Go.WideShapes Go.ChangeAt Go.RowKit
theorem cellsU8 : Tryz.prog.cellsOf 5 = 1 := by kernel_rfl
theorem u8_wf {x : Int} (h : (Lit.int .u8 x).wf = true) : 0 <= x /\ x < 256 := by
 simp [Lit.wf, IntKind.min, IntKind.max, IntKind.signed, IntKind.bits] at h
 exact ⟨by omega, by omega⟩
theorem argBytes {H : Type} {enc : TypeId × Value -> H} {W : World} {a0 : Option Addr} {len cap : Nat} {d : DataW H} {p : List MemPlace} (h : DataW.Trod enc Tryz.prog W 0 (fun _ => true) true 49 (.slice a0 len cap) d p) :
  ∃ l : List UInt8, len = l.length /\ BytesIn W a0 l := by
 obtain ⟨fuel, hf⟩ := h
 rcases open_ints Tryz.underlying49 Tryz.underlying5 cellsU8 hf with ⟨hcs, -⟩ | ⟨a, len, cap, zs, hcs, _, hl, hm, hz, -, hcell, hwz⟩
 ·simp [Value.cells] at hcs
  obtain ⟨rfl, rfl, rfl⟩ := hcs
  exact ⟨[], rfl, .inl ⟨rfl, rfl⟩⟩
 ·simp [Value.cells] at hcs
  obtain ⟨rfl, rfl, rfl⟩ := hcs
  simp only [if_true] at hz
  have hlen : ((zs.take len).map fun z => UInt8.ofNat z.toNat).length = len := by rw [List.length_map, List.length_take]; omega
  refine ⟨(zs.take len).map fun z => UInt8.ofNat z.toNat, hlen.symm, .inr ⟨a, rfl, fun i hi => ?_⟩⟩
  rw [hlen] at hi
  have hiz : i < zs.length := by omega
  have hc := hcell i hiz
  have hw := u8_wf (hwz (zs.getD i 0) (by rw [List.getD_eq_getElem?_getD, List.getElem?_eq_getElem hiz]; exact List.getElem_mem hiz))
  have e0 : zs.getD i 0 = zs[i] := by simp [List.getD_eq_getElem?_getD, hiz]
  rw [e0] at hc hw
  have hb := World.block_lt_of_cell? _ _ hc
  rw [add_block] at hb
  refine ⟨hb, ?_⟩
  rw [hc, List.getElem_map, List.getElem_take, UInt8.toNat_ofNat']
  congr 2
  omega
end Go.Proofs.YtcjjekhecjmaeaaGreatDoor
