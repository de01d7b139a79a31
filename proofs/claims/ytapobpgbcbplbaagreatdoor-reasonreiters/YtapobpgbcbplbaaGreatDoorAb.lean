/- Short names. -/
import Derived.Test.YtapobpgbcbplbaaGreatDoorProg
import Derived.Below
import Derived.Lib.Hide
namespace Go.Proofs.YtapobpgbcbplbaaGreatDoor
open Go.RowKit
abbrev zB(w x:World):Prop:=Go.RowKit.Below w.heap.size w x
abbrev zR(F:FuncId)(a:Array Value)(w:World)(v:Value):Prop:=Calls Tryz.prog F a w fun e x=>e=.returned v/\zB w x
theorem zH{p:Prop}(h:p):Go.RowKit.Hid p:=h
theorem zN{a:Nat}:a<=a:=Nat.le_refl a
theorem zF{B:Nat}{w:World}:Go.RowKit.Below B w w:=Go.RowKit.Below.refl B w
theorem zT{w a b:World}(h:zB w a)(k:zB a b):zB w b:=h.trans (k.mono h.size)
theorem zL{w a:World}{o:Obj}(h:zB w a):zB w (a.alloc o):=h.alloc h.size o
abbrev zC(F:FuncId)(a:Array Value)(w:World)(Q:Ending->World->Prop):Prop:=Calls Tryz.prog F a w Q
theorem zK{α:Type}{a:Option α}{x y:α}(h:a=some x)(k:x=y):a=some y:=h.trans (congrArg some k)
end Go.Proofs.YtapobpgbcbplbaaGreatDoor
