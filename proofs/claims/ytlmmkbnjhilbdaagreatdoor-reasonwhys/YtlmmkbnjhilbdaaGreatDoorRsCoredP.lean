/- The text of a catalog of two lines that can't be together: plain. -/
import Derived.Test.YtlmmkbnjhilbdaaGreatDoorWyMakes
namespace Go.Proofs.YtlmmkbnjhilbdaaGreatDoor
set_option maxHeartbeats 4000000
set_option maxRecDepth 100000
namespace Bd
open Go.RowKit Go.Maps Go.Deep
section
variable {W0:World} {B p s b:Nat} {O:Nat->Prop} {vars:Nat} {room:Int} {st:List Nd × Int} {F:FuncId} {cb:Array Value} {C:qE} {dk:Nat}
theorem zgD(cx:Yh W0 B p s b O vars room st F cb C dk):∀d,zb4 W0 p vars st.1 F cb C dk d:=by
 intro d
 induction d with
 |zero=>exact fun h L W hW hM hh hd=>zeT cx h L W hW hM hh (by have:=(qi cx.good.ranked h).2;omega)
 |succ d ih =>
  intro h L W hW hM hh hd
  by_cases ht:zb st.1 h=24
  ·exact zeT cx h L W hW hM hh ht
  ·by_cases hin:h∈L.map Prod.fst
   ·obtain⟨q,hq,rfl⟩:=List.mem_map.1 hin;exact zm3 cx q.1 L W hW hM hh ht q.2 hq
   ·exact zkT cx (zdy cx ih) h L W hW hM hh ht hd hin
theorem zlg(cx:Yh W0 B p s b O vars room st F cb C dk)(h:Int)(v:Nat)(L:List (Int × Wy))(W:World)(hW:zB W0 W)(hM:qr C W dk vars st.1 L)(hh:zj st.1 h=true)(hv:(v:Int)<=zb st.1 h)(hvv:v<=vars):zC 102 #[wkV p F cb dk,.int .i64 v,.int .i64 h] W (Q8 C dk vars st.1 (qh C vars st.1 h v) W) :=
 zdy cx (zgD cx 24) h v L W hW hM hh hv hvv (by have:=(qi cx.good.ranked h).1;omega)
theorem zph{w:World}(hsol:Zp B w p s b O vars room st)(hg:zu vars st.1)(hl:st.1.length<=90000)(h24:vars<=24)(hent:∀args w,(callFunc F args).run Tryz.prog w=.ok (.enter F args) w)(hcok:Q7 C)(hcat:KI w F cb C vars)(hh:zj st.1 st.2=true) :
  zC 61 #[.pointer (some ⟨p,0,none⟩),.func (.func F) #[] cb] w fun e w'=>e=.returned (qh C vars st.1 st.2 0).val/\zB w w':=by
 have s1:(w.alloc (.cells #[.int .u64 0,.int .i64 0,.bool false] 136)).heap.size=w.heap.size+1:=by simp
 have s2:((w.alloc (.cells #[.int .u64 0,.int .i64 0,.bool false] 136)).alloc (.map #[] 0)).heap.size=w.heap.size+1+1:=by rw[World.size_alloc,s1]
 have hb1:=Go.Proofs.YtlmmkbnjhilbdaaGreatDoor.below_new w (.cells #[.int .u64 0,.int .i64 0,.bool false] 136);have hb2:=hb1.alloc hb1.size (.map #[] 0);have hb3:=hb2.alloc hb2.size (.cells #[.pointer (some ⟨p,0,none⟩),.func (.func F) #[] cb,.map (some (w.heap.size+1))] 191);have hown:=World.ownsMap_made (w.alloc (.cells #[.int .u64 0,.int .i64 0,.bool false] 136)) Tryz.prog 3 ZQ;rw[s1] at hown;have hM0:qr C ((w.alloc (.cells #[.int .u64 0,.int .i64 0,.bool false] 136)).alloc (.map #[] 0)) (w.heap.size+1) vars st.1 []:=⟨⟨_,hown,Rep.empty⟩,(fun p hp=>by cases hp),(fun p hp=>by cases hp),by simp⟩;have hM:=(hM0.new (Go.Proofs.YtlmmkbnjhilbdaaGreatDoor.below_new _ (.cells #[.pointer (some ⟨p,0,none⟩),.func (.func F) #[] cb,.map (some (w.heap.size+1))] 191))).new zF.drew;have cx:Yh w B p s b O vars room st F cb C (w.heap.size+1):=⟨hsol,hg,hl,h24,hent,hcok,hcat,by omega⟩;have HFR:Hid (zC 102 #[.agg #[.pointer (some ⟨p,0,none⟩),.func (.func F) #[] cb,.map (some (w.heap.size+1))],.int .i64 0,.int .i64 st.2] (((w.alloc (.cells #[.int .u64 0,.int .i64 0,.bool false] 136)).alloc (.map #[] 0)).alloc (.cells #[.pointer (some ⟨p,0,none⟩),.func (.func F) #[] cb,.map (some (w.heap.size+1))] 191)).drew fun e w'=>e=.returned (qh C vars st.1 st.2 0).val/\∃L',qr C w' (w.heap.size+1) vars st.1 L'/\ze (fun k=>k=w.heap.size+1) (((w.alloc (.cells #[.int .u64 0,.int .i64 0,.bool false] 136)).alloc (.map #[] 0)).alloc (.cells #[.pointer (some ⟨p,0,none⟩),.func (.func F) #[] cb,.map (some (w.heap.size+1))] 191)).drew w'):=zlg cx st.2 0 [] _ hb3.drew hM hh (qi hg.ranked st.2).1 (Nat.zero_le _);have k0:=((Blk.new w 136 #[.int .u64 0,.int .i64 0,.bool false]).alloc (.map #[] 0)).alloc (.cells #[.pointer (some ⟨p,0,none⟩),.func (.func F) #[] cb,.map (some (w.heap.size+1))] 191);have k0d:Blk (((w.alloc (.cells #[.int .u64 0,.int .i64 0,.bool false] 136)).alloc (.map #[] 0)).alloc (.cells #[.pointer (some ⟨p,0,none⟩),.func (.func F) #[] cb,.map (some (w.heap.size+1))] 191)).drew w.heap.size 136 #[.int .u64 0,.int .i64 0,.bool false]:=k0.below zF.drew k0.lt;have k1:=Blk.new ((w.alloc (.cells #[.int .u64 0,.int .i64 0,.bool false] 136)).alloc (.map #[] 0)) 191 #[.pointer (some ⟨p,0,none⟩),.func (.func F) #[] cb,.map (some (w.heap.size+1))];rw[s2] at k1;have cp:=(hsol.new hb3).blk.cell 1;have HK1:=zH (k1.below zF.drew k1.lt);have HKP:=zH ((hsol.new hb3).new zF.drew).blk;have hplt:=hsol.blk.lt;have a0:=k1.cell 0;have a1:=k1.cell 1;have a2:=k1.cell 2;have hmm:=@run_makeMap Tryz.prog;have hst:(store ⟨w.heap.size+1+1,1,none⟩ (Value.func (Fn.func F) #[] cb)).run Tryz.prog (((w.alloc (.cells #[.int .u64 0,.int .i64 0,.bool false] 136)).alloc (.map #[] 0)).alloc (.cells #[.pointer (some ⟨p,0,none⟩),.nilFunc,.map none] 191))=.ok () (((w.alloc (.cells #[.int .u64 0,.int .i64 0,.bool false] 136)).alloc (.map #[] 0)).alloc (.cells #[.pointer (some ⟨p,0,none⟩),.func (.func F) #[] cb,.map none] 191)):=by
  have kz:=Blk.new ((w.alloc (.cells #[.int .u64 0,.int .i64 0,.bool false] 136)).alloc (.map #[] 0)) 191 #[.pointer (some ⟨p,0,none⟩),.nilFunc,.map none];rw[s2] at kz;have c1:(((w.alloc (.cells #[.int .u64 0,.int .i64 0,.bool false] 136)).alloc (.map #[] 0)).alloc (.cells #[.pointer (some ⟨p,0,none⟩),.nilFunc,.map none] 191)).cell? ⟨w.heap.size+1+1,1,none⟩=some .nilFunc:=kz.cell 1;rw[run_store _ _ _ _ _ (by rfl),c1,kz.frozen 1];exact congrArg (fun X=>Result.ok () X) (World.setCell_alloc_at _ _ _ _ _ s2.symm)
 have HB3:=zH hb3;have HK0:=zH k0d;clear hM hM0 hown cx hb1 hb2 hb3 k0 k0d k1 hsol hg hcat hent hcok;generalize qh C vars st.1 st.2 0=R at *;go_enter Tryz.func61,Tryz.ntmps61;go_upto_region 2 with fail;generalize ((w.alloc (.cells #[.int .u64 0,.int .i64 0,.bool false] 136)).alloc (.map #[] 0)).alloc (.cells #[.pointer (some ⟨p,0,none⟩),.func (.func F) #[] cb,.map (some (w.heap.size+1))] 191)=WA at *;have S0:WA.drew.cell? ⟨w.heap.size+1+1,0,none⟩=some (.pointer (some ⟨p,0,none⟩))/\WA.drew.cell? ⟨w.heap.size+1+1,1,none⟩=some (.func (.func F) #[] cb)/\WA.drew.cell? ⟨w.heap.size+1+1,2,none⟩=some (.map (some (w.heap.size+1)))/\WA.drew.cell? ⟨p,1,none⟩=some (.int .i64 st.2):=⟨a0,a1,a2,cp⟩;have SK:Hid (∀X,ze (fun k=>k=w.heap.size+1\/k=w.heap.size) WA.drew X->X.cell? ⟨w.heap.size+1+1,0,none⟩=some (.pointer (some ⟨p,0,none⟩))/\X.cell? ⟨w.heap.size+1+1,1,none⟩=some (.func (.func F) #[] cb)/\X.cell? ⟨w.heap.size+1+1,2,none⟩=some (.map (some (w.heap.size+1)))/\X.cell? ⟨p,1,none⟩=some (.int .i64 st.2)):=fun X hk=>by
  have k3:=HK1.out.keptB hk (by omega);have k4:=HKP.out.keptB hk (by omega);exact⟨k3.cell 0,k3.cell 1,k3.cell 2,k4.cell 1⟩
 have SKS:Hid (∀X,ze (fun k=>k=w.heap.size+1) WA.drew X->ze (fun k=>k=w.heap.size+1\/k=w.heap.size) WA.drew (((X.setCell ⟨w.heap.size,0,none⟩ (.int .u64 R.items)).setCell ⟨w.heap.size,1,none⟩ (.int .i64 R.cost)).setCell ⟨w.heap.size,2,none⟩ (.bool R.can))):=fun X hk =>
  ((((ze.refl (fun k=>k=w.heap.size+1\/k=w.heap.size) WA.drew).andThen hk (fun _ h _=>Or.inl h)).andThen (ze.setCell (S:=fun k=>k=w.heap.size) X ⟨w.heap.size,0,none⟩ _ rfl) (fun _ h _=>Or.inr h)).andThen (ze.setCell (S:=fun k=>k=w.heap.size) _ ⟨w.heap.size,1,none⟩ _ rfl) (fun _ h _=>Or.inr h)).andThen (ze.setCell (S:=fun k=>k=w.heap.size) _ ⟨w.heap.size,2,none⟩ _ rfl) (fun _ h _=>Or.inr h)
 have SKW:Hid (∀X,ze (fun k=>k=w.heap.size+1) WA.drew X->X.cell? ⟨w.heap.size+1+1,0,none⟩=some (.pointer (some ⟨p,0,none⟩))/\X.cell? ⟨w.heap.size+1+1,1,none⟩=some (.func (.func F) #[] cb)/\X.cell? ⟨w.heap.size+1+1,2,none⟩=some (.map (some (w.heap.size+1)))/\X.cell? ⟨p,1,none⟩=some (.int .i64 st.2)):=fun X hk=>by
  have k3:=HK1.out.keptB hk (by omega);have k4:=HKP.out.keptB hk (by omega);exact⟨k3.cell 0,k3.cell 1,k3.cell 2,k4.cell 1⟩
 clear a0 a1 a2 cp;go_region_held3 (fun X=>X.cell? ⟨w.heap.size+1+1,0,none⟩=some (.pointer (some ⟨p,0,none⟩))/\X.cell? ⟨w.heap.size+1+1,1,none⟩=some (.func (.func F) #[] cb)/\X.cell? ⟨w.heap.size+1+1,2,none⟩=some (.map (some (w.heap.size+1)))/\X.cell? ⟨p,1,none⟩=some (.int .i64 st.2)) (first|with_reducible exact S0|with_reducible exact S1|with_reducible exact S2)
  (first
   | (go_at_call 102;with_reducible refine HFR.out.mono ?_;rintro e w2 ⟨rfl,L2,hM2,hk2⟩;have k2:=HK0.out.keptB hk2 (by omega);have S1:=SKW.out _ hk2;have S2:=SK.out _ (SKS.out _ hk2);have z0:=k2.cell 0;have z1:=k2.cell 1;have z2:=k2.cell 2;have y0:=k2.frozen 0;have y1:=k2.frozen 1;have y2:=k2.frozen 2;unfold Wy.val))
 all_goals
  have hres:=set3 k2 (.int .u64 R.items) (.int .i64 R.cost) (.bool R.can);have r0:=hres.cell 0;have r1:=hres.cell 1;have r2:=hres.cell 2;have HFIN:Hid (zB w (((w2.setCell ⟨w.heap.size,0,none⟩ (.int .u64 R.items)).setCell ⟨w.heap.size,1,none⟩ (.int .i64 R.cost)).setCell ⟨w.heap.size,2,none⟩ (.bool R.can))) :=
   (((HB3.out.drew.trans (hk2.below HB3.out.size (fun j e=>by omega))).setCell (p:=⟨w.heap.size,0,none⟩) zN _).setCell (p:=⟨w.heap.size,1,none⟩) zN _).setCell (p:=⟨w.heap.size,2,none⟩) zN _
  clear hres k2 z0 z1 z2 y0 y1 y2 hM2 hk2;go_wp2;refine bodyPost_ret (v:=.agg #[.int .u64 R.items,.int .i64 R.cost,.bool R.can]) (by simp[results,Tryz.f61,go_sem,r0,r1,r2]) rfl ?_;exact⟨rfl,HFIN.out⟩
end
end Bd
namespace Bd
open Go.RowKit Go.Maps Go.Deep
def Zm(b:Bool):Int:=if b then 1 else 0
theorem ze5(x:Bool)(w:World):zC 63 #[.bool x] w fun e w'=>e=.returned (.int .i64 (Zm x))/\w=w':=by
 cases x
 ·go_enter Tryz.func63,Tryz.ntmps63;go_wp2;go_ret;exact⟨rfl,rfl⟩
 ·go_enter Tryz.func63,Tryz.ntmps63;go_wp2;go_ret;exact⟨rfl,rfl⟩
section
variable {B p s b:Nat} {O:Nat->Prop} {vars:Nat} {room:Int} {st:List Nd × Int} {F:FuncId} {cb:Array Value} {C:qE} {w:World}
theorem zjf(hsol:Zp B w p s b O vars room st)(hl:st.1.length<=90000)(hh:zj st.1 st.2=true):zR 60 #[.pointer (some ⟨p,0,none⟩)] w .nilIface:=by
 have HAQ:Hid (∀n,zC 52 #[.pointer (some ⟨s,0,none⟩)] (w.drewN n) fun e w'=>e=.returned (.bool false)/\w'=w.drewN n):=fun n=>(zff (hsol.space.new (Zw _ w n))).mono fun e w' ⟨h1,h2⟩=>⟨h1,h2.symm⟩;have HHQ:Hid (∀n,zC 64 #[.pointer (some ⟨b,0,none⟩),.int .i64 st.2] (w.drewN n) fun e w'=>e=.returned (.bool true)/\w'=w.drewN n):=fun n=>(zce (hsol.space.new (Zw _ w n)) st.2 (yS hh (by omega)) hl).mono fun e w' ⟨h1,h2⟩=>⟨by rw[h1,hh],h2.symm⟩;have c0:_=some (Value.pointer (some ⟨s,0,none⟩)):=hsol.blk.cell 0;have c1:_=some (Value.int .i64 st.2):=hsol.blk.cell 1;have c2:w.cell? ⟨s,0,none⟩=some (.pointer (some ⟨b,0,none⟩)):=hsol.space.c0;clear hsol;go_enter Tryz.func60,Tryz.ntmps60;go_wp2_with fail;go_quiet (first|(go_at_call 52;refine Calls.quiet_of_same (HAQ.out _))|(go_at_call 64;refine Calls.quiet_of_same (HHQ.out _)));go_wp2;go_ret;exact⟨rfl,Zw _ w _⟩
def yM(item:Nat)(is:Bool):qE:=fun i b=>Zm (decide (i=item)&&(b==is))
theorem znc(item:Nat)(is:Bool):Q7 (yM item is):=by
 intro i b;unfold yM Zm;split<;>omega
theorem znd(item i:Nat)(is bb:Bool)(a c:Nat)(w:World)(ha:w.cell? ⟨a,0,none⟩=some (.int .i64 item))(hc:w.cell? ⟨c,0,none⟩=some (.bool is)) :
  zR 62 #[.int .i64 i,.bool bb,.pointer (some ⟨a,0,none⟩),.pointer (some ⟨c,0,none⟩)] w (.int .i64 (yM item is i bb)):=by
 by_cases h:i=item
 ·subst h;have HO:=zH (ze5 (bb==is) w);have hR:yM i is i bb=Zm (bb==is):=by unfold yM;simp
  rw[hR];go_enter Tryz.func62,Tryz.ntmps62;go_wp2_with fail;refine HO.out.mono ?_;rintro e w1 ⟨rfl,rfl⟩;go_wp2;go_ret;exact⟨rfl,Below.refl _ _⟩
 ·have HO:=zH (ze5 false w);have hR:yM item is i bb=Zm false:=by unfold yM;simp[h]
  have hne:¬(i:Int)=(item:Int):=by omega
  rw[hR];clear h;go_enter Tryz.func62,Tryz.ntmps62;go_wp2_with fail;refine HO.out.mono ?_;rintro e w1 ⟨rfl,rfl⟩;go_wp2;go_ret;exact⟨rfl,Below.refl _ _⟩
theorem zgX:∀args w,(callFunc 62 args).run Tryz.prog w=.ok (.enter 62 args) w:=by intro args w;kernel_rfl
theorem zhM(k:Nat)(is:Bool)(vars:Nat){a c:Nat}{W0:World}(ha:a<W0.heap.size)(hc:c<W0.heap.size)(ca:W0.cell? ⟨a,0,none⟩=some (.int .i64 k))(cc:W0.cell? ⟨c,0,none⟩=some (.bool is)):KI W0 62 #[.pointer (some ⟨a,0,none⟩),.pointer (some ⟨c,0,none⟩)] (yM k is) vars:=fun W j bb hW _ =>
 znd k j is bb a c W ((hW.cell (p:=⟨a,0,none⟩) ha).trans ca) ((hW.cell (p:=⟨c,0,none⟩) hc).trans cc)
def Qn(vars:Nat)(ns:List Nd)(h:Int)(is:Bool)(i:Nat):Bool:=!(qh (yM i is) vars ns h 0).can||decide (0<(qh (yM i is) vars ns h 0).cost)
def qV(vars:Nat)(ns:List Nd)(h:Int)(is:Bool)(k:Nat):List Int:=((List.range k).filter (Qn vars ns h is)).map (fun i:Nat=>(i:Int))
theorem zmb(vars:Nat)(ns:List Nd)(h:Int)(is:Bool)(k:Nat):qV vars ns h is (k+1)=qV vars ns h is k++(if Qn vars ns h is k then [(k:Int)] else []):=by
 unfold qV;rw[List.range_succ,List.filter_append,List.map_append];congr 1
 by_cases hb:Qn vars ns h is k=true
 ·rw[if_pos hb,List.filter_cons_of_pos hb];rfl
 ·rw[if_neg hb,List.filter_cons_of_neg hb];rfl
theorem zeL(vars:Nat)(ns:List Nd)(h:Int)(is:Bool)(k:Nat):(qV vars ns h is k).length<=k:=by
 unfold qV;rw[List.length_map];exact Nat.le_trans (List.length_filter_le _ _) (by rw[List.length_range];exact Nat.le_refl _)
theorem ziK(hsol:Zp B w p s b O vars room st)(hg:zu vars st.1)(hl:st.1.length<=90000)(h24:vars<=24)(hh:zj st.1 st.2=true)(is:Bool) :
  zC 27 #[.pointer (some ⟨p,0,none⟩),.bool is] w fun e w'=>∃v,e=.returned (.tuple #[v,.nilIface])/\w'.ownsRow w.heap.size 3 1 v (qV vars st.1 st.2 is vars).length (Go.Proofs.YtlmmkbnjhilbdaaGreatDoor.icells (qV vars st.1 st.2 is vars))/\zB w w':=by
 have hbA:=Go.Proofs.YtlmmkbnjhilbdaaGreatDoor.below_new w (.cells #[.bool is] 4);have hci:(w.alloc (.cells #[.bool is] 4)).cell? ⟨w.heap.size,0,none⟩=some (.bool is):=by simp
 have HWH:=zH (zjf (hsol.new hbA) hl hh);have HSOL:=zH hsol;have HG:=zH hg;obtain⟨i0,hin,hz0,hz1,hz2⟩:=info_parts Zt;clear hsol hg;go_enter Tryz.func27,Tryz.ntmps27;go_wp2_with fail;refine HWH.out.mono ?_;rintro e w2 ⟨rfl,hb2⟩;have hb3:zB w w2:=zT hbA hb2;have hs1:(w.alloc (.cells #[.bool is] 4)).heap.size=w.heap.size+1:=by simp
 have hb2:Below (w.heap.size+1) (w.alloc (.cells #[.bool is] 4)) w2:=by rw[<-hs1];exact hb2
 have hci2:=hci;have HV:=zH (JD (HSOL.out.new hb3).space);have c0:w2.cell? ⟨p,0,none⟩=some (.pointer (some ⟨s,0,none⟩)):=(HSOL.out.new hb3).blk.cell 0;have HB3:=zH hb2;have HBA:=zH hbA;have HCI2:=zH hci2;clear hbA hb2 hci HWH hb3 hci2;generalize (w.alloc (.cells #[.bool is] 4))=W1 at *;go_wp2_with fail;refine HV.out.mono ?_;rintro e w3 ⟨rfl,rfl⟩;clear HV;have HST0:Hid (w2.ownsRow (w.heap.size+1) 3 1 (.slice none 0 0) (qV vars st.1 st.2 is 0).length (Go.Proofs.YtlmmkbnjhilbdaaGreatDoor.icells (qV vars st.1 st.2 is 0))):=by
  exact World.ownsRow_nil _ _ _ _
 go_wp2_with fail;go_loopw [7,20] (fun oV iV wr=>∃k:Nat,k<=vars/\iV=.int .i64 k/\wr.ownsRow (w.heap.size+1) 3 1 oV (qV vars st.1 st.2 is k).length (Go.Proofs.YtlmmkbnjhilbdaaGreatDoor.icells (qV vars st.1 st.2 is k))/\Below (w.heap.size+1) W1 wr) (fun _ iV _=>vars-(intOf iV).toNat)
 case atStart=>exact⟨0,Nat.zero_le _,rfl,HST0.out,HB3.out⟩
 case round =>
  clear HST0 HB3 c0;obtain⟨k,hkl,rfl,hrow,hbr⟩:=hrel;have hci:wr.cell? ⟨w.heap.size,0,none⟩=some (.bool is):=(hbr.cell (p:=⟨w.heap.size,0,none⟩) (Nat.lt_succ_self _)).trans HCI2.out;have hbw:zB w wr:=HBA.out.trans (hbr.mono (Nat.le_succ _));obtain⟨n,hn⟩:∃n,(qV vars st.1 st.2 is k).length=n:=⟨_,rfl⟩;have hn24:n<=24:=by have:=zeL vars st.1 st.2 is k;omega
  rw[hn] at hrow;have hbs:=hbr.size;rw[hs1] at hbs;obtain⟨qa,qc,rfl,-⟩:=row_form hrow;have HN:=zH hn
  by_cases hlt:k<vars
  ·have hbB:=Go.Proofs.YtlmmkbnjhilbdaaGreatDoor.below_new wr (.cells #[.int .i64 k] 3);have hbW:zB w (wr.alloc (.cells #[.int .i64 k] 3)):=hbw.trans (hbB.mono (by omega));have hwl:w.heap.size<wr.heap.size:=by omega
   have HCH:=zH (zph (F:=62) (cb:=#[.pointer (some ⟨wr.heap.size,0,none⟩),.pointer (some ⟨w.heap.size,0,none⟩)]) (C:=yM k is) (HSOL.out.new hbW) HG.out hl h24 zgX (znc k is) (zhM k is vars (a:=wr.heap.size) (c:=w.heap.size) (by simp) (by simp;omega) (by simp) ((hbB.cell (p:=⟨w.heap.size,0,none⟩) hwl).trans hci)) hh);have HST:=zH (zmb vars st.1 st.2 is k);unfold Qn at HST;have hk0:(k:Int)<(vars:Int):=by omega
   have HROW0:=zH hrow;have HBR0:=zH hbr;have HBB:=zH hbB;clear hrow hbr hbw hci hbB hbW hn;generalize qh (yM k is) vars st.1 st.2 0=R at *;obtain⟨ri,rc,rb⟩:=R;simp only at HST;unfold Wy.val at HCH;go_wp2_with fail;refine HCH.out.mono ?_;rintro e w4 ⟨rfl,hb4⟩;have hb5:zB wr (w4.alloc (.cells #[.int .u64 ri,.int .i64 rc,.bool rb] 136)):=(zT HBB.out hb4).alloc (Nat.le_trans HBB.out.size hb4.size) _;have hk5:(w4.alloc (.cells #[.int .u64 ri,.int .i64 rc,.bool rb] 136)).cell? ⟨wr.heap.size,0,none⟩=some (.int .i64 k):=by
    have h1:w4.cell? ⟨wr.heap.size,0,none⟩=some (.int .i64 k):=(hb4.cell (p:=⟨wr.heap.size,0,none⟩) (by simp)).trans (by simp);exact((Go.Proofs.YtlmmkbnjhilbdaaGreatDoor.below_new w4 _).cell (p:=⟨wr.heap.size,0,none⟩) (by have:=hb4.size;simp at this;show wr.heap.size<_;omega)).trans h1
   have kb:=Blk.new w4 136 #[.int .u64 ri,.int .i64 rc,.bool rb];have q1:=kb.cell 1;have q2:=kb.cell 2;have HROW:Hid ((w4.alloc (.cells #[.int .u64 ri,.int .i64 rc,.bool rb] 136)).ownsRow (w.heap.size+1) 3 1 (.slice qa n qc) n (Go.Proofs.YtlmmkbnjhilbdaaGreatDoor.icells (qV vars st.1 st.2 is k))):=zU HROW0.out hb5;have HBR:Hid (Below (w.heap.size+1) W1 (w4.alloc (.cells #[.int .u64 ri,.int .i64 rc,.bool rb] 136))):=HBR0.out.trans (hb5.mono (by omega));have hbs5:w.heap.size+1<=(w4.alloc (.cells #[.int .u64 ri,.int .i64 rc,.bool rb] 136)).heap.size:=by have:=HBR.out.size;omega
   clear kb hb4 hb5 HROW0 HBR0 HBB HCH;go_upto_region 9 with fail;generalize w4.alloc (.cells #[.int .u64 ri,.int .i64 rc,.bool rb] 136)=W5 at *;cases rb with
   |false =>
    rw[if_pos (by simp)] at HST;go_wp2_with (at_builtin;refine wpList_append_own_at _ rfl _ _ 24 rfl (w.heap.size+1) 3 i0 (.int .i64 0) 1 8 Tryz.underlying24 hin hz0 hz1 hz2 rfl (by decide) _ _ _ rfl (HROW.out.alloc _) ⟨W5.heap.size,0,none⟩ 1 1 [.int .i64 k] rfl rfl ?e1 ?e2 ?e3 ?e4 ?e5 ?_)
    case e1=>exact Z3 _ _ _
    case e2=>exact ZW _
    case e3=>unfold maxLen;omega
    case e4=>omega
    case e5=>simp;omega
    intro v8 w8 hown8 hgrow8 _ hloc8;have HR8:Hid (w8.ownsRow (w.heap.size+1) 3 1 v8 (qV vars st.1 st.2 is (k+1)).length (Go.Proofs.YtlmmkbnjhilbdaaGreatDoor.icells (qV vars st.1 st.2 is (k+1)))):=by
     show World.ownsRow _ _ _ _ _ _ _;rw[HST.out,Qd,List.length_append,HN.out];exact hown8
    have HB8:Hid (Below (w.heap.size+1) W1 w8):=(HBR.out.alloc hbs5 _).grown hgrow8 (by simp;omega) (fun k hk=>(HROW.out.lt k hk).1);obtain⟨v8a,v8c,rfl,-⟩:=row_form hown8;clear hown8 hgrow8 hloc8 HROW HST;go_wp2;go_roundw
    case rel=>exact⟨k+1,hlt,by go_num,HR8.out,HB8.out⟩
    case measure=>simp[intOf];omega
   |true =>
    by_cases h0:0<rc
    ·rw[if_pos (by simp[h0])] at HST;go_wp2_with (at_builtin;refine wpList_append_own_at _ rfl _ _ 24 rfl (w.heap.size+1) 3 i0 (.int .i64 0) 1 8 Tryz.underlying24 hin hz0 hz1 hz2 rfl (by decide) _ _ _ rfl (HROW.out.alloc _) ⟨W5.heap.size,0,none⟩ 1 1 [.int .i64 k] rfl rfl ?e1 ?e2 ?e3 ?e4 ?e5 ?_)
     case e1=>exact Z3 _ _ _
     case e2=>exact ZW _
     case e3=>unfold maxLen;omega
     case e4=>omega
     case e5=>simp;omega
     intro v8 w8 hown8 hgrow8 _ hloc8;have HR8:Hid (w8.ownsRow (w.heap.size+1) 3 1 v8 (qV vars st.1 st.2 is (k+1)).length (Go.Proofs.YtlmmkbnjhilbdaaGreatDoor.icells (qV vars st.1 st.2 is (k+1)))):=by
      show World.ownsRow _ _ _ _ _ _ _;rw[HST.out,Qd,List.length_append,HN.out];exact hown8
     have HB8:Hid (Below (w.heap.size+1) W1 w8):=(HBR.out.alloc hbs5 _).grown hgrow8 (by simp;omega) (fun k hk=>(HROW.out.lt k hk).1);obtain⟨v8a,v8c,rfl,-⟩:=row_form hown8;clear hown8 hgrow8 hloc8 HROW HST;go_wp2;go_roundw
     case rel=>exact⟨k+1,hlt,by go_num,HR8.out,HB8.out⟩
     case measure=>simp[intOf];omega
    ·rw[if_neg (by simp[h0])] at HST;have HR8:Hid (W5.ownsRow (w.heap.size+1) 3 1 (.slice qa n qc) (qV vars st.1 st.2 is (k+1)).length (Go.Proofs.YtlmmkbnjhilbdaaGreatDoor.icells (qV vars st.1 st.2 is (k+1)))):=by
      show World.ownsRow _ _ _ _ _ _ _;rw[HST.out,List.append_nil,HN.out];exact HROW.out
     clear HROW HST;go_wp2;go_roundw
     case rel=>exact⟨k+1,hlt,by go_num,HR8.out,HBR.out⟩
     case measure=>simp[intOf];omega
  ·obtain rfl:k=vars:=by omega
   clear HSOL;go_wp2;go_ret2;rw[HN.out];exact⟨_,rfl,Go.Proofs.YtlmmkbnjhilbdaaGreatDoor.ownsRow_base hrow (Nat.le_succ _),hbw⟩
end
end Bd
namespace Bd
open Go.RowKit
def ZI(C:qE):Nat->Nat->(Nat->Bool)->Int
 |0,_,_=>0
 |k+1,v,f=>C v (f v)+ZI C k (v+1) f
def Agr(k v:Nat)(f f':Nat->Bool):Prop:=∀i,(i<v\/v+k<=i)->f' i=f i
def Jq(k v:Nat)(f' f'':Nat->Bool):Prop:=(∀i,v<=i->i<v+k->f' i=f'' i)\/∃j,v<=j/\j<v+k/\f' j=true/\f'' j=false/\∀i,v<=i->i<j->f' i=f'' i
theorem Agr.down{k v:Nat}{f f':Nat->Bool}(h:Agr (k+1) v f f'){b:Bool}(hb:f' v=b):Agr k (v+1) (turn f v b) f':=fun i hi=>by
 by_cases e:i=v
 ·rw[e,xK,hb]
 ·rw[ye _ _ e];exact h i (by omega)
theorem Agr.up{k v:Nat}{f f':Nat->Bool}{b:Bool}(h:Agr k (v+1) (turn f v b) f'):Agr (k+1) v f f':=fun i hi=>by
 rw[h i (by omega),ye _ _ (by omega)]
theorem Agr.at{k v:Nat}{f f':Nat->Bool}{b:Bool}(h:Agr k (v+1) (turn f v b) f'):f' v=b:=by rw[h v (by omega),xK]
theorem Jq.up{k v:Nat}{f' f'':Nat->Bool}(h:Jq k (v+1) f' f'')(e:f' v=f'' v):Jq (k+1) v f' f'':=by
 rcases h with h|⟨j,h1,h2,h3,h4,h5⟩
 ·left;intro i h1 h2
  by_cases ei:i=v
  ·rw[ei,e]
  ·exact h i (by omega) (by omega)
 ·right;refine⟨j,by omega,by omega,h3,h4,fun i i1 i2=>?_⟩
  by_cases ei:i=v
  ·rw[ei,e]
  ·exact h5 i (by omega) i2
structure zjr(C:qE)(k v:Nat)(g:Fn')(f:Nat->Bool)(x:Wy):Prop where
 no:x.can=false->∀f',Agr k v f f'->g f'=false
 yes:x.can=true->∃f',Agr k v f f'/\g f'=true/\x.cost=ZI C k v f'/\(∀i,x.items.testBit i=(decide (v<=i/\i<v+k)&&f' i))/\∀f'',Agr k v f f''->g f''=true->x.cost<ZI C k v f''\/x.cost=ZI C k v f''/\Jq k v f' f''
theorem zbJ(C:qE):∀(k v:Nat) (g:Fn') (f:Nat->Bool),zjr C k v g f (qz C k v g f)
 |0,v,g,f=>by
  have key:∀f',Agr 0 v f f'->f'=f:=fun f' h=>funext fun i=>h i (by omega);unfold qz;refine⟨fun h f' hf=>by rw[key f' hf];exact h,fun h=>⟨f,fun _ _=>rfl,h,rfl,fun i=>?_,fun f'' hf _=>Or.inr ⟨rfl,Or.inl fun i h1 h2=>by omega⟩⟩⟩;have:decide (v<=i/\i<v+0)=false:=decide_eq_false (by omega);rw[this];simp
 |k+1,v,g,f=>by
  have ho:=zbJ C k (v+1) g (turn f v false);have hi:=zbJ C k (v+1) g (turn f v true);unfold qz;generalize qz C k (v+1) g (turn f v false)=wo at ho;generalize qz C k (v+1) g (turn f v true)=wi at hi
  by_cases hc:wi.can=true/\(wo.can=false\/(wiF C v wi).cost<=(woF C v wo).cost)
  ·have hB:xG C v wo wi=wiF C v wi:=by unfold xG;rw[if_pos hc]
   rw[hB];obtain⟨f',a1,a2,a3,a4,a5⟩:=hi.yes hc.1;have hv:=a1.at
   refine⟨fun h=>absurd (h.symm.trans hc.1) (by simp),fun _=>⟨f',a1.up,a2,?_,fun i=>?_,fun f'' hf hg=>?_⟩⟩
   ·show wi.cost+C v true=C v (f' v)+_;rw[hv,a3];omega
   ·show (wi.items|||2^v).testBit i=_;rw[Nat.testBit_or,Nat.testBit_two_pow,a4 i]
    by_cases e:v=i
    ·subst e;rw[hv];have:decide (v<=v/\v<v+(k+1))=true:=decide_eq_true (by omega);rw[this];simp
    ·have:decide (v+1<=i/\i<v+1+k)=decide (v<=i/\i<v+(k+1)):=by
      by_cases q:v+1<=i/\i<v+1+k
      ·rw[decide_eq_true q,decide_eq_true (by omega)]
      ·rw[decide_eq_false q,decide_eq_false (by omega)]
     rw[this];simp[e]
   ·show wi.cost+C v true<C v (f'' v)+_\/wi.cost+C v true=C v (f'' v)+_/\_;cases hq:f'' v with
    |true =>
     rcases a5 f'' (hf.down hq) hg with h|⟨h,hl⟩
     ·left;omega
     ·right;exact⟨by omega,hl.up (hv.trans hq.symm)⟩
    |false =>
     have hcan:wo.can=true:=by
      cases e:wo.can with
      |true=>rfl
      |false=>exact absurd (hg.symm.trans (ho.no e f'' (hf.down hq))) (by simp)
     have hle:wi.cost+C v true<=wo.cost+C v false:=by
      rcases hc.2 with h|h
      ·exact absurd (h.symm.trans hcan) (by simp)
      ·exact h
     obtain⟨fo,b1,b2,b3,b4,b5⟩:=ho.yes hcan;have hmin:wo.cost<=ZI C k (v+1) f'':=by rcases b5 f'' (hf.down hq) hg with h|⟨h,_⟩<;>omega
     by_cases e:wi.cost+C v true<C v false+ZI C k (v+1) f''
     ·left;exact e
     ·right;exact⟨by omega,Or.inr ⟨v,Nat.le_refl _,by omega,hv,hq,fun i h1 h2=>by omega⟩⟩
  ·have hB:xG C v wo wi=woF C v wo:=by unfold xG;rw[if_neg hc]
   rw[hB];refine⟨fun h f' hf=>?_,fun h=>?_⟩
   ·have hco:wo.can=false:=h;have hci:wi.can=false:=by
     cases e:wi.can with
     |false=>rfl
     |true=>exact absurd ⟨e,Or.inl hco⟩ hc
    cases hq:f' v with
    |true=>exact hi.no hci f' (hf.down hq)
    |false=>exact ho.no hco f' (hf.down hq)
   ·have hco:wo.can=true:=h;obtain⟨f',a1,a2,a3,a4,a5⟩:=ho.yes hco;have hv:=a1.at
    refine⟨f',a1.up,a2,?_,fun i=>?_,fun f'' hf hg=>?_⟩
    ·show wo.cost+C v false=C v (f' v)+_;rw[hv,a3];omega
    ·show wo.items.testBit i=_;rw[a4 i]
     by_cases e:v=i
     ·subst e;rw[hv];simp
     ·have:decide (v+1<=i/\i<v+1+k)=decide (v<=i/\i<v+(k+1)):=by
       by_cases q:v+1<=i/\i<v+1+k
       ·rw[decide_eq_true q,decide_eq_true (by omega)]
       ·rw[decide_eq_false q,decide_eq_false (by omega)]
      rw[this]
    ·show wo.cost+C v false<C v (f'' v)+_\/wo.cost+C v false=C v (f'' v)+_/\_;cases hq:f'' v with
     |false =>
      rcases a5 f'' (hf.down hq) hg with h|⟨h,hl⟩
      ·left;omega
      ·right;exact⟨by omega,hl.up (hv.trans hq.symm)⟩
     |true =>
      left;have hci:wi.can=true:=by
       cases e:wi.can with
       |true=>rfl
       |false=>exact absurd (hg.symm.trans (hi.no e f'' (hf.down hq))) (by simp)
      obtain⟨fi,b1,b2,b3,b4,b5⟩:=hi.yes hci;have hmin:wi.cost<=ZI C k (v+1) f'':=by rcases b5 f'' (hf.down hq) hg with h|⟨h,_⟩<;>omega
      have hlt:¬(wi.cost+C v true<=wo.cost+C v false):=fun e=>hc ⟨hci,Or.inr e⟩;omega
end Bd
namespace Bd
open Go.RowKit Go.Maps Go.Deep
theorem zcE(item:Nat)(is:Bool):∀(k v:Nat) (f:Nat->Bool),ZI (yM item is) k v f=if v<=item/\item<v+k then Zm (f item==is) else 0
 |0,v,f=>by rw[if_neg (by omega)];rfl
 |k+1,v,f=>by
  show yM item is v (f v)+ZI (yM item is) k (v+1) f=_;rw[zcE item is k (v+1) f];unfold yM
  by_cases e:v=item
  ·subst e;rw[if_neg (by omega),if_pos (by omega)];simp
  ·have h0:Zm (decide (v=item)&&(f v==is))=0:=by rw[decide_eq_false e];rfl
   rw[h0]
   by_cases q:v<=item/\item<v+(k+1)
   ·rw[if_pos q,if_pos (by omega)];omega
   ·rw[if_neg q,if_neg (by omega)];rfl
theorem zm8{vars:Nat}{ns:List Nd}{h:Int}{is:Bool}{i:Nat}(hi:i<vars):Qn vars ns h is i=true↔∀f:Nat->Bool,(∀j,vars<=j->f j=false)->sem ns h f=true->f i=is:=by
 have hb:=zbJ (yM i is) (vars-0) 0 (sem ns h) (fun _=>false);have hcs:∀f,ZI (yM i is) (vars-0) 0 f=Zm (f i==is):=fun f=>by rw[zcE,if_pos (by omega)]
 unfold Qn qh;generalize qz (yM i is) (vars-0) 0 (sem ns h) (fun _=>false)=x at hb;cases hc:x.can with
 |false =>refine⟨fun _ f hf hs=>?_,fun _=>by simp⟩;exact absurd (hs.symm.trans (hb.no hc f (fun j hj=>hf j (by omega)))) (by simp)
 |true =>
  obtain⟨f',a1,a2,a3,-,a5⟩:=hb.yes hc;rw[hcs f'] at a3;simp only[Bool.not_true,Bool.false_or,decide_eq_true_eq];constructor
  ·intro h0 f hf hs;have h1:=a5 f (fun j hj=>hf j (by omega)) hs;rw[hcs f] at h1;have h2:0<Zm (f i==is):=by rcases h1 with h|⟨h,_⟩<;>omega
   unfold Zm at h2;cases q:(f i==is) with
   |true=>exact eq_of_beq q
   |false=>rw[q] at h2;simp at h2
  ·intro hall;have:=hall f' (fun j hj=>a1 j (by omega)) a2;rw[a3,this];unfold Zm;simp
section
variable {B p s b:Nat} {O:Nat->Prop} {vars:Nat} {room:Int} {st:List Nd × Int} {w:World}
theorem zm1(hsol:Zp B w p s b O vars room st)(hg:zu vars st.1)(hl:st.1.length<=90000)(h24:vars<=24)(hh:zj st.1 st.2=true) :
  zC 11 #[.pointer (some ⟨p,0,none⟩)] w fun e w'=>∃v,e=.returned (.tuple #[v,.nilIface])/\w'.ownsRow w.heap.size 3 1 v (qV vars st.1 st.2 false vars).length (Go.Proofs.YtlmmkbnjhilbdaaGreatDoor.icells (qV vars st.1 st.2 false vars))/\zB w w':=by
 have HS:=zH (ziK hsol hg hl h24 hh false);clear hsol hg hh;go_enter Tryz.func11,Tryz.ntmps11;go_wp2_with fail;refine HS.out.mono ?_;rintro e w1 ⟨v,rfl,hrow,hb⟩;have HR:Hid (_/\_):=⟨hrow,hb⟩;clear hrow hb HS;go_wp2;go_ret2;exact⟨v,rfl,HR.out.1,HR.out.2⟩
end
end Bd
section
open Go.RowKit Go.Deep Sv
theorem zeD(s:ByteArray)(w:World)(hw:Lw w)(ls:List Ln)(its:List It)(m:Nat)(hr:Zq s m=some (ls,its)):zC 4 #[.string s,.int .i64 m] w fun e w'=>∃bc ca cc fa fc,e=.returned (.tuple #[.pointer (some ⟨bc,0,none⟩),.agg #[.int .i64 its.length,.slice ca (ofL its ls).length cc,.slice fa (ofL its ls).length fc],.bool true])/\(ca=none->cc=0)/\qA w' bc ls its/\RS w.heap.size w' (.slice ca (ofL its ls).length cc) (.slice fa (ofL its ls).length fc) ((ofL its ls).map Prod.snd) ((ofL its ls).map Prod.fst)/\zB w w':=by
 have HRD0:=zbR s m w hw;rw[hr] at HRD0;refine HRD0.mono fun e w' ⟨bc,cv,fv,h1,h2,h3,h4⟩=>?_;obtain⟨ca,cc,e1,hn1⟩:∃a c,cv=.slice a (ofL its ls).length c/\(a=none->c=0):=by obtain⟨cs,h1,_⟩:=h3.crow;obtain⟨a,c,e,hn,_⟩:=(zx h1).form;exact⟨a,c,by simpa using e,hn⟩
 obtain⟨fa,fc,e2⟩:∃a c,fv=.slice a (ofL its ls).length c:=by obtain⟨a,c,e,_⟩:=(zx h3.frow).form;exact⟨a,c,by simpa using e⟩
 subst e1 e2;exact⟨bc,ca,cc,fa,fc,h1,hn1,h2,h3,h4⟩
theorem zgi{s:ByteArray}{m:Nat}{ls:List Ln}{its:List It}(hr:Zq s m=some (ls,its)):qq ls=.ok its/\(ofL its ls).length<=200/\its.length<=m:=by
 unfold Zq at hr;split at hr
 ·cases hr
 ·split at hr
  ·cases hr
  ·rename_i ls' its' hp;split at hr
   ·cases hr
   ·rename_i hle;cases hr;exact⟨zfA hp,by omega,by omega⟩
end
section
open Go.RowKit Go.Deep Sv
def nmA:ByteArray:=⟨#[97]⟩
def nmN:ByteArray:=⟨#[]⟩
theorem zjh:Yl ⟨#[112,97,99,107,97,103,101,32,97,32,49,46,48,46,48]⟩=.ok ⟨1,nmA,1,0,0,nmN,[]⟩:=by kernel_rfl
theorem zkt:Yl ⟨#[114,111,111,116,32,97,32,97,110,121]⟩=.ok ⟨4,nmA,0,0,0,nmN,[(0,1000000000)]⟩:=by kernel_rfl
def Zm:List It:=[⟨nmA,2,0,0⟩,⟨nmA,1,0,0⟩]
theorem Jg:zI nmA:=by
 refine⟨by decide,by decide,by decide,by rw[ByteArray.toList_eq];decide,by rw[ByteArray.toList_eq];decide,fun k hk=>?_⟩;obtain rfl:k=0:=by have:nmA.size=1:=rfl;omega
 left;decide
theorem zng:qD ⟨1,nmA,1,0,0,nmN,[]⟩=0:=by
 unfold qD;rw[if_neg (by simp),if_neg (fun h=>by rcases h with h|⟨h,_⟩;exact h Jg;simp[Ln.pair] at h),if_neg (fun h=>h.2 rfl),if_neg (by simp),if_neg (by simp),if_neg (by simp[InV])]
theorem zmU:qD ⟨4,nmA,0,0,0,nmN,[(0,1000000000)]⟩=0:=by
 unfold qD;rw[if_neg (by simp),if_neg (fun h=>by rcases h with h|⟨h,_⟩;exact h Jg;simp[Ln.pair] at h),if_neg (fun h=>h.2 rfl),if_neg (by simp),if_neg (by simp),if_neg (by simp[InV])]
theorem znk:¬(8<yo ([]++[(⟨nmA,1,0,0⟩:It)])\/([]:List It).length=24):=by
 have:yo ([]++[(⟨nmA,1,0,0⟩:It)])=1:=by kernel_rfl
 rw[this];simp
end
section
open Go.RowKit Go.Deep Sv
def QA:ByteArray:=⟨#[112,97,99,107,97,103,101,32,97,32,49,46,48,46,48,10,114,111,111,116,32,97,32,97,110,121,10,99,108,97,115,104,101,115,32,97,32,49,46,48,46,48,32,97,32,97,110,121,10]⟩
theorem zhy:yf QA 49 0=[(0,⟨#[112,97,99,107,97,103,101,32,97,32,49,46,48,46,48]⟩),(16,⟨#[114,111,111,116,32,97,32,97,110,121]⟩),(27,⟨#[99,108,97,115,104,101,115,32,97,32,49,46,48,46,48,32,97,32,97,110,121]⟩)]:=by kernel_rfl
theorem zg4:Yl ⟨#[99,108,97,115,104,101,115,32,97,32,49,46,48,46,48,32,97,32,97,110,121]⟩=.ok ⟨3,nmA,1,0,0,nmA,[(0,1000000000)]⟩:=by kernel_rfl
def qR:List Ln:=[⟨1,nmA,1,0,0,nmN,[]⟩,⟨4,nmA,0,0,0,nmN,[(0,1000000000)]⟩,⟨3,nmA,1,0,0,nmA,[(0,1000000000)]⟩]
def qL:List It:=[⟨nmA,1,0,0⟩]
theorem zmI:qD ⟨3,nmA,1,0,0,nmA,[(0,1000000000)]⟩=0:=by
 unfold qD;rw[if_neg (by simp),if_neg (fun h=>by rcases h with h|⟨_,h⟩;exact h Jg;exact h Jg),if_neg (fun h=>h.1 (Or.inr rfl)),if_neg (by simp),if_neg (by simp),if_neg (by simp[InV])]
theorem zl0:zZ qR 0 []=.ok [⟨nmA,1,0,0⟩]:=by
 unfold qR;rw[zZ,if_neg (by rw[zng];simp),if_pos rfl,if_neg (by simp),if_neg (show ¬(8<yo ([]++[Ln.it ⟨1,nmA,1,0,0,nmN,[]⟩])\/([]:List It).length=24) from znk)];rw[zZ,if_neg (by rw[zmU];simp),if_neg (by simp)];rw[zZ,if_neg (by rw[zmI];simp),if_neg (by simp),zZ];rfl
theorem znt:ya [⟨nmA,1,0,0⟩]=qL:=by
 unfold ya qL;rw[List.mergeSort]
theorem zlT:qZ qR 0 qL=none:=by kernel_rfl
theorem zaE:qq qR=.ok qL:=by
 unfold qq;rw[if_neg (by decide),zl0];simp only[znt,zlT]
theorem zpr:plF (yf QA 49 0) []=.ok [(0,⟨1,nmA,1,0,0,nmN,[]⟩),(16,⟨4,nmA,0,0,0,nmN,[(0,1000000000)]⟩),(27,⟨3,nmA,1,0,0,nmA,[(0,1000000000)]⟩)]:=by
 rw[zhy,plF,zjh];simp only[plF,zkt,zg4];rfl
theorem zj2:Zd QA=.ok (qR,qL):=by
 unfold Zd;rw[if_neg (by decide),show QA.size=49 from rfl,zpr];have h:=zaE;unfold qR at h;simp only[List.map_cons,List.map_nil,h];rfl
theorem zo5:xF [(0,1000000000)] (qL.getD 0 default):=by
 refine⟨by simp[qL,InV],?_⟩;simp[qL,mem,Qj]
theorem zkS:yg qL nmA=(0,1):=by kernel_rfl
theorem zcQ:qP qL nmA [(0,1000000000)]=[0]:=by
 unfold qP;rw[zkS];show List.filter _ [0]=[0];rw[List.filter_cons,if_pos (by simpa using zo5)];rfl
theorem znS:prF qL 1=[]:=by kernel_rfl
theorem znr:qT qL ⟨nmA,1,0,0⟩=0:=by kernel_rfl
theorem Xe:ofL qL qR=[(1,[1]),(2,[-1,-1])]:=by
 unfold ofL;rw[show qL.length=1 from rfl,znS,show qR.length=3 from rfl];have h0:yj qL 0 (qR.getD 0 default)=[]:=by unfold yj;rw[if_neg (by decide),if_neg (by decide),if_neg (by decide)]
 have h1:yj qL 1 (qR.getD 1 default)=[(1,[1])]:=by
  unfold yj;rw[if_pos (by decide)];show [(((1:Nat):Int),(qP qL nmA [(0,1000000000)]).map fun (k:Nat)=>((k:Int)+1))]=_;rw[zcQ];rfl
 have h2:yj qL 2 (qR.getD 2 default)=[(2,[-1,-1])]:=by
  unfold yj;rw[if_neg (by decide),if_neg (by decide),if_pos (by decide)];show (qP qL nmA [(0,1000000000)]).map (fun (k:Nat)=>(((2:Nat):Int),[qJ (qT qL ⟨nmA,1,0,0⟩),qJ (k:Int)]))=_;rw[zcQ,znr];rfl
 rw[Qe,Qe,Qe,h0,h1,h2];rfl
noncomputable def xq(ls:List Ln)(its:List It)(l:List Nat):Bool:=xi (qm (ofL its ls) (inF ls.length l))
theorem zeh:zw qR=[1,2]:=by kernel_rfl
theorem zkg:xq qR qL [1,2]=false:=by
 unfold xq;rw[Xe,show qm [(1,[1]),(2,[-1,-1])] (inF qR.length [1,2])=[[1],[-1,-1]] by decide];refine zbn.2 fun v hv=>?_;obtain⟨x,hx,h1⟩:=hv [1] (by simp);obtain⟨y,hy,h2⟩:=hv [-1,-1] (by simp);obtain rfl:x=1:=by simpa using hx
 obtain rfl:y=-1:=by simpa using hy
 rw[KP (by decide),h1] at h2;cases h2
theorem zod:xq qR qL [1]=true:=by
 unfold xq;rw[Xe,show qm [(1,[1]),(2,[-1,-1])] (inF qR.length [1])=[[1]] by decide];refine XY.2 ⟨1,fun c hc=>?_⟩;obtain rfl:c=[1]:=by simpa using hc
 exact⟨1,by simp,by decide⟩
theorem zim:xq qR qL [2]=true:=by
 unfold xq;rw[Xe,show qm [(1,[1]),(2,[-1,-1])] (inF qR.length [2])=[[-1,-1]] by decide];refine XY.2 ⟨0,fun c hc=>?_⟩;obtain rfl:c=[-1,-1]:=by simpa using hc
 exact⟨-1,by simp,by decide⟩
theorem zlx:yv (xq qR qL) (zw qR).length (zw qR)=[1,2]:=by
 rw[zeh];show yv (xq qR qL) 2 [1,2]=[1,2];simp[yv,zod,zim]
end
end Go.Proofs.YtlmmkbnjhilbdaaGreatDoor
