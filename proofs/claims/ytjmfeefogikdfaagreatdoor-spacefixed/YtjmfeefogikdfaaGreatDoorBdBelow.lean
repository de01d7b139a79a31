/- below: an end; what was counted already. -/
import Derived.Test.YtjmfeefogikdfaaGreatDoorWyMakes
namespace Go.Proofs.YtjmfeefogikdfaaGreatDoor
set_option maxHeartbeats 4000000
set_option maxRecDepth 100000
namespace Bd
open Go.RowKit Go.Maps Go.Deep
section
variable {W0:World} {B p s b:Nat} {O:Nat->Prop} {vars:Nat} {room:Int} {st:List Nd × Int} {F:FuncId} {cb:Array Value} {C:qt} {dk:Nat}
theorem znN(cx:QN W0 B p s b O vars room st F cb C dk):∀d,zdT W0 p vars st.1 F cb C dk d:=by
 intro d
 induction d with
 |zero=>exact fun h L W hW hM hh hd=>zcj cx h L W hW hM hh (by have:=(zY cx.good.ranked h).2;omega)
 |succ d ih =>
  intro h L W hW hM hh hd
  by_cases ht:za st.1 h=24
  ·exact zcj cx h L W hW hM hh ht
  ·by_cases hin:h∈L.map Prod.fst
   ·obtain⟨q,hq,rfl⟩:=List.mem_map.1 hin;exact zlG cx q.1 L W hW hM hh ht q.2 hq
   ·exact zlp cx (zaY cx ih) h L W hW hM hh ht hd hin
theorem ziL(cx:QN W0 B p s b O vars room st F cb C dk)(h:Int)(v:Nat)(L:List (Int × Wy))(W:World)(hW:zB W0 W)(hM:ql C W dk vars st.1 L)(hh:zg st.1 h=true)(hv:(v:Int)<=za st.1 h)(hvv:v<=vars):zC 92 #[wkV p F cb dk,.int .i64 v,.int .i64 h] W (QG C dk vars st.1 (qf C vars st.1 h v) W) :=
 zaY cx (znN cx 24) h v L W hW hM hh hv hvv (by have:=(zY cx.good.ranked h).1;omega)
theorem zk2{w:World}(hsol:xT B w p s b O vars room st)(hg:zr vars st.1)(hl:st.1.length<=90000)(h24:vars<=24)(hent:∀args w,(callFunc F args).run Tryz.prog w=.ok (.enter F args) w)(hcok:Qq C)(hcat:XJ w F cb C vars)(hh:zg st.1 st.2=true) :
  zC 56 #[.pointer (some ⟨p,0,none⟩),.func (.func F) #[] cb] w fun e w'=>e=.returned (qf C vars st.1 st.2 0).val/\zB w w':=by
 have s1:(w.alloc (.cells #[.int .u64 0,.int .i64 0,.bool false] 136)).heap.size=w.heap.size+1:=by simp
 have s2:((w.alloc (.cells #[.int .u64 0,.int .i64 0,.bool false] 136)).alloc (.map #[] 0)).heap.size=w.heap.size+1+1:=by rw[World.size_alloc,s1]
 have hb1:=Go.Proofs.YtjmfeefogikdfaaGreatDoor.below_new w (.cells #[.int .u64 0,.int .i64 0,.bool false] 136);have hb2:=hb1.alloc hb1.size (.map #[] 0);have hb3:=hb2.alloc hb2.size (.cells #[.pointer (some ⟨p,0,none⟩),.func (.func F) #[] cb,.map (some (w.heap.size+1))] 185);have hown:=World.ownsMap_made (w.alloc (.cells #[.int .u64 0,.int .i64 0,.bool false] 136)) Tryz.prog 3 ZG;rw[s1] at hown;have hM0:ql C ((w.alloc (.cells #[.int .u64 0,.int .i64 0,.bool false] 136)).alloc (.map #[] 0)) (w.heap.size+1) vars st.1 []:=⟨⟨_,hown,Rep.empty⟩,(fun p hp=>by cases hp),(fun p hp=>by cases hp),by simp⟩;have hM:=(hM0.new (Go.Proofs.YtjmfeefogikdfaaGreatDoor.below_new _ (.cells #[.pointer (some ⟨p,0,none⟩),.func (.func F) #[] cb,.map (some (w.heap.size+1))] 185))).new zF.drew;have cx:QN w B p s b O vars room st F cb C (w.heap.size+1):=⟨hsol,hg,hl,h24,hent,hcok,hcat,by omega⟩;have HFR:Hid (zC 92 #[.agg #[.pointer (some ⟨p,0,none⟩),.func (.func F) #[] cb,.map (some (w.heap.size+1))],.int .i64 0,.int .i64 st.2] (((w.alloc (.cells #[.int .u64 0,.int .i64 0,.bool false] 136)).alloc (.map #[] 0)).alloc (.cells #[.pointer (some ⟨p,0,none⟩),.func (.func F) #[] cb,.map (some (w.heap.size+1))] 185)).drew fun e w'=>e=.returned (qf C vars st.1 st.2 0).val/\∃L',ql C w' (w.heap.size+1) vars st.1 L'/\zb (fun k=>k=w.heap.size+1) (((w.alloc (.cells #[.int .u64 0,.int .i64 0,.bool false] 136)).alloc (.map #[] 0)).alloc (.cells #[.pointer (some ⟨p,0,none⟩),.func (.func F) #[] cb,.map (some (w.heap.size+1))] 185)).drew w'):=ziL cx st.2 0 [] _ hb3.drew hM hh (zY hg.ranked st.2).1 (Nat.zero_le _);have k0:=((Blk.new w 136 #[.int .u64 0,.int .i64 0,.bool false]).alloc (.map #[] 0)).alloc (.cells #[.pointer (some ⟨p,0,none⟩),.func (.func F) #[] cb,.map (some (w.heap.size+1))] 185);have k0d:Blk (((w.alloc (.cells #[.int .u64 0,.int .i64 0,.bool false] 136)).alloc (.map #[] 0)).alloc (.cells #[.pointer (some ⟨p,0,none⟩),.func (.func F) #[] cb,.map (some (w.heap.size+1))] 185)).drew w.heap.size 136 #[.int .u64 0,.int .i64 0,.bool false]:=k0.below zF.drew k0.lt;have k1:=Blk.new ((w.alloc (.cells #[.int .u64 0,.int .i64 0,.bool false] 136)).alloc (.map #[] 0)) 185 #[.pointer (some ⟨p,0,none⟩),.func (.func F) #[] cb,.map (some (w.heap.size+1))];rw[s2] at k1;have cp:=(hsol.new hb3).blk.cell 1;have HK1:=zH (k1.below zF.drew k1.lt);have HKP:=zH ((hsol.new hb3).new zF.drew).blk;have hplt:=hsol.blk.lt;have a0:=k1.cell 0;have a1:=k1.cell 1;have a2:=k1.cell 2;have hmm:=@run_makeMap Tryz.prog;have hst:(store ⟨w.heap.size+1+1,1,none⟩ (Value.func (Fn.func F) #[] cb)).run Tryz.prog (((w.alloc (.cells #[.int .u64 0,.int .i64 0,.bool false] 136)).alloc (.map #[] 0)).alloc (.cells #[.pointer (some ⟨p,0,none⟩),.nilFunc,.map none] 185))=.ok () (((w.alloc (.cells #[.int .u64 0,.int .i64 0,.bool false] 136)).alloc (.map #[] 0)).alloc (.cells #[.pointer (some ⟨p,0,none⟩),.func (.func F) #[] cb,.map none] 185)):=by
  have kz:=Blk.new ((w.alloc (.cells #[.int .u64 0,.int .i64 0,.bool false] 136)).alloc (.map #[] 0)) 185 #[.pointer (some ⟨p,0,none⟩),.nilFunc,.map none];rw[s2] at kz;have c1:(((w.alloc (.cells #[.int .u64 0,.int .i64 0,.bool false] 136)).alloc (.map #[] 0)).alloc (.cells #[.pointer (some ⟨p,0,none⟩),.nilFunc,.map none] 185)).cell? ⟨w.heap.size+1+1,1,none⟩=some .nilFunc:=kz.cell 1;rw[run_store _ _ _ _ _ (by rfl),c1,kz.frozen 1];exact congrArg (fun X=>Result.ok () X) (World.setCell_alloc_at _ _ _ _ _ s2.symm)
 have HB3:=zH hb3;have HK0:=zH k0d;clear hM hM0 hown cx hb1 hb2 hb3 k0 k0d k1 hsol hg hcat hent hcok;generalize qf C vars st.1 st.2 0=R at *;go_enter Tryz.func56,Tryz.ntmps56;go_upto_region 2 with fail;generalize ((w.alloc (.cells #[.int .u64 0,.int .i64 0,.bool false] 136)).alloc (.map #[] 0)).alloc (.cells #[.pointer (some ⟨p,0,none⟩),.func (.func F) #[] cb,.map (some (w.heap.size+1))] 185)=WA at *;have S0:WA.drew.cell? ⟨w.heap.size+1+1,0,none⟩=some (.pointer (some ⟨p,0,none⟩))/\WA.drew.cell? ⟨w.heap.size+1+1,1,none⟩=some (.func (.func F) #[] cb)/\WA.drew.cell? ⟨w.heap.size+1+1,2,none⟩=some (.map (some (w.heap.size+1)))/\WA.drew.cell? ⟨p,1,none⟩=some (.int .i64 st.2):=⟨a0,a1,a2,cp⟩;have SK:Hid (∀X,zb (fun k=>k=w.heap.size+1\/k=w.heap.size) WA.drew X->X.cell? ⟨w.heap.size+1+1,0,none⟩=some (.pointer (some ⟨p,0,none⟩))/\X.cell? ⟨w.heap.size+1+1,1,none⟩=some (.func (.func F) #[] cb)/\X.cell? ⟨w.heap.size+1+1,2,none⟩=some (.map (some (w.heap.size+1)))/\X.cell? ⟨p,1,none⟩=some (.int .i64 st.2)):=fun X hk=>by
  have k3:=HK1.out.keptB hk (by omega);have k4:=HKP.out.keptB hk (by omega);exact⟨k3.cell 0,k3.cell 1,k3.cell 2,k4.cell 1⟩
 have SKS:Hid (∀X,zb (fun k=>k=w.heap.size+1) WA.drew X->zb (fun k=>k=w.heap.size+1\/k=w.heap.size) WA.drew (((X.setCell ⟨w.heap.size,0,none⟩ (.int .u64 R.items)).setCell ⟨w.heap.size,1,none⟩ (.int .i64 R.cost)).setCell ⟨w.heap.size,2,none⟩ (.bool R.can))):=fun X hk =>
  ((((zb.refl (fun k=>k=w.heap.size+1\/k=w.heap.size) WA.drew).andThen hk (fun _ h _=>Or.inl h)).andThen (zb.setCell (S:=fun k=>k=w.heap.size) X ⟨w.heap.size,0,none⟩ _ rfl) (fun _ h _=>Or.inr h)).andThen (zb.setCell (S:=fun k=>k=w.heap.size) _ ⟨w.heap.size,1,none⟩ _ rfl) (fun _ h _=>Or.inr h)).andThen (zb.setCell (S:=fun k=>k=w.heap.size) _ ⟨w.heap.size,2,none⟩ _ rfl) (fun _ h _=>Or.inr h)
 have SKW:Hid (∀X,zb (fun k=>k=w.heap.size+1) WA.drew X->X.cell? ⟨w.heap.size+1+1,0,none⟩=some (.pointer (some ⟨p,0,none⟩))/\X.cell? ⟨w.heap.size+1+1,1,none⟩=some (.func (.func F) #[] cb)/\X.cell? ⟨w.heap.size+1+1,2,none⟩=some (.map (some (w.heap.size+1)))/\X.cell? ⟨p,1,none⟩=some (.int .i64 st.2)):=fun X hk=>by
  have k3:=HK1.out.keptB hk (by omega);have k4:=HKP.out.keptB hk (by omega);exact⟨k3.cell 0,k3.cell 1,k3.cell 2,k4.cell 1⟩
 clear a0 a1 a2 cp;go_region_held3 (fun X=>X.cell? ⟨w.heap.size+1+1,0,none⟩=some (.pointer (some ⟨p,0,none⟩))/\X.cell? ⟨w.heap.size+1+1,1,none⟩=some (.func (.func F) #[] cb)/\X.cell? ⟨w.heap.size+1+1,2,none⟩=some (.map (some (w.heap.size+1)))/\X.cell? ⟨p,1,none⟩=some (.int .i64 st.2)) (first|with_reducible exact S0|with_reducible exact S1|with_reducible exact S2)
  (first
   | (go_at_call 92;with_reducible refine HFR.out.mono ?_;rintro e w2 ⟨rfl,L2,hM2,hk2⟩;have k2:=HK0.out.keptB hk2 (by omega);have S1:=SKW.out _ hk2;have S2:=SK.out _ (SKS.out _ hk2);have z0:=k2.cell 0;have z1:=k2.cell 1;have z2:=k2.cell 2;have y0:=k2.frozen 0;have y1:=k2.frozen 1;have y2:=k2.frozen 2;unfold Wy.val))
 all_goals
  have hres:=set3 k2 (.int .u64 R.items) (.int .i64 R.cost) (.bool R.can);have r0:=hres.cell 0;have r1:=hres.cell 1;have r2:=hres.cell 2;have HFIN:Hid (zB w (((w2.setCell ⟨w.heap.size,0,none⟩ (.int .u64 R.items)).setCell ⟨w.heap.size,1,none⟩ (.int .i64 R.cost)).setCell ⟨w.heap.size,2,none⟩ (.bool R.can))) :=
   (((HB3.out.drew.trans (hk2.below HB3.out.size (fun j e=>by omega))).setCell (p:=⟨w.heap.size,0,none⟩) zN _).setCell (p:=⟨w.heap.size,1,none⟩) zN _).setCell (p:=⟨w.heap.size,2,none⟩) zN _
  clear hres k2 z0 z1 z2 y0 y1 y2 hM2 hk2;go_wp2;refine bodyPost_ret (v:=.agg #[.int .u64 R.items,.int .i64 R.cost,.bool R.can]) (by simp[results,Tryz.f56,go_sem,r0,r1,r2]) rfl ?_;exact⟨rfl,HFIN.out⟩
end
end Bd
namespace Bd
open Go.RowKit Go.Maps Go.Deep
def Zf(b:Bool):Int:=if b then 1 else 0
theorem zdR(x:Bool)(w:World):zC 58 #[.bool x] w fun e w'=>e=.returned (.int .i64 (Zf x))/\w=w':=by
 cases x
 ·go_enter Tryz.func58,Tryz.ntmps58;go_wp2;go_ret;exact⟨rfl,rfl⟩
 ·go_enter Tryz.func58,Tryz.ntmps58;go_wp2;go_ret;exact⟨rfl,rfl⟩
section
variable {B p s b:Nat} {O:Nat->Prop} {vars:Nat} {room:Int} {st:List Nd × Int} {F:FuncId} {cb:Array Value} {C:qt} {w:World}
theorem zlN(hsol:xT B w p s b O vars room st)(hl:st.1.length<=90000)(hh:zg st.1 st.2=true):zR 55 #[.pointer (some ⟨p,0,none⟩)] w .nilIface:=by
 have HAQ:Hid (∀n,zC 47 #[.pointer (some ⟨s,0,none⟩)] (w.drewN n) fun e w'=>e=.returned (.bool false)/\w'=w.drewN n):=fun n=>(zbg (hsol.space.new (x7 _ w n))).mono fun e w' ⟨h1,h2⟩=>⟨h1,h2.symm⟩;have HHQ:Hid (∀n,zC 63 #[.pointer (some ⟨b,0,none⟩),.int .i64 st.2] (w.drewN n) fun e w'=>e=.returned (.bool true)/\w'=w.drewN n):=fun n=>(zaZ (hsol.space.new (x7 _ w n)) st.2 (yo hh (by omega)) hl).mono fun e w' ⟨h1,h2⟩=>⟨by rw[h1,hh],h2.symm⟩;have c0:_=some (Value.pointer (some ⟨s,0,none⟩)):=hsol.blk.cell 0;have c1:_=some (Value.int .i64 st.2):=hsol.blk.cell 1;have c2:w.cell? ⟨s,0,none⟩=some (.pointer (some ⟨b,0,none⟩)):=hsol.space.c0;clear hsol;go_enter Tryz.func55,Tryz.ntmps55;go_wp2_with fail;go_quiet (first|(go_at_call 47;refine Calls.quiet_of_same (HAQ.out _))|(go_at_call 63;refine Calls.quiet_of_same (HHQ.out _)));go_wp2;go_ret;exact⟨rfl,x7 _ w _⟩
def yL(item:Nat)(is:Bool):qt:=fun i b=>Zf (decide (i=item)&&(b==is))
theorem zj2(item:Nat)(is:Bool):Qq (yL item is):=by
 intro i b;unfold yL Zf;split<;>omega
theorem zk7(item i:Nat)(is bb:Bool)(a c:Nat)(w:World)(ha:w.cell? ⟨a,0,none⟩=some (.int .i64 item))(hc:w.cell? ⟨c,0,none⟩=some (.bool is)) :
  zR 57 #[.int .i64 i,.bool bb,.pointer (some ⟨a,0,none⟩),.pointer (some ⟨c,0,none⟩)] w (.int .i64 (yL item is i bb)):=by
 by_cases h:i=item
 ·subst h;have HO:=zH (zdR (bb==is) w);have hR:yL i is i bb=Zf (bb==is):=by unfold yL;simp
  rw[hR];go_enter Tryz.func57,Tryz.ntmps57;go_wp2_with fail;refine HO.out.mono ?_;rintro e w1 ⟨rfl,rfl⟩;go_wp2;go_ret;exact⟨rfl,Below.refl _ _⟩
 ·have HO:=zH (zdR false w);have hR:yL item is i bb=Zf false:=by unfold yL;simp[h]
  have hne:¬(i:Int)=(item:Int):=by omega
  rw[hR];clear h;go_enter Tryz.func57,Tryz.ntmps57;go_wp2_with fail;refine HO.out.mono ?_;rintro e w1 ⟨rfl,rfl⟩;go_wp2;go_ret;exact⟨rfl,Below.refl _ _⟩
theorem zh9:∀args w,(callFunc 57 args).run Tryz.prog w=.ok (.enter 57 args) w:=by intro args w;kernel_rfl
theorem zhU(k:Nat)(is:Bool)(vars:Nat){a c:Nat}{W0:World}(ha:a<W0.heap.size)(hc:c<W0.heap.size)(ca:W0.cell? ⟨a,0,none⟩=some (.int .i64 k))(cc:W0.cell? ⟨c,0,none⟩=some (.bool is)):XJ W0 57 #[.pointer (some ⟨a,0,none⟩),.pointer (some ⟨c,0,none⟩)] (yL k is) vars:=fun W j bb hW _ =>
 zk7 k j is bb a c W ((hW.cell (p:=⟨a,0,none⟩) ha).trans ca) ((hW.cell (p:=⟨c,0,none⟩) hc).trans cc)
def yX(vars:Nat)(ns:List Nd)(h:Int)(is:Bool)(i:Nat):Bool:=!(qf (yL i is) vars ns h 0).can||decide (0<(qf (yL i is) vars ns h 0).cost)
def qm(vars:Nat)(ns:List Nd)(h:Int)(is:Bool)(k:Nat):List Int:=((List.range k).filter (yX vars ns h is)).map (fun i:Nat=>(i:Int))
theorem zh1(vars:Nat)(ns:List Nd)(h:Int)(is:Bool)(k:Nat):qm vars ns h is (k+1)=qm vars ns h is k++(if yX vars ns h is k then [(k:Int)] else []):=by
 unfold qm;rw[List.range_succ,List.filter_append,List.map_append];congr 1
 by_cases hb:yX vars ns h is k=true
 ·rw[if_pos hb,List.filter_cons_of_pos hb];rfl
 ·rw[if_neg hb,List.filter_cons_of_neg hb];rfl
theorem znG(vars:Nat)(ns:List Nd)(h:Int)(is:Bool)(k:Nat):(qm vars ns h is k).length<=k:=by
 unfold qm;rw[List.length_map];exact Nat.le_trans (List.length_filter_le _ _) (by rw[List.length_range];exact Nat.le_refl _)
theorem zdv(hsol:xT B w p s b O vars room st)(hg:zr vars st.1)(hl:st.1.length<=90000)(h24:vars<=24)(hh:zg st.1 st.2=true)(is:Bool) :
  zC 18 #[.pointer (some ⟨p,0,none⟩),.bool is] w fun e w'=>∃v,e=.returned (.tuple #[v,.nilIface])/\w'.ownsRow w.heap.size 3 1 v (qm vars st.1 st.2 is vars).length (Go.Proofs.YtjmfeefogikdfaaGreatDoor.icells (qm vars st.1 st.2 is vars))/\zB w w':=by
 have hbA:=Go.Proofs.YtjmfeefogikdfaaGreatDoor.below_new w (.cells #[.bool is] 4);have hci:(w.alloc (.cells #[.bool is] 4)).cell? ⟨w.heap.size,0,none⟩=some (.bool is):=by simp
 have HWH:=zH (zlN (hsol.new hbA) hl hh);have HSOL:=zH hsol;have HG:=zH hg;obtain⟨i0,hin,hz0,hz1,hz2⟩:=info_parts ZR;clear hsol hg;go_enter Tryz.func18,Tryz.ntmps18;go_wp2_with fail;refine HWH.out.mono ?_;rintro e w2 ⟨rfl,hb2⟩;have hb3:zB w w2:=zT hbA hb2;have hs1:(w.alloc (.cells #[.bool is] 4)).heap.size=w.heap.size+1:=by simp
 have hb2:Below (w.heap.size+1) (w.alloc (.cells #[.bool is] 4)) w2:=by rw[<-hs1];exact hb2
 have hci2:=hci;have HV:=zH (zag (HSOL.out.new hb3).space);have c0:w2.cell? ⟨p,0,none⟩=some (.pointer (some ⟨s,0,none⟩)):=(HSOL.out.new hb3).blk.cell 0;have HB3:=zH hb2;have HBA:=zH hbA;have HCI2:=zH hci2;clear hbA hb2 hci HWH hb3 hci2;generalize (w.alloc (.cells #[.bool is] 4))=W1 at *;go_wp2_with fail;refine HV.out.mono ?_;rintro e w3 ⟨rfl,rfl⟩;clear HV;have HST0:Hid (w2.ownsRow (w.heap.size+1) 3 1 (.slice none 0 0) (qm vars st.1 st.2 is 0).length (Go.Proofs.YtjmfeefogikdfaaGreatDoor.icells (qm vars st.1 st.2 is 0))):=by
  exact World.ownsRow_nil _ _ _ _
 go_wp2_with fail;go_loopw [7,20] (fun oV iV wr=>∃k:Nat,k<=vars/\iV=.int .i64 k/\wr.ownsRow (w.heap.size+1) 3 1 oV (qm vars st.1 st.2 is k).length (Go.Proofs.YtjmfeefogikdfaaGreatDoor.icells (qm vars st.1 st.2 is k))/\Below (w.heap.size+1) W1 wr) (fun _ iV _=>vars-(intOf iV).toNat)
 case atStart=>exact⟨0,Nat.zero_le _,rfl,HST0.out,HB3.out⟩
 case round =>
  clear HST0 HB3 c0;obtain⟨k,hkl,rfl,hrow,hbr⟩:=hrel;have hci:wr.cell? ⟨w.heap.size,0,none⟩=some (.bool is):=(hbr.cell (p:=⟨w.heap.size,0,none⟩) (Nat.lt_succ_self _)).trans HCI2.out;have hbw:zB w wr:=HBA.out.trans (hbr.mono (Nat.le_succ _));obtain⟨n,hn⟩:∃n,(qm vars st.1 st.2 is k).length=n:=⟨_,rfl⟩;have hn24:n<=24:=by have:=znG vars st.1 st.2 is k;omega
  rw[hn] at hrow;have hbs:=hbr.size;rw[hs1] at hbs;obtain⟨qa,qc,rfl,-⟩:=row_form hrow;have HN:=zH hn
  by_cases hlt:k<vars
  ·have hbB:=Go.Proofs.YtjmfeefogikdfaaGreatDoor.below_new wr (.cells #[.int .i64 k] 3);have hbW:zB w (wr.alloc (.cells #[.int .i64 k] 3)):=hbw.trans (hbB.mono (by omega));have hwl:w.heap.size<wr.heap.size:=by omega
   have HCH:=zH (zk2 (F:=57) (cb:=#[.pointer (some ⟨wr.heap.size,0,none⟩),.pointer (some ⟨w.heap.size,0,none⟩)]) (C:=yL k is) (HSOL.out.new hbW) HG.out hl h24 zh9 (zj2 k is) (zhU k is vars (a:=wr.heap.size) (c:=w.heap.size) (by simp) (by simp;omega) (by simp) ((hbB.cell (p:=⟨w.heap.size,0,none⟩) hwl).trans hci)) hh);have HST:=zH (zh1 vars st.1 st.2 is k);unfold yX at HST;have hk0:(k:Int)<(vars:Int):=by omega
   have HROW0:=zH hrow;have HBR0:=zH hbr;have HBB:=zH hbB;clear hrow hbr hbw hci hbB hbW hn;generalize qf (yL k is) vars st.1 st.2 0=R at *;obtain⟨ri,rc,rb⟩:=R;simp only at HST;unfold Wy.val at HCH;go_wp2_with fail;refine HCH.out.mono ?_;rintro e w4 ⟨rfl,hb4⟩;have hb5:zB wr (w4.alloc (.cells #[.int .u64 ri,.int .i64 rc,.bool rb] 136)):=(zT HBB.out hb4).alloc (Nat.le_trans HBB.out.size hb4.size) _;have hk5:(w4.alloc (.cells #[.int .u64 ri,.int .i64 rc,.bool rb] 136)).cell? ⟨wr.heap.size,0,none⟩=some (.int .i64 k):=by
    have h1:w4.cell? ⟨wr.heap.size,0,none⟩=some (.int .i64 k):=(hb4.cell (p:=⟨wr.heap.size,0,none⟩) (by simp)).trans (by simp);exact((Go.Proofs.YtjmfeefogikdfaaGreatDoor.below_new w4 _).cell (p:=⟨wr.heap.size,0,none⟩) (by have:=hb4.size;simp at this;show wr.heap.size<_;omega)).trans h1
   have kb:=Blk.new w4 136 #[.int .u64 ri,.int .i64 rc,.bool rb];have q1:=kb.cell 1;have q2:=kb.cell 2;have HROW:Hid ((w4.alloc (.cells #[.int .u64 ri,.int .i64 rc,.bool rb] 136)).ownsRow (w.heap.size+1) 3 1 (.slice qa n qc) n (Go.Proofs.YtjmfeefogikdfaaGreatDoor.icells (qm vars st.1 st.2 is k))):=zZ HROW0.out hb5;have HBR:Hid (Below (w.heap.size+1) W1 (w4.alloc (.cells #[.int .u64 ri,.int .i64 rc,.bool rb] 136))):=HBR0.out.trans (hb5.mono (by omega));have hbs5:w.heap.size+1<=(w4.alloc (.cells #[.int .u64 ri,.int .i64 rc,.bool rb] 136)).heap.size:=by have:=HBR.out.size;omega
   clear kb hb4 hb5 HROW0 HBR0 HBB HCH;go_upto_region 9 with fail;generalize w4.alloc (.cells #[.int .u64 ri,.int .i64 rc,.bool rb] 136)=W5 at *;cases rb with
   |false =>
    rw[if_pos (by simp)] at HST;go_wp2_with (at_builtin;refine wpList_append_own_at _ rfl _ _ 25 rfl (w.heap.size+1) 3 i0 (.int .i64 0) 1 8 Tryz.underlying25 hin hz0 hz1 hz2 rfl (by decide) _ _ _ rfl (HROW.out.alloc _) ⟨W5.heap.size,0,none⟩ 1 1 [.int .i64 k] rfl rfl ?e1 ?e2 ?e3 ?e4 ?e5 ?_)
    case e1=>exact Z0 _ _ _
    case e2=>exact Zy _
    case e3=>unfold maxLen;omega
    case e4=>omega
    case e5=>simp;omega
    intro v8 w8 hown8 hgrow8 _ hloc8;have HR8:Hid (w8.ownsRow (w.heap.size+1) 3 1 v8 (qm vars st.1 st.2 is (k+1)).length (Go.Proofs.YtjmfeefogikdfaaGreatDoor.icells (qm vars st.1 st.2 is (k+1)))):=by
     show World.ownsRow _ _ _ _ _ _ _;rw[HST.out,QP,List.length_append,HN.out];exact hown8
    have HB8:Hid (Below (w.heap.size+1) W1 w8):=(HBR.out.alloc hbs5 _).grown hgrow8 (by simp;omega) (fun k hk=>(HROW.out.lt k hk).1);obtain⟨v8a,v8c,rfl,-⟩:=row_form hown8;clear hown8 hgrow8 hloc8 HROW HST;go_wp2;go_roundw
    case rel=>exact⟨k+1,hlt,by go_num,HR8.out,HB8.out⟩
    case measure=>simp[intOf];omega
   |true =>
    by_cases h0:0<rc
    ·rw[if_pos (by simp[h0])] at HST;go_wp2_with (at_builtin;refine wpList_append_own_at _ rfl _ _ 25 rfl (w.heap.size+1) 3 i0 (.int .i64 0) 1 8 Tryz.underlying25 hin hz0 hz1 hz2 rfl (by decide) _ _ _ rfl (HROW.out.alloc _) ⟨W5.heap.size,0,none⟩ 1 1 [.int .i64 k] rfl rfl ?e1 ?e2 ?e3 ?e4 ?e5 ?_)
     case e1=>exact Z0 _ _ _
     case e2=>exact Zy _
     case e3=>unfold maxLen;omega
     case e4=>omega
     case e5=>simp;omega
     intro v8 w8 hown8 hgrow8 _ hloc8;have HR8:Hid (w8.ownsRow (w.heap.size+1) 3 1 v8 (qm vars st.1 st.2 is (k+1)).length (Go.Proofs.YtjmfeefogikdfaaGreatDoor.icells (qm vars st.1 st.2 is (k+1)))):=by
      show World.ownsRow _ _ _ _ _ _ _;rw[HST.out,QP,List.length_append,HN.out];exact hown8
     have HB8:Hid (Below (w.heap.size+1) W1 w8):=(HBR.out.alloc hbs5 _).grown hgrow8 (by simp;omega) (fun k hk=>(HROW.out.lt k hk).1);obtain⟨v8a,v8c,rfl,-⟩:=row_form hown8;clear hown8 hgrow8 hloc8 HROW HST;go_wp2;go_roundw
     case rel=>exact⟨k+1,hlt,by go_num,HR8.out,HB8.out⟩
     case measure=>simp[intOf];omega
    ·rw[if_neg (by simp[h0])] at HST;have HR8:Hid (W5.ownsRow (w.heap.size+1) 3 1 (.slice qa n qc) (qm vars st.1 st.2 is (k+1)).length (Go.Proofs.YtjmfeefogikdfaaGreatDoor.icells (qm vars st.1 st.2 is (k+1)))):=by
      show World.ownsRow _ _ _ _ _ _ _;rw[HST.out,List.append_nil,HN.out];exact HROW.out
     clear HROW HST;go_wp2;go_roundw
     case rel=>exact⟨k+1,hlt,by go_num,HR8.out,HBR.out⟩
     case measure=>simp[intOf];omega
  ·obtain rfl:k=vars:=by omega
   clear HSOL;go_wp2;go_ret2;rw[HN.out];exact⟨_,rfl,Go.Proofs.YtjmfeefogikdfaaGreatDoor.ownsRow_base hrow (Nat.le_succ _),hbw⟩
end
end Bd
namespace Bd
open Go.RowKit
def ZB(C:qt):Nat->Nat->(Nat->Bool)->Int
 |0,_,_=>0
 |k+1,v,f=>C v (f v)+ZB C k (v+1) f
def Agr(k v:Nat)(f f':Nat->Bool):Prop:=∀i,(i<v\/v+k<=i)->f' i=f i
def XE(k v:Nat)(f' f'':Nat->Bool):Prop:=(∀i,v<=i->i<v+k->f' i=f'' i)\/∃j,v<=j/\j<v+k/\f' j=true/\f'' j=false/\∀i,v<=i->i<j->f' i=f'' i
theorem Agr.down{k v:Nat}{f f':Nat->Bool}(h:Agr (k+1) v f f'){b:Bool}(hb:f' v=b):Agr k (v+1) (turn f v b) f':=fun i hi=>by
 by_cases e:i=v
 ·rw[e,xw,hb]
 ·rw[qS _ _ e];exact h i (by omega)
theorem Agr.up{k v:Nat}{f f':Nat->Bool}{b:Bool}(h:Agr k (v+1) (turn f v b) f'):Agr (k+1) v f f':=fun i hi=>by
 rw[h i (by omega),qS _ _ (by omega)]
theorem Agr.at{k v:Nat}{f f':Nat->Bool}{b:Bool}(h:Agr k (v+1) (turn f v b) f'):f' v=b:=by rw[h v (by omega),xw]
theorem XE.up{k v:Nat}{f' f'':Nat->Bool}(h:XE k (v+1) f' f'')(e:f' v=f'' v):XE (k+1) v f' f'':=by
 rcases h with h|⟨j,h1,h2,h3,h4,h5⟩
 ·left;intro i h1 h2
  by_cases ei:i=v
  ·rw[ei,e]
  ·exact h i (by omega) (by omega)
 ·right;refine⟨j,by omega,by omega,h3,h4,fun i i1 i2=>?_⟩
  by_cases ei:i=v
  ·rw[ei,e]
  ·exact h5 i (by omega) i2
structure zfL(C:qt)(k v:Nat)(g:Fn')(f:Nat->Bool)(x:Wy):Prop where
 no:x.can=false->∀f',Agr k v f f'->g f'=false
 yes:x.can=true->∃f',Agr k v f f'/\g f'=true/\x.cost=ZB C k v f'/\(∀i,x.items.testBit i=(decide (v<=i/\i<v+k)&&f' i))/\∀f'',Agr k v f f''->g f''=true->x.cost<ZB C k v f''\/x.cost=ZB C k v f''/\XE k v f' f''
theorem zat(C:qt):∀(k v:Nat) (g:Fn') (f:Nat->Bool),zfL C k v g f (qr C k v g f)
 |0,v,g,f=>by
  have key:∀f',Agr 0 v f f'->f'=f:=fun f' h=>funext fun i=>h i (by omega);unfold qr;refine⟨fun h f' hf=>by rw[key f' hf];exact h,fun h=>⟨f,fun _ _=>rfl,h,rfl,fun i=>?_,fun f'' hf _=>Or.inr ⟨rfl,Or.inl fun i h1 h2=>by omega⟩⟩⟩;have:decide (v<=i/\i<v+0)=false:=decide_eq_false (by omega);rw[this];simp
 |k+1,v,g,f=>by
  have ho:=zat C k (v+1) g (turn f v false);have hi:=zat C k (v+1) g (turn f v true);unfold qr;generalize qr C k (v+1) g (turn f v false)=wo at ho;generalize qr C k (v+1) g (turn f v true)=wi at hi
  by_cases hc:wi.can=true/\(wo.can=false\/(wiF C v wi).cost<=(woF C v wo).cost)
  ·have hB:xz C v wo wi=wiF C v wi:=by unfold xz;rw[if_pos hc]
   rw[hB];obtain⟨f',a1,a2,a3,a4,a5⟩:=hi.yes hc.1;have hv:=a1.at
   refine⟨fun h=>absurd (h.symm.trans hc.1) (by simp),fun _=>⟨f',a1.up,a2,?_,fun i=>?_,fun f'' hf hg=>?_⟩⟩
   ·show wi.cost+C v true=C v (f' v)+_;rw[hv,a3];omega
   ·show (wi.items|||2^v).testBit i=_;rw[Nat.testBit_or,Nat.testBit_two_pow,a4 i]
    by_cases e:v=i
    ·subst e;rw[hv];have:decide (v<=v/\v<v+(k+1))=true:=decide_eq_true (by omega);rw[this];simp
    ·have:decide (v+1<=i/\i<v+1+k)=decide (v<=i/\i<v+(k+1)):=by
      by_cases q:v+1<=i/\i<v+1+k
      ·rw[decide_eq_true q,decide_eq_true (by omega)]
      ·rw[decide_eq_false q,decide_eq_false (by omega)]
     rw[this];simp[e]
   ·show wi.cost+C v true<C v (f'' v)+_\/wi.cost+C v true=C v (f'' v)+_/\_;cases hq:f'' v with
    |true =>
     rcases a5 f'' (hf.down hq) hg with h|⟨h,hl⟩
     ·left;omega
     ·right;exact⟨by omega,hl.up (hv.trans hq.symm)⟩
    |false =>
     have hcan:wo.can=true:=by
      cases e:wo.can with
      |true=>rfl
      |false=>exact absurd (hg.symm.trans (ho.no e f'' (hf.down hq))) (by simp)
     have hle:wi.cost+C v true<=wo.cost+C v false:=by
      rcases hc.2 with h|h
      ·exact absurd (h.symm.trans hcan) (by simp)
      ·exact h
     obtain⟨fo,b1,b2,b3,b4,b5⟩:=ho.yes hcan;have hmin:wo.cost<=ZB C k (v+1) f'':=by rcases b5 f'' (hf.down hq) hg with h|⟨h,_⟩<;>omega
     by_cases e:wi.cost+C v true<C v false+ZB C k (v+1) f''
     ·left;exact e
     ·right;exact⟨by omega,Or.inr ⟨v,Nat.le_refl _,by omega,hv,hq,fun i h1 h2=>by omega⟩⟩
  ·have hB:xz C v wo wi=woF C v wo:=by unfold xz;rw[if_neg hc]
   rw[hB];refine⟨fun h f' hf=>?_,fun h=>?_⟩
   ·have hco:wo.can=false:=h;have hci:wi.can=false:=by
     cases e:wi.can with
     |false=>rfl
     |true=>exact absurd ⟨e,Or.inl hco⟩ hc
    cases hq:f' v with
    |true=>exact hi.no hci f' (hf.down hq)
    |false=>exact ho.no hco f' (hf.down hq)
   ·have hco:wo.can=true:=h;obtain⟨f',a1,a2,a3,a4,a5⟩:=ho.yes hco;have hv:=a1.at
    refine⟨f',a1.up,a2,?_,fun i=>?_,fun f'' hf hg=>?_⟩
    ·show wo.cost+C v false=C v (f' v)+_;rw[hv,a3];omega
    ·show wo.items.testBit i=_;rw[a4 i]
     by_cases e:v=i
     ·subst e;rw[hv];simp
     ·have:decide (v+1<=i/\i<v+1+k)=decide (v<=i/\i<v+(k+1)):=by
       by_cases q:v+1<=i/\i<v+1+k
       ·rw[decide_eq_true q,decide_eq_true (by omega)]
       ·rw[decide_eq_false q,decide_eq_false (by omega)]
      rw[this]
    ·show wo.cost+C v false<C v (f'' v)+_\/wo.cost+C v false=C v (f'' v)+_/\_;cases hq:f'' v with
     |false =>
      rcases a5 f'' (hf.down hq) hg with h|⟨h,hl⟩
      ·left;omega
      ·right;exact⟨by omega,hl.up (hv.trans hq.symm)⟩
     |true =>
      left;have hci:wi.can=true:=by
       cases e:wi.can with
       |true=>rfl
       |false=>exact absurd (hg.symm.trans (hi.no e f'' (hf.down hq))) (by simp)
      obtain⟨fi,b1,b2,b3,b4,b5⟩:=hi.yes hci;have hmin:wi.cost<=ZB C k (v+1) f'':=by rcases b5 f'' (hf.down hq) hg with h|⟨h,_⟩<;>omega
      have hlt:¬(wi.cost+C v true<=wo.cost+C v false):=fun e=>hc ⟨hci,Or.inr e⟩;omega
end Bd
namespace Bd
open Go.RowKit Go.Maps Go.Deep
theorem zcO(item:Nat)(is:Bool):∀(k v:Nat) (f:Nat->Bool),ZB (yL item is) k v f=if v<=item/\item<v+k then Zf (f item==is) else 0
 |0,v,f=>by rw[if_neg (by omega)];rfl
 |k+1,v,f=>by
  show yL item is v (f v)+ZB (yL item is) k (v+1) f=_;rw[zcO item is k (v+1) f];unfold yL
  by_cases e:v=item
  ·subst e;rw[if_neg (by omega),if_pos (by omega)];simp
  ·have h0:Zf (decide (v=item)&&(f v==is))=0:=by rw[decide_eq_false e];rfl
   rw[h0]
   by_cases q:v<=item/\item<v+(k+1)
   ·rw[if_pos q,if_pos (by omega)];omega
   ·rw[if_neg q,if_neg (by omega)];rfl
theorem zjp{vars:Nat}{ns:List Nd}{h:Int}{is:Bool}{i:Nat}(hi:i<vars):yX vars ns h is i=true↔∀f:Nat->Bool,(∀j,vars<=j->f j=false)->sem ns h f=true->f i=is:=by
 have hb:=zat (yL i is) (vars-0) 0 (sem ns h) (fun _=>false);have hcs:∀f,ZB (yL i is) (vars-0) 0 f=Zf (f i==is):=fun f=>by rw[zcO,if_pos (by omega)]
 unfold yX qf;generalize qr (yL i is) (vars-0) 0 (sem ns h) (fun _=>false)=x at hb;cases hc:x.can with
 |false =>refine⟨fun _ f hf hs=>?_,fun _=>by simp⟩;exact absurd (hs.symm.trans (hb.no hc f (fun j hj=>hf j (by omega)))) (by simp)
 |true =>
  obtain⟨f',a1,a2,a3,-,a5⟩:=hb.yes hc;rw[hcs f'] at a3;simp only[Bool.not_true,Bool.false_or,decide_eq_true_eq];constructor
  ·intro h0 f hf hs;have h1:=a5 f (fun j hj=>hf j (by omega)) hs;rw[hcs f] at h1;have h2:0<Zf (f i==is):=by rcases h1 with h|⟨h,_⟩<;>omega
   unfold Zf at h2;cases q:(f i==is) with
   |true=>exact eq_of_beq q
   |false=>rw[q] at h2;simp at h2
  ·intro hall;have:=hall f' (fun j hj=>a1 j (by omega)) a2;rw[a3,this];unfold Zf;simp
section
variable {B p s b:Nat} {O:Nat->Prop} {vars:Nat} {room:Int} {st:List Nd × Int} {w:World}
theorem zhc(hsol:xT B w p s b O vars room st)(hg:zr vars st.1)(hl:st.1.length<=90000)(h24:vars<=24)(hh:zg st.1 st.2=true) :
  zC 7 #[.pointer (some ⟨p,0,none⟩)] w fun e w'=>∃v,e=.returned (.tuple #[v,.nilIface])/\w'.ownsRow w.heap.size 3 1 v (qm vars st.1 st.2 true vars).length (Go.Proofs.YtjmfeefogikdfaaGreatDoor.icells (qm vars st.1 st.2 true vars))/\zB w w':=by
 have HS:=zH (zdv hsol hg hl h24 hh true);clear hsol hg hh;go_enter Tryz.func7,Tryz.ntmps7;go_wp2_with fail;refine HS.out.mono ?_;rintro e w1 ⟨v,rfl,hrow,hb⟩;have HR:Hid (_/\_):=⟨hrow,hb⟩;clear hrow hb HS;go_wp2;go_ret2;exact⟨v,rfl,HR.out.1,HR.out.2⟩
theorem zkt(hsol:xT B w p s b O vars room st)(hg:zr vars st.1)(hl:st.1.length<=90000)(h24:vars<=24)(hh:zg st.1 st.2=true) :
  zC 8 #[.pointer (some ⟨p,0,none⟩)] w fun e w'=>∃v,e=.returned (.tuple #[v,.nilIface])/\w'.ownsRow w.heap.size 3 1 v (qm vars st.1 st.2 false vars).length (Go.Proofs.YtjmfeefogikdfaaGreatDoor.icells (qm vars st.1 st.2 false vars))/\zB w w':=by
 have HS:=zH (zdv hsol hg hl h24 hh false);clear hsol hg hh;go_enter Tryz.func8,Tryz.ntmps8;go_wp2_with fail;refine HS.out.mono ?_;rintro e w1 ⟨v,rfl,hrow,hb⟩;have HR:Hid (_/\_):=⟨hrow,hb⟩;clear hrow hb HS;go_wp2;go_ret2;exact⟨v,rfl,HR.out.1,HR.out.2⟩
end
end Bd
namespace Bd
open Go.RowKit Go.Maps Num
section
variable {B s b dk:Nat} {O:Nat->Prop} {vars:Nat} {room:Int} {ns:List Nd}
theorem zeH(hl:ns.length<=90000)(hv:vars<=24)(h:Int)(L:List (Int × NV))(w:World)(hS:zm B w s b O vars room ns)(hD:qC w dk vars ns L)(hh:zg ns h=true)(ht:za ns h=24) :
  zC 81 #[.pointer (some ⟨s,0,none⟩),.int .i64 h,.map (some dk)] w (Zr dk vars ns (yq vars ns h) w):=by
 have hi:=yo hh (by omega);have hb1:=below_new w (.cells #[.slice none 0 0] 56);have c0:=(hS.new hb1).c0;have HG:=Qi (hS.new hb1) h hi hl;rw[show decide (za ns h≠24)=false by simp[ht],show zj ns h=⟨0,0,0⟩ by unfold zj;rw[if_pos ht]] at HG;unfold Nd.val at HG;have HGT:=zH HG;have hbe:=zm2 (vars:=vars) hh ht hv;have hdl:=hD.lt;have bxl:w.heap.size<(w.alloc (.cells #[.slice none 0 0] 56)).heap.size:=by simp
 have bc:(w.alloc (.cells #[.slice none 0 0] 56)).cell? ⟨w.heap.size,0,none⟩=some (.slice none 0 0):=by simp
 have bf:(w.alloc (.cells #[.slice none 0 0] 56)).frozen? ⟨w.heap.size,0,none⟩=false:=by simp
 have BO:=zH (X4 w);have HB1:=zH hb1;have HD:=zH hD;have HBE:=zH hbe;obtain⟨hi0,hi1⟩:=hi;clear HG hS hD hh ht hb1 hbe;go_enter Tryz.func81,Tryz.ntmps81;go_wp2_with fail;refine HGT.out.mono ?_;rintro e w2 ⟨rfl,hb2⟩;generalize (w.alloc (.cells #[.slice none 0 0] 56))=W1 at *;have hb3:=hb2.alloc hb2.size (.cells #[.int .i64 0,.int .i64 0,.int .i64 0] 82);have HOF:=zH (znf h (w2.alloc (.cells #[.int .i64 0,.int .i64 0,.int .i64 0] 82)) hi0 hi1);have HB3:=zH hb3;clear hb2 hb3 HGT c0;go_wp2_with fail;refine HOF.out.mono ?_;rintro e w4 ⟨v4,rfl,ds4,hdg,hnm,hvl,hb4⟩;have hb5:=zT HB3.out hb4;have hnat:=J5 hdg hnm hvl;rw[<-HBE.out] at hnat;obtain⟨a4,c4,e4,-⟩:=id hdg;subst e4;have bc4:=(hb5.cell (p:=⟨w.heap.size,0,none⟩) bxl).trans bc;have bf4:=(hb5.frozen (p:=⟨w.heap.size,0,none⟩) bxl).trans bf;have hcs:(w4.setCell ⟨w.heap.size,0,none⟩ (.slice a4 ds4.length c4)).cell? ⟨w.heap.size,0,none⟩=some (.slice a4 ds4.length c4):=World.cell?_setCell_same _ _ _ bc4;have hno:∀o n,w4.cell? ⟨w.heap.size,o,none⟩≠some (.int .u64 n):=fun o n=>by
  rw[hb5.cell (p:=⟨w.heap.size,o,none⟩) bxl];exact BO.out o n
 have hb6:zB w w4:=zT HB1.out hb5;have hne:w.heap.size≠dk:=by omega
 have hk:zb (fun j=>j=dk) w (w4.setCell ⟨w.heap.size,0,none⟩ (.slice a4 ds4.length c4)):=(zb.of_below hb6 _).andThen (zb.setCell (S:=fun j=>j=w.heap.size) _ _ _ rfl) (fun i hi hlt=>by omega);have HFIN:Hid (Zr dk vars ns (yq vars ns h) w (.returned (.agg #[.slice a4 ds4.length c4])) (w4.setCell ⟨w.heap.size,0,none⟩ (.slice a4 ds4.length c4))):=⟨_,L,rfl,hnat.box hno _,(HD.out.new hb6).box hno hne _,hk⟩;clear hdg hnm hvl hnat hno hk hb4 hb5 hb6 HOF HB3 HB1 HD BO HBE bc bf;go_wp2;refine bodyPost_ret (v:=.agg #[.slice a4 ds4.length c4]) (by simp[results,Tryz.results81,go_sem,hcs]) rfl HFIN.out
theorem zfp(hl:ns.length<=90000)(L:List (Int × NV))(w:World)(hS:zm B w s b O vars room ns)(hD:qC w dk vars ns L)(p:Int × NV)(hp:p∈L)(hh:zg ns p.1=true) :
  zC 81 #[.pointer (some ⟨s,0,none⟩),.int .i64 p.1,.map (some dk)] w (Zr dk vars ns (yq vars ns p.1) w):=by
 have hi:=yo hh (by omega);have ht:=hD.keys p hp;have hnat:=hD.nums p hp;have hb1:=below_new w (.cells #[.slice none 0 0] 56);have c0:=(hS.new hb1).c0;have HG:=Qi (hS.new hb1) p.1 hi hl;rw[show decide (za ns p.1≠24)=true by simp[ht]] at HG;unfold Nd.val at HG;have HGT:=zH HG;have HL:Hid (∀W,zB w W->(Instr.lookup 119 (.map (some dk)) (.int .i64 p.1) true).run Tryz.prog W=.ok (.tuple #[.agg #[.slice p.2.a p.2.n p.2.c],.bool true]) W):=fun W hW=>by
  obtain⟨D,hDm,hR⟩:=(hD.new hW).hmap;exact zjS hDm hR hp
 have hdl:=hD.lt;have bxl:w.heap.size<(w.alloc (.cells #[.slice none 0 0] 56)).heap.size:=by simp
 have bc:(w.alloc (.cells #[.slice none 0 0] 56)).cell? ⟨w.heap.size,0,none⟩=some (.slice none 0 0):=by simp
 have bf:(w.alloc (.cells #[.slice none 0 0] 56)).frozen? ⟨w.heap.size,0,none⟩=false:=by simp
 have BO:=zH (X4 w);have HB1:=zH hb1;have HD:=zH hD;have HN:Hid (qd w (.agg #[.slice p.2.a p.2.n p.2.c]) (yq vars ns p.1)):=hnat;clear HG hS hD hh ht hb1 hnat hp;generalize p.2.a=xa at *;generalize p.2.n=xn at *;generalize p.2.c=xc at *;generalize p.1=h at *;generalize zj ns h=gn at *;generalize yq vars ns h=m at *;obtain⟨gv,gl,gh⟩:=gn;simp only at HGT;go_enter Tryz.func81,Tryz.ntmps81;go_wp2_with fail;refine HGT.out.mono ?_;rintro e w2 ⟨rfl,hb2⟩;generalize (w.alloc (.cells #[.slice none 0 0] 56))=W1 at *;have hb3:=hb2.alloc hb2.size (.cells #[.int .i64 gv,.int .i64 gl,.int .i64 gh] 82);have hb4:=zT HB1.out hb3;have hrun:=HL.out _ hb4;have hb5:=hb3.alloc hb3.size (.cells #[.slice xa xn xc] 56);have bc4:=(hb5.cell (p:=⟨w.heap.size,0,none⟩) bxl).trans bc;have bf4:=(hb5.frozen (p:=⟨w.heap.size,0,none⟩) bxl).trans bf;have hno:∀o n,((w2.alloc (.cells #[.int .i64 gv,.int .i64 gl,.int .i64 gh] 82)).alloc (.cells #[.slice xa xn xc] 56)).cell? ⟨w.heap.size,o,none⟩≠some (.int .u64 n):=fun o n=>by
  rw[hb5.cell (p:=⟨w.heap.size,o,none⟩) bxl];exact BO.out o n
 have hb6:zB w ((w2.alloc (.cells #[.int .i64 gv,.int .i64 gl,.int .i64 gh] 82)).alloc (.cells #[.slice xa xn xc] 56)):=zT HB1.out hb5;have hcs:(((w2.alloc (.cells #[.int .i64 gv,.int .i64 gl,.int .i64 gh] 82)).alloc (.cells #[.slice xa xn xc] 56)).setCell ⟨w.heap.size,0,none⟩ (.slice xa xn xc)).cell? ⟨w.heap.size,0,none⟩=some (.slice xa xn xc):=World.cell?_setCell_same _ _ _ bc4;have hne:w.heap.size≠dk:=by omega
 have hk:zb (fun j=>j=dk) w (((w2.alloc (.cells #[.int .i64 gv,.int .i64 gl,.int .i64 gh] 82)).alloc (.cells #[.slice xa xn xc] 56)).setCell ⟨w.heap.size,0,none⟩ (.slice xa xn xc)):=(zb.of_below hb6 _).andThen (zb.setCell (S:=fun j=>j=w.heap.size) _ _ _ rfl) (fun i hi hlt=>by omega);have HFIN:Hid (Zr dk vars ns m w (.returned (.agg #[.slice xa xn xc])) (((w2.alloc (.cells #[.int .i64 gv,.int .i64 gl,.int .i64 gh] 82)).alloc (.cells #[.slice xa xn xc] 56)).setCell ⟨w.heap.size,0,none⟩ (.slice xa xn xc))):=⟨_,L,rfl,(HN.out.new hb6).box hno _,(HD.out.new hb6).box hno hne _,hk⟩;clear hb2 hb3 hb4 hb5 hb6 hno hk HGT HL HB1 HD HN BO c0 bc bf;go_wp2;refine bodyPost_ret (v:=.agg #[.slice xa xn xc]) (by simp[results,Tryz.results81,go_sem,hcs]) rfl HFIN.out
end
end Bd
end Go.Proofs.YtjmfeefogikdfaaGreatDoor
