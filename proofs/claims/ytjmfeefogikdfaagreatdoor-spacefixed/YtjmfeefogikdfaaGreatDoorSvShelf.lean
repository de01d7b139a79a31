/- Contracts of the library's functions at this program, laid by the kit's own tool in plain words: strings.Index, Count, TrimLeft, Cut, Compare, strconv.FormatInt, ParseInt. -/
import Derived.Test.YtjmfeefogikdfaaGreatDoorBdJoined
import Derived.Shelf.Strconv.Itoa4
import Derived.Shelf.Strconv.ParseIntPublic10
import Derived.Shelf.Strings.Count
import Derived.Shelf.Strings.Cut
import Derived.Shelf.Strings.SlTrimAscii
open Go.Proofs.YtjmfeefogikdfaaGreatDoor
set_option maxHeartbeats 2000000
set_option maxRecDepth 100000
namespace Go.Proofs.YtjmfeefogikdfaaGreatDoor.Bd
open Go.RowKit Go.Maps
theorem za3(w:World)(x:Int)(hx:I64 x):xN (w.alloc (.cells #[.int .i64 x] 3)) w.heap.size [x] :=
 ⟨by simp,fun i hi=>by
  obtain rfl:i=0:=by simp at hi;omega
  simp,fun z hz=>by rw [List.mem_singleton] at hz;subst hz;exact hx⟩
end Go.Proofs.YtjmfeefogikdfaaGreatDoor.Bd
namespace Go.Proofs.YtjmfeefogikdfaaGreatDoor.Bd
open Go.RowKit Go.Maps
section
variable {B s b:Nat} {O:Nat->Prop} {vars:Nat} {room:Int} {ns:List Nd} {w w':World}
theorem zko(vars:Nat)(hv:vars<=24)(room:Int)(h0:0<=room)(h1:room<=4000)(w:World)(B:Nat)(hB:B<=w.heap.size) :
  zC 16 #[.int .i64 vars,.int .i64 room] w fun e w'=>∃s b O,e=.returned (.tuple #[.pointer (some ⟨s,0,none⟩),.nilIface])/\zm B w' s b O vars room []/\w.heap.size<=s/\(∀k,O k->w.heap.size<=k)/\zB w w':=by
 have HN:=zH (zaK room h0 h1 w w.heap.size zN);go_enter Tryz.func16,Tryz.ntmps16;go_wp2_with fail;refine HN.out.mono ?_;rintro e w1 ⟨rfl,hA1,hb1⟩;have hs:=hb1.size;have hO:=(fun k (h:Own (w.heap.size + 1) w.heap.size (.slice none 0 0) k)=>(show w.heap.size<=k/\k<w1.heap.size from by
  obtain⟨D,hD,-⟩:=hA1.hmap;have hbm:=hD.lt;have hlt:=hA1.lt;rcases h with h|h|h
  ·omega
  ·omega
  ·simp [Value.ownBlock] at h))
 have hb2:=hb1.alloc hs (.cells #[.pointer (some ⟨w.heap.size+1,0,none⟩),.int .i64 vars] 87);have hA2:=hA1.kept (zb.alloc (fun _=>False) w1 (.cells #[.pointer (some ⟨w.heap.size+1,0,none⟩),.int .i64 vars] 87)) (fun _ _ h=>h);have hfin:zm B (w1.alloc (.cells #[.pointer (some ⟨w.heap.size+1,0,none⟩),.int .i64 vars] 87)) w1.heap.size (w.heap.size+1) (Own (w.heap.size+1) w.heap.size (.slice none 0 0)) vars room []:=by
  have hA3:zE B (w1.alloc (.cells #[.pointer (some ⟨w.heap.size+1,0,none⟩),.int .i64 vars] 87)) (w.heap.size+1) w.heap.size (.slice none 0 0) [] [] room 2 :=
   ⟨hA2.lt,hA2.croom,hA2.cnodes,hA2.cmap,hA2.cnext,hA2.froz,ownsRow_base hA2.row hB,hA2.hmap,hA2.d1,hA2.d2,hA2.d3,by omega,hB⟩
  refine⟨⟨_,_,[],2,hA3,⟨fun p h=>by simp at h,fun j h=>by simp at h,by simp,fun j h=>by simp at h⟩,⟨0,rfl,by simp,fun j h=>by omega⟩,fun _ h=>h⟩,fun k hk=>⟨by have:=(hO k hk).1;omega,by have:=(hO k hk).2;simp;omega⟩,fun ho=>by have:=(hO _ ho).2;omega,by simp,by simp,by simp⟩
 have HF:=zH hfin;have HB2:=zH hb2;have HO:=zH hO;clear HN hA1 hA2 hfin hb2 hO;go_wp2;go_ret2;exact⟨_,_,_,rfl,HF.out,hs,fun k hk=>(HO.out k hk).1,HB2.out⟩
theorem zag(h:zm B w s b O vars room ns):zC 51 #[.pointer (some ⟨s,0,none⟩)] w fun e w'=>e=.returned (.int .i64 vars)/\w=w':=by
 have c1:=h.c1;clear h;go_enter Tryz.func51,Tryz.ntmps51;go_wp2;go_ret;exact⟨rfl,rfl⟩
theorem zkj(h:zm B w s b O vars room ns)(hr:qe ns)(hl:ns.length<=90000)(hB:B<=w.heap.size)(bf:Nat){cp:Nat}(fs:List Int)(hF:xN w bf fs)(hfl:fs.length<=1000) :
  zC 54 #[.pointer (some ⟨s,0,none⟩),.slice (some ⟨bf,0,none⟩) fs.length cp] w fun e w'=>∃n:Int,e=.returned (.int .i64 n)/\∃O',zm B w' s b O' vars room (qs ns (qq ns fs))/\zI O O' w w':=by
 have c0:=h.c0;have HC:=zH (zf8 (cp:=cp) h hr hl hB bf fs hF hfl);generalize fs.length=n at *;clear h hF hr;go_enter Tryz.func54,Tryz.ntmps54;go_wp2_with fail;refine HC.out.mono ?_;rintro e w1 ⟨n,rfl,hO⟩;go_wp2;go_ret;exact⟨n,rfl,hO⟩
end
end Go.Proofs.YtjmfeefogikdfaaGreatDoor.Bd
namespace Go.Proofs.YtjmfeefogikdfaaGreatDoor.Bd
open Go.RowKit Go.Maps
section
variable {B s b:Nat} {O:Nat->Prop} {vars:Nat} {room:Int} {ns:List Nd} {w w':World}
theorem zlP(h:zm B w s b O vars room ns)(hg:zr vars ns)(hl:ns.length<=90000)(x:Int)(hx:zg ns x=true)(vals:Nat)(hvals:vals<18446744073709551616) :
  zR 11 #[.pointer (some ⟨s,0,none⟩),.int .i64 x,.int .u64 vals] w (.tuple #[.bool (sem ns x (qR vals)),.nilIface]):=by
 have hi:=yo hx (by omega);have HP:=zaC (cp:=1) (h.new (below_new w (.cells #[.int .i64 x] 3))) (by omega) w.heap.size [x] (za3 w x hi) (by simp) (fun y hy=>by rw[List.mem_singleton] at hy;subst hy;exact hx);rw[show [x].length=1 from rfl] at HP;have HPR:=zH HP;have hb:=below_new w (.cells #[.int .i64 x] 3);have HGT:Hid (∀(y:Int) (W:World),zg ns y=true->zB w W->zR 29 #[.pointer (some ⟨b,0,none⟩),.int .i64 y] W (.tuple #[.agg #[.int .i64 (zj ns y).v,.int .i64 (zj ns y).l,.int .i64 (zj ns y).h],.bool (decide (za ns y≠24))])):=fun y W hy hW=>Qi (h.new hW) y (yo hy (by omega)) hl;have HC:Hid (∀W,zB w W->W.cell? ⟨s,0,none⟩=some (.pointer (some ⟨b,0,none⟩))):=fun W hW=>(h.new hW).c0;have HG:=zH hg;have c0:=HC.out _ hb;have HB:=zH hb;have G0:=zH (HGT.out x _ hx hb);have HX:=zH hx;clear HP h hg hb hx;generalize hge:zj ns x=gn at *;generalize htp:decide (za ns x≠24)=tb at *;obtain⟨gv,gl,gh⟩:=gn;have HGE:=zH hge;have HTP:=zH htp;clear hge htp;simp only at G0;go_enter Tryz.func11,Tryz.ntmps11;go_wp2_with fail;refine HPR.out.mono ?_;rintro e w1 ⟨rfl,rfl⟩;clear HPR;go_wp2_with fail;refine G0.out.mono ?_;rintro e w2 ⟨rfl,hb2⟩;have hb3:zB w w2:=zT HB.out hb2;have T0:=zH (Ys w2 gv gl gh 82);have B4:=zH (hb3.alloc hb3.size (.cells #[.int .i64 gv,.int .i64 gl,.int .i64 gh] 82));clear G0 hb2 hb3 c0;go_wp2_with fail;go_loopw [1,9,10] (fun hV nV okV wr=>∃(y:Int) (p:Nat),hV=.int .i64 y/\nV=.pointer (some ⟨p,0,none⟩)/\okV=.bool (decide (za ns y≠24))/\Tri wr p (zj ns y).v (zj ns y).l (zj ns y).h/\zg ns y=true/\sem ns y (qR vals)=sem ns x (qR vals)/\zB w wr)
  (fun hV _ _ _=>(24-za ns (intOf hV)).toNat)
 case atStart =>refine⟨x,w2.heap.size,rfl,rfl,by rw[HTP.out],by rw[HGE.out];exact T0.out,HX.out,rfl,B4.out⟩
 case round =>
  obtain⟨y,p,rfl,rfl,rfl,hT,hy,hsm,hbr⟩:=hrel;clear T0 B4
  by_cases ht:za ns y=24
  ·have dt:decide (za ns y≠24)=false:=by simp[ht]
   rw[dt];have hres:sem ns x (qR vals)=(y==1):=by
    rw[<-hsm,Xo ht]
    by_cases e:y=1<;>simp[e]
   have HRES:=zH hres;clear dt hres hsm hT ht;go_wp2;go_ret2;exact⟨by rw[HRES.out];rfl,hbr⟩
  ·have hr:=HG.out.ranked;have hk:=xx hr ht;have hgn:zj ns y=nd ns (pl y):=by unfold zj;rw[if_neg ht];rfl
   rw[hgn] at hT;have ht0:=(zY hr y).1;have htl:=Q4 hr ht;have hgv:(nd ns (pl y)).v=za ns y:=(yE ht).2.2.1.symm;have hsn:=Qm hr ht (qR vals);rw[hgv] at hT;have dt:decide (za ns y≠24)=true:=by simp[ht]
   rw[dt];generalize hty:za ns y=ty at *;have HTY:=zH hty;clear hty;obtain⟨v,rfl⟩:∃v:Nat,ty=(v:Int):=⟨ty.toNat,by omega⟩;have q0:=hT.c0;have q1:=hT.c1;have q2:=hT.c2;have HTT:=zH hT;have hbx:=below_new wr (.cells #[.int .i64 v,.int .i64 (nd ns (pl y)).l,.int .i64 (nd ns (pl y)).h] 82);have hbx':=zT hbr hbx;have yc:=HC.out _ hbx';have HBX:=zH hbx';have TX:=zH (Ys wr (v:Int) (nd ns (pl y)).l (nd ns (pl y)).h 82);have hsb:=Xu vals v hvals;have hvt:((v:Int)).toNat=v:=by omega
   rw[hvt] at hsn;have HSN:=zH (hsn.symm.trans hsm);have bx0:wr.heap.size<(wr.alloc (.cells #[.int .i64 v,.int .i64 (nd ns (pl y)).l,.int .i64 (nd ns (pl y)).h] 82)).heap.size:=by simp
   have KL:=zH hk.2.1;have KH:=zH hk.2.2.2;have k1:=hk.1;have k2:=hk.2.2.1;clear hT hsm hsn hk hgn hgv dt hbx hbx' hvt;generalize (nd ns (pl y)).l=lo at *;generalize (nd ns (pl y)).h=hi' at *;cases hbit:qR vals v with
   |true =>
    rw[hbit] at hsb;have HSN':Hid (sem ns hi' (qR vals)=sem ns x (qR vals)):=by have:=HSN.out;rw[hbit,if_pos rfl] at this;exact this
    have G1:=zH (HGT.out hi' _ KH.out HBX.out);clear hbit HSN;go_wp2_with fail;refine G1.out.mono ?_;rintro e w5 ⟨rfl,hb5⟩;have t5:=TX.out.new hb5;have z0:=t5.c0;have z1:=t5.fz 0;have t6:=t5.set0 (zj ns hi').v;have z2:=t6.c1;have z3:=t6.fz 1;have t7:=t6.set1 (zj ns hi').l;have z4:=t7.c2;have z5:=t7.fz 2;have T8:=zH (t7.set2 (zj ns hi').h);have hb6:=zT HBX.out hb5;have hws:=hbr.size;have HB8:Hid (zB w (((w5.setCell ⟨wr.heap.size,0,none⟩ (.int .i64 (zj ns hi').v)).setCell ⟨wr.heap.size,1,none⟩ (.int .i64 (zj ns hi').l)).setCell ⟨wr.heap.size,2,none⟩ (.int .i64 (zj ns hi').h))):=((hb6.setCell hws _).setCell hws _).setCell hws _;clear t5 t6 t7 hb6 hb5 G1;generalize hgy:zj ns hi'=gy at *;obtain⟨g0,g1,g2⟩:=gy;have HGY:=zH hgy;clear hgy;simp only at z2 z4 T8 HB8 z3 z5;go_wp2;go_roundw
    case rel=>exact⟨hi',wr.heap.size,rfl,rfl,by simp,by rw[HGY.out];exact T8.out,KH.out,HSN'.out,HB8.out⟩
    case measure =>show (24-za ns hi').toNat<(24-za ns y).toNat;rw[HTY.out];omega
   |false =>
    rw[hbit] at hsb;have HSN':Hid (sem ns lo (qR vals)=sem ns x (qR vals)):=by have:=HSN.out;rw[hbit,if_neg (by simp)] at this;exact this
    have G1:=zH (HGT.out lo _ KL.out HBX.out);clear hbit HSN;go_wp2_with fail;refine G1.out.mono ?_;rintro e w5 ⟨rfl,hb5⟩;have t5:=TX.out.new hb5;have z0:=t5.c0;have z1:=t5.fz 0;have t6:=t5.set0 (zj ns lo).v;have z2:=t6.c1;have z3:=t6.fz 1;have t7:=t6.set1 (zj ns lo).l;have z4:=t7.c2;have z5:=t7.fz 2;have T8:=zH (t7.set2 (zj ns lo).h);have hb6:=zT HBX.out hb5;have hws:=hbr.size;have HB8:Hid (zB w (((w5.setCell ⟨wr.heap.size,0,none⟩ (.int .i64 (zj ns lo).v)).setCell ⟨wr.heap.size,1,none⟩ (.int .i64 (zj ns lo).l)).setCell ⟨wr.heap.size,2,none⟩ (.int .i64 (zj ns lo).h))):=((hb6.setCell hws _).setCell hws _).setCell hws _;clear t5 t6 t7 hb6 hb5 G1;generalize hgy:zj ns lo=gy at *;obtain⟨g0,g1,g2⟩:=gy;have HGY:=zH hgy;clear hgy;simp only at z2 z4 T8 HB8 z3 z5;go_wp2;go_roundw
    case rel=>exact⟨lo,wr.heap.size,rfl,rfl,by simp,by rw[HGY.out];exact T8.out,KL.out,HSN'.out,HB8.out⟩
    case measure =>show (24-za ns lo).toNat<(24-za ns y).toNat;rw[HTY.out];omega
end
end Go.Proofs.YtjmfeefogikdfaaGreatDoor.Bd
namespace Go.Proofs.YtjmfeefogikdfaaGreatDoor.Bd
open Go.RowKit Go.Maps
section
variable {B s b:Nat} {O:Nat->Prop} {vars:Nat} {room:Int} {ns:List Nd} {w w':World}
theorem znW(h:zm B w s b O vars room ns):zC 88 #[.pointer (some ⟨b,0,none⟩)] w fun e w'=>e=.returned (.int .i64 ((Qu ns).length:Int))/\w=w':=by
 obtain⟨bm,v,L,next,hA,hBk,-,hO⟩:=h.arena;rw[<-XB hBk];exact XD hA
end
end Go.Proofs.YtjmfeefogikdfaaGreatDoor.Bd
namespace Go.Proofs.YtjmfeefogikdfaaGreatDoor
open Go.RowKit
theorem znt(F:Nat)(cb:Array Value)(p:List Int->Bool)(xs:List (List Int))(a:Option Addr)(cap:Nat)(w:World)(hm:xs.length<=9223372036854775807)
  (hent:∀args w,(callFunc F args).run Tryz.prog w=.ok (.enter F args) w) (hI:qY w a xs)
  (hf:∀W i (a':Option Addr) (cap':Nat),zB w W->i<xs.length->cap'<=9223372036854775807->(xs.getD i []).length<=cap'->qJ W a' (xs.getD i [])->zR F (#[.slice a' (xs.getD i []).length cap']++cb) W (.bool (p (xs.getD i [])))) :
  zR 85 #[.slice a xs.length cap,.func (.func F) #[] cb] w (.int .i64 (yU p xs)):=by
 have HF:=zH hf;have HI:=zH hI;clear hf hI;go_enter Tryz.func85,Tryz.ntmps85;go_wp2_with fail;go_loopw [8] (fun kV wr=>∃k:Nat,k<=xs.length/\kV=.int .i64 k/\(∀j,j<k->p (xs.getD j [])=false)/\zB w wr) (fun kV _=>xs.length-(intOf kV).toNat)
 case atStart=>exact⟨0,Nat.zero_le _,rfl,fun j h=>by omega,Below.refl _ _⟩
 case round =>
  obtain⟨k,hk,rfl,h1,hbr⟩:=hrel;have H1:=zH h1;have HBR:=zH hbr;clear h1 hbr
  by_cases hlt:k<xs.length
  ·obtain⟨ad,a',cap',rfl,hl,hc,g1,g2,g3⟩:=HI.out.below HBR.out k hlt;have HC:=zH (HF.out wr k a' cap' HBR.out hlt g2 g1 g3);clear g3 g1 g2;cases hp:p (xs.getD k []) with
   |true =>rw[hp] at HC;have HP:=zH hp;clear hp;generalize hx:xs.getD k []=x at *;have HX:=zH hx;clear hx;go_wp2_with fail;refine HC.out.mono ?_;rintro e w1 ⟨rfl,hb1⟩;have HB1:Hid (zB w w1):=zT HBR.out hb1;clear hb1 HC;go_wp2;go_ret;exact⟨by rw[zbN H1.out hlt (by rw[HX.out];exact HP.out)];rfl,HB1.out⟩
   |false =>
    rw[hp] at HC;have HP:=zH hp;clear hp;generalize hx:xs.getD k []=x at *;have HX:=zH hx;clear hx;go_wp2_with fail;refine HC.out.mono ?_;rintro e w1 ⟨rfl,hb1⟩;have HB1:Hid (zB w w1):=zT HBR.out hb1;clear hb1 HC;go_wp2;go_roundw
    case rel=>exact ⟨k + 1,hlt,by go_num,fun j hj=>(by
     rcases Nat.lt_succ_iff_lt_or_eq.1 hj with e|e
     ·exact H1.out j e
     ·rw [e,HX.out];exact HP.out),HB1.out⟩
    case measure=>simp[intOf];omega
  ·obtain rfl:k=xs.length:=by omega
   go_wp2;go_ret;exact⟨by rw[zbw H1.out];rfl,HBR.out⟩
theorem ziY(F:Nat)(cb:Array Value)(p:List Int->Bool)(xs:List (List Int))(a:Option Addr)(cap:Nat)(w:World)(hm:xs.length<=9223372036854775807)
  (hent:∀args w,(callFunc F args).run Tryz.prog w=.ok (.enter F args) w) (hI:qY w a xs)
  (hf:∀W i (a':Option Addr) (cap':Nat),zB w W->i<xs.length->cap'<=9223372036854775807->(xs.getD i []).length<=cap'->qJ W a' (xs.getD i [])->zR F (#[.slice a' (xs.getD i []).length cap']++cb) W (.bool (p (xs.getD i [])))) :
  zR 48 #[.slice a xs.length cap,.func (.func F) #[] cb] w (.bool (xs.any p)):=by
 have H:=zH (znt F cb p xs a cap w hm hent hI hf);clear hf hI hent;rw[<-zeY];generalize yU p xs=i at *;go_enter Tryz.func48,Tryz.ntmps48;go_wp2_with fail;refine H.out.mono ?_;rintro e w1 ⟨rfl,hb1⟩;have HB1:=zH hb1;clear hb1 H;go_wp2;go_ret;exact⟨by first|rfl|simp,HB1.out⟩
end Go.Proofs.YtjmfeefogikdfaaGreatDoor
namespace Go.Proofs.YtjmfeefogikdfaaGreatDoor
open Go.RowKit
def xY(vals:Nat)(l:List (List Int)):Bool:=l.all (YL vals)
end Go.Proofs.YtjmfeefogikdfaaGreatDoor
namespace Go.Proofs.YtjmfeefogikdfaaGreatDoor.Bd
open Go.RowKit Go.Maps Go.Deep
theorem zdA(x:Int)(hx:zJ 24 x=true)(w:World):zC 87 #[.int .i64 x] w fun e w'=>e=.returned (.int .i64 (zM x))/\w=w':=by
 have h0:=qx.1 hx;have hm:max x (-x)-1=(zM x:Int):=by unfold zM;omega
 have h1:-9223372036854775808<=max x (-x)-1:=by omega
 have h2:max x (-x)-1<=9223372036854775807:=by omega
 have h3:-9223372036854775808<=-x:=by omega
 have h4:-x<=9223372036854775807:=by omega
 clear hx;go_enter Tryz.func87,Tryz.ntmps87;go_wp2;go_ret;refine⟨?_,rfl⟩;rw[<-hm]
 first|rfl|(congr 2;omega)|go_num
theorem zjN(x:Int)(vars:Nat)(h24:vars<=24)(hx:zJ vars x=true)(b:Nat)(w:World)(hc:w.cell? ⟨b,0,none⟩=some (.int .i64 vars)) :
  zR 86 #[.int .i64 x,.pointer (some ⟨b,0,none⟩)] w (.bool false):=by
 have HV:=zH (zdA x (Zl (by omega) hx) w);have hv:=Ye hx;clear hx;generalize zM x=v at *;have h1:¬(v:Int)<0:=by omega
 have h2:¬(vars:Int)<=(v:Int):=by omega
 go_enter Tryz.func86,Tryz.ntmps86;go_wp2_with fail;refine HV.out.mono ?_;rintro e w1 ⟨rfl,rfl⟩;go_wp2;go_ret;exact⟨by simp;exact hv,Below.refl _ _⟩
theorem zhJ:∀args w,(callFunc 86 args).run Tryz.prog w=.ok (.enter 86 args) w:=by intro args w;kernel_rfl
theorem zjt:∀args w,(callFunc 49 args).run Tryz.prog w=.ok (.enter 49 args) w:=by intro args w;kernel_rfl
theorem zhX(c:List Int)(vars:Nat)(h24:vars<=24)(hl:zS vars c)(a:Option Addr)(cap:Nat)(w:World)(hI:qJ w a c)(hm:c.length<=9223372036854775807) :
  zR 50 #[.slice a c.length cap,.int .i64 vars] w (.bool true):=by
 have hb:=Go.Proofs.YtjmfeefogikdfaaGreatDoor.below_new w (.cells #[.int .i64 vars] 3);have HC:=zH (J0 86 #[.pointer (some ⟨w.heap.size,0,none⟩)] (fun _=>false) c a cap (w.alloc (.cells #[.int .i64 vars] 3)) hm zhJ (hI.below hb) (fun W i hW hi=>zjN (c.getD i 0) vars h24 (hl _ (yR hi)) w.heap.size W ((hW.cell (p:=⟨w.heap.size,0,none⟩) (by simp)).trans (by simp))));have HB:=zH hb;have hf:(c.any fun _=>false)=false:=by simp
 rw[hf] at HC;clear hb hI hl hf;go_enter Tryz.func50,Tryz.ntmps50;go_wp2_with fail;refine HC.out.mono ?_;rintro e w1 ⟨rfl,hb1⟩;have HB1:Hid (zB w w1):=zT HB.out hb1;clear hb1 HC;go_wp2;go_ret;exact⟨by first|rfl|simp,HB1.out⟩
section
variable {B s b:Nat} {O:Nat->Prop} {vars:Nat} {room:Int} {ns:List Nd} {w:World}
theorem zhq(hS:zm B w s b O vars room ns)(h24:vars<=24)(c:List Int)(hl:zS vars c)(a:Option Addr)(cap:Nat)(hI:qJ w a c)(hm:c.length<=9223372036854775807)(bx:Nat)(hc:w.cell? ⟨bx,0,none⟩=some (.pointer (some ⟨s,0,none⟩))) :
  zR 49 #[.slice a c.length cap,.pointer (some ⟨bx,0,none⟩)] w (.bool false):=by
 have HV:=zH (zag hS);have HW:=zH (zhX c vars h24 hl a cap w hI hm);clear hS hI hl;go_enter Tryz.func49,Tryz.ntmps49;go_wp2_with fail;refine HV.out.mono ?_;rintro e w1 ⟨rfl,rfl⟩;clear HV;go_wp2_with fail;refine HW.out.mono ?_;rintro e w1 ⟨rfl,hb1⟩;have HB1:=zH hb1;clear HW hb1;go_wp2;go_ret;exact⟨by first|rfl|simp,HB1.out⟩
theorem zbg(hS:zm B w s b O vars room ns):zC 47 #[.pointer (some ⟨s,0,none⟩)] w fun e w'=>e=.returned (.bool false)/\w=w':=by
 have c0:=hS.c0;clear hS;go_enter Tryz.func47,Tryz.ntmps47;go_wp2;go_ret;exact⟨by first|rfl|simp,rfl⟩
theorem znX(hS:zm B w s b O vars room ns)(h0:cnt ns=0):zC 52 #[.pointer (some ⟨s,0,none⟩)] w fun e w'=>e=.returned (.slice none 0 0)/\w=w':=by
 have HL:=znW hS;rw[zbh,h0] at HL;have HL:=zH HL;have c0:=hS.c0;clear hS h0;go_enter Tryz.func52,Tryz.ntmps52;go_wp2_with fail;go_loopw [3,4] (fun o _ wr=>o=.slice none 0 0/\wr=w) (fun _ _ _=>0)
 case atStart=>exact⟨rfl,rfl⟩
 case round =>obtain⟨rfl,rfl⟩:=hrel;go_wp2_with fail;refine HL.out.mono ?_;rintro e w1 ⟨rfl,rfl⟩;go_wp2;go_ret;exact⟨rfl,rfl⟩
end
end Go.Proofs.YtjmfeefogikdfaaGreatDoor.Bd
namespace Go.Proofs
open Go.Shelf
def Tryz.lays161_ren:Go.Shelf.Ren:=⟨fun|161=>182|231=>206|227=>207|233=>208|235=>209|228=>224|197=>225|151=>226|260=>229|152=>230|137=>231|119=>232|224=>176|225=>175|217=>174|266=>199|n=>n,fun|9=>9|4=>4|3=>3|5=>5|117=>309|116=>308|0=>0|124=>312|105=>328|21=>21|119=>338|46=>22|139=>341|138=>340|n=>n,fun|3=>8|4=>9|n=>n⟩
theorem Tryz.lays161:Go.Proofs.Lays.n161 Tryz.prog Tryz.lays161_ren:={
 mixed:=by kernel_rfl
 f119:=zK Tryz.func232 (by kernel_rfl)
 f137:=zK Tryz.func231 (by kernel_rfl)
 f151:=zK Tryz.func226 (by kernel_rfl)
 f152:=zK Tryz.func230 (by kernel_rfl)
 f161:=zK Tryz.func182 (by kernel_rfl)
 f197:=zK Tryz.func225 (by kernel_rfl)
 f217:=zK Tryz.func174 (by kernel_rfl)
 f224:=zK Tryz.func176 (by kernel_rfl)
 f225:=zK Tryz.func175 (by kernel_rfl)
 f227:=zK Tryz.func207 (by kernel_rfl)
 f228:=zK Tryz.func224 (by kernel_rfl)
 f231:=zK Tryz.func206 (by kernel_rfl)
 f233:=zK Tryz.func208 (by kernel_rfl)
 f235:=zK Tryz.func209 (by kernel_rfl)
 f260:=zK Tryz.func229 (by kernel_rfl)
 f266:=zK Tryz.func199 (by kernel_rfl)
 t0:=Tryz.underlying0
 a0:=Tryz.isAgg0
 z0:=Tryz.sizeOf0
 v0:=Tryz.zeroValue0
 t3:=Tryz.underlying3
 a3:=Tryz.isAgg3
 z3:=Tryz.sizeOf3
 v3:=Tryz.zeroValue3
 t4:=Tryz.underlying4
 a4:=Tryz.isAgg4
 z4:=Tryz.sizeOf4
 v4:=Tryz.zeroValue4
 t5:=Tryz.underlying5
 a5:=Tryz.isAgg5
 z5:=Tryz.sizeOf5
 v5:=Tryz.zeroValue5
 t9:=Tryz.underlying9
 a9:=Tryz.isAgg9
 z9:=Tryz.sizeOf9
 v9:=Tryz.zeroValue9
 t21:=Tryz.underlying21
 a21:=Tryz.isAgg21
 z21:=Tryz.sizeOf21
 v21:=Tryz.zeroValue21
 t46:=Tryz.underlying22
 a46:=Tryz.isAgg22
 z46:=Tryz.sizeOf22
 v46:=Tryz.zeroValue22
 t105:=Tryz.underlying328
 a105:=Tryz.isAgg328
 z105:=Tryz.sizeOf328
 v105:=Tryz.zeroValue328
 t116:=Tryz.underlying308
 a116:=Tryz.isAgg308
 z116:=Tryz.sizeOf308
 t117:=Tryz.underlying309
 a117:=Tryz.isAgg309
 z117:=Tryz.sizeOf309
 v117:=Tryz.zeroValue309
 t119:=Tryz.underlying338
 a119:=Tryz.isAgg338
 z119:=Tryz.sizeOf338
 t124:=Tryz.underlying312
 a124:=Tryz.isAgg312
 z124:=Tryz.sizeOf312
 v124:=Tryz.zeroValue312
 t138:=Tryz.underlying340
 a138:=Tryz.isAgg340
 z138:=Tryz.sizeOf340
 v138:=Tryz.zeroValue340
 t139:=Tryz.underlying341
 a139:=Tryz.isAgg341
 z139:=Tryz.sizeOf341
 v139:=Tryz.zeroValue341
 g3:=by kernel_rfl
 g4:=by kernel_rfl }
def Tryz.lays106_ren:Go.Shelf.Ren:=⟨fun|106=>112|213=>155|265=>194|n=>n,fun|9=>9|3=>3|n=>n,fun|n=>n⟩
theorem Tryz.lays106:Go.Proofs.Lays.n106 Tryz.prog Tryz.lays106_ren:={
 mixed:=by kernel_rfl
 f106:=zK Tryz.func112 (by kernel_rfl)
 f213:=zK Tryz.func155 (by kernel_rfl)
 f265:=zK Tryz.func194 (by kernel_rfl)
 t3:=Tryz.underlying3
 a3:=Tryz.isAgg3
 z3:=Tryz.sizeOf3
 v3:=Tryz.zeroValue3
 t9:=Tryz.underlying9
 a9:=Tryz.isAgg9
 z9:=Tryz.sizeOf9
 v9:=Tryz.zeroValue9 }
open Go.RowKit in
theorem Tryz.strings_Compare(a b:ByteArray)(w:World) :
  zC 112 #[.string a,.string b] w fun e w'=>e=.returned (.int .i64 (Lib.compareBytes a.data.toList b.data.toList))/\w'=w:=Any.strings_Compare Tryz.lays106 a b w
def Tryz.laysM173_ren:Go.Shelf.Ren:=⟨fun|173=>142|246=>180|283=>121|284=>122|285=>123|286=>124|129=>160|317=>159|318=>161|319=>162|320=>163|337=>195|338=>196|n=>n,fun|2=>2|3=>3|9=>9|4=>4|171=>222|0=>0|53=>122|37=>120|5=>5|173=>225|212=>266|51=>267|20=>20|213=>268|46=>22|232=>320|233=>321|n=>n,fun|17=>2|18=>4|19=>5|n=>n⟩
theorem Tryz.laysM173:Go.Proofs.LaysM.n173 Tryz.prog Tryz.laysM173_ren:={
 mixed:=by kernel_rfl
 f129:=zK Tryz.func160 (by kernel_rfl)
 f173:=zK Tryz.func142 (by kernel_rfl)
 f246:=zK Tryz.func180 (by kernel_rfl)
 f283:=zK Tryz.func121 (by kernel_rfl)
 f284:=zK Tryz.func122 (by kernel_rfl)
 f285:=zK Tryz.func123 (by kernel_rfl)
 f286:=zK Tryz.func124 (by kernel_rfl)
 f317:=zK Tryz.func159 (by kernel_rfl)
 f318:=zK Tryz.func161 (by kernel_rfl)
 f319:=zK Tryz.func162 (by kernel_rfl)
 f320:=zK Tryz.func163 (by kernel_rfl)
 f337:=zK Tryz.func195 (by kernel_rfl)
 f338:=zK Tryz.func196 (by kernel_rfl)
 t0:=Tryz.underlying0
 a0:=Tryz.isAgg0
 z0:=Tryz.sizeOf0
 v0:=Tryz.zeroValue0
 t2:=Tryz.underlying2
 a2:=Tryz.isAgg2
 z2:=Tryz.sizeOf2
 v2:=Tryz.zeroValue2
 t3:=Tryz.underlying3
 a3:=Tryz.isAgg3
 z3:=Tryz.sizeOf3
 v3:=Tryz.zeroValue3
 t4:=Tryz.underlying4
 a4:=Tryz.isAgg4
 z4:=Tryz.sizeOf4
 v4:=Tryz.zeroValue4
 t5:=Tryz.underlying5
 a5:=Tryz.isAgg5
 z5:=Tryz.sizeOf5
 v5:=Tryz.zeroValue5
 t9:=Tryz.underlying9
 a9:=Tryz.isAgg9
 z9:=Tryz.sizeOf9
 v9:=Tryz.zeroValue9
 t20:=Tryz.underlying20
 a20:=Tryz.isAgg20
 z20:=Tryz.sizeOf20
 v20:=Tryz.zeroValue20
 t37:=Tryz.underlying120
 a37:=Tryz.isAgg120
 z37:=Tryz.sizeOf120
 v37:=Tryz.zeroValue120
 t46:=Tryz.underlying22
 a46:=Tryz.isAgg22
 z46:=Tryz.sizeOf22
 v46:=Tryz.zeroValue22
 t51:=Tryz.underlying267
 a51:=Tryz.isAgg267
 z51:=Tryz.sizeOf267
 v51:=Tryz.zeroValue267
 t53:=Tryz.underlying122
 a53:=Tryz.isAgg122
 z53:=Tryz.sizeOf122
 v53:=Tryz.zeroValue122
 t171:=Tryz.underlying222
 a171:=Tryz.isAgg222
 z171:=Tryz.sizeOf222
 v171:=Tryz.zeroValue222
 t173:=Tryz.underlying225
 a173:=Tryz.isAgg225
 z173:=Tryz.sizeOf225
 v173:=Tryz.zeroValue225
 t212:=Tryz.underlying266
 a212:=Tryz.isAgg266
 z212:=Tryz.sizeOf266
 v212:=Tryz.zeroValue266
 t213:=Tryz.underlying268
 a213:=Tryz.isAgg268
 z213:=Tryz.sizeOf268
 t232:=Tryz.underlying320
 a232:=Tryz.isAgg320
 z232:=Tryz.sizeOf320
 v232:=Tryz.zeroValue320
 t233:=Tryz.underlying321
 a233:=Tryz.isAgg321
 z233:=Tryz.sizeOf321
 v233:=Tryz.zeroValue321
 g17:=by kernel_rfl
 g18:=by kernel_rfl
 g19:=by kernel_rfl
 i0:=by kernel_rfl
 i2:=by kernel_rfl
 i3:=by kernel_rfl
 i4:=by kernel_rfl
 i5:=by kernel_rfl
 i9:=by kernel_rfl
 i20:=by kernel_rfl
 i37:=by kernel_rfl
 i46:=by kernel_rfl
 i51:=by kernel_rfl
 i53:=by kernel_rfl
 i171:=by kernel_rfl
 i173:=by kernel_rfl
 i212:=by kernel_rfl
 i232:=by kernel_rfl
 i233:=by kernel_rfl
 m17:=by kernel_rfl
 m18:=by kernel_rfl
 m19:=by kernel_rfl }
open Go.RowKit Go.Sort Go.Lib in
theorem Tryz.strconv_FormatInt_10(n:Int)(h0:-9223372036854775808<=n)(h1:n<=9223372036854775807)(w:World)(htab:Lib.TabIs Tryz.prog w "internal/strconv.uint64pow10" .u64 Lib.pow10Tab) :
  zC 142 #[.int .i64 n,.int .i64 10] w fun e w'=>e=.returned (.string ⟨(Lib.itoa n).toArray⟩)/\∃k os,w'=grow (w.drewN k) os:=Any.strconv_FormatInt_10 Tryz.laysM173 n h0 h1 w htab
def Tryz.laysC174_ren:Go.Shelf.Ren:=⟨fun|174=>141|247=>178|245=>179|287=>201|279=>202|280=>203|281=>204|282=>205|321=>219|322=>220|316=>221|171=>223|205=>222|243=>228|246=>180|283=>121|284=>122|285=>123|286=>124|129=>160|317=>159|318=>161|319=>162|320=>163|337=>195|338=>196|n=>n,fun|9=>9|3=>3|2=>2|75=>33|85=>242|4=>4|167=>300|5=>5|53=>122|175=>301|46=>22|168=>303|37=>120|0=>0|210=>325|21=>21|127=>333|145=>336|143=>334|171=>222|173=>225|212=>266|51=>267|20=>20|213=>268|232=>320|233=>321|80=>59|n=>n,fun|15=>6|16=>7|17=>2|18=>4|19=>5|n=>n⟩
theorem Tryz.laysC174:Go.Proofs.LaysC.n174 Tryz.prog Tryz.laysC174_ren:={
 mixed:=by kernel_rfl
 f129:=zK Tryz.func160 (by kernel_rfl)
 f171:=zK Tryz.func223 (by kernel_rfl)
 f174:=zK Tryz.func141 (by kernel_rfl)
 f205:=zK Tryz.func222 (by kernel_rfl)
 f243:=zK Tryz.func228 (by kernel_rfl)
 f245:=zK Tryz.func179 (by kernel_rfl)
 f246:=zK Tryz.func180 (by kernel_rfl)
 f247:=zK Tryz.func178 (by kernel_rfl)
 f279:=zK Tryz.func202 (by kernel_rfl)
 f280:=zK Tryz.func203 (by kernel_rfl)
 f281:=zK Tryz.func204 (by kernel_rfl)
 f282:=zK Tryz.func205 (by kernel_rfl)
 f283:=zK Tryz.func121 (by kernel_rfl)
 f284:=zK Tryz.func122 (by kernel_rfl)
 f285:=zK Tryz.func123 (by kernel_rfl)
 f286:=zK Tryz.func124 (by kernel_rfl)
 f287:=zK Tryz.func201 (by kernel_rfl)
 f316:=zK Tryz.func221 (by kernel_rfl)
 f317:=zK Tryz.func159 (by kernel_rfl)
 f318:=zK Tryz.func161 (by kernel_rfl)
 f319:=zK Tryz.func162 (by kernel_rfl)
 f320:=zK Tryz.func163 (by kernel_rfl)
 f321:=zK Tryz.func219 (by kernel_rfl)
 f322:=zK Tryz.func220 (by kernel_rfl)
 f337:=zK Tryz.func195 (by kernel_rfl)
 f338:=zK Tryz.func196 (by kernel_rfl)
 t0:=Tryz.underlying0
 a0:=Tryz.isAgg0
 z0:=Tryz.sizeOf0
 v0:=Tryz.zeroValue0
 t2:=Tryz.underlying2
 a2:=Tryz.isAgg2
 z2:=Tryz.sizeOf2
 v2:=Tryz.zeroValue2
 t3:=Tryz.underlying3
 a3:=Tryz.isAgg3
 z3:=Tryz.sizeOf3
 v3:=Tryz.zeroValue3
 t4:=Tryz.underlying4
 a4:=Tryz.isAgg4
 z4:=Tryz.sizeOf4
 v4:=Tryz.zeroValue4
 t5:=Tryz.underlying5
 a5:=Tryz.isAgg5
 z5:=Tryz.sizeOf5
 v5:=Tryz.zeroValue5
 t9:=Tryz.underlying9
 a9:=Tryz.isAgg9
 z9:=Tryz.sizeOf9
 v9:=Tryz.zeroValue9
 t20:=Tryz.underlying20
 a20:=Tryz.isAgg20
 z20:=Tryz.sizeOf20
 v20:=Tryz.zeroValue20
 t21:=Tryz.underlying21
 a21:=Tryz.isAgg21
 z21:=Tryz.sizeOf21
 v21:=Tryz.zeroValue21
 t37:=Tryz.underlying120
 a37:=Tryz.isAgg120
 z37:=Tryz.sizeOf120
 v37:=Tryz.zeroValue120
 t46:=Tryz.underlying22
 a46:=Tryz.isAgg22
 z46:=Tryz.sizeOf22
 v46:=Tryz.zeroValue22
 t51:=Tryz.underlying267
 a51:=Tryz.isAgg267
 z51:=Tryz.sizeOf267
 v51:=Tryz.zeroValue267
 t53:=Tryz.underlying122
 a53:=Tryz.isAgg122
 z53:=Tryz.sizeOf122
 v53:=Tryz.zeroValue122
 t75:=Tryz.underlying33
 a75:=Tryz.isAgg33
 z75:=Tryz.sizeOf33
 v75:=Tryz.zeroValue33
 t85:=Tryz.underlying242
 a85:=Tryz.isAgg242
 z85:=Tryz.sizeOf242
 v85:=Tryz.zeroValue242
 t127:=Tryz.underlying333
 a127:=Tryz.isAgg333
 z127:=Tryz.sizeOf333
 v127:=Tryz.zeroValue333
 t143:=Tryz.underlying334
 a143:=Tryz.isAgg334
 z143:=Tryz.sizeOf334
 v143:=Tryz.zeroValue334
 t145:=Tryz.underlying336
 a145:=Tryz.isAgg336
 z145:=Tryz.sizeOf336
 v145:=Tryz.zeroValue336
 t167:=Tryz.underlying300
 a167:=Tryz.isAgg300
 z167:=Tryz.sizeOf300
 v167:=Tryz.zeroValue300
 t168:=Tryz.underlying303
 a168:=Tryz.isAgg303
 z168:=Tryz.sizeOf303
 v168:=Tryz.zeroValue303
 t171:=Tryz.underlying222
 a171:=Tryz.isAgg222
 z171:=Tryz.sizeOf222
 v171:=Tryz.zeroValue222
 t173:=Tryz.underlying225
 a173:=Tryz.isAgg225
 z173:=Tryz.sizeOf225
 v173:=Tryz.zeroValue225
 t175:=Tryz.underlying301
 a175:=Tryz.isAgg301
 z175:=Tryz.sizeOf301
 v175:=Tryz.zeroValue301
 t210:=Tryz.underlying325
 a210:=Tryz.isAgg325
 z210:=Tryz.sizeOf325
 v210:=Tryz.zeroValue325
 t212:=Tryz.underlying266
 a212:=Tryz.isAgg266
 z212:=Tryz.sizeOf266
 v212:=Tryz.zeroValue266
 t213:=Tryz.underlying268
 a213:=Tryz.isAgg268
 z213:=Tryz.sizeOf268
 t232:=Tryz.underlying320
 a232:=Tryz.isAgg320
 z232:=Tryz.sizeOf320
 v232:=Tryz.zeroValue320
 t233:=Tryz.underlying321
 a233:=Tryz.isAgg321
 z233:=Tryz.sizeOf321
 v233:=Tryz.zeroValue321
 g15:=by kernel_rfl
 g16:=by kernel_rfl
 g17:=by kernel_rfl
 g18:=by kernel_rfl
 g19:=by kernel_rfl
 t80:=Tryz.underlying59
 a80:=Tryz.isAgg59
 z80:=Tryz.sizeOf59
 v80:=Tryz.zeroValue59
 i0:=by kernel_rfl
 i2:=by kernel_rfl
 i3:=by kernel_rfl
 i4:=by kernel_rfl
 i5:=by kernel_rfl
 i9:=by kernel_rfl
 i20:=by kernel_rfl
 i21:=by kernel_rfl
 i37:=by kernel_rfl
 i46:=by kernel_rfl
 i51:=by kernel_rfl
 i53:=by kernel_rfl
 i75:=by kernel_rfl
 i80:=by kernel_rfl
 i85:=by kernel_rfl
 i127:=by kernel_rfl
 i143:=by kernel_rfl
 i145:=by kernel_rfl
 i167:=by kernel_rfl
 i168:=by kernel_rfl
 i171:=by kernel_rfl
 i173:=by kernel_rfl
 i175:=by kernel_rfl
 i210:=by kernel_rfl
 i212:=by kernel_rfl
 i232:=by kernel_rfl
 i233:=by kernel_rfl
 m15:=by kernel_rfl
 m16:=by kernel_rfl
 m17:=by kernel_rfl
 m18:=by kernel_rfl
 m19:=by kernel_rfl
 c0:=by kernel_rfl
 c2:=by kernel_rfl
 c3:=by kernel_rfl
 c4:=by kernel_rfl
 c5:=by kernel_rfl
 c9:=by kernel_rfl
 c20:=by kernel_rfl
 c21:=by kernel_rfl
 c37:=by kernel_rfl
 c46:=by kernel_rfl
 c51:=by kernel_rfl
 c53:=by kernel_rfl
 c75:=by kernel_rfl
 c80:=by kernel_rfl
 c85:=by kernel_rfl
 c127:=by kernel_rfl
 c143:=by kernel_rfl
 c145:=by kernel_rfl
 c167:=by kernel_rfl
 c168:=by kernel_rfl
 c171:=by kernel_rfl
 c173:=by kernel_rfl
 c175:=by kernel_rfl
 c210:=by kernel_rfl
 c212:=by kernel_rfl
 c213:=by kernel_rfl
 c232:=by kernel_rfl
 c233:=by kernel_rfl }
open Go.RowKit in
theorem Tryz.strconv_ParseInt_10_at64_ok(s:ByteArray)(hmax:s.size<=9223372036854775806)(v:Int)(h:Lib.parseIntB 64 s.data.toList=.ok v)(w:World) :
  zC 141 #[.string s,.int .i64 10,.int .i64 64] w fun e w'=>e=.returned (.tuple #[.int .i64 v,.nilIface])/\(w'=w\/∃t,w'=Lib.bytesWorld w 5 t):=Any.strconv_ParseInt_10_at64_ok Tryz.laysC174 s hmax v h w
open Go.RowKit in
theorem Tryz.strconv_ParseInt_10_at64_syntax(s:ByteArray)(hlim:s.size<=281474976710656)(h:Lib.parseIntB 64 s.data.toList=.«syntax»)(ev:Value)(w:World)(hv:w.cell? ⟨6,0,none⟩=some ev)(hev:ev=.nilIface\/∃te pe,ev=.iface te pe) :
  zC 141 #[.string s,.int .i64 10,.int .i64 64] w fun e w'=>∃N,e=.returned (.tuple #[.int .i64 (0),.iface 303 (.pointer (some ⟨N,0,none⟩))])/\w.heap.size<=N/\w'.heap[N]?=some (.cells #[.string ⟨#[80,97,114,115,101,73,110,116]⟩,.string s,ev] 325 (0,0))/\zB w w':=Any.strconv_ParseInt_10_at64_syntax Tryz.laysC174 s hlim h ev w hv hev
open Go.RowKit in
theorem Tryz.strconv_ParseInt_10_at64_range(s:ByteArray)(hlim:s.size<=281474976710656)(h:Lib.parseIntB 64 s.data.toList=.range)(ev:Value)(w:World)(hv:w.cell? ⟨7,0,none⟩=some ev)(hev:ev=.nilIface\/∃te pe,ev=.iface te pe) :
  zC 141 #[.string s,.int .i64 10,.int .i64 64] w fun e w'=>∃N,e=.returned (.tuple #[.int .i64 (Lib.intSat 64 s.data.toList),.iface 303 (.pointer (some ⟨N,0,none⟩))])/\w.heap.size<=N/\w'.heap[N]?=some (.cells #[.string ⟨#[80,97,114,115,101,73,110,116]⟩,.string s,ev] 325 (0,0))/\zB w w':=Any.strconv_ParseInt_10_at64_range Tryz.laysC174 s hlim h ev w hv hev
def Tryz.lays143_ren:Go.Shelf.Ren:=⟨fun|143=>139|219=>136|217=>174|225=>175|224=>176|267=>177|266=>199|314=>200|n=>n,fun|9=>9|3=>3|4=>4|5=>5|46=>22|146=>298|51=>267|n=>n,fun|1=>3|n=>n⟩
theorem Tryz.lays143:Go.Proofs.Lays.n143 Tryz.prog Tryz.lays143_ren:={
 mixed:=by kernel_rfl
 f143:=zK Tryz.func139 (by kernel_rfl)
 f217:=zK Tryz.func174 (by kernel_rfl)
 f219:=zK Tryz.func136 (by kernel_rfl)
 f224:=zK Tryz.func176 (by kernel_rfl)
 f225:=zK Tryz.func175 (by kernel_rfl)
 f266:=zK Tryz.func199 (by kernel_rfl)
 f267:=zK Tryz.func177 (by kernel_rfl)
 f314:=zK Tryz.func200 (by kernel_rfl)
 t3:=Tryz.underlying3
 a3:=Tryz.isAgg3
 z3:=Tryz.sizeOf3
 v3:=Tryz.zeroValue3
 t4:=Tryz.underlying4
 a4:=Tryz.isAgg4
 z4:=Tryz.sizeOf4
 v4:=Tryz.zeroValue4
 t5:=Tryz.underlying5
 a5:=Tryz.isAgg5
 z5:=Tryz.sizeOf5
 v5:=Tryz.zeroValue5
 t9:=Tryz.underlying9
 a9:=Tryz.isAgg9
 z9:=Tryz.sizeOf9
 v9:=Tryz.zeroValue9
 t46:=Tryz.underlying22
 a46:=Tryz.isAgg22
 z46:=Tryz.sizeOf22
 v46:=Tryz.zeroValue22
 t51:=Tryz.underlying267
 a51:=Tryz.isAgg267
 z51:=Tryz.sizeOf267
 v51:=Tryz.zeroValue267
 t146:=Tryz.underlying298
 a146:=Tryz.isAgg298
 z146:=Tryz.sizeOf298
 v146:=Tryz.zeroValue298
 g1:=by kernel_rfl }
open Go.RowKit Go.Lib in
theorem Tryz.strings_Index(s sub:ByteArray)(m:Int)(w:World)(hs:s.size<4294967281)(hm:w.cell? ⟨3,0,none⟩=some (.int .i64 m)) :
  zC 139 #[.string s,.string sub] w fun e w'=>e=.returned (.int .i64 (Lib.index s.data.toList sub.data.toList))/\w'=w:=Any.strings_Index Tryz.lays143 s sub m w hs hm
def Tryz.lays145_ren:Go.Shelf.Ren:=⟨fun|145=>66|220=>97|219=>136|217=>174|225=>175|224=>176|267=>177|266=>199|314=>200|n=>n,fun|9=>9|4=>4|59=>154|3=>3|5=>5|46=>22|146=>298|51=>267|n=>n,fun|1=>3|n=>n⟩
theorem Tryz.lays145:Go.Proofs.Lays.n145 Tryz.prog Tryz.lays145_ren:={
 mixed:=by kernel_rfl
 f145:=zK Tryz.func66 (by kernel_rfl)
 f217:=zK Tryz.func174 (by kernel_rfl)
 f219:=zK Tryz.func136 (by kernel_rfl)
 f220:=zK Tryz.func97 (by kernel_rfl)
 f224:=zK Tryz.func176 (by kernel_rfl)
 f225:=zK Tryz.func175 (by kernel_rfl)
 f266:=zK Tryz.func199 (by kernel_rfl)
 f267:=zK Tryz.func177 (by kernel_rfl)
 f314:=zK Tryz.func200 (by kernel_rfl)
 t3:=Tryz.underlying3
 a3:=Tryz.isAgg3
 z3:=Tryz.sizeOf3
 v3:=Tryz.zeroValue3
 t4:=Tryz.underlying4
 a4:=Tryz.isAgg4
 z4:=Tryz.sizeOf4
 v4:=Tryz.zeroValue4
 t5:=Tryz.underlying5
 a5:=Tryz.isAgg5
 z5:=Tryz.sizeOf5
 v5:=Tryz.zeroValue5
 t9:=Tryz.underlying9
 a9:=Tryz.isAgg9
 z9:=Tryz.sizeOf9
 v9:=Tryz.zeroValue9
 t46:=Tryz.underlying22
 a46:=Tryz.isAgg22
 z46:=Tryz.sizeOf22
 v46:=Tryz.zeroValue22
 t51:=Tryz.underlying267
 a51:=Tryz.isAgg267
 z51:=Tryz.sizeOf267
 v51:=Tryz.zeroValue267
 t59:=Tryz.underlying154
 a59:=Tryz.isAgg154
 z59:=Tryz.sizeOf154
 v59:=Tryz.zeroValue154
 t146:=Tryz.underlying298
 a146:=Tryz.isAgg298
 z146:=Tryz.sizeOf298
 v146:=Tryz.zeroValue298
 g1:=by kernel_rfl }
open Go.RowKit Go.Lib in
theorem Tryz.strings_Cut(s sep:ByteArray)(m:Int)(w:World)(hs:s.size<4294967281)(hm:w.cell? ⟨3,0,none⟩=some (.int .i64 m)) :
  zC 66 #[.string s,.string sep] w fun e w'=>e=.returned (.tuple #[.string ⟨(Lib.cut s.data.toList sep.data.toList).1.toArray⟩,.string ⟨(Lib.cut s.data.toList sep.data.toList).2.1.toArray⟩,.bool (Lib.cut s.data.toList sep.data.toList).2.2])/\∃n,w'=w.drewN n:=Any.strings_Cut Tryz.lays145 s sep m w hs hm
def Tryz.lays138_ren:Go.Shelf.Ren:=⟨fun|138=>98|195=>137|218=>138|143=>139|219=>136|217=>174|225=>175|224=>176|267=>177|266=>199|314=>200|n=>n,fun|9=>9|3=>3|4=>4|5=>5|0=>0|46=>22|146=>298|51=>267|n=>n,fun|1=>3|n=>n⟩
theorem Tryz.lays138:Go.Proofs.Lays.n138 Tryz.prog Tryz.lays138_ren:={
 mixed:=by kernel_rfl
 f138:=zK Tryz.func98 (by kernel_rfl)
 f143:=zK Tryz.func139 (by kernel_rfl)
 f195:=zK Tryz.func137 (by kernel_rfl)
 f217:=zK Tryz.func174 (by kernel_rfl)
 f218:=zK Tryz.func138 (by kernel_rfl)
 f219:=zK Tryz.func136 (by kernel_rfl)
 f224:=zK Tryz.func176 (by kernel_rfl)
 f225:=zK Tryz.func175 (by kernel_rfl)
 f266:=zK Tryz.func199 (by kernel_rfl)
 f267:=zK Tryz.func177 (by kernel_rfl)
 f314:=zK Tryz.func200 (by kernel_rfl)
 t0:=Tryz.underlying0
 a0:=Tryz.isAgg0
 z0:=Tryz.sizeOf0
 v0:=Tryz.zeroValue0
 t3:=Tryz.underlying3
 a3:=Tryz.isAgg3
 z3:=Tryz.sizeOf3
 v3:=Tryz.zeroValue3
 t4:=Tryz.underlying4
 a4:=Tryz.isAgg4
 z4:=Tryz.sizeOf4
 v4:=Tryz.zeroValue4
 t5:=Tryz.underlying5
 a5:=Tryz.isAgg5
 z5:=Tryz.sizeOf5
 v5:=Tryz.zeroValue5
 t9:=Tryz.underlying9
 a9:=Tryz.isAgg9
 z9:=Tryz.sizeOf9
 v9:=Tryz.zeroValue9
 t46:=Tryz.underlying22
 a46:=Tryz.isAgg22
 z46:=Tryz.sizeOf22
 v46:=Tryz.zeroValue22
 t51:=Tryz.underlying267
 a51:=Tryz.isAgg267
 z51:=Tryz.sizeOf267
 v51:=Tryz.zeroValue267
 t146:=Tryz.underlying298
 a146:=Tryz.isAgg298
 z146:=Tryz.sizeOf298
 v146:=Tryz.zeroValue298
 g1:=by kernel_rfl }
open Go.RowKit Go.Lib in
theorem Tryz.strings_Count_one(s:ByteArray)(c:UInt8)(w:World) :
  zC 98 #[.string s,.string ⟨#[c]⟩] w fun e w'=>e=.returned (.int .i64 (Lib.countByte s.data.toList c))/\w'=w:=Any.strings_Count_one Tryz.lays138 s c w
end Go.Proofs
