/- What the rows' lists give of the catalog's words and of solspaceref.kinds; a world in which the lists hold. -/
import Derived.Test.YtlamemjfaogjmaaGreatDoorRlBoth
import Derived.Test.YtlamemjfaogjmaaGreatDoorCards
import Derived.Test.YtlamemjfaogjmaaGreatDoorTie
import Derived.Deep.DeepHandedRow
import Derived.Stop.LaidErr
import Derived.Lib.SmallJoins
set_option maxHeartbeats 0
set_option maxRecDepth 100000
namespace Go.Proofs.YtlamemjfaogjmaaGreatDoor
section
open Go.RowKit Go.Deep
theorem X4(m k:Int)(v:Value)(w:World)(hg:yb w)(hv:xG w v m (-1)) :
  zR 7 #[v,.int .i64 k] w (.bool (m==k)):=by
 generalize hz:(m==k)=z;have HG:=zH hg;have HV:=zH hv;clear hg hv;go_enter Tryz.func7,Tryz.ntmps7;go_wp2_with fail;refine(xN k _).mono ?_;rintro e w1 ⟨rfl,hb1⟩;have HA:=zdQ m k (-1) (-1) v w1 (HG.out.below hb1) (HV.out.below hb1);rw[beq_self_eq_true,Bool.and_true,hz] at HA;clear hz;go_wp2_with fail;refine HA.mono ?_;rintro e w2 ⟨rfl,hb2⟩;go_wp2;go_ret;exact⟨rfl,zT hb1 hb2⟩
end
section
open Go.RowKit Go.Deep
theorem zeT(xs:List Int)(a1 a2:Option Addr)(c1 c2:Nat)(w:World)(h1:zW w a1 xs)(h2:zW w a2 xs)(hm:xs.length<=9223372036854775807) :
  zR 8 #[.slice a1 xs.length c1,.slice a2 xs.length c2] w (.bool true):=by
 have H1:=zH h1;have H2:=zH h2;clear h1 h2;have enn:((xs.length:Int) != (xs.length:Int))=false:=by simp
 go_enter Tryz.func8,Tryz.ntmps8;go_wp2_with fail;go_loopw [5] (fun kV wr=>∃k:Nat,k<=xs.length/\kV=.int .i64 k/\zB w wr) (fun kV _=>xs.length-(intOf kV).toNat)
 case atStart=>exact⟨0,Nat.zero_le _,rfl,Below.refl _ _⟩
 case round =>
  obtain⟨k,hk,rfl,hbr⟩:=hrel;have HBR:=zH hbr;clear hbr
  by_cases hlt:k<xs.length
  ·obtain⟨ad1,rfl,hl1,hc1⟩:=H1.out.below HBR.out k hlt;obtain⟨ad2,rfl,hl2,hc2⟩:=H2.out.below HBR.out k hlt;generalize xs.getD k 0=x at *;have exx:(x != x)=false:=by simp
   have HBN:Hid (∀q,zB w (wr.drewN q)):=fun q=>HBR.out.trans ⟨rfl,rfl,rfl,Nat.le_refl _,fun _ _=>rfl⟩;go_wp2_with fail;go_quiet (fail);go_wp2;go_roundw
   case rel=>exact⟨k+1,hlt,by go_num,HBN.out _⟩
   case measure=>simp[intOf];omega
  ·obtain rfl:k=xs.length:=by omega
   go_wp2;go_ret;exact⟨rfl,HBR.out⟩
end
section
open Go.RowKit Go.Deep Sv
def Z3(w:World)(a:Option Addr)(st:List (Nat × Bool)):Prop :=
 ∀i,i<st.length->∃g,a=some ⟨g,0,none⟩/\g<w.heap.size/\w.cell? ⟨g,i*2,none⟩=some (.int .i64 ((st.getD i (0,false)).1:Int))/\w.cell? ⟨g,i*2+1,none⟩=some (.bool (st.getD i (0,false)).2)
theorem Z3.below{w w':World}{a:Option Addr}{st:List (Nat × Bool)}(h:Z3 w a st)(hb:zB w w'):Z3 w' a st:=by
 intro i hi;obtain⟨g,ha,hl,h0,h1⟩:=h i hi;exact⟨g,ha,Nat.lt_of_lt_of_le hl hb.size,(hb.cell (p:=⟨g,i*2,none⟩) hl).trans h0,(hb.cell (p:=⟨g,i*2+1,none⟩) hl).trans h1⟩
theorem zgA{B:Nat}{w:World}{a:Option Addr}{c:Nat}{st:List (Nat × Bool)}(h:w.ownsRow B 42 2 (.slice a st.length c) st.length (yL st)):Z3 w a st:=by
 intro i hi;rcases h.2 with ⟨e,e0⟩|⟨g,cap,cur,e,hB,hg,-⟩
 ·omega
 ·injection e with e1 e2 e3;subst e1 e3;exact⟨g,rfl,(Array.getElem?_eq_some_iff.1 hg).1,(h.cellAt (i*2) (by omega)).trans (YL st i hi).1,(h.cellAt (i*2+1) (by omega)).trans (YL st i hi).2⟩
theorem Yq{its:List It}{ls:List Ln}{set:Nat}{l:List Nat}(h:zl its ls set=.ok l):set<2^its.length:=by
 have hf:(zm its ls set).1=true:=by
  cases hf:(zm its ls set).1 with
  |true=>rfl
  |false=>unfold zl at h;rw[if_pos hf] at h;cases h
 cases hsb:qh its set with
 |false=>rw[show zm its ls set=(false,-2) by unfold zm;rw[if_pos hsb]] at hf;cases hf
 |true =>unfold qh at hsb;exact of_decide_eq_true (Bool.and_eq_true_iff.1 hsb).1
theorem Xs{its:List It}{ls:List Ln}{set:Nat}{k:Int}(h:zl its ls set=.error k):k≠0:=by
 rcases Yp h with ⟨-,rfl⟩|⟨-,rfl⟩<;>decide
theorem zfU{its:List It}{ls:List Ln}{fr tt:Nat}{k:Int}(h:chR its ls fr tt=.error k):k≠0:=by
 unfold chR at h;cases ha:zl its ls fr with
 |error k1=>rw[ha] at h;cases h;exact Xs ha
 |ok a =>
  rw[ha] at h;cases hb:zl its ls tt with
  |error k1=>simp only[hb] at h;cases h;exact Xs hb
  |ok b=>simp only[hb] at h;cases h
theorem zdL(ls:List Ln)(its:List It)(hN:zk ls=.ok its)(set:Nat)(hs:set<18446744073709551616):∃(xs:List Int) (m:Int),xs.length<=24 /\
  (∀W v,RLs W v ls->zC 5 #[v,.int .u64 set] W fun e w'=>∃a c,e=.returned (.tuple #[.slice a xs.length c,.int .i64 m])/\zW w' a xs/\zB W w') /\
  (∀W bk,zV W bk ls its->zC 6 #[.pointer (some ⟨bk,0,none⟩),.int .u64 set] W fun e w'=>∃a c ev,e=.returned (.tuple #[.slice a xs.length c,ev])/\xG w' ev m (-1)/\zW w' a xs/\zB W w'):=by
 have HR:=fun W v h=>Zr ls its hN set v W h;have HP:=fun W bk h=>Zt bk ls its hN set W h hs;cases hr:zl its ls set with
 |error k =>
  have hk:=Xs hr;refine⟨[],k,by simp,fun W v h=>?_,fun W bk h=>?_⟩
  ·have H:=HR W v h;rw[hr] at H;refine H.mono ?_;rintro e w' ⟨rfl,hb⟩;exact⟨none,0,rfl,zW.nil _ _,hb⟩
  ·have H:=HP W bk h;rw[hr] at H;refine H.mono ?_;rintro e w' ⟨rfl,hb⟩;exact⟨none,0,_,rfl,Or.inr (Or.inl ⟨hk,rfl,rfl⟩),zW.nil _ _,hb⟩
 |ok l =>
  have hlen:=(Z1 hN (Yq hr) hr).len;have hnl:(zq l).length=l.length:=by simp[zq]
  refine⟨zq l,0,by omega,fun W v h=>?_,fun W bk h=>?_⟩
  ·have H:=HR W v h;rw[hr] at H;refine H.mono ?_;rintro e w' ⟨v',rfl,hrow,hb⟩;rw[<-hnl] at hrow;obtain⟨a,c,rfl,-⟩:=qm hrow;exact⟨a,c,rfl,yd hrow,hb⟩
  ·have H:=HP W bk h;rw[hr] at H;refine H.mono ?_;rintro e w' ⟨v',rfl,hrow,hb⟩;rw[<-hnl] at hrow;obtain⟨a,c,rfl,-⟩:=qm hrow;exact⟨a,c,_,rfl,Or.inl ⟨rfl,rfl,rfl⟩,yd hrow,hb⟩
theorem zgo(ls:List Ln)(its:List It)(hN:zk ls=.ok its)(fr tt:Nat)(h1:fr<18446744073709551616)(h2:tt<18446744073709551616):∃(st:List (Nat × Bool)) (m:Int),st.length<=48/\(∀p∈st,p.1<24) /\
  (∀W v,RLs W v ls->zC 9 #[v,.int .u64 fr,.int .u64 tt] W fun e w'=>∃a c,e=.returned (.tuple #[.slice a st.length c,.int .i64 m])/\zW w' a (st.map xz)/\zB W w') /\
  (∀W bk,zV W bk ls its->zC 10 #[.pointer (some ⟨bk,0,none⟩),.int .u64 fr,.int .u64 tt] W fun e w'=>∃a c ev,e=.returned (.tuple #[.slice a st.length c,ev])/\xG w' ev m (-1)/\Z3 w' a st/\zB W w'):=by
 have HR:=fun W v h=>zbl ls its hN fr tt v W h h1 h2;have HP:=fun W bk h=>zdW bk ls its hN fr tt W h h1 h2;rcases zgN (its:=its) (ls:=ls) (fr:=fr) (tt:=tt) with ⟨k,k2,hr,-⟩|⟨a,b,ha,hb,hr,-⟩
 ·have hk:=zfU hr;refine⟨[],k,by simp,by simp,fun W v h=>?_,fun W bk h=>?_⟩
  ·have H:=HR W v h;rw[hr] at H;refine H.mono ?_;rintro e w' ⟨rfl,hb⟩;exact⟨none,0,rfl,zW.nil _ _,hb⟩
  ·have H:=HP W bk h;rw[hr] at H;refine H.mono ?_;rintro e w' ⟨rfl,hb⟩;exact⟨none,0,_,rfl,Or.inr (Or.inl ⟨hk,rfl,rfl⟩),fun i hi=>by simp at hi,hb⟩
 ·have hIS:=za5 (Z1 hN (Yq ha) ha) (Z1 hN (Yq hb) hb);have hl:=(ya hN).1;generalize qU a b fr tt=st at *;have hnl:(st.map xz).length=st.length:=by simp
  refine⟨st,0,hIS.len,fun p hp=>by have:=hIS.lt p hp;omega,fun W v h=>?_,fun W bk h=>?_⟩
  ·have H:=HR W v h;rw[hr] at H;refine H.mono ?_;rintro e w' ⟨v',rfl,hrow,hb⟩;obtain⟨a,c,rfl,-⟩:=qm hrow;exact⟨a,c,by rw[hnl],yd hrow,hb⟩
  ·have H:=HP W bk h;rw[hr] at H;refine H.mono ?_;rintro e w' ⟨v',rfl,hrow,hb⟩;obtain⟨a,c,rfl,-⟩:=(zD hrow).form;exact⟨a,c,_,rfl,Or.inl ⟨rfl,rfl,rfl⟩,zgA hrow,hb⟩
theorem zeQ(s:ByteArray)(fr tt:Nat)(w:World)(hw:Lw w)(hF:FineR w)(ad:Addr)(cap:Nat)(hK:KindsAt w ad cap)(h:yT s=none):zC 3 #[.string s,.int .u64 fr,.int .u64 tt] w fun r w'=>r=.returned (.bool true)/\zB w w':=by
 have HB0:=KC s w hw hF ad cap hK;rw[h] at HB0;have HB:Hid (zR 4 #[.string s] w (.tuple #[.pointer none,.slice none 0 0,.bool false])):=HB0;clear HB0 hw hF hK h;go_enter Tryz.func3,Tryz.ntmps3;go_wp2_with fail;refine HB.out.mono ?_;rintro e w1 ⟨rfl,hb1⟩;have HB1:=zH hb1;clear hb1 HB;go_wp2;go_ret;exact⟨rfl,HB1.out⟩
theorem zby(s:ByteArray)(fr tt:Nat)(h1:fr<18446744073709551616)(h2:tt<18446744073709551616)(w:World)(hw:Lw w)(hF:FineR w)(ad:Addr)(cap:Nat)(hK:KindsAt w ad cap)(ls:List Ln)(its:List It)(h:yT s=some (ls,its)):zC 3 #[.string s,.int .u64 fr,.int .u64 tt] w fun r w'=>r=.returned (.bool true)/\zB w w':=by
 have hN:=zd4 h;have HB0:=KC s w hw hF ad cap hK;rw[h] at HB0;have HB:Hid (zC 4 #[.string s] w fun e w'=>∃bc v,e=.returned (.tuple #[.pointer (some ⟨bc,0,none⟩),v,.bool true])/\zV w' bc ls its/\RLs w' v ls/\zB w w'):=HB0;have HG:=zH hw.lb.glob;obtain⟨xs,m,hxl,hro,hpo⟩:=zdL ls its hN fr h1;obtain⟨st,mc,hsl,hst,hrc,hpc⟩:=zgo ls its hN fr tt h1 h2;have HRO:=zH hro;have HPO:=zH hpo;have HRC:=zH hrc;have HPC:=zH hpc;have HST:=zH hst;clear HB0 hw hF hK h hN hro hpo hrc hpc hst;go_enter Tryz.func3,Tryz.ntmps3;go_wp2_with fail;refine HB.out.mono ?_;rintro e w1 ⟨bc,v,rfl,hcat,hrl,hb1⟩;obtain⟨va,vc,rfl⟩:∃a c,v=.slice a ls.length c:=by obtain⟨vs',_,h2⟩:=hrl;obtain⟨a,c,e,_⟩:=h2.form;exact⟨a,c,e⟩
 have HR1:=zH (HRO.out w1 _ hrl);have HRL:=zH hrl;have HCAT:=zH hcat;have HB1:=zH hb1;clear hb1 hcat hrl HB HRO;go_wp2_with fail;refine HR1.out.mono ?_;rintro e w2 ⟨a2,c2,rfl,hi2,hb2⟩;have HC2:=zH (HCAT.out.below hb2 zN);have HL2:=zH (HRL.out.below hb2 zN);have HP2:=zH (HPO.out w2 bc HC2.out);have HI2:=zH hi2;have HB2:Hid (zB w w2):=zT HB1.out hb2;clear hb2 hi2 HB1 HR1 HPO HCAT HRL;go_wp2_with fail;refine HP2.out.mono ?_;rintro e w3 ⟨a3,c3,ev,rfl,hev,hi3,hb3⟩;have HC3:=zH (HC2.out.below hb3 zN);have HL3:=zH (HL2.out.below hb3 zN);have HI3:=zH hi3;have HI2':=zH (HI2.out.below hb3);have HB3:Hid (zB w w3):=zT HB2.out hb3;have HBA0:=X4 m m ev w3 (HG.out.below HB3.out) hev;rw[beq_self_eq_true] at HBA0;have HBA:=zH HBA0;clear hb3 hi3 hev HB2 HP2 HC2 HL2 HI2 HBA0;go_wp2_with fail;refine HBA.out.mono ?_;rintro e w4 ⟨rfl,hb4⟩;have HC4:=zH (HC3.out.below hb4 zN);have HL4:=zH (HL3.out.below hb4 zN);have HS4:=zH (zeT xs a3 a2 c3 c2 w4 (HI3.out.below hb4) (HI2'.out.below hb4) (by omega));have HB4:Hid (zB w w4):=zT HB3.out hb4;clear hb4 HB3 HC3 HL3 HI3 HI2' HBA;go_wp2_with fail;refine HS4.out.mono ?_;rintro e w5 ⟨rfl,hb5⟩;have HC5:=zH (HC4.out.below hb5 zN);have HR5:=zH (HRC.out w5 _ (HL4.out.below hb5 zN));have HB5:Hid (zB w w5):=zT HB4.out hb5;clear hb5 HB4 HC4 HL4 HS4 HRC;go_wp2_with fail;refine HR5.out.mono ?_;rintro e w6 ⟨a6,c6,rfl,hi6,hb6⟩;have HP6:=zH (HPC.out w6 bc (HC5.out.below hb6 zN));have HI6:=zH hi6;have HB6:Hid (zB w w6):=zT HB5.out hb6;clear hb6 hi6 HB5 HC5 HR5 HPC;go_wp2_with fail;refine HP6.out.mono ?_;rintro e w7 ⟨a7,c7,ew,rfl,hew,hs7,hb7⟩;have HI7:=zH (HI6.out.below hb7);have HS7:=zH hs7;have HB7:Hid (zB w w7):=zT HB6.out hb7;have HBA0:=X4 mc mc ew w7 (HG.out.below HB7.out) hew;rw[beq_self_eq_true] at HBA0;have HBA:=zH HBA0;clear hb7 hs7 hew HB6 HP6 HI6 HBA0 HG;go_wp2_with fail;refine HBA.out.mono ?_;rintro e w8 ⟨rfl,hb8⟩;have HI8:=zH (HI7.out.below hb8);have HS8:=zH (HS7.out.below hb8);have HB8:Hid (zB w w8):=zT HB7.out hb8;have hnn:((st.length:Int) != (st.length:Int))=false:=by simp
 clear hb8 HB7 HI7 HS7 HBA;go_wp2_with fail;go_loopw [16] (fun iV wr=>∃i:Nat,i<=st.length/\iV=.int .i64 i/\zB w8 wr) (fun iV _=>st.length-(intOf iV).toNat)
 case atStart=>exact⟨0,Nat.zero_le _,rfl,Below.refl _ _⟩
 case round =>
  obtain⟨i,hil,rfl,hbr⟩:=hrel;have HBR:=zH hbr
  by_cases hlt:i<st.length
  ·obtain⟨g,rfl,hgl,q0,q1⟩:=HS8.out.below hbr i hlt;obtain⟨ag,rfl,hal,q2⟩:=HI8.out.below hbr i (by simpa using hlt);have hmem:st.getD i (0,false)∈st:=by rw[List.getD_eq_getElem?_getD,List.getElem?_eq_getElem hlt];exact List.getElem_mem hlt
   have hx24:=HST.out _ hmem;have hsg:(st.map xz).getD i 0=xz (st.getD i (0,false)):=by simp[List.getD_eq_getElem?_getD,hlt]
   rw[hsg] at q2;clear hsg hmem;generalize st.getD i (0,false)=sx at *;obtain⟨x,c⟩:=sx;have hx24':x<24:=hx24;have p0:wr.cell? ⟨g,i*2,none⟩=some (.int .i64 x):=q0;have p1:wr.cell? ⟨g,i*2+1,none⟩=some (.bool c):=q1;obtain⟨Y,hY⟩:∃Y:Int,(x:Int)+1=Y:=⟨_,rfl⟩;obtain⟨Z,hZ⟩:∃Z:Int,-Y=Z:=⟨_,rfl⟩;have e1:IntKind.i64.wrap ((x:Int)+1)=Y:=by rw[hY,IntKind.wrap_i64];omega
   have e2:IntKind.i64.wrap (-Y)=Z:=by rw[hZ,IntKind.wrap_i64];omega
   have e3:IntKind.i64.wrap (-Z)=Y:=by rw[IntKind.wrap_i64];omega
   have hii0:(0:Int)<=(i:Int):=by omega
   have hii1:(i:Int)<(st.length:Int):=by omega
   have HBN:Hid (∀q,zB w8 (wr.drewN q)):=fun q=>HBR.out.trans ⟨rfl,rfl,rfl,Nat.le_refl _,fun _ _=>rfl⟩;have hyy:(Y != Y)=false:=by simp
   have hzz:(Z != Z)=false:=by simp
   cases c with
   |true =>
    have p2:wr.cell? (ag.add i)=some (.int .i64 Y):=by rw[q2];show some (Value.int .i64 ((x:Int)+1))=_;rw[hY]
    clear q0 q1 q2 hx24 hx24' hY hZ hbr HBN;go_wp2;go_roundw
    case rel=>exact⟨i+1,hlt,by go_num,HBR.out⟩
    case measure=>simp[intOf];omega
   |false =>
    have p2:wr.cell? (ag.add i)=some (.int .i64 Z):=by rw[q2];show some (Value.int .i64 (-((x:Int)+1)))=_;rw[hY,hZ]
    clear q0 q1 q2 hx24 hx24' hY hZ hbr HBN;go_wp2;go_roundw
    case rel=>exact⟨i+1,hlt,by go_num,HBR.out⟩
    case measure=>simp[intOf];omega
  ·obtain rfl:i=st.length:=by omega
   have HB9:Hid (zB w wr):=zT HB8.out hbr;clear hbr HBR;go_wp2;go_ret;exact⟨rfl,HB9.out⟩
theorem zaN(s:ByteArray)(fr:Nat)(h1:fr<18446744073709551616)(tt:Nat)(h2:tt<18446744073709551616)(w:World)(hw:Lw w)(hF:FineR w)(ad:Addr)(cap:Nat)(hK:KindsAt w ad cap):zC 3 #[.string s,.int .u64 fr,.int .u64 tt] w fun r w'=>r=.returned (.bool true)/\zB w w':=by
 cases h:yT s with
 |none=>exact zeQ s fr tt w hw hF ad cap hK h
 |some r=>exact zby s fr tt h1 h2 w hw hF ad cap hK r.1 r.2 h
end
section
open Go.ChangeShapes Go.WideShapes Go.ChangeAt Go.RowKit
theorem own:ownKnob Tryz.prog.godebug=none:=by kernel_rfl
theorem zei:Tryz.prog.globalNamed "errors.errorType"=some 3:=by kernel_rfl
theorem za4:(Tryz.prog.cutTypes.find? (·.1 == "internal/reflectlite.rtype")).map (·.2)=some 207:=by kernel_rfl
theorem zfT:((List.range 315).filter fun t=>Tryz.prog.rowNamed t [101,114,114,111,114])=[32]:=by kernel_rfl
theorem zb4:Tryz.prog.types.size=315:=by kernel_rfl
theorem zhG{W:World}{l:List (String × DataW Unit)}(h:laidMetH Tryz.prog l W)(hk:(l.filter fun x=>x.1 == "errors.errorType")=[("errors.errorType",Rows.laid_errors_errorType)]):yb W:=by
 have h2:=h.filter fun x=>x.1 == "errors.errorType";rw[hk] at h2;have h3:laidMet Tryz.prog [] W/\handlesMet Tryz.prog [("errors.errorType",Rows.laid_errors_errorType)] W:=h2;obtain⟨name,u,ty,e1,e2,e3,e4,e5⟩:=h3.2 _ (List.mem_singleton.2 rfl);have en:name=[101,114,114,111,114]:=(Option.some.inj e1).symm;subst en;obtain rfl:=Option.some.inj (za4.symm.trans e2);have hm:ty∈(List.range 315).filter fun t=>Tryz.prog.rowNamed t [101,114,114,111,114]:=List.mem_filter.2 ⟨List.mem_range.2 (by rw[<-zb4];exact e3),e4⟩;rw[zfT] at hm;obtain rfl:=List.mem_singleton.1 hm;have hh:typeHandle Tryz.prog 32=.pointer (some ⟨12,32,none⟩):=by kernel_rfl
 rw[hh] at e5;have h6:=World.var?_cell zei e5 0;unfold yb;simpa using h6
def yZ(cs:Array Value):Obj->Obj
 |.cells _ t frozen=>.cells cs t frozen
 |o=>o
end
section
open Go.ChangeShapes Go.WideShapes Go.ChangeAt Go.RowKit Go.Shelf
theorem zdx:Tryz.prog.globalNamed "internal/strconv.uint64pow10"=some 9:=by kernel_rfl
theorem zeb:(Tryz.prog.globals[9]?).map (·.type)=some 275:=by kernel_rfl
theorem zbf:Tryz.prog.cellsOf 275=20:=by kernel_rfl
theorem zdz:Tryz.prog.cellsOf 153=1:=by kernel_rfl
theorem Jw:Tryz.prog.globalNamed "strconv.ErrSyntax"=some 7:=by kernel_rfl
theorem zgl:(Tryz.prog.globals[7]?).map (·.type)=some 32:=by kernel_rfl
theorem JO:Tryz.prog.globalNamed "strconv.ErrRange"=some 8:=by kernel_rfl
theorem zdr:(Tryz.prog.globals[8]?).map (·.type)=some 32:=by kernel_rfl
theorem JC:Tryz.prog.cellsOf 284=1:=by kernel_rfl
theorem QM:Tryz.prog.cellsOf 9=1:=by kernel_rfl
theorem Jk : "*" ++ "errors.errorString" = "*errors.errorString":=by decide
theorem Jf(u:TypeId)(h:Tryz.prog.typeName? 3 u=some "*errors.errorString"):u=282 :=
 typeName_ptr_named (nm := "errors.errorString") (by rw[Jk];kernel_rfl) (by kernel_rfl) (by decide) u (by rw[Jk];exact h)
theorem zif{W:World}{l:List (String × DataW Unit)}(h:laidMetH Tryz.prog l W)(hk:(l.filter fun x=>x.1 == "internal/strconv.uint64pow10")=[("internal/strconv.uint64pow10",Lib.tabData .u64 Lib.pow10Tab)]):Lib.TabIs Tryz.prog W "internal/strconv.uint64pow10" .u64 Lib.pow10Tab:=by
 have h2:=h.filter fun x=>x.1 == "internal/strconv.uint64pow10";rw[hk] at h2;have h3:laidMet Tryz.prog [("internal/strconv.uint64pow10",Lib.tabData .u64 Lib.pow10Tab)] W:=h2;exact Lib.tabIs_of_head (rest:=[]) zdx zeb Tryz.underlying275 Tryz.underlying153 zdz zbf h3
theorem zgq{W:World}{l:List (String × DataW Unit)}(h:laidMetH Tryz.prog l W)(hk:(l.filter fun x=>x.1 == "strconv.ErrSyntax")=[("strconv.ErrSyntax",Rows.laid_strconv_ErrSyntax)]):∃ev,W.cell? ⟨7,0,none⟩=some ev/\(ev=.nilIface\/∃te pe,ev=.iface te pe):=by
 have h2:=h.filter fun x=>x.1 == "strconv.ErrSyntax";rw[hk] at h2;have h3:laidMet Tryz.prog [("strconv.ErrSyntax",Rows.laid_strconv_ErrSyntax)] W:=h2;obtain⟨a0,s0,hv0,-,-,-⟩:=laid_sentinel h3 Jw zgl Tryz.underlying32 Jf Tryz.underlying282 Tryz.underlying284 rfl rfl Tryz.underlying9 JC QM;exact⟨_,by have h0:=World.var?_cell Jw hv0 0;simpa using h0,.inr ⟨_,_,rfl⟩⟩
theorem zgR{W:World}{l:List (String × DataW Unit)}(h:laidMetH Tryz.prog l W)(hk:(l.filter fun x=>x.1 == "strconv.ErrRange")=[("strconv.ErrRange",Rows.laid_strconv_ErrRange)]):∃ev,W.cell? ⟨8,0,none⟩=some ev/\(ev=.nilIface\/∃te pe,ev=.iface te pe):=by
 have h2:=h.filter fun x=>x.1 == "strconv.ErrRange";rw[hk] at h2;have h3:laidMet Tryz.prog [("strconv.ErrRange",Rows.laid_strconv_ErrRange)] W:=h2;obtain⟨a0,s0,hv0,-,-,-⟩:=laid_sentinel h3 JO zdr Tryz.underlying32 Jf Tryz.underlying282 Tryz.underlying284 rfl rfl Tryz.underlying9 JC QM;exact⟨_,by have h0:=World.var?_cell JO hv0 0;simpa using h0,.inr ⟨_,_,rfl⟩⟩
theorem zhZ{W:World}(h:W.ShapedOpen Tryz.prog):∃n,W.cell? ⟨4,0,none⟩=some (.int .i64 n) :=
 cell_of_shapedOpen_int (zero:=#[.int .i64 0]) (t:=3) h (of_decide_eq_true (by kernel_rfl)) (by kernel_rfl) rfl (by kernel_rfl) (by kernel_rfl) Tryz.underlying3
theorem zig{W:World}(h:W.ShapedOpen Tryz.prog):12<=W.heap.size:=by
 obtain⟨o,_,ho,_⟩:=h.2 12 (of_decide_eq_true (by kernel_rfl)) (of_decide_eq_true (by kernel_rfl));have:=(Array.getElem?_eq_some_iff.1 ho).1;omega
theorem zcP{W:World}{l:List (String × DataW Unit)}(h:laidMetH Tryz.prog l W)(hs:W.ShapedOpen Tryz.prog)
  (k1:(l.filter fun x=>x.1 == "internal/strconv.uint64pow10")=[("internal/strconv.uint64pow10",Lib.tabData .u64 Lib.pow10Tab)])
  (k2:(l.filter fun x=>x.1 == "strconv.ErrSyntax")=[("strconv.ErrSyntax",Rows.laid_strconv_ErrSyntax)])
  (k3:(l.filter fun x=>x.1 == "strconv.ErrRange")=[("strconv.ErrRange",Rows.laid_strconv_ErrRange)])
  (k4:(l.filter fun x=>x.1 == "errors.errorType")=[("errors.errorType",Rows.laid_errors_errorType)]):Lb W :=
 ⟨zhZ hs,zgq h k2,zgR h k3,zif h k1,zhG h k4,zig hs⟩
def Jv:DataW Unit->List Value
 |.lit (.int k z)=>[.int k z]
 |_=>[undef]
def zeV:DataW Unit->List Value
 |.agg l=>l.flatMap Jv
 |d=>Jv d
def Qf:DataW Unit->Array Value
 |.agg l=>(l.flatMap zeV).toArray
 |_=>#[]
end
section
open Go.ChangeShapes Go.WideShapes Go.ChangeAt Go.RowKit Go.Shelf
theorem XM:Tryz.prog.globalNamed "solspace/solspaceref.Fine"=some 0:=by kernel_rfl
theorem zg2:(Tryz.prog.globals[0]?).map (·.type)=some 45:=by kernel_rfl
theorem zcW:Tryz.prog.cellsOf 3=1:=by kernel_rfl
theorem zfm:Tryz.prog.cellsOf 28=1:=by kernel_rfl
theorem zbL:Tryz.prog.cellsOf 45=2:=by kernel_rfl
theorem zfH{W:World}{l:List (String × DataW Unit)}(h:laidMetH Tryz.prog l W)(hk:(l.filter fun x=>x.1 == "solspace/solspaceref.Fine")=[("solspace/solspaceref.Fine",Rows.laid_solspace_solspaceref_Fine)]):FineR W:=by
 have h2:=h.filter fun x=>x.1 == "solspace/solspaceref.Fine";rw[hk] at h2;have h3:laidMet Tryz.prog [("solspace/solspaceref.Fine",Rows.laid_solspace_solspaceref_Fine)] W:=h2;obtain⟨ps,⟨g',t',cs,fuel,p,q,hg',ht',hvar,hd,_,_⟩,_⟩:=h3;obtain rfl:=Option.some.inj (XM.symm.trans hg');obtain rfl:=Option.some.inj (zg2.symm.trans ht');obtain⟨y0,y1,n,hx,hl,g0,g1⟩:=trod_struct2 Tryz.underlying45 hd;rw[zbL] at hl;obtain⟨cs⟩:=cs;simp only at hl g0 g1
 match cs,hl with
 |[v0,v1],_ =>
  simp[zfm,zcW] at g0 g1;obtain⟨z0,e0,x0,-⟩:=DataW.trod_int Tryz.underlying28 g0;obtain⟨z1,e1,x1,-⟩:=DataW.trod_int Tryz.underlying3 g1;simp at e0 e1;subst e0 e1 x0 x1;simp[Rows.laid_solspace_solspaceref_Fine] at hx;obtain⟨⟨rfl,rfl⟩,-⟩:=hx;have h0:W.cell? ⟨0,0,none⟩=some (.int .i64 0):=by have:=World.var?_cell XM hvar 0;simpa using this
  exact⟨h0,by have:=World.var?_cell XM hvar 1;simpa using this,World.block_lt_of_cell? _ _ h0⟩
end
section
open Go.ChangeShapes Go.WideShapes Go.ChangeAt Go.RowKit Go.Shelf
theorem zaf:Tryz.prog.globalNamed "solspace/catalog.words"=some 2:=by kernel_rfl
theorem zdo:(Tryz.prog.globals[2]?).map (·.type)=some 167:=by kernel_rfl
theorem zgm:Tryz.prog.cellsOf 167=5:=by kernel_rfl
theorem zaJ{H:Type}{enc:TypeId × Value->H}{P:Program}{w:World}{base:Nat}{sp:Nat->Bool}{held:Bool}{fuel:Nat}{t e:TypeId}{n:Nat}{cs:List Value}{zs:List ByteArray}{p:List MemPlace}
  (ht:P.underlying t=some (.array n e)) (he:P.underlying e=some .string) (hce:P.cellsOf e=1) (hct:P.cellsOf t=n)
  (h:DataW.trod enc P w base sp held fuel t cs=some (.agg (zs.map fun z=>.lit (.string z.data.toList)),p)):cs=zs.map fun z=>Value.string z:=by
 cases fuel with
 |zero=>simp[DataW.trod] at h
 |succ fuel =>
  simp only[DataW.trod,ht,hce,hct,Nat.mul_one] at h;split at h
  ·rename_i hl;obtain⟨xs,hm,hx⟩:=Option.map_eq_some_iff.1 h;have hxs:xs.map (·.1)=zs.map fun z=>(DataW.lit (.string z.data.toList):DataW H):=by
    have:=congrArg Prod.fst hx;simpa using this
   have hxl:xs.length=n:=by simpa using Lib.mapM_length hm
   have hzl:zs.length=n:=by
    have:=congrArg List.length hxs;simp at this;omega
   apply List.ext_getElem?;intro i
   by_cases hi:i<n
   ·obtain⟨b,hb,hf⟩:=Lib.mapM_at hm i i (by simp[hi]);obtain⟨z,hc,rfl,_⟩:=DataW.trod_string he hf;have h1:cs[i]?=some (.string z):=by
     have:=congrArg (·[0]?) hc;simpa[List.getElem?_take,List.getElem?_drop] using this
    have h2:(xs.map (·.1))[i]?=some (DataW.lit (.string z.data.toList):DataW H):=by simp[hb]
    rw[hxs] at h2;simp only[List.getElem?_map,Option.map_eq_some_iff,DataW.lit.injEq,Lit.string.injEq] at h2;obtain⟨z',hz',e⟩:=h2;obtain rfl:z'=z:=ByteArray.ext (Array.toList_inj.1 e);simp[h1,hz']
   ·rw[List.getElem?_eq_none (by omega),List.getElem?_eq_none (by simp;omega)]
  ·cases h
theorem zh6{W:World}{l:List (String × DataW Unit)}(h:laidMetH Tryz.prog l W)(hk:(l.filter fun x=>x.1 == "solspace/catalog.words")=[("solspace/catalog.words",Rows.laid_solspace_catalog_words)]):xg W:=by
 have h2:=h.filter fun x=>x.1 == "solspace/catalog.words";rw[hk] at h2;have h3:laidMet Tryz.prog [("solspace/catalog.words",Rows.laid_solspace_catalog_words)] W:=h2;obtain⟨ps,⟨g',t',cs,fuel,p,q,hg',ht',hvar,hd,_,_⟩,_⟩:=h3;obtain rfl:=Option.some.inj (zaf.symm.trans hg');obtain rfl:=Option.some.inj (zdo.symm.trans ht');have hcs:=zaJ (zs:=[⟨#[]⟩,⟨#[112,97,99,107,97,103,101]⟩,⟨#[110,101,101,100,115]⟩,⟨#[99,108,97,115,104,101,115]⟩,⟨#[114,111,111,116]⟩]) Tryz.underlying167 Tryz.underlying9 QM zgm hd;have H:=fun (i:Nat)=>World.var?_cell zaf hvar i;obtain⟨cs⟩:=cs;simp only at hcs;subst hcs;exact⟨by simpa using H 0,by simpa using H 1,by simpa using H 2,by simpa using H 3,by simpa using H 4⟩
theorem JJ:Tryz.prog.globalNamed "solspace/solspaceref.kinds"=some 1:=by kernel_rfl
theorem zb6:(Tryz.prog.globals[1]?).map (·.type)=some 78:=by kernel_rfl
theorem zgK{W:World}{l:List (String × DataW Unit)}(h:laidMetH Tryz.prog l W)(hk:(l.filter fun x=>x.1 == "solspace/solspaceref.kinds")=[("solspace/solspaceref.kinds",Rows.laid_solspace_solspaceref_kinds)]):∃ad cap,KindsAt W ad cap:=by
 have h2:=h.filter fun x=>x.1 == "solspace/solspaceref.kinds";rw[hk] at h2;have h3:laidMet Tryz.prog [("solspace/solspaceref.kinds",Rows.laid_solspace_solspaceref_kinds)] W:=h2;obtain⟨ps,⟨g',t',cs,fuel,p,q,hg',ht',hvar,hd,_,_⟩,_⟩:=h3;obtain rfl:=Option.some.inj (JJ.symm.trans hg');obtain rfl:=Option.some.inj (zb6.symm.trans ht');have H:=World.var?_cell JJ hvar 0;rcases Go.Deep.open_slice1 Tryz.underlying78 QM hd with ⟨_,hx⟩|⟨a,len,cap,m,n,V,D,Pl,hcs,hb,hl,hm,hmm,hx,hc⟩
 ·simp[Rows.laid_solspace_solspaceref_kinds] at hx
 ·have h1:=congrArg Prod.fst hx;simp only[Rows.laid_solspace_solspaceref_kinds,DataW.slice.injEq] at h1;obtain⟨h1,h1b⟩:=h1;have hlen:len=5:=by have:=congrArg List.length h1;simpa using this.symm
  subst hlen;have hm5:5<=m:=by rw[hmm];split<;>omega
  have hD:∀j,j<5->D j=.lit (.string (wl j)):=fun j hj=>by
   have:=congrArg (·[j]?) h1;simp only[List.getElem?_map] at this
   match j,hj with
   |0,_=>simpa[wl] using this.symm
   |1,_=>simpa[wl] using this.symm
   |2,_=>simpa[wl] using this.symm
   |3,_=>simpa[wl] using this.symm
   |4,_=>simpa[wl] using this.symm
  have hcell:∀j,j<5->W.cell? (a.add j)=some (.string ⟨(wl j).toArray⟩):=fun j hj=>by
   obtain⟨z,hz,hzd,_⟩:=DataW.trod_string Tryz.underlying9 (hc j (by omega)).2;rw[(hc j (by omega)).1];have e1:V j=.string z:=by simpa using hz
   rw[e1];have e2:z.data.toList=wl j:=by
    have h7:=hD j hj;have h8:=congrArg Prod.fst hzd;simp only at h8;rw[h8] at h7;simpa using h7
   rw[Zv e2]
  refine⟨a,cap,?_,hcell,?_,?_⟩
  ·obtain⟨cs⟩:=cs;simp only at hcs;subst hcs;simpa using H
  ·have h0:W.cell? ⟨1,0,none⟩=some (.slice (some a) 5 cap):=by
    obtain⟨cs⟩:=cs;simp only at hcs;subst hcs;simpa using H
   exact World.block_lt_of_cell? _ _ h0
  ·have:=World.block_lt_of_cell? _ _ (hcell 0 (by omega))
   rwa [Zq] at this
noncomputable def XG(os:Os):World :=
 let w0:=World.holding Tryz.prog os ⟨#[.cells #[.string ⟨#[118,97,108,117,101,32,111,117,116,32,111,102,32,114,97,110,103,101]⟩] 284,.cells #[.string ⟨#[105,110,118,97,108,105,100,32,115,121,110,116,97,120]⟩] 284,.cells #[.string ⟨#[]⟩,.string ⟨#[112,97,99,107,97,103,101]⟩,.string ⟨#[110,101,101,100,115]⟩,.string ⟨#[99,108,97,115,104,101,115]⟩,.string ⟨#[114,111,111,116]⟩] 9],#[],[]⟩
 { w0 with heap:=((((((((((w0.heap.modify 3 (yZ #[.iface 207 (.agg #[.pointer (some ⟨12,32,none⟩)])])).modify 7 (yZ #[.iface 282 (.pointer (some ⟨18,0,none⟩))])).modify 8 (yZ #[.iface 282 (.pointer (some ⟨17,0,none⟩))])).modify 9 (yZ (Qf Rows.laid_internal_strconv_uint64pow10))).modify 5 (yZ (Qf Rows.laid_unicode_utf8_first))).modify 6 (yZ (Qf Rows.laid_unicode_utf8_acceptRanges))).modify 10 (yZ (Qf Rows.laid_math_bits_deBruijn32tab))).modify 11 (yZ (Qf Rows.laid_math_bits_deBruijn64tab))).modify 2 (yZ #[.string ⟨#[]⟩,.string ⟨#[112,97,99,107,97,103,101]⟩,.string ⟨#[110,101,101,100,115]⟩,.string ⟨#[99,108,97,115,104,101,115]⟩,.string ⟨#[114,111,111,116]⟩])).modify 0 (yZ #[.int .i64 0,.int .i64 (-1)])).modify 1 (yZ #[.slice (some ⟨19,0,none⟩) 5 5]) }
end
end Go.Proofs.YtlamemjfaogjmaaGreatDoor
