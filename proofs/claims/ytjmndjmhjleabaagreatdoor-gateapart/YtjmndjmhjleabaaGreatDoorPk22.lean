/- Small texts, one behind the other: RfChB, RfLen. -/
import Derived.Test.YtjmndjmhjleabaaGreatDoorAl
import Derived.Test.YtjmndjmhjleabaaGreatDoorAm
import Derived.Test.YtjmndjmhjleabaaGreatDoorRfChunks
import Derived.Test.YtjmndjmhjleabaaGreatDoorFlB
import Derived.Test.YtjmndjmhjleabaaGreatDoorPk17
import Derived.Test.YtjmndjmhjleabaaGreatDoorPk5
import Derived.Deep.RegionHeld3
import Derived.Deep.DeepCutAuto
set_option maxHeartbeats 4000000
set_option maxRecDepth 100000
open Go.Proofs.Tryz
namespace Go.Proofs.YtjmndjmhjleabaaGreatDoor
open Go.RowKit
theorem Al (ao:ak)(c:Nat)(h:ao=none->c=0)(W:World):
 Calls prog 42 #[.slice ao 0 c] W fun e w'=>e=.returned (.tuple #[.string ⟨#[]⟩,.int .i64 0,.bool false,.int .i64 0])∧w'=W :=
 FI [] ao c 0 W ⟨aA _,h,fun j hj=>by cases hj⟩ rfl (by omega)
theorem Gn (ab:ak)(cap:Nat)(w:World)(hb:iH w ab cap []):
 Calls prog 46 #[.slice ab 0 cap] w fun e w'=>lC w [] e w':=by
 have hn:=hb.2.1;clear hb;by_cases hc:cap=0
 . subst hc;go_enter func46,ntmps46;go_wp2;refine wp_loop_rounds 1 ?_;rw[rounds_succ];go_wp2_with fail
   refine(Al _ _ (fun _=>rfl) _).mono ?_;rintro e w1 ⟨rfl,hw⟩;subst hw;go_wp2;(try simp only[Exit.inBlock,Exit.then]);refine gy (gY rfl _ _ _) rfl ?_;exact lC.of [] 0 false 0 none 0 0 _ rfl rfl rfl rfl (iF.nil _ _ _) (fJ _ _)
 . obtain⟨a,rfl⟩:∃a,ab=some a:=by
    cases ab with
    | none=>exact absurd (hn rfl) hc
    | some a=>exact⟨a,rfl⟩
   clear hn;go_enter func46,ntmps46;go_wp2;refine wp_loop_rounds 1 ?_;rw[rounds_succ];go_wp2_with fail
   refine(Al _ _ (fun e=>by cases e) _).mono ?_;rintro e w1 ⟨rfl,hw⟩;subst hw;go_wp2;(try simp only[Exit.inBlock,Exit.then]);refine gy (gY rfl _ _ _) rfl ?_;exact lC.of [] 0 false 0 none 0 0 _ rfl rfl rfl rfl (iF.nil _ _ _) (fJ _ _)
theorem J2 (b:av)(ab:ak)(cap:Nat)(w:World)(hb:iH w ab cap b)(h9:b.length<=20000):
 Calls prog 46 #[.slice ab b.length cap] w fun e w'=>lC w b e w':=by
 by_cases h0:0<b.length
 . obtain⟨bb,oo,rfl,_⟩:=hb.lit h0;exact Gm b bb oo cap w hb h9
 . obtain rfl:b=[]:=dw (by omega);exact Gn ab cap w hb
structure Ye (w:World)(row:Obj)(vs cs:List ay)(zU jy:ak)(ow cap2:Nat)(wr:World):Prop where
 one:jo wr zU ow vs.length (oI vs)
 two:jo wr jy cap2 cs.length (oI cs)
 box:wr.heap[w.heap.size]? = some row
 below:aj w wr
theorem Br {w wr w':World}{row:Obj}(h:wr.heap[w.heap.size]? = some row)(hb:aj wr w'):w'.heap[w.heap.size]? = some row:=(hb.block w.heap.size (aL.1 h).1).trans h
theorem Ye.stay {w:World}{row:Obj}{vs cs:List ay}{zU jy:ak}{ow cap2:Nat}{wr w':World}(h:Ye w row vs cs zU jy ow cap2 wr)(hb:aj wr w'):Ye w row vs cs zU jy ow cap2 w':=⟨h.one.stay hb,h.two.stay hb,Br h.box hb,then_ h.below hb⟩
theorem J4 (m t:ay)(mi:Nat)(k0:Int)(l:au)(fo:ak)(gM:Nat)(w:World)(hl:jo w fo gM l.length (gU l))(hN:l.length<=16)(hs:∀p∈l,p.1.size<=2000∧p.2.size<=2000):
 Calls prog 45 #[.agg #[.string m,.string t,.int .i64 (mi:Int),.slice fo l.length gM,.int .i64 k0]] w fun e w'=>e=.returned (Rq.lenVal (Rq.len ⟨m.data.toList,t.data.toList,mi,Rq.V5 l,k0⟩))∧aj w w':=by
 have hle:Rq.len ⟨m.data.toList,t.data.toList,mi,Rq.V5 l,k0⟩=Rq.lenOf mi (Rq.lists (Fd.vals rR l)) (Rq.lists (Fd.vals qp l)) (Rq.lists (Fd.vals qw l)):=by
  rw[Rq.len_eq];show Rq.lenOf mi (Rq.vals (Rq.V5 l) rR.data.toList) (Rq.vals (Rq.V5 l) qp.data.toList) (Rq.vals (Rq.V5 l) qw.data.toList)=_;rw[Rq.wB l rR (by decide +kernel),Rq.wB l qp (by decide +kernel),Rq.wB l qw (by decide +kernel)];rfl
 rw[hle];have HB:=H9 hl;have F5:Hid (∀p∈l,p.1.size<=2000):=fun p hp=>(hs p hp).1;have HVz:Hid (∀name,∀v∈Fd.vals name l,v.size<=2000):=fun name v hv=>by
  obtain⟨p,hp,e⟩:=Fd.wD hv;rw[<-e];exact(hs p hp).2
 have hlH:=Fd.kP rR l;have hlS:=Fd.kP qp l;have hlC:=Fd.kP qw l
 clear hle hl hs;have afw:Hid (∀W,aj w W->Calls prog 54 #[.slice fo l.length gM,.string ⟨#[104,111,115,116]⟩] W fun e w'=>e=.returned (rQ (Fd.one (Fd.vals rR l)))∧aj W w'):=fun W hW=>Sb l rR fo gM l.length W (HB.o.stay hW) rfl (by omega) F5.o (by decide);have HV:Hid (∀(name:ay) (W:World),aj w W->name.size<=2000->Calls prog 69 #[.slice fo l.length gM,.string name] W fun e w'=>∃gW cap',e=.returned (.slice gW (Fd.vals name l).length cap')∧jo w' gW cap' (Fd.vals name l).length (oI (Fd.vals name l))∧aj W w'):=fun name W hW hn=>by
  refine(zT l name fo gM l.length W (HB.o.stay hW) rfl (by omega) F5.o hn).mono ?_;rintro e w' ⟨a,c,h1,h2,h3⟩;exact⟨a,c,h1,h2.nQ,h3⟩
 have HZs:=H9 (HVz.o qp);have HZc:=H9 (HVz.o qw)
 clear HVz F5 HB;generalize Fd.vals rR l=hv at *;generalize hvs:Fd.vals qp l=vs at *;generalize hcs:Fd.vals qw l=cs at *;have HEs:=H9 hvs;have HEc:=H9 hcs
 clear hvs hcs;generalize hrow:(Obj.cells #[Value.string m,Value.string t,.int .i64 (mi:Int),.slice fo l.length gM,.int .i64 k0] 68 (0,0))=row;have nX:=H9 hrow;have hb0:aj w (w.alloc row):=(fJ _ _).alloc (aM _) _;have HX0:Hid ((w.alloc row).heap[w.heap.size]? = some row):=fI w _;have HB0:=H9 hb0;rw[<-hrow] at HX0 HB0;clear hrow hb0;go_enter func45,ntmps45;go_wp2_with fail
 refine(afw.o _ HB0.o).mono ?_;rintro e w1 ⟨he,hb1⟩;have Tm:=H9 (Br HX0.o hb1);have HB1:=H9 (then_ HB0.o hb1)
 have c2:w1.cell? ⟨w.heap.size,2,none⟩=some (.int .i64 (mi:Int)):=fK w1 w.heap.size 2 _ _ _ Tm.o;have c3:w1.cell? ⟨w.heap.size,3,none⟩=some (.slice fo l.length gM):=fK w1 w.heap.size 3 _ _ _ Tm.o;clear hb1 afw HX0 HB0;unfold rQ at he;subst he;have hone:((Fd.one hv).2=9∧1<hv.length)∨((Fd.one hv).2=10∧hv.length=0)∨((Fd.one hv).2=0∧hv.length=1):=by
  match hv with
  | []=>exact Or.inr (Or.inl ⟨rfl,rfl⟩)
  | [v]=>exact Or.inr (Or.inr ⟨rfl,rfl⟩)
  | v::u::r=>exact Or.inl ⟨rfl,by simp⟩
 generalize (⟨(Fd.one hv).1.toArray⟩:ay)=hb at *;generalize (Fd.one hv).2=hc at *;go_upto_region 2 with fail
 go_cut [28] (fun tt wd=>tt=.bool (decide (1<hv.length∨hv.length=0∧mi=1))∧wd=w1)
 case first =>
  rcases hone with ⟨rfl,h1⟩ | ⟨rfl,h1⟩ | ⟨rfl,h1⟩
  . have HD:Hid (decide (1<hv.length∨hv.length=0∧mi=1)=true):=aI (Or.inl h1);clear h1;go_wp2;go_meet;exact⟨by rw[HD.o],rfl⟩
  . by_cases hm:mi=1
    . have HD:Hid (decide (1<hv.length∨hv.length=0∧mi=1)=true):=aI (Or.inr ⟨h1,hm⟩);have tm:((mi:Int)==1)=true:=by rw[hm];rfl
      clear h1 hm;go_wp2;go_meet;exact⟨by rw[HD.o],rfl⟩
    . have HD:Hid (decide (1<hv.length∨hv.length=0∧mi=1)=false):=aJ (by rintro (e | e);omega;exact hm e.2);have tm:((mi:Int)==1)=false:=by rw[aS];omega
      clear h1 hm;go_wp2;go_meet;exact⟨by rw[HD.o],rfl⟩
  . have HD:Hid (decide (1<hv.length∨hv.length=0∧mi=1)=false):=aJ (by rintro (e | e) <;> omega);clear h1;go_wp2;go_meet;exact⟨by rw[HD.o],rfl⟩
 case rest =>
  obtain⟨rfl,hw⟩:=hcut;subst hw;clear hone;have sS:Hid (Rq.lenOf mi (Rq.lists hv) (Rq.lists vs) (Rq.lists cs)=if 1<hv.length∨hv.length=0∧mi=1 then .inl 13 else if cs≠[] then (if vs≠[]∨mi=0 then .inl 12 else if cs.length≠1∨Ch.lower ((Rq.lists cs).headD [])≠Rq.pJ then .inl 11 else .inr (-1)) else match Rq.sizes ((Rq.lists vs).headD []) 0 (Rq.lists vs) with
   | .inl c=>.inl c
   | .inr n=>if 4000<n then .inl 4 else .inr n):=by
   unfold Hid Rq.lenOf Rq.lists;simp only[aF,ne_eq,List.map_eq_nil_iff];rfl
  by_cases mE:1<hv.length∨hv.length=0∧mi=1
  . have hd:decide (1<hv.length∨hv.length=0∧mi=1)=true:=aI mE;have HR:Hid (Rq.lenOf mi (Rq.lists hv) (Rq.lists vs) (Rq.lists cs)=.inl 13):=by have:=sS.o;rw[if_pos mE] at this;exact this
    rw[hd];clear sS hd mE;go_wp2;go_ret2;exact⟨by rw[HR.o];rfl,HB1.o⟩
  . have hd:decide (1<hv.length∨hv.length=0∧mi=1)=false:=aJ mE;have hl2:=sS.o;rw[if_neg mE] at hl2;have HL2:=H9 hl2;rw[hd];clear sS hd mE hl2;go_upto_region 4 with fail
    go_cut [6,7] (fun v6 v7 wd=>∃zU ow jy cap2,v6=.slice zU vs.length ow∧v7=.slice jy cs.length cap2∧Ye w row vs cs zU jy ow cap2 wd)
    case first =>
     have hx0:=Tm.o;rw[nX.o] at hx0;have hxd:wc.drew.heap[w.heap.size]? = some row:=hx0;have hbd:aj w wc.drew:=HB1.o.trans (gQ _ _);have hcell:∀W:World,W.heap[w.heap.size]? = some row->W.cell? ⟨w.heap.size,3,none⟩=some (.slice fo l.length gM):=fun W hW=>by
      rw[<-nX.o] at hW;exact fK W w.heap.size 3 _ _ _ hW
     have HC:=H9 hcell;clear hcell hx0;go_region_held3 (fun w'=>w'.cell? ⟨w.heap.size,3,none⟩=some (.slice fo l.length gM)) (go_keep) (first
      | (go_at_call 69;refine(HV.o _ _ (by assumption) (by decide)).mono ?_;rintro e w2 ⟨zU,ow,rfl,hIs,hbs⟩;have hxs:=Br (by assumption) hbs;have hBs:=then_ (w:=w) (by assumption) hbs;have e3:=HC.o w2 hxs))
     rename_i w2' ao0 cap0 hI0 hb0 hx0 hB0 e0 z0;go_wp2;go_meet;refine⟨ao0,cap0,zU,ow,by rw[<-HEs.o];rfl,by rw[<-HEc.o];rfl,⟨?_,?_,hxs,hBs⟩⟩
     . rw[<-HEs.o];exact hI0.stay hbs
     . rw[<-HEc.o];exact hIs
    case rest =>
     obtain⟨zU,ow,jy,cap2,rfl,rfl,hL⟩:=hcut;have HL:=H9 hL;clear hL c2 c3 Tm HB1 HV HEs HEc;have c2:wc.cell? ⟨w.heap.size,2,none⟩=some (.int .i64 (mi:Int)):=by
      have:=HL.o.box;rw[<-nX.o] at this;exact fK _ w.heap.size 2 _ _ _ this
     by_cases hc0:cs=[]
     . have hl3:=HL2.o;rw[if_neg (fun e=>e hc0)] at hl3;generalize hnc:cs.length=nc;have hcz:¬0<nc:=by rw[<-hnc,hc0];simp
       have tc:decide ((nc:Int) > 0)=false:=aJ (by omega);have HL3:=H9 hl3;clear hl3 HL2 hc0 hnc;go_wp2;go_loopw [8,9] (fun vn vi wr=>∃(i:Nat) (n:Int),i<=vs.length∧vi=.int .i64 i∧vn=.int .i64 n∧0<=n∧n<68719476736∧Rq.sizes ((Rq.lists vs).headD []) 0 (Rq.lists vs)=Rq.sizes ((Rq.lists vs).headD []) n ((Rq.lists vs).drop i)∧Ye w row vs cs zU jy ow cap2 wr) (fun _ vi _=>vs.length-(intOf vi).toNat)
       case atStart=>exact⟨0,0,aA _,rfl,rfl,aB _,by decide,rfl,HL.o⟩
       case round =>
        clear HL c2;obtain⟨i,n,hi,rfl,rfl,hn0,hn1,hsz,hR⟩:=hrel;have HR:=H9 hR;have HZ:=H9 hsz
        clear hR hsz;by_cases hlt:i<vs.length
        . obtain⟨bb,oo,rfl,_⟩:=HR.o.one.lit (by rw[sI];omega);have hlt':(i:Int)<vs.length:=by omega
          have hcv:=HR.o.one.1;have c0:∀W,aj wr W->W.cell? ⟨bb,oo,none⟩=some (.string vs[0])∧W.cell? ⟨bb,oo+i,none⟩=some (.string vs[i]):=fun W hW=>by
           have h0:=(HR.o.one.stay hW).cell (zo vs 0 (by omega));have hi:=(HR.o.one.stay hW).cell (zo vs i hlt);rw[gI] at h0 hi;exact⟨by simpa using h0,hi⟩
          have HC:=H9 c0;have ci:=(c0 wr (fJ _ _)).2;have sH:=H9 (fun W=>Jr vs[i] W (by have:=HZs.o vs[i] (aC hlt);unfold maxLen;omega));have hdr:(Rq.lists vs).drop i=vs[i].data.toList::(Rq.lists vs).drop (i+1):=by
           unfold Rq.lists;rw[aD (by rw[aF];exact hlt),aG]
          have hhd:(Rq.lists vs).headD []=vs[0].data.toList:=by
           unfold Rq.lists;cases vs with
           | nil=>simp at hlt
           | cons v r=>rfl
          have hz:=HZ.o;rw[hdr,Rq.sizes] at hz;rw[hhd] at hz;have hnb:0<=(Ch.number 10 9 vs[i].data.toList).1∧(Ch.number 10 9 vs[i].data.toList).1<68719476736:=by
           unfold Ch.number;split
           . exact⟨aB _,by decide⟩
           . split
             . rename_i h1 h2;have hl9:¬(9:Int)<vs[i].data.toList.length:=fun e=>h1 (Or.inr e);exact Ch.mH 10 (by omega) (by omega) _ h2 (by omega)
             . exact⟨aB _,by decide⟩
          have Pf:=H9 hhd;have HZ2:=H9 hz;clear c0 hdr hz hhd HZ;generalize vs[i]=x at *;generalize vs[0]=y at *;generalize (Ch.number 10 9 x.data.toList).1=n2 at *;generalize (Ch.number 10 9 x.data.toList).2=ok at *;have acT:=hnb.1;have acU:=hnb.2;clear hnb;cases ok
          . have Aq:Hid (Rq.lenOf mi (Rq.lists hv) (Rq.lists vs) (Rq.lists cs)=.inl 7):=by
             have:=HL3.o;rw[Pf.o,HZ2.o,if_pos rfl] at this;exact this
            go_wp2_with fail
            refine(sH.o _).mono ?_;rintro e w2 ⟨rfl,hb2⟩;have HB2:=H9 (then_ HR.o.below hb2);clear hb2;go_wp2;(try simp only[Exit.inBlock,Exit.then]);go_ret2;exact⟨by rw[Aq.o];rfl,HB2.o⟩
          . by_cases hxy:x.data.toList=y.data.toList
            . have txy:(x.toList==y.toList)=true:=by rw[Lib.toList_data,Lib.toList_data,hxy];exact fD _
              have HZ3:Hid (Rq.sizes y.data.toList 0 (Rq.lists vs)=Rq.sizes y.data.toList n2 ((Rq.lists vs).drop (i+1))):=by
               have:=HZ2.o;rw[if_neg (by simp),if_neg (fun e=>e hxy)] at this;exact this
              clear HZ2 hxy;go_wp2_with fail
              refine(sH.o _).mono ?_;rintro e w2 ⟨rfl,hb2⟩;have HB2:=H9 hb2;obtain⟨d0,d1⟩:=HC.o _ hb2;clear hb2 ci;go_wp2;go_quiet (fail)
              go_wp2;go_roundw
              case rel=>exact⟨i+1,n2,by omega,by go_num,rfl,acT,acU,by rw[Pf.o];exact HZ3.o,(HR.o.stay HB2.o).stay (iU ⟨_,rfl⟩)⟩
              case measure=>simp[intOf];omega
            . have txy:(x.toList==y.toList)=false:=by rw[aS,Lib.toList_data,Lib.toList_data];exact hxy
              have Aq:Hid (Rq.lenOf mi (Rq.lists hv) (Rq.lists vs) (Rq.lists cs)=.inl 12):=by
               have:=HL3.o;rw[Pf.o,HZ2.o,if_neg (by simp),if_pos hxy] at this;exact this
              clear HZ2 hxy;go_wp2_with fail
              refine(sH.o _).mono ?_;rintro e w2 ⟨rfl,hb2⟩;have HB2:=H9 (then_ HR.o.below hb2);obtain⟨d0,d1⟩:=HC.o _ hb2;clear hb2 ci;go_wp2;go_quiet (fail)
              go_wp2;(try simp only[Exit.inBlock,Exit.then]);go_ret2;exact⟨by rw[Aq.o];rfl,then_ HB2.o (iU ⟨_,rfl⟩)⟩
        . obtain rfl:i=vs.length:=by omega
          have hz:=HZ.o;rw[aK (by unfold Rq.lists;rw[aF];exact aM _),Rq.sizes] at hz;have hl4:=HL3.o;rw[hz] at hl4;simp only at hl4;have HL4:=H9 hl4;clear hz hl4 HL3 HZ;by_cases h4:4000<n
          . have t4:decide (n > 4000)=true:=aI h4;have Aq:Hid (Rq.lenOf mi (Rq.lists hv) (Rq.lists vs) (Rq.lists cs)=.inl 4):=by have:=HL4.o;rw[if_pos h4] at this;exact this
            clear HL4 h4;go_wp2;(try simp only[Exit.inBlock,Exit.then]);go_ret2;exact⟨by rw[Aq.o];rfl,HR.o.below⟩
          . have t4:decide (n > 4000)=false:=aJ h4;have Aq:Hid (Rq.lenOf mi (Rq.lists hv) (Rq.lists vs) (Rq.lists cs)=.inr n):=by have:=HL4.o;rw[if_neg h4] at this;exact this
            clear HL4 h4;go_wp2;(try simp only[Exit.inBlock,Exit.then]);go_ret2;exact⟨by rw[Aq.o];rfl,HR.o.below⟩
     . have hcp:0<cs.length:=fE.2 hc0;have tc:decide ((cs.length:Int) > 0)=true:=aI (by omega);have hl3:=HL2.o;rw[if_pos hc0] at hl3;clear HL2 hc0;by_cases hv0:vs=[]
       . subst hv0;by_cases hm0:mi=0
         . have tm:((mi:Int)==0)=true:=by rw[hm0];rfl
           rw[if_pos (Or.inr hm0)] at hl3;have Aq:=H9 hl3;clear hl3 hm0;go_wp2;go_ret2;exact⟨by rw[Aq.o];rfl,HL.o.below⟩
         . have tm:((mi:Int)==0)=false:=by rw[aS];omega
           rw[if_neg (by rintro (e | e);exact e rfl;exact hm0 e)] at hl3;clear hm0;by_cases h1:cs.length=1
           . obtain⟨c,rfl⟩:∃c,cs=[c]:=by
              match cs,h1 with
              | [c],_=>exact⟨c,rfl⟩
             obtain⟨bb,oo,rfl,hcs⟩:=HL.o.two.lit (by simp[oI]);have ci:wc.cell? ⟨bb,oo,none⟩=some (.string c):=hcs 0 _ rfl;have hcp2:=HL.o.two.1;have EX:=H9 (xK c wc (HZc.o c (bC.2 rfl)));have hlo:(⟨(Ch.lower c.data.toList).toArray⟩:ay).toList=Ch.lower c.data.toList:=by rw[Lib.toList_data]
             generalize hsm:(⟨(Ch.lower c.data.toList).toArray⟩:ay)=sm at *;clear hcs hsm;by_cases hch:Ch.lower c.data.toList=Rq.pJ
             . have tch:(sm.toList==[99,104,117,110,107,101,100])=true:=by rw[hlo,hch];rfl
               rw[if_neg (by rintro (e | e);exact e rfl;exact e hch)] at hl3;have Aq:=H9 hl3;clear hl3 hlo hch;go_wp2_with fail
               refine EX.o.mono ?_;rintro e w2 ⟨rfl,n2,hw⟩;subst hw;go_wp2;go_ret2;exact⟨by rw[Aq.o];rfl,then_ HL.o.below (iU ⟨_,rfl⟩)⟩
             . have tch:(sm.toList==[99,104,117,110,107,101,100])=false:=by rw[aS,hlo];exact hch
               rw[if_pos (Or.inr (show Ch.lower ((Rq.lists [c]).headD [])≠Rq.pJ from hch))] at hl3;have Aq:=H9 hl3;clear hl3 hlo hch;go_wp2_with fail
               refine EX.o.mono ?_;rintro e w2 ⟨rfl,n2,hw⟩;subst hw;go_wp2;go_ret2;exact⟨by rw[Aq.o];rfl,then_ HL.o.below (iU ⟨_,rfl⟩)⟩
           . have t1:((cs.length:Int) != 1)=true:=by rw[cZ];omega
             rw[if_pos (Or.inl h1)] at hl3;have Aq:=H9 hl3;clear hl3 h1;go_wp2;go_ret2;exact⟨by rw[Aq.o];rfl,HL.o.below⟩
       . have hvp:0<vs.length:=fE.2 hv0;have tv:decide ((vs.length:Int) > 0)=true:=aI (by omega);rw[if_pos (Or.inl hv0)] at hl3;have Aq:=H9 hl3;clear hl3 hv0;go_wp2;go_ret2;exact⟨by rw[Aq.o];rfl,HL.o.below⟩
end Go.Proofs.YtjmndjmhjleabaaGreatDoor