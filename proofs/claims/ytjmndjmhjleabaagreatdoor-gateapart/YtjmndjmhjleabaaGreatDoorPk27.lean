/- Small texts, one behind the other: JrC, FsC, FsD, LwPiec. -/
import Derived.Test.YtjmndjmhjleabaaGreatDoorAl
import Derived.Test.YtjmndjmhjleabaaGreatDoorAm
import Derived.Test.YtjmndjmhjleabaaGreatDoorPk9
import Derived.Test.YtjmndjmhjleabaaGreatDoorBase
import Derived.Test.YtjmndjmhjleabaaGreatDoorPk1
import Derived.Test.YtjmndjmhjleabaaGreatDoorProg
import Derived.Deep.DeepCutAuto
import Derived.Test.YtjmndjmhjleabaaGreatDoorPk24
import Derived.Test.YtjmndjmhjleabaaGreatDoorPk16
import Derived.Test.YtjmndjmhjleabaaGreatDoorPk5
import Derived.Test.YtjmndjmhjleabaaGreatDoorPk10
set_option maxHeartbeats 4000000
set_option maxRecDepth 100000
open Go.Proofs.Tryz
namespace Go.Proofs.YtjmndjmhjleabaaGreatDoor
open Go.RowKit
structure Ce (w:World)(g cap:Nat)(x:av)(k:Nat)(wr:World):Prop where
 buf:Buf wr g g cap (Fm.nP k x)
 below:Below g w wr
theorem Ce.store {w wr:World}{g cap k:Nat}{x:av}(h:Ce w g cap x k wr)(hk:k<x.length)(hd:Fm.dirty x[k]=true):Ce w g cap x (k+1) (wr.setCell ⟨g,k,none⟩ (.int .u8 95)):=by
 obtain⟨h1,h2⟩:=h.buf.set k 95;have hw:Fm.zD x[k]=95:=by unfold Fm.zD;rw[hd];rfl
 refine⟨by rw[Fm.LH hk,hw];exact h1,h.below.trans (h2.below (fun i e=>by omega) (Nat.le_of_lt h.buf.lt))⟩
theorem Ce.skip {w wr:World}{g cap k:Nat}{x:av}(h:Ce w g cap x k wr)(hk:k<x.length)(hd:Fm.dirty x[k]=false):Ce w g cap x (k+1) wr:=⟨by rw[Fm.LJ hk hd];exact h.buf,h.below⟩
theorem LK (s:ay)(w:World)(hs:s.size<=1000000):
 Calls prog 310 #[.string s] w fun e w'=>e=.returned (.string ⟨(Fm.safe s.data.toList).toArray⟩)∧aj w w':=by
 have hl:=Ch.iD s;have H1:=H9 (Ir s 47 w (by unfold maxLen;omega));have H2:=H9 (Ir s 92 w (by unfold maxLen;omega));go_enter func310,ntmps310;go_upto_region 1 with fail
 go_cut [3] (fun v wd=>∃p:Nat,v=.int .i64 ((p:Int)-1)∧p<=s.size∧s.data.toList.drop p=Fm.tail s.data.toList∧wd=w)
 case first =>
  go_wp2_with fail
  refine H1.o.mono ?_;rintro e w1 ⟨r1,rfl,hr1,hw⟩;subst hw;have HR1:=H9 hr1;clear hr1 H1;go_wp2_with fail
  refine H2.o.mono ?_;rintro e w2 ⟨r2,rfl,hr2,hw⟩;subst hw;obtain⟨q1,q2,q3⟩:=SI HR1.o hr2;rw[hl] at q2;have HQ3:=H9 q3;clear hr2 H2 HR1 q3;by_cases hlt:r1<r2
  . have e:max r1 r2=r2:=by omega
    rw[e] at HQ3 q1 q2;go_wp2;go_meet;exact⟨(r2+1).toNat,by rw[show(((r2+1).toNat:Nat):Int)-1=r2 by omega],by omega,HQ3.o,rfl⟩
  . have e:max r1 r2=r1:=by omega
    rw[e] at HQ3 q1 q2;go_wp2;go_meet;exact⟨(r1+1).toNat,by rw[show(((r1+1).toNat:Nat):Int)-1=r1 by omega],by omega,HQ3.o,rfl⟩
 case rest =>
 clear H1 H2;obtain⟨p,rfl,hps,q3,hw⟩:=hcut;subst hw;have amW:(p:Int)<=s.size:=by omega
 have hx:(s.extract p s.size).data.toList=Fm.tail s.data.toList:=by
  rw[<-q3,Lib.extract_to_end]
 have hxs:(s.extract p s.size).size=(Fm.tail s.data.toList).length:=Ch.size_of_list hx;have htl:(Fm.tail s.data.toList).length<=s.size:=by rw[<-q3,bV,hl];omega
 obtain⟨cap,w3,qx,hB3,hBf⟩:=NS (P:=prog) wc (s.extract p s.size) 9 31 5 (by rw[hxs];unfold maxLen;omega) underlying9 underlying31 underlying5;rw[hx] at hBf;rw[hxs] at qx;have HSf:Hid (Fm.safe s.data.toList=Fm.named ((Fm.Hg ((Fm.tail s.data.toList).map Fm.zD)).take 40)):=rfl;have aer:Hid (Ce wc wc.heap.size cap (Fm.tail s.data.toList) 0 w3):=⟨by rw[Fm.LG];exact hBf,hB3⟩;clear hBf hB3 hx hxs q3;obtain⟨sf,hsf⟩:∃sf,Fm.safe s.data.toList=sf:=⟨_,rfl⟩;rw[hsf] at HSf;have HSF:=H9 hsf;clear hsf;generalize Fm.tail s.data.toList=x at *;obtain⟨n,hn⟩:∃n,x.length=n:=⟨_,rfl⟩;have HN:=H9 hn;rw[hn] at qx htl;clear hn;have hn6:n<=1000000:=by omega
 clear htl;go_wp2;clear qx;go_loopw [19] (fun vi wr=>∃k:Nat,k<=n∧vi=.int .i64 k∧Ce wc wc.heap.size cap x k wr) (fun vi _=>n-(intOf vi).toNat)
 case atStart=>exact⟨0,aA _,rfl,aer.o⟩
 case round =>
  clear aer;obtain⟨k,hk,rfl,hR⟩:=hrel;have HR:=H9 hR;clear hR;by_cases hlt:k<n
  . have hkx:k<x.length:=by rw[HN.o];exact hlt
    have hlt':(k:Int)<n:=by omega
    have hcap:n<=cap:=by have:=HR.o.buf.le;rw[Fm.tJ,HN.o] at this;exact this
    have ck:wr.cell? ⟨wc.heap.size,k,none⟩=some (.int .u8 (x[k].toNat:Int)):=by
     have h1:k<(Fm.nP k x).length:=by rw[Fm.tJ];exact hkx
     have:=HR.o.buf.holds k _ (lS _ k h1);rw[Fm.SH hkx] at this;exact this
    have fk:wr.frozen? ⟨wc.heap.size,k,none⟩=false:=(HR.o.buf.there k (by omega)).2;have F5:=H9 (HR.o.store hkx);have HS2:=H9 (HR.o.skip hkx);have HV:=H9 (fun W=>sM (x[k].toNat:Int) W);have T:∀d:UInt8,((x[k].toNat:Int)==(d.toNat:Int))=decide (x[k]=d):=fun d=>by
     rw[aH,aT,bR];constructor
     . intro e;exact dR.1 (by omega)
     . intro e;rw[e]
    have t9:((x[k].toNat:Int)==9)=decide (x[k]=9):=T 9;have t34:((x[k].toNat:Int)==34)=decide (x[k]=34):=T 34;have t58:((x[k].toNat:Int)==58)=decide (x[k]=58):=T 58;have HD:Hid (Fm.dirty x[k]=(decide (x[k]=9)||decide (x[k]=34)||decide (x[k]=58)||!Ch.visible x[k].toNat)):=by unfold Hid Fm.dirty;rfl
    clear T;generalize x[k]=c at *;by_cases h9:c=9
    . have hd:Fm.dirty c=true:=by rw[HD.o,aI h9];rfl
      rw[aI h9] at t9;have HS:=H9 (F5.o hd);clear h9 hd F5 HS2 HD t34 t58;go_wp2;go_roundw
      case rel=>exact⟨k+1,by omega,by go_num,HS.o⟩
      case measure=>simp[intOf];omega
    . rw[aJ h9] at t9;by_cases FR:c=34
      . have hd:Fm.dirty c=true:=by rw[HD.o,aI FR];simp
        rw[aI FR] at t34;have HS:=H9 (F5.o hd);clear h9 FR hd F5 HS2 HD t58;go_wp2;go_roundw
        case rel=>exact⟨k+1,by omega,by go_num,HS.o⟩
        case measure=>simp[intOf];omega
      . rw[aJ FR] at t34;by_cases h58:c=58
        . have hd:Fm.dirty c=true:=by rw[HD.o,aI h58];simp
          rw[aI h58] at t58;have HS:=H9 (F5.o hd);clear h9 FR h58 hd F5 HS2 HD;go_wp2;go_roundw
          case rel=>exact⟨k+1,by omega,by go_num,HS.o⟩
          case measure=>simp[intOf];omega
        . rw[aJ h58] at t58;rw[aJ h9,aJ FR,aJ h58] at HD;cases hv:Ch.visible (c.toNat:Int)
          . have hd:Fm.dirty c=true:=by rw[HD.o,hv];rfl
            rw[hv] at HV;have HS:=H9 (F5.o hd);clear h9 FR h58 hd F5 HS2 HD hv;go_wp2_with (go_at_call 184;refine(HV.o _).mono ?_;rintro e w4 ⟨rfl,hw⟩;subst hw)
            go_roundw
            case rel=>exact⟨k+1,by omega,by go_num,HS.o⟩
            case measure=>simp[intOf];omega
          . have hd:Fm.dirty c=false:=by rw[HD.o,hv];rfl
            rw[hv] at HV;have HS:=H9 (HS2.o hd);clear h9 FR h58 hd F5 HS2 HD hv;go_wp2_with (go_at_call 184;refine(HV.o _).mono ?_;rintro e w4 ⟨rfl,hw⟩;subst hw)
            go_roundw
            case rel=>exact⟨k+1,by omega,by go_num,HS.o⟩
            case measure=>simp[intOf];omega
  . obtain rfl:k=n:=by omega
    have hIs:iH wr (some ⟨wc.heap.size,0,none⟩) cap (x.map Fm.zD):=by
     have:=HR.o.buf.xg;rw[<-HN.o,Fm.Oy] at this;exact this
    have HU:=H9 (Ow wr _ cap k _ hIs (by rw[aF];exact HN.o));clear hIs;have aes:Hid (sf=Fm.named ((Fm.Hg (x.map Fm.zD)).take 40)):=HSf.o;have UN:=H9 HR.o.below;clear HR HSf;go_wp2_with fail
    refine HU.o.mono ?_;rintro e w4 ⟨gW,cap',n',rfl,hn',hI',hw⟩;subst hw;have aeu:n'=(Fm.Hg (x.map Fm.zD)).length:=hn';have aev:iH w4 gW cap' (Fm.Hg (x.map Fm.zD)):=hI';have Zz:=H9 aeu;have HI':=H9 aev
    clear hn' hI' aeu aev HU;generalize Fm.Hg (x.map Fm.zD)=u at *;have V7:n'<=cap':=by rw[Zz.o];exact HI'.o.1
    have hfin:∀j,j=min n' 40->0<j->(convert 31 9 (.slice gW j cap')).run prog w4=.ok (.string ⟨sf.toArray⟩) w4:=fun j hj h0=>by
     have h1:=HI'.o.first j (by rw[<-Zz.o];omega);have h2:=h1.str (P:=prog) 31 9 5 underlying31 underlying5 underlying9;have h3:(u.take j).length=j:=by rw[bY,<-Zz.o];omega
     rw[h3] at h2;have h4:sf=u.take j:=by
      rw[aes.o,hj];have:u.take 40=u.take (min n' 40):=by
       rcases Nat.le_total n' 40 with e | e
       . rw[dV e,dO (by rw[<-Zz.o];exact e),dO (by rw[<-Zz.o];omega)]
       . rw[Nat.min_eq_right e]
      rw[this];unfold Fm.named;rw[if_neg];intro e;rw[hj] at h3;rw[e] at h3;simp at h3;omega
     rw[h4];exact h2
    have HFin:=H9 hfin;clear hfin;by_cases h0:n'=0
    . subst h0;have HF:Hid (sf=[102,105,108,101]):=by
       unfold Hid;have hu:u=[]:=dw Zz.o.symm;rw[aes.o,hu];rfl
      clear HFin;go_wp2;go_ret;exact⟨by rw[HSF.o,HF.o];rfl,UN.o⟩
    . by_cases Yp:n'<=40
      . have hcv:=HFin.o n' (by omega) (by omega);have t0:((n':Int)==0)=false:=by rw[aS];omega
        have h4a:(n':Int)<=40:=by omega
        clear HFin;obtain⟨sfb,hsb⟩:∃sfb:ay,(⟨sf.toArray⟩:ay)=sfb:=⟨_,rfl⟩;rw[hsb] at hcv;have ZA:=H9 hsb;clear hsb;go_wp2;go_ret;exact⟨by rw[HSF.o,ZA.o];rfl,UN.o⟩
      . have hcv:=HFin.o 40 (by omega) (by omega);have h4a:¬(n':Int)<=40:=by omega
        have h4b:(40:Int)<n':=by omega
        have h4c:(40:Int)<=cap':=by omega
        clear HFin;obtain⟨sfb,hsb⟩:∃sfb:ay,(⟨sf.toArray⟩:ay)=sfb:=⟨_,rfl⟩;rw[hsb] at hcv;have ZA:=H9 hsb;clear hsb;go_wp2;go_ret;exact⟨by rw[HSF.o,ZA.o];rfl,UN.o⟩
theorem ab0 (s:ay)(k:Nat):(s.extract 0 k).data.toList=s.data.toList.take k:=by
 rw[Lib.extract_data];simp
theorem ahY (s:ay)(i:Nat)(h:i+2<s.size):(s.extract (i+1) (i+3)).data.toList=[s[i+1]'(by omega),s[i+2]'(by omega)]∧s.data.toList.drop i=s[i]'(by omega)::s[i+1]'(by omega)::s[i+2]'(by omega)::s.data.toList.drop (i+3):=by
 have hl:=Ch.iD s;have d:∀k (hk:k<s.size),s.data.toList.drop k=s[k]::s.data.toList.drop (k+1):=fun k hk=>by
  rw[aD (by rw[hl];exact hk),byte_at s k hk]
 refine⟨?_,by rw[d i (by omega),d (i+1) (by omega),d (i+2) (by omega)]⟩;rw[Lib.extract_data,show i+3-(i+1)=2 by omega,d (i+1) (by omega),d (i+2) (by omega)];rfl
def Fm.wP (o:Option (av)):Value:=.tuple #[.string ⟨(o.getD []).toArray⟩,.bool o.isSome]
structure LQ (w:World)(l:av)(i:Nat)(ao:ak)(cap n:Nat)(wr:World):Prop where
 own:∃bs,iF wr w.heap.size 5 ao cap bs∧n=bs.length∧n<=i∧Fm.dec (l.drop 7)=Fm.decs bs (l.drop i)
 below:aj w wr
theorem LQ.more {w wr w3:World}{l bs:av}{c:UInt8}{ao jQ:ak}{cap gX n i:Nat}{ob:Obj}(hB:aj w wr)(hO:iF wr w.heap.size 5 ao cap bs)(hO3:iF w3 w.heap.size 5 jQ gX (bs++[c]))(hG3:(wr.alloc ob).grownBy w3 (gL ao))(hn:n=bs.length)(hi:n+1<=i)(hd:Fm.dec (l.drop 7)=Fm.decs (bs++[c]) (l.drop i)):LQ w l i jQ gX (n+1) w3:=by
 refine⟨⟨bs++[c],hO3,by rw[aW,hn];rfl,hi,hd⟩,(hB.alloc hB.size ob).grown hG3 (by rw[fZ];have:=hB.size;omega) (fun k e=>?_)⟩;cases ao with
 | none=>simp[gL] at e
 | some a=>simp[gL] at e;have:=(hO.block a rfl).1;omega
theorem OC (s:ay)(w:World)(hs:s.size<=1000000):
 Calls prog 309 #[.string s] w fun e w'=>e=.returned (Fm.wP (Fm.coded s.data.toList))∧aj w w':=by
 have hl:=Ch.iD s;by_cases h7:s.size<7
 . have HC:Hid (Fm.coded s.data.toList=none):=by unfold Hid Fm.coded;rw[if_pos (Or.inl (by rw[hl];exact h7))]
   have t7:decide ((s.size:Int)<7)=true:=aI (by omega);go_enter func309,ntmps309;go_wp2;go_ret2;exact⟨by rw[HC.o];rfl,fJ _ _⟩
 . have t7:decide ((s.size:Int)<7)=false:=aJ (by omega);have h7':(7:Int)<=s.size:=by omega
   have hx:(s.extract 0 7).data.toList=s.data.toList.take 7:=ab0 s 7;have hxs:(s.extract 0 7).size=7:=by rw[Ch.size_of_list hx,bY,hl];omega
   have HL:=H9 (oN (s.extract 0 7) w (by rw[hxs];unfold maxLen;omega));rw[hx] at HL;by_cases hu:Ch.lower (s.data.toList.take 7)=Fm.ad4
   . have HC:Hid (Fm.coded s.data.toList=Fm.dec (s.data.toList.drop 7)):=by unfold Hid Fm.coded;rw[if_neg (fun e=>by rcases e with e | e;rw[hl] at e;exact h7 e;exact e hu)]
     have tu:((⟨(Ch.lower (s.data.toList.take 7)).toArray⟩:ay).toList==[117,116,102,45,56,39,39])=true:=by
      rw[aT,Lib.toList_data];exact hu
     generalize (⟨(Ch.lower (s.data.toList.take 7)).toArray⟩:ay)=lo at *;clear hu hx hxs;go_enter func309,ntmps309;obtain⟨i0,hi0,hz0,hz1,hz2⟩:=info_parts jO;have Hi:=H9 hi0;have kK:=H9 hz0;have kH:=H9 hz1;have kL:=H9 hz2
     clear hi0 hz0 hz1 hz2;go_wp2_with (go_at_call 203;refine HL.o.mono ?_;rintro e w1 ⟨rfl,hb1⟩)
     have HB1:=H9 hb1;clear hb1 HL;go_loopw [4,5] (fun vb vi wr=>∃(i n:Nat) (ao:ak) (cap:Nat),7<=i∧i<=s.size∧vi=.int .i64 i∧vb=.slice ao n cap∧LQ w s.data.toList i ao cap n wr) (fun _ vi _=>s.size-(intOf vi).toNat)
     case atStart=>exact⟨7,0,none,0,aM _,by omega,rfl,rfl,⟨⟨[],iF.nil _ _ _,rfl,by omega,(Fm.OA _).symm⟩,HB1.o⟩⟩
     case round =>
      clear HB1;obtain⟨i,n,ao,cap,hi7,his,rfl,rfl,hR⟩:=hrel;obtain⟨⟨bs,hO,hn,hni,hd⟩,hB⟩:=hR;have HO:=H9 hO;have HN:=H9 hn;have HD:=H9 hd;have HB:=H9 hB
      clear hO hn hd hB;by_cases hlt:i<s.size
      . have hlt':(i:Int)<s.size:=by omega
        have hdr:s.data.toList.drop i=s[i]::s.data.toList.drop (i+1):=by rw[aD (by rw[hl];exact hlt),byte_at s i hlt]
        by_cases h37:s[i]=37
        . have t37:((s[i].toNat:Int) != 37)=false:=by rw[h37];rfl
          by_cases hsh:s.size-i<3
          . have tsh:decide ((s.size:Int)-i<3)=true:=aI (by omega);have HR:Hid (Fm.coded s.data.toList=none):=by
             unfold Hid;rw[HC.o,HD.o,hdr,h37,Fm.Oz (by rw[bV,hl];omega)]
            clear HD hdr h37;go_wp2;go_ret2;exact⟨by rw[HR.o];rfl,HB.o⟩
          . have tsh:decide ((s.size:Int)-i<3)=false:=aJ (by omega);obtain⟨hx2,hd2⟩:=ahY s i (by omega);have hz2:(s.extract (i+1) (i+3)).size=2:=Ch.size_of_list hx2;have HNm:=H9 (fun W=>zJ (s.extract (i+1) (i+3)) W (by rw[hz2];unfold maxLen;omega));rw[hx2,Fm.OB] at HNm;rw[h37] at hd2;rw[hd2] at HD;have i1:(i:Int)+1<=(i:Int)+3:=by omega
            have i3:(i:Int)+3<=s.size:=by omega
            have e1:((i:Int)+1).toNat=i+1:=by omega
            have e3:((i:Int)+3).toNat=i+3:=by omega
            generalize s[i+1]=a at *;generalize s[i+2]=b at *;clear hx2 hd2 hdr hz2;by_cases hab:0<=Ch.hex a.toNat∧0<=Ch.hex b.toNat
            . obtain⟨hbt,hle⟩:=Fm.WK hab.1 hab.2;rw[Fm.WI hab.1 hab.2] at HD;rw[if_pos hab] at HNm;have hge:0<=16*Ch.hex a.toNat+Ch.hex b.toNat:=by omega
              generalize 16*Ch.hex (a.toNat:Int)+Ch.hex (b.toNat:Int)=v at *;generalize v.toNat.toUInt8=cb at *;subst hbt;have hwr:IntKind.u8.wrap (cb.toNat:Int)=cb.toNat:=by
               rw[IntKind.wrap_u8];have:=cb.toNat_lt;omega
              have hnc:n+1<=140737488355328:=by omega
              clear hab;go_wp2_with (first
               | (go_at_call 311;refine(HNm.o _).mono ?_;rintro e w2 ⟨rfl,hw⟩;subst hw)
               | (at_builtin;refine iY rfl (.tmp 50) (.tmp 53) 31 rfl w.heap.size 5 i0 underlying31 Hi.o kK.o kH.o kL.o (l:=bs) (l2:=[cb]) rfl HN.o.symm (HO.o.alloc _) rfl rfl (iH.one _ _ _ _) (by omega) (by rw[fZ];have:=HB.o.size;omega) ?_;intro jQ gX w3 hO3 hG3;have oD:=H9 hO3;have sG:=H9 hG3;clear hO3 hG3))
              go_roundw
              case rel=>exact⟨i+3,n+1,jQ,gX,by omega,by omega,by go_num,rfl,LQ.more HB.o HO.o oD.o sG.o HN.o (by omega) HD.o⟩
              case measure=>simp[intOf];omega
            . have HR:Hid (Fm.coded s.data.toList=none):=by
               unfold Hid;rw[HC.o,HD.o,Fm.WJ hab]
              rw[if_neg hab] at HNm;clear hab HD;go_wp2_with (go_at_call 311;refine(HNm.o _).mono ?_;rintro e w2 ⟨rfl,hw⟩;subst hw)
              go_ret2;exact⟨by rw[HR.o];rfl,HB.o⟩
        . have t37:((s[i].toNat:Int) != 37)=true:=by rw[cZ];intro e;exact h37 (dR.1 (by show _=37;omega))
          rw[hdr,Fm.SK h37] at HD;go_wp2_with (at_builtin;refine iY rfl (.tmp 27) (.tmp 31) 31 rfl w.heap.size 5 i0 underlying31 Hi.o kK.o kH.o kL.o (l:=bs) (l2:=[s[i]]) rfl HN.o.symm (HO.o.alloc _) rfl rfl (iH.one _ _ _ _) (by omega) (by rw[fZ];have:=HB.o.size;omega) ?_;intro jQ gX w3 hO3 hG3;have oD:=H9 hO3;have sG:=H9 hG3;clear hO3 hG3)
          go_roundw
          case rel=>exact⟨i+1,n+1,jQ,gX,by omega,by omega,by go_num,rfl,LQ.more HB.o HO.o oD.o sG.o HN.o (by omega) HD.o⟩
          case measure=>simp[intOf];omega
      . obtain rfl:i=s.size:=by omega
        have hcv:=HO.o.xg.str (P:=prog) 31 9 5 underlying31 underlying5 underlying9;rw[<-HN.o] at hcv;have HR:Hid (Fm.coded s.data.toList=some bs):=by
         unfold Hid;rw[HC.o,HD.o,aK (by rw[hl];exact aM _),Fm.WH]
        go_wp2;go_ret2;exact⟨by rw[HR.o];rfl,HB.o⟩
   . have HC:Hid (Fm.coded s.data.toList=none):=by unfold Hid Fm.coded;rw[if_pos (Or.inr hu)]
     have tu:((⟨(Ch.lower (s.data.toList.take 7)).toArray⟩:ay).toList==[117,116,102,45,56,39,39])=false:=by
      rw[aS,Lib.toList_data];exact hu
     generalize (⟨(Ch.lower (s.data.toList.take 7)).toArray⟩:ay)=lo at *;clear hu hx hxs;go_enter func309,ntmps309;go_wp2_with (go_at_call 203;refine HL.o.mono ?_;rintro e w1 ⟨rfl,hb1⟩)
     go_ret2;exact⟨by rw[HC.o];rfl,hb1⟩
structure Pc where
 ao:ak
 cap:Nat
 l:av
def Pc.v (p:Pc):Value:=.slice p.ao p.l.length p.cap
def pcV (ps:List Pc):List Value:=ps.map Pc.v
structure ac4 (w:World)(bo:ak)(p:Pc):Prop where
 is:iH w p.ao p.cap p.l
 blk:p.l≠[]->∀a,p.ao=some a->∃a0,bo=some a0∧a.block=a0.block
structure yH (w:World)(bo:ak)(l:av)(fr:Nat)(ao:ak)(cap:Nat)(ps:List Pc)(wr:World):Prop where
 own:gV wr w.heap.size 31 1 ao cap ps.length (pcV ps)
 all:∀p∈ps,ac4 w bo p
 flat:(ps.map Pc.l).flatten=l.take fr
 below:aj w wr
theorem FD (ps:List Pc):(pcV ps).length=ps.length:=by simp[pcV]
theorem X6 (c:Int)(n fr:Nat)(h:fr<=n):0<=(IntKind.u64.wrap c).tmod ((n:Int)-fr+1)∧(IntKind.u64.wrap c).tmod ((n:Int)-fr+1)<=(n:Int)-fr:=by
 have h0:0<=IntKind.u64.wrap c:=by rw[IntKind.wrap_u64];omega
 have h1:=Int.tmod_nonneg ((n:Int)-fr+1) h0;have h2:=Int.tmod_lt_of_pos (IntKind.u64.wrap c) (b:=(n:Int)-fr+1) (by omega);exact⟨h1,by omega⟩
theorem aan:(prog.info? 31).map (fun i=>(i.zero,i.size,i.bytes))=some (some (.slice none 0 0),1,24):=by kernel_rfl
theorem ac5 {w:World}{bo gW:ak}{gK:Nat}{l:av}(h:iH w bo gK l)(fr k:Nat)(h1:fr<=k)(h2:k<=l.length)(e:gK≠fr->gW=bo.map (·.add fr)):ac4 w bo ⟨gW,gK-fr,(l.drop fr).take (k-fr)⟩:=by
 refine⟨h.cut fr k h1 h2 e,fun hne a ha=>?_⟩;have hc:l.length<=gK:=h.1;have hlt:fr<k:=by
  rcases aU fr k with g | g
  . exact g
  . exact absurd (by rw[show k-fr=0 by omega,List.take_zero]) hne
 have ha':gW=some a:=ha;rw[e (by omega)] at ha';cases bo with
 | none=>simp at ha'
 | some a0=>refine⟨a0,rfl,?_⟩;simp at ha';rw[<-ha',add_block]
theorem yH.snoc {w:World}{bo:ak}{l:av}{fr k:Nat}{ao jy:ak}{cap cap2:Nat}{ps:List Pc}{p:Pc}{wr w':World}(h:yH w bo l fr ao cap ps wr)(hp:ac4 w bo p)(hpl:p.l=(l.drop fr).take (k-fr))(h1:fr<=k)(hO:gV w' w.heap.size 31 1 jy cap2 (ps.length+1) (pcV ps++[p.v]))(hB:aj w w'):yH w bo l k jy cap2 (ps++[p]) w':=by
 refine⟨?_,fun q hq=>?_,?_,hB⟩
 . rw[aW];have:pcV (ps++[p])=pcV ps++[p.v]:=by simp[pcV]
   rw[this];exact hO
 . rcases bB.1 hq with hq | hq
   . exact h.all q hq
   . rw[bC.1 hq];exact hp
 . rw[bG,dA,h.flat];show l.take fr++[p.l].flatten=_;rw[hpl];have:[(l.drop fr).take (k-fr)].flatten=(l.drop fr).take (k-fr):=by simp
   rw[this];have e:k=fr+(k-fr):=by omega
   conv=>rhs;rw[e,List.take_add]
theorem yH.push {w:World}{bo:ak}{gK:Nat}{l:av}{fr k:Nat}{ao jy:ak}{cap cap2:Nat}{ps:List Pc}{wr w':World}{ob:Obj}(h:yH w bo l fr ao cap ps wr)(hI:iH w bo gK l)(gW:ak)(m c:Nat)(hm:m=k-fr)(hc:c=gK-fr)(e:gK≠fr->gW=bo.map (·.add fr))(h1:fr<=k)(h2:k<=l.length)(hO:gV w' w.heap.size 31 1 jy cap2 (ps.length+1) (pcV ps++[.slice gW m c]))(hG:(wr.alloc ob).grownBy w' (gL ao)):∃p,yH w bo l k jy cap2 (ps++[p]) w':=by
 subst hm;subst hc;have hs:=h.below.size;refine⟨⟨gW,gK-fr,(l.drop fr).take (k-fr)⟩,h.snoc (ac5 hI fr k h1 h2 e) rfl h1 ?_ ?_⟩
 . have hx:(Value.slice gW (k-fr) (gK-fr))=Pc.v ⟨gW,gK-fr,(l.drop fr).take (k-fr)⟩:=by
    show _=Value.slice _ ((l.drop fr).take (k-fr)).length _;rw[bY,bV];congr 1;omega
   rw[<-hx];exact hO
 . exact(h.below.alloc hs _).grown hG (by simp;omega) (fun q e=>by
    cases ao with
    | none=>simp[gL] at e
    | some y=>simp only[gL,bU] at e;have:=(h.own.block y rfl).1;omega)
theorem FE (w:World)(l:av)(bo co:ak)(gK n PL nc:Nat)(cs:List Int)(hB:iH w bo gK l)(hn:l.length=n)(hl:n<=100000)(hC:jo w co PL nc (cs.map fun c=>Value.int .i64 c))(hnc:cs.length=nc)(hc:nc<=1000):
 Calls prog 21 #[.slice bo n gK,.slice co nc PL] w fun e w'=>∃(ps:List Pc) (ao:ak) (cap:Nat),e=.returned (.slice ao ps.length cap)∧yH w bo l l.length ao cap ps w'∧ps.length=nc+1:=by
 subst hn;subst hnc;have HB:=H9 hB;have HC:=H9 hC
 clear hB hC;obtain⟨i0,hi0,hz0,hz1,hz2⟩:=info_parts aan;have Hi:=H9 hi0;have kK:=H9 hz0;have kH:=H9 hz1;have kL:=H9 hz2
 clear hi0 hz0 hz1 hz2;go_enter func21,ntmps21;go_wp2;go_loopw [5,6,7] (fun vo vf vi wr=>∃(i fr:Nat) (ps:List Pc) (ao:ak) (cap:Nat),i<=cs.length∧fr<=l.length∧vi=.int .i64 i∧vf=.int .i64 fr∧vo=.slice ao ps.length cap∧ps.length=i∧yH w bo l fr ao cap ps wr) (fun _ _ vi _=>cs.length-(intOf vi).toNat)
 case atStart=>exact⟨0,0,[],none,0,aA _,aA _,rfl,rfl,rfl,rfl,⟨gV.nil _ _ _ _,(fun p hp=>by cases hp),rfl,fJ _ _⟩⟩
 case round =>
  obtain⟨i,fr,ps,ao,cap,hi,hfr,rfl,rfl,rfl,hps,hP⟩:=hrel;have HP:=H9 hP;have QO:=H9 hps;have hpl:ps.length<=1000:=by omega
  clear hP hps;by_cases hlt:i<cs.length
  . obtain⟨bb,oo,rfl,hcc⟩:=HC.o.lit (by rw[aF];omega);have hlt':(i:Int)<cs.length:=by omega
    have hcv:=HC.o.1;have ci:wr.cell? ⟨bb,oo+i,none⟩=some (.int .i64 cs[i]):=by
     have:=hcc i (.int .i64 cs[i]) (by rw[dB,dD hlt];rfl);exact(HP.o.below.cell (gq w _ this)).trans this
    clear hcc;generalize cs[i]=c at *;go_upto_region 6 with fail
    go_cut [8] from 9 to 37 (fun vk wd=>∃k:Nat,fr<=k∧k<=l.length∧vk=.int .i64 k∧wd=wr)
    case first =>
     go_wp2;go_meet;obtain⟨h1,h2⟩:=X6 c l.length fr hfr;exact⟨fr+((IntKind.u64.wrap c).tmod ((l.length:Int)-fr+1)).toNat,by omega,by omega,by rw[Ia (x:=(IntKind.u64.wrap c).tmod ((l.length:Int)-fr+1)) (by omega) (by omega),Ia (by omega) (by omega)];congr 1;omega,rfl⟩
    case rest =>
     obtain⟨k,hk1,hk2,rfl,hw⟩:=hcut;subst hw;have hcap:=HB.o.1;have k1:(fr:Int)<=k:=by omega
     have k2:(k:Int)<=gK:=by omega
     clear ci;cases bo with
     | none =>
       obtain⟨hl0,hc0⟩:=HB.o.rz;have hl1:l.length=0:=by rw[hl0];rfl
       have hkf:k=fr:=by omega
       have hcf:gK=fr:=by omega
       clear hl0 hc0 hl1;subst hkf;subst hcf;go_wp2_with (at_builtin;refine gT rfl (.tmp 30) (.tmp 35) 63 rfl w.heap.size 31 i0 (.slice none 0 0) 1 24 underlying63 Hi.o kK.o kH.o kL.o rfl (by decide) rfl (HP.o.own.alloc _) rfl (jo.made _ _ 1 _ _) rfl (fun u hu=>by simp at hu;subst hu;rfl) (by omega) (by omega) (by have:=HP.o.below.size;simp;omega) ?_;intro jQ gX w3 hO3 hG3 _)
       obtain⟨p,hp⟩:=HP.o.push HB.o (k:=gK) _ _ _ (by omega) (by omega) (fun e=>absurd rfl e) (by omega) hk2 hO3 hG3;go_roundw
       case rel=>exact⟨i+1,gK,ps++[p],jQ,gX,by omega,hk2,by go_num,rfl,by rw[aW];rfl,by rw[aW,QO.o];rfl,hp⟩
       case measure=>simp[intOf];omega
     | some a =>
       by_cases hcf:gK=fr
       . have hkf:k=fr:=by omega
         subst hkf;subst hcf;go_wp2_with (at_builtin;refine gT rfl (.tmp 30) (.tmp 35) 63 rfl w.heap.size 31 i0 (.slice none 0 0) 1 24 underlying63 Hi.o kK.o kH.o kL.o rfl (by decide) rfl (HP.o.own.alloc _) rfl (jo.made _ _ 1 _ _) rfl (fun u hu=>by simp at hu;subst hu;rfl) (by omega) (by omega) (by have:=HP.o.below.size;simp;omega) ?_;intro jQ gX w3 hO3 hG3 _)
         obtain⟨p,hp⟩:=HP.o.push HB.o (k:=gK) _ _ _ (by omega) (by omega) (fun e=>absurd rfl e) (by omega) hk2 hO3 hG3;go_roundw
         case rel=>exact⟨i+1,gK,ps++[p],jQ,gX,by omega,hk2,by go_num,rfl,by rw[aW];rfl,by rw[aW,QO.o];rfl,hp⟩
         case measure=>simp[intOf];omega
       . go_wp2_with (at_builtin;refine gT rfl (.tmp 30) (.tmp 35) 63 rfl w.heap.size 31 i0 (.slice none 0 0) 1 24 underlying63 Hi.o kK.o kH.o kL.o rfl (by decide) rfl (HP.o.own.alloc _) rfl (jo.made _ _ 1 _ _) rfl (fun u hu=>by simp at hu;subst hu;rfl) (by omega) (by omega) (by have:=HP.o.below.size;simp;omega) ?_;intro jQ gX w3 hO3 hG3 _)
         obtain⟨p,hp⟩:=HP.o.push HB.o (k:=k) _ _ _ (by omega) (by omega) (fun _=>rfl) (by omega) hk2 hO3 hG3;go_roundw
         case rel=>exact⟨i+1,k,ps++[p],jQ,gX,by omega,hk2,by go_num,rfl,by rw[aW];rfl,by rw[aW,QO.o];rfl,hp⟩
         case measure=>simp[intOf];omega
  . obtain rfl:i=cs.length:=by omega
    have hcap:=HB.o.1;have k1:(fr:Int)<=l.length:=by omega
    cases bo with
    | none =>
      obtain⟨hl0,hc0⟩:=HB.o.rz;have hl1:l.length=0:=by rw[hl0];rfl
      have hcf:gK=fr:=by omega
      have hlf:l.length=fr:=by omega
      clear hl0 hc0 hl1;subst hcf;go_wp2_with (at_builtin;refine gT rfl (.tmp 38) (.tmp 42) 63 rfl w.heap.size 31 i0 (.slice none 0 0) 1 24 underlying63 Hi.o kK.o kH.o kL.o rfl (by decide) rfl (HP.o.own.alloc _) rfl (jo.made _ _ 1 _ _) rfl (fun u hu=>by simp at hu;subst hu;rfl) (by omega) (by omega) (by have:=HP.o.below.size;simp;omega) ?_;intro jQ gX w3 hO3 hG3 _)
      obtain⟨p,hp⟩:=HP.o.push HB.o (k:=l.length) _ _ _ (by omega) (by omega) (fun e=>absurd rfl e) (by omega) (aM _) hO3 hG3;go_ret;exact⟨ps++[p],jQ,gX,by rw[aW];rfl,(by rw[hlf] at hp;exact hp),by rw[aW,QO.o];rfl⟩
    | some a =>
      by_cases hcf:gK=fr
      . have hlf:l.length=fr:=by omega
        subst hcf;go_wp2_with (at_builtin;refine gT rfl (.tmp 38) (.tmp 42) 63 rfl w.heap.size 31 i0 (.slice none 0 0) 1 24 underlying63 Hi.o kK.o kH.o kL.o rfl (by decide) rfl (HP.o.own.alloc _) rfl (jo.made _ _ 1 _ _) rfl (fun u hu=>by simp at hu;subst hu;rfl) (by omega) (by omega) (by have:=HP.o.below.size;simp;omega) ?_;intro jQ gX w3 hO3 hG3 _)
        obtain⟨p,hp⟩:=HP.o.push HB.o (k:=l.length) _ _ _ (by omega) (by omega) (fun e=>absurd rfl e) (by omega) (aM _) hO3 hG3;go_ret;exact⟨ps++[p],jQ,gX,by rw[aW];rfl,(by rw[hlf] at hp;exact hp),by rw[aW,QO.o];rfl⟩
      . go_wp2_with (at_builtin;refine gT rfl (.tmp 38) (.tmp 42) 63 rfl w.heap.size 31 i0 (.slice none 0 0) 1 24 underlying63 Hi.o kK.o kH.o kL.o rfl (by decide) rfl (HP.o.own.alloc _) rfl (jo.made _ _ 1 _ _) rfl (fun u hu=>by simp at hu;subst hu;rfl) (by omega) (by omega) (by have:=HP.o.below.size;simp;omega) ?_;intro jQ gX w3 hO3 hG3 _)
        obtain⟨p,hp⟩:=HP.o.push HB.o (k:=l.length) _ _ _ (by omega) (by omega) (fun _=>rfl) (by omega) (aM _) hO3 hG3;go_ret;exact⟨ps++[p],jQ,gX,by rw[aW];rfl,hp,by rw[aW,QO.o];rfl⟩
end Go.Proofs.YtjmndjmhjleabaaGreatDoor