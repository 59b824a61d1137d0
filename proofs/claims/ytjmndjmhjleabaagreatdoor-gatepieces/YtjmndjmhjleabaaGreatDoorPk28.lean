/- Small texts, one behind the other: FsC, FsD. -/
import Derived.Test.YtjmndjmhjleabaaGreatDoorPk24
import Derived.Deep.DeepCutAuto
import Derived.Test.YtjmndjmhjleabaaGreatDoorPk18
import Derived.Test.YtjmndjmhjleabaaGreatDoorPk5
import Derived.Test.YtjmndjmhjleabaaGreatDoorPk10
set_option maxHeartbeats 4000000
set_option maxRecDepth 100000
open Go.Proofs.Tryz
namespace Go.Proofs.YtjmndjmhjleabaaGreatDoor
open Go.RowKit
structure vJ (w:World)(g cap:Nat)(x:List UInt8)(k:Nat)(wr:World):Prop where
 buf:Buf wr g g cap (Fm.iy k x)
 below:Below g w wr
theorem vJ.store {w wr:World}{g cap k:Nat}{x:List UInt8}(h:vJ w g cap x k wr)(hk:k<x.length)(hd:Fm.dirty x[k]=true):vJ w g cap x (k+1) (wr.setCell ⟨g,k,none⟩ (.int .u8 95)):=by
 obtain⟨h1,h2⟩:=h.buf.set k 95;have hw:Fm.rD x[k]=95:=by unfold Fm.rD;rw[hd];rfl
 refine⟨by rw[Fm.EH hk,hw];exact h1,h.below.trans (h2.below (fun i e=>by omega) (Nat.le_of_lt h.buf.lt))⟩
theorem vJ.skip {w wr:World}{g cap k:Nat}{x:List UInt8}(h:vJ w g cap x k wr)(hk:k<x.length)(hd:Fm.dirty x[k]=false):vJ w g cap x (k+1) wr:=⟨by rw[Fm.EI hk hd];exact h.buf,h.below⟩
theorem EJ (s:ByteArray)(w:World)(hs:s.size<=1000000):
 Calls prog 310 #[.string s] w fun e w'=>e=.returned (.string ⟨(Fm.safe s.data.toList).toArray⟩)∧Below w.heap.size w w':=by
 have hl:=Ch.bC s;have H1:=H9 (Bb s 47 w (by unfold maxLen;omega));have H2:=H9 (Bb s 92 w (by unfold maxLen;omega));go_enter func310,ntmps310;go_upto_region 1 with fail
 go_cut [3] (fun v wd=>∃p:Nat,v=.int .i64 ((p:Int)-1)∧p<=s.size∧s.data.toList.drop p=Fm.tail s.data.toList∧wd=w)
 case first =>
  go_wp2_with fail
  refine H1.o.mono ?_;rintro e w1 ⟨r1,rfl,hr1,hw⟩;subst hw;have HR1:=H9 hr1;clear hr1 H1;go_wp2_with fail
  refine H2.o.mono ?_;rintro e w2 ⟨r2,rfl,hr2,hw⟩;subst hw;obtain⟨q1,q2,q3⟩:=Lj HR1.o hr2;rw[hl] at q2;have Y4:=H9 q3;clear hr2 H2 HR1 q3;by_cases hlt:r1<r2
  . have e:max r1 r2=r2:=by omega
    rw[e] at Y4 q1 q2;go_wp2;go_meet;exact⟨(r2+1).toNat,by rw[show(((r2+1).toNat:Nat):Int)-1=r2 by omega],by omega,Y4.o,rfl⟩
  . have e:max r1 r2=r1:=by omega
    rw[e] at Y4 q1 q2;go_wp2;go_meet;exact⟨(r1+1).toNat,by rw[show(((r1+1).toNat:Nat):Int)-1=r1 by omega],by omega,Y4.o,rfl⟩
 case rest =>
 clear H1 H2;obtain⟨p,rfl,hps,q3,hw⟩:=hcut;subst hw;have adk:(p:Int)<=s.size:=by omega
 have hx:(s.extract p s.size).data.toList=Fm.tail s.data.toList:=by
  rw[<-q3,Lib.extract_to_end]
 have hxs:(s.extract p s.size).size=(Fm.tail s.data.toList).length:=Ch.size_of_list hx;have htl:(Fm.tail s.data.toList).length<=s.size:=by rw[<-q3,List.length_drop,hl];omega
 obtain⟨cap,w3,oD,hB3,U5⟩:=Gr (P:=prog) wc (s.extract p s.size) 9 31 5 (by rw[hxs];unfold maxLen;omega) underlying9 underlying31 underlying5;rw[hx] at U5;rw[hxs] at oD;have U6:Hid (Fm.safe s.data.toList=Fm.named ((Fm.Au ((Fm.tail s.data.toList).map Fm.rD)).take 40)):=rfl;have Xx:Hid (vJ wc wc.heap.size cap (Fm.tail s.data.toList) 0 w3):=⟨by rw[Fm.EG];exact U5,hB3⟩;clear U5 hB3 hx hxs q3;obtain⟨sf,hsf⟩:∃sf,Fm.safe s.data.toList=sf:=⟨_,rfl⟩;rw[hsf] at U6;have ZV:=H9 hsf;clear hsf;generalize Fm.tail s.data.toList=x at *;obtain⟨n,hn⟩:∃n,x.length=n:=⟨_,rfl⟩;have HN:=H9 hn;rw[hn] at oD htl;clear hn;have hn6:n<=1000000:=by omega
 clear htl;go_wp2;clear oD;go_loopw [19] (fun vi wr=>∃k:Nat,k<=n∧vi=.int .i64 k∧vJ wc wc.heap.size cap x k wr) (fun vi _=>n-(intOf vi).toNat)
 case atStart=>exact⟨0,Nat.zero_le _,rfl,Xx.o⟩
 case round =>
  clear Xx;obtain⟨k,hk,rfl,hR⟩:=hrel;have HR:=H9 hR;clear hR;by_cases hlt:k<n
  . have hkx:k<x.length:=by rw[HN.o];exact hlt
    have hlt':(k:Int)<n:=by omega
    have hcap:n<=cap:=by have:=HR.o.buf.le;rw[Fm.lU,HN.o] at this;exact this
    have ck:wr.cell? ⟨wc.heap.size,k,none⟩=some (.int .u8 (x[k].toNat:Int)):=by
     have h1:k<(Fm.iy k x).length:=by rw[Fm.lU];exact hkx
     have:=HR.o.buf.holds k _ (fJ _ k h1);rw[Fm.Li hkx] at this;exact this
    have fk:wr.frozen? ⟨wc.heap.size,k,none⟩=false:=(HR.o.buf.there k (by omega)).2;have Bc:=H9 (HR.o.store hkx);have HS2:=H9 (HR.o.skip hkx);have HV:=H9 (fun W=>lD (x[k].toNat:Int) W);have T:∀d:UInt8,((x[k].toNat:Int)==(d.toNat:Int))=decide (x[k]=d):=fun d=>by
     rw[Bool.eq_iff_iff,beq_iff_eq,decide_eq_true_eq];constructor
     . intro e;exact UInt8.toNat_inj.1 (by omega)
     . intro e;rw[e]
    have t9:((x[k].toNat:Int)==9)=decide (x[k]=9):=T 9;have t34:((x[k].toNat:Int)==34)=decide (x[k]=34):=T 34;have t58:((x[k].toNat:Int)==58)=decide (x[k]=58):=T 58;have HD:Hid (Fm.dirty x[k]=(decide (x[k]=9)||decide (x[k]=34)||decide (x[k]=58)||!Ch.visible x[k].toNat)):=by unfold Hid Fm.dirty;rfl
    clear T;generalize x[k]=c at *;by_cases h9:c=9
    . have hd:Fm.dirty c=true:=by rw[HD.o,decide_eq_true h9];rfl
      rw[decide_eq_true h9] at t9;have HS:=H9 (Bc.o hd);clear h9 hd Bc HS2 HD t34 t58;go_wp2;go_roundw
      case rel=>exact⟨k+1,by omega,by go_num,HS.o⟩
      case measure=>simp[intOf];omega
    . rw[decide_eq_false h9] at t9;by_cases zH:c=34
      . have hd:Fm.dirty c=true:=by rw[HD.o,decide_eq_true zH];simp
        rw[decide_eq_true zH] at t34;have HS:=H9 (Bc.o hd);clear h9 zH hd Bc HS2 HD t58;go_wp2;go_roundw
        case rel=>exact⟨k+1,by omega,by go_num,HS.o⟩
        case measure=>simp[intOf];omega
      . rw[decide_eq_false zH] at t34;by_cases U7:c=58
        . have hd:Fm.dirty c=true:=by rw[HD.o,decide_eq_true U7];simp
          rw[decide_eq_true U7] at t58;have HS:=H9 (Bc.o hd);clear h9 zH U7 hd Bc HS2 HD;go_wp2;go_roundw
          case rel=>exact⟨k+1,by omega,by go_num,HS.o⟩
          case measure=>simp[intOf];omega
        . rw[decide_eq_false U7] at t58;rw[decide_eq_false h9,decide_eq_false zH,decide_eq_false U7] at HD;cases hv:Ch.visible (c.toNat:Int)
          . have hd:Fm.dirty c=true:=by rw[HD.o,hv];rfl
            rw[hv] at HV;have HS:=H9 (Bc.o hd);clear h9 zH U7 hd Bc HS2 HD hv;go_wp2_with (go_at_call 184;refine(HV.o _).mono ?_;rintro e w4 ⟨rfl,hw⟩;subst hw)
            go_roundw
            case rel=>exact⟨k+1,by omega,by go_num,HS.o⟩
            case measure=>simp[intOf];omega
          . have hd:Fm.dirty c=false:=by rw[HD.o,hv];rfl
            rw[hv] at HV;have HS:=H9 (HS2.o hd);clear h9 zH U7 hd Bc HS2 HD hv;go_wp2_with (go_at_call 184;refine(HV.o _).mono ?_;rintro e w4 ⟨rfl,hw⟩;subst hw)
            go_roundw
            case rel=>exact⟨k+1,by omega,by go_num,HS.o⟩
            case measure=>simp[intOf];omega
  . obtain rfl:k=n:=by omega
    have hIs:aU wr (some ⟨wc.heap.size,0,none⟩) cap (x.map Fm.rD):=by
     have:=HR.o.buf.qc;rw[<-HN.o,Fm.G7] at this;exact this
    have HU:=H9 (G5 wr _ cap k _ hIs (by rw[List.length_map];exact HN.o));clear hIs;have Xy:Hid (sf=Fm.named ((Fm.Au (x.map Fm.rD)).take 40)):=U6.o;have Nf:=H9 HR.o.below;clear HR U6;go_wp2_with fail
    refine HU.o.mono ?_;rintro e w4 ⟨aD,cap',n',rfl,hn',hI',hw⟩;subst hw;have Xz:n'=(Fm.Au (x.map Fm.rD)).length:=hn';have XA:aU w4 aD cap' (Fm.Au (x.map Fm.rD)):=hI';have RY:=H9 Xz;have HI':=H9 XA
    clear hn' hI' Xz XA HU;generalize Fm.Au (x.map Fm.rD)=u at *;have OA:n'<=cap':=by rw[RY.o];exact HI'.o.1
    have hfin:∀j,j=min n' 40->0<j->(convert 31 9 (.slice aD j cap')).run prog w4=.ok (.string ⟨sf.toArray⟩) w4:=fun j hj h0=>by
     have h1:=HI'.o.first j (by rw[<-RY.o];omega);have h2:=h1.str (P:=prog) 31 9 5 underlying31 underlying5 underlying9;have h3:(u.take j).length=j:=by rw[List.length_take,<-RY.o];omega
     rw[h3] at h2;have h4:sf=u.take j:=by
      rw[Xy.o,hj];have:u.take 40=u.take (min n' 40):=by
       rcases Nat.le_total n' 40 with e | e
       . rw[Nat.min_eq_left e,List.take_of_length_le (by rw[<-RY.o];exact e),List.take_of_length_le (by rw[<-RY.o];omega)]
       . rw[Nat.min_eq_right e]
      rw[this];unfold Fm.named;rw[if_neg];intro e;rw[hj] at h3;rw[e] at h3;simp at h3;omega
     rw[h4];exact h2
    have HFin:=H9 hfin;clear hfin;by_cases h0:n'=0
    . subst h0;have HF:Hid (sf=[102,105,108,101]):=by
       unfold Hid;have hu:u=[]:=List.eq_nil_of_length_eq_zero RY.o.symm;rw[Xy.o,hu];rfl
      clear HFin;go_wp2;go_ret;exact⟨by rw[ZV.o,HF.o];rfl,Nf.o⟩
    . by_cases UJ:n'<=40
      . have hcv:=HFin.o n' (by omega) (by omega);have t0:((n':Int)==0)=false:=by rw[beq_eq_false_iff_ne];omega
        have h4a:(n':Int)<=40:=by omega
        clear HFin;obtain⟨XB,hsb⟩:∃XB:ByteArray,(⟨sf.toArray⟩:ByteArray)=XB:=⟨_,rfl⟩;rw[hsb] at hcv;have RZ:=H9 hsb;clear hsb;go_wp2;go_ret;exact⟨by rw[ZV.o,RZ.o];rfl,Nf.o⟩
      . have hcv:=HFin.o 40 (by omega) (by omega);have h4a:¬(n':Int)<=40:=by omega
        have h4b:(40:Int)<n':=by omega
        have h4c:(40:Int)<=cap':=by omega
        clear HFin;obtain⟨XB,hsb⟩:∃XB:ByteArray,(⟨sf.toArray⟩:ByteArray)=XB:=⟨_,rfl⟩;rw[hsb] at hcv;have RZ:=H9 hsb;clear hsb;go_wp2;go_ret;exact⟨by rw[ZV.o,RZ.o];rfl,Nf.o⟩
theorem U8 (s:ByteArray)(k:Nat):(s.extract 0 k).data.toList=s.data.toList.take k:=by
 rw[Lib.extract_data];simp
theorem ZW (s:ByteArray)(i:Nat)(h:i+2<s.size):(s.extract (i+1) (i+3)).data.toList=[s[i+1]'(by omega),s[i+2]'(by omega)]∧s.data.toList.drop i=s[i]'(by omega)::s[i+1]'(by omega)::s[i+2]'(by omega)::s.data.toList.drop (i+3):=by
 have hl:=Ch.bC s;have d:∀k (hk:k<s.size),s.data.toList.drop k=s[k]::s.data.toList.drop (k+1):=fun k hk=>by
  rw[List.drop_eq_getElem_cons (by rw[hl];exact hk),byte_at s k hk]
 refine⟨?_,by rw[d i (by omega),d (i+1) (by omega),d (i+2) (by omega)]⟩;rw[Lib.extract_data,show i+3-(i+1)=2 by omega,d (i+1) (by omega),d (i+2) (by omega)];rfl
def Fm.oK (o:Option (List UInt8)):Value:=.tuple #[.string ⟨(o.getD []).toArray⟩,.bool o.isSome]
structure EL (w:World)(l:List UInt8)(i:Nat)(ao:Option Addr)(cap n:Nat)(wr:World):Prop where
 own:∃bs,aT wr w.heap.size 5 ao cap bs∧n=bs.length∧n<=i∧Fm.dec (l.drop 7)=Fm.decs bs (l.drop i)
 below:Below w.heap.size w wr
theorem EL.more {w wr w3:World}{l bs:List UInt8}{c:UInt8}{ao fu:Option Addr}{cap aI n i:Nat}{ob:Obj}(hB:Below w.heap.size w wr)(hO:aT wr w.heap.size 5 ao cap bs)(hO3:aT w3 w.heap.size 5 fu aI (bs++[c]))(hG3:(wr.alloc ob).grownBy w3 (au ao))(hn:n=bs.length)(hi:n+1<=i)(hd:Fm.dec (l.drop 7)=Fm.decs (bs++[c]) (l.drop i)):EL w l i fu aI (n+1) w3:=by
 refine⟨⟨bs++[c],hO3,by rw[List.length_append,hn];rfl,hi,hd⟩,(hB.alloc hB.size ob).grown hG3 (by rw[World.size_alloc];have:=hB.size;omega) (fun k e=>?_)⟩;cases ao with
 | none=>simp[au] at e
 | some a=>simp[au] at e;have:=(hO.block a rfl).1;omega
theorem Hf (s:ByteArray)(w:World)(hs:s.size<=1000000):
 Calls prog 309 #[.string s] w fun e w'=>e=.returned (Fm.oK (Fm.coded s.data.toList))∧Below w.heap.size w w':=by
 have hl:=Ch.bC s;by_cases h7:s.size<7
 . have HC:Hid (Fm.coded s.data.toList=none):=by unfold Hid Fm.coded;rw[if_pos (Or.inl (by rw[hl];exact h7))]
   have t7:decide ((s.size:Int)<7)=true:=decide_eq_true (by omega);go_enter func309,ntmps309;go_wp2;go_ret2;exact⟨by rw[HC.o];rfl,Below.refl _ _⟩
 . have t7:decide ((s.size:Int)<7)=false:=decide_eq_false (by omega);have YZ:(7:Int)<=s.size:=by omega
   have hx:(s.extract 0 7).data.toList=s.data.toList.take 7:=U8 s 7;have hxs:(s.extract 0 7).size=7:=by rw[Ch.size_of_list hx,List.length_take,hl];omega
   have HL:=H9 (jf (s.extract 0 7) w (by rw[hxs];unfold maxLen;omega));rw[hx] at HL;by_cases hu:Ch.lower (s.data.toList.take 7)=Fm.WY
   . have HC:Hid (Fm.coded s.data.toList=Fm.dec (s.data.toList.drop 7)):=by unfold Hid Fm.coded;rw[if_neg (fun e=>by rcases e with e | e;rw[hl] at e;exact h7 e;exact e hu)]
     have tu:((⟨(Ch.lower (s.data.toList.take 7)).toArray⟩:ByteArray).toList==[117,116,102,45,56,39,39])=true:=by
      rw[beq_iff_eq,Lib.toList_data];exact hu
     generalize (⟨(Ch.lower (s.data.toList.take 7)).toArray⟩:ByteArray)=lo at *;clear hu hx hxs;go_enter func309,ntmps309;obtain⟨i0,hi0,hz0,hz1,hz2⟩:=info_parts dQ;have Hi:=H9 hi0;have gQ:=H9 hz0;have gK:=H9 hz1;have gT:=H9 hz2
     clear hi0 hz0 hz1 hz2;go_wp2_with (go_at_call 203;refine HL.o.mono ?_;rintro e w1 ⟨rfl,hb1⟩)
     have HB1:=H9 hb1;clear hb1 HL;go_loopw [4,5] (fun vb vi wr=>∃(i n:Nat) (ao:Option Addr) (cap:Nat),7<=i∧i<=s.size∧vi=.int .i64 i∧vb=.slice ao n cap∧EL w s.data.toList i ao cap n wr) (fun _ vi _=>s.size-(intOf vi).toNat)
     case atStart=>exact⟨7,0,none,0,Nat.le_refl _,by omega,rfl,rfl,⟨⟨[],aT.nil _ _ _,rfl,by omega,(Fm.G9 _).symm⟩,HB1.o⟩⟩
     case round =>
      clear HB1;obtain⟨i,n,ao,cap,hi7,his,rfl,rfl,hR⟩:=hrel;obtain⟨⟨bs,hO,hn,hni,hd⟩,hB⟩:=hR;have HO:=H9 hO;have HN:=H9 hn;have HD:=H9 hd;have HB:=H9 hB
      clear hO hn hd hB;by_cases hlt:i<s.size
      . have hlt':(i:Int)<s.size:=by omega
        have hdr:s.data.toList.drop i=s[i]::s.data.toList.drop (i+1):=by rw[List.drop_eq_getElem_cons (by rw[hl];exact hlt),byte_at s i hlt]
        by_cases h37:s[i]=37
        . have t37:((s[i].toNat:Int) != 37)=false:=by rw[h37];rfl
          by_cases hsh:s.size-i<3
          . have tsh:decide ((s.size:Int)-i<3)=true:=decide_eq_true (by omega);have HR:Hid (Fm.coded s.data.toList=none):=by
             unfold Hid;rw[HC.o,HD.o,hdr,h37,Fm.G8 (by rw[List.length_drop,hl];omega)]
            clear HD hdr h37;go_wp2;go_ret2;exact⟨by rw[HR.o];rfl,HB.o⟩
          . have tsh:decide ((s.size:Int)-i<3)=false:=decide_eq_false (by omega);obtain⟨hx2,hd2⟩:=ZW s i (by omega);have hz2:(s.extract (i+1) (i+3)).size=2:=Ch.size_of_list hx2;have TJ:=H9 (fun W=>rP (s.extract (i+1) (i+3)) W (by rw[hz2];unfold maxLen;omega));rw[hx2,Fm.He] at TJ;rw[h37] at hd2;rw[hd2] at HD;have i1:(i:Int)+1<=(i:Int)+3:=by omega
            have i3:(i:Int)+3<=s.size:=by omega
            have e1:((i:Int)+1).toNat=i+1:=by omega
            have e3:((i:Int)+3).toNat=i+3:=by omega
            generalize s[i+1]=a at *;generalize s[i+2]=b at *;clear hx2 hd2 hdr hz2;by_cases hab:0<=Ch.hex a.toNat∧0<=Ch.hex b.toNat
            . obtain⟨hbt,hle⟩:=Fm.O8 hab.1 hab.2;rw[Fm.O6 hab.1 hab.2] at HD;rw[if_pos hab] at TJ;have hge:0<=16*Ch.hex a.toNat+Ch.hex b.toNat:=by omega
              generalize 16*Ch.hex (a.toNat:Int)+Ch.hex (b.toNat:Int)=v at *;generalize v.toNat.toUInt8=cb at *;subst hbt;have hwr:IntKind.u8.wrap (cb.toNat:Int)=cb.toNat:=by
               rw[IntKind.wrap_u8];have:=cb.toNat_lt;omega
              have hnc:n+1<=140737488355328:=by omega
              clear hab;go_wp2_with (first
               | (go_at_call 311;refine(TJ.o _).mono ?_;rintro e w2 ⟨rfl,hw⟩;subst hw)
               | (at_builtin;refine bW rfl (.tmp 50) (.tmp 53) 31 rfl w.heap.size 5 i0 underlying31 Hi.o gQ.o gK.o gT.o (l:=bs) (l2:=[cb]) rfl HN.o.symm (HO.o.alloc _) rfl rfl (aU.one _ _ _ _) (by omega) (by rw[World.size_alloc];have:=HB.o.size;omega) ?_;intro fu aI w3 hO3 hG3;have mF:=H9 hO3;have tZ:=H9 hG3;clear hO3 hG3))
              go_roundw
              case rel=>exact⟨i+3,n+1,fu,aI,by omega,by omega,by go_num,rfl,EL.more HB.o HO.o mF.o tZ.o HN.o (by omega) HD.o⟩
              case measure=>simp[intOf];omega
            . have HR:Hid (Fm.coded s.data.toList=none):=by
               unfold Hid;rw[HC.o,HD.o,Fm.O7 hab]
              rw[if_neg hab] at TJ;clear hab HD;go_wp2_with (go_at_call 311;refine(TJ.o _).mono ?_;rintro e w2 ⟨rfl,hw⟩;subst hw)
              go_ret2;exact⟨by rw[HR.o];rfl,HB.o⟩
        . have t37:((s[i].toNat:Int) != 37)=true:=by rw[bne_iff_ne];intro e;exact h37 (UInt8.toNat_inj.1 (by show _=37;omega))
          rw[hdr,Fm.Ll h37] at HD;go_wp2_with (at_builtin;refine bW rfl (.tmp 27) (.tmp 31) 31 rfl w.heap.size 5 i0 underlying31 Hi.o gQ.o gK.o gT.o (l:=bs) (l2:=[s[i]]) rfl HN.o.symm (HO.o.alloc _) rfl rfl (aU.one _ _ _ _) (by omega) (by rw[World.size_alloc];have:=HB.o.size;omega) ?_;intro fu aI w3 hO3 hG3;have mF:=H9 hO3;have tZ:=H9 hG3;clear hO3 hG3)
          go_roundw
          case rel=>exact⟨i+1,n+1,fu,aI,by omega,by omega,by go_num,rfl,EL.more HB.o HO.o mF.o tZ.o HN.o (by omega) HD.o⟩
          case measure=>simp[intOf];omega
      . obtain rfl:i=s.size:=by omega
        have hcv:=HO.o.qc.str (P:=prog) 31 9 5 underlying31 underlying5 underlying9;rw[<-HN.o] at hcv;have HR:Hid (Fm.coded s.data.toList=some bs):=by
         unfold Hid;rw[HC.o,HD.o,List.drop_eq_nil_of_le (by rw[hl];exact Nat.le_refl _),Fm.O5]
        go_wp2;go_ret2;exact⟨by rw[HR.o];rfl,HB.o⟩
   . have HC:Hid (Fm.coded s.data.toList=none):=by unfold Hid Fm.coded;rw[if_pos (Or.inr hu)]
     have tu:((⟨(Ch.lower (s.data.toList.take 7)).toArray⟩:ByteArray).toList==[117,116,102,45,56,39,39])=false:=by
      rw[beq_eq_false_iff_ne,Lib.toList_data];exact hu
     generalize (⟨(Ch.lower (s.data.toList.take 7)).toArray⟩:ByteArray)=lo at *;clear hu hx hxs;go_enter func309,ntmps309;go_wp2_with (go_at_call 203;refine HL.o.mono ?_;rintro e w1 ⟨rfl,hb1⟩)
     go_ret2;exact⟨by rw[HC.o];rfl,hb1⟩
end Go.Proofs.YtjmndjmhjleabaaGreatDoor