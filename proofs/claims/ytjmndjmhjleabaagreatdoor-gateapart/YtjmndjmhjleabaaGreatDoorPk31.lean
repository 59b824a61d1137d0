/- Small texts, one behind the other: FsC, FsD. -/
import Derived.Test.YtjmndjmhjleabaaGreatDoorPk26
import Derived.Deep.DeepCutAuto
import Derived.Test.YtjmndjmhjleabaaGreatDoorPk18
import Derived.Test.YtjmndjmhjleabaaGreatDoorPk5
import Derived.Test.YtjmndjmhjleabaaGreatDoorPk10
set_option maxHeartbeats 4000000
set_option maxRecDepth 100000
open Go.Proofs.Tryz
namespace Go.Proofs.YtjmndjmhjleabaaGreatDoor
open Go.RowKit
structure yx (w:World) (g cap:Nat) (x:List UInt8) (k:Nat) (wr:World):Prop where
 buf:Buf wr g g cap (Fm.jf k x)
 below:Below g w wr
theorem yx.store {w wr:World} {g cap k:Nat} {x:List UInt8} (h:yx w g cap x k wr) (hk:k<x.length) (hd:Fm.dirty x[k]=true):yx w g cap x (k+1) (wr.setCell ⟨g,k,none⟩ (.int .u8 95)):=by
 obtain ⟨h1,h2⟩:=h.buf.set k 95;have hw:Fm.uO x[k]=95:=by unfold Fm.uO;rw [hd];rfl
 refine ⟨by rw [Fm.II hk,hw];exact h1,h.below.trans (h2.below (fun i e=>by omega) (Nat.le_of_lt h.buf.lt))⟩
theorem yx.skip {w wr:World} {g cap k:Nat} {x:List UInt8} (h:yx w g cap x k wr) (hk:k<x.length) (hd:Fm.dirty x[k]=false):yx w g cap x (k+1) wr:=⟨by rw [Fm.IJ hk hd];exact h.buf,h.below⟩
theorem IK (s:ByteArray) (w:World) (hs:s.size≤1000000) :
 Calls prog 310 #[.string s] w fun e w'=>e=.returned (.string ⟨(Fm.safe s.data.toList).toArray⟩)∧Below w.heap.size w w':=by
 have hl:=Ch.aQ s;have H1:=H9 (Ej s 47 w (by unfold maxLen;omega));have H2:=H9 (Ej s 92 w (by unfold maxLen;omega));go_enter func310,ntmps310;go_upto_region 1 with fail
 go_cut [3] (fun v wd=>∃ p:Nat,v=.int .i64 ((p:Int) - 1)∧p≤s.size∧s.data.toList.drop p=Fm.tail s.data.toList∧wd=w)
 case first =>
  go_wp2_with fail
  refine H1.o.mono ?_;rintro e w1 ⟨r1,rfl,hr1,hw⟩;subst hw;have HR1:=H9 hr1;clear hr1 H1;go_wp2_with fail
  refine H2.o.mono ?_;rintro e w2 ⟨r2,rfl,hr2,hw⟩;subst hw;obtain ⟨q1,q2,q3⟩:=Pn HR1.o hr2;rw [hl] at q2;have HQ3:=H9 q3;clear hr2 H2 HR1 q3;by_cases hlt:r1<r2
  · have e:max r1 r2=r2:=by omega
    rw [e] at HQ3 q1 q2;go_wp2;go_meet;exact ⟨(r2+1).toNat,by rw [show (((r2+1).toNat:Nat):Int) - 1=r2 by omega],by omega,HQ3.o,rfl⟩
  · have e:max r1 r2=r1:=by omega
    rw [e] at HQ3 q1 q2;go_wp2;go_meet;exact ⟨(r1+1).toNat,by rw [show (((r1+1).toNat:Nat):Int) - 1=r1 by omega],by omega,HQ3.o,rfl⟩
 case rest =>
 clear H1 H2;obtain ⟨p,rfl,hps,q3,hw⟩:=hcut;subst hw;have akw:(p:Int)≤s.size:=by omega
 have hx:(s.extract p s.size).data.toList=Fm.tail s.data.toList:=by
  rw [←q3,Lib.extract_to_end]
 have hxs:(s.extract p s.size).size=(Fm.tail s.data.toList).length:=Ch.size_of_list hx;have htl:(Fm.tail s.data.toList).length≤s.size:=by rw [←q3,List.length_drop,hl];omega
 obtain ⟨cap,w3,kU,hB3,Zp⟩:=KC (P:=prog) wc (s.extract p s.size) 9 31 5 (by rw [hxs];unfold maxLen;omega) underlying9 underlying31 underlying5;rw [hx] at Zp;rw [hxs] at kU;have Zq:Hid (Fm.safe s.data.toList=Fm.named ((Fm.DL ((Fm.tail s.data.toList).map Fm.uO)).take 40)):=rfl;have abS:Hid (yx wc wc.heap.size cap (Fm.tail s.data.toList) 0 w3):=⟨by rw [Fm.IG];exact Zp,hB3⟩;clear Zp hB3 hx hxs q3;obtain ⟨sf,hsf⟩:∃ sf,Fm.safe s.data.toList=sf:=⟨_,rfl⟩;rw [hsf] at Zq;have HSF:=H9 hsf;clear hsf;generalize Fm.tail s.data.toList=x at *;obtain ⟨n,hn⟩:∃ n,x.length=n:=⟨_,rfl⟩;have HN:=H9 hn;rw [hn] at kU htl;clear hn;have hn6:n≤1000000:=by omega
 clear htl;go_wp2;clear kU;go_loopw [19] (fun vi wr=>∃ k:Nat,k≤n∧vi=.int .i64 k∧yx wc wc.heap.size cap x k wr) (fun vi _=>n - (intOf vi).toNat)
 case atStart=>exact ⟨0,Nat.zero_le _,rfl,abS.o⟩
 case round =>
  clear abS;obtain ⟨k,hk,rfl,hR⟩:=hrel;have HR:=H9 hR;clear hR;by_cases hlt:k<n
  · have hkx:k<x.length:=by rw [HN.o];exact hlt
    have hlt':(k:Int)<n:=by omega
    have hcap:n≤cap:=by have:=HR.o.buf.le;rw [Fm.nQ,HN.o] at this;exact this
    have ck:wr.cell? ⟨wc.heap.size,k,none⟩=some (.int .u8 (x[k].toNat:Int)):=by
     have h1:k<(Fm.jf k x).length:=by rw [Fm.nQ];exact hkx
     have:=HR.o.buf.holds k _ (gG _ k h1);rw [Fm.Pk hkx] at this;exact this
    have fk:wr.frozen? ⟨wc.heap.size,k,none⟩=false:=(HR.o.buf.there k (by omega)).2;have Cy:=H9 (HR.o.store hkx);have HS2:=H9 (HR.o.skip hkx);have HV:=H9 (fun W=>nA (x[k].toNat:Int) W);have T:∀ d:UInt8,((x[k].toNat:Int)==(d.toNat:Int))=decide (x[k]=d):=fun d=>by
     rw [Bool.eq_iff_iff,beq_iff_eq,decide_eq_true_eq];constructor
     · intro e;exact UInt8.toNat_inj.1 (by omega)
     · intro e;rw [e]
    have t9:((x[k].toNat:Int)==9)=decide (x[k]=9):=T 9;have t34:((x[k].toNat:Int)==34)=decide (x[k]=34):=T 34;have t58:((x[k].toNat:Int)==58)=decide (x[k]=58):=T 58;have HD:Hid (Fm.dirty x[k]=(decide (x[k]=9) || decide (x[k]=34) || decide (x[k]=58) || !Ch.visible x[k].toNat)):=by unfold Hid Fm.dirty;rfl
    clear T;generalize x[k]=c at *;by_cases h9:c=9
    · have hd:Fm.dirty c=true:=by rw [HD.o,decide_eq_true h9];rfl
      rw [decide_eq_true h9] at t9;have HS:=H9 (Cy.o hd);clear h9 hd Cy HS2 HD t34 t58;go_wp2;go_roundw
      case rel=>exact ⟨k+1,by omega,by go_num,HS.o⟩
      case measure=>simp [intOf];omega
    · rw [decide_eq_false h9] at t9;by_cases Cj:c=34
      · have hd:Fm.dirty c=true:=by rw [HD.o,decide_eq_true Cj];simp
        rw [decide_eq_true Cj] at t34;have HS:=H9 (Cy.o hd);clear h9 Cj hd Cy HS2 HD t58;go_wp2;go_roundw
        case rel=>exact ⟨k+1,by omega,by go_num,HS.o⟩
        case measure=>simp [intOf];omega
      · rw [decide_eq_false Cj] at t34;by_cases Zr:c=58
        · have hd:Fm.dirty c=true:=by rw [HD.o,decide_eq_true Zr];simp
          rw [decide_eq_true Zr] at t58;have HS:=H9 (Cy.o hd);clear h9 Cj Zr hd Cy HS2 HD;go_wp2;go_roundw
          case rel=>exact ⟨k+1,by omega,by go_num,HS.o⟩
          case measure=>simp [intOf];omega
        · rw [decide_eq_false Zr] at t58;rw [decide_eq_false h9,decide_eq_false Cj,decide_eq_false Zr] at HD;cases hv:Ch.visible (c.toNat:Int)
          · have hd:Fm.dirty c=true:=by rw [HD.o,hv];rfl
            rw [hv] at HV;have HS:=H9 (Cy.o hd);clear h9 Cj Zr hd Cy HS2 HD hv;go_wp2_with (go_at_call 184;refine (HV.o _).mono ?_;rintro e w4 ⟨rfl,hw⟩;subst hw)
            go_roundw
            case rel=>exact ⟨k+1,by omega,by go_num,HS.o⟩
            case measure=>simp [intOf];omega
          · have hd:Fm.dirty c=false:=by rw [HD.o,hv];rfl
            rw [hv] at HV;have HS:=H9 (HS2.o hd);clear h9 Cj Zr hd Cy HS2 HD hv;go_wp2_with (go_at_call 184;refine (HV.o _).mono ?_;rintro e w4 ⟨rfl,hw⟩;subst hw)
            go_roundw
            case rel=>exact ⟨k+1,by omega,by go_num,HS.o⟩
            case measure=>simp [intOf];omega
  · obtain rfl:k=n:=by omega
    have hIs:aT wr (some ⟨wc.heap.size,0,none⟩) cap (x.map Fm.uO):=by
     have:=HR.o.buf.q8;rw [←HN.o,Fm.K7] at this;exact this
    have HU:=H9 (K5 wr _ cap k _ hIs (by rw [List.length_map];exact HN.o));clear hIs;have abT:Hid (sf=Fm.named ((Fm.DL (x.map Fm.uO)).take 40)):=Zq.o;have Rb:=H9 HR.o.below;clear HR Zq;go_wp2_with fail
    refine HU.o.mono ?_;rintro e w4 ⟨aF,cap',n',rfl,hn',hI',hw⟩;subst hw;have abU:n'=(Fm.DL (x.map Fm.uO)).length:=hn';have abV:aT w4 aF cap' (Fm.DL (x.map Fm.uO)):=hI';have WW:=H9 abU;have HI':=H9 abV
    clear hn' hI' abU abV HU;generalize Fm.DL (x.map Fm.uO)=u at *;have SV:n'≤cap':=by rw [WW.o];exact HI'.o.1
    have hfin:∀ j,j=min n' 40→0<j→(convert 31 9 (.slice aF j cap')).run prog w4=.ok (.string ⟨sf.toArray⟩) w4:=fun j hj h0=>by
     have h1:=HI'.o.first j (by rw [←WW.o];omega);have h2:=h1.str (P:=prog) 31 9 5 underlying31 underlying5 underlying9;have h3:(u.take j).length=j:=by rw [List.length_take,←WW.o];omega
     rw [h3] at h2;have h4:sf=u.take j:=by
      rw [abT.o,hj];have:u.take 40=u.take (min n' 40):=by
       rcases Nat.le_total n' 40 with e | e
       · rw [Nat.min_eq_left e,List.take_of_length_le (by rw [←WW.o];exact e),List.take_of_length_le (by rw [←WW.o];omega)]
       · rw [Nat.min_eq_right e]
      rw [this];unfold Fm.named;rw [if_neg];intro e;rw [hj] at h3;rw [e] at h3;simp at h3;omega
     rw [h4];exact h2
    have HFin:=H9 hfin;clear hfin;by_cases h0:n'=0
    · subst h0;have HF:Hid (sf=[102,105,108,101]):=by
       unfold Hid;have hu:u=[]:=List.eq_nil_of_length_eq_zero WW.o.symm;rw [abT.o,hu];rfl
      clear HFin;go_wp2;go_ret;exact ⟨by rw [HSF.o,HF.o];rfl,Rb.o⟩
    · by_cases Vv:n'≤40
      · have hcv:=HFin.o n' (by omega) (by omega);have t0:((n':Int)==0)=false:=by rw [beq_eq_false_iff_ne];omega
        have h4a:(n':Int)≤40:=by omega
        clear HFin;obtain ⟨sfb,hsb⟩:∃ sfb:ByteArray,(⟨sf.toArray⟩:ByteArray)=sfb:=⟨_,rfl⟩;rw [hsb] at hcv;have WX:=H9 hsb;clear hsb;go_wp2;go_ret;exact ⟨by rw [HSF.o,WX.o];rfl,Rb.o⟩
      · have hcv:=HFin.o 40 (by omega) (by omega);have h4a:¬ (n':Int)≤40:=by omega
        have h4b:(40:Int)<n':=by omega
        have h4c:(40:Int)≤cap':=by omega
        clear HFin;obtain ⟨sfb,hsb⟩:∃ sfb:ByteArray,(⟨sf.toArray⟩:ByteArray)=sfb:=⟨_,rfl⟩;rw [hsb] at hcv;have WX:=H9 hsb;clear hsb;go_wp2;go_ret;exact ⟨by rw [HSF.o,WX.o];rfl,Rb.o⟩
theorem Zt (s:ByteArray) (k:Nat):(s.extract 0 k).data.toList=s.data.toList.take k:=by
 rw [Lib.extract_data];simp
theorem afz (s:ByteArray) (i:Nat) (h:i+2<s.size):(s.extract (i+1) (i+3)).data.toList=[s[i+1]'(by omega),s[i+2]'(by omega)]∧s.data.toList.drop i=s[i]'(by omega)::s[i+1]'(by omega)::s[i+2]'(by omega)::s.data.toList.drop (i+3):=by
 have hl:=Ch.aQ s;have d:∀ k (hk:k<s.size),s.data.toList.drop k=s[k]::s.data.toList.drop (k+1):=fun k hk=>by
  rw [List.drop_eq_getElem_cons (by rw [hl];exact hk),byte_at s k hk]
 refine ⟨?_,by rw [d i (by omega),d (i+1) (by omega),d (i+2) (by omega)]⟩;rw [Lib.extract_data,show i+3 - (i+1)=2 by omega,d (i+1) (by omega),d (i+2) (by omega)];rfl
def Fm.qN (o:Option (List UInt8)):Value:=.tuple #[.string ⟨(o.getD []).toArray⟩,.bool o.isSome]
structure IQ (w:World) (l:List UInt8) (i:Nat) (ao:Option Addr) (cap n:Nat) (wr:World):Prop where
 own:∃ bs,aR wr w.heap.size 5 ao cap bs∧n=bs.length∧n≤i∧Fm.dec (l.drop 7)=Fm.decs bs (l.drop i)
 below:Below w.heap.size w wr
theorem IQ.more {w wr w3:World} {l bs:List UInt8} {c:UInt8} {ao dG:Option Addr} {cap aG n i:Nat} {ob:Obj} (hB:Below w.heap.size w wr) (hO:aR wr w.heap.size 5 ao cap bs) (hO3:aR w3 w.heap.size 5 dG aG (bs++[c])) (hG3:(wr.alloc ob).grownBy w3 (ak ao)) (hn:n=bs.length) (hi:n+1≤i) (hd:Fm.dec (l.drop 7)=Fm.decs (bs++[c]) (l.drop i)):IQ w l i dG aG (n+1) w3:=by
 refine ⟨⟨bs++[c],hO3,by rw [List.length_append,hn];rfl,hi,hd⟩,(hB.alloc hB.size ob).grown hG3 (by rw [World.size_alloc];have:=hB.size;omega) (fun k e=>?_)⟩;cases ao with
 | none=>simp [ak] at e
 | some a=>simp [ak] at e;have:=(hO.block a rfl).1;omega
theorem Lb (s:ByteArray) (w:World) (hs:s.size≤1000000) :
 Calls prog 309 #[.string s] w fun e w'=>e=.returned (Fm.qN (Fm.coded s.data.toList))∧Below w.heap.size w w':=by
 have hl:=Ch.aQ s;by_cases h7:s.size<7
 · have HC:Hid (Fm.coded s.data.toList=none):=by unfold Hid Fm.coded;rw [if_pos (Or.inl (by rw [hl];exact h7))]
   have t7:decide ((s.size:Int)<7)=true:=decide_eq_true (by omega);go_enter func309,ntmps309;go_wp2;go_ret2;exact ⟨by rw [HC.o];rfl,Below.refl _ _⟩
 · have t7:decide ((s.size:Int)<7)=false:=decide_eq_false (by omega);have h7':(7:Int)≤s.size:=by omega
   have hx:(s.extract 0 7).data.toList=s.data.toList.take 7:=Zt s 7;have hxs:(s.extract 0 7).size=7:=by rw [Ch.size_of_list hx,List.length_take,hl];omega
   have HL:=H9 (jQ (s.extract 0 7) w (by rw [hxs];unfold maxLen;omega));rw [hx] at HL;by_cases hu:Ch.lower (s.data.toList.take 7)=Fm.abw
   · have HC:Hid (Fm.coded s.data.toList=Fm.dec (s.data.toList.drop 7)):=by unfold Hid Fm.coded;rw [if_neg (fun e=>by rcases e with e | e;rw [hl] at e;exact h7 e;exact e hu)]
     have tu:((⟨(Ch.lower (s.data.toList.take 7)).toArray⟩:ByteArray).toList==[117,116,102,45,56,39,39])=true:=by
      rw [beq_iff_eq,Lib.toList_data];exact hu
     generalize (⟨(Ch.lower (s.data.toList.take 7)).toArray⟩:ByteArray)=lo at *;clear hu hx hxs;go_enter func309,ntmps309;obtain ⟨i0,hi0,hz0,hz1,hz2⟩:=info_parts dD;have Hi:=H9 hi0;have eU:=H9 hz0;have dZ:=H9 hz1;have eX:=H9 hz2
     clear hi0 hz0 hz1 hz2;go_wp2_with (go_at_call 203;refine HL.o.mono ?_;rintro e w1 ⟨rfl,hb1⟩)
     have HB1:=H9 hb1;clear hb1 HL;go_loopw [4,5] (fun vb vi wr=>∃ (i n:Nat) (ao:Option Addr) (cap:Nat),7≤i∧i≤s.size∧vi=.int .i64 i∧vb=.slice ao n cap∧IQ w s.data.toList i ao cap n wr) (fun _ vi _=>s.size - (intOf vi).toNat)
     case atStart=>exact ⟨7,0,none,0,Nat.le_refl _,by omega,rfl,rfl,⟨⟨[],aR.nil _ _ _,rfl,by omega,(Fm.K9 _).symm⟩,HB1.o⟩⟩
     case round =>
      clear HB1;obtain ⟨i,n,ao,cap,hi7,his,rfl,rfl,hR⟩:=hrel;obtain ⟨⟨bs,hO,hn,hni,hd⟩,hB⟩:=hR;have HO:=H9 hO;have HN:=H9 hn;have HD:=H9 hd;have HB:=H9 hB
      clear hO hn hd hB;by_cases hlt:i<s.size
      · have hlt':(i:Int)<s.size:=by omega
        have hdr:s.data.toList.drop i=s[i]::s.data.toList.drop (i+1):=by rw [List.drop_eq_getElem_cons (by rw [hl];exact hlt),byte_at s i hlt]
        by_cases h37:s[i]=37
        · have t37:((s[i].toNat:Int) != 37)=false:=by rw [h37];rfl
          by_cases hsh:s.size - i<3
          · have tsh:decide ((s.size:Int) - i<3)=true:=decide_eq_true (by omega);have HR:Hid (Fm.coded s.data.toList=none):=by
             unfold Hid;rw [HC.o,HD.o,hdr,h37,Fm.K8 (by rw [List.length_drop,hl];omega)]
            clear HD hdr h37;go_wp2;go_ret2;exact ⟨by rw [HR.o];rfl,HB.o⟩
          · have tsh:decide ((s.size:Int) - i<3)=false:=decide_eq_false (by omega);obtain ⟨hx2,hd2⟩:=afz s i (by omega);have hz2:(s.extract (i+1) (i+3)).size=2:=Ch.size_of_list hx2;have Yk:=H9 (fun W=>uT (s.extract (i+1) (i+3)) W (by rw [hz2];unfold maxLen;omega));rw [hx2,Fm.La] at Yk;rw [h37] at hd2;rw [hd2] at HD;have i1:(i:Int)+1≤(i:Int)+3:=by omega
            have i3:(i:Int)+3≤s.size:=by omega
            have e1:((i:Int)+1).toNat=i+1:=by omega
            have e3:((i:Int)+3).toNat=i+3:=by omega
            generalize s[i+1]=a at *;generalize s[i+2]=b at *;clear hx2 hd2 hdr hz2;by_cases hab:0≤Ch.hex a.toNat∧0≤Ch.hex b.toNat
            · obtain ⟨hbt,hle⟩:=Fm.TK hab.1 hab.2;rw [Fm.TI hab.1 hab.2] at HD;rw [if_pos hab] at Yk;have hge:0≤16*Ch.hex a.toNat+Ch.hex b.toNat:=by omega
              generalize 16*Ch.hex (a.toNat:Int)+Ch.hex (b.toNat:Int)=v at *;generalize v.toNat.toUInt8=cb at *;subst hbt;have hwr:IntKind.u8.wrap (cb.toNat:Int)=cb.toNat:=by
               rw [IntKind.wrap_u8];have:=cb.toNat_lt;omega
              have hnc:n+1≤140737488355328:=by omega
              clear hab;go_wp2_with (first
               | (go_at_call 311;refine (Yk.o _).mono ?_;rintro e w2 ⟨rfl,hw⟩;subst hw)
               | (at_builtin;refine bH rfl (.tmp 50) (.tmp 53) 31 rfl w.heap.size 5 i0 underlying31 Hi.o eU.o dZ.o eX.o (l:=bs) (l2:=[cb]) rfl HN.o.symm (HO.o.alloc _) rfl rfl (aT.one _ _ _ _) (by omega) (by rw [World.size_alloc];have:=HB.o.size;omega) ?_;intro dG aG w3 hO3 hG3;have jH:=H9 hO3;have mZ:=H9 hG3;clear hO3 hG3))
              go_roundw
              case rel=>exact ⟨i+3,n+1,dG,aG,by omega,by omega,by go_num,rfl,IQ.more HB.o HO.o jH.o mZ.o HN.o (by omega) HD.o⟩
              case measure=>simp [intOf];omega
            · have HR:Hid (Fm.coded s.data.toList=none):=by
               unfold Hid;rw [HC.o,HD.o,Fm.TJ hab]
              rw [if_neg hab] at Yk;clear hab HD;go_wp2_with (go_at_call 311;refine (Yk.o _).mono ?_;rintro e w2 ⟨rfl,hw⟩;subst hw)
              go_ret2;exact ⟨by rw [HR.o];rfl,HB.o⟩
        · have t37:((s[i].toNat:Int) != 37)=true:=by rw [bne_iff_ne];intro e;exact h37 (UInt8.toNat_inj.1 (by show _=37;omega))
          rw [hdr,Fm.Po h37] at HD;go_wp2_with (at_builtin;refine bH rfl (.tmp 27) (.tmp 31) 31 rfl w.heap.size 5 i0 underlying31 Hi.o eU.o dZ.o eX.o (l:=bs) (l2:=[s[i]]) rfl HN.o.symm (HO.o.alloc _) rfl rfl (aT.one _ _ _ _) (by omega) (by rw [World.size_alloc];have:=HB.o.size;omega) ?_;intro dG aG w3 hO3 hG3;have jH:=H9 hO3;have mZ:=H9 hG3;clear hO3 hG3)
          go_roundw
          case rel=>exact ⟨i+1,n+1,dG,aG,by omega,by omega,by go_num,rfl,IQ.more HB.o HO.o jH.o mZ.o HN.o (by omega) HD.o⟩
          case measure=>simp [intOf];omega
      · obtain rfl:i=s.size:=by omega
        have hcv:=HO.o.q8.str (P:=prog) 31 9 5 underlying31 underlying5 underlying9;rw [←HN.o] at hcv;have HR:Hid (Fm.coded s.data.toList=some bs):=by
         unfold Hid;rw [HC.o,HD.o,List.drop_eq_nil_of_le (by rw [hl];exact Nat.le_refl _),Fm.TH]
        go_wp2;go_ret2;exact ⟨by rw [HR.o];rfl,HB.o⟩
   · have HC:Hid (Fm.coded s.data.toList=none):=by unfold Hid Fm.coded;rw [if_pos (Or.inr hu)]
     have tu:((⟨(Ch.lower (s.data.toList.take 7)).toArray⟩:ByteArray).toList==[117,116,102,45,56,39,39])=false:=by
      rw [beq_eq_false_iff_ne,Lib.toList_data];exact hu
     generalize (⟨(Ch.lower (s.data.toList.take 7)).toArray⟩:ByteArray)=lo at *;clear hu hx hxs;go_enter func309,ntmps309;go_wp2_with (go_at_call 203;refine HL.o.mono ?_;rintro e w1 ⟨rfl,hb1⟩)
     go_ret2;exact ⟨by rw [HC.o];rfl,hb1⟩
end Go.Proofs.YtjmndjmhjleabaaGreatDoor