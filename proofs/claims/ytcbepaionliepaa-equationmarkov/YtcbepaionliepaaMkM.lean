/- Plain facts: Markov's triples up to 10^18, gone through by the kernel. -/
import Derived.Test.YtcbepaionliepaaRows
set_option linter.unusedSimpArgs false
set_option linter.unusedVariables false
set_option maxRecDepth 100000
namespace Go.Proofs.Ytcbepaionliepaa
namespace MV

abbrev T3 := Nat × Nat × Nat
/-- All of them, by the greatest number. -/
def tab : List T3 := [
  (1, 1, 1),
  (1, 1, 2),
  (1, 2, 5),
  (1, 5, 13),
  (2, 5, 29),
  (1, 13, 34),
  (1, 34, 89),
  (2, 29, 169),
  (5, 13, 194),
  (1, 89, 233),
  (5, 29, 433),
  (1, 233, 610),
  (2, 169, 985),
  (13, 34, 1325),
  (1, 610, 1597),
  (5, 194, 2897),
  (1, 1597, 4181),
  (2, 985, 5741),
  (5, 433, 6466),
  (13, 194, 7561),
  (34, 89, 9077),
  (1, 4181, 10946),
  (29, 169, 14701),
  (1, 10946, 28657),
  (2, 5741, 33461),
  (29, 433, 37666),
  (5, 2897, 43261),
  (13, 1325, 51641),
  (89, 233, 62210),
  (1, 28657, 75025),
  (5, 6466, 96557),
  (34, 1325, 135137),
  (2, 33461, 195025),
  (1, 75025, 196418),
  (13, 7561, 294685),
  (233, 610, 426389),
  (169, 985, 499393),
  (1, 196418, 514229),
  (5, 43261, 646018),
  (34, 9077, 925765),
  (2, 195025, 1136689),
  (29, 14701, 1278818),
  (1, 514229, 1346269),
  (5, 96557, 1441889),
  (194, 2897, 1686049),
  (13, 51641, 2012674),
  (89, 9077, 2423525),
  (610, 1597, 2922509),
  (29, 37666, 3276509),
  (1, 1346269, 3524578),
  (194, 7561, 4400489),
  (2, 1136689, 6625109),
  (169, 14701, 7453378),
  (433, 6466, 8399329),
  (1, 3524578, 9227465),
  (5, 646018, 9647009),
  (13, 294685, 11485154),
  (34, 135137, 13782649),
  (89, 62210, 16609837),
  (985, 5741, 16964653),
  (1597, 4181, 20031170),
  (5, 1441889, 21531778),
  (1, 9227465, 24157817),
  (2, 6625109, 38613965),
  (233, 62210, 43484701),
  (433, 37666, 48928105),
  (1, 24157817, 63245986),
  (13, 2012674, 78442645),
  (34, 925765, 94418953),
  (29, 1278818, 111242465),
  (4181, 10946, 137295677),
  (5, 9647009, 144059117),
  (1, 63245986, 165580141),
  (1325, 51641, 205272962),
  (2, 38613965, 225058681),
  (169, 499393, 253191266),
  (29, 3276509, 285018617),
  (233, 426389, 298045301),
  (5, 21531778, 321534781),
  (2897, 43261, 375981346),
  (1, 165580141, 433494437),
  (13, 11485154, 447626321),
  (1325, 135137, 537169541),
  (5741, 33461, 576298801),
  (89, 2423525, 647072098),
  (610, 426389, 780291637),
  (10946, 28657, 941038565),
  (194, 1686049, 981277621),
  (1, 433494437, 1134903170),
  (2, 225058681, 1311738121),
  (34, 13782649, 1405695061),
  (985, 499393, 1475706146),
  (6466, 96557, 1873012681),
  (5, 144059117, 2151239746),
  (194, 4400489, 2561077037),
  (1, 1134903170, 2971215073),
  (13, 78442645, 3057250481),
  (169, 7453378, 3778847945),
  (89, 16609837, 4434764269),
  (5, 321534781, 4801489937),
  (610, 2922509, 5348189873),
  (28657, 75025, 6449974274),
  (7561, 294685, 6684339842),
  (2, 1311738121, 7645370045),
  (1, 2971215073, 7778742049),
  (34, 94418953, 9629807441),
  (29, 111242465, 9676815637),
  (433, 8399329, 10910721905),
  (1597, 2922509, 14001740009),
  (2897, 1686049, 14653451665),
  (13, 447626321, 17445941365),
  (33461, 195025, 19577194573),
  (1, 7778742049, 20365011074),
  (29, 285018617, 24793343170),
  (9077, 925765, 25209506681),
  (233, 43484701, 30395743789),
  (5, 2151239746, 32124537073),
  (75025, 196418, 44208781349),
  (2, 7645370045, 44560482149),
  (985, 16964653, 50130543874),
  (1, 20365011074, 53316291173),
  (14701, 1278818, 56399710225),
  (433, 48928105, 63557570729),
  (9077, 2423525, 65995009186),
  (5, 4801489937, 71700814274),
  (43261, 646018, 83842154089),
  (1597, 20031170, 95969331289),
  (7561, 4400489, 99816291793),
  (13, 3057250481, 119154326114),
  (169, 253191266, 128367472469),
  (1, 53316291173, 139583862445),
  (34, 1405695061, 143367113573),
  (6466, 8399329, 162930183509),
  (89, 647072098, 172765826641),
  (233, 298045301, 208333239010),
  (4181, 20031170, 251250963713),
  (2, 44560482149, 259717522849),
  (5741, 16964653, 292182217634),
  (196418, 514229, 303011495165),
  (51641, 2012674, 311809494089),
  (14701, 7453378, 328716329765),
  (1, 139583862445, 365435296162),
  (37666, 3276509, 370238963953),
  (96557, 1441889, 417673428514),
  (5, 32124537073, 479716816349),
  (194, 981277621, 571101889373),
  (195025, 1136689, 665048316673),
  (13, 17445941365, 679944086914),
  (1325, 205272962, 815959972309),
  (29, 9676815637, 841771717954),
  (1, 365435296162, 956722026041),
  (34, 9629807441, 982145940029),
  (5, 71700814274, 1070710724173),
  (89, 4434764269, 1184065449986),
  (610, 780291637, 1427933269321),
  (194, 2561077037, 1490542435045),
  (2, 259717522849, 1513744654945),
  (4181, 137295677, 1722099665665),
  (169, 3778847945, 1915868454737),
  (514229, 1346269, 2076871684802),
  (1325, 537169541, 2135248790338),
  (29, 24793343170, 2156735837173),
  (1, 956722026041, 2504730781961),
  (62210, 16609837, 3099893879221),
  (2897, 375981346, 3267653834825),
  (985, 1475706146, 4360711162037),
  (10946, 137295677, 4508515437145),
  (13, 119154326114, 4643961467965),
  (37666, 48928105, 5528778008357),
  (135137, 13782649, 5587637513705),
  (1, 2504730781961, 6557470319842),
  (5, 479716816349, 7163627708162),
  (62210, 43484701, 8115549747397),
  (2, 1513744654945, 8822750406821),
  (610, 5348189873, 9787184545081),
  (5741, 576298801, 9925594216162),
  (294685, 11485154, 10153507819457),
  (433, 10910721905, 14173019355266),
  (1346269, 3524578, 14235090298445),
  (34, 143367113573, 14622039889385),
  (5, 1070710724173, 15988960048321),
  (1, 6557470319842, 17167680177565),
  (646018, 9647009, 18696424380481),
  (233, 30395743789, 21246581423810),
  (1136689, 6625109, 22592065572301),
  (13, 679944086914, 26500373448281),
  (10946, 941038565, 30901824368813),
  (51641, 205272962, 31801503090601),
  (6466, 1873012681, 36332699889481),
  (1, 17167680177565, 44945570212853),
  (89, 172765826641, 46127828641049),
  (43261, 375981346, 48795987025021),
  (2, 8822750406821, 51422757785981),
  (33461, 576298801, 57850602535042),
  (169, 128367472469, 65082055350517),
  (1597, 14001740009, 67082333460610),
  (29, 841771717954, 73224462646361),
  (28657, 941038565, 80902026460669),
  (433, 63557570729, 82561235448866),
  (1441889, 21531778, 93139301545921),
  (3524578, 9227465, 97568760404309),
  (34, 982145940029, 100169256075517),
  (5, 7163627708162, 106974698806081),
  (1, 44945570212853, 117669030460994),
  (2897, 14653451665, 127353146734466),
  (233, 208333239010, 145624636022689),
  (985, 50130543874, 148135740183017),
  (7561, 6684339842, 151620880341401),
  (13, 4643961467965, 180995342924521),
  (29, 2156735837173, 187611224490881),
  (135137, 537169541, 217774440785026),
  (5, 15988960048321, 238763690000642),
  (925765, 94418953, 262229286072101),
  (2, 51422757785981, 299713796309065),
  (1, 117669030460994, 308061521170129),
  (89, 1184065449986, 316141040381993),
  (194, 571101889373, 332380318337465),
  (499393, 253191266, 379325837704445),
  (426389, 298045301, 381249713544034),
  (1278818, 111242465, 426776599819081),
  (1597, 95969331289, 459789046174429),
  (2012674, 78442645, 473638416248177),
  (96557, 1873012681, 542557456311485),
  (28657, 6449974274, 554510738235029),
  (9227465, 24157817, 668746232531714),
  (9077, 25209506681, 686480075504546),
  (6625109, 38613965, 767465181141553),
  (1, 308061521170129, 806515533049393),
  (194, 1490542435045, 867493136119153),
  (169, 1915868454737, 971341527703714),
  (426389, 780291637, 998123312425769),
  (13, 26500373448281, 1032834620396045),
  (75025, 6449974274, 1451727959691893),
  (34, 14622039889385, 1491304701603697),
  (5, 106974698806081, 1597456854383053),
  (2, 299713796309065, 1746860020068409),
  (9077, 65995009186, 1797110092720441),
  (33461, 19577194573, 1965217522626434),
  (1, 806515533049393, 2111485077978050),
  (499393, 1475706146, 2210871958107149),
  (7561, 99816291793, 2264132942340130),
  (14701, 56399710225, 2487396418774357),
  (610, 1427933269321, 2613117102565793),
  (3276509, 285018617, 2801598191304130),
  (4181, 251250963713, 3151440817820989),
  (6466, 162930183509, 3160519691308253),
  (1325, 815959972309, 3243440684655313),
  (5, 238763690000642, 3565466389961309),
  (9647009, 144059117, 4169218794693154),
  (24157817, 63245986, 4583654867317685),
  (2423525, 647072098, 4704586218916261),
  (1686049, 981277621, 4963446454828093),
  (5741, 292182217634, 5032254317345729),
  (1, 2111485077978050, 5527939700884757),
  (294685, 6684339842, 5909324059011749),
  (29, 73224462646361, 6369686478515453),
  (13, 180995342924521, 7054174412588354),
  (1325, 2135248790338, 8487613404424009),
  (75025, 44208781349, 9950291461929757),
  (2, 1746860020068409, 10181446324101389),
  (34, 100169256075517, 10216281973762705),
  (43261, 83842154089, 10881286283486669),
  (195025, 19577194573, 11454127114764514),
  (89, 46127828641049, 12315957481333442),
  (985, 4360711162037, 12885900008113189),
  (1, 5527939700884757, 14472334024676221),
  (14701, 328716329765, 14497376284172417),
  (233, 21246581423810, 14851330019499401),
  (11485154, 447626321, 15423171693415289),
  (29, 187611224490881, 16320019794869474),
  (610, 9787184545081, 17910542369308357),
  (433, 14173019355266, 18410741231768629),
  (21531778, 321534781, 20769646571311849),
  (4181, 1722099665665, 21600295969140418),
  (5, 1597456854383053, 23854878116939714),
  (196418, 44208781349, 26050201244948621),
  (38613965, 225058681, 26071224093240493),
  (2897, 3267653834825, 28399179102482729),
  (63245986, 165580141, 31416837838692077),
  (169, 65082055350517, 32996473695239650),
  (4400489, 2561077037, 33809973988413085),
  (1, 14472334024676221, 37889062373143906),
  (13, 1032834620396045, 40254049821997474),
  (37666, 370238963953, 41836262445484585),
  (2922509, 5348189873, 46890399112653461),
  (51641, 311809494089, 48306462250737473),
  (5, 3565466389961309, 53243232159418993),
  (13782649, 1405695061, 58122604880389733),
  (2, 10181446324101389, 59341817924539925),
  (925765, 25209506681, 70014236857598818),
  (1686049, 14653451665, 74119312578961858),
  (89, 316141040381993, 84408473716542145),
  (7453378, 3778847945, 84495546415824461),
  (1, 37889062373143906, 99194853094755497),
  (233, 145624636022689, 101791412246620601),
  (433, 82561235448866, 107246981290506205),
  (96557, 417673428514, 120987879709637005),
  (2922509, 14001740009, 122760633575886146),
  (10946, 4508515437145, 148050629787671833),
  (34, 1491304701603697, 152098457523687709),
  (646018, 83842154089, 162490622100759545),
  (5741, 9925594216162, 170948508608659325),
  (196418, 303011495165, 178550735571442681),
  (194, 332380318337465, 193444774170515257),
  (165580141, 433494437, 215334210003526850),
  (1278818, 56399710225, 216374893891527449),
  (16609837, 4434764269, 220982134924542370),
  (1, 99194853094755497, 259695496911122585),
  (8399329, 10910721905, 274928228722804802),
  (13, 7054174412588354, 274931806748021285),
  (1597, 67082333460610, 321391445608042501),
  (2, 59341817924539925, 345869461223138161),
  (5, 23854878116939714, 356225714899712657),
  (195025, 665048316673, 389103143876318786),
  (985, 148135740183017, 437741062110271361),
  (514229, 303011495165, 467451894441411937),
  (2423525, 65995009186, 479821663912492873),
  (169, 971341527703714, 492468238677328261),
  (194, 867493136119153, 504879514678912001),
  (29, 6369686478515453, 554089499168198050),
  (62210, 3099893879221, 578533194662405393),
  (37666, 5528778008357, 624740857339396181),
  (1, 259695496911122585, 679891637638612258),
  (6466, 36332699889481, 704781710583139757),
  (78442645, 3057250481, 719456442471486722),
  (5, 53243232159418993, 795083016001323586),
  (225058681, 1311738121, 885654153989035201),
  (144059117, 2151239746, 929717094792192841)]

def tz (t : T3) : Nat := t.2.2
/-- The number that is replaced, and the two others. -/
def pn (t : T3) : Nat → Nat × Nat × Nat
  | 0 => (t.1, t.2.1, t.2.2)
  | 1 => (t.2.1, t.2.2, t.1)
  | _ => (t.2.2, t.1, t.2.1)
def srt (a b c : Nat) : T3 :=
  if a ≤ b then (if b ≤ c then (a, b, c) else if a ≤ c then (a, c, b) else (c, a, b))
  else (if a ≤ c then (b, a, c) else if b ≤ c then (b, c, a) else (c, b, a))
/-- The number that comes in. -/
def nw3 (t : T3) (i : Nat) : Nat := 3 * (pn t i).2.1 * (pn t i).2.2 - (pn t i).1
def nbr (t : T3) : Nat → T3
  | 0 => srt (nw3 t 0) t.2.1 t.2.2
  | 1 => srt t.1 (nw3 t 1) t.2.2
  | i => srt t.1 t.2.1 (nw3 t i)
/-- Is the neighbour within most? -/
def okN (most : Nat) (t : T3) (i : Nat) : Bool := Nat.ble (3 * (pn t i).2.1 * (pn t i).2.2) (most + (pn t i).1)
def eqT (t u : T3) : Bool := Nat.beq t.1 u.1 && (Nat.beq t.2.1 u.2.1 && Nat.beq t.2.2 u.2.2)
theorem eqT_iff {t u : T3} : eqT t u = true ↔ t = u := by
  obtain ⟨a, b, c⟩ := t
  obtain ⟨d, e, f⟩ := u
  simp [eqT]
def inT (t : T3) : Bool := tab.any (eqT t)
theorem inT_iff {t : T3} : inT t = true ↔ t ∈ tab := by
  unfold inT
  rw [List.any_eq_true]
  constructor
  · rintro ⟨u, h, e⟩; rw [eqT_iff.1 e]; exact h
  · intro h; exact ⟨t, h, eqT_iff.2 rfl⟩
def goodT (t : T3) : Bool := Nat.ble 1 t.1 && (Nat.ble t.1 t.2.1 && (Nat.ble t.2.1 t.2.2 && (Nat.ble t.2.2 1000000000000000000 && Nat.beq (t.1 * t.1 + t.2.1 * t.2.1 + t.2.2 * t.2.2) (3 * t.1 * t.2.1 * t.2.2))))
def chk1 (t : T3) : Bool := goodT t && ((List.range 3).all fun i => Nat.blt (pn t i).1 (3 * (pn t i).2.1 * (pn t i).2.2) && (!okN 1000000000000000000 t i || inT (nbr t i)))
def par (t : T3) : T3 := srt t.1 t.2.1 (3 * t.1 * t.2.1 - t.2.2)
def chk2 (t : T3) : Bool := eqT t (1, 1, 1) || (inT (par t) && (Nat.blt (tz (par t)) (tz t) && (List.range 3).any fun i => eqT (nbr (par t) i) t && okN (tz t) (par t) i))
theorem chk_1 : tab.all chk1 = true := by decide +kernel
theorem chk_2 : tab.all chk2 = true := by decide +kernel
def rises : List T3 → Bool
  | [] => true
  | [_] => true
  | t :: u :: l => Nat.blt (tz t) (tz u) && rises (u :: l)
theorem chk_3 : rises tab = true := by decide +kernel
theorem tab_len : tab.length = 328 := by decide +kernel
theorem one_in : ((1, 1, 1) : T3) ∈ tab := List.mem_cons_self

structure Good (t : T3) : Prop where
  x1 : 1 ≤ t.1
  xy : t.1 ≤ t.2.1
  yz : t.2.1 ≤ t.2.2
  zm : t.2.2 ≤ 1000000000000000000
  eq : t.1 * t.1 + t.2.1 * t.2.1 + t.2.2 * t.2.2 = 3 * t.1 * t.2.1 * t.2.2
theorem good_of {t : T3} (h : t ∈ tab) : Good t := by
  have := List.all_eq_true.1 chk_1 t h
  simp only [chk1, goodT, Bool.and_eq_true, Nat.ble_eq] at this
  exact ⟨this.1.1, this.1.2.1, this.1.2.2.1, this.1.2.2.2.1, Nat.eq_of_beq_eq_true this.1.2.2.2.2⟩
theorem nw_pos {t : T3} (h : t ∈ tab) {i : Nat} (hi : i < 3) : (pn t i).1 < 3 * (pn t i).2.1 * (pn t i).2.2 := by
  have := List.all_eq_true.1 chk_1 t h
  simp only [chk1, Bool.and_eq_true] at this
  have := List.all_eq_true.1 this.2 i (List.mem_range.2 hi)
  rw [Bool.and_eq_true] at this
  have := this.1
  simp [Nat.blt] at this
  omega
theorem srt_z (a b c : Nat) : tz (srt a b c) = max a (max b c) := by
  unfold srt tz
  split <;> split <;> (try split) <;> simp only [] <;> omega
theorem okN_iff {most : Nat} {t : T3} {i : Nat} : okN most t i = true ↔ 3 * (pn t i).2.1 * (pn t i).2.2 ≤ most + (pn t i).1 := by
  unfold okN; rw [Nat.ble_eq]
/-- A neighbour within most is one of the table, and within most. -/
theorem nbr_in {most : Nat} {t : T3} {i : Nat} (hm : most ≤ 1000000000000000000) (h : t ∈ tab) (hz : tz t ≤ most) (hi : i < 3) (hok : okN most t i = true) : nbr t i ∈ tab ∧ tz (nbr t i) ≤ most := by
  have g := good_of h
  have h0 := List.all_eq_true.1 chk_1 t h
  simp only [chk1, Bool.and_eq_true] at h0
  have h1 := List.all_eq_true.1 h0.2 i (List.mem_range.2 hi)
  rw [Bool.and_eq_true, Bool.or_eq_true] at h1
  have h2 : okN 1000000000000000000 t i = true := by rw [okN_iff] at hok ⊢; omega
  have hin : inT (nbr t i) = true := by
    rcases h1.2 with h | h
    · rw [h2] at h; cases h
    · exact h
  refine ⟨inT_iff.1 hin, ?_⟩
  rw [okN_iff] at hok
  have e : nw3 t i ≤ most := by unfold nw3; omega
  have gx := g.xy
  have gy := g.yz
  unfold tz at hz
  match i, hi with
  | 0, _ => show tz (srt _ _ _) ≤ _; rw [srt_z]; omega
  | 1, _ => show tz (srt _ _ _) ≤ _; rw [srt_z]; omega
  | 2, _ => show tz (srt _ _ _) ≤ _; rw [srt_z]; omega
/-- What is closed holds all. -/
theorem all_in {most : Nat} {S : List T3} (h1 : (1, 1, 1) ∈ S) (hc : ∀ t ∈ S, ∀ i, i < 3 → okN most t i = true → nbr t i ∈ S) (hmm : 1 ≤ most) : ∀ n t, tz t = n → t ∈ tab → n ≤ most → t ∈ S := by
  intro n
  induction n using Nat.strongRecOn with
  | ind n ih =>
    intro t hn ht hm
    have h0 := List.all_eq_true.1 chk_2 t ht
    simp only [chk2, Bool.or_eq_true] at h0
    rcases h0 with h0 | h0
    · rw [eqT_iff.1 h0]; exact h1
    · rw [Bool.and_eq_true, Bool.and_eq_true, inT_iff, List.any_eq_true] at h0
      obtain ⟨a, b, i, hi, c⟩ := h0
      rw [Bool.and_eq_true, eqT_iff, okN_iff] at c
      have b' : tz (par t) < tz t := by simp [Nat.blt] at b; omega
      have := hc _ (ih (tz (par t)) (by omega) (par t) rfl a (by omega)) i (List.mem_range.1 hi) (by rw [okN_iff]; omega)
      rw [c.1] at this
      exact this
theorem rises_pw : ∀ l : List T3, rises l = true → l.Pairwise (fun a b => tz a < tz b)
  | [], _ => List.Pairwise.nil
  | [_], _ => by simp
  | t :: u :: l, h => by
    rw [rises, Bool.and_eq_true] at h
    have ih := rises_pw (u :: l) h.2
    have h1 : tz t < tz u := by have q := h.1; simp [Nat.blt] at q; omega
    refine List.pairwise_cons.2 ⟨fun x hx => ?_, ih⟩
    rcases List.mem_cons.1 hx with rfl | hx
    · exact h1
    · exact Nat.lt_trans h1 ((List.pairwise_cons.1 ih).1 x hx)
/-- The table up to most. -/
def um (most : Nat) : List T3 := tab.filter fun t => Nat.ble (tz t) most
theorem mem_um {most : Nat} {t : T3} : t ∈ um most ↔ t ∈ tab ∧ tz t ≤ most := by
  unfold um; rw [List.mem_filter, Nat.ble_eq]
theorem um_rises (most : Nat) : (um most).Pairwise (fun a b => tz a < tz b) := (rises_pw tab chk_3).filter _
theorem um_len (most : Nat) : (um most).length ≤ 328 := by rw [← tab_len]; exact List.length_filter_le ..
theorem rise_eq : ∀ {l m : List T3}, l.Pairwise (fun a b => tz a < tz b) → m.Pairwise (fun a b => tz a < tz b) → (∀ t, t ∈ l ↔ t ∈ m) → l = m
  | [], [], _, _, _ => rfl
  | [], b :: m, _, _, h => absurd ((h b).2 List.mem_cons_self) (by simp)
  | a :: l, [], _, _, h => absurd ((h a).1 List.mem_cons_self) (by simp)
  | a :: l, b :: m, h1, h2, h => by
    have p1 := List.pairwise_cons.1 h1
    have p2 := List.pairwise_cons.1 h2
    have e : a = b := by
      rcases List.mem_cons.1 ((h a).1 List.mem_cons_self) with e | e
      · exact e
      · rcases List.mem_cons.1 ((h b).2 List.mem_cons_self) with e' | e'
        · exact e'.symm
        · have := p2.1 a e; have := p1.1 b e'; omega
    subst e
    congr 1
    refine rise_eq p1.2 p2.2 (fun t => ?_)
    constructor
    · intro ht
      rcases List.mem_cons.1 ((h t).1 (List.mem_cons_of_mem _ ht)) with e | e
      · subst e; have := p1.1 t ht; omega
      · exact e
    · intro ht
      rcases List.mem_cons.1 ((h t).2 (List.mem_cons_of_mem _ ht)) with e | e
      · subst e; have := p2.1 t ht; omega
      · exact e
theorem nodup_len : ∀ (l m : List T3), l.Nodup → (∀ x ∈ l, x ∈ m) → l.length ≤ m.length
  | [], _, _, _ => Nat.zero_le _
  | a :: l, m, h, hs => by
    have h1 := List.nodup_cons.1 h
    have ha := hs a List.mem_cons_self
    have := nodup_len l (m.erase a) h1.2 (fun x hx => (List.mem_erase_of_ne (fun e : x = a => h1.1 (by rw [← e]; exact hx))).2 (hs x (List.mem_cons_of_mem _ hx)))
    rw [List.length_erase_of_mem ha] at this
    have := List.length_pos_of_mem ha
    simp only [List.length_cons]
    omega

/-- Nodes that have been visited. -/
structure Vs (most : Nat) (S : List T3) : Prop where
  nd : S.Nodup
  tb : ∀ t ∈ S, t ∈ tab ∧ tz t ≤ most
theorem Vs.len {most : Nat} {S : List T3} (h : Vs most S) : S.length ≤ 328 := by rw [← tab_len]; exact nodup_len S tab h.nd (fun t ht => (h.tb t ht).1)
/-- From S to S': what is new has its neighbours there. -/
structure Df (most : Nat) (S S' : List T3) : Prop where
  v : Vs most S'
  sub : ∀ t ∈ S, t ∈ S'
  len : S.length ≤ S'.length
  cl : ∀ t ∈ S', t ∈ S ∨ ∀ i, i < 3 → okN most t i = true → nbr t i ∈ S'
theorem Df.refl {most : Nat} {S : List T3} (h : Vs most S) : Df most S S := ⟨h, fun _ h => h, Nat.le_refl _, fun _ h => .inl h⟩
theorem Df.trans {most : Nat} {A B C : List T3} (h : Df most A B) (k : Df most B C) : Df most A C :=
  ⟨k.v, fun t ht => k.sub t (h.sub t ht), Nat.le_trans h.len k.len, fun t ht => by
    rcases k.cl t ht with e | e
    · rcases h.cl t e with e | e
      · exact .inl e
      · exact .inr (fun i hi ho => k.sub _ (e i hi ho))
    · exact .inr e⟩
theorem Vs.add {most : Nat} {S : List T3} {t : T3} (h : Vs most S) (ht : t ∉ S) (h1 : t ∈ tab) (h2 : tz t ≤ most) : Vs most (S ++ [t]) :=
  ⟨List.nodup_append.2 ⟨h.nd, by simp, fun a ha b hb e => by
      obtain rfl : b = t := by simpa using hb
      exact ht (e ▸ ha)⟩, fun u hu => by
    rcases List.mem_append.1 hu with e | e
    · exact h.tb u e
    · obtain rfl : u = t := by simpa using e
      exact ⟨h1, h2⟩⟩
/-- A node is visited: it is put in, then all its neighbours are. -/
theorem Df.visit {most : Nat} {S S' : List T3} {t : T3} (h : Df most (S ++ [t]) S') (hn : ∀ i, i < 3 → okN most t i = true → nbr t i ∈ S') : Df most S S' ∧ t ∈ S' :=
  ⟨⟨h.v, fun u hu => h.sub u (List.mem_append_left _ hu), by have := h.len; rw [List.length_append] at this; omega, fun u hu => by
    rcases h.cl u hu with e | e
    · rcases List.mem_append.1 e with e | e
      · exact .inl e
      · obtain rfl : u = t := by simpa using e
        exact .inr hn
    · exact .inr e⟩, h.sub t (by simp)⟩
theorem Df.fin {most : Nat} {S : List T3} (hm : 1 ≤ most) (h : Df most [] S) (h1 : (1, 1, 1) ∈ S) : ∀ t, t ∈ S ↔ t ∈ um most := fun t => by
  rw [mem_um]
  refine ⟨fun ht => h.v.tb t ht, fun ⟨a, b⟩ => all_in h1 (fun u hu i hi ho => ?_) hm (tz t) t rfl a b⟩
  rcases h.cl u hu with e | e
  · cases e
  · exact e i hi ho
theorem um_zero : um 0 = [] := by decide +kernel
theorem um_30 : um 30 = [(1, 1, 1), (1, 1, 2), (1, 2, 5), (1, 5, 13), (2, 5, 29)] := by decide +kernel

/-- The reference's trying: what has a given z, by y and x. -/
def isM (x y z : Nat) : Bool := Nat.beq (x * x + y * y + z * z) (3 * x * y * z)
def rowX (y z : Nat) : Nat → List T3
  | 0 => []
  | x + 1 => rowX y z x ++ (if isM (x + 1) y z = true then [(x + 1, y, z)] else [])
def rowY (z : Nat) : Nat → List T3
  | 0 => []
  | y + 1 => rowY z y ++ rowX (y + 1) z (y + 1)
def rowZ : Nat → List T3
  | 0 => []
  | z + 1 => rowZ z ++ rowY (z + 1) (z + 1)
def eqL : List T3 → List T3 → Bool
  | [], [] => true
  | a :: l, b :: m => eqT a b && eqL l m
  | _, _ => false
theorem eqL_iff : ∀ {l m : List T3}, eqL l m = true → l = m
  | [], [], _ => rfl
  | a :: l, b :: m, h => by
    rw [eqL, Bool.and_eq_true] at h
    rw [eqT_iff.1 h.1, eqL_iff h.2]
def chk4 (z : Nat) : Bool := eqL (um (z + 1)) (um z ++ rowY (z + 1) (z + 1))
theorem chk_4 : (List.range 100).all chk4 = true := by decide +kernel
theorem rowZ_um : ∀ z, z ≤ 100 → rowZ z = um z
  | 0, _ => um_zero.symm
  | z + 1, h => by
    rw [rowZ, rowZ_um z (by omega)]
    exact (eqL_iff (List.all_eq_true.1 chk_4 z (List.mem_range.2 (by omega)))).symm
theorem srt_perm (a b c : Nat) : [(srt a b c).1, (srt a b c).2.1, (srt a b c).2.2].Perm [a, b, c] ∧ (srt a b c).1 ≤ (srt a b c).2.1 ∧ (srt a b c).2.1 ≤ (srt a b c).2.2 := by
  unfold srt
  split <;> split <;> (try split) <;> simp only [] <;> refine ⟨?_, by omega, by omega⟩
  · exact List.Perm.refl _
  · exact (List.Perm.swap b c []).cons a
  · exact (List.Perm.swap a c [b]).trans ((List.Perm.swap b c []).cons a)
  · exact List.Perm.swap a b [c]
  · exact ((List.Perm.swap a c []).cons b).trans (List.Perm.swap a b [c])
  · exact ((List.Perm.swap b c [a])).trans (((List.Perm.swap a c []).cons b).trans (List.Perm.swap a b [c]))

end MV
end Go.Proofs.Ytcbepaionliepaa
