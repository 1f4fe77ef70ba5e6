package world_test

// wrongRules are rules of the chapter that a plain world may break on purpose: each by its name in plain_test.go and plainsee_test.go.
func wrongRules() []string {
	return []string{
		// What is an event.
		"kinds are not looked at", "14 is a kind", "N may be below 0", "Torn may be below 0", "Upto may be below 0",
		"a stray Server is passed over", "a stray Other is passed over", "a stray Client is passed over", "a stray Addr is passed over", "a stray N is passed over",
		"a stray Torn is passed over", "a stray Upto is passed over", "a stray Key is passed over", "a stray Op is passed over", "a stray Data is passed over",
		"ErrAddr comes first", "ErrArg for ErrAddr", "Other is looked at first", "a message is junk", "junk is looked at first", "junk is not looked at where it is down",
		// What is under way.
		"what is delivered stays", "names are of ids", "a name that is not under way is an address that is none", "all of a name are lost",
		"what is doubled has a name of its own", "what is doubled moves", "packets are sent from the last on", "counts are of all",
		"nothing is sent to one that is down", "addresses are ids", "a client that has fallen leaves it under way", "what a client sends at an answer is lost",
		"what a server answers is lost", "one that is down leaves it under way", "to one that is down is refused",
		// Clients.
		"an invocation is OK", "an invocation sends nothing", "a tick sends nothing", "a second EStop is refused", "EStop does nothing", "a stop loses what it has sent",
		// Servers.
		"a fall loses what it has sent", "a fall loses what goes to it", "who falls is up again", "EStart starts one that is up", "EStart of one that is up is refused",
		"a quota of one that is down is refused", "a quota of one that is down is lost", "the first quota stays", "a quota never grows", "a quota of 0 is none",
		"a quota counts from the next start on", "a quota is everybody's", "a quota goes with a fall", "a start has an empty disk", "a disk stays armed",
		"an arm outlasts a fall", "a tear outlasts a fall", "EFall of one that is down counts", "ETear of one that is down counts",
		"ETrim of one that is down is refused", "EMend of one that is down is refused", "ETrim of one that is down looks at its bucket", "EMend of one that is down looks at its key",
		"all is refused where it is down", "nothing of a torn write lies there", "a tear is one write later", "a trim is OK", "a trim at which it falls is OK",
		"a mend sends nothing", "a mend is OK", "junk is not handed on", "the first EFall stays", "EFall counts one more", "EFall counts from 1 on", "EFall is at once", "EFall is behind all records",
		// What there is to see.
		"a bucket is learned once", "an instance's number is learned once", "every HLearn stays", "the last HLearn stays", "no HLearn", "parts make no lines", "lines of a client stand together",
		"Under goes by names", "no image of a server that there is not", "no image of one that is down", "an image of one that is down is empty", "who is not there is up",
		"who has a disk that stands is up", "nothing is pending behind EStop", "one that is down tells what it held", "the first server tells what all hold",
		// Fair.
		"Fair of one that there is not is 0", "exchanges are looked at first", "Fair of one that is done is -1", "Fair of one that is done loses all", "Fair of one that has fallen does nothing",
		"Fair of no exchanges loses all", "Fair loses nothing", "Fair forgets the counts", "Fair has one exchange more", "Fair counts one less", "Fair tells how many there were",
		"Fair does not tick", "Fair delivers once an exchange", "Fair delivers till nothing is under way", "Fair delivers three times an exchange", "Fair delivers from the last on", "Fair leaves off at the return",
	}
}

// wrongWays are broken rules that only a way with many packets shows.
func wrongWays() []string {
	return []string{"63 are the most", "65 are the most"}
}
